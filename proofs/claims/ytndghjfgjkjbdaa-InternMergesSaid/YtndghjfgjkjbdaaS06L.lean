/-
  Layer 6, the program's side: made.
-/
import Derived.Test.YtndghjfgjkjbdaaS06K
namespace Go.Proofs.Ytndghjfgjkjbdaa.s06
set_option linter.unusedVariables false
set_option linter.unusedSimpArgs false
open Go.RowKit Go.WideMaps Go.Maps
open kit

set_option maxRecDepth 100000 in
set_option maxHeartbeats 2000000 in
theorem madep_any (a : Option Addr) (cap : Nat) (l : List ByteArray) (er p : Int) (w : World) (hn : l.length ≤ 9223372036854775807) (hz : Hid (∀ x ∈ l, x.size ≤ 9223372036854775807)) (hr : Hid (ReadsS w a l)) (H : Hid (chkT l = (er, p))) :
    Calls Try.prog 42 #[.slice a l.length cap] w (MadeP l er p w) := by
  by_cases hb : 32 < l.length
  · have HX : Hid (((6 : Int), (0 : Int)) = (er, p)) := Lib.hid (by have := H.out; unfold chkT at this; rw [if_pos hb] at this; exact this)
    go_enter Try.func42, Try.ntmps42
    go_wp2_with (go_at_call 68; refine (empty_any _).mono ?_; rintro e w1 ⟨rfl, hW1, hsz, hB⟩; have W1 := Lib.hid hW1; have B1 := Lib.hid hB; have S1 := Lib.hid hsz; clear hW1 hB hsz; have c2 := W1.out.box.cell 2; have f2 := W1.out.box.free 2; have lx := W1.out.box.lt)
    go_ret2
    have W2 := W1.out.err 6
    have hs1 := S1.out
    have e1 : er = 6 := (congrArg Prod.fst HX.out).symm
    have e2 : p = 0 := (congrArg Prod.snd HX.out).symm
    subst e1 e2
    exact ⟨_, _, rfl, W2, fun h => absurd h (by decide), by simp, by simp; omega, B1.out.setCell (p := ⟨w.heap.size + 1, 2, none⟩) (by simp) _⟩
  · have HG : Hid (chkG l l.length 0 = (er, p)) := Lib.hid (by have := H.out; unfold chkT at this; rw [if_neg hb] at this; exact this)
    have h32 : l.length ≤ 32 := by omega
    go_enter Try.func42, Try.ntmps42
    go_wp2_with (go_at_call 68; refine (empty_any _).mono ?_; rintro e w1 ⟨rfl, hW1, hsz, hB⟩; have W1 := Lib.hid hW1; have B1 := Lib.hid hB; have S1 := Lib.hid (Nat.le_of_eq hsz.symm); clear hW1 hB hsz)
    go_loopw [16, 2] (fun i q2 wr => ∃ (k : Nat) (v : Value), k ≤ l.length ∧ i = .int .i64 k ∧ q2 = .pointer (some ⟨w.heap.size + 1, 0, none⟩) ∧ Hid (Wk wr (w.heap.size + 1) w.heap.size (w.heap.size + 2) v (l.take k) 0) ∧ Hid (KT (w.heap.size + 2) (w.heap.size + 1) w.heap.size w1 wr) ∧ Hid (chkG l (l.length - k) k = (er, p))) (fun i _ _ => l.length - (intOf i).toNat)
    case atStart => exact ⟨0, _, by omega, rfl, rfl, W1, Lib.hid (KT.refl _ _ _ _), Lib.hid (by simpa using HG.out)⟩
    case round =>
      obtain ⟨k, v, hk, rfl, rfl, WK, KK, HK⟩ := hrel
      have hsz : w.heap.size + 2 ≤ wr.heap.size := Nat.le_trans S1.out KK.out.size
      have BB := Lib.hid (B1.out.trans (KK.out.below (B := w.heap.size) (by omega) (by omega) (by omega) (by have := B1.out.size; omega)))
      by_cases hkl : k < l.length
      · have HR := Lib.hid (hr.out.below BB.out)
        obtain ⟨b1, off, rfl, hb2, hc⟩ := HR.out k hkl
        have hx := hz.out _ (mem_getS l k hkl)
        have HS : Hid ((if badK l k = 0 then chkG l (l.length - (k + 1)) (k + 1) else (badK l k, (k : Int))) = (er, p)) := Lib.hid (by
          have := HK.out
          rw [show l.length - k = (l.length - (k + 1)) + 1 by omega, chkG] at this
          exact this)
        obtain ⟨l', n, hP, hl', hle32⟩ := made_step l k hkl h32
        have hlk : (l.take k).length ≤ 1000 := by rw [List.length_take]; omega
        have hP' := Lib.hid hP
        obtain ⟨q, hq⟩ : ∃ q, badK l k = q := ⟨_, rfl⟩
        rw [hq] at HS hl' hP'
        have HL := Lib.hid hl'
        generalize l[k]?.getD ByteArray.empty = x at hc hx hP'
        clear hP hl' hq
        by_cases h0 : q = 0
        · subst h0
          have HX : Hid (chkG l (l.length - (k + 1)) (k + 1) = (er, p)) := Lib.hid (by have := HS.out; rw [if_pos rfl] at this; exact this)
          have hle := HL.out rfl
          subst hle
          clear HS HL
          go_wp2_with (go_at_call 53; (with_reducible refine (addp_any (w.heap.size + 1) w.heap.size (w.heap.size + 2) v (l.take k) 0 x _ n 0 _ hx WK hP' hlk hsz).mono ?_); rintro e w2 ⟨v2, rfl, hW2, hK2⟩; have W2 := Lib.hid hW2; have K2 := Lib.hid (KK.out.trans hK2); have hs2 := hK2.size; clear hW2 hK2; have c2 := W2.out.box.cell 2; have f2 := W2.out.box.free 2; have lx := W2.out.box.lt; have W3 := Lib.hid (W2.out.err 0); have K3 := Lib.hid (K2.out.set 2 (.int .i64 0)); have d2 := W3.out.box.cell 2)
          go_roundw
          case rel => exact ⟨k + 1, v2, by omega, by go_num, rfl, W3, K3, HX⟩
          case measure => simp [intOf]; omega
        · have HX : Hid ((q, (k : Int)) = (er, p)) := Lib.hid (by have := HS.out; rw [if_neg h0] at this; exact this)
          clear HS HL
          go_wp2_with (go_at_call 53; (with_reducible refine (addp_any (w.heap.size + 1) w.heap.size (w.heap.size + 2) v (l.take k) 0 x _ n q _ hx WK hP' hlk hsz).mono ?_); rintro e w2 ⟨v2, rfl, hW2, hK2⟩; have W2 := Lib.hid hW2; have K2 := Lib.hid (KK.out.trans hK2); have hs2 := hK2.size; clear hW2 hK2; have c2 := W2.out.box.cell 2; have f2 := W2.out.box.free 2; have lx := W2.out.box.lt; have W3 := Lib.hid (W2.out.err q); have K3 := Lib.hid (K2.out.set 2 (.int .i64 q)); have d2 := W3.out.box.cell 2)
          go_ret2
          have e1 : er = q := (congrArg Prod.fst HX.out).symm
          have e2 : p = (k : Int) := (congrArg Prod.snd HX.out).symm
          subst e1 e2
          exact ⟨_, _, rfl, W3.out, fun h => absurd h h0, hle32, Nat.le_trans hsz (by simpa using hs2), B1.out.trans (K3.out.below (B := w.heap.size) (by omega) (by omega) (by omega) (by have := B1.out.size; omega))⟩
      · have hk2 : k = l.length := by omega
        have HX : Hid (((0 : Int), (0 : Int)) = (er, p)) := Lib.hid (by have := HK.out; rw [hk2, Nat.sub_self] at this; exact this)
        rw [hk2, List.take_length] at WK
        clear hk2
        go_wp2
        go_ret2
        have e1 : er = 0 := (congrArg Prod.fst HX.out).symm
        have e2 : p = 0 := (congrArg Prod.snd HX.out).symm
        subst e1 e2
        exact ⟨_, _, rfl, WK.out, fun _ => rfl, h32, hsz, BB.out⟩
/-- the same, the blocks by names -/
def MadeQ (names : List ByteArray) (er p : Int) (w : World) (e : Ending) (w' : World) : Prop :=
  ∃ b bm base v l', e = .returned (.tuple #[.pointer (some ⟨b, 0, none⟩), .int .i64 p]) ∧ Wk w' b bm base v l' er ∧ (er = 0 → l' = names) ∧ l'.length ≤ 32 ∧ w.heap.size ≤ b ∧ w.heap.size ≤ bm ∧ w.heap.size ≤ base ∧ base ≤ w'.heap.size ∧ Below w.heap.size w w'
theorem madeq_any (a : Option Addr) (cap : Nat) (l : List ByteArray) (er p : Int) (w : World) (hn : l.length ≤ 9223372036854775807) (hz : Hid (∀ x ∈ l, x.size ≤ 9223372036854775807)) (hr : Hid (ReadsS w a l)) (H : Hid (chkT l = (er, p))) :
    Calls Try.prog 42 #[.slice a l.length cap] w (MadeQ l er p w) :=
  (madep_any a cap l er p w hn hz hr H).mono fun e w' ⟨v, l', h1, h2, h3, h4, h5, h6⟩ => ⟨_, _, _, v, l', h1, h2, h3, h4, by omega, by omega, by omega, h5, h6⟩
end Go.Proofs.Ytndghjfgjkjbdaa.s06
