/-
  Layer 6, the reference's side: Check, ok.
-/
import Derived.Test.YtndghjfgjkjbdaaS06A
import Derived.Test.YtndghjfgjkjbdaaKitLater
import Derived.Test.YtndghjfgjkjbdaaS06X
namespace Go.Proofs.Ytndghjfgjkjbdaa.s06
set_option linter.unusedVariables false
set_option linter.unusedSimpArgs false
open Go.RowKit
open kit

theorem at_q (a : Option Addr) (cap n : Nat) (ss : List ByteArray) (s : ByteArray) (r : Int) (w : World) (hl : ss.length = n) (hn : ss.length ≤ 9223372036854775807) (hr : Hid (ReadsS w a ss)) (H : Hid (atI ss s = r)) :
    Calls Try.prog 44 #[.slice a n cap, .string s] w fun e w' => e = .returned (.int .i64 r) ∧ ∃ m, w' = w.drewN m :=
  (at_any a cap n ss s r w hl hn hr H).mono fun _ _ h => ⟨h.1, 0, h.2 ▸ rfl⟩
/-- what is wrong with name k -/
def badK (l : List ByteArray) (k : Nat) : Int :=
  if s03.checkR (l[k]?.getD ByteArray.empty).data.toList = 0 then (if ix (l.take k) (l[k]?.getD ByteArray.empty) < k then 8 else 0) else s03.checkR (l[k]?.getD ByteArray.empty).data.toList
def chkG (l : List ByteArray) : Nat → Nat → Int × Int
  | 0, _ => (0, 0)
  | f + 1, k => if badK l k = 0 then chkG l f (k + 1) else (badK l k, (k : Int))
/-- what Check answers -/
def chkT (l : List ByteArray) : Int × Int := if 32 < l.length then (6, 0) else chkG l l.length 0
/-- the error of a table -/
def okT (l : List ByteArray) : Int := (chkT l).1
theorem ret_ii {a b c d : Int} (h : (a, b) = (c, d)) : Ending.returned (.tuple #[.int .i64 a, .int .i64 b]) = .returned (.tuple #[.int .i64 c, .int .i64 d]) := by cases h; rfl
set_option maxRecDepth 100000 in
set_option maxHeartbeats 2000000 in
theorem checkt_any (a : Option Addr) (cap : Nat) (l : List ByteArray) (er p : Int) (w : World) (hcap : l.length ≤ cap) (hn : l.length ≤ 9223372036854775807) (hz : Hid (∀ x ∈ l, x.size ≤ 9223372036854775807)) (hr : Hid (ReadsS w a l)) (H : Hid (chkT l = (er, p))) :
    Calls Try.prog 13 #[.agg #[.slice a l.length cap]] w fun e w' => e = .returned (.tuple #[.int .i64 er, .int .i64 p]) ∧ Below w.heap.size w w' := by
  by_cases hb : 32 < l.length
  · have HX : Hid (((6 : Int), (0 : Int)) = (er, p)) := Lib.hid (by have := H.out; unfold chkT at this; rw [if_pos hb] at this; exact this)
    go_enter Try.func13, Try.ntmps13
    go_wp2
    go_ret2
    exact ⟨ret_ii HX.out, (Below.refl _ _).alloc (Nat.le_refl _) _⟩
  · have HG : Hid (chkG l l.length 0 = (er, p)) := Lib.hid (by have := H.out; unfold chkT at this; rw [if_neg hb] at this; exact this)
    go_enter Try.func13, Try.ntmps13
    go_wp2
    go_loopw [4] (fun i wr => ∃ k : Nat, k ≤ l.length ∧ i = .int .i64 k ∧ Hid (Box wr 24 w.heap.size #[.slice a l.length cap]) ∧ Hid (Below w.heap.size w wr) ∧ Hid (chkG l (l.length - k) k = (er, p))) (fun i _ => l.length - (intOf i).toNat)
    case atStart => exact ⟨0, by omega, rfl, Lib.hid (Box.new _ _ _), Lib.hid ((Below.refl _ _).alloc (Nat.le_refl _) _), Lib.hid (by simpa using HG.out)⟩
    case round =>
      obtain ⟨k, hk, rfl, X, B⟩ := hrel
      obtain ⟨B, HK⟩ := B
      have hcell := X.out.cell 0
      by_cases hkl : k < l.length
      · have hkc : k ≤ cap := by omega
        have HR := Lib.hid (hr.out.below B.out)
        obtain ⟨b, off, rfl, hb2, hc⟩ := HR.out k hkl
        have hx := hz.out _ (mem_getS l k hkl)
        have HS : Hid ((if badK l k = 0 then chkG l (l.length - (k + 1)) (k + 1) else (badK l k, (k : Int))) = (er, p)) := Lib.hid (by
          have := HK.out
          rw [show l.length - k = (l.length - (k + 1)) + 1 by omega, chkG] at this
          exact this)
        have HB : Hid (badK l k = if s03.checkR (l[k]?.getD ByteArray.empty).data.toList = 0 then (if ix (l.take k) (l[k]?.getD ByteArray.empty) < k then 8 else 0) else s03.checkR (l[k]?.getD ByteArray.empty).data.toList) := Lib.hid rfl
        have hlk : (l.take k).length = k := by rw [List.length_take]; omega
        have HT := Lib.hid (Reads.take HR.out k)
        obtain ⟨c, hcc⟩ : ∃ c, s03.checkR (l[k]?.getD ByteArray.empty).data.toList = c := ⟨_, rfl⟩
        obtain ⟨r, hat⟩ : ∃ r, atI (l.take k) (l[k]?.getD ByteArray.empty) = r := ⟨_, rfl⟩
        have HC := Lib.hid hcc
        have HAT := Lib.hid hat
        clear hcc hat
        generalize hy : l[k]?.getD ByteArray.empty = y at hc hx HC HAT HB
        clear hy
        by_cases h0 : c = 0
        · subst h0
          have hix : 0 ≤ r ↔ ix (l.take k) y < k := by
            rw [← HAT.out]
            unfold atI
            rw [hlk]
            split <;> omega
          by_cases h1 : 0 ≤ r
          · have HX : Hid (((8 : Int), (k : Int)) = (er, p)) := Lib.hid (by
              have := HS.out
              rw [HB.out, HC.out, if_pos rfl, if_pos (hix.mp h1), if_neg (by omega)] at this
              exact this)
            clear hix
            go_wp2_with (go_at_call 43; refine (s03.checkr_any y _ hx).mono ?_; rintro e w1 ⟨rfl, rfl⟩; rw [HC.out])
            go_quiet ((go_at_call 44; exact Calls.quiet_of (at_q _ cap k (l.take k) y r _ hlk (by omega) (Lib.hid (HT.out.drewN _)) HAT)))
            go_wp2
            go_ret2
            exact ⟨ret_ii HX.out, below_drewN B.out _⟩
          · have HX : Hid (chkG l (l.length - (k + 1)) (k + 1) = (er, p)) := Lib.hid (by
              have := HS.out
              rw [HB.out, HC.out, if_pos rfl, if_neg (fun h => h1 (hix.mpr h)), if_pos rfl] at this
              exact this)
            clear hix
            go_wp2_with (go_at_call 43; refine (s03.checkr_any y _ hx).mono ?_; rintro e w1 ⟨rfl, rfl⟩; rw [HC.out])
            go_quiet ((go_at_call 44; exact Calls.quiet_of (at_q _ cap k (l.take k) y r _ hlk (by omega) (Lib.hid (HT.out.drewN _)) HAT)))
            go_wp2
            go_roundw
            case rel => exact ⟨k + 1, by omega, by go_num, Lib.hid (X.out.below (below_drewN (Below.refl _ _) _)), Lib.hid (below_drewN B.out _), HX⟩
            case measure => simp [intOf]; omega
        · have HX : Hid ((c, (k : Int)) = (er, p)) := Lib.hid (by
            have := HS.out
            rw [HB.out, HC.out, if_neg h0, if_neg h0] at this
            exact this)
          go_wp2_with (go_at_call 43; refine (s03.checkr_any y _ hx).mono ?_; rintro e w1 ⟨rfl, rfl⟩; rw [HC.out])
          go_ret2
          exact ⟨ret_ii HX.out, B.out⟩
      · have hk2 : k = l.length := by omega
        have HX : Hid (((0 : Int), (0 : Int)) = (er, p)) := Lib.hid (by have := HK.out; rw [hk2, Nat.sub_self] at this; exact this)
        clear hk2
        go_wp2
        go_ret2
        exact ⟨ret_ii HX.out, B.out⟩
end Go.Proofs.Ytndghjfgjkjbdaa.s06
