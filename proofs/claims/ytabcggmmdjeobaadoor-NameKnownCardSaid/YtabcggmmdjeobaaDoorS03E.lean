/-
  Layer 3: the reference's Sorted.
-/
import Derived.Test.YtabcggmmdjeobaaDoorS03D
import Derived.BigRegion
namespace Go.Proofs.YtabcggmmdjeobaaDoor.s03
set_option linter.unusedVariables false
set_option linter.unusedSimpArgs false
open Go.RowKit
open kit

/-- what Sorted answers: a list, an error -/
def SortR (l x : List ByteArray) (er : Int) : Prop := (100 < l.length ∧ x = [] ∧ er = 6) ∨ (l.length ≤ 100 ∧ SortedOf l x ∧ er = 0)
def LstS (w : World) (x : List ByteArray) (er : Int) (e : Ending) (w' : World) : Prop :=
  ∃ a c, e = .returned (.tuple #[.slice a x.length c, .int .i64 er]) ∧ ReadsS w' a x ∧ Src w' a c (x.map Value.string) ∧ Below w.heap.size w w'
theorem src_of_row {α : Type} {f : α → Value} {E : TypeId} {W : World} {base cap : Nat} {a : Option Addr} {L : List α} {k : Nat} (hk : L.length = k) (h : W.ownsRow base E 1 (.slice a k cap) k (L.map f)) : Src W a cap (L.map f) := by
  rcases h.2 with ⟨e, h0⟩ | ⟨g, cap', cur, e, _, _, _⟩
  · cases e
    obtain rfl : L = [] := List.length_eq_zero_iff.1 (by omega)
    exact .inl ⟨rfl, rfl, rfl⟩
  · cases e
    refine .inr ⟨_, rfl, fun j u hu => ?_⟩
    have hj : j < L.length := by
      rcases Nat.lt_or_ge j L.length with h1 | h1
      · exact h1
      · rw [List.getElem?_eq_none (by simpa using h1)] at hu; cases hu
    have hc := h.cellAt j (by omega)
    rw [hu] at hc
    have e1 : (⟨g, 0, none⟩ : Addr).add j = ⟨g, j, none⟩ := by simp [Addr.add]; omega
    rw [e1]
    exact hc
theorem src_nil {w w' : World} {a : Option Addr} {c : Nat} (h : Src w a c []) : Src w' a c [] := by
  rcases h with h | ⟨x, rfl, _⟩
  · exact .inl h
  · exact .inr ⟨x, rfl, fun j u hu => by simp at hu⟩
theorem arr_src {w : World} {g cap : Nat} {l : List ByteArray} (h : Arr Value.string ByteArray.empty 9 w g l) : Src w (some ⟨g, 0, none⟩) cap (l.map Value.string) := by
  refine .inr ⟨_, rfl, fun j u hu => ?_⟩
  have hj : j < l.length := by
    rcases Nat.lt_or_ge j l.length with h1 | h1
    · exact h1
    · rw [List.getElem?_eq_none (by simpa using h1)] at hu; cases hu
  have e1 : (⟨g, 0, none⟩ : Addr).add j = ⟨g, j, none⟩ := by simp [Addr.add]; omega
  rw [e1, (h.cell j hj).1]
  rw [List.getElem?_map, List.getElem?_eq_getElem hj] at hu
  rw [List.getElem?_eq_getElem hj]
  exact hu
theorem swap_is (l : List ByteArray) (k j : Nat) (h : k = j + 1) : (l.set k (at_ l j)).set j (at_ l k) = swap l j := by
  subst h; rfl
theorem swap_is' (l : List ByteArray) (k j : Nat) (h : k = j + 1) : (l.set j (at_ l k)).set k (at_ l j) = swap l j := by
  subst h
  exact List.set_comm _ _ (by omega)
theorem lsts_done {w wr : World} {ss x : List ByteArray} {v : Value} {g cap : Nat} {L : List ByteArray} {er : Int} (H : SortR ss L er) (h100 : ss.length ≤ 100) (hp : x.Perm ss) (hu : Upto x x.length) (hA : Arr Value.string ByteArray.empty 9 wr g x) (hB : Below w.heap.size w wr) :
    LstS w L er (.returned (.tuple #[.slice (some ⟨g, 0, none⟩) ss.length cap, .int .i64 0])) wr := by
  rcases H with ⟨h, _⟩ | ⟨_, hs, rfl⟩
  · omega
  · have : x = L := (sorted_of_upto hp hu).unique hs
    subst this
    exact ⟨_, _, by rw [hp.length_eq], hA.reads, arr_src hA, hB⟩

set_option maxRecDepth 100000 in
set_option maxHeartbeats 2000000 in
theorem sortedr_some (a : Option Addr) (c : Nat) (ss L : List ByteArray) (er : Int) (w : World) (h100 : ss.length ≤ 100) (hpos : 0 < ss.length) (hz : ∀ s ∈ ss, s.size ≤ 9223372036854775807) (hs : Src w a c (ss.map Value.string)) (H : Hid (SortR ss L er)) :
    Calls Tryd.prog 32 #[.slice a ss.length c] w (LstS w L er) := by
  have HZ := Lib.hid hz
  clear hz
  go_enter Tryd.func32, Tryd.ntmps32
  go_wp2_with (at_builtin; refine append_in Tryd.underlying26 info9 rfl (by omega) rfl (.tmp 10) (.tmp 11) rfl w.heap.size _ 0 [] rfl (empty_row 9 w _ (Nat.le_refl _)) a (ss.map Value.string) ss.length c rfl (by simp) (hs.alloc _) (by simp [Value.oneCell']) (by omega) (by simp) ?_; intro v1 wA hv1 hBA; simp only [Nat.zero_add, List.nil_append] at hv1; obtain ⟨g, cap, rfl, hg, hA⟩ := Arr.of_row (d := ByteArray.empty) rfl hpos hv1; have hB0 := ((Below.refl _ w).alloc (Nat.le_refl _) (.cells #[] 9)).trans hBA)
  clear hs hv1 hBA
  go_loopw [5] (fun v wr => ∃ (i : Nat) (x : List ByteArray), 1 ≤ i ∧ i ≤ ss.length ∧ v = .int .i64 i ∧ Arr Value.string ByteArray.empty 9 wr g x ∧ x.Perm ss ∧ Upto x i ∧ Below w.heap.size w wr) (fun v _ => ss.length - (intOf v).toNat)
  case atStart => exact ⟨1, ss, by omega, by omega, rfl, hA, List.Perm.refl _, fun p q h1 h2 => by omega, hB0⟩
  case round =>
    obtain ⟨i, x, hi1, hi2, rfl, hAx, hperm, hup, hB⟩ := hrel
    have HP := Lib.hid hperm
    have HU := Lib.hid hup
    clear hperm hup
    by_cases hlt : i < ss.length
    · obtain ⟨wo, rfl⟩ : ∃ wo : World, wo = wr := ⟨_, rfl⟩
      go_wp2
      go_loopw [6] (fun v wr => ∃ (k : Nat) (x : List ByteArray), k ≤ i ∧ v = .int .i64 k ∧ Arr Value.string ByteArray.empty 9 wr g x ∧ x.Perm ss ∧ Ins x i k ∧ Below w.heap.size w wr) (fun v _ => (intOf v).toNat)
      case atStart => exact ⟨i, x, by omega, rfl, hAx, HP.out, ins_start HU.out, hB⟩
      case round =>
        obtain ⟨k, y, hk, rfl, hAy, hperm, hins, hB2⟩ := hrel
        have HP2 := Lib.hid hperm
        have HI := Lib.hid hins
        have hlen := hperm.length_eq
        clear hperm hins hAx hB
        by_cases hk0 : 0 < k
        · obtain ⟨j, hj⟩ : ∃ j, k = j + 1 := ⟨k - 1, by omega⟩
          obtain ⟨hck, hfk⟩ := hAy.cell k (by omega)
          obtain ⟨hcj, hfj⟩ := hAy.cell j (by omega)
          have hzk := HZ.out _ (HP2.out.subset (mem_getS y k (by omega)))
          have hzj := HZ.out _ (HP2.out.subset (mem_getS y j (by omega)))
          have HJ := Lib.hid hj
          have hjk : j < k := by omega
          have hjn : j < ss.length := by omega
          have hkn : k < ss.length := by omega
          have e0 : decide (0 < (k : Int)) = true := decide_eq_true (by omega)
          have e1 : IntKind.i64.wrap ((k : Int) - 1) = (j : Int) := by rw [show (k : Int) - 1 = j by omega]; exact IntWalk.i64_in _ (by omega)
          have e2 : (k : Int) - 1 = (j : Int) := by omega
          have e3 : IntKind.i64.wrap (j : Int) = j := IntWalk.i64_in _ (by omega)
          have e4 : IntKind.i64.wrap (k : Int) = k := IntWalk.i64_in _ (by omega)
          have HL := Lib.hid hlen
          obtain ⟨sk, hsk⟩ : ∃ sk, sk = y[k]?.getD ByteArray.empty := ⟨_, rfl⟩
          obtain ⟨sj, hsj⟩ : ∃ sj, sj = y[j]?.getD ByteArray.empty := ⟨_, rfl⟩
          rw [← hsk] at hck hzk
          rw [← hsj] at hcj hzj
          have HSK : Hid (sk = at_ y k) := Lib.hid hsk
          have HSJ : Hid (sj = at_ y j) := Lib.hid hsj
          clear hj hlen hsk hsj
          have HC := fun w => Lib.hid (cmpr_any sk sj w hzk hzj)
          by_cases hcmp : cmpR sk.data.toList sj.data.toList < 0
          · generalize hcv : cmpR sk.data.toList sj.data.toList = cv at HC hcmp
            have HV := Lib.hid hcv
            clear hcv
            go_wp2
            go_quiet ((go_at_call 29; exact Calls.quiet_of (HC _).out))
            have hA3 := hAy.drewN nq
            have hB3 := below_drewN hB2 nq
            clear hck hfk hcj hfj
            generalize wr.drewN nq = w3 at hA3 hB3 ⊢
            clear hAy hB2
            obtain ⟨hck, hfk⟩ := hA3.cell k (by have := HL.out; omega)
            obtain ⟨hcj, hfj⟩ := hA3.cell j (by have := HL.out; omega)
            rw [show y[k]?.getD ByteArray.empty = sk from HSK.out.symm] at hck
            rw [show y[j]?.getD ByteArray.empty = sj from HSJ.out.symm] at hcj
            have hne : j ≠ k := by omega
            have hne' : k ≠ j := by omega
            go_wp2
            go_region
            have ly : y.length = ss.length := HL.out
            have hS := ((hA3.set k (by omega) sj).set j (by simp; omega) sk).drew
            have HS : Hid ((y.set k sj).set j sk = swap y j) := Lib.hid (by rw [HSK.out, HSJ.out]; exact swap_is y k j HJ.out)
            have hB4 := ((hB3.setCell (p := ⟨g, k, none⟩) hg (.string sj)).setCell (p := ⟨g, j, none⟩) hg (.string sk)).drew
            have hI2 : Hid (Ins (swap y j) i j) := Lib.hid (by
              have h1 := HI.out
              rw [HJ.out] at h1
              refine ins_step h1 (by omega) (by have := HJ.out; omega) ?_
              unfold le
              rw [← HJ.out, ← HSK.out, ← HSJ.out, HV.out]; omega)
            have hP2 : Hid ((swap y j).Perm ss) := Lib.hid ((swap_perm j y (by have := HJ.out; omega)).trans HP2.out)
            clear ly hck hcj hfk hfj
            go_wp2
            go_roundw
            case rel => exact ⟨j, swap y j, by omega, rfl, by rw [← HS.out]; exact hS, hP2.out, hI2.out, hB4⟩
            case measure => simp [intOf]; omega
          · have HU2 : Hid (Upto y (i + 1)) := Lib.hid (by
              refine ins_end HI.out (.inr ?_)
              rw [show k - 1 = j by have := HJ.out; omega]
              unfold le
              rw [← HSK.out, ← HSJ.out, cmp_neg]; omega)
            generalize hcv : cmpR sk.data.toList sj.data.toList = cv at HC hcmp
            have HV := Lib.hid hcv
            clear hcv
            go_wp2
            go_quiet ((go_at_call 29; exact Calls.quiet_of (HC _).out))
            have hA3 := hAy.drewN nq
            have hB3 := below_drewN hB2 nq
            clear hck hfk hcj hfj
            generalize wr.drewN nq = w3 at hA3 hB3 ⊢
            clear hAy hB2
            go_wp2
            go_roundw
            case rel => exact ⟨i + 1, y, by omega, by omega, by go_num, hA3, HP2.out, HU2.out, hB3⟩
            case measure => simp [intOf]; omega
        · have hk1 : k = 0 := by omega
          have HU2 : Hid (Upto y (i + 1)) := Lib.hid (ins_end HI.out (.inl hk1))
          have e0 : decide (0 < (k : Int)) = false := decide_eq_false (by omega)
          clear hk1
          go_wp2
          go_quiet (fail)
          have hA3 := hAy.drewN nq
          have hB3 := below_drewN hB2 nq
          generalize wr.drewN nq = w3 at hA3 hB3 ⊢
          clear hAy hB2
          go_wp2
          go_roundw
          case rel => exact ⟨i + 1, y, by omega, by omega, by go_num, hA3, HP2.out, HU2.out, hB3⟩
          case measure => simp [intOf]; omega
    · have hl : i = x.length := by rw [HP.out.length_eq]; omega
      have HX := Lib.hid (lsts_done (v := .slice none 0 0) (cap := cap) H.out h100 HP.out (by rw [← hl]; exact HU.out) hAx hB)
      clear hl hAx hB
      go_wp2
      go_ret2
      exact HX.out
theorem sortedr_any (a : Option Addr) (c : Nat) (ss L : List ByteArray) (er : Int) (w : World) (hn : ss.length ≤ 9223372036854775807) (hz : ∀ s ∈ ss, s.size ≤ 9223372036854775807) (hs : Src w a c (ss.map Value.string)) (H : Hid (SortR ss L er)) :
    Calls Tryd.prog 32 #[.slice a ss.length c] w (LstS w L er) := by
  rcases Nat.lt_or_ge 100 ss.length with hb | hb
  · have hX : L = [] ∧ er = 6 := by
      rcases H.out with ⟨_, h1, h2⟩ | ⟨h, _⟩
      · exact ⟨h1, h2⟩
      · omega
    obtain ⟨rfl, rfl⟩ := hX
    clear H hs hz
    go_enter Tryd.func32, Tryd.ntmps32
    go_wp2
    go_ret2
    exact ⟨_, _, rfl, Reads.nil _ _, .inl ⟨rfl, rfl, rfl⟩, Below.refl _ _⟩
  · rcases Nat.eq_zero_or_pos ss.length with h0 | h0
    · obtain rfl : ss = [] := List.length_eq_zero_iff.1 h0
      have hX : L = [] ∧ er = 0 := by
        rcases H.out with ⟨h, _⟩ | ⟨_, h1, h2⟩
        · omega
        · exact ⟨List.perm_nil.1 h1.1, h2⟩
      obtain ⟨rfl, rfl⟩ := hX
      clear H hz
      go_enter Tryd.func32, Tryd.ntmps32
      go_wp2_with (at_builtin; refine append_in Tryd.underlying26 info9 rfl (by omega) rfl (.tmp 10) (.tmp 11) rfl w.heap.size _ 0 [] rfl (empty_row 9 w _ (Nat.le_refl _)) a (([] : List ByteArray).map Value.string) 0 c rfl (by simp) (hs.alloc _) (by simp [Value.oneCell']) (by omega) (by simp) ?_; intro v1 wA hv1 hBA; obtain ⟨ga, cap, rfl⟩ := row_shape hv1; have hB0 := ((Below.refl _ w).alloc (Nat.le_refl _) (.cells #[] 9)).trans hBA)
      have hS0 : Src wA ga cap [] := src_of_row (f := Value.string) (L := []) rfl hv1
      clear hv1
      go_loopw [5] (fun v wr => v = .int .i64 1 ∧ Below w.heap.size w wr) (fun _ _ => 0)
      case atStart => exact ⟨rfl, hB0⟩
      case round =>
        obtain ⟨rfl, hB⟩ := hrel
        go_wp2
        go_ret2
        exact ⟨_, _, rfl, Reads.nil _ _, src_nil hS0, hB⟩
    · exact sortedr_some a c ss L er w hb h0 hz hs H
end Go.Proofs.YtabcggmmdjeobaaDoor.s03
