/-
  Layer 7: frames that are cut off (of no program).
-/
import Derived.Test.YtniimoebgajefaaS07U
namespace Go.Proofs.Ytniimoebgajefaa.s07
set_option linter.unusedVariables false
set_option linter.unusedSimpArgs false
open Go.RowKit
open kit

theorem at_cut (s : ByteArray) (q k : Nat) (hk : k < q) : atB (s.extract 0 q) k = atB s k := by
  rw [at_list, at_list, ByteArray.data_extract, Array.toList_extract, List.extract_eq_take_drop, List.drop_zero, List.getElem?_take, if_pos (by omega)]
theorem at_app (s r : ByteArray) (k : Nat) (hk : k < s.size) : atB (s ++ r) k = atB s k := by
  rw [at_list, at_list, ByteArray.data_append, Array.toList_append, List.getElem?_append_left (by rw [size_list]; exact hk)]
theorem frm_at0 {y : Int} {x : ByteArray} (h1 : 0 ≤ y) (h2 : y ≤ 8) (h3 : x.size ≤ 24) : (atB (frm y x) 0 : Int) = y ∧ atB (frm y x) 1 = x.size := by
  have h := frm_at (s := ByteArray.empty) h1 h2 h3
  rw [at_app _ _ 0 (by rw [frm_size]; omega), at_app _ _ 1 (by rw [frm_size]; omega)] at h
  exact h
theorem cut_facts {y t p : Int} {x pt : ByteArray} {q : Nat} (h : chkR y x.size p t = 0) (hq : q < 2 + x.size) (hp : (frm y x).extract 0 q = pt) : pt.size = q ∧ beginsR pt t = (true, 0) ∧ readR pt t 0 = (noLi, 0, 5, 0) ∧ (1 < q → atB pt 1 = x.size) := by
  obtain ⟨h0, p1, p2⟩ := chkR_ok h
  obtain ⟨t1, t2, y1, y2, x1⟩ := chkP_ok h0
  obtain ⟨a0, a1⟩ := frm_at0 y1 (by omega) x1
  have hs : pt.size = q := by rw [← hp, ByteArray.size_extract, frm_size]; omega
  have c0 : 0 < q → (atB pt 0 : Int) = y := fun hh => by rw [← hp, at_cut _ _ _ hh, a0]
  have c1 : 1 < q → atB pt 1 = x.size := fun hh => by rw [← hp, at_cut _ _ _ hh, a1]
  have hb : badR pt t = 0 := by
    unfold badR
    rw [hs]
    by_cases q0 : q = 0
    · rw [if_pos q0]
    · have := c0 (by omega)
      rw [if_neg q0, if_neg (by omega), if_neg (by omega)]
      by_cases q1 : q = 1
      · rw [if_pos q1]
      · have := c1 (by omega)
        rw [if_neg q1, if_neg (by omega), if_neg (by omega)]
  have hw : wholeR pt = false := by
    unfold wholeR
    refine decide_eq_false ?_
    rw [hs]
    intro hh
    have := c1 (by omega)
    omega
  refine ⟨hs, ?_, ?_, c1⟩
  · unfold beginsR
    rw [if_neg (by omega), if_pos hb, hw]; rfl
  · unfold readR
    rw [if_neg (by omega), hb, hw]; rfl
theorem whole_frm {y t p : Int} {x : ByteArray} (h : chkR y x.size p t = 0) : beginsR (frm y x) t = (false, 0) := by
  obtain ⟨h0, p1, p2⟩ := chkR_ok h
  obtain ⟨t1, t2, y1, y2, x1⟩ := chkP_ok h0
  obtain ⟨a0, a1⟩ := frm_at0 y1 (by omega) x1
  have hs := frm_size y x
  have hb : badR (frm y x) t = 0 := by
    unfold badR
    rw [if_neg (by omega), if_neg (by omega), if_neg (by omega), if_neg (by omega), if_neg (by omega), if_neg (by omega)]
  have hw : wholeR (frm y x) = true := by unfold wholeR; exact decide_eq_true (by omega)
  unfold beginsR
  rw [if_neg (by omega), if_pos hb, hw]; rfl
/-- what comes of one byte more -/
theorem next_facts {pt u : ByteArray} {b t : Int} {q n : Nat} (ht : 1 ≤ t) (ht2 : t ≤ 8) (hs : pt.size = q) (hq : q < 2 + n) (h1 : 1 < q → atB pt 1 = n) (hu : pt ++ strOfNums [b] = u) :
    u.size = q + 1 ∧ ∃ v c z m er o, beginsR u t = (v, c) ∧ readR u t 0 = (z, m, er, o) ∧ ((v = true ∧ c = 0 ∧ er = 5) ∨ (v = false ∧ c = 0 ∧ er = 0 ∧ m = ((q + 1 : Nat) : Int)) ∨ (v = false ∧ c ≠ 0 ∧ er = c)) := by
  have hus : u.size = q + 1 := by rw [← hu, ByteArray.size_append, strOfNums_size, hs]; rfl
  refine ⟨hus, ?_⟩
  by_cases hb : badR u t = 0
  · cases hw : wholeR u
    · refine ⟨_, _, _, _, _, _, by unfold beginsR; rw [if_neg (by omega), if_pos hb, hw]; rfl, by unfold readR; rw [if_neg (by omega), hb, hw]; rfl, .inl ⟨rfl, rfl, rfl⟩⟩
    · have hw2 : 2 ≤ u.size ∧ 2 + atB u 1 ≤ u.size := by unfold wholeR at hw; exact of_decide_eq_true hw
      have he : 2 + atB u 1 = q + 1 := by
        by_cases q1 : q = 1
        · omega
        · have h3 := h1 (by omega)
          have e1 : atB u 1 = atB pt 1 := by rw [← hu]; exact at_app _ _ 1 (by omega)
          omega
      refine ⟨_, _, _, _, _, _, by unfold beginsR; rw [if_neg (by omega), if_pos hb, hw]; rfl, by unfold readR; rw [if_neg (by omega), hb, hw]; rfl, .inr (.inl ⟨rfl, rfl, rfl, ?_⟩)⟩
      omega
  · refine ⟨_, _, _, _, _, _, by unfold beginsR; rw [if_neg (by omega), if_neg hb], by unfold readR; rw [if_neg (by omega), if_neg hb], .inr (.inr ⟨rfl, hb, rfl⟩)⟩
end Go.Proofs.Ytniimoebgajefaa.s07
