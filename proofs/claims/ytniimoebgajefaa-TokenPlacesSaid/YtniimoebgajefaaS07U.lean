/-
  Layer 7: what is written is read back, and the other way round (of no program).
-/
import Derived.Test.YtniimoebgajefaaS07DA
namespace Go.Proofs.Ytniimoebgajefaa.s07
set_option linter.unusedVariables false
set_option linter.unusedSimpArgs false
open Go.RowKit
open kit

theorem at_list (s : ByteArray) (k : Nat) : atB s k = (s.data.toList[k]?.getD 0).toNat := by
  unfold atB
  split
  · rename_i h
    have h2 : k < s.data.toList.length := by simpa using h
    rw [List.getElem?_eq_getElem h2]
    rfl
  · rename_i h
    rw [List.getElem?_eq_none (by simpa using h)]
    rfl
theorem size_list (s : ByteArray) : s.data.toList.length = s.size := by simp
theorem frm_list (y : Int) (x : ByteArray) : (frm y x).data.toList = UInt8.ofNat y.toNat :: UInt8.ofNat x.size :: x.data.toList := by
  unfold frm strOfNums
  rw [ByteArray.data_append, Array.toList_append]
  simp
theorem small_u8 (n : Nat) (h : n ≤ 255) : (UInt8.ofNat n).toNat = n := by rw [UInt8.toNat_ofNat', Nat.mod_eq_of_lt (by omega)]
theorem frm_at {y : Int} {x s : ByteArray} (h1 : 0 ≤ y) (h2 : y ≤ 8) (h3 : x.size ≤ 24) : (atB (frm y x ++ s) 0 : Int) = y ∧ atB (frm y x ++ s) 1 = x.size := by
  rw [at_list, at_list, ByteArray.data_append, Array.toList_append, frm_list]
  constructor
  · show (((UInt8.ofNat y.toNat).toNat : Nat) : Int) = y
    rw [small_u8 _ (by omega)]; omega
  · show (UInt8.ofNat x.size).toNat = x.size
    exact small_u8 _ (by omega)
theorem frm_ext (y : Int) (x s : ByteArray) : (frm y x ++ s).extract 2 (2 + x.size) = x := by
  apply bytes_ext
  rw [ByteArray.data_extract, Array.toList_extract, List.extract_eq_take_drop, ByteArray.data_append, Array.toList_append, frm_list]
  have : (2 + x.size - 2) = x.data.toList.length := by rw [size_list]; omega
  rw [this]
  simp
theorem read_back {y t p : Int} {x : ByteArray} (s : ByteArray) (h : chkR y x.size p t = 0) : readR (frm y x ++ s) t p = ((y, x, p), 2 + (x.size : Int), 0, 0) := by
  obtain ⟨h0, p1, p2⟩ := chkR_ok h
  obtain ⟨t1, t2, y1, y2, x1⟩ := chkP_ok h0
  obtain ⟨a0, a1⟩ := frm_at (s := s) y1 (by omega) x1
  have hs : (frm y x ++ s).size = 2 + x.size + s.size := by rw [ByteArray.size_append, frm_size]
  have hb : badR (frm y x ++ s) t = 0 := by
    unfold badR
    rw [if_neg (by omega), if_neg (by omega), if_neg (by omega), if_neg (by omega), if_neg (by omega), if_neg (by omega)]
  have hw : wholeR (frm y x ++ s) = true := by unfold wholeR; exact decide_eq_true (by omega)
  unfold readR
  rw [if_neg (by omega), hb, if_pos rfl, hw, if_pos rfl, a0, a1, frm_ext]
theorem two_of (s : ByteArray) (h : 2 ≤ s.size) : ∃ c0 c1 r, s.data.toList = c0 :: c1 :: r := by
  have h2 : 2 ≤ s.data.toList.length := by rw [size_list]; exact h
  match hs : s.data.toList with
  | [] => rw [hs] at h2; simp at h2
  | [c] => rw [hs] at h2; simp at h2
  | c0 :: c1 :: r => exact ⟨c0, c1, r, rfl⟩
theorem read_made {y t p n o a : Int} {x s : ByteArray} (h : readR s t a = ((y, x, p), n, 0, o)) : chkR y x.size p t = 0 ∧ n = 2 + (x.size : Int) ∧ 2 + x.size ≤ s.size ∧ s.extract 0 (2 + x.size) = frm y x ∧ p = a := by
  unfold readR at h
  split at h
  · simp at h
  · rename_i h1
    split at h
    · rename_i hb
      cases hw : wholeR s
      · rw [hw] at h; simp at h
      · rw [hw, if_pos rfl] at h
        simp only [Prod.mk.injEq] at h
        obtain ⟨⟨rfl, hx, rfl⟩, hn, _, _⟩ := h
        have hw2 : 2 ≤ s.size ∧ 2 + atB s 1 ≤ s.size := by unfold wholeR at hw; exact of_decide_eq_true hw
        have hxs : x.size = atB s 1 := by rw [← hx, ByteArray.size_extract]; omega
        unfold badR at hb
        rw [if_neg (by omega)] at hb
        split at hb
        · cases hb
        split at hb
        · cases hb
        rw [if_neg (by omega)] at hb
        split at hb
        · cases hb
        split at hb
        · cases hb
        refine ⟨?_, by omega, by omega, ?_, rfl⟩
        · unfold chkR
          rw [if_neg (by omega), if_neg (by omega), if_neg (by omega), if_neg (by omega)]
        · obtain ⟨c0, c1, r, hL⟩ := two_of s hw2.1
          have e0 : atB s 0 = c0.toNat := by rw [at_list, hL]; rfl
          have e1 : atB s 1 = c1.toNat := by rw [at_list, hL]; rfl
          apply bytes_ext
          rw [frm_list, ByteArray.data_extract, Array.toList_extract, List.extract_eq_take_drop, hxs, ← hx, ByteArray.data_extract, Array.toList_extract, List.extract_eq_take_drop, hL, e0, e1]
          rw [show 2 + c1.toNat - 0 = c1.toNat + 2 by omega, show 2 + c1.toNat - 2 = c1.toNat by omega]
          simp
    · rename_i hb
      simp only [Prod.mk.injEq] at h
      exact absurd h.2.2.1 hb
end Go.Proofs.Ytniimoebgajefaa.s07
