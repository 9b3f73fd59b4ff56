/-
  Layer 5: what is cut off stays away.
-/
import Derived.Test.YtkepnjnindolbaaS05ZH
import Derived.Test.YtkepnjnindolbaaKitMod
namespace Go.Proofs.Ytkepnjnindolbaa.s05
set_option linter.unusedVariables false
set_option linter.unusedSimpArgs false
open Go.RowKit
open kit

theorem cut_list {s : ByteArray} {c : Nat} : (s.extract 0 c).data.toList = s.data.toList.take c := by
  rw [ByteArray.data_extract, Array.toList_extract, List.extract_eq_take_drop]
  simp
theorem cut_size {s : ByteArray} {c : Nat} (h : c ≤ s.size) : (s.extract 0 c).size = c := by
  rw [size_len, cut_list, List.length_take, ← size_len]; omega
/-- one string lies before the cut -/
theorem whole_fit {s : ByteArray} {ts : List ByteArray} {k c : Nat} (h : s.data.toList = encS ts) (hk : k < ts.length) (hc : (encS (ts.take (k + 1))).length ≤ c) (hcs : c ≤ s.size) (hs : s.size ≤ 20000) (hz : (ts[k]?.getD ByteArray.empty).size ≤ 20) :
    fldR (⟨#[]⟩ : ByteArray) (sizF 20) (s.extract 0 c) ((encS (ts.take k)).length : Int) 0 0 = ((s.extract 0 c, ((encS (ts.take (k + 1))).length : Int), 0, 0), ts[k]?.getD ByteArray.empty) := by
  have e := encS_snoc ts k hk
  have hl : (s.extract 0 c).data.toList = encS (ts.take k) ++ (bys (digs (ts[k]?.getD ByteArray.empty).size) ++ ((ts[k]?.getD ByteArray.empty).data.toList ++ (encS (ts.drop (k + 1))).take (c - (encS (ts.take (k + 1))).length))) := by
    rw [cut_list, h]
    have e2 : encS ts = encS (ts.take (k + 1)) ++ encS (ts.drop (k + 1)) := by rw [← encS_app, List.take_append_drop]
    rw [e2, List.take_append, List.take_of_length_le hc]
    generalize List.take (c - (encS (ts.take (k + 1))).length) (encS (ts.drop (k + 1))) = R
    rw [e]
    simp only [List.append_assoc]
  have := str_back (m := 20) hl (by omega) (by rw [cut_size hcs]; omega)
  rw [← e] at this
  exact this
/-- one string is cut -/
theorem whole_cut {s : ByteArray} {ts : List ByteArray} {k c : Nat} (h : s.data.toList = encS ts) (hk : k < ts.length) (hp : (encS (ts.take k)).length ≤ c) (hc : c < (encS (ts.take (k + 1))).length) (hcs : c ≤ s.size) (hs : s.size ≤ 20000) (hz : (ts[k]?.getD ByteArray.empty).size ≤ 20) :
    ∃ o : Int, 0 ≤ o ∧ o ≤ c ∧ fldR (⟨#[]⟩ : ByteArray) (sizF 20) (s.extract 0 c) ((encS (ts.take k)).length : Int) 0 0 = ((s.extract 0 c, ((encS (ts.take k)).length : Int), 5, o), ⟨#[]⟩) := by
  have e := encS_snoc ts k hk
  have hu := cut_size hcs
  have hl : (s.extract 0 c).data.toList = encS (ts.take k) ++ (bys (digs (ts[k]?.getD ByteArray.empty).size) ++ (ts[k]?.getD ByteArray.empty).data.toList).take (c - (encS (ts.take k)).length) := by
    rw [cut_list, h]
    have e2 : encS ts = encS (ts.take (k + 1)) ++ encS (ts.drop (k + 1)) := by rw [← encS_app, List.take_append_drop]
    rw [e2, List.take_append, show c - (encS (ts.take (k + 1))).length = 0 by omega, List.take_zero, List.append_nil, e, List.take_append, List.take_of_length_le hp]
  have el := congrArg List.length e
  rw [List.length_append, List.length_append, bys_len, ← size_len] at el
  generalize encS (ts.take k) = pre at *
  generalize ts[k]?.getD ByteArray.empty = t at *
  obtain ⟨j, hj⟩ : ∃ j, j = c - pre.length := ⟨_, rfl⟩
  have hcj : c = pre.length + j := by omega
  rw [← hj] at hl
  have hcn := cnt_of (s := s.extract 0 c) (p := (pre.length : Int)) (by omega) (by omega) (by omega)
  by_cases hd : j < (digs t.size).length
  · have hr : rd (s.extract 0 c) pre.length = (0, 0, 5, (pre.length : Int) + j) := by
      unfold rd
      rw [if_neg (by omega), hl]
      simp only [Int.toNat_natCast, List.drop_left]
      rw [List.take_append, bys_len, show j - (digs t.size).length = 0 by omega, List.take_zero, List.append_nil]
      exact rdl_cut _ _ j _ 0 0 rfl (by omega) (by omega) (by omega) (by omega) hd
    refine ⟨(pre.length : Int) + j, by omega, by omega, ?_⟩
    have hF : sizF 20 (s.extract 0 c) pre.length = (⟨#[]⟩, 0, 5, (pre.length : Int) + j) := by
      unfold sizF lenF
      rw [hr]
      simp
    unfold fldR
    rw [hcn]
    simp [hF]
  · have hl2 : (s.extract 0 c).data.toList = pre ++ (bys (digs t.size) ++ t.data.toList.take (j - (digs t.size).length)) := by
      rw [hl, List.take_append, bys_len, List.take_of_length_le (by rw [bys_len]; omega)]
    have hr := len_back (m := 20) hl2 (by omega) (by omega) (by omega)
    refine ⟨(pre.length : Int) + (digs t.size).length, by omega, by omega, ?_⟩
    have hF : sizF 20 (s.extract 0 c) pre.length = (⟨#[]⟩, 0, 5, (pre.length : Int) + (digs t.size).length) := by
      unfold sizF
      rw [hr]
      simp only [if_true]
      unfold fixF
      rw [if_neg (by omega), if_pos (by omega)]
    unfold fldR
    rw [hcn]
    simp [hF]
/-- a reader that has failed stays -/
theorem whole_stay {s : ByteArray} {p o : Int} {c : Nat} (hcs : c ≤ s.size) (hs : s.size ≤ 20000) (h1 : 0 ≤ p) (h2 : p ≤ c) (h3 : 0 ≤ o) (h4 : o ≤ c) :
    fldR (⟨#[]⟩ : ByteArray) (sizF 20) (s.extract 0 c) p 5 o = ((s.extract 0 c, p, 5, o), ⟨#[]⟩) := by
  have hu := cut_size hcs
  have hc : cnt (s.extract 0 c) p 5 o = (s.extract 0 c, p, 5, o) := by
    unfold cnt
    rw [if_pos]
    unfold vld
    simp
    omega
  unfold fldR
  rw [hc]
  simp
theorem add_full (s : ByteArray) (hs : s.size ≤ 20000) : addR ⟨#[]⟩ s.size 0 s.data.toList = (s, (s.size : Int), 0) := by
  have h0 : (⟨#[]⟩ : ByteArray).size = 0 := rfl
  unfold addR
  rw [cntw_of (by omega) (by omega) (by omega)]
  simp only
  rw [if_pos trivial, if_pos (by rw [← size_len, h0]; omega)]
  have : (⟨#[]⟩ ++ ⟨s.data.toList.toArray⟩ : ByteArray) = s := by
    apply ByteArray.ext
    rw [ByteArray.data_append]
    simp
  rw [this]
theorem mk_full (s : ByteArray) (hs : s.size ≤ 20000) : cntw ⟨#[]⟩ s.size 0 = (⟨#[]⟩, (s.size : Int), 0) := cntw_of (by omega) (by omega) (by show ((0 : Nat) : Int) ≤ _; omega)
theorem add_over (s : ByteArray) (hs : s.size ≤ 20000) (l : List UInt8) (hl : 0 < l.length) : addR s s.size 0 l = (s, (s.size : Int), 4) := by
  unfold addR
  rw [cntw_of (by omega) (by omega) (by omega)]
  simp only
  rw [if_pos trivial, if_neg (by omega)]
theorem add_bad (s : ByteArray) (hs : s.size ≤ 20000) (l : List UInt8) : addR s s.size 4 l = (s, (s.size : Int), 4) := by
  have hc : cntw s s.size 4 = (s, (s.size : Int), 4) := by
    unfold cntw vldw
    rw [if_pos (by simp; omega)]
  unfold addR
  rw [hc]
  simp
end Go.Proofs.Ytkepnjnindolbaa.s05
