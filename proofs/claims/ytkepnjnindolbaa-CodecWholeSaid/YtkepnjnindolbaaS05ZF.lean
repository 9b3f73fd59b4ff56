/-
  Layer 5: CodecKnown, its values.
-/
import Derived.Test.YtkepnjnindolbaaS05ZE
namespace Go.Proofs.Ytkepnjnindolbaa.s05
set_option linter.unusedVariables false
set_option linter.unusedSimpArgs false
open Go.RowKit
open kit

theorem reads_two {α : Type} {f : α → Value} {d : α} {W : World} {t : TypeId} {b : Nat} {x y : α} (h : Box W t b #[f x, f y]) : Reads f d W (some ⟨b, 0, none⟩) [x, y] := by
  intro i hi
  have hj : i = 0 ∨ i = 1 := by simp at hi; omega
  rcases hj with rfl | rfl
  · exact ⟨b, 0, rfl, h.lt, by simpa using h.cell 0⟩
  · exact ⟨b, 0, rfl, h.lt, by simpa using h.cell 1⟩
theorem encS_cons (t : ByteArray) (ts : List ByteArray) : encS (t :: ts) = bys (digs t.size) ++ (t.data.toList ++ encS ts) := by simp [encS, cat, partsOf, str_list]
theorem kc_a : cnt ⟨#[172, 2, 5]⟩ 0 0 0 = (⟨#[172, 2, 5]⟩, 0, 0, 0) := by kernel_rfl
theorem kc_b : cnt ⟨#[5]⟩ 0 0 0 = (⟨#[5]⟩, 0, 0, 0) := by kernel_rfl
theorem kc_d : cnt ⟨#[]⟩ 0 0 0 = (⟨#[]⟩, 0, 0, 0) := by kernel_rfl
theorem kc_e : cnt ⟨#[2, 97, 98, 99]⟩ 0 0 0 = (⟨#[2, 97, 98, 99]⟩, 0, 0, 0) := by kernel_rfl
theorem kc_li : cnt ⟨#[2, 1, 4]⟩ 0 0 0 = (⟨#[2, 1, 4]⟩, 0, 0, 0) := by kernel_rfl
theorem kc_i : cnt ⟨#[2, 1]⟩ 0 0 0 = (⟨#[2, 1]⟩, 0, 0, 0) := by kernel_rfl
theorem kc_ab : cnt ⟨#[97, 98]⟩ 0 0 0 = (⟨#[97, 98]⟩, 0, 0, 0) := by kernel_rfl
theorem kc_en : cnt ⟨#[97]⟩ 0 0 0 = (⟨#[97]⟩, 0, 0, 0) := by kernel_rfl
theorem kn_a : fldR (0 : Int) (numF 0 300) ⟨#[172, 2, 5]⟩ 0 0 0 = ((⟨#[172, 2, 5]⟩, 2, 0, 0), 300) := by kernel_rfl
theorem kn_a2 : fldR (0 : Int) (numF 0 4) ⟨#[172, 2, 5]⟩ 2 0 0 = ((⟨#[172, 2, 5]⟩, 2, 2, 2), 0) := by kernel_rfl
theorem kn_b : fldR (0 : Int) (numF 6 9) ⟨#[5]⟩ 0 0 0 = ((⟨#[5]⟩, 0, 2, 0), 0) := by kernel_rfl
theorem kn_c : fldR (0 : Int) (numF 9 6) ⟨#[5]⟩ 0 0 0 = ((⟨#[5]⟩, 0, 2, 0), 0) := by kernel_rfl
theorem kn_d : fldR (0 : Int) (numF 0 9) ⟨#[]⟩ 0 0 0 = ((⟨#[]⟩, 0, 5, 0), 0) := by kernel_rfl
theorem kn_e : fldR (⟨#[]⟩ : ByteArray) (sizF 1) ⟨#[2, 97, 98, 99]⟩ 0 0 0 = ((⟨#[2, 97, 98, 99]⟩, 0, 4, 0), ⟨#[]⟩) := by kernel_rfl
theorem kn_f : fldR ([] : List Int) (lstF 2 (-1) 2) ⟨#[2, 1, 4]⟩ 0 0 0 = ((⟨#[2, 1, 4]⟩, 3, 0, 0), [-1, 2]) := by kernel_rfl
theorem kn_g : fldR ([] : List Int) (lstF 2 (0) 2) ⟨#[2, 1, 4]⟩ 0 0 0 = ((⟨#[2, 1, 4]⟩, 0, 2, 1), []) := by kernel_rfl
theorem kn_h : fldR ([] : List Int) (lstF 1 (-1) 2) ⟨#[2, 1, 4]⟩ 0 0 0 = ((⟨#[2, 1, 4]⟩, 0, 4, 0), []) := by kernel_rfl
theorem kn_i : fldR ([] : List Int) (lstF 2 (-1) 2) ⟨#[2, 1]⟩ 0 0 0 = ((⟨#[2, 1]⟩, 0, 5, 2), []) := by kernel_rfl
theorem kn_j : fldR (⟨#[]⟩ : ByteArray) (fixF 1) ⟨#[97, 98]⟩ 0 0 0 = ((⟨#[97, 98]⟩, 1, 0, 0), ⟨#[97]⟩) := by kernel_rfl
theorem kn_k : fldR (⟨#[]⟩ : ByteArray) (fixF 3) ⟨#[97, 98]⟩ 0 0 0 = ((⟨#[97, 98]⟩, 0, 5, 0), ⟨#[]⟩) := by kernel_rfl
theorem kn_en : endF ⟨#[97]⟩ 0 0 0 = (4, 0) := by kernel_rfl
theorem km9 : cntw ⟨#[]⟩ 9 0 = (⟨#[]⟩, 9, 0) := by kernel_rfl
theorem km3 : cntw ⟨#[]⟩ 3 0 = (⟨#[]⟩, 3, 0) := by kernel_rfl
theorem ke_s1 : encS [⟨#[97]⟩, ⟨#[]⟩] = [1, 97, 0] := by
  rw [encS_cons, encS_cons, encS_nil, show ((⟨#[97]⟩ : ByteArray).size : Int) = 1 from rfl, show ((⟨#[]⟩ : ByteArray).size : Int) = 0 from rfl, digs_last (by omega), digs_last (by omega)]
  rfl
theorem ke_s2 : encS [⟨#[97, 98]⟩] = [2, 97, 98] := by
  rw [encS_cons, encS_nil, show ((⟨#[97, 98]⟩ : ByteArray).size : Int) = 2 from rfl, digs_last (by omega)]
  rfl
theorem ke_i : encI [-1, 2] = [2, 1, 4] := by
  unfold encI
  rw [show (([-1, 2] : List Int).length : Int) = 2 from rfl, show ([-1, 2] : List Int).map zg = [1, 4] from rfl, List.flatMap_cons, List.flatMap_cons, List.flatMap_nil, digs_last (by omega), digs_last (by omega), digs_last (by omega)]
  rfl
theorem kw_1 : addR ⟨#[]⟩ 9 0 (encS [⟨#[97]⟩, ⟨#[]⟩]) = (⟨#[1, 97, 0]⟩, 9, 0) := by rw [ke_s1]; kernel_rfl
theorem kw_2 : addR ⟨#[]⟩ 9 0 (encI [-1, 2]) = (⟨#[2, 1, 4]⟩, 9, 0) := by rw [ke_i]; kernel_rfl
theorem kw_3 : addR ⟨#[]⟩ 3 0 (encS [⟨#[97, 98]⟩]) = (⟨#[2, 97, 98]⟩, 3, 0) := by rw [ke_s2]; kernel_rfl
theorem kw_4 : addR ⟨#[2, 97, 98]⟩ 3 0 (⟨#[99]⟩ : ByteArray).data.toList = (⟨#[2, 97, 98]⟩, 3, 4) := by kernel_rfl
theorem kd_1 : doneW ⟨#[1, 97, 0]⟩ 9 0 = (⟨#[1, 97, 0]⟩, 0) := by kernel_rfl
theorem kd_2 : doneW ⟨#[2, 1, 4]⟩ 9 0 = (⟨#[2, 1, 4]⟩, 0) := by kernel_rfl
theorem kd_3 : doneW ⟨#[2, 97, 98]⟩ 3 4 = (⟨#[]⟩, 4) := by kernel_rfl
end Go.Proofs.Ytkepnjnindolbaa.s05
