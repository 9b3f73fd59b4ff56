/-
  Layer 7: tokens that are placed, and placed again; their frames are read one after the other (of no program).
-/
import Derived.Test.YtniimoebgajefaaS07U
import Derived.Test.YtniimoebgajefaaS07K
namespace Go.Proofs.Ytniimoebgajefaa.s07
set_option linter.unusedVariables false
set_option linter.unusedSimpArgs false
open Go.RowKit
open kit

theorem firstE_zero {f : Li → Int} {l : List Li} (h : ∀ x ∈ l, f x = 0) : firstE f l = 0 := by
  induction l with
  | nil => rfl
  | cons x r ih =>
    unfold firstE
    rw [if_pos (h x (by simp))]
    exact ih fun y hy => h y (by simp [hy])
theorem allR_zero {f : Li → Int} {l : List Li} (hn : l.length ≤ 1000) (h : ∀ x ∈ l, f x = 0) : allR f l = 0 := by
  unfold allR; rw [if_neg (by omega)]; exact firstE_zero h
theorem placeL_twice (l : List Li) : ∀ a b, placeL b (placeL a l) = placeL b l := by
  induction l with
  | nil => intro a b; rfl
  | cons x r ih => intro a b; simp only [placeL, ih]
theorem endL_twice (l : List Li) : ∀ a b, endL b (placeL a l) = endL b l := by
  induction l with
  | nil => intro a b; rfl
  | cons x r ih => intro a b; simp only [placeL, endL, ih]
theorem placeL_mem (l : List Li) : ∀ (a : Int) (z : Li), z ∈ placeL a l → (∃ x ∈ l, z.1 = x.1 ∧ z.2.1 = x.2.1) ∧ a ≤ z.2.2 ∧ z.2.2 ≤ endL a l := by
  induction l with
  | nil => intro a z hz; cases hz
  | cons x r ih =>
    intro a z hz
    simp only [placeL, List.mem_cons] at hz
    rcases hz with rfl | hz
    · refine ⟨⟨x, by simp, rfl, rfl⟩, Int.le_refl _, ?_⟩
      have := endL_ge r (a + (2 + (x.2.1.size : Int)))
      simp only [endL]; omega
    · obtain ⟨⟨y, hy, h1, h2⟩, h3, h4⟩ := ih _ z hz
      refine ⟨⟨y, by simp [hy], h1, h2⟩, by omega, ?_⟩
      simp only [endL]; exact h4
theorem place_parts {l : List Li} {t a : Int} (h : ∀ x ∈ l, chkLP t x = 0) : ∀ z ∈ placeL a l, chkLP t z = 0 := by
  intro z hz
  obtain ⟨⟨x, hx, h1, h2⟩, _⟩ := placeL_mem l a z hz
  have := h x hx
  unfold chkLP at this ⊢
  rw [h1, h2]; exact this
theorem place_zero {l : List Li} {t a : Int} (hn : l.length ≤ 12) (h : ∀ x ∈ l, chkLP t x = 0) (a1 : 0 ≤ a) (a2 : a ≤ 1073741824) : placeR l t a = (placeL a l, 0) := by
  have he := endL_le l (fun x hx => chkLP_okB (h x hx)) a
  unfold placeR
  rw [allR_zero (by omega) h, if_pos rfl, if_neg (by omega), if_neg (by omega)]
theorem place_chk {l : List Li} {t a : Int} (hn : l.length ≤ 12) (h : ∀ x ∈ l, chkLP t x = 0) (a1 : 0 ≤ a) (a2 : a ≤ 1073741824) : ∀ z ∈ placeL a l, chkL t z = 0 := by
  intro z hz
  have he := endL_le l (fun x hx => chkLP_okB (h x hx)) a
  obtain ⟨_, h1, h2⟩ := placeL_mem l a z hz
  have h3 := place_parts (a := a) h z hz
  unfold chkL
  unfold chkLP at h3
  rw [chkR_of, if_pos h3, if_neg (by omega)]
theorem hd_place (x : Li) (r : List Li) (a : Int) : hdAt (placeL a (x :: r)) = a := rfl
theorem place_placed {l : List Li} {t a : Int} (hn : l.length ≤ 12) (h : ∀ x ∈ l, chkLP t x = 0) (a1 : 0 ≤ a) (a2 : a ≤ 1073741824) : placedR (placeL a l) t = 0 := by
  unfold placedR
  rw [allR_zero (by rw [placeL_len]; omega) (place_chk hn h a1 a2), if_pos rfl, if_pos]
  cases l with
  | nil => rfl
  | cons x r => rw [hd_place, placeL_twice]
theorem list_zero {l : List Li} {t : Int} (hn : l.length ≤ 1000) (h : ∀ x ∈ l, chkL t x = 0) : listR l t = (⟨(fL l).toArray⟩, 0) := by
  unfold listR; rw [allR_zero hn h, if_pos rfl]
theorem fL_cons (y p : Int) (x : ByteArray) (r : List Li) : (⟨(fL ((y, x, p) :: r)).toArray⟩ : ByteArray) = frm y x ++ ⟨(fL r).toArray⟩ := by
  apply bytes_ext
  rw [ByteArray.data_append, Array.toList_append]
  unfold fL
  rw [List.flatMap_cons]
  unfold fB
  simp
theorem rest_ext (f s : ByteArray) : (f ++ s).extract f.size (f ++ s).size = s := by
  apply bytes_ext
  rw [ByteArray.data_extract, Array.toList_extract, List.extract_eq_take_drop, ByteArray.data_append, Array.toList_append]
  have h1 : f.size = f.data.toList.length := (size_list f).symm
  have h2 : (f ++ s).size - f.size = s.data.toList.length := by rw [ByteArray.size_append, size_list]; omega
  rw [h2, h1]
  simp
  exact List.take_of_length_le (Nat.le_of_eq (size_list s))
end Go.Proofs.Ytniimoebgajefaa.s07
