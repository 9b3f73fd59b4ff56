/-
  Layer 3: the order of strings; the reference's Compare, Find, Twice.
-/
import Derived.Test.YtndghjfgjkjbdaaS03A
import Derived.Test.YtndghjfgjkjbdaaKitTexts
namespace Go.Proofs.Ytndghjfgjkjbdaa.s03
set_option linter.unusedVariables false
set_option linter.unusedSimpArgs false
open Go.RowKit
open kit

/-- what Compare answers -/
def cmpR : List UInt8 → List UInt8 → Int
  | [], [] => 0
  | [], _ :: _ => -1
  | _ :: _, [] => 1
  | a :: x, b :: y => if a.toNat < b.toNat then -1 else if b.toNat < a.toNat then 1 else cmpR x y
theorem drop_at (s : ByteArray) (k : Nat) (h : k < s.size) : s.data.toList.drop k = s[k] :: s.data.toList.drop (k + 1) := by
  rw [List.drop_eq_getElem_cons (by simpa using h)]
  rfl
theorem drop_end (s : ByteArray) (k : Nat) (h : s.size ≤ k) : s.data.toList.drop k = [] := List.drop_eq_nil_of_le (by simpa using h)

/-- the place of the first such string -/
def idx : List ByteArray → ByteArray → Nat
  | [], _ => 0
  | x :: l, s => if x = s then 0 else idx l s + 1
/-- what Find answers: number, error -/
def findR (l : List ByteArray) (s : ByteArray) : Int × Int := if 100 < l.length then (0, 6) else if idx l s < l.length then (idx l s, 0) else (0, 7)
theorem idx_le (s : ByteArray) : ∀ l : List ByteArray, idx l s ≤ l.length := by
  intro l
  induction l with
  | nil => exact Nat.le_refl _
  | cons x l ih => unfold idx; split <;> simp; omega
theorem idx_at (s : ByteArray) : ∀ (l : List ByteArray) (k : Nat), k < l.length → (∀ j, j < k → l[j]?.getD ByteArray.empty ≠ s) → l[k]?.getD ByteArray.empty = s → idx l s = k := by
  intro l
  induction l with
  | nil => intro k h; simp at h
  | cons x l ih =>
    intro k h h1 h2
    cases k with
    | zero => unfold idx; rw [if_pos (by simpa using h2)]
    | succ k =>
      unfold idx
      rw [if_neg (by simpa using h1 0 (by omega)), ih k (by simpa using h) (fun j hj => by simpa using h1 (j + 1) (by omega)) (by simpa using h2)]
theorem idx_none (s : ByteArray) : ∀ (l : List ByteArray), (∀ j, j < l.length → l[j]?.getD ByteArray.empty ≠ s) → idx l s = l.length := by
  intro l
  induction l with
  | nil => intro _; rfl
  | cons x l ih =>
    intro h
    unfold idx
    rw [if_neg (by simpa using h 0 (by simp)), ih (fun j hj => by simpa using h (j + 1) (by simpa using hj))]
    rfl
/-- the first string that is equal to an earlier one: is there any below k? -/
def newAt (l : List ByteArray) (k : Nat) : Bool := decide (idx l (l[k]?.getD ByteArray.empty) = k)
/-- what Twice answers: number, found, error -/
def twiceR (l : List ByteArray) : Int × Bool × Int :=
  if 100 < l.length then (0, false, 6) else
    match (List.range l.length).find? (fun k => !newAt l k) with
    | some k => (k, true, 0)
    | none => (0, false, 0)
theorem idx_self (l : List ByteArray) (k : Nat) (h : k < l.length) : idx l (l[k]?.getD ByteArray.empty) ≤ k := by
  rcases Nat.lt_or_ge k (idx l (l[k]?.getD ByteArray.empty)) with hk | hk
  · exfalso
    have key : ∀ (l : List ByteArray) (s : ByteArray) (j : Nat), j < idx l s → l[j]?.getD ByteArray.empty ≠ s := by
      intro l s
      induction l with
      | nil => intro j hj; simp [idx] at hj
      | cons x l ih =>
        intro j hj
        unfold idx at hj
        by_cases hx : x = s
        · rw [if_pos hx] at hj; omega
        · rw [if_neg hx] at hj
          cases j with
          | zero => simpa using hx
          | succ j => simpa using ih j (by omega)
    exact key l _ k hk rfl
  · exact hk
theorem twice_yes {l : List ByteArray} {k : Nat} (hl : ¬ 100 < l.length) (hk : k < l.length) (h1 : ∀ j, j < k → newAt l j = true) (h2 : newAt l k = false) : twiceR l = ((k : Int), true, 0) := by
  have : (List.range l.length).find? (fun k => !newAt l k) = some k := by
    rw [List.find?_eq_some_iff_getElem]
    refine ⟨by simp [h2], k, by simpa using hk, by simp, fun j hj => ?_⟩
    simp [h1 j hj]
  unfold twiceR
  rw [if_neg hl, this]
theorem twice_no {l : List ByteArray} (hl : ¬ 100 < l.length) (h1 : ∀ j, j < l.length → newAt l j = true) : twiceR l = (0, false, 0) := by
  have : (List.range l.length).find? (fun k => !newAt l k) = none := by
    rw [List.find?_eq_none]
    intro k hk
    rw [h1 k (List.mem_range.1 hk)]
    decide
  unfold twiceR
  rw [if_neg hl, this]
end Go.Proofs.Ytndghjfgjkjbdaa.s03
