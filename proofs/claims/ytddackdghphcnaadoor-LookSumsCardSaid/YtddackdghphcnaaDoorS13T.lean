/-
  Layer 13, plain: texts of looks.
-/
import Derived.Test.YtddackdghphcnaaDoorS13D
import Derived.Lib.Join
namespace Go.Proofs.YtddackdghphcnaaDoor.s13
set_option linter.unusedVariables false
set_option linter.unusedSimpArgs false
open Go.RowKit
open kit

/-- a terminal's digit -/
def dg (z : Int) : UInt8 := UInt8.ofNat (48 + z.toNat)
def txB : List Int → List UInt8
  | [] => []
  | [x] => [dg x]
  | x :: y :: r => dg x :: 32 :: txB (y :: r)
def txt (l : List Int) : ByteArray := if l.length = 0 then ⟨#[45]⟩ else ⟨(txB l).toArray⟩
theorem join_tx (l : List Int) : Lib.join (l.map fun z => [dg z]) [32] = txB l := by
  have key : ∀ (l : List Int) (x : Int), dg x :: Lib.joinTail [32] (l.map fun z => [dg z]) = txB (x :: l) := by
    intro l
    induction l with
    | nil => intro x; rfl
    | cons y r ih =>
      intro x
      have := ih y
      simp only [Lib.joinTail, List.map_cons, List.flatten_cons] at this ⊢
      simp only [txB]
      rw [← this]
      rfl
  cases l with
  | nil => rfl
  | cons x r =>
    rw [List.map_cons, Lib.join_cons]
    exact key r x
theorem txB_snoc (l : List Int) (z : Int) : txB (l ++ [z]) = (if l.length = 0 then [] else txB l ++ [32]) ++ [dg z] := by
  induction l with
  | nil => rfl
  | cons x r ih =>
    rw [if_neg (by simp)]
    cases r with
    | nil => rfl
    | cons y r =>
      rw [if_neg (by simp)] at ih
      have e : (x :: y :: r) ++ [z] = x :: y :: (r ++ [z]) := rfl
      have e2 : (y :: r) ++ [z] = y :: (r ++ [z]) := rfl
      rw [e2] at ih
      rw [e]
      simp only [txB]
      rw [ih]
      simp
theorem txB_len (l : List Int) : (txB l).length = if l.length = 0 then 0 else 2 * l.length - 1 := by
  induction l with
  | nil => rfl
  | cons x r ih =>
    cases r with
    | nil => rfl
    | cons y r =>
      simp only [txB, List.length_cons] at ih ⊢
      rw [if_neg (by omega)] at ih ⊢
      omega
theorem txB_at (l : List Int) : ∀ i, i < 2 * l.length - 1 → (txB l)[i]? = some (if i % 2 = 0 then dg (l[i / 2]?.getD 0) else 32) := by
  induction l with
  | nil => intro i hi; simp at hi
  | cons x r ih =>
    intro i hi
    cases r with
    | nil =>
      have : i = 0 := by simp at hi; omega
      subst this; rfl
    | cons y r =>
      simp only [txB]
      match i with
      | 0 => rfl
      | 1 => rfl
      | i + 2 =>
        have h := ih i (by simp only [List.length_cons] at hi ⊢; omega)
        rw [List.getElem?_cons_succ, List.getElem?_cons_succ, h]
        rw [show (i + 2) % 2 = i % 2 by omega, show (i + 2) / 2 = i / 2 + 1 by omega, List.getElem?_cons_succ]
def txtE (x : V5) : ByteArray × Int := if chkP x.1 x.2.1 x.2.2.1 x.2.2.2.1 x.2.2.2.2 8 ≠ 0 then (⟨#[]⟩, chkP x.1 x.2.1 x.2.2.1 x.2.2.2.1 x.2.2.2.2 8) else (txt (lst x), 0)
theorem txt_size (l : List Int) (hl : l.length ≤ 4) : (txt l).size ≤ 7 := by
  unfold txt
  by_cases h : l.length = 0
  · rw [if_pos h]; decide
  · rw [if_neg h]
    show (txB l).toArray.size ≤ 7
    rw [List.size_toArray, txB_len, if_neg h]; omega
end Go.Proofs.YtddackdghphcnaaDoor.s13
