/-
  Layer 13, plain: what a text is read as.
-/
import Derived.Test.YtddackdghphcnaaDoorS13T
import Derived.Test.YtddackdghphcnaaDoorS13F
namespace Go.Proofs.YtddackdghphcnaaDoor.s13
set_option linter.unusedVariables false
set_option linter.unusedSimpArgs false
open Go.RowKit
open kit

/-- a byte of a text, as a number -/
def byt (s : ByteArray) (i : Nat) : Int := ((s.data.toList.getD i 0).toNat : Int)
theorem byt_range (s : ByteArray) (i : Nat) : 0 ≤ byt s i ∧ byt s i ≤ 255 := by
  unfold byt
  have := (s.data.toList.getD i 0).toNat_lt
  omega
/-- whether a byte fits at a place -/
def fitZ (i : Nat) (z : Int) : Bool := if i % 2 = 0 then decide (48 ≤ z ∧ z ≤ 57) else decide (z = 32)
/-- digits, with a blank between two of them -/
def isDg (s : ByteArray) : Bool := decide (s.size % 2 = 1 ∧ ∀ i, i < s.size → fitZ i (byt s i) = true)
/-- the digits' values -/
def vals (s : ByteArray) : List Int := (List.range ((s.size + 1) / 2)).map fun j => byt s (2 * j) - 48
def parseE (s : ByteArray) : V5 × Int := if s = ⟨#[45]⟩ then (no5, 0) else if isDg s = false then (no5, 3) else ofP (vals s)
theorem isDg_no {s : ByteArray} (i : Nat) (hi : i < s.size) (h : fitZ i (byt s i) = false) : isDg s = false := by
  unfold isDg
  refine decide_eq_false ?_
  rintro ⟨_, h2⟩
  rw [h2 i hi] at h; cases h
theorem isDg_len {s : ByteArray} (h : ∀ i, i < s.size → fitZ i (byt s i) = true) : isDg s = decide (s.size % 2 = 1) := by
  unfold isDg
  exact decide_eq_decide.2 ⟨fun h1 => h1.1, fun h1 => ⟨h1, h⟩⟩
theorem fit_even {i : Nat} (h : i % 2 = 0) (z : Int) : fitZ i z = decide (48 ≤ z ∧ z ≤ 57) := by unfold fitZ; rw [if_pos h]
theorem fit_odd {i : Nat} (h : i % 2 = 1) (z : Int) : fitZ i z = decide (z = 32) := by unfold fitZ; rw [if_neg (by omega)]
end Go.Proofs.YtddackdghphcnaaDoor.s13
