/-
  Layer 5: what a reader and a writer count as; the program's small functions on a variable of four cells.
-/
import Derived.Test.YtkepnjnindolbaaS05X
import Derived.StillTailTactics
import Derived.Deep.RegionHeld3
import Derived.Defers
namespace Go.Proofs.Ytkepnjnindolbaa.s05
set_option linter.unusedVariables false
set_option linter.unusedSimpArgs false
open Go.RowKit
open kit

/-- a variable of four cells: a string, an error, its offset, a number -/
def Rb (w : World) (t : TypeId) (b : Nat) (s : ByteArray) (e o x : Int) : Prop := Box w t b #[.string s, .int .i64 e, .int .i64 o, .int .i64 x]
theorem Rb.cells {w : World} {t : TypeId} {b : Nat} {s : ByteArray} {e o x : Int} (h : Rb w t b s e o x) :
    w.cell? ⟨b, 0, none⟩ = some (.string s) ∧ w.cell? ⟨b, 1, none⟩ = some (.int .i64 e) ∧ w.cell? ⟨b, 2, none⟩ = some (.int .i64 o) ∧ w.cell? ⟨b, 3, none⟩ = some (.int .i64 x) := ⟨Box.cell h 0, Box.cell h 1, Box.cell h 2, Box.cell h 3⟩
theorem Rb.frees {w : World} {t : TypeId} {b : Nat} {s : ByteArray} {e o x : Int} (h : Rb w t b s e o x) :
    w.frozen? ⟨b, 0, none⟩ = false ∧ w.frozen? ⟨b, 1, none⟩ = false ∧ w.frozen? ⟨b, 2, none⟩ = false ∧ w.frozen? ⟨b, 3, none⟩ = false := ⟨Box.free h 0, Box.free h 1, Box.free h 2, Box.free h 3⟩
theorem Rb.below {w w1 : World} {t : TypeId} {b : Nat} {s : ByteArray} {e o x : Int} (h : Rb w t b s e o x) (hB : Below w.heap.size w w1) : Rb w1 t b s e o x := Box.below h hB
theorem Rb.lt {w : World} {t : TypeId} {b : Nat} {s : ByteArray} {e o x : Int} (h : Rb w t b s e o x) : b < w.heap.size := Box.lt h

/-- a valid reader -/
def vld (s : ByteArray) (p e o : Int) : Bool := decide (s.size ≤ 20000 ∧ 0 ≤ p ∧ p ≤ s.size ∧ 0 ≤ e ∧ e ≤ 31 ∧ 0 ≤ o ∧ (e = 0 → o = 0) ∧ o ≤ s.size)
/-- a reader as it counts: string, offset, error, its offset -/
def cnt (s : ByteArray) (p e o : Int) : ByteArray × Int × Int × Int := if vld s p e o = true then (s, p, e, o) else (⟨#[]⟩, 0, 10, 0)
/-- a valid writer -/
def vldw (s : ByteArray) (m e : Int) : Bool := decide (0 ≤ m ∧ m ≤ 20000 ∧ s.size ≤ m ∧ 0 ≤ e ∧ e ≤ 31)
/-- a writer as it counts: string, most, error -/
def cntw (s : ByteArray) (m e : Int) : ByteArray × Int × Int := if vldw s m e = true then (s, m, e) else (⟨#[]⟩, 0, 10)

theorem failed_any (t : TypeId) (b : Nat) (s : ByteArray) (e o x : Int) (v : Bool) (H : Hid ((e != 0) = v)) (w : World) (R : Hid (Rb w t b s e o x)) :
    Calls Try.prog 72 #[.pointer (some ⟨b, 0, none⟩)] w fun en w' => en = .returned (.bool v) ∧ w = w' := by
  obtain ⟨c0, c1, c2, c3⟩ := R.out.cells
  go_enter Try.func72, Try.ntmps72
  go_wp2
  go_ret
  exact ⟨ret_bool H.out, rfl⟩
theorem known_any (e : Int) (v : Bool) (H : Hid (decide (0 ≤ e ∧ e ≤ 31) = v)) (w : World) :
    Calls Try.prog 68 #[.int .i64 e] w fun en w' => en = .returned (.bool v) ∧ w = w' := by
  go_enter Try.func68, Try.ntmps68
  go_wp2
  all_goals
    go_ret
    exact ⟨ret_bool (by rw [← H.out, Bool.eq_iff_iff]; simp; omega), rfl⟩
theorem within_any (n last : Int) (v : Bool) (H : Hid (decide (0 ≤ n ∧ n ≤ last) = v)) (w : World) :
    Calls Try.prog 99 #[.int .i64 n, .int .i64 last] w fun en w' => en = .returned (.bool v) ∧ w = w' := by
  go_enter Try.func99, Try.ntmps99
  go_wp2
  all_goals
    go_ret
    exact ⟨ret_bool (by rw [← H.out, Bool.eq_iff_iff]; simp; omega), rfl⟩
theorem fits_any (t : TypeId) (b : Nat) (s : ByteArray) (e o x m : Int) (v : Bool) (hs : s.size ≤ 9223372036854775807) (H : Hid (decide ((s.size : Int) ≤ m ∧ 0 ≤ e ∧ e ≤ 31) = v)) (w : World) (R : Hid (Rb w t b s e o x)) :
    Calls Try.prog 98 #[.pointer (some ⟨b, 0, none⟩), .int .i64 m] w fun en w' => en = .returned (.bool v) ∧ w = w' := by
  obtain ⟨c0, c1, c2, c3⟩ := R.out.cells
  go_enter Try.func98, Try.ntmps98
  go_wp2_with (go_at_call 68; refine (known_any _ _ (Lib.hid rfl) _).mono ?_; rintro en w1 ⟨rfl, rfl⟩)
  all_goals
    go_ret
    exact ⟨ret_bool (by rw [← H.out, Bool.eq_iff_iff]; simp; omega), rfl⟩
end Go.Proofs.Ytkepnjnindolbaa.s05
