/-
  Layer 4: the next lexeme, and all of a text's (of no program).
-/
import Derived.Test.YtjhmlmimgahnmaaDoorS04X
namespace Go.Proofs.YtjhmlmimgahnmaaDoor.s04
set_option linter.unusedVariables false
set_option linter.unusedSimpArgs false
open Go.RowKit
open kit

theorem passAt_ge (s : ByteArray) (k : Nat) : k ≤ passAt s k := by unfold passAt; omega
theorem passAt_le (s : ByteArray) (k : Nat) (h : k ≤ s.size) : passAt s k ≤ s.size := by
  unfold passAt
  have := passM_le (s.data.toList.drop k) false
  have e : (s.data.toList.drop k).length = s.size - k := by simp
  omega
theorem begR_le (s : ByteArray) (h : 0 < s.size) : (begR s).2 ≤ s.size := by
  unfold begR
  split
  · simp; omega
  · split
    · exact run_le _ _ _ h
    · split
      · split
        · simp
        · exact run_le _ _ _ h
      · simp
/-- a lexeme: its kind, its text, its place -/
abbrev Lx := Nat × ByteArray × Nat
abbrev lexV (x : Lx) : Value := .agg #[.int .i64 (x.1 : Int), .string x.2.1, .int .i64 (x.2.2 : Int)]
/-- the lexeme that begins at k -/
def lexAt (s : ByteArray) (k : Nat) : Lx := ((begR (s.extract k s.size)).1, (s.extract k s.size).extract 0 (begR (s.extract k s.size)).2, k)
def noLx : Lx := (0, ByteArray.empty, 0)
/-- the next lexeme behind a place: the lexeme, where it ends, the fault and its place -/
def nextR (s : ByteArray) (i : Int) : Lx × Nat × Nat × Nat :=
  if i < 0 ∨ (s.size : Int) < i then (noLx, 0, 2, 0)
  else if passAt s i.toNat = s.size then (noLx, 0, 5, passAt s i.toNat)
  else if (lexAt s (passAt s i.toNat)).1 = 0 then (noLx, 0, 3, passAt s i.toNat)
  else (lexAt s (passAt s i.toNat), passAt s i.toNat + (lexAt s (passAt s i.toNat)).2.1.size, 0, 0)
theorem nextret {x x' : Lx} {n n' e e' a a' : Nat} (h : (x', n', e', a') = (x, n, e, a)) : Ending.returned (.tuple #[.agg #[.int .i64 (x.1 : Int), .string x.2.1, .int .i64 (x.2.2 : Int)], .int .i64 (n : Int), .agg #[.int .i64 (e : Int), .int .i64 (a : Int)]]) = .returned (.tuple #[lexV x', .int .i64 n', .agg #[.int .i64 (e' : Int), .int .i64 (a' : Int)]]) := by
  simp only [Prod.mk.injEq] at h
  obtain ⟨rfl, rfl, rfl, rfl⟩ := h
  rfl
theorem Box.new2 (w : World) (o : Obj) (t : TypeId) (xs : Array Value) : Box ((w.alloc o).alloc (.cells xs t)) t (w.heap.size + 1) xs := by
  have h := Box.new (w.alloc o) t xs
  rwa [show (w.alloc o).heap.size = w.heap.size + 1 from Array.size_push ..] at h
theorem lt_two {w w2 : World} {o o' : Obj} (h : Below ((w.alloc o).alloc o').heap.size ((w.alloc o).alloc o') w2) : w.heap.size + 1 < w2.heap.size := by
  have := h.size
  have e : ((w.alloc o).alloc o').heap.size = w.heap.size + 1 + 1 := (Array.size_push ..).trans (congrArg (· + 1) (Array.size_push ..))
  omega
theorem below_two {w w2 : World} {o o' : Obj} (h : Below ((w.alloc o).alloc o').heap.size ((w.alloc o).alloc o') w2) : Below w.heap.size w w2 := below_alloc_then (Below.refl _ _) (below_alloc_then (Below.refl _ _) h)
theorem Box.drew {w : World} {t : TypeId} {b : Nat} {xs : Array Value} (h : Box w t b xs) : Box w.drew t b xs := h
end Go.Proofs.YtjhmlmimgahnmaaDoor.s04
