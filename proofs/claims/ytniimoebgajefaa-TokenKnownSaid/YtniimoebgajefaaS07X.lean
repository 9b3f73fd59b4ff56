/-
  Variables of two and of three cells, carried through calls and stores.
-/
import Derived.Test.YtniimoebgajefaaKit
import Derived.Test.YtniimoebgajefaaKitQuiet


namespace Go.Proofs.Ytniimoebgajefaa.s07
set_option linter.unusedVariables false
set_option linter.unusedSimpArgs false
open Go.RowKit
open kit

/-- block b is a variable of these cells -/
def Box (w : World) (t : TypeId) (b : Nat) (xs : Array Value) : Prop := w.heap[b]? = some (.cells xs t (0, 0))
theorem Box.new (w : World) (t : TypeId) (xs : Array Value) : Box (w.alloc (.cells xs t)) t w.heap.size xs := World.alloc_heap_new w _
theorem Box.lt {w : World} {t : TypeId} {b : Nat} {xs : Array Value} (h : Box w t b xs) : b < w.heap.size := (Array.getElem?_eq_some_iff.1 h).1
theorem Box.cell {w : World} {t : TypeId} {b : Nat} {xs : Array Value} (h : Box w t b xs) (i : Nat) : w.cell? ⟨b, i, none⟩ = xs[i]? := by
  unfold World.cell?; rw [show w.heap[b]? = _ from h]; rfl
theorem Box.free {w : World} {t : TypeId} {b : Nat} {xs : Array Value} (h : Box w t b xs) (i : Nat) : w.frozen? ⟨b, i, none⟩ = false := by
  unfold World.frozen?; rw [show w.heap[b]? = _ from h]; simp
theorem Box.below {w w1 : World} {t : TypeId} {b : Nat} {xs : Array Value} (h : Box w t b xs) (hB : Below w.heap.size w w1) : Box w1 t b xs := (hB.block b h.lt).trans h
theorem Box.alloc {w : World} {t : TypeId} {b : Nat} {xs : Array Value} (h : Box w t b xs) (o : Obj) : Box (w.alloc o) t b xs := (Below.heap_alloc w o b h.lt).trans h
theorem Box.set {w : World} {t : TypeId} {b : Nat} {xs : Array Value} (h : Box w t b xs) (i : Nat) (hi : i < xs.size) (u : Value) : Box (w.setCell ⟨b, i, none⟩ u) t b (xs.set i u) := by
  obtain ⟨hlt, hk⟩ := Array.getElem?_eq_some_iff.1 h
  show (w.heap.modify b _)[b]? = _
  rw [Array.getElem?_eq_getElem (by rw [Array.size_modify]; exact hlt), Array.getElem_modify_self, hk]
  simp [Array.set!_eq_setIfInBounds, Array.setIfInBounds, hi]
theorem Box.other {w : World} {t : TypeId} {b b' i : Nat} {xs : Array Value} (h : Box w t b xs) (hne : b ≠ b') (u : Value) : Box (w.setCell ⟨b', i, none⟩ u) t b xs :=
  (Below.heap_setCell _ _ _ _ hne).trans h
theorem Box.cell2 {w : World} {t : TypeId} {b : Nat} {x y : Value} (h : Box w t b #[x, y]) : w.cell? ⟨b, 0, none⟩ = some x ∧ w.cell? ⟨b, 1, none⟩ = some y := ⟨h.cell 0, h.cell 1⟩
theorem Box.cell3 {w : World} {t : TypeId} {b : Nat} {x y z : Value} (h : Box w t b #[x, y, z]) : w.cell? ⟨b, 0, none⟩ = some x ∧ w.cell? ⟨b, 1, none⟩ = some y ∧ w.cell? ⟨b, 2, none⟩ = some z := ⟨h.cell 0, h.cell 1, h.cell 2⟩
theorem Box.free2 {w : World} {t : TypeId} {b : Nat} {x y : Value} (h : Box w t b #[x, y]) : w.frozen? ⟨b, 0, none⟩ = false ∧ w.frozen? ⟨b, 1, none⟩ = false := ⟨h.free 0, h.free 1⟩
theorem Box.free3 {w : World} {t : TypeId} {b : Nat} {x y z : Value} (h : Box w t b #[x, y, z]) : w.frozen? ⟨b, 0, none⟩ = false ∧ w.frozen? ⟨b, 1, none⟩ = false ∧ w.frozen? ⟨b, 2, none⟩ = false := ⟨h.free 0, h.free 1, h.free 2⟩
/-- new blocks, and block b alone may have changed -/
def GB (b : Nat) (w w' : World) : Prop := w.grownBy w' (some b)
theorem GB.refl (b : Nat) (w : World) : GB b w w := World.grownBy.refl w _
theorem GB.trans {b : Nat} {w w1 w2 : World} (h : GB b w w1) (k : GB b w1 w2) : GB b w w2 := World.grownBy.trans h k
theorem GB.then {b : Nat} {w w1 w2 : World} (h : GB b w w1) (k : Below w1.heap.size w1 w2) : GB b w w2 := h.trans ⟨k.os, k.tape, k.output, k.size, fun i hi _ => k.block i hi⟩
theorem GB.alloc {b : Nat} {w w1 : World} (h : GB b w w1) (o : Obj) : GB b w (w1.alloc o) := h.then ((Below.refl _ _).alloc (Nat.le_refl _) o)
theorem GB.drewN {b : Nat} {w w1 : World} (h : GB b w w1) (n : Nat) : GB b w (w1.drewN n) := h.then (below_drewN (Below.refl _ _) n)
theorem GB.drew {b : Nat} {w w1 : World} (h : GB b w w1) : GB b w w1.drew := h.then (Below.refl _ _).drew
theorem GB.set {b : Nat} {w w1 : World} (h : GB b w w1) (i : Nat) (u : Value) : GB b w (w1.setCell ⟨b, i, none⟩ u) :=
  h.trans ⟨rfl, rfl, rfl, by simp, fun k _ hk => Below.heap_setCell _ _ _ _ (fun e => hk (by rw [e]))⟩
theorem GB.below {b B : Nat} {w w' : World} (h : GB b w w') (hB : B ≤ b) (hb : B ≤ w.heap.size) : Below B w w' := ⟨h.os, h.tape, h.output, h.size, fun k hk => h.block k (Nat.lt_of_lt_of_le hk hb) (fun e => by cases e; omega)⟩
theorem GB.box {w w1 : World} {t : TypeId} {b c : Nat} {xs : Array Value} (h : Box w t c xs) (hg : GB b w w1) (hne : c ≠ b) : Box w1 t c xs := (hg.block c h.lt (fun e => hne (by cases e; rfl))).trans h
end Go.Proofs.Ytniimoebgajefaa.s07
