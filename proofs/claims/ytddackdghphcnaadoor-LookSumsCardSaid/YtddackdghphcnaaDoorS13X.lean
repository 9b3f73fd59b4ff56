/-
  Variables of some cells, carried through calls and stores.
-/
import Derived.Test.YtddackdghphcnaaDoorKit
import Derived.Test.YtddackdghphcnaaDoorKitQuiet
import Derived.Lib.SliceRun


namespace Go.Proofs.YtddackdghphcnaaDoor.s13
set_option linter.unusedVariables false
set_option linter.unusedSimpArgs false
open Go.RowKit
open kit

/-- block b is a variable of these cells -/
def Box (w : World) (t : TypeId) (b : Nat) (xs : Array Value) : Prop := w.heap[b]? = some (.cells xs t (0, 0))
theorem Box.new (w : World) (t : TypeId) (xs : Array Value) : Box (w.alloc (.cells xs t)) t w.heap.size xs := World.alloc_heap_new w _
theorem Box.lt {w : World} {t : TypeId} {b : Nat} {xs : Array Value} (h : Box w t b xs) : b < w.heap.size := (Array.getElem?_eq_some_iff.1 h).1
theorem Box.cell {w : World} {t : TypeId} {b : Nat} {xs : Array Value} (h : Box w t b xs) (i : Nat) : w.cell? ⟨b, i, none⟩ = xs[i]? := by
  unfold World.cell?; rw [show w.heap[b]? = _ from h]; rfl
theorem Box.free {w : World} {t : TypeId} {b : Nat} {xs : Array Value} (h : Box w t b xs) (i : Nat) : w.frozen? ⟨b, i, none⟩ = false := by
  unfold World.frozen?; rw [show w.heap[b]? = _ from h]; simp
theorem Box.below {w w1 : World} {t : TypeId} {b : Nat} {xs : Array Value} (h : Box w t b xs) (hB : Below w.heap.size w w1) : Box w1 t b xs := (hB.block b h.lt).trans h
theorem Box.alloc {w : World} {t : TypeId} {b : Nat} {xs : Array Value} (h : Box w t b xs) (o : Obj) : Box (w.alloc o) t b xs := (Below.heap_alloc w o b h.lt).trans h
theorem Box.set {w : World} {t : TypeId} {b : Nat} {xs : Array Value} (h : Box w t b xs) (i : Nat) (hi : i < xs.size) (u : Value) : Box (w.setCell ⟨b, i, none⟩ u) t b (xs.set i u) := by
  obtain ⟨hlt, hk⟩ := Array.getElem?_eq_some_iff.1 h
  show (w.heap.modify b _)[b]? = _
  rw [Array.getElem?_eq_getElem (by rw [Array.size_modify]; exact hlt), Array.getElem_modify_self, hk]
  simp [Array.set!_eq_setIfInBounds, Array.setIfInBounds, hi]
theorem Box.other {w : World} {t : TypeId} {b b' i : Nat} {xs : Array Value} (h : Box w t b xs) (hne : b ≠ b') (u : Value) : Box (w.setCell ⟨b', i, none⟩ u) t b xs :=
  (Below.heap_setCell _ _ _ _ hne).trans h
theorem Box.cell2 {w : World} {t : TypeId} {b : Nat} {x y : Value} (h : Box w t b #[x, y]) : w.cell? ⟨b, 0, none⟩ = some x ∧ w.cell? ⟨b, 1, none⟩ = some y := ⟨h.cell 0, h.cell 1⟩
theorem Box.cell3 {w : World} {t : TypeId} {b : Nat} {x y z : Value} (h : Box w t b #[x, y, z]) : w.cell? ⟨b, 0, none⟩ = some x ∧ w.cell? ⟨b, 1, none⟩ = some y ∧ w.cell? ⟨b, 2, none⟩ = some z := ⟨h.cell 0, h.cell 1, h.cell 2⟩
theorem Box.free2 {w : World} {t : TypeId} {b : Nat} {x y : Value} (h : Box w t b #[x, y]) : w.frozen? ⟨b, 0, none⟩ = false ∧ w.frozen? ⟨b, 1, none⟩ = false := ⟨h.free 0, h.free 1⟩
theorem Box.free3 {w : World} {t : TypeId} {b : Nat} {x y z : Value} (h : Box w t b #[x, y, z]) : w.frozen? ⟨b, 0, none⟩ = false ∧ w.frozen? ⟨b, 1, none⟩ = false ∧ w.frozen? ⟨b, 2, none⟩ = false := ⟨h.free 0, h.free 1, h.free 2⟩
theorem Box.drew {w : World} {t : TypeId} {b : Nat} {xs : Array Value} (h : Box w t b xs) : Box w.drew t b xs := h
theorem Box.drewN {w : World} {t : TypeId} {b : Nat} {xs : Array Value} (h : Box w t b xs) (n : Nat) : Box (w.drewN n) t b xs := h
theorem Box.cell5 {w : World} {t : TypeId} {b : Nat} {x0 x1 x2 x3 x4 : Value} (h : Box w t b #[x0, x1, x2, x3, x4]) : w.cell? ⟨b, 0, none⟩ = some x0 ∧ w.cell? ⟨b, 1, none⟩ = some x1 ∧ w.cell? ⟨b, 2, none⟩ = some x2 ∧ w.cell? ⟨b, 3, none⟩ = some x3 ∧ w.cell? ⟨b, 4, none⟩ = some x4 := ⟨h.cell 0, h.cell 1, h.cell 2, h.cell 3, h.cell 4⟩
theorem Box.free5 {w : World} {t : TypeId} {b : Nat} {x0 x1 x2 x3 x4 : Value} (h : Box w t b #[x0, x1, x2, x3, x4]) : w.frozen? ⟨b, 0, none⟩ = false ∧ w.frozen? ⟨b, 1, none⟩ = false ∧ w.frozen? ⟨b, 2, none⟩ = false ∧ w.frozen? ⟨b, 3, none⟩ = false ∧ w.frozen? ⟨b, 4, none⟩ = false := ⟨h.free 0, h.free 1, h.free 2, h.free 3, h.free 4⟩
/-- the places of a look, by number -/
def pl (a b c d : Int) (i : Nat) : Int := if i = 0 then a else if i = 1 then b else if i = 2 then c else if i = 3 then d else 0
theorem Box.place {w : World} {t : TypeId} {g : Nat} {x : Value} {a b c d : Int} (h : Box w t g #[x, .int .i64 a, .int .i64 b, .int .i64 c, .int .i64 d]) (i : Nat) (hi : i < 4) : w.cell? ⟨g, 1 + i, none⟩ = some (.int .i64 (pl a b c d i)) := by
  rw [h.cell (1 + i)]
  match i, hi with
  | 0, _ => rfl
  | 1, _ => rfl
  | 2, _ => rfl
  | 3, _ => rfl
theorem Box.put5 {w : World} {t : TypeId} {b : Nat} {x0 x1 x2 x3 x4 : Value} (h : Box w t b #[x0, x1, x2, x3, x4]) (u0 u1 u2 u3 u4 : Value) : Box (((((w.setCell ⟨b, 0, none⟩ u0).setCell ⟨b, 1, none⟩ u1).setCell ⟨b, 2, none⟩ u2).setCell ⟨b, 3, none⟩ u3).setCell ⟨b, 4, none⟩ u4) t b #[u0, u1, u2, u3, u4] :=
  ((((h.set 0 (by simp) u0).set 1 (by simp) u1).set 2 (by simp) u2).set 3 (by simp) u3).set 4 (by simp) u4
theorem Box.far5 {w : World} {t : TypeId} {b b' : Nat} {xs : Array Value} (h : Box w t b xs) (hne : b ≠ b') (u0 u1 u2 u3 u4 : Value) : Box (((((w.setCell ⟨b', 0, none⟩ u0).setCell ⟨b', 1, none⟩ u1).setCell ⟨b', 2, none⟩ u2).setCell ⟨b', 3, none⟩ u3).setCell ⟨b', 4, none⟩ u4) t b xs :=
  ((((h.other hne u0).other hne u1).other hne u2).other hne u3).other hne u4
theorem below_put5 {B b : Nat} {w w1 : World} (h : Below B w w1) (hb : B ≤ b) (u0 u1 u2 u3 u4 : Value) : Below B w (((((w1.setCell ⟨b, 0, none⟩ u0).setCell ⟨b, 1, none⟩ u1).setCell ⟨b, 2, none⟩ u2).setCell ⟨b, 3, none⟩ u3).setCell ⟨b, 4, none⟩ u4) :=
  ((((h.setCell (p := ⟨b, 0, none⟩) hb u0).setCell (p := ⟨b, 1, none⟩) hb u1).setCell (p := ⟨b, 2, none⟩) hb u2).setCell (p := ⟨b, 3, none⟩) hb u3).setCell (p := ⟨b, 4, none⟩) hb u4
theorem zero_int (w : World) : (zeroValue 3).run Tryd.prog w = .ok (.int .i64 0) w := by kernel_rfl
/-- clear, from place m on -/
theorem clear_box {w : World} {g : Nat} {x : Value} {a b c d : Int} (m : Nat) (hm : m < 4) (h : Box w 25 g #[x, .int .i64 a, .int .i64 b, .int .i64 c, .int .i64 d]) :
    ∃ W, (∀ ty, (Builtin.clear_ #[22] ty #[.slice (some ⟨g, 1 + m, none⟩) (4 - m) (4 - m)]).run Tryd.prog w = .ok (.tuple #[]) W) ∧
      Box W 25 g #[x, .int .i64 (if 0 < m then a else 0), .int .i64 (if 1 < m then b else 0), .int .i64 (if 2 < m then c else 0), .int .i64 0] ∧
      (∀ t' g' xs, g' ≠ g → Box w t' g' xs → Box W t' g' xs) ∧ (∀ B w0, B ≤ g → Below B w0 w → Below B w0 W) ∧ W.heap.size = w.heap.size := by
  have hcl := fun ty => Lib.run_clear_slice (P := Tryd.prog) w 22 3 ty (.int .i64 0) Tryd.underlying22 zero_int rfl rfl g (1 + m) (4 - m) (4 - m) (by omega) (fun j hj => by rw [show 1 + m + j = 1 + (m + j) by omega, h.place (m + j) (by omega)]; rfl) (fun j hj => h.free _)
  have hs : ∀ (v : World) (p : Addr) (u : Value), (v.setCell p u).heap.size = v.heap.size := fun v p u => by simp
  have hmm : m = 0 ∨ m = 1 ∨ m = 2 ∨ m = 3 := by omega
  rcases hmm with rfl | rfl | rfl | rfl
  · exact ⟨_, hcl, ((((h.set 1 (by simp) (.int .i64 0)).set 2 (by simp) (.int .i64 0)).set 3 (by simp) (.int .i64 0)).set 4 (by simp) (.int .i64 0)), fun t' g' xs hne hb => (((hb.other hne _).other hne _).other hne _).other hne _, fun B w0 hB hb => (((hb.setCell (p := ⟨g, 1, none⟩) hB _).setCell (p := ⟨g, 2, none⟩) hB _).setCell (p := ⟨g, 3, none⟩) hB _).setCell (p := ⟨g, 4, none⟩) hB _, (hs _ _ _).trans ((hs _ _ _).trans ((hs _ _ _).trans (hs _ _ _)))⟩
  · exact ⟨_, hcl, (((h.set 2 (by simp) (.int .i64 0)).set 3 (by simp) (.int .i64 0)).set 4 (by simp) (.int .i64 0)), fun t' g' xs hne hb => ((hb.other hne _).other hne _).other hne _, fun B w0 hB hb => ((hb.setCell (p := ⟨g, 2, none⟩) hB _).setCell (p := ⟨g, 3, none⟩) hB _).setCell (p := ⟨g, 4, none⟩) hB _, (hs _ _ _).trans ((hs _ _ _).trans (hs _ _ _))⟩
  · exact ⟨_, hcl, ((h.set 3 (by simp) (.int .i64 0)).set 4 (by simp) (.int .i64 0)), fun t' g' xs hne hb => (hb.other hne _).other hne _, fun B w0 hB hb => (hb.setCell (p := ⟨g, 3, none⟩) hB _).setCell (p := ⟨g, 4, none⟩) hB _, (hs _ _ _).trans (hs _ _ _)⟩
  · exact ⟨_, hcl, (h.set 4 (by simp) (.int .i64 0)), fun t' g' xs hne hb => hb.other hne _, fun B w0 hB hb => hb.setCell (p := ⟨g, 4, none⟩) hB _, hs _ _ _⟩
/-- new blocks, and block b alone may have changed -/
def GB (b : Nat) (w w' : World) : Prop := w.grownBy w' (some b)
theorem GB.refl (b : Nat) (w : World) : GB b w w := World.grownBy.refl w _
theorem GB.trans {b : Nat} {w w1 w2 : World} (h : GB b w w1) (k : GB b w1 w2) : GB b w w2 := World.grownBy.trans h k
theorem GB.then {b : Nat} {w w1 w2 : World} (h : GB b w w1) (k : Below w1.heap.size w1 w2) : GB b w w2 := h.trans ⟨k.os, k.tape, k.output, k.size, fun i hi _ => k.block i hi⟩
theorem GB.alloc {b : Nat} {w w1 : World} (h : GB b w w1) (o : Obj) : GB b w (w1.alloc o) := h.then ((Below.refl _ _).alloc (Nat.le_refl _) o)
theorem GB.drewN {b : Nat} {w w1 : World} (h : GB b w w1) (n : Nat) : GB b w (w1.drewN n) := h.then (below_drewN (Below.refl _ _) n)
theorem GB.drew {b : Nat} {w w1 : World} (h : GB b w w1) : GB b w w1.drew := h.then (Below.refl _ _).drew
theorem GB.set {b : Nat} {w w1 : World} (h : GB b w w1) (i : Nat) (u : Value) : GB b w (w1.setCell ⟨b, i, none⟩ u) :=
  h.trans ⟨rfl, rfl, rfl, by simp, fun k _ hk => Below.heap_setCell _ _ _ _ (fun e => hk (by rw [e]))⟩
theorem GB.below {b B : Nat} {w w' : World} (h : GB b w w') (hB : B ≤ b) (hb : B ≤ w.heap.size) : Below B w w' := ⟨h.os, h.tape, h.output, h.size, fun k hk => h.block k (Nat.lt_of_lt_of_le hk hb) (fun e => by cases e; omega)⟩
theorem GB.box {w w1 : World} {t : TypeId} {b c : Nat} {xs : Array Value} (h : Box w t c xs) (hg : GB b w w1) (hne : c ≠ b) : Box w1 t c xs := (hg.block c h.lt (fun e => hne (by cases e; rfl))).trans h
end Go.Proofs.YtddackdghphcnaaDoor.s13
