/-
  Sorting: the pivot (slices.order2CmpFunc, medianCmpFunc, choosePivotCmpFunc at string).
-/
import Derived.Test.YtabcggmmdjeobaaDoorSrtK
namespace Go.Proofs.YtabcggmmdjeobaaDoor.srt
set_option linter.unusedVariables false
set_option linter.unusedSimpArgs false
open Go.RowKit
open kit s03
open Go.Sort (swp grow SWO PermIn SortedIn grow_empty grow_grow alloc_eq_grow size_swp)

/-- block q, not the row's, holds an int -/
def IntAt (B g q : Nat) (k : IntKind) (w : World) : Prop := B ≤ q ∧ q ≠ g ∧ ∃ (cs : Array Value) (t : TypeId) (m : Int), w.heap[q]? = some (.cells cs t (0, 0)) ∧ cs[0]? = some (.int k m)
variable {B g q : Nat} {k : IntKind} {w0 w : World} {d : Array ByteArray}
theorem IntAt.lt (h : IntAt B g q k w) : q < w.heap.size := by
  obtain ⟨_, _, cs, t, m, hb, _⟩ := h
  exact (Array.getElem?_eq_some_iff.1 hb).1
theorem IntAt.grown (h : IntAt B g q k w) (n : Nat) (os : Array Obj) : IntAt B g q k (grow (w.drewN n) os) := by
  have hl := h.lt
  obtain ⟨h1, h2, cs, t, m, hb, h3⟩ := h
  exact ⟨h1, h2, cs, t, m, by rw [Go.Sort.heap_grow_old _ _ (by exact hl)]; exact hb, h3⟩
theorem IntAt.drew (h : IntAt B g q k w) : IntAt B g q k w.drew := h
theorem IntAt.cell (h : IntAt B g q k w) : ∃ m : Int, w.cell? ⟨q, 0, none⟩ = some (.int k m) ∧ w.frozen? ⟨q, 0, none⟩ = false := by
  obtain ⟨h1, h2, cs, t, m, hb, h3⟩ := h
  refine ⟨m, ?_, ?_⟩
  · unfold World.cell?; rw [hb]; simpa using h3
  · unfold World.frozen?; rw [hb]; simp
theorem IntAt.set (h : IntAt B g q k w) (m : Int) : IntAt B g q k (w.setCell ⟨q, 0, none⟩ (.int k m)) := by
  obtain ⟨h1, h2, cs, t, m0, hb, h3⟩ := h
  obtain ⟨hlt, hv⟩ := Array.getElem?_eq_some_iff.1 hb
  refine ⟨h1, h2, cs.setIfInBounds 0 (.int k m), t, m, ?_, ?_⟩
  · show (w.heap.modify q _)[q]? = _
    rw [Array.getElem?_eq_getElem (by rw [Array.size_modify]; exact hlt), Array.getElem_modify_self, hv]
    simp
  · have : 0 < cs.size := (Array.getElem?_eq_some_iff.1 h3).1
    simp [this]
theorem IntAt.row (h : IntAt B g q k w) (i : Nat) (v : Value) : IntAt B g q k (w.setCell ⟨g, i, none⟩ v) := by
  obtain ⟨h1, h2, cs, t, m, hb, h3⟩ := h
  refine ⟨h1, h2, cs, t, m, ?_, h3⟩
  show (w.heap.modify g _)[q]? = _
  rw [Array.getElem?_modify, if_neg (by omega)]
  exact hb
theorem RowS.set_other (h : RowS B g w0 d w) (hq : B ≤ q) (hg : q ≠ g) (v : Value) : RowS B g w0 d (w.setCell ⟨q, 0, none⟩ v) := by
  obtain ⟨h1, h2, cs, hb, h3⟩ := h
  refine ⟨h1.setCell (p := ⟨q, 0, none⟩) hq v, h2, cs, ?_, h3⟩
  show (w.heap.modify q _)[g]? = _
  rw [Array.getElem?_modify, if_neg (by omega)]
  exact hb
theorem IntAt.new (h : RowS B g w0 d w) (m : Int) (t : TypeId) : IntAt B g w.heap.size k (w.alloc (.cells #[.int k m] t)) := by
  have hl := h.lt
  have hB := h.2.1
  exact ⟨by omega, by omega, #[.int k m], t, m, World.alloc_heap_new w _, rfl⟩

set_option maxRecDepth 100000 in
set_option maxHeartbeats 4000000 in
theorem order2_any (B g q cap a b : Nat) (w0 w : World) (d : Array ByteArray) (ha : a < d.size) (hb : b < d.size) (hsz : d.size ≤ 1000) (hR : RowS B g w0 d w) (hI : IntAt B g q .i64 w) :
    Calls Tryd.prog 77 #[.slice (some ⟨g, 0, none⟩) d.size cap, .int .i64 (a : Int), .int .i64 (b : Int), .pointer (some ⟨q, 0, none⟩), .func (.func 44) #[.agg #[]] #[]] w fun e w' => ∃ x y : Nat, e = .returned (.tuple #[.int .i64 (x : Int), .int .i64 (y : Int)]) ∧ ((x = a ∧ y = b) ∨ (x = b ∧ y = a)) ∧ RowS B g w0 d w' ∧ IntAt B g q .i64 w' := by
  have mx := mixed
  have R0 := row_hid hR
  have I0 := Lib.hid hI
  obtain ⟨n, hn⟩ : ∃ n, n = d.size := ⟨_, rfl⟩
  rw [← hn] at ha hb hsz ⊢
  have HN := Lib.hid hn
  have hs1 := hn.symm
  clear hR hn hI
  go_enter Tryd.func77, Tryd.ntmps77
  obtain ⟨x, hx⟩ : ∃ s, s = d[b]! := ⟨_, rfl⟩
  obtain ⟨y, hy⟩ : ∃ s, s = d[a]! := ⟨_, rfl⟩
  obtain ⟨cv, hcv⟩ : ∃ cv, cmpR x.data.toList y.data.toList = cv := ⟨_, rfl⟩
  by_cases hv : cv < 0
  · have hv' : decide (cv < 0) = true := decide_eq_true hv
    have lx := R0.out.cells b (by omega)
    have ly := R0.out.cells a (by omega)
    rw [← hx] at lx
    rw [← hy] at ly
    have hc := fun n os => cmp_grown x y w n os
    rw [hcv] at hc
    clear hx hy hcv
    go_wp2_with fail
    go_quiet_grown (first | (go_at_call 44; refine Calls.grown_of (hc _ _)))
    have R2 := row_hid (R0.out.grown nq osq)
    have I2 := Lib.hid (I0.out.grown nq osq)
    clear lx ly hc R0 I0 hs1
    generalize grow (w.drewN nq) osq = w2 at R2 I2 ⊢
    clear nq osq
    obtain ⟨m, hm, hf⟩ := I2.out.cell
    have R3 := fun v => row_hid (R2.out.set_other (q := q) I2.out.1 I2.out.2.1 v)
    have I3 := fun v => Lib.hid (I2.out.set v)
    clear R2 I2
    go_wp2
    go_ret2
    exact ⟨b, a, rfl, .inr ⟨rfl, rfl⟩, (R3 _).out, (I3 _).out⟩
  · have hv' : decide (cv < 0) = false := decide_eq_false hv
    have lx := R0.out.cells b (by omega)
    have ly := R0.out.cells a (by omega)
    rw [← hx] at lx
    rw [← hy] at ly
    have hc := fun n os => cmp_grown x y w n os
    rw [hcv] at hc
    clear hx hy hcv
    go_wp2_with fail
    go_quiet_grown (first | (go_at_call 44; refine Calls.grown_of (hc _ _)))
    have R2 := row_hid (R0.out.grown nq osq)
    have I2 := Lib.hid (I0.out.grown nq osq)
    clear lx ly hc R0 I0 hs1
    generalize grow (w.drewN nq) osq = w2 at R2 I2 ⊢
    clear nq osq
    go_wp2
    go_ret2
    exact ⟨a, b, rfl, .inl ⟨rfl, rfl⟩, R2.out, I2.out⟩
set_option maxRecDepth 100000 in
set_option maxHeartbeats 4000000 in
theorem median_any (B g q cap a b c : Nat) (w0 w : World) (d : Array ByteArray) (ha : a < d.size) (hb : b < d.size) (hc : c < d.size) (hsz : d.size ≤ 1000) (hR : RowS B g w0 d w) (hI : IntAt B g q .i64 w) :
    Calls Tryd.prog 75 #[.slice (some ⟨g, 0, none⟩) d.size cap, .int .i64 (a : Int), .int .i64 (b : Int), .int .i64 (c : Int), .pointer (some ⟨q, 0, none⟩), .func (.func 44) #[.agg #[]] #[]] w fun e w' => ∃ x : Nat, e = .returned (.int .i64 (x : Int)) ∧ (x = a ∨ x = b ∨ x = c) ∧ RowS B g w0 d w' ∧ IntAt B g q .i64 w' := by
  have R0 := row_hid hR
  have I0 := Lib.hid hI
  clear hR hI
  go_enter Tryd.func75, Tryd.ntmps75
  go_wp2_with (first
    | (go_at_call 77; (with_reducible refine (order2_any B g q cap a b w0 _ d ha hb hsz R0.out I0.out).mono ?_); rintro e w1 ⟨x1, y1, rfl, p1, r1, i1⟩; have R1 := row_hid r1; have I1 := Lib.hid i1; have P1 := Lib.hid p1; have bx1 : x1 < d.size := (by rcases p1 with ⟨h, _⟩ | ⟨h, _⟩ <;> omega); have by1 : y1 < d.size := (by rcases p1 with ⟨_, h⟩ | ⟨_, h⟩ <;> omega); clear r1 i1 p1 R0 I0)
    | (go_at_call 77; (with_reducible refine (order2_any B g q cap y1 c w0 _ d by1 hc hsz R1.out I1.out).mono ?_); rintro e w2 ⟨x2, y2, rfl, p2, r2, i2⟩; have R2 := row_hid r2; have I2 := Lib.hid i2; have P2 := Lib.hid p2; have bx2 : x2 < d.size := (by rcases p2 with ⟨h, _⟩ | ⟨h, _⟩ <;> omega); clear r2 i2 p2 R1 I1)
    | (go_at_call 77; (with_reducible refine (order2_any B g q cap x1 x2 w0 _ d bx1 bx2 hsz R2.out I2.out).mono ?_); rintro e w3 ⟨x3, y3, rfl, p3, r3, i3⟩; have R3 := row_hid r3; have I3 := Lib.hid i3; have P3 := Lib.hid p3; clear r3 i3 p3 R2 I2))
  go_ret
  refine ⟨y3, rfl, ?_, R3.out, I3.out⟩
  have p1 := P1.out
  have p2 := P2.out
  have p3 := P3.out
  omega
end Go.Proofs.YtabcggmmdjeobaaDoor.srt
