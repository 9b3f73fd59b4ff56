/-
  Sorting a row of strings of the call's own with the method value: the row in a world; what each step keeps of it.
-/
import Derived.Test.YtabcggmmdjeobaaDoorS03PD
import Derived.Test.YtabcggmmdjeobaaDoorS03D
import Derived.BigRegion
import Derived.Sort.AssemblyPlain
import Derived.Shelf.SlSortCmp.QuietGrown
namespace Go.Proofs.YtabcggmmdjeobaaDoor.srt
set_option linter.unusedVariables false
set_option linter.unusedSimpArgs false
open Go.RowKit
open kit s03
open Go.Sort (swp grow SWO PermIn SortedIn insInner insOuter insertionSort grow_empty grow_grow alloc_eq_grow size_swp swp_other)

theorem mixed : Tryd.prog.follows .mixedOrders = true := by kernel_rfl
/-- comes the one before the other? -/
def ltS (x y : ByteArray) : Bool := decide (cmpR x.data.toList y.data.toList < 0)
theorem ltS_true {x y : ByteArray} (h : cmpR x.data.toList y.data.toList < 0) : ltS x y = true := decide_eq_true h
theorem ltS_false {x y : ByteArray} (h : ¬ cmpR x.data.toList y.data.toList < 0) : ltS x y = false := decide_eq_false h
theorem swoS : SWO ltS where
  irrefl x := ltS_false (by rw [cmp_self]; decide)
  trans x y z h1 h2 := by
    have h1 := of_decide_eq_true h1
    have h2 := of_decide_eq_true h2
    refine ltS_true ?_
    have h3 := cmp_trans x.data.toList y.data.toList z.data.toList (by omega) (by omega)
    by_cases h : cmpR x.data.toList z.data.toList = 0
    · have e := cmp_eq _ _ h
      rw [← e] at h2
      have := cmp_neg x.data.toList y.data.toList
      omega
    · omega
  ntrans x y z h1 h2 := by
    have h1 := of_decide_eq_false h1
    have h2 := of_decide_eq_false h2
    refine ltS_false ?_
    have a1 := cmp_neg x.data.toList y.data.toList
    have a2 := cmp_neg y.data.toList z.data.toList
    have a3 := cmp_neg x.data.toList z.data.toList
    have h3 := cmp_trans z.data.toList y.data.toList x.data.toList (by omega) (by omega)
    omega
theorem ltS_total (x y : ByteArray) (h1 : ltS x y = false) (h2 : ltS y x = false) : x = y := by
  have h1 := of_decide_eq_false h1
  have h2 := of_decide_eq_false h2
  have a1 := cmp_neg x.data.toList y.data.toList
  exact bytes_ext (cmp_eq _ _ (by omega))

/-- block g, a row of the call's own (all below B is as in w0), begins with d -/
def RowS (B g : Nat) (w0 : World) (d : Array ByteArray) (w : World) : Prop :=
  Below B w0 w ∧ B ≤ g ∧ ∃ cs, w.heap[g]? = some (.cells cs 9 (0, 0)) ∧ d.size ≤ cs.size ∧ ∀ i, i < d.size → cs[i]? = some (.string d[i]!)
variable {B g : Nat} {w0 w : World} {d : Array ByteArray}
theorem RowS.lt (h : RowS B g w0 d w) : g < w.heap.size := by
  obtain ⟨_, _, cs, hb, _⟩ := h
  exact (Array.getElem?_eq_some_iff.1 hb).1
theorem RowS.cell (h : RowS B g w0 d w) (i : Nat) (hi : i < d.size) : w.cell? ⟨g, i, none⟩ = some (.string d[i]!) := by
  obtain ⟨_, _, cs, hb, h1, h2⟩ := h
  unfold World.cell?
  rw [hb]
  simpa using h2 i hi
theorem RowS.frozen (h : RowS B g w0 d w) (i : Nat) (hi : i < d.size) : w.frozen? ⟨g, i, none⟩ = false := by
  obtain ⟨_, _, cs, hb, h1, h2⟩ := h
  unfold World.frozen?
  rw [hb]
  simp
theorem RowS.grown (h : RowS B g w0 d w) (n : Nat) (os : Array Obj) : RowS B g w0 d (grow (w.drewN n) os) := by
  have hl := h.lt
  obtain ⟨hB, hg, cs, hb, h1, h2⟩ := h
  refine ⟨hB.trans ((Lib.below_grow w.heap.size w (Nat.le_refl _) n os).mono (by omega)), hg, cs, ?_, h1, h2⟩
  rw [Go.Sort.heap_grow_old _ _ (by exact hl)]
  exact hb
theorem RowS.drew (h : RowS B g w0 d w) : RowS B g w0 d w.drew := by
  have := h.grown 1 #[]
  rwa [grow_empty] at this
theorem RowS.alloc (h : RowS B g w0 d w) (o : Obj) : RowS B g w0 d (w.alloc o) := by
  have := h.grown 0 #[o]
  rw [alloc_eq_grow]
  exact this
theorem RowS.cells (h : RowS B g w0 d w) (i : Nat) (hi : i < d.size) (n : Nat) (os : Array Obj) : (grow (w.drewN n) os).cell? ⟨g, i, none⟩ = some (.string d[i]!) := (h.grown n os).cell i hi
theorem RowS.set (h : RowS B g w0 d w) (i : Nat) (hi : i < d.size) (x : ByteArray) : RowS B g w0 (d.setIfInBounds i x) (w.setCell ⟨g, i, none⟩ (.string x)) := by
  have hl := h.lt
  obtain ⟨hB, hg, cs, hb, h1, h2⟩ := h
  obtain ⟨hlt, hv⟩ := Array.getElem?_eq_some_iff.1 hb
  refine ⟨hB.setCell (p := ⟨g, i, none⟩) hg (.string x), hg, cs.setIfInBounds i (.string x), ?_, by simpa using h1, fun j hj => ?_⟩
  · show (w.heap.modify g _)[g]? = _
    rw [Array.getElem?_eq_getElem (by rw [Array.size_modify]; exact hlt), Array.getElem_modify_self, hv]
    simp
  · have hj : j < d.size := by simpa using hj
    rw [Array.getElem?_setIfInBounds, getElem!_pos _ j (by simpa using hj), Array.getElem_setIfInBounds hj]
    by_cases e : i = j
    · subst e; simp [Nat.lt_of_lt_of_le hi h1]
    · rw [if_neg e, if_neg e, h2 j hj, getElem!_pos d j hj]
theorem RowS.swap (h : RowS B g w0 d w) (i j : Nat) (hi : i < d.size) (hj : j < d.size) : RowS B g w0 (swp d i j) ((w.setCell ⟨g, i, none⟩ (.string d[j]!)).setCell ⟨g, j, none⟩ (.string d[i]!)) :=
  (h.set i hi d[j]!).set j (by simpa using hj) d[i]!
theorem RowS.c2 (h : RowS B g w0 d w) (i j : Nat) (hi : i < d.size) (hj : j < d.size) (x : ByteArray) : ∃ u, (w.setCell ⟨g, i, none⟩ (.string x)).cell? ⟨g, j, none⟩ = some u :=
  ⟨_, (h.set i hi x).cell j (by simpa using hj)⟩
/-- the function value -/
abbrev fv : Value := .func (.func 44) #[.agg #[]] #[]
theorem cmp_grown (x y : ByteArray) (w : World) (n : Nat) (os : Array Obj) : Calls Tryd.prog 44 #[.agg #[], .string x, .string y] (grow (w.drewN n) os) fun e w' => e = .returned (.int .i64 (cmpR x.data.toList y.data.toList)) ∧ ∃ q os', w' = grow ((grow (w.drewN n) os).drewN q) os' :=
  (method_any x y _).mono fun _ _ ⟨he, hw⟩ => ⟨he, 0, #[.cells #[] 53], by rw [hw, alloc_eq_grow]; rfl⟩
theorem wrap_nat {x : Int} {k : Nat} (h : x = k) (hk : k ≤ 1000000) : IntKind.i64.wrap x = k := by
  rw [h]; exact IntWalk.i64_in _ (by omega)
theorem row_hid {B g : Nat} {w0 : World} {d : Array ByteArray} {w : World} (h : RowS B g w0 d w) : Hid (RowS B g w0 d w) := Lib.hid h
end Go.Proofs.YtabcggmmdjeobaaDoor.srt
