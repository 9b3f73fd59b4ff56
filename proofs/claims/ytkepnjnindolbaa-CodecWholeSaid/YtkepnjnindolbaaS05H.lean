/-
  Layer 5, the program's side: list.
-/
import Derived.Test.YtkepnjnindolbaaS05G
import Derived.Test.YtkepnjnindolbaaS05E
namespace Go.Proofs.Ytkepnjnindolbaa.s05
set_option linter.unusedVariables false
set_option linter.unusedSimpArgs false
open Go.RowKit
open kit

/-- a slice in a block from B on, that reads as xs -/
def RelL (l : List Int) (B : Nat) (V : Value) (W : World) : Prop :=
  ∃ a c, V = .slice a l.length c ∧ ∀ i, i < l.length → ∃ b off, a = some ⟨b, off, none⟩ ∧ B ≤ b ∧ b < W.heap.size ∧ W.cell? ⟨b, off + i, none⟩ = some (.int .i64 (l[i]?.getD 0))
theorem RelL.reads {l : List Int} {B : Nat} {V : Value} {W : World} (h : RelL l B V W) : ∃ a c, V = .slice a l.length c ∧ ReadsI W a l := by
  obtain ⟨a, c, rfl, h⟩ := h
  refine ⟨a, c, rfl, fun i hi => ?_⟩
  obtain ⟨b, off, e, _, hb, hc⟩ := h i hi
  exact ⟨b, off, e, hb, hc⟩
theorem RelL.stays (l : List Int) : Stays (RelL l) := by
  rintro B V W W' ⟨a, c, rfl, h⟩ hz hk
  refine ⟨a, c, rfl, fun i hi => ?_⟩
  obtain ⟨b, off, e, hB, hb, hc⟩ := h i hi
  refine ⟨b, off, e, hB, Nat.lt_of_lt_of_le hb hz, ?_⟩
  rw [← hc]
  unfold World.cell?
  rw [hk b hB hb]
theorem RelL.nil (B : Nat) (W : World) : RelL [] B (.slice none 0 0) W := ⟨none, 0, rfl, fun i hi => by simp at hi⟩
theorem RelL.mono {l : List Int} {B B' : Nat} {V : Value} {W : World} (h : RelL l B V W) (hB : B' ≤ B) : RelL l B' V W := by
  obtain ⟨a, c, rfl, h⟩ := h
  refine ⟨a, c, rfl, fun i hi => ?_⟩
  obtain ⟨b, off, e, h1, h2, h3⟩ := h i hi
  exact ⟨b, off, e, Nat.le_trans hB h1, h2, h3⟩
theorem RelL.of_row {l : List Int} {B : Nat} {v : Value} {W : World} (h : W.ownsRow B 3 1 v l.length (l.map (Value.int .i64))) : RelL l B v W := by
  obtain ⟨a, c, rfl⟩ := row_shape h
  refine ⟨a, c, rfl, fun i hi => ?_⟩
  rcases h.2 with ⟨_, h0⟩ | ⟨g, cap', cur, e, hg, hgb, _⟩
  · omega
  · cases e
    have hc := h.cellAt i (by omega)
    have hx : (l.map (Value.int .i64))[i]? = some (.int .i64 (l[i]?.getD 0)) := by simp [List.getElem?_eq_getElem hi]
    rw [hx] at hc
    exact ⟨g, 0, rfl, hg, cell_lt hc, by rw [show 0 + i = i by omega]; exact hc⟩
/-- the three results are stored -/
theorem LSt.fin {W W' : World} {z : Nat} {s : ByteArray} {least greatest q f0 f1 : Int} {v : Value} {d : List Int} (h : LSt W z s least greatest q f0 f1 v d) (v' : Value) (q' g0 g1 : Int)
    (hW : W' = (((W.setCell ⟨z + 3, 0, none⟩ v').setCell ⟨z + 4, 0, none⟩ (.int .i64 q')).setCell ⟨z + 5, 0, none⟩ (.int .i64 g0)).setCell ⟨z + 5, 1, none⟩ (.int .i64 g1)) :
    W'.cell? ⟨z + 3, 0, none⟩ = some v' ∧ W'.cell? ⟨z + 4, 0, none⟩ = some (.int .i64 q') ∧ W'.cell? ⟨z + 5, 0, none⟩ = some (.int .i64 g0) ∧ W'.cell? ⟨z + 5, 1, none⟩ = some (.int .i64 g1) ∧ Below z W W' ∧
      W'.ownsRow (z + 6) 3 1 v d.length (d.map (Value.int .i64)) := by
  subst hW
  have X := (((h.X.set1 v').other (b' := z + 4) (i := 0) (by omega) (.int .i64 q')).other (b' := z + 5) (i := 0) (by omega) (.int .i64 g0)).other (b' := z + 5) (i := 1) (by omega) (.int .i64 g1)
  have N := (((h.N.other (b' := z + 3) (i := 0) (by omega) v').set1 (.int .i64 q')).other (b' := z + 5) (i := 0) (by omega) (.int .i64 g0)).other (b' := z + 5) (i := 1) (by omega) (.int .i64 g1)
  have F := ((h.F.other (b' := z + 3) (i := 0) (by omega) v').other (b' := z + 4) (i := 0) (by omega) (.int .i64 q')).set2 (.int .i64 g0) (.int .i64 g1)
  exact ⟨X.c1, N.c1, F.cell2.1, F.cell2.2, ((((Below.refl z W).setCell (p := ⟨z + 3, 0, none⟩) (by simp) _).setCell (p := ⟨z + 4, 0, none⟩) (by simp) _).setCell (p := ⟨z + 5, 0, none⟩) (by simp) _).setCell (p := ⟨z + 5, 1, none⟩) (by simp) _,
    row_other (row_other (row_other (row_other h.row _ _ (by omega) _) _ _ (by omega) _) _ _ (by omega) _) _ _ (by omega) _⟩
/-- what stood before, and what follows -/
def appG (d : List Int) (r : List Int × Int × Int × Int) : List Int × Int × Int × Int := if r.2.2.1 = 0 then (d ++ r.1, r.2) else r
theorem appG_nil (r : List Int × Int × Int × Int) : appG [] r = r := by
  unfold appG; split <;> simp
theorem appG_end (d : List Int) (a : Int) : appG d ([], a, 0, 0) = (d, a, 0, 0) := by unfold appG; simp
theorem appG_bad {least greatest : Int} {s : ByteArray} {k : Nat} {a er p : Int} (d : List Int) (h : sgnF least greatest s a = (0, 0, er, p)) (he : er ≠ 0) : appG d (lstG least greatest s (k + 1) a) = ([], 0, er, p) := by
  unfold lstG
  rw [h]
  simp only []
  rw [if_neg he]
  unfold appG
  rw [if_neg he]
theorem appG_more {least greatest : Int} {s : ByteArray} {k : Nat} {a x nx : Int} (d : List Int) (h : sgnF least greatest s a = (x, nx, 0, 0)) : appG d (lstG least greatest s (k + 1) a) = appG (d ++ [x]) (lstG least greatest s k nx) := by
  conv => lhs; unfold lstG
  rw [h]
  simp only [if_pos]
  unfold appG
  split
  · rename_i h1
    simp only [h1, if_true] at *
    simp
  · rename_i h1
    rfl
/-- the state at the beginning -/
theorem LSt.begin (w : World) (s : ByteArray) (least greatest : Int) :
    LSt ((((((w.alloc (.cells #[.string s] 9)).alloc (.cells #[.int .i64 least] 3)).alloc (.cells #[.int .i64 greatest] 3)).alloc (.cells #[.slice none 0 0] 35)).alloc (.cells #[.int .i64 0] 3)).alloc (.cells #[.int .i64 0, .int .i64 0] 24)) w.heap.size s least greatest 0 0 0 (.slice none 0 0) [] ∧
    Below w.heap.size w ((((((w.alloc (.cells #[.string s] 9)).alloc (.cells #[.int .i64 least] 3)).alloc (.cells #[.int .i64 greatest] 3)).alloc (.cells #[.slice none 0 0] 35)).alloc (.cells #[.int .i64 0] 3)).alloc (.cells #[.int .i64 0, .int .i64 0] 24)) := by
  have nth : ∀ (W : World) (n : Nat) (t : TypeId) (xs : Array Value), W.heap.size = n → Box (W.alloc (.cells xs t)) t n xs := fun W n t xs h => h ▸ Box.new W t xs
  refine ⟨⟨?_, ?_, ?_, ?_, ?_, ?_, World.ownsRow_nil _ _ _ _, by simp⟩, ?_⟩
  · exact (((((nth _ _ _ _ rfl).alloc _).alloc _).alloc _).alloc _).alloc _
  · exact ((((nth _ _ _ _ (by simp)).alloc _).alloc _).alloc _).alloc _
  · exact (((nth _ _ _ _ (by simp)).alloc _).alloc _).alloc _
  · exact ((nth _ _ _ _ (by simp)).alloc _).alloc _
  · exact (nth _ _ _ _ (by simp)).alloc _
  · exact nth _ _ _ _ (by simp)
  · exact ((((((Below.refl w.heap.size w).alloc (Nat.le_refl _) _).alloc (by simp) _).alloc (by simp; omega) _).alloc (by simp; omega) _).alloc (by simp; omega) _).alloc (by simp; omega) _
end Go.Proofs.Ytkepnjnindolbaa.s05
