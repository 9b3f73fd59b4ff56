/-
  Layer 13: lists of looks in memory (five cells each).
-/
import Derived.Test.YtddackdghphcnaaDoorS13X
import Derived.Test.YtddackdghphcnaaDoorS13M
namespace Go.Proofs.YtddackdghphcnaaDoor.s13
set_option linter.unusedVariables false
set_option linter.unusedSimpArgs false
open Go.RowKit
open kit

/-- a look's cells, whatever they hold -/
abbrev V5 := Int × Int × Int × Int × Int
def no5 : V5 := (0, 0, 0, 0, 0)
def cells5 (x : V5) : List Value := [.int .i64 x.1, .int .i64 x.2.1, .int .i64 x.2.2.1, .int .i64 x.2.2.2.1, .int .i64 x.2.2.2.2]
def flat5 (l : List V5) : List Value := l.flatMap cells5
theorem flat5_len (l : List V5) : (flat5 l).length = l.length * 5 := by
  induction l with
  | nil => rfl
  | cons x r ih => unfold flat5 at *; rw [List.flatMap_cons, List.length_append, ih]; simp [cells5]; omega
theorem flat5_app (l r : List V5) : flat5 (l ++ r) = flat5 l ++ flat5 r := by unfold flat5; rw [List.flatMap_append]
theorem flat5_one (x : V5) : flat5 [x] = cells5 x := by simp [flat5]
theorem flat5_at (l : List V5) : ∀ (i : Nat), i < l.length → ∀ (j : Nat), j < 5 → (flat5 l)[i * 5 + j]? = (cells5 (l[i]?.getD no5))[j]? := by
  induction l with
  | nil => intro i h; simp at h
  | cons x r ih =>
    intro i hi j hj
    unfold flat5
    rw [List.flatMap_cons]
    have hl : (cells5 x).length = 5 := rfl
    cases i with
    | zero => rw [List.getElem?_append_left (by rw [hl]; omega)]; simp
    | succ i =>
      rw [List.getElem?_append_right (by rw [hl]; omega), hl, show (i + 1) * 5 + j - 5 = i * 5 + j by omega]
      have := ih i (by simpa using hi) j hj
      unfold flat5 at this
      rw [this]; simp
/-- a look's cells at an address -/
def At5 (w : World) (b o : Nat) (x : V5) : Prop := w.cell? ⟨b, o, none⟩ = some (.int .i64 x.1) ∧ w.cell? ⟨b, o + 1, none⟩ = some (.int .i64 x.2.1) ∧ w.cell? ⟨b, o + 2, none⟩ = some (.int .i64 x.2.2.1) ∧ w.cell? ⟨b, o + 3, none⟩ = some (.int .i64 x.2.2.2.1) ∧ w.cell? ⟨b, o + 4, none⟩ = some (.int .i64 x.2.2.2.2)
theorem At5.below {w w' : World} {b o : Nat} {x : V5} (h : At5 w b o x) (hB : Below w.heap.size w w') : At5 w' b o x := by
  have hb := cell_lt h.1
  exact ⟨(hB.cell (p := ⟨b, _, none⟩) hb).trans h.1, (hB.cell (p := ⟨b, _, none⟩) hb).trans h.2.1, (hB.cell (p := ⟨b, _, none⟩) hb).trans h.2.2.1, (hB.cell (p := ⟨b, _, none⟩) hb).trans h.2.2.2.1, (hB.cell (p := ⟨b, _, none⟩) hb).trans h.2.2.2.2⟩
/-- a slice of looks that reads as l -/
def Reads5 (w : World) (a : Option Addr) (l : List V5) : Prop := ∀ i, i < l.length → ∃ b off, a = some ⟨b, off, none⟩ ∧ b < w.heap.size ∧ At5 w b (off + i * 5) (l[i]?.getD no5)
theorem Reads5.below {w w' : World} {a : Option Addr} {l : List V5} (h : Reads5 w a l) (hB : Below w.heap.size w w') : Reads5 w' a l := fun i hi => by
  obtain ⟨b, off, e, hb, h0⟩ := h i hi
  exact ⟨b, off, e, Nat.lt_of_lt_of_le hb hB.size, h0.below hB⟩
theorem Reads5.alloc {w : World} {a : Option Addr} {l : List V5} (h : Reads5 w a l) (o : Obj) : Reads5 (w.alloc o) a l := h.below ((Below.refl _ _).alloc (Nat.le_refl _) o)
theorem Reads5.drewN {w : World} {a : Option Addr} {l : List V5} (h : Reads5 w a l) (n : Nat) : Reads5 (w.drewN n) a l := h
theorem Reads5.nil (w : World) (a : Option Addr) : Reads5 w a [] := fun i hi => by simp at hi
theorem reads5_of_row {E : TypeId} {W : World} {base cap n : Nat} {a : Option Addr} {l : List V5} (hn : l.length = n) (h : W.ownsRow base E 5 (.slice a n cap) n (flat5 l)) : Reads5 W a l := by
  intro i hi
  rcases h.2 with ⟨_, h0⟩ | ⟨g, cap', cur, e, _, _, _⟩
  · omega
  · cases e
    have c : ∀ j, j < 5 → W.cell? ⟨g, i * 5 + j, none⟩ = (cells5 (l[i]?.getD no5))[j]? := fun j hj => by
      rw [h.cellAt (i * 5 + j) (by omega), flat5_at l i hi j hj]
    have c0 := c 0 (by omega)
    refine ⟨g, 0, rfl, cell_lt c0, ?_⟩
    rw [Nat.zero_add]
    exact ⟨c0, c 1 (by omega), c 2 (by omega), c 3 (by omega), c 4 (by omega)⟩
theorem info5 : (Tryd.prog.info? 25).map (fun i => (i.zero, i.size, i.bytes)) = some (some (.agg #[.int .i64 0, .int .i64 0, .int .i64 0, .int .i64 0, .int .i64 0]), 5, 40) := by kernel_rfl
/-- a block that holds looks -/
theorem reads5_block {w : World} {t : TypeId} {g : Nat} {cs : Array Value} {l : List V5} (h : w.heap[g]? = some (.cells cs t (0, 0))) (e : cs.toList = flat5 l) : Reads5 w (some ⟨g, 0, none⟩) l := by
  intro i hi
  have hlt := (Array.getElem?_eq_some_iff.1 h).1
  have c : ∀ j, j < 5 → w.cell? ⟨g, i * 5 + j, none⟩ = (cells5 (l[i]?.getD no5))[j]? := fun j hj => by
    have := flat5_at l i hi j hj
    rw [← e] at this
    unfold World.cell?
    rw [h]
    simpa using this
  refine ⟨g, 0, rfl, hlt, ?_⟩
  rw [Nat.zero_add]
  exact ⟨c 0 (by omega), c 1 (by omega), c 2 (by omega), c 3 (by omega), c 4 (by omega)⟩
end Go.Proofs.YtddackdghphcnaaDoor.s13
