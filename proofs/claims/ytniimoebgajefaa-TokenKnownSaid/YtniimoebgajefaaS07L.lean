/-
  Layer 7: lists of tokens in memory (three cells each).
-/
import Derived.Test.YtniimoebgajefaaS07X
namespace Go.Proofs.Ytniimoebgajefaa.s07
set_option linter.unusedVariables false
set_option linter.unusedSimpArgs false
open Go.RowKit
open kit

/-- a token, of any kind and at any place -/
abbrev Li := Int × ByteArray × Int
def noLi : Li := (0, ByteArray.empty, 0)
def cellsL (x : Li) : List Value := [.int .i64 x.1, .string x.2.1, .int .i64 x.2.2]
def flatL (l : List Li) : List Value := l.flatMap cellsL
theorem flatL_len (l : List Li) : (flatL l).length = l.length * 3 := by
  induction l with
  | nil => rfl
  | cons x r ih => unfold flatL at *; rw [List.flatMap_cons, List.length_append, ih]; simp [cellsL]; omega
theorem flatL_app (l r : List Li) : flatL (l ++ r) = flatL l ++ flatL r := by unfold flatL; rw [List.flatMap_append]
theorem flatL_one (x : Li) : flatL [x] = cellsL x := by simp [flatL]
theorem flatL_at (l : List Li) : ∀ (i : Nat), i < l.length → ∀ (j : Nat), j < 3 → (flatL l)[i * 3 + j]? = (cellsL (l[i]?.getD noLi))[j]? := by
  induction l with
  | nil => intro i h; simp at h
  | cons x r ih =>
    intro i hi j hj
    unfold flatL
    rw [List.flatMap_cons]
    have hl : (cellsL x).length = 3 := rfl
    cases i with
    | zero => rw [List.getElem?_append_left (by rw [hl]; omega)]; simp
    | succ i =>
      rw [List.getElem?_append_right (by rw [hl]; omega), hl, show (i + 1) * 3 + j - 3 = i * 3 + j by omega]
      have := ih i (by simpa using hi) j hj
      unfold flatL at this
      rw [this]; simp
/-- a slice of tokens that reads as l -/
def ReadsL (w : World) (a : Option Addr) (l : List Li) : Prop :=
  ∀ i, i < l.length → ∃ b off, a = some ⟨b, off, none⟩ ∧ b < w.heap.size ∧ w.cell? ⟨b, off + i * 3, none⟩ = some (.int .i64 (l[i]?.getD noLi).1) ∧ w.cell? ⟨b, off + i * 3 + 1, none⟩ = some (.string (l[i]?.getD noLi).2.1) ∧ w.cell? ⟨b, off + i * 3 + 2, none⟩ = some (.int .i64 (l[i]?.getD noLi).2.2)
theorem ReadsL.below {w w' : World} {a : Option Addr} {l : List Li} (h : ReadsL w a l) (hB : Below w.heap.size w w') : ReadsL w' a l := fun i hi => by
  obtain ⟨b, off, e, hb, h0, h1, h2⟩ := h i hi
  exact ⟨b, off, e, Nat.lt_of_lt_of_le hb hB.size, (hB.cell (p := ⟨b, _, none⟩) hb).trans h0, (hB.cell (p := ⟨b, _, none⟩) hb).trans h1, (hB.cell (p := ⟨b, _, none⟩) hb).trans h2⟩
theorem ReadsL.alloc {w : World} {a : Option Addr} {l : List Li} (h : ReadsL w a l) (o : Obj) : ReadsL (w.alloc o) a l := h.below ((Below.refl _ _).alloc (Nat.le_refl _) o)
theorem ReadsL.drewN {w : World} {a : Option Addr} {l : List Li} (h : ReadsL w a l) (n : Nat) : ReadsL (w.drewN n) a l := h
theorem ReadsL.nil (w : World) (a : Option Addr) : ReadsL w a [] := fun i hi => by simp at hi
theorem readsL_of_row {E : TypeId} {W : World} {base cap n : Nat} {a : Option Addr} {l : List Li} (hn : l.length = n) (h : W.ownsRow base E 3 (.slice a n cap) n (flatL l)) : ReadsL W a l := by
  intro i hi
  rcases h.2 with ⟨_, h0⟩ | ⟨g, cap', cur, e, _, _, _⟩
  · omega
  · cases e
    have c : ∀ j, j < 3 → W.cell? ⟨g, i * 3 + j, none⟩ = (cellsL (l[i]?.getD noLi))[j]? := fun j hj => by
      rw [h.cellAt (i * 3 + j) (by omega), flatL_at l i hi j hj]
    have c0 := c 0 (by omega)
    exact ⟨g, 0, rfl, cell_lt c0, by rw [Nat.zero_add]; exact c0, by rw [Nat.zero_add]; exact c 1 (by omega), by rw [Nat.zero_add]; exact c 2 (by omega)⟩
theorem infoL : (Try.prog.info? 23).map (fun i => (i.zero, i.size, i.bytes)) = some (some (.agg #[.int .i64 0, .string ⟨#[]⟩, .int .i64 0]), 3, 32) := by kernel_rfl
theorem src_new (w : World) (E : TypeId) (x : Li) : ∀ j u, (cellsL x)[j]? = some u → (w.alloc (.cells #[.int .i64 x.1, .string x.2.1, .int .i64 x.2.2] E)).cell? ((⟨w.heap.size, 0, none⟩ : Addr).add j) = some u := by
  intro j u hu
  rw [Go.WideShapes.add_plain, Nat.zero_add]
  unfold World.cell?
  have h : (w.alloc (.cells #[.int .i64 x.1, .string x.2.1, .int .i64 x.2.2] E)).heap[w.heap.size]? = some (.cells #[.int .i64 x.1, .string x.2.1, .int .i64 x.2.2] E (0, 0)) := World.alloc_heap_new w _
  rw [h]
  unfold cellsL at hu
  match j with
  | 0 => simpa using hu
  | 1 => simpa using hu
  | 2 => simpa using hu
  | j + 3 => simp at hu
theorem src_new2 (w : World) (o o' : Obj) (E : TypeId) (x : Li) : ∀ j u, (flatL [x])[j]? = some u → (((w.alloc o).alloc o').alloc (.cells #[.int .i64 x.1, .string x.2.1, .int .i64 x.2.2] E)).cell? ((⟨w.heap.size + 1 + 1, 0, none⟩ : Addr).add j) = some u := by
  have h := src_new ((w.alloc o).alloc o') E x
  rw [show ((w.alloc o).alloc o').heap.size = w.heap.size + 1 + 1 from (Array.size_push ..).trans (congrArg (· + 1) (Array.size_push ..))] at h
  intro j u hu
  exact h j u (by rw [flatL_one] at hu; exact hu)
theorem row_below {w w1 : World} {B E z k : Nat} {v : Value} {xs : List Value} (h : w.ownsRow B E z v k xs) (hB : Below w.heap.size w w1) : w1.ownsRow B E z v k xs :=
  h.kept (row := none) ⟨hB.os, hB.tape, hB.output, hB.size, fun i hi _ => hB.block i hi⟩ (by cases v.ownBlock <;> simp)
theorem set_grown (w : World) (b i : Nat) (u : Value) : w.grownBy (w.setCell ⟨b, i, none⟩ u) (some b) := ⟨rfl, rfl, rfl, by simp, fun k _ hk => Below.heap_setCell _ _ _ _ (fun e => hk (by rw [e]))⟩
theorem row_ne {w : World} {b B E z k : Nat} {v : Value} {xs : List Value} (h : w.ownsRow B E z v k xs) (hb : b < B) : v.ownBlock = none ∨ v.ownBlock ≠ some b := by
  refine .inr fun e => ?_
  have := (h.lt b e).1
  omega
theorem row_far {w : World} {b B E z k : Nat} {v : Value} {xs : List Value} (h : w.ownsRow B E z v k xs) (hb : b < B) (i : Nat) (u : Value) : (w.setCell ⟨b, i, none⟩ u).ownsRow B E z v k xs := h.kept (set_grown w b i u) (row_ne h hb)
theorem Box.grown {w w1 : World} {t : TypeId} {b : Nat} {xs : Array Value} {row : Option Nat} (h : Box w t b xs) (hg : w.grownBy w1 row) (hne : row ≠ some b) : Box w1 t b xs := (hg.block b h.lt (fun e => hne e.symm)).trans h
theorem own_ne {w : World} {b B E z k : Nat} {v : Value} {xs : List Value} (h : w.ownsRow B E z v k xs) (hb : b < B) : v.ownBlock ≠ some b := fun e => by
  have := (h.lt b e).1
  omega
/-- append of one token, or of a row of them -/
theorem append_tok {T : TypeId} (hT : Try.prog.underlying T = some (.slice 23))
    {w : World} {ops : Array Oper} {rest : List Oper} {o : Oper} {a : Act} {Q : Exit → Act → World → Prop}
    (hg : o.guard = none) (s x : Operand) (hop : o.op = Op.call { callee := Callee.builtin Builtin.append, args := #[s, x], argTypes := #[T, T] })
    (base : Nat) (v : Value) (k : Nat) (xs : List Li) (hs : a.eval s = v) (hown : w.ownsRow base 23 3 v k (flatL xs)) (ad : Addr) (vs : List Li) (n c : Nat) (hx : a.eval x = .slice (some ad) n c) (hn : vs.length = n)
    (hsrc : ∀ j u, (flatL vs)[j]? = some u → w.cell? (ad.add j) = some u)
    (hk : k + n ≤ 1000000) (hb : base ≤ w.heap.size)
    (hK : ∀ v' w', w'.ownsRow base 23 3 v' (k + n) (flatL (xs ++ vs)) → w.grownBy w' v.ownBlock → wpList Try.prog ops Q rest (a.put o.dst v') w') :
    wpList Try.prog ops Q (o :: rest) a w := by
  obtain ⟨i0, hi, hz0, hz1, hz2⟩ := info_parts infoL
  subst hn
  refine wpList_append_own w hg s x T hop base 23 i0 (.agg #[.int .i64 0, .string ⟨#[]⟩, .int .i64 0]) 3 32 hT hi hz0 hz1 hz2 rfl (by decide) v k _ hs hown ad vs.length c (flatL vs) hx (flatL_len vs) hsrc ?_ (by unfold maxLen; omega) (by omega) hb fun v' w' h1 h2 _ => hK v' w' (by rw [flatL_app]; exact h1) h2
  intro u hu
  unfold flatL at hu
  obtain ⟨y, _, hy⟩ := List.mem_flatMap.1 hu
  unfold cellsL at hy
  simp only [List.mem_cons, List.not_mem_nil, or_false] at hy
  rcases hy with rfl | rfl | rfl <;> rfl
end Go.Proofs.Ytniimoebgajefaa.s07
