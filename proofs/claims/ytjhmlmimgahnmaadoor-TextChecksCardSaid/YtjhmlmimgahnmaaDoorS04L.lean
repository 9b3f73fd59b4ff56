/-
  Layer 4: lists of lexemes in memory (three cells each), and the list of a text's lexemes.
-/
import Derived.Test.YtjhmlmimgahnmaaDoorS04C
namespace Go.Proofs.YtjhmlmimgahnmaaDoor.s04
set_option linter.unusedVariables false
set_option linter.unusedSimpArgs false
open Go.RowKit
open kit

/-- a lexeme, of any kind and at any place -/
abbrev Li := Int × ByteArray × Int
def liOf (x : Lx) : Li := ((x.1 : Int), x.2.1, (x.2.2 : Int))
def noLi : Li := (0, ByteArray.empty, 0)
def cellsL (x : Li) : List Value := [.int .i64 x.1, .string x.2.1, .int .i64 x.2.2]
def flatL (l : List Li) : List Value := l.flatMap cellsL
theorem flatL_len (l : List Li) : (flatL l).length = l.length * 3 := by
  induction l with
  | nil => rfl
  | cons x r ih => unfold flatL at *; rw [List.flatMap_cons, List.length_append, ih]; simp [cellsL]; omega
theorem flatL_app (l r : List Li) : flatL (l ++ r) = flatL l ++ flatL r := by unfold flatL; rw [List.flatMap_append]
theorem flatL_one (x : Li) : flatL [x] = cellsL x := by simp [flatL]
theorem flatL_at (l : List Li) : ∀ (i : Nat), i < l.length → ∀ (j : Nat), j < 3 → (flatL l)[i * 3 + j]? = (cellsL (l[i]?.getD noLi))[j]? := by
  induction l with
  | nil => intro i h; simp at h
  | cons x r ih =>
    intro i hi j hj
    unfold flatL
    rw [List.flatMap_cons]
    have hl : (cellsL x).length = 3 := rfl
    cases i with
    | zero => rw [List.getElem?_append_left (by rw [hl]; omega)]; simp
    | succ i =>
      rw [List.getElem?_append_right (by rw [hl]; omega), hl, show (i + 1) * 3 + j - 3 = i * 3 + j by omega]
      have := ih i (by simpa using hi) j hj
      unfold flatL at this
      rw [this]; simp
/-- a slice of lexemes that reads as l -/
def ReadsL (w : World) (a : Option Addr) (l : List Li) : Prop :=
  ∀ i, i < l.length → ∃ b off, a = some ⟨b, off, none⟩ ∧ b < w.heap.size ∧ w.cell? ⟨b, off + i * 3, none⟩ = some (.int .i64 (l[i]?.getD noLi).1) ∧ w.cell? ⟨b, off + i * 3 + 1, none⟩ = some (.string (l[i]?.getD noLi).2.1) ∧ w.cell? ⟨b, off + i * 3 + 2, none⟩ = some (.int .i64 (l[i]?.getD noLi).2.2)
theorem ReadsL.below {w w' : World} {a : Option Addr} {l : List Li} (h : ReadsL w a l) (hB : Below w.heap.size w w') : ReadsL w' a l := fun i hi => by
  obtain ⟨b, off, e, hb, h0, h1, h2⟩ := h i hi
  exact ⟨b, off, e, Nat.lt_of_lt_of_le hb hB.size, (hB.cell (p := ⟨b, _, none⟩) hb).trans h0, (hB.cell (p := ⟨b, _, none⟩) hb).trans h1, (hB.cell (p := ⟨b, _, none⟩) hb).trans h2⟩
theorem ReadsL.alloc {w : World} {a : Option Addr} {l : List Li} (h : ReadsL w a l) (o : Obj) : ReadsL (w.alloc o) a l := h.below ((Below.refl _ _).alloc (Nat.le_refl _) o)
theorem ReadsL.drewN {w : World} {a : Option Addr} {l : List Li} (h : ReadsL w a l) (n : Nat) : ReadsL (w.drewN n) a l := h
theorem ReadsL.nil (w : World) (a : Option Addr) : ReadsL w a [] := fun i hi => by simp at hi
theorem readsL_of_row {E : TypeId} {W : World} {base cap n : Nat} {a : Option Addr} {l : List Li} (hn : l.length = n) (h : W.ownsRow base E 3 (.slice a n cap) n (flatL l)) : ReadsL W a l := by
  intro i hi
  rcases h.2 with ⟨_, h0⟩ | ⟨g, cap', cur, e, _, _, _⟩
  · omega
  · cases e
    have c : ∀ j, j < 3 → W.cell? ⟨g, i * 3 + j, none⟩ = (cellsL (l[i]?.getD noLi))[j]? := fun j hj => by
      rw [h.cellAt (i * 3 + j) (by omega), flatL_at l i hi j hj]
    have c0 := c 0 (by omega)
    exact ⟨g, 0, rfl, cell_lt c0, by rw [Nat.zero_add]; exact c0, by rw [Nat.zero_add]; exact c 1 (by omega), by rw [Nat.zero_add]; exact c 2 (by omega)⟩
theorem infoL : (Tryd.prog.info? 23).map (fun i => (i.zero, i.size, i.bytes)) = some (some (.agg #[.int .i64 0, .string ⟨#[]⟩, .int .i64 0]), 3, 32) := by kernel_rfl
theorem src_new (w : World) (E : TypeId) (x : Li) : ∀ j u, (cellsL x)[j]? = some u → (w.alloc (.cells #[.int .i64 x.1, .string x.2.1, .int .i64 x.2.2] E)).cell? ((⟨w.heap.size, 0, none⟩ : Addr).add j) = some u := by
  intro j u hu
  rw [Go.WideShapes.add_plain, Nat.zero_add]
  unfold World.cell?
  have h : (w.alloc (.cells #[.int .i64 x.1, .string x.2.1, .int .i64 x.2.2] E)).heap[w.heap.size]? = some (.cells #[.int .i64 x.1, .string x.2.1, .int .i64 x.2.2] E (0, 0)) := World.alloc_heap_new w _
  rw [h]
  unfold cellsL at hu
  match j with
  | 0 => simpa using hu
  | 1 => simpa using hu
  | 2 => simpa using hu
  | j + 3 => simp at hu
theorem src_new2 (w : World) (o o' : Obj) (E : TypeId) (x : Li) : ∀ j u, (flatL [x])[j]? = some u → (((w.alloc o).alloc o').alloc (.cells #[.int .i64 x.1, .string x.2.1, .int .i64 x.2.2] E)).cell? ((⟨w.heap.size + 1 + 1, 0, none⟩ : Addr).add j) = some u := by
  have h := src_new ((w.alloc o).alloc o') E x
  rw [show ((w.alloc o).alloc o').heap.size = w.heap.size + 1 + 1 from (Array.size_push ..).trans (congrArg (· + 1) (Array.size_push ..))] at h
  intro j u hu
  exact h j u (by rw [flatL_one] at hu; exact hu)
theorem row_below {w w1 : World} {B E z k : Nat} {v : Value} {xs : List Value} (h : w.ownsRow B E z v k xs) (hB : Below w.heap.size w w1) : w1.ownsRow B E z v k xs :=
  h.kept (row := none) ⟨hB.os, hB.tape, hB.output, hB.size, fun i hi _ => hB.block i hi⟩ (by cases v.ownBlock <;> simp)
theorem set_grown (w : World) (b i : Nat) (u : Value) : w.grownBy (w.setCell ⟨b, i, none⟩ u) (some b) := ⟨rfl, rfl, rfl, by simp, fun k _ hk => Below.heap_setCell _ _ _ _ (fun e => hk (by rw [e]))⟩
theorem row_ne {w : World} {b B E z k : Nat} {v : Value} {xs : List Value} (h : w.ownsRow B E z v k xs) (hb : b < B) : v.ownBlock = none ∨ v.ownBlock ≠ some b := by
  refine .inr fun e => ?_
  have := (h.lt b e).1
  omega
theorem row_far {w : World} {b B E z k : Nat} {v : Value} {xs : List Value} (h : w.ownsRow B E z v k xs) (hb : b < B) (i : Nat) (u : Value) : (w.setCell ⟨b, i, none⟩ u).ownsRow B E z v k xs := h.kept (set_grown w b i u) (row_ne h hb)
theorem Box.grown {w w1 : World} {t : TypeId} {b : Nat} {xs : Array Value} {row : Option Nat} (h : Box w t b xs) (hg : w.grownBy w1 row) (hne : row ≠ some b) : Box w1 t b xs := (hg.block b h.lt (fun e => hne e.symm)).trans h
theorem own_ne {w : World} {b B E z k : Nat} {v : Value} {xs : List Value} (h : w.ownsRow B E z v k xs) (hb : b < B) : v.ownBlock ≠ some b := fun e => by
  have := (h.lt b e).1
  omega
/-- append of one lexeme, or of a row of them -/
theorem append_lex {T : TypeId} (hT : Tryd.prog.underlying T = some (.slice 23))
    {w : World} {ops : Array Oper} {rest : List Oper} {o : Oper} {a : Act} {Q : Exit → Act → World → Prop}
    (hg : o.guard = none) (s x : Operand) (hop : o.op = Op.call { callee := Callee.builtin Builtin.append, args := #[s, x], argTypes := #[T, T] })
    (base : Nat) (v : Value) (k : Nat) (xs : List Li) (hs : a.eval s = v) (hown : w.ownsRow base 23 3 v k (flatL xs)) (ad : Addr) (vs : List Li) (n c : Nat) (hx : a.eval x = .slice (some ad) n c) (hn : vs.length = n)
    (hsrc : ∀ j u, (flatL vs)[j]? = some u → w.cell? (ad.add j) = some u)
    (hk : k + n ≤ 1000000) (hb : base ≤ w.heap.size)
    (hK : ∀ v' w', w'.ownsRow base 23 3 v' (k + n) (flatL (xs ++ vs)) → w.grownBy w' v.ownBlock → wpList Tryd.prog ops Q rest (a.put o.dst v') w') :
    wpList Tryd.prog ops Q (o :: rest) a w := by
  obtain ⟨i0, hi, hz0, hz1, hz2⟩ := info_parts infoL
  subst hn
  refine wpList_append_own w hg s x T hop base 23 i0 (.agg #[.int .i64 0, .string ⟨#[]⟩, .int .i64 0]) 3 32 hT hi hz0 hz1 hz2 rfl (by decide) v k _ hs hown ad vs.length c (flatL vs) hx (flatL_len vs) hsrc ?_ (by unfold maxLen; omega) (by omega) hb fun v' w' h1 h2 _ => hK v' w' (by rw [flatL_app]; exact h1) h2
  intro u hu
  unfold flatL at hu
  obtain ⟨y, _, hy⟩ := List.mem_flatMap.1 hu
  unfold cellsL at hy
  simp only [List.mem_cons, List.not_mem_nil, or_false] at hy
  rcases hy with rfl | rfl | rfl <;> rfl
/-- all lexemes from a place on -/
def lexS (s : ByteArray) : Nat → Nat → List Li → List Li × Nat × Nat
  | 0, _, acc => (acc, 0, 0)
  | f + 1, k, acc =>
    if (nextR s k).2.2.1 = 5 then (acc, 0, 0)
    else if (nextR s k).2.2.1 = 0 then lexS s f (nextR s k).2.1 (acc ++ [liOf (nextR s k).1])
    else ([], (nextR s k).2.2.1, (nextR s k).2.2.2)
/-- all lexemes of a text -/
def lexR (s : ByteArray) : List Li × Nat × Nat := if 2000 < s.size then ([], 4, 2000) else lexS s (s.size + 1) 0 []
theorem lexS_step {s : ByteArray} {f k : Nat} {acc L : List Li} {e p : Nat} {x : Lx} {n er a : Nat} (h : lexS s (f + 1) k acc = (L, e, p)) (hn : nextR s (k : Int) = (x, n, er, a)) :
    (er = 5 → (acc, 0, 0) = (L, e, p)) ∧ (er = 0 → lexS s f n (acc ++ [liOf x]) = (L, e, p)) ∧ (er ≠ 5 → er ≠ 0 → ([], er, a) = (L, e, p)) := by
  rw [lexS, hn] at h
  refine ⟨fun h5 => ?_, fun h0 => ?_, fun h5 h0 => ?_⟩
  · rw [if_pos h5] at h; exact h
  · rw [if_neg (by simp only; omega), if_pos h0] at h; exact h
  · rw [if_neg h5, if_neg h0] at h; exact h
theorem begR_pos (s : ByteArray) (h : (begR s).1 ≠ 0) : 1 ≤ (begR s).2 := by
  unfold begR at *
  split
  · simp
  · split
    · exact run_ge _ _ _
    · split
      · split
        · rename_i h1 h2 h3 h4; rw [if_neg h1, if_neg h2, if_pos h3, if_pos h4] at h; exact absurd rfl h
        · exact run_ge _ _ _
      · rename_i h1 h2 h3; rw [if_neg h1, if_neg h2, if_neg h3] at h; exact absurd rfl h
theorem lexAt_1 (s : ByteArray) (k : Nat) : (lexAt s k).1 = (begR (s.extract k s.size)).1 := rfl
theorem lexAt_2 (s : ByteArray) (k : Nat) : (lexAt s k).2.1 = (s.extract k s.size).extract 0 (begR (s.extract k s.size)).2 := rfl
theorem nextR_on {s : ByteArray} {k : Nat} {x : Lx} {n er a : Nat} (hk : k ≤ s.size) (hn : nextR s (k : Int) = (x, n, er, a)) (h0 : er = 0) : k < n ∧ n ≤ s.size := by
  have h1 := passAt_ge s k
  have h2 := passAt_le s k hk
  unfold nextR at hn
  rw [if_neg (by omega), show ((k : Int)).toNat = k from by omega] at hn
  by_cases h3 : passAt s k = s.size
  · rw [if_pos h3] at hn
    have := congrArg (fun t => t.2.2.1) hn
    simp only at this; omega
  · rw [if_neg h3] at hn
    by_cases h4 : (lexAt s (passAt s k)).1 = 0
    · rw [if_pos h4] at hn
      have := congrArg (fun t => t.2.2.1) hn
      simp only at this; omega
    · rw [if_neg h4] at hn
      have h5 := begR_pos (s.extract (passAt s k) s.size) (by rw [← lexAt_1]; exact h4)
      have h6 := begR_le (s.extract (passAt s k) s.size) (by rw [ByteArray.size_extract]; omega)
      have h7 : (lexAt s (passAt s k)).2.1.size = (begR (s.extract (passAt s k) s.size)).2 := by
        rw [lexAt_2, ByteArray.size_extract]; omega
      rw [ByteArray.size_extract] at h6
      have h8 : passAt s k + (lexAt s (passAt s k)).2.1.size = n := congrArg (fun t => t.2.1) hn
      omega
/-- a list and a fault are handed back -/
def LexsTo (w : World) (L : List Li) (er p : Nat) (e : Ending) (w' : World) : Prop :=
  ∃ a c, e = .returned (.tuple #[.slice a L.length c, .agg #[.int .i64 (er : Int), .int .i64 (p : Int)]]) ∧ L.length ≤ c ∧ ReadsL w' a L ∧ Below w.heap.size w w'
theorem lexs_nil {w w' : World} {L : List Li} {er er' p p' : Nat} (h : ([], er, p) = (L, er', p')) (hB : Below w.heap.size w w') : LexsTo w L er' p' (.returned (.tuple #[.slice none 0 0, .agg #[.int .i64 (er : Int), .int .i64 (p : Int)]])) w' := by
  simp only [Prod.mk.injEq] at h
  obtain ⟨rfl, rfl, rfl⟩ := h
  exact ⟨none, 0, rfl, Nat.le_refl _, ReadsL.nil _ _, hB⟩
theorem lexs_row {w w' : World} {base : Nat} {L acc : List Li} {er' p' : Nat} {v : Value} (h : (acc, 0, 0) = (L, er', p')) (hr : w'.ownsRow base 23 3 v acc.length (flatL acc)) (hB : Below w.heap.size w w') : LexsTo w L er' p' (.returned (.tuple #[v, .agg #[.int .i64 0, .int .i64 0]])) w' := by
  simp only [Prod.mk.injEq] at h
  obtain ⟨rfl, rfl, rfl⟩ := h
  have hv : ∃ a c, v = .slice a acc.length c ∧ acc.length ≤ c := by
    rcases hr.2 with ⟨rfl, h0⟩ | ⟨g, cap, _, rfl, _, _, hcap, _⟩
    · exact ⟨none, 0, by rw [h0], by omega⟩
    · exact ⟨_, _, rfl, hcap⟩
  obtain ⟨a, c, rfl, hcap⟩ := hv
  exact ⟨a, c, rfl, hcap, readsL_of_row rfl hr, hB⟩
end Go.Proofs.YtjhmlmimgahnmaaDoor.s04
