/-
  Layer 6, the program's side: a table at work (a variable of three cells, its row, its map), what its calls keep.
-/
import Derived.Test.YtndghjfgjkjbdaaS06F
import Derived.Test.YtndghjfgjkjbdaaS03PC
import Derived.Maps.OwnSet
namespace Go.Proofs.Ytndghjfgjkjbdaa.s06
set_option linter.unusedVariables false
set_option linter.unusedSimpArgs false
open Go.RowKit Go.WideMaps Go.Maps
open kit

theorem append_in2 {T E : TypeId} {z : Value} {bytes : Nat} (hT : Try.prog.underlying T = some (.slice E)) (hE : (Try.prog.info? E).map (fun i => (i.zero, i.size, i.bytes)) = some (some z, 1, bytes)) (hzc : z.cells.size = 1) (hby : bytes ≤ 1000)
    {w : World} {ops : Array Oper} {rest : List Oper} {o : Oper} {a : Act} {Q : Exit → Act → World → Prop}
    (hg : o.guard = none) (s x : Operand) (hop : o.op = Op.call { callee := Callee.builtin Builtin.append, args := #[s, x], argTypes := #[T, T] })
    (base : Nat) (v : Value) (k : Nat) (xs : List Value) (hs : a.eval s = v) (hown : w.ownsRow base E 1 v k xs) (ad : Addr) (vs : List Value) (n c : Nat) (hx : a.eval x = .slice (some ad) n c) (hn : vs.length = n) (hsrc : ∀ j u, vs[j]? = some u → w.cell? (ad.add j) = some u) (h1 : ∀ u ∈ vs, u.oneCell' = true)
    (hk : k + n ≤ 1000000) (hb : base ≤ w.heap.size)
    (hK : ∀ v' w', w'.ownsRow base E 1 v' (k + n) (xs ++ vs) → w.grownBy w' v.ownBlock → wpList Try.prog ops Q rest (a.put o.dst v') w') :
    wpList Try.prog ops Q (o :: rest) a w := by
  obtain ⟨i0, hi, hz0, hz1, hz2⟩ := info_parts hE
  subst hn
  refine wpList_append_own w hg s x T hop base E i0 z 1 bytes hT hi hz0 hz1 hz2 hzc (by decide) v k _ hs hown ad vs.length c vs hx (by simp) hsrc h1 (by unfold maxLen; omega) ?_ hb fun v' w' h1 h2 _ => hK v' w' h1 h2
  have : (k + vs.length) * bytes ≤ 1000000 * 1000 := Nat.mul_le_mul hk hby
  omega
theorem keyLaw : Keyed Try.prog 9 := string_keyed Try.underlying9
theorem zeroInt (w : World) : (zeroValue 3).run Try.prog w = .ok (.int .i64 0) w := by kernel_rfl
/-- a name as a key -/
def kS (s : ByteArray) : Lit := .string s.data.toList
theorem kS_inj {s t : ByteArray} (h : kS s = kS t) : s = t := by
  unfold kS at h
  simp only [Lit.string.injEq] at h
  exact bytes_ext h
def nI (k : Nat) : DataW Unit := .lit (.int .i64 (k : Int))
/-- the map of the numbers of these names -/
def MapL (D : DataW Unit) (l : List ByteArray) : Prop :=
  ∀ s : ByteArray, Maps.has D (kS s) = decide (ix l s < l.length) ∧ (s ∈ l → D.atKey (kS s) (.lit (.int .i64 0)) = nI (ix l s))
theorem MapL.nil : MapL (.map []) [] := fun s => ⟨rfl, fun h => by cases h⟩
theorem kS_key (s : ByteArray) : WideAt.IsKeyLit (kS s) := by unfold kS; trivial
theorem MapL.put {D : DataW Unit} {l : List ByteArray} {s : ByteArray} (h : MapL D l) (hD : IsMap D) (hs : s ∉ l) : MapL (D.put (kS s) (nI l.length)) (l ++ [s]) := by
  intro t
  by_cases e : t = s
  · subst e
    refine ⟨?_, fun _ => ?_⟩
    · rw [has_put_same hD (kS_key t), decide_eq_true (ix_mem.mpr (by simp))]
    · rw [atKey_put_same hD (kS_key t)]
      have h1 := @put1_ix l t
      rw [put1_out hs, ix_none hs] at h1
      rw [h1]
  · have hne : kS t ≠ kS s := fun h => e (kS_inj h)
    obtain ⟨h1, h2⟩ := h t
    have hm : t ∈ l ++ [s] ↔ t ∈ l := by simp [e]
    refine ⟨?_, fun ht => ?_⟩
    · rw [has_put_other hne, h1]
      exact decide_eq_decide.mpr (ix_mem.trans (hm.symm.trans ix_mem.symm))
    · have ht2 : t ∈ l := hm.mp ht
      rw [atKey_put_other hne, h2 ht2, ix_app _ ht2]
/-- the map of a table at work -/
def MapO (W : World) (bm : Nat) (l : List ByteArray) : Prop := ∃ D : DataW Unit, W.ownsMap Try.prog 9 (plainElem Try.prog 3) bm l.length D ∧ MapL D l
/-- block b is a table at work: v its names, in a row of its own from block base on; block bm its map; er its error -/
structure Wk (W : World) (b bm base : Nat) (v : Value) (l : List ByteArray) (er : Int) : Prop where
  box : Box W 67 b #[v, .map (some bm), .int .i64 er]
  row : W.ownsRow base 9 1 v l.length (l.map Value.string)
  map : MapO W bm l
  h1 : b < base
  h2 : bm < base
  h3 : b ≠ bm
/-- new blocks, and none changed but the table's variable, its map, and rows of strings from block base on -/
structure KT (base b bm : Nat) (w w' : World) : Prop where
  os : w'.os = w.os
  tape : w'.tape = w.tape
  output : w'.output = w.output
  size : w.heap.size ≤ w'.heap.size
  block : ∀ k, k < w.heap.size → k ≠ b → k ≠ bm → (base ≤ k → ∀ xs fr, w.heap[k]? ≠ some (.cells xs 9 fr)) → w'.heap[k]? = w.heap[k]?
theorem KT.refl (base b bm : Nat) (w : World) : KT base b bm w w := ⟨rfl, rfl, rfl, Nat.le_refl _, fun _ _ _ _ _ => rfl⟩
theorem KT.trans {base b bm : Nat} {w w1 w2 : World} (h : KT base b bm w w1) (k : KT base b bm w1 w2) : KT base b bm w w2 :=
  ⟨k.os.trans h.os, k.tape.trans h.tape, k.output.trans h.output, Nat.le_trans h.size k.size, fun i hi h1 h2 h3 => by
    have e := h.block i hi h1 h2 h3
    exact (k.block i (Nat.lt_of_lt_of_le hi h.size) h1 h2 (by rw [e]; exact h3)).trans e⟩
theorem KT.of_below {base b bm : Nat} {w w1 : World} (h : Below w.heap.size w w1) : KT base b bm w w1 := ⟨h.os, h.tape, h.output, h.size, fun k hk _ _ _ => h.block k hk⟩
theorem KT.then {base b bm : Nat} {w w1 w2 : World} (h : KT base b bm w w1) (k : Below w1.heap.size w1 w2) : KT base b bm w w2 := h.trans (.of_below k)
theorem KT.set {base b bm : Nat} {w w1 : World} (h : KT base b bm w w1) (i : Nat) (u : Value) : KT base b bm w (w1.setCell ⟨b, i, none⟩ u) :=
  h.trans ⟨rfl, rfl, rfl, by simp, fun k _ hk _ _ => Below.heap_setCell _ _ _ _ hk⟩
theorem KT.of_map {base b bm : Nat} {w w1 : World} (h : w.grownBy w1 (some bm)) : KT base b bm w w1 := ⟨h.os, h.tape, h.output, h.size, fun k hk _ h2 _ => h.block k hk (fun e => h2 (by cases e; rfl))⟩
theorem KT.of_row {base b bm k : Nat} {v : Value} {xs : List Value} {w w1 : World} (hr : w.ownsRow base 9 1 v k xs) (h : w.grownBy w1 v.ownBlock) : KT base b bm w w1 :=
  ⟨h.os, h.tape, h.output, h.size, fun j hj _ _ h3 => h.block j hj (fun e => by
    rcases hr.2 with ⟨rfl, _⟩ | ⟨g, cap, cur, rfl, hb, hgb, _⟩
    · simp [Value.ownBlock] at e
    · simp only [Value.ownBlock, Option.some.injEq] at e
      subst e
      exact h3 hb _ _ hgb)⟩
theorem KT.below {base b bm B : Nat} {w w' : World} (h : KT base b bm w w') (h1 : B ≤ b) (h2 : B ≤ bm) (h3 : B ≤ base) (hB : B ≤ w.heap.size) : Below B w w' :=
  ⟨h.os, h.tape, h.output, h.size, fun k hk => h.block k (Nat.lt_of_lt_of_le hk hB) (by omega) (by omega) (fun h => by omega)⟩
theorem KT.box {base b bm c : Nat} {t : TypeId} {xs : Array Value} {w w' : World} (h : KT base b bm w w') (hX : Box w t c xs) (h1 : c ≠ b) (h2 : c ≠ bm) (h3 : c < base ∨ t ≠ 9) : Box w' t c xs :=
  (h.block c hX.lt h1 h2 (fun hb ys fr e => by
    rcases h3 with h3 | h3
    · omega
    · rw [show w.heap[c]? = _ from hX] at e
      simp only [Option.some.injEq, Obj.cells.injEq] at e
      exact h3 e.2.1)).trans hX
theorem KT.row {base b bm B E k : Nat} {v : Value} {xs : List Value} {w w' : World} (h : KT base b bm w w') (hr : w.ownsRow B E 1 v k xs) (h1 : b < B) (h2 : bm < B) (h3 : E ≠ 9) : w'.ownsRow B E 1 v k xs := by
  refine ⟨hr.1, ?_⟩
  rcases hr.2 with h0 | ⟨g, cap, cur, rfl, hg, hgb, rest⟩
  · exact .inl h0
  · refine .inr ⟨g, cap, cur, rfl, hg, ?_, rest⟩
    rw [h.block g (Array.getElem?_eq_some_iff.1 hgb).1 (by omega) (by omega) (fun _ ys fr e => by rw [hgb] at e; simp only [Option.some.injEq, Obj.cells.injEq] at e; exact h3 e.2.1)]
    exact hgb
theorem Box.not_row {W : World} {b : Nat} {t e : TypeId} {ys : Array Value} (h : Box W t b ys) (hte : t ≠ e) {base k : Nat} {v : Value} {xs : List Value} (hr : W.ownsRow base e 1 v k xs) : some b ≠ v.ownBlock := by
  intro he
  rcases hr.2 with ⟨rfl, _⟩ | ⟨g, cap, cur, rfl, _, hgb, _⟩
  · simp [Value.ownBlock] at he
  · simp only [Value.ownBlock, Option.some.injEq] at he
    subst he
    rw [show W.heap[b]? = _ from h] at hgb
    simp only [Option.some.injEq, Obj.cells.injEq] at hgb
    exact hte hgb.2.1
theorem MapO.grown {w w1 : World} {bm : Nat} {l : List ByteArray} (h : MapO w bm l) {row : Option Nat} (hg : w.grownBy w1 row) (hne : some bm ≠ row) : MapO w1 bm l := by
  obtain ⟨D, h1, h2⟩ := h
  exact ⟨D, h1.kept hg hne, h2⟩
theorem MapO.below {w w1 : World} {bm : Nat} {l : List ByteArray} (h : MapO w bm l) (hB : Below w.heap.size w w1) : MapO w1 bm l :=
  h.grown (row := none) ⟨hB.os, hB.tape, hB.output, hB.size, fun k hk _ => hB.block k hk⟩ (by simp)
theorem MapO.set {w : World} {bm b i : Nat} {l : List ByteArray} (h : MapO w bm l) (hne : bm ≠ b) (u : Value) : MapO (w.setCell ⟨b, i, none⟩ u) bm l := by
  obtain ⟨D, h1, h2⟩ := h
  exact ⟨D, h1.setCell (a := ⟨b, i, none⟩) hne u, h2⟩
theorem Wk.below {w w1 : World} {b bm base : Nat} {v : Value} {l : List ByteArray} {er : Int} (h : Wk w b bm base v l er) (hB : Below w.heap.size w w1) : Wk w1 b bm base v l er :=
  ⟨h.box.below hB, row_below h.row hB, h.map.below hB, h.h1, h.h2, h.h3⟩
theorem Wk.shape {w : World} {b bm base : Nat} {v : Value} {l : List ByteArray} {er : Int} (h : Wk w b bm base v l er) : ∃ a k, v = .slice a l.length k := row_shape h.row
theorem Wk.reads {w : World} {b bm base k : Nat} {a : Option Addr} {l : List ByteArray} {er : Int} (h : Wk w b bm base (.slice a l.length k) l er) : ReadsS w a l := reads_of_row rfl h.row
/-- another variable is written -/
theorem Wk.other {w : World} {b bm base c i : Nat} {v : Value} {l : List ByteArray} {er : Int} (h : Wk w b bm base v l er) {t : TypeId} {xs : Array Value} (hX : Box w t c xs) (h1 : b ≠ c) (ht : t ≠ 9) (u : Value) : Wk (w.setCell ⟨c, i, none⟩ u) b bm base v l er := by
  have hbm : bm ≠ c := by
    intro e; subst e
    obtain ⟨D, ⟨es, ck, hm, _⟩, _⟩ := h.map
    rw [show w.heap[bm]? = _ from hX] at hm
    cases hm
  refine ⟨h.box.other h1 u, ?_, h.map.set hbm u, h.h1, h.h2, h.h3⟩
  refine ⟨h.row.1, ?_⟩
  rcases h.row.2 with h0 | ⟨g, cap, cur, rfl, hg, hgb, rest⟩
  · exact .inl h0
  · refine .inr ⟨g, cap, cur, rfl, hg, (Below.heap_setCell _ _ _ _ (fun e => ?_)).trans hgb, rest⟩
    subst e
    rw [show w.heap[g]? = _ from hX] at hgb
    simp only [Option.some.injEq, Obj.cells.injEq] at hgb
    exact ht hgb.2.1
/-- its error is written -/
theorem Wk.err {w : World} {b bm base : Nat} {v : Value} {l : List ByteArray} {er : Int} (h : Wk w b bm base v l er) (e2 : Int) : Wk (w.setCell ⟨b, 2, none⟩ (.int .i64 e2)) b bm base v l e2 :=
  ⟨h.box.set 2 (by simp) _, row_other h.row _ _ h.h1 _, h.map.set (fun e => h.h3 e.symm) _, h.h1, h.h2, h.h3⟩
end Go.Proofs.Ytndghjfgjkjbdaa.s06
