/-
  Layer 7: lists of tokens that come in, opened to cells.
-/
import Derived.Test.YtniimoebgajefaaS07L
import Derived.Deep.Slices
import Derived.Deep.Fields
import Derived.ChangeSame
import Derived.ProofKit
namespace Go.Proofs.Ytniimoebgajefaa.s07
set_option linter.unusedVariables false
set_option linter.unusedSimpArgs false
open Go.ChangeShapes Go.WideShapes Go.RowKit Go.Deep
open kit

set_option maxRecDepth 100000 in
theorem tok_cells {H : Type} {enc : TypeId × Value → H} {w : World} {n : Nat} {cs' : List Value} {x : DataW H × List MemPlace} (hcl : cs'.length = 3) (h : DataW.trod enc Try.prog w 0 (fun _ => true) true n 23 cs' = some x) :
    ∃ (kd : Int) (tx : ByteArray) (pl : Int), cs' = [.int .i64 kd, .string tx, .int .i64 pl] ∧ tx.size ≤ maxLen := by
  obtain ⟨ys, n', hn', hy, hlen, hyl, hf⟩ := DataW.trod_struct Try.underlying23 h
  match cs', hcl with
  | [c0, c1, c2], _ =>
    match ys, hyl with
    | [y0, y1, y2], _ =>
      have f0 : DataW.trod enc Try.prog w 0 (fun _ => true) true n' 3 [c0] = some y0 := hf 0 _ rfl
      have f1 : DataW.trod enc Try.prog w 0 (fun _ => true) true n' 9 [c1] = some y1 := hf 1 _ rfl
      have f2 : DataW.trod enc Try.prog w 0 (fun _ => true) true n' 3 [c2] = some y2 := hf 2 _ rfl
      obtain ⟨kd, e0, _, _⟩ := DataW.trod_int Try.underlying3 f0
      obtain ⟨tx, e1, _, hmax⟩ := DataW.trod_string Try.underlying9 f1
      obtain ⟨pl, e2, _, _⟩ := DataW.trod_int Try.underlying3 f2
      simp at e0 e1 e2
      exact ⟨kd, tx, pl, by rw [e0, e1, e2], hmax⟩
theorem open_toks {H : Type} {enc : TypeId × Value → H} {w : World} {fuel : Nat} {cs : List Value} {x : DataW H × List MemPlace} (h : DataW.trod enc Try.prog w 0 (fun _ => true) true fuel 34 cs = some x) :
    cs = [.slice none 0 0] ∨ ∃ (a : Addr) (len cap : Nat) (z : List Li), cs = [.slice (some a) len cap] ∧ len ≤ maxLen ∧ z.length = len ∧ ReadsL w (some a) z ∧ (∀ x ∈ z, x.2.1.size ≤ maxLen) := by
  rcases open_slice Try.underlying34 h with ⟨h0, _⟩ | ⟨a, len, cap, m, n, D, Pl, hcs, _, hl, hm, hmm, _, hi⟩
  · exact .inl h0
  · refine .inr ⟨a, len, cap, ?_⟩
    have hc3 : Try.prog.cellsOf 23 = 3 := by kernel_rfl
    rw [hc3] at hi
    have hmc : m = cap := by simpa using hmm
    have hcell : ∀ i, i < len → ∃ y : Li, w.cell? (a.add (i * 3)) = some (.int .i64 y.1) ∧ w.cell? (a.add (i * 3 + 1)) = some (.string y.2.1) ∧ w.cell? (a.add (i * 3 + 2)) = some (.int .i64 y.2.2) ∧ y.2.1.size ≤ maxLen := fun i hil => by
      obtain ⟨cs', hc, ht'⟩ := hi i (by omega)
      obtain ⟨_, hcl, hat⟩ := World.cells?_some hc
      obtain ⟨kd, tx, pl, rfl, hmax⟩ := tok_cells hcl ht'
      have g0 := hat 0 (by omega)
      have g1 := hat 1 (by omega)
      have g2 := hat 2 (by omega)
      rw [add_add] at g0 g1 g2
      exact ⟨(kd, tx, pl), g0, g1, g2, hmax⟩
    have key : ∀ n, n ≤ len → ∃ z : List Li, z.length = n ∧ (∀ x ∈ z, x.2.1.size ≤ maxLen) ∧ ∀ i, i < n → w.cell? (a.add (i * 3)) = some (.int .i64 (z[i]?.getD noLi).1) ∧ w.cell? (a.add (i * 3 + 1)) = some (.string (z[i]?.getD noLi).2.1) ∧ w.cell? (a.add (i * 3 + 2)) = some (.int .i64 (z[i]?.getD noLi).2.2) := by
      intro n
      induction n with
      | zero => intro _; exact ⟨[], rfl, (by intro x hx; cases hx), fun i hi => by omega⟩
      | succ n ih =>
        intro hn
        obtain ⟨z, hz, hmx, hall⟩ := ih (by omega)
        obtain ⟨y, g0, g1, g2, hmax⟩ := hcell n (by omega)
        refine ⟨z ++ [y], by simp [hz], (fun x hx => (List.mem_append.1 hx).elim (hmx x) (fun h => by rw [List.mem_singleton.1 h]; exact hmax)), fun i hi => ?_⟩
        by_cases e : i = n
        · subst e
          have : (z ++ [y])[i]?.getD noLi = y := by rw [List.getElem?_append_right (by omega), hz, Nat.sub_self]; rfl
          rw [this]; exact ⟨g0, g1, g2⟩
        · rw [List.getElem?_append_left (by omega)]; exact hall i (by omega)
    obtain ⟨z, hz, hmx, hall⟩ := key len (Nat.le_refl _)
    refine ⟨z, hcs, by omega, hz, fun i hi => ?_, hmx⟩
    obtain ⟨b, off, spot⟩ := a
    have hspot : spot = none := by simpa [Addr.add] using World.cell?_spot (hall 0 (by omega)).1
    subst hspot
    obtain ⟨g0, g1, g2⟩ := hall i (by omega)
    rw [Go.WideShapes.add_plain] at g0 g1 g2
    exact ⟨b, off, rfl, cell_lt g0, g0, by rw [← Nat.add_assoc] at g1; exact g1, by rw [← Nat.add_assoc] at g2; exact g2⟩
end Go.Proofs.Ytniimoebgajefaa.s07
