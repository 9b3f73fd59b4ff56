/-
  Layer 5: readers and writers that come in, opened.
-/
import Derived.Test.YtkepnjnindolbaaKit
import Derived.Lib.SmallJoins
import Derived.Deep.Slices
import Derived.Deep.Fields
import Derived.ChangeSame
import Derived.ProofKit
namespace Go.Proofs.Ytkepnjnindolbaa.s05
set_option linter.unusedVariables false
set_option linter.unusedSimpArgs false
open Go.ChangeShapes Go.WideShapes Go.RowKit Go.Deep
open kit

set_option maxRecDepth 100000 in
theorem open_reader {H : Type} {enc : TypeId × Value → H} {w : World} {r : Reach} {b0 : Nat} {v : Value} {d : DataW H} {p : List MemPlace} (hv : Value.okWide Try.prog w r b0 26 v) (h : DataW.Trod enc Try.prog w 0 (fun _ => true) true 26 v d p) :
    ∃ (s : ByteArray) (a e o : Int), v = .agg #[.string s, .int .i64 a, .int .i64 e, .int .i64 o] ∧ s.size ≤ maxLen ∧ (Lit.int .i64 a).wf = true ∧ (Lit.int .i64 e).wf = true ∧ (Lit.int .i64 o).wf = true := by
  obtain ⟨cs, rfl, hsz⟩ := okWide_struct Try.underlying26 hv
  obtain ⟨c0, c1, c2, c3, rfl⟩ := Joins.array4 (hsz.trans (by kernel_rfl))
  obtain ⟨fuel, hf⟩ := h
  obtain ⟨ys, n', hn', hy, hlen, hyl, hff⟩ := DataW.trod_struct Try.underlying26 hf
  match ys, hyl with
  | [y0, y1, y2], _ =>
    have f0 : DataW.trod enc Try.prog w 0 (fun _ => true) true n' 9 [c0] = some y0 := hff 0 _ rfl
    have f1 : DataW.trod enc Try.prog w 0 (fun _ => true) true n' 3 [c1] = some y1 := hff 1 _ rfl
    have f2 : DataW.trod enc Try.prog w 0 (fun _ => true) true n' 24 [c2, c3] = some y2 := hff 2 _ rfl
    obtain ⟨zs, n2, hn2, hz, hlen2, hzl, hgg⟩ := DataW.trod_struct Try.underlying24 f2
    match zs, hzl with
    | [z0, z1], _ =>
      have g0 : DataW.trod enc Try.prog w 0 (fun _ => true) true n2 22 [c2] = some z0 := hgg 0 _ rfl
      have g1 : DataW.trod enc Try.prog w 0 (fun _ => true) true n2 3 [c3] = some z1 := hgg 1 _ rfl
      obtain ⟨s, e0, _, ws⟩ := DataW.trod_string Try.underlying9 f0
      obtain ⟨a, e1, _, wa⟩ := DataW.trod_int Try.underlying3 f1
      obtain ⟨e, e2, _, we⟩ := DataW.trod_int Try.underlying22 g0
      obtain ⟨o, e3, _, wo⟩ := DataW.trod_int Try.underlying3 g1
      simp at e0 e1 e2 e3
      exact ⟨s, a, e, o, by rw [e0, e1, e2, e3], ws, wa, we, wo⟩
set_option maxRecDepth 100000 in
theorem open_writer {H : Type} {enc : TypeId × Value → H} {w : World} {r : Reach} {b0 : Nat} {v : Value} {d : DataW H} {p : List MemPlace} (hv : Value.okWide Try.prog w r b0 45 v) (h : DataW.Trod enc Try.prog w 0 (fun _ => true) true 45 v d p) :
    ∃ (s : ByteArray) (m e : Int), v = .agg #[.string s, .int .i64 m, .int .i64 e] ∧ s.size ≤ maxLen ∧ (Lit.int .i64 m).wf = true ∧ (Lit.int .i64 e).wf = true := by
  obtain ⟨cs, rfl, hsz⟩ := okWide_struct Try.underlying45 hv
  obtain ⟨c0, c1, c2, rfl⟩ := Joins.array3 (hsz.trans (by kernel_rfl))
  obtain ⟨fuel, hf⟩ := h
  obtain ⟨ys, n', hn', hy, hlen, hyl, hff⟩ := DataW.trod_struct Try.underlying45 hf
  match ys, hyl with
  | [y0, y1, y2], _ =>
    have f0 : DataW.trod enc Try.prog w 0 (fun _ => true) true n' 9 [c0] = some y0 := hff 0 _ rfl
    have f1 : DataW.trod enc Try.prog w 0 (fun _ => true) true n' 3 [c1] = some y1 := hff 1 _ rfl
    have g0 : DataW.trod enc Try.prog w 0 (fun _ => true) true n' 22 [c2] = some y2 := hff 2 _ rfl
    obtain ⟨s, e0, _, ws⟩ := DataW.trod_string Try.underlying9 f0
    obtain ⟨a, e1, _, wa⟩ := DataW.trod_int Try.underlying3 f1
    obtain ⟨e, e2, _, we⟩ := DataW.trod_int Try.underlying22 g0
    simp at e0 e1 e2
    exact ⟨s, a, e, by rw [e0, e1, e2], ws, wa, we⟩
end Go.Proofs.Ytkepnjnindolbaa.s05
