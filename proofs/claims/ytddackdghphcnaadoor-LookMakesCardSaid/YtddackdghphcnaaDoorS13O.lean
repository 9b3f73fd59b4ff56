/-
  Layer 13: looks that come in, opened.
-/
import Derived.Test.YtddackdghphcnaaDoorS13A
import Derived.Lib.SmallJoins
import Derived.Deep.Slices
import Derived.Deep.Fields
import Derived.ChangeSame
import Derived.Laws.IdiomArrays
import Derived.ProofKit
namespace Go.Proofs.YtddackdghphcnaaDoor.s13
set_option linter.unusedVariables false
set_option linter.unusedSimpArgs false
open Go.RowKit
open kit

open Go.ChangeShapes Go.WideShapes Go.Deep
theorem array5 {cs : Array Value} (h : cs.size = 5) : ∃ c0 c1 c2 c3 c4, cs = #[c0, c1, c2, c3, c4] := by
  obtain ⟨l⟩ := cs
  match l, h with
  | [a, b, c, d, e], _ => exact ⟨a, b, c, d, e, rfl⟩
set_option maxRecDepth 100000 in
theorem open_look {H : Type} {enc : TypeId × Value → H} {w : World} {r : Reach} {b0 : Nat} {v : Value} {d : DataW H} {p : List MemPlace} (hv : Value.okWide Tryd.prog w r b0 25 v) (h : DataW.Trod enc Tryd.prog w 0 (fun _ => true) true 25 v d p) :
    ∃ (n a b c e : Int), v = .agg #[.int .i64 n, .int .i64 a, .int .i64 b, .int .i64 c, .int .i64 e] ∧ (Lit.int .i64 n).wf = true ∧ (Lit.int .i64 a).wf = true ∧ (Lit.int .i64 b).wf = true ∧ (Lit.int .i64 c).wf = true ∧ (Lit.int .i64 e).wf = true := by
  obtain ⟨cs, rfl, hsz⟩ := okWide_struct Tryd.underlying25 hv
  obtain ⟨c0, c1, c2, c3, c4, rfl⟩ := array5 (hsz.trans (by kernel_rfl))
  obtain ⟨fuel, hf⟩ := h
  obtain ⟨ys, n', hn', hy, hlen, hyl, hff⟩ := DataW.trod_struct Tryd.underlying25 hf
  match ys, hyl with
  | [y0, y1], _ =>
    have f0 : DataW.trod enc Tryd.prog w 0 (fun _ => true) true n' 3 [c0] = some y0 := hff 0 _ rfl
    have f1 : DataW.trod enc Tryd.prog w 0 (fun _ => true) true n' 23 [c1, c2, c3, c4] = some y1 := hff 1 _ rfl
    obtain ⟨z1, z2, z3, z4, n2, _, g1, g2, g3, g4⟩ := trod_array4 Tryd.underlying23 (by kernel_rfl) f1
    obtain ⟨n, e0, _, w0⟩ := DataW.trod_int Tryd.underlying3 f0
    obtain ⟨a, e1, _, w1⟩ := DataW.trod_int Tryd.underlying3 g1
    obtain ⟨b, e2, _, w2⟩ := DataW.trod_int Tryd.underlying3 g2
    obtain ⟨c, e3, _, w3⟩ := DataW.trod_int Tryd.underlying3 g3
    obtain ⟨e, e4, _, w4⟩ := DataW.trod_int Tryd.underlying3 g4
    simp at e0 e1 e2 e3 e4
    exact ⟨n, a, b, c, e, by rw [e0, e1, e2, e3, e4], w0, w1, w2, w3, w4⟩
end Go.Proofs.YtddackdghphcnaaDoor.s13
