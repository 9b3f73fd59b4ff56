/-
  Layer 6: tables that come in, opened.
-/
import Derived.Test.YtndghjfgjkjbdaaS06ZA
import Derived.Lib.SmallJoins
import Derived.Deep.Slices
import Derived.Deep.Fields
import Derived.ChangeSame
import Derived.ProofKit
import Derived.SliceStrings
namespace Go.Proofs.Ytndghjfgjkjbdaa.s06
set_option linter.unusedVariables false
set_option linter.unusedSimpArgs false
open Go.ChangeShapes Go.WideShapes Go.RowKit Go.Deep
open kit

set_option maxRecDepth 100000 in
theorem open_table {H : Type} {enc : TypeId × Value → H} {w : World} {r : Reach} {b0 : Nat} {v : Value} {d : DataW H} {p : List MemPlace} (hv : Value.okWide Try.prog w r b0 24 v) (h : DataW.Trod enc Try.prog w 0 (fun _ => true) true 24 v d p) :
    ∃ (a : Option Addr) (cap : Nat) (z : List ByteArray), v = .agg #[.slice a z.length cap] ∧ z.length ≤ maxLen ∧ Tb w z a cap := by
  obtain ⟨cs, rfl, hsz⟩ := okWide_struct Try.underlying24 hv
  have h1 : cs.size = 1 := hsz.trans (by kernel_rfl)
  obtain ⟨c0, rfl⟩ : ∃ c0, cs = #[c0] := by
    refine ⟨cs[0], ?_⟩
    apply Array.ext
    · simp [h1]
    · intro i h2 h3
      have : i = 0 := by omega
      subst this
      rfl
  obtain ⟨fuel, hf⟩ := h
  obtain ⟨ys, n', hn', hy, hlen, hyl, hff⟩ := DataW.trod_struct Try.underlying24 hf
  match ys, hyl with
  | [y0], _ =>
    have f0 : DataW.trod enc Try.prog w 0 (fun _ => true) true n' 22 [c0] = some y0 := hff 0 _ rfl
    rcases open_strings Try.underlying22 Try.underlying9 (by kernel_rfl) f0 with ⟨hcs, _⟩ | ⟨x, l, c, zs, hcs, _, hl, hm, hz, _, hcell, hwz⟩
    · simp only [List.cons.injEq, and_true] at hcs
      subst hcs
      exact ⟨none, 0, [], rfl, Nat.zero_le _, ⟨Reads.nil _ _, Nat.le_refl _, fun _ => rfl, fun _ hx => (by cases hx)⟩⟩
    · simp only [List.cons.injEq, and_true] at hcs
      subst hcs
      have hz2 : zs.length = c := by simpa using hz
      obtain ⟨hr, hs⟩ := row_in Value.string ByteArray.empty hl hz2 hcell
      have hle : (zs.take l).length = l := by simp; omega
      refine ⟨some x, c, zs.take l, by rw [hle], by omega, ⟨hr, by omega, (fun e => by cases e), fun y hy => ?_⟩⟩
      have := hwz y (List.mem_of_mem_take hy)
      unfold maxLen at this
      omega
end Go.Proofs.Ytndghjfgjkjbdaa.s06
