/-
  Layer 4: the law TextChecks.
-/
import Derived.Test.YtjhmlmimgahnmaaDoorS04J
import Derived.Test.YtjhmlmimgahnmaaDoorS04Q
import Derived.Test.YtjhmlmimgahnmaaDoorKitQuiet
namespace Go.Proofs.YtjhmlmimgahnmaaDoor.s04
set_option linter.unusedVariables false
set_option linter.unusedSimpArgs false
open Go.RowKit
open kit

theorem empty_row3 (E : TypeId) (w : World) (base : Nat) (hb : base ≤ w.heap.size) : (w.alloc (.cells #[] E)).ownsRow base E 3 (.slice (some ⟨w.heap.size, 0, none⟩) 0 0) 0 [] :=
  ⟨rfl, .inr ⟨w.heap.size, 0, #[], rfl, hb, World.alloc_heap_new w _, by omega, by unfold maxLen; omega, rfl, rfl⟩⟩
theorem src_of_reads {w : World} {ad : Addr} {l : List Li} (h : ReadsL w (some ad) l) : ∀ j u, (flatL l)[j]? = some u → w.cell? (ad.add j) = some u := by
  intro j u hu
  have hj : j < l.length * 3 := by
    have := (List.getElem?_eq_some_iff.1 hu).1
    rwa [flatL_len] at this
  obtain ⟨b, off, e, _, h0, h1, h2⟩ := h (j / 3) (by omega)
  cases e
  rw [Go.WideShapes.add_plain]
  have hf := flatL_at l (j / 3) (by omega) (j % 3) (by omega)
  rw [show j / 3 * 3 + j % 3 = j by omega, hu] at hf
  rcases (show j % 3 = 0 ∨ j % 3 = 1 ∨ j % 3 = 2 by omega) with e | e | e
  · rw [e] at hf
    rw [show off + j = off + j / 3 * 3 by omega, h0]; exact hf.symm
  · rw [e] at hf
    rw [show off + j = off + j / 3 * 3 + 1 by omega, h1]; exact hf.symm
  · rw [e] at hf
    rw [show off + j = off + j / 3 * 3 + 2 by omega, h2]; exact hf.symm
theorem below_own0 {E z k : Nat} {B : Nat} {w1 w2 : World} {v : Value} {xs : List Value} (hr : w1.ownsRow B E z v k xs) (hg : w1.grownBy w2 v.ownBlock) (hB : B ≤ w1.heap.size) : Below B w1 w2 := (Below.refl _ _).grown hg hB fun j ej => (hr.lt j ej).1
/-- append of a list that came in, to a new one -/
theorem append_own {w : World} {ops : Array Oper} {rest : List Oper} {o : Oper} {a : Act} {Q : Exit → Act → World → Prop}
    (hg : o.guard = none) (s x : Operand) (hop : o.op = Op.call { callee := Callee.builtin Builtin.append, args := #[s, x], argTypes := #[24, 24] })
    (base : Nat) (v : Value) (hs : a.eval s = v) (hown : w.ownsRow base 23 3 v 0 []) (ad : Option Addr) (vs : List Li) (c : Nat) (hx : a.eval x = .slice ad vs.length c)
    (hr : ReadsL w ad vs) (hnil : ad = none → c = 0) (hk : vs.length ≤ 100000) (hb : base ≤ w.heap.size)
    (hK : ∀ a' c' w', ReadsL w' a' vs → Below base w w' → wpList Tryd.prog ops Q rest (a.put o.dst (.slice a' vs.length c')) w') :
    wpList Tryd.prog ops Q (o :: rest) a w := by
  obtain ⟨i0, hi, hz0, hz1, hz2⟩ := info_parts infoL
  cases ad with
  | none =>
    have h0 : vs = [] := by
      rcases Nat.eq_zero_or_pos vs.length with h | h
      · exact List.length_eq_zero_iff.1 h
      · obtain ⟨b, off, e, _⟩ := hr 0 h
        cases e
    subst h0
    obtain rfl := hnil rfl
    refine wpList_append_own_none hg s x 24 hop base 23 i0 3 Tryd.underlying24 hi v 0 _ hs hown hx ?_
    have hv : ∃ a' c', v = .slice a' 0 c' := by
      rcases hown.2 with ⟨rfl, _⟩ | ⟨g, cap, _, rfl, _⟩
      · exact ⟨_, _, rfl⟩
      · exact ⟨_, _, rfl⟩
    obtain ⟨a', c', rfl⟩ := hv
    exact hK a' c' w (ReadsL.nil _ _) (Below.refl _ _)
  | some ad =>
    refine append_lex Tryd.underlying24 hg s x hop base v 0 [] hs hown ad vs vs.length c hx rfl (src_of_reads hr) (by omega) hb fun v' w' h1 h2 => ?_
    rw [Nat.zero_add, List.nil_append] at h1
    have hv : ∃ a' c', v' = .slice a' vs.length c' := by
      rcases h1.2 with ⟨rfl, h0⟩ | ⟨g, cap, _, rfl, _⟩
      · exact ⟨none, 0, by rw [h0]⟩
      · exact ⟨_, _, rfl⟩
    obtain ⟨a', c', rfl⟩ := hv
    exact hK a' c' w' (readsL_of_row rfl h1) (below_own0 hown h2 hb)
end Go.Proofs.YtjhmlmimgahnmaaDoor.s04
