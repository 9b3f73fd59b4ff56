/-
  Layer 3: Compare with a result of its own name; what the order's laws say of three results.
-/
import Derived.Test.YtabcggmmdjeobaaDoorS03Q
import Derived.Test.YtabcggmmdjeobaaDoorS03D
namespace Go.Proofs.YtabcggmmdjeobaaDoor.s03
set_option linter.unusedVariables false
set_option linter.unusedSimpArgs false
open Go.RowKit
open kit

theorem cmp_is (s t : ByteArray) (x : Int) (w : World) (hs : s.size ≤ 9223372036854775807) (ht : t.size ≤ 9223372036854775807) (H : Hid (cmpR s.data.toList t.data.toList = x)) :
    Calls Tryd.prog 16 #[.string s, .string t] w fun e w' => e = .returned (.int .i64 x) ∧ Below w.heap.size w w' := by
  have := H.out
  subst this
  exact cmp_any s t w hs ht
theorem bytes_eq {a b : ByteArray} (h : a.data.toList = b.data.toList) : a = b := by
  cases a; cases b; simp at h; rw [h]
theorem texts_ne {a b : ByteArray} (h : a ≠ b) : (¬ a.toList = b.toList) ∧ (a.toList == b.toList) = false := by
  have h1 : ¬ a.toList = b.toList := fun e => h (bytes_eq (by rw [ByteArray.toList_eq, ByteArray.toList_eq] at e; exact e))
  exact ⟨h1, beq_eq_false_iff_ne.2 h1⟩
theorem cmp_lt_trans {a b c : List UInt8} (h1 : cmpR a b < 0) (h2 : cmpR b c ≤ 0) : cmpR a c < 0 := by
  have h3 := cmp_trans a b c (by omega) h2
  by_cases h : cmpR a c = 0
  · have := cmp_eq _ _ h
    subst this
    have := cmp_neg a b
    omega
  · omega
theorem order_facts (a b c : ByteArray) {x y z : Int} (hx : cmpR a.data.toList b.data.toList = x) (hy : cmpR b.data.toList c.data.toList = y) (hz : cmpR a.data.toList c.data.toList = z) :
    (x = 0 → a = b) ∧ (x ≠ 0 → a ≠ b) ∧ cmpR b.data.toList a.data.toList = -x ∧ (x ≤ 0 → y ≤ 0 → z ≤ 0) ∧ (x < 0 → y ≤ 0 → z < 0) ∧ (x = -1 ∨ x = 0 ∨ x = 1) ∧ (y = -1 ∨ y = 0 ∨ y = 1) ∧ (z = -1 ∨ z = 0 ∨ z = 1) := by
  subst hx hy hz
  refine ⟨fun h => bytes_eq (cmp_eq _ _ h), fun h e => h ?_, cmp_neg _ _, cmp_trans _ _ _, cmp_lt_trans, cmp_range _ _, cmp_range _ _, cmp_range _ _⟩
  subst e
  exact cmp_self _
end Go.Proofs.YtabcggmmdjeobaaDoor.s03
