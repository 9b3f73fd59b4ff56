/-
  Layer 3: Word, Check, Small, Capital with results of their own names; what holds of the kinds, and of a word with a digit more.
-/
import Derived.Test.YtabcggmmdjeobaaDoorS03Q
namespace Go.Proofs.YtabcggmmdjeobaaDoor.s03
set_option linter.unusedVariables false
set_option linter.unusedSimpArgs false
open Go.RowKit
open kit

theorem word_is (s : ByteArray) (x : Int) (w : World) (hs : s.size ≤ 9223372036854775807) (H : Hid (wordR s.data.toList = x)) : Calls Tryd.prog 11 #[.string s] w fun e w' => e = .returned (.int .i64 x) ∧ Below w.heap.size w w' := by
  have := H.out
  subst this
  exact word_any s w hs
theorem check_is (s : ByteArray) (x : Int) (w : World) (hs : s.size ≤ 9223372036854775807) (H : Hid (checkR s.data.toList = x)) : Calls Tryd.prog 12 #[.string s] w fun e w' => e = .returned (.int .i64 x) ∧ Below w.heap.size w w' := by
  have := H.out
  subst this
  exact check_any s w hs
theorem small_is (s : ByteArray) (x : Bool) (w : World) (hs : s.size ≤ 9223372036854775807) (H : Hid (kindB 97 122 s.data.toList = x)) : Calls Tryd.prog 14 #[.string s] w fun e w' => e = .returned (.bool x) ∧ Below w.heap.size w w' := by
  have := H.out
  subst this
  exact small_any s w hs
theorem capital_is (s : ByteArray) (x : Bool) (w : World) (hs : s.size ≤ 9223372036854775807) (H : Hid (kindB 65 90 s.data.toList = x)) : Calls Tryd.prog 15 #[.string s] w fun e w' => e = .returned (.bool x) ∧ Below w.heap.size w w' := by
  have := H.out
  subst this
  exact capital_any s w hs
theorem word_parts {l : List UInt8} (h : wordR l = 0) : l ≠ [] ∧ form l = true ∧ l.length ≤ 12 := by
  unfold wordR at h
  by_cases h1 : l = []
  · rw [if_pos h1] at h; exact absurd h (by decide)
  · rw [if_neg h1] at h
    cases h2 : form l
    · rw [h2, if_pos rfl] at h; exact absurd h (by decide)
    · rw [h2, if_neg (by decide)] at h
      by_cases h3 : 12 < l.length
      · rw [if_pos h3] at h; exact absurd h (by decide)
      · exact ⟨h1, rfl, by omega⟩
theorem check_word {l : List UInt8} (h : checkR l = 0) : wordR l = 0 := by
  unfold checkR at h
  split at h
  · exact absurd h (by decide)
  · exact h
theorem form_at {l : List UInt8} (h : form l = true) (i : Nat) (hi : i < l.length) : fits l i = true := by
  unfold form at h
  rw [List.all_eq_true] at h
  exact h i (List.mem_range.2 hi)
theorem kinds_one {l : List UInt8} (h : checkR l = 0) : kindB 65 90 l = !kindB 97 122 l := by
  obtain ⟨h1, h2, _⟩ := word_parts (check_word h)
  have hp : 0 < l.length := List.length_pos_iff.2 h1
  have hf := form_at h2 0 hp
  unfold fits at hf
  simp only [bne_self_eq_false, Bool.false_and, Bool.or_false] at hf
  unfold letterB at hf
  have hf := of_decide_eq_true hf
  unfold kindB
  rw [h]
  generalize (l[0]?.getD 0).toNat = n at hf ⊢
  simp only [beq_self_eq_true, Bool.true_and]
  by_cases ha : 97 ≤ n ∧ n ≤ 122
  · rw [decide_eq_true ha, decide_eq_false (by omega)]; rfl
  · rw [decide_eq_false ha, decide_eq_true (by omega)]; rfl
theorem lang_more (l : List UInt8) : langB (l ++ [48]) = false := by
  cases h : langB (l ++ [48])
  · rfl
  · exfalso
    have hg : (l ++ [48]).getLast? = some 48 := by simp
    unfold langB at h
    simp only [Bool.or_eq_true, beq_iff_eq] at h
    rcases h with h | h | h | h <;> (rw [h] at hg; exact absurd hg (by decide))
theorem check_more {l : List UInt8} (h : wordR l = 0) (hl : l.length < 12) : checkR (l ++ [48]) = 0 := by
  obtain ⟨h1, h2, _⟩ := word_parts h
  have hp : 0 < l.length := List.length_pos_iff.2 h1
  have hf : form (l ++ [48]) = true := form_yes fun i hi => by
    rcases Nat.lt_or_ge i l.length with h3 | h3
    · have := form_at h2 i h3
      unfold fits at this ⊢
      rw [List.getElem?_append_left h3]
      exact this
    · have h4 : i = l.length := by simp at hi; omega
      subst h4
      unfold fits
      rw [List.getElem?_append_right (Nat.le_refl _), Nat.sub_self]
      have : (l.length != 0) = true := bne_iff_ne.2 (by omega)
      rw [this]
      rfl
  unfold checkR
  rw [lang_more, if_neg (by simp)]
  unfold wordR
  rw [if_neg (by simp), if_neg (by rw [hf]; decide), if_neg (by simp; omega)]
end Go.Proofs.YtabcggmmdjeobaaDoor.s03
