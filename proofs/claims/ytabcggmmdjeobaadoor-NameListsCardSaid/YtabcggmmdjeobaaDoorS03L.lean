/-
  Layer 3: sorted lists exist; own lists with what an append needs of them.
-/
import Derived.Test.YtabcggmmdjeobaaDoorS03Q
import Derived.Test.YtabcggmmdjeobaaDoorS03E
import Derived.Test.YtabcggmmdjeobaaDoorKitTexts
namespace Go.Proofs.YtabcggmmdjeobaaDoor.s03
set_option linter.unusedVariables false
set_option linter.unusedSimpArgs false
open Go.RowKit
open kit

theorem own_texts2 (a : Option Addr) (c : Nat) (ss : List ByteArray) (w : World) (hn : ss.length ≤ 100000) (hs : Src w a c (ss.map Value.string)) :
    Calls Tryd.prog 31 #[.slice a ss.length c] w fun e w' => ∃ a1 c1, e = .returned (.slice a1 ss.length c1) ∧ ReadsS w' a1 ss ∧ Src w' a1 c1 (ss.map Value.string) ∧ Below w.heap.size w w' := by
  go_enter Tryd.func31, Tryd.ntmps31
  go_wp2_with (at_builtin; refine append_in Tryd.underlying26 info9 rfl (by omega) rfl (.tmp 3) (.tmp 4) rfl w.heap.size _ 0 [] rfl (empty_row 9 w _ (Nat.le_refl _)) a (ss.map Value.string) ss.length c rfl (by simp) (hs.alloc _) (by simp [Value.oneCell']) (by omega) (by simp) ?_; intro v1 wA hv1 hBA; simp only [Nat.zero_add, List.nil_append] at hv1; obtain ⟨a1, k1, rfl⟩ := row_shape hv1)
  go_ret
  exact ⟨a1, k1, rfl, reads_of_row rfl hv1, src_of_row rfl hv1, ((Below.refl _ w).alloc (Nat.le_refl _) _).trans hBA⟩
theorem own_texts3 (a : Option Addr) (c : Nat) (ss : List ByteArray) (w : World) (hn : ss.length ≤ 100000) (hs : Src w a c (ss.map Value.string)) :
    Calls Tryd.prog 31 #[.slice a ss.length c] w fun e w' => ∃ a1 c1, e = .returned (.slice a1 ss.length c1) ∧ ReadsS w' a1 ss ∧ Src w' a1 c1 (ss.map Value.string) ∧ ss.length ≤ c1 ∧ Below w.heap.size w w' := by
  go_enter Tryd.func31, Tryd.ntmps31
  go_wp2_with (at_builtin; refine append_in Tryd.underlying26 info9 rfl (by omega) rfl (.tmp 3) (.tmp 4) rfl w.heap.size _ 0 [] rfl (empty_row 9 w _ (Nat.le_refl _)) a (ss.map Value.string) ss.length c rfl (by simp) (hs.alloc _) (by simp [Value.oneCell']) (by omega) (by simp) ?_; intro v1 wA hv1 hBA; simp only [Nat.zero_add, List.nil_append] at hv1; obtain ⟨a1, k1, rfl⟩ := row_shape hv1)
  go_ret
  refine ⟨a1, k1, rfl, reads_of_row rfl hv1, src_of_row rfl hv1, ?_, ((Below.refl _ w).alloc (Nat.le_refl _) _).trans hBA⟩
  rcases hv1.2 with ⟨e, h0⟩ | ⟨g, cap, cur, e, _, _, h1, h2, h3⟩
  · omega
  · cases e; omega
theorem sort_ex (l : List ByteArray) : ∃ x, SortedOf l x := by
  induction l with
  | nil => exact ⟨[], List.Perm.refl _, List.Pairwise.nil⟩
  | cons a l ih =>
    obtain ⟨x, hp, hs⟩ := ih
    obtain ⟨y, hy, hys⟩ : ∃ y : List ByteArray, y.Perm (a :: x) ∧ y.Pairwise le := by
      clear hp
      induction x with
      | nil => exact ⟨[a], List.Perm.refl _, List.pairwise_singleton _ _⟩
      | cons b x ih =>
        rw [List.pairwise_cons] at hs
        rcases le_total a b with hab | hba
        · refine ⟨a :: b :: x, List.Perm.refl _, List.pairwise_cons.2 ⟨fun z hz => ?_, List.pairwise_cons.2 hs⟩⟩
          rcases List.mem_cons.1 hz with rfl | hz
          · exact hab
          · exact le_trans hab (hs.1 z hz)
        · obtain ⟨y, hy, hys⟩ := ih hs.2
          refine ⟨b :: y, (List.Perm.cons b hy).trans (List.Perm.swap a b x), List.pairwise_cons.2 ⟨fun z hz => ?_, hys⟩⟩
          rcases List.mem_cons.1 (hy.mem_iff.1 hz) with rfl | hz
          · exact hba
          · exact hs.1 z hz
    exact ⟨y, hy.trans (List.Perm.cons a hp), hys⟩
theorem sortr_ex (l : List ByteArray) : ∃ x er, SortR l x er ∧ x.length ≤ l.length := by
  rcases Nat.lt_or_ge 100 l.length with h | h
  · exact ⟨[], 6, .inl ⟨h, rfl, rfl⟩, by simp⟩
  · obtain ⟨x, hx⟩ := sort_ex l
    exact ⟨x, 0, .inr ⟨h, hx, rfl⟩, by rw [hx.1.length_eq]; exact Nat.le_refl _⟩
theorem freshr_ex (l : List ByteArray) (c : Bool) : ∃ x er, FreshR l c x er := by
  rcases Nat.lt_or_ge 100 l.length with h | h
  · exact ⟨_, 6, .inl ⟨h, rfl, rfl⟩⟩
  · obtain ⟨n, h1, h2, h3⟩ := fresh_ex l c
    exact ⟨_, 0, .inr ⟨h, rfl, n, h1, rfl, h2, h3⟩⟩
end Go.Proofs.YtabcggmmdjeobaaDoor.s03
