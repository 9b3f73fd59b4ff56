/-
  Layer 3: the order of strings is one; what Sorted answers is one list.
-/
import Derived.Test.YtabcggmmdjeobaaDoorS03B
namespace Go.Proofs.YtabcggmmdjeobaaDoor.s03
set_option linter.unusedVariables false
set_option linter.unusedSimpArgs false
open kit

theorem cmp_range : ∀ a b : List UInt8, cmpR a b = -1 ∨ cmpR a b = 0 ∨ cmpR a b = 1 := by
  intro a
  induction a with
  | nil => intro b; cases b <;> simp [cmpR]
  | cons x a ih =>
    intro b
    cases b with
    | nil => simp [cmpR]
    | cons y b =>
      rw [cmpR]
      split
      · simp
      · split
        · simp
        · exact ih b
theorem cmp_self : ∀ a : List UInt8, cmpR a a = 0 := by
  intro a
  induction a with
  | nil => rfl
  | cons x a ih => rw [cmpR, if_neg (by omega), if_neg (by omega), ih]
theorem cmp_eq : ∀ a b : List UInt8, cmpR a b = 0 → a = b := by
  intro a
  induction a with
  | nil => intro b h; cases b with
    | nil => rfl
    | cons y b => simp [cmpR] at h
  | cons x a ih => intro b h; cases b with
    | nil => simp [cmpR] at h
    | cons y b =>
      rw [cmpR] at h
      split at h
      · simp at h
      · split at h
        · simp at h
        · rw [ih b h, UInt8.toNat_inj.1 (show x.toNat = y.toNat by omega)]
theorem cmp_neg : ∀ a b : List UInt8, cmpR b a = - cmpR a b := by
  intro a
  induction a with
  | nil => intro b; cases b <;> simp [cmpR]
  | cons x a ih => intro b; cases b with
    | nil => simp [cmpR]
    | cons y b =>
      rw [cmpR, cmpR]
      by_cases h1 : x.toNat < y.toNat
      · rw [if_neg (by omega), if_pos h1, if_pos h1]; rfl
      · by_cases h2 : y.toNat < x.toNat
        · rw [if_pos h2, if_neg h1, if_pos h2]
        · rw [if_neg h2, if_neg h1, if_neg h1, if_neg h2, ih]
theorem cmp_trans : ∀ a b c : List UInt8, cmpR a b ≤ 0 → cmpR b c ≤ 0 → cmpR a c ≤ 0 := by
  intro a
  induction a with
  | nil => intro b c _ _; cases c <;> simp [cmpR]
  | cons x a ih =>
    intro b c h1 h2
    cases b with
    | nil => simp [cmpR] at h1
    | cons y b =>
      cases c with
      | nil => simp [cmpR] at h2
      | cons z c =>
        rw [cmpR] at h1 h2 ⊢
        by_cases e1 : x.toNat < y.toNat
        · by_cases e2 : y.toNat < z.toNat
          · rw [if_pos (by omega)]; decide
          · rw [if_neg e2] at h2
            by_cases e3 : z.toNat < y.toNat
            · rw [if_pos e3] at h2; omega
            · rw [if_pos (by omega)]; decide
        · rw [if_neg e1] at h1
          by_cases e3 : y.toNat < x.toNat
          · rw [if_pos e3] at h1; omega
          · rw [if_neg e3] at h1
            by_cases e2 : y.toNat < z.toNat
            · rw [if_pos (by omega)]; decide
            · rw [if_neg e2] at h2
              by_cases e4 : z.toNat < y.toNat
              · rw [if_pos e4] at h2; omega
              · rw [if_neg e4] at h2
                rw [if_neg (by omega), if_neg (by omega)]
                exact ih b c h1 h2
/-- a comes before b, or they are equal -/
def le (a b : ByteArray) : Prop := cmpR a.data.toList b.data.toList ≤ 0
theorem le_refl (a : ByteArray) : le a a := by unfold le; rw [cmp_self]; decide
theorem le_trans {a b c : ByteArray} (h1 : le a b) (h2 : le b c) : le a c := cmp_trans _ _ _ h1 h2
theorem le_antisymm {a b : ByteArray} (h1 : le a b) (h2 : le b a) : a = b := by
  unfold le at h1 h2
  rw [cmp_neg] at h2
  exact bytes_ext (cmp_eq _ _ (by omega))
theorem le_total (a b : ByteArray) : le a b ∨ le b a := by
  unfold le
  rw [cmp_neg a.data.toList b.data.toList]
  rcases cmp_range a.data.toList b.data.toList with h | h | h <;> omega
/-- the same strings, in order -/
def SortedOf (l x : List ByteArray) : Prop := x.Perm l ∧ x.Pairwise le
theorem sorted_unique : ∀ (x y : List ByteArray), x.Perm y → x.Pairwise le → y.Pairwise le → x = y := by
  intro x
  induction x with
  | nil => intro y h _ _; exact (List.nil_perm.1 h).symm
  | cons a x ih =>
    intro y h h1 h2
    cases y with
    | nil => exact absurd h.length_eq (by simp)
    | cons b y =>
      obtain ⟨ha, hx⟩ := List.pairwise_cons.1 h1
      obtain ⟨hb, hy⟩ := List.pairwise_cons.1 h2
      have hab : a = b := by
        have ma : a ∈ b :: y := h.subset (List.mem_cons_self ..)
        have mb : b ∈ a :: x := h.symm.subset (List.mem_cons_self ..)
        rcases List.mem_cons.1 ma with rfl | ma
        · rfl
        · rcases List.mem_cons.1 mb with e | mb
          · exact e.symm
          · exact le_antisymm (ha b mb) (hb a ma)
      subst hab
      rw [ih y ((List.perm_cons a).1 h) hx hy]
theorem SortedOf.unique {l x y : List ByteArray} (hx : SortedOf l x) (hy : SortedOf l y) : x = y := sorted_unique x y (hx.1.trans hy.1.symm) hx.2 hy.2

/-- an element -/
def at_ (l : List ByteArray) (i : Nat) : ByteArray := l[i]?.getD ByteArray.empty
/-- two neighbours exchanged -/
def swap (l : List ByteArray) (k : Nat) : List ByteArray := (l.set (k + 1) (at_ l k)).set k (at_ l (k + 1))
theorem swap_len (l : List ByteArray) (k : Nat) : (swap l k).length = l.length := by simp [swap]
theorem swap_at (l : List ByteArray) (k : Nat) (h : k + 1 < l.length) (i : Nat) : at_ (swap l k) i = if i = k then at_ l (k + 1) else if i = k + 1 then at_ l k else at_ l i := by
  unfold swap
  show (((l.set (k + 1) (at_ l k)).set k (at_ l (k + 1)))[i]?).getD ByteArray.empty = _
  rw [List.getElem?_set]
  by_cases h1 : k = i
  · subst h1
    rw [if_pos rfl, if_pos (by simp; omega), if_pos rfl]; rfl
  · rw [if_neg h1, if_neg (Ne.symm h1), List.getElem?_set]
    by_cases h2 : k + 1 = i
    · subst h2
      rw [if_pos rfl, if_pos h, if_pos rfl]; rfl
    · rw [if_neg h2, if_neg (Ne.symm h2)]; rfl
theorem swap_perm : ∀ (k : Nat) (l : List ByteArray), k + 1 < l.length → (swap l k).Perm l := by
  intro k
  induction k with
  | zero =>
    intro l h
    match l, h with
    | a :: b :: l, _ =>
      show List.Perm (b :: a :: l) (a :: b :: l)
      exact List.Perm.swap a b l
  | succ k ih =>
    intro l h
    match l, h with
    | a :: l, h =>
      show List.Perm (a :: swap l k) (a :: l)
      exact (List.perm_cons a).2 (ih l (by simpa using h))
/-- the first i + 1 are in order but for place k; what stands there is before all behind it -/
def Ins (l : List ByteArray) (i k : Nat) : Prop :=
  (∀ p q, p < q → q ≤ i → p ≠ k → q ≠ k → le (at_ l p) (at_ l q)) ∧ ∀ q, k < q → q ≤ i → le (at_ l k) (at_ l q)
/-- the first i are in order -/
def Upto (l : List ByteArray) (i : Nat) : Prop := ∀ p q, p < q → q < i → le (at_ l p) (at_ l q)
theorem ins_start {l : List ByteArray} {i : Nat} (h : Upto l i) : Ins l i i :=
  ⟨fun p q h1 h2 h3 h4 => h p q h1 (by omega), fun q h1 h2 => by omega⟩
theorem ins_end {l : List ByteArray} {i k : Nat} (h : Ins l i k) (hk : k = 0 ∨ le (at_ l (k - 1)) (at_ l k)) : Upto l (i + 1) := by
  intro p q h1 h2
  by_cases hp : p = k
  · subst hp; exact h.2 q h1 (by omega)
  · by_cases hq : q = k
    · subst hq
      rcases hk with hk | hk
      · omega
      · by_cases e : p = q - 1
        · subst e; exact hk
        · exact le_trans (h.1 p (q - 1) (by omega) (by omega) hp (by omega)) hk
    · exact h.1 p q h1 (by omega) hp hq
theorem ins_step {l : List ByteArray} {i k : Nat} (h : Ins l i (k + 1)) (hi : i < l.length) (hk : k + 1 ≤ i) (hle : le (at_ l (k + 1)) (at_ l k)) : Ins (swap l k) i k := by
  have hs := swap_at l k (by omega)
  refine ⟨fun p q h1 h2 h3 h4 => ?_, fun q h1 h2 => ?_⟩
  · rw [hs p, hs q, if_neg h3, if_neg h4]
    by_cases hp : p = k + 1
    · rw [if_pos hp, if_neg (by omega)]
      exact h.1 k q (by omega) h2 (by omega) (by omega)
    · rw [if_neg hp]
      by_cases hq : q = k + 1
      · rw [if_pos hq]
        exact h.1 p k (by omega) (by omega) hp (by omega)
      · rw [if_neg hq]
        exact h.1 p q h1 h2 hp hq
  · rw [hs k, if_pos rfl, hs q, if_neg (by omega)]
    by_cases hq : q = k + 1
    · rw [if_pos hq]; exact hle
    · rw [if_neg hq]
      exact h.2 q (by omega) h2
theorem sorted_of_upto {l x : List ByteArray} (hp : x.Perm l) (h : Upto x x.length) : SortedOf l x := by
  refine ⟨hp, ?_⟩
  rw [List.pairwise_iff_getElem]
  intro i j hi hj hij
  have := h i j hij hj
  unfold at_ at this
  rw [List.getElem?_eq_getElem hi, List.getElem?_eq_getElem hj] at this
  exact this
end Go.Proofs.YtabcggmmdjeobaaDoor.s03
