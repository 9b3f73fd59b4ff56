/-
  Layer 6: tables as lists of names: where one stands, putting one in, all of them, keeping some.
-/
import Derived.Test.YtndghjfgjkjbdaaKit
namespace Go.Proofs.Ytndghjfgjkjbdaa.s06
set_option linter.unusedVariables false
set_option linter.unusedSimpArgs false
open Go.RowKit
open kit

/-- where a name stands; how many there are if it does not -/
def ix : List ByteArray → ByteArray → Nat
  | [], _ => 0
  | x :: l, s => if x = s then 0 else ix l s + 1
theorem ix_le (s : ByteArray) : ∀ l : List ByteArray, ix l s ≤ l.length := by
  intro l
  induction l with
  | nil => exact Nat.le_refl _
  | cons x l ih => unfold ix; split <;> simp; omega
theorem ix_mem {s : ByteArray} : ∀ {l : List ByteArray}, ix l s < l.length ↔ s ∈ l := by
  intro l
  induction l with
  | nil => simp [ix]
  | cons x l ih =>
    unfold ix
    split
    · rename_i h; subst h; simp
    · rename_i h
      rw [List.length_cons, List.mem_cons, Nat.succ_lt_succ_iff, ih]
      constructor
      · exact .inr
      · rintro (h2 | h2)
        · exact absurd h2.symm h
        · exact h2
theorem ix_none {s : ByteArray} {l : List ByteArray} (h : s ∉ l) : ix l s = l.length := by
  have h1 := ix_le s l
  have h2 := mt ix_mem.mp h
  omega
theorem ix_get {s : ByteArray} : ∀ {l : List ByteArray}, s ∈ l → l[ix l s]?.getD ByteArray.empty = s := by
  intro l
  induction l with
  | nil => intro h; cases h
  | cons x l ih =>
    intro h
    unfold ix
    split
    · rename_i h2; simpa using h2
    · rename_i h2
      rcases List.mem_cons.mp h with h3 | h3
      · exact absurd h3.symm h2
      · simpa using ih h3
theorem ix_at (s : ByteArray) : ∀ (l : List ByteArray) (k : Nat), k < l.length → (∀ j, j < k → l[j]?.getD ByteArray.empty ≠ s) → l[k]?.getD ByteArray.empty = s → ix l s = k := by
  intro l
  induction l with
  | nil => intro k h; simp at h
  | cons x l ih =>
    intro k h h1 h2
    cases k with
    | zero => unfold ix; rw [if_pos (by simpa using h2)]
    | succ k =>
      unfold ix
      rw [if_neg (by simpa using h1 0 (by omega)), ih k (by simpa using h) (fun j hj => by simpa using h1 (j + 1) (by omega)) (by simpa using h2)]
theorem ix_app {s : ByteArray} (m : List ByteArray) : ∀ {l : List ByteArray}, s ∈ l → ix (l ++ m) s = ix l s := by
  intro l
  induction l with
  | nil => intro h; cases h
  | cons x l ih =>
    intro h
    rw [List.cons_append]
    unfold ix
    split
    · rfl
    · rename_i h2
      rcases List.mem_cons.mp h with h3 | h3
      · exact absurd h3.symm h2
      · rw [ih h3]
theorem ix_pre {s : ByteArray} {l m : List ByteArray} (h : l <+: m) (hs : s ∈ l) : ix m s = ix l s := by
  obtain ⟨r, rfl⟩ := h
  exact ix_app r hs
theorem ix_self {l : List ByteArray} (hn : l.Nodup) {k : Nat} (hk : k < l.length) : ix l (l[k]?.getD ByteArray.empty) = k := by
  refine ix_at _ l k hk (fun j hj he => ?_) rfl
  have hj2 : j < l.length := by omega
  rw [List.getElem?_eq_getElem hj2, List.getElem?_eq_getElem hk] at he
  exact List.pairwise_iff_getElem.mp hn j k hj2 hk hj (by simpa using he)
/-- a name put in -/
def put1 (l : List ByteArray) (s : ByteArray) : List ByteArray := if ix l s < l.length then l else l ++ [s]
theorem put1_in {l : List ByteArray} {s : ByteArray} (h : s ∈ l) : put1 l s = l := if_pos (ix_mem.mpr h)
theorem put1_out {l : List ByteArray} {s : ByteArray} (h : s ∉ l) : put1 l s = l ++ [s] := if_neg (mt ix_mem.mp h)
theorem put1_mem {l : List ByteArray} {s x : ByteArray} : x ∈ put1 l s ↔ x ∈ l ∨ x = s := by
  by_cases h : s ∈ l
  · rw [put1_in h]
    constructor
    · exact .inl
    · rintro (h2 | rfl)
      · exact h2
      · exact h
  · rw [put1_out h, List.mem_append, List.mem_singleton]
theorem put1_nodup {l : List ByteArray} {s : ByteArray} (hn : l.Nodup) : (put1 l s).Nodup := by
  by_cases h : s ∈ l
  · rw [put1_in h]; exact hn
  · rw [put1_out h, List.nodup_append]
    refine ⟨hn, by simp, fun a ha b hb => ?_⟩
    rw [List.mem_singleton] at hb
    subst hb
    intro e
    exact h (e ▸ ha)
theorem put1_pre (l : List ByteArray) (s : ByteArray) : l <+: put1 l s := by
  by_cases h : s ∈ l
  · rw [put1_in h]; exact List.prefix_rfl
  · rw [put1_out h]; exact List.prefix_append _ _
theorem put1_ix {l : List ByteArray} {s : ByteArray} : ix (put1 l s) s = ix l s := by
  by_cases h : s ∈ l
  · rw [put1_in h]
  · rw [put1_out h, ix_none h]
    refine ix_at s (l ++ [s]) l.length (by simp) (fun j hj e => h ?_) (by simp)
    rw [List.getElem?_append_left hj, List.getElem?_eq_getElem hj] at e
    exact e ▸ List.getElem_mem hj
/-- all names put in, one by one -/
def putAll (l ss : List ByteArray) : List ByteArray := ss.foldl put1 l
theorem putAll_nil (l : List ByteArray) : putAll l [] = l := rfl
theorem putAll_cons (l : List ByteArray) (s : ByteArray) (ss : List ByteArray) : putAll l (s :: ss) = putAll (put1 l s) ss := rfl
theorem putAll_snoc (l : List ByteArray) (s : ByteArray) (ss : List ByteArray) : putAll l (ss ++ [s]) = put1 (putAll l ss) s := by
  unfold putAll; rw [List.foldl_append]; rfl
theorem putAll_mem {x : ByteArray} : ∀ {ss l : List ByteArray}, x ∈ putAll l ss ↔ x ∈ l ∨ x ∈ ss := by
  intro ss
  induction ss with
  | nil => intro l; simp [putAll_nil]
  | cons s ss ih =>
    intro l
    rw [putAll_cons, ih, put1_mem, List.mem_cons, or_assoc]
theorem putAll_nodup : ∀ {ss l : List ByteArray}, l.Nodup → (putAll l ss).Nodup := by
  intro ss
  induction ss with
  | nil => intro l h; exact h
  | cons s ss ih => intro l h; exact ih (put1_nodup h)
theorem putAll_pre : ∀ (ss l : List ByteArray), l <+: putAll l ss := by
  intro ss
  induction ss with
  | nil => intro l; exact List.prefix_rfl
  | cons s ss ih => intro l; exact (put1_pre l s).trans (ih _)
theorem putAll_in : ∀ {ss l : List ByteArray}, (∀ x ∈ ss, x ∈ l) → putAll l ss = l := by
  intro ss
  induction ss with
  | nil => intro l _; rfl
  | cons s ss ih =>
    intro l h
    rw [putAll_cons, put1_in (h s (List.mem_cons_self ..))]
    exact ih fun x hx => h x (List.mem_cons_of_mem _ hx)
theorem putAll_self (l : List ByteArray) : putAll l l = l := putAll_in fun x hx => hx
theorem putAll_put1 (x y : List ByteArray) (s : ByteArray) : putAll x (put1 y s) = put1 (putAll x y) s := by
  by_cases h : s ∈ y
  · rw [put1_in h, put1_in (putAll_mem.mpr (.inr h))]
  · rw [put1_out h, putAll_snoc]
theorem putAll_assoc (x : List ByteArray) : ∀ (z y : List ByteArray), putAll (putAll x y) z = putAll x (putAll y z) := by
  intro z
  induction z with
  | nil => intro y; rfl
  | cons s z ih => intro y; rw [putAll_cons, putAll_cons, ← ih, putAll_put1]
/-- the number of a name when it is put in is its number in the end -/
theorem putAll_ix (l ss : List ByteArray) (k : Nat) (hk : k < ss.length) : ix (putAll l (ss.take k)) (ss[k]?.getD ByteArray.empty) = ix (putAll l ss) (ss[k]?.getD ByteArray.empty) := by
  have e : ss = ss.take k ++ (ss[k]?.getD ByteArray.empty) :: ss.drop (k + 1) := by
    conv => lhs; rw [← List.take_append_drop k ss, List.drop_eq_getElem_cons hk]
    rw [List.getElem?_eq_getElem hk]; rfl
  have e2 : putAll l ss = putAll (put1 (putAll l (ss.take k)) (ss[k]?.getD ByteArray.empty)) (ss.drop (k + 1)) := by
    conv => lhs; rw [e]
    unfold putAll
    rw [List.foldl_append]; rfl
  rw [e2, ix_pre (putAll_pre _ _) (put1_mem.mpr (.inr rfl)), put1_ix]
theorem length_le_of_mem {α : Type} [DecidableEq α] : ∀ (xs l : List α), xs.Nodup → (∀ x ∈ xs, x ∈ l) → xs.length ≤ l.length := by
  intro xs
  induction xs with
  | nil => intro l _ _; simp
  | cons x xs ih =>
    intro l hn h
    have hx := h x (List.mem_cons_self ..)
    obtain ⟨h1, h2⟩ := List.nodup_cons.1 hn
    have := ih (l.erase x) h2 (fun y hy => (List.mem_erase_of_ne (by rintro rfl; exact h1 hy)).2 (h y (List.mem_cons_of_mem _ hy)))
    rw [List.length_erase_of_mem hx] at this
    have := List.length_pos_of_mem hx
    simp; omega
theorem nodup_len {U : List ByteArray} : ∀ {l : List ByteArray}, l.Nodup → (∀ x ∈ l, x ∈ U) → l.length ≤ U.length := by
  intro l hn hs
  exact length_le_of_mem l U hn hs
/-- names at numbers -/
def keepL (l : List ByteArray) (ks : List Nat) : List ByteArray := ks.map fun k => l[k]?.getD ByteArray.empty
theorem keepL_all (l : List ByteArray) : keepL l (List.range l.length) = l := by
  apply List.ext_getElem
  · simp [keepL]
  · intro i h1 h2
    simp [keepL, List.getElem?_eq_getElem h2]
theorem keepL_keepL (l : List ByteArray) (a b : List Nat) (h : ∀ k ∈ b, k < a.length) : keepL (keepL l a) b = keepL l (b.map fun k => a[k]?.getD 0) := by
  unfold keepL
  rw [List.map_map]
  refine List.map_congr_left fun k hk => ?_
  have := h k hk
  simp [List.getElem?_eq_getElem, this]
theorem keepL_nodup {l : List ByteArray} (hn : l.Nodup) : ∀ {ks : List Nat}, ks.Nodup → (∀ k ∈ ks, k < l.length) → (keepL l ks).Nodup := by
  intro ks
  induction ks with
  | nil => intro _ _; simp [keepL]
  | cons k ks ih =>
    intro hk hl
    rw [List.nodup_cons] at hk
    show ((l[k]?.getD ByteArray.empty) :: keepL l ks).Nodup
    rw [List.nodup_cons]
    refine ⟨fun hm => ?_, ih hk.2 fun x hx => hl x (List.mem_cons_of_mem _ hx)⟩
    unfold keepL at hm
    rw [List.mem_map] at hm
    obtain ⟨j, hj, e⟩ := hm
    have h1 := ix_self hn (hl j (List.mem_cons_of_mem _ hj))
    have h2 := ix_self hn (hl k (List.mem_cons_self ..))
    rw [e, h2] at h1
    exact hk.1 (h1 ▸ hj)
end Go.Proofs.Ytndghjfgjkjbdaa.s06
