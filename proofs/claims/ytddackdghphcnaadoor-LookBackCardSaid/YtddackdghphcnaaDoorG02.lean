/-
  Layer 13, plain: looks as lists of terminals; the order, sums, numbers, texts. Layer 13: isTerms, isLength, cut.
-/
import Derived.Test.YtddackdghphcnaaDoorG01
namespace Go.Proofs.YtddackdghphcnaaDoor.s13
set_option linter.unusedVariables false
set_option linter.unusedSimpArgs false

/-- right for t terminals -/
def okL (t : Int) (l : List Int) : Prop := l.length ≤ 4 ∧ ∀ x ∈ l, 0 ≤ x ∧ x < t
/-- the length and the four places -/
def pad (l : List Int) : Nat × Int × Int × Int × Int := (l.length, l[0]?.getD 0, l[1]?.getD 0, l[2]?.getD 0, l[3]?.getD 0)
theorem pad_inj {l m : List Int} (hl : l.length ≤ 4) (h : pad l = pad m) : l = m := by
  simp only [pad, Prod.mk.injEq] at h
  obtain ⟨h0, h1, h2, h3, h4⟩ := h
  match l, m, hl with
  | [], [], _ => rfl
  | [a], [b], _ => simpa using h1
  | [a, b], [c, d], _ => simp at h1 h2 ⊢; exact ⟨h1, h2⟩
  | [a, b, c], [d, e, f], _ => simp at h1 h2 h3 ⊢; exact ⟨h1, h2, h3⟩
  | [a, b, c, d], [e, f, g, i], _ => simp at h1 h2 h3 h4 ⊢; exact ⟨h1, h2, h3, h4⟩
  | [], _ :: _, _ => simp at h0
  | _ :: _, [], _ => simp at h0
  | [_], _ :: _ :: _, _ => simp at h0
  | _ :: _ :: _, [_], _ => simp at h0
  | [_, _], _ :: _ :: _ :: _, _ => simp at h0
  | _ :: _ :: _ :: _, [_, _], _ => simp at h0
  | [_, _, _], _ :: _ :: _ :: _ :: _, _ => simp at h0
  | _ :: _ :: _ :: _ :: _, [_, _, _], _ => simp at h0
  | [_, _, _, _], _ :: _ :: _ :: _ :: _ :: _, _ => simp at h0
  | _ :: _ :: _ :: _ :: _ :: _, _, h => simp at h
/-- what Check says -/
def chkP (n a b c d t : Int) : Int :=
  if t < 1 ∨ 8 < t then 2 else if n < 0 ∨ 4 < n then 3
  else if (n ≤ 0 ∧ a ≠ 0) ∨ (n ≤ 1 ∧ b ≠ 0) ∨ (n ≤ 2 ∧ c ≠ 0) ∨ (n ≤ 3 ∧ d ≠ 0) then 3
  else if (0 < n ∧ (a < 0 ∨ t ≤ a)) ∨ (1 < n ∧ (b < 0 ∨ t ≤ b)) ∨ (2 < n ∧ (c < 0 ∨ t ≤ c)) ∨ (3 < n ∧ (d < 0 ∨ t ≤ d)) then 14 else 0
theorem chkP_yes {n a b c d t : Int} (h : chkP n a b c d t = 0) : 1 ≤ t ∧ t ≤ 8 ∧ 0 ≤ n ∧ n ≤ 4 ∧ (0 < n ∨ a = 0) ∧ (1 < n ∨ b = 0) ∧ (2 < n ∨ c = 0) ∧ (3 < n ∨ d = 0) ∧ 0 ≤ a ∧ a < t ∧ 0 ≤ b ∧ b < t ∧ 0 ≤ c ∧ c < t ∧ 0 ≤ d ∧ d < t := by
  unfold chkP at h
  split at h
  · cases h
  · split at h
    · cases h
    · split at h
      · cases h
      · split at h
        · cases h
        · refine ⟨?_, ?_, ?_, ?_, ?_, ?_, ?_, ?_, ?_, ?_, ?_, ?_, ?_, ?_, ?_, ?_⟩ <;> omega
theorem chkP_look {n a b c d t : Int} (h : chkP n a b c d t = 0) : ∃ l, okL t l ∧ pad l = (n.toNat, a, b, c, d) ∧ (n.toNat : Int) = n := by
  obtain ⟨t1, t2, n0, n4, z0, z1, z2, z3, a0, a1, b0, b1, c0, c1, d0, d1⟩ := chkP_yes h
  obtain ⟨k, rfl⟩ : ∃ k : Nat, n = k := ⟨n.toNat, by omega⟩
  have hk : k = 0 ∨ k = 1 ∨ k = 2 ∨ k = 3 ∨ k = 4 := by omega
  rcases hk with rfl | rfl | rfl | rfl | rfl
  · refine ⟨[], ⟨by simp, by simp⟩, ?_, rfl⟩
    simp [pad]; omega
  · refine ⟨[a], ⟨by simp, by simp; omega⟩, ?_, rfl⟩
    simp [pad]; omega
  · refine ⟨[a, b], ⟨by simp, by simp; omega⟩, ?_, rfl⟩
    simp [pad]; omega
  · refine ⟨[a, b, c], ⟨by simp, by simp; omega⟩, ?_, rfl⟩
    simp [pad]; omega
  · exact ⟨[a, b, c, d], ⟨by simp, by simp; omega⟩, by simp [pad], rfl⟩
theorem okL_at {t : Int} {l : List Int} (h : okL t l) (i : Nat) (hi : i < l.length) : 0 ≤ l[i]?.getD 0 ∧ l[i]?.getD 0 < t := by
  rw [List.getElem?_eq_getElem hi]
  exact h.2 _ (List.getElem_mem hi)
theorem okL_at0 {t : Int} {l : List Int} (h : okL t l) (ht : 1 ≤ t) (i : Nat) : 0 ≤ l[i]?.getD 0 ∧ l[i]?.getD 0 < t := by
  rcases Nat.lt_or_ge i l.length with hi | hi
  · exact okL_at h i hi
  · rw [List.getElem?_eq_none hi]; simp; omega
theorem okL_chk {t : Int} {l : List Int} {n : Nat} {a b c d : Int} (h : okL t l) (t1 : 1 ≤ t) (t2 : t ≤ 8) (hp : pad l = (n, a, b, c, d)) : chkP n a b c d t = 0 := by
  simp only [pad, Prod.mk.injEq] at hp
  obtain ⟨rfl, rfl, rfl, rfl, rfl⟩ := hp
  have e0 := okL_at0 h t1 0
  have e1 := okL_at0 h t1 1
  have e2 := okL_at0 h t1 2
  have e3 := okL_at0 h t1 3
  have z : ∀ i, l.length ≤ i → l[i]?.getD 0 = 0 := fun i hi => by rw [List.getElem?_eq_none hi]; rfl
  have z0 := z 0
  have z1 := z 1
  have z2 := z 2
  have z3 := z 3
  have h4 := h.1
  unfold chkP
  rw [if_neg (by omega), if_neg (by omega), if_neg (by omega), if_neg (by omega)]
theorem okL_mono {t u : Int} {l : List Int} (h : okL t l) (hu : t ≤ u) : okL u l := ⟨h.1, fun x hx => by have := h.2 x hx; omega⟩
theorem okL_take {t : Int} {l : List Int} (h : okL t l) (k : Nat) : okL t (l.take k) := ⟨by rw [List.length_take]; have := h.1; omega, fun x hx => h.2 x (List.mem_of_mem_take hx)⟩
theorem okL_join {t : Int} {l m : List Int} (h : okL t l) (g : okL t m) (k : Nat) (hk : k ≤ 4) : okL t ((l ++ m).take k) :=
  ⟨by rw [List.length_take]; omega, fun x hx => by
    rcases List.mem_append.1 (List.mem_of_mem_take hx) with hx | hx
    · exact h.2 x hx
    · exact g.2 x hx⟩
theorem okL_nil (t : Int) : okL t [] := ⟨by simp, by simp⟩

/-- how two looks compare -/
def cmpL : List Int → List Int → Int
  | [], [] => 0
  | [], _ :: _ => -1
  | _ :: _, [] => 1
  | x :: l, y :: m => if x < y then -1 else if y < x then 1 else cmpL l m
theorem cmpL_range (l : List Int) : ∀ m, cmpL l m = -1 ∨ cmpL l m = 0 ∨ cmpL l m = 1 := by
  induction l with
  | nil => intro m; cases m <;> simp [cmpL]
  | cons x l ih =>
    intro m
    cases m with
    | nil => simp [cmpL]
    | cons y m =>
      unfold cmpL
      split
      · simp
      · split
        · simp
        · exact ih m
theorem cmpL_self (l : List Int) : cmpL l l = 0 := by
  induction l with
  | nil => rfl
  | cons x l ih => simp [cmpL, ih]
theorem cmpL_zero {l : List Int} : ∀ {m}, cmpL l m = 0 → l = m := by
  induction l with
  | nil => intro m h; cases m with | nil => rfl | cons y m => simp [cmpL] at h
  | cons x l ih =>
    intro m h
    cases m with
    | nil => simp [cmpL] at h
    | cons y m =>
      unfold cmpL at h
      split at h
      · omega
      · split at h
        · omega
        · rw [ih h, show x = y by omega]
theorem cmpL_neg (l : List Int) : ∀ m, cmpL m l = - cmpL l m := by
  induction l with
  | nil => intro m; cases m <;> simp [cmpL]
  | cons x l ih =>
    intro m
    cases m with
    | nil => simp [cmpL]
    | cons y m =>
      have := ih m
      unfold cmpL
      by_cases h1 : x < y
      · rw [if_neg (by omega), if_pos h1, if_pos h1]; rfl
      · by_cases h2 : y < x
        · rw [if_pos h2, if_neg h1, if_pos h2]
        · rw [if_neg h2, if_neg h1, if_neg h1, if_neg h2]; exact this
theorem cmpL_trans (l : List Int) : ∀ m o, cmpL l m ≤ 0 → cmpL m o ≤ 0 → cmpL l o ≤ 0 := by
  induction l with
  | nil => intro m o _ _; cases o <;> simp [cmpL]
  | cons x l ih =>
    intro m o h1 h2
    cases m with
    | nil => simp [cmpL] at h1
    | cons y m =>
      cases o with
      | nil => simp [cmpL] at h2
      | cons z o =>
        unfold cmpL at h1 h2 ⊢
        split at h1
        · split at h2
          · rw [if_pos (by omega)]; omega
          · split at h2
            · omega
            · rw [if_pos (by omega)]; omega
        · split at h1
          · omega
          · split at h2
            · rw [if_pos (by omega)]; omega
            · split at h2
              · omega
              · rw [if_neg (by omega), if_neg (by omega)]; exact ih m o h1 h2
theorem cmpL_strict (l m o : List Int) (h1 : cmpL l m < 0) (h2 : cmpL m o ≤ 0) : cmpL l o < 0 := by
  have h3 := cmpL_trans l m o (by omega) h2
  rcases cmpL_range l o with h | h | h
  · omega
  · have e := cmpL_zero h
    subst e
    have := cmpL_neg m l
    omega
  · omega
theorem cmpL_prefix (l : List Int) : ∀ m, cmpL l (l ++ m) ≤ 0 := by
  induction l with
  | nil => intro m; cases m <;> simp [cmpL]
  | cons x l ih => intro m; simp [cmpL]; exact ih m
theorem cmpL_nil (l : List Int) : cmpL [] l = if l.length = 0 then 0 else -1 := by
  cases l <;> simp [cmpL]

/-- how many looks of at most k terminals -/
def cnt (t : Int) : Nat → Int
  | 0 => 1
  | k + 1 => 1 + cnt t k * t
theorem cnt_pos (t : Int) (ht : 1 ≤ t) : ∀ k, 1 ≤ cnt t k := by
  intro k
  induction k with
  | zero => simp [cnt]
  | succ k ih =>
    have : 0 ≤ cnt t k * t := Int.mul_nonneg (by omega) (by omega)
    simp only [cnt]; omega
/-- the number of a look -/
def numL (t : Int) : Nat → List Int → Int
  | _, [] => 0
  | 0, _ :: _ => 0
  | k + 1, s :: r => 1 + s * cnt t k + numL t k r
/-- the look of a number -/
def decL (t : Int) : Nat → Int → List Int
  | 0, _ => []
  | k + 1, n => if n ≤ 0 then [] else (n - 1) / cnt t k :: decL t k ((n - 1) % cnt t k)
theorem numL_range (t : Int) (ht : 1 ≤ t) : ∀ (k : Nat) (l : List Int), l.length ≤ k → (∀ x ∈ l, 0 ≤ x ∧ x < t) → 0 ≤ numL t k l ∧ numL t k l < cnt t k := by
  intro k
  induction k with
  | zero => intro l hl _; cases l with | nil => simp [numL, cnt] | cons x l => simp at hl
  | succ k ih =>
    intro l hl hx
    have hc := cnt_pos t ht k
    cases l with
    | nil => have := cnt_pos t ht (k + 1); simp [numL]; omega
    | cons s r =>
      obtain ⟨h1, h2⟩ := ih r (by simpa using hl) (fun x h => hx x (List.mem_cons_of_mem _ h))
      obtain ⟨s0, s1⟩ := hx s List.mem_cons_self
      simp only [numL, cnt]
      have e1 : 0 ≤ s * cnt t k := Int.mul_nonneg s0 (by omega)
      have e2 : (s + 1) * cnt t k ≤ t * cnt t k := Int.mul_le_mul_of_nonneg_right (by omega) (by omega)
      rw [Int.add_mul, Int.one_mul] at e2
      rw [Int.mul_comm (cnt t k) t]
      omega
theorem decL_ok (t : Int) (ht : 1 ≤ t) : ∀ (k : Nat) (n : Int), 0 ≤ n → n < cnt t k → (decL t k n).length ≤ k ∧ (∀ x ∈ decL t k n, 0 ≤ x ∧ x < t) ∧ numL t k (decL t k n) = n := by
  intro k
  induction k with
  | zero => intro n h0 h1; simp [decL, numL, cnt] at *; omega
  | succ k ih =>
    intro n h0 h1
    have hc := cnt_pos t ht k
    unfold decL
    by_cases hn : n ≤ 0
    · rw [if_pos hn]; simp [numL]; omega
    · rw [if_neg hn]
      have hm := Int.emod_nonneg (n - 1) (show cnt t k ≠ 0 by omega)
      have hm2 := Int.emod_lt_of_pos (n - 1) (show 0 < cnt t k by omega)
      obtain ⟨i1, i2, i3⟩ := ih ((n - 1) % cnt t k) hm hm2
      have hq0 : 0 ≤ (n - 1) / cnt t k := Int.ediv_nonneg (by omega) (by omega)
      have hq1 : (n - 1) / cnt t k < t := by
        simp only [cnt] at h1
        refine Int.ediv_lt_of_lt_mul (by omega) ?_
        rw [Int.mul_comm t]; omega
      refine ⟨by simp; omega, ?_, ?_⟩
      · intro x hx
        rcases List.mem_cons.1 hx with rfl | hx
        · exact ⟨hq0, hq1⟩
        · exact i2 x hx
      · simp only [numL]
        rw [i3]
        have := Int.emod_add_mul_ediv (n - 1) (cnt t k)
        rw [Int.mul_comm] at this
        omega
/-- all looks, in order -/
def allL (t : Nat) : Nat → List Int → List (List Int)
  | 0, x => [x]
  | k + 1, x => x :: (List.range t).flatMap fun (s : Nat) => allL t k (x ++ [(s : Int)])
theorem allL_map (t : Nat) : ∀ (k : Nat) (x : List Int), allL t k x = (allL t k []).map (x ++ ·) := by
  intro k
  induction k with
  | zero => intro x; simp [allL]
  | succ k ih =>
    intro x
    simp only [allL, List.nil_append, List.map_cons, List.append_nil, List.map_flatMap]
    congr 1
    congr 1
    funext s
    rw [ih (x ++ [(s : Int)]), ih [(s : Int)], List.map_map]
    congr 1
    funext y
    simp
theorem flat_len {α : Type} (f : Nat → List α) (c : Nat) (t : Nat) (h : ∀ s, (f s).length = c) : ((List.range t).flatMap f).length = t * c := by
  induction t with
  | zero => simp
  | succ t ih => rw [List.range_succ, List.flatMap_append, List.length_append, ih]; simp [h]; rw [Nat.add_mul]; omega
theorem allL_len (t : Nat) : ∀ (k : Nat) (x : List Int), ((allL t k x).length : Int) = cnt t k := by
  intro k
  induction k with
  | zero => intro x; simp [allL, cnt]
  | succ k ih =>
    intro x
    have hf := flat_len (fun s : Nat => allL t k (x ++ [(s : Int)])) (allL t k []).length t (fun s => by rw [allL_map, List.length_map])
    simp only [allL, cnt, List.length_cons]
    rw [hf, ← ih []]
    simp
    rw [Int.mul_comm]; omega
theorem flat_at {α : Type} (f : Nat → List α) (c : Nat) (h : ∀ s, (f s).length = c) : ∀ (t s j : Nat), s < t → j < c → ((List.range t).flatMap f)[s * c + j]? = (f s)[j]? := by
  intro t
  induction t with
  | zero => intro s j hs; omega
  | succ t ih =>
    intro s j hs hj
    rw [List.range_succ, List.flatMap_append]
    have hl := flat_len f c t h
    by_cases e : s < t
    · have : s * c + j < t * c := by
        have : (s + 1) * c ≤ t * c := Nat.mul_le_mul_right c (by omega)
        rw [Nat.add_mul] at this; omega
      rw [List.getElem?_append_left (by omega)]
      exact ih s j e hj
    · obtain rfl : s = t := by omega
      rw [List.getElem?_append_right (by omega), hl]
      simp
theorem allL_at (t : Nat) (ht : 1 ≤ t) : ∀ (k : Nat) (l : List Int), l.length ≤ k → (∀ x ∈ l, 0 ≤ x ∧ x < (t : Int)) → (allL t k [])[(numL t k l).toNat]? = some l := by
  intro k
  induction k with
  | zero => intro l hl _; cases l with | nil => simp [numL, allL] | cons x l => simp at hl
  | succ k ih =>
    intro l hl hx
    cases l with
    | nil => simp [numL, allL]
    | cons s r =>
      have hr : ∀ x ∈ r, 0 ≤ x ∧ x < (t : Int) := fun x h => hx x (List.mem_cons_of_mem _ h)
      have hi := ih r (by simpa using hl) hr
      obtain ⟨n0, n1⟩ := numL_range t (by omega) k r (by simpa using hl) hr
      obtain ⟨s0, s1⟩ := hx s List.mem_cons_self
      have hc := allL_len t k []
      obtain ⟨s', rfl⟩ : ∃ s' : Nat, s = s' := ⟨s.toNat, by omega⟩
      have hf := flat_at (fun s : Nat => allL t k ([] ++ [(s : Int)])) (allL t k []).length (fun s => by rw [allL_map, List.length_map]) t s' (numL t k r).toNat (by omega) (by omega)
      have e : (numL t (k + 1) ((s' : Int) :: r)).toNat = (s' * (allL t k []).length + (numL t k r).toNat) + 1 := by
        simp only [numL]
        rw [← hc]
        have : 0 ≤ (s' : Int) * ((allL t k []).length : Int) := Int.mul_nonneg (by omega) (by omega)
        have e2 : ((s' * (allL t k []).length : Nat) : Int) = (s' : Int) * ((allL t k []).length : Int) := by simp
        omega
      rw [e]
      simp only [allL, List.getElem?_cons_succ]
      rw [hf, allL_map, List.getElem?_map, hi]
      simp
theorem allL_dec (t : Nat) (ht : 1 ≤ t) (k i : Nat) (hi : i < (allL t k []).length) : (allL t k [])[i]? = some (decL t k i) := by
  have hc := allL_len t k []
  obtain ⟨h1, h2, h3⟩ := decL_ok t (by omega) k i (by omega) (by omega)
  have h := allL_at t ht k (decL t k i) h1 h2
  rw [h3] at h
  simpa using h
theorem allL_inj (t : Nat) (ht : 1 ≤ t) (k i : Nat) (l : List Int) (h : (allL t k [])[i]? = some l) : (numL t k l) = i := by
  have hi : i < (allL t k []).length := (List.getElem?_eq_some_iff.1 h).1
  have hc := allL_len t k []
  obtain ⟨h1, h2, h3⟩ := decL_ok t (by omega) k i (by omega) (by omega)
  rw [allL_dec t ht k i hi] at h
  cases h
  exact h3
theorem allL_mem (t : Nat) (ht : 1 ≤ t) (k : Nat) (l : List Int) (h : l ∈ allL t k []) : l.length ≤ k ∧ ∀ x ∈ l, 0 ≤ x ∧ x < (t : Int) := by
  obtain ⟨i, hi, rfl⟩ := List.mem_iff_getElem.1 h
  have hc := allL_len t k []
  obtain ⟨h1, h2, h3⟩ := decL_ok t (by omega) k i (by omega) (by omega)
  have e := allL_dec t ht k i hi
  rw [List.getElem?_eq_getElem hi] at e
  rw [Option.some.inj e]
  exact ⟨h1, h2⟩
end Go.Proofs.YtddackdghphcnaaDoor.s13

namespace Go.Proofs.YtddackdghphcnaaDoor.s13
set_option linter.unusedVariables false
set_option linter.unusedSimpArgs false
open Go.RowKit
open kit

theorem isterms_yes (t : Int) (w : World) (h1 : 1 ≤ t) (h2 : t ≤ 8) : Calls Tryd.prog 50 #[.int .i64 t] w fun e w' => e = .returned (.bool true) ∧ w = w' := by
  go_enter Tryd.func50, Tryd.ntmps50
  go_wp2
  go_ret
  exact ⟨rfl, rfl⟩
theorem isterms_no (t : Int) (w : World) (h : t < 1 ∨ 8 < t) : Calls Tryd.prog 50 #[.int .i64 t] w fun e w' => e = .returned (.bool false) ∧ w = w' := by
  rcases h with h | h
  · go_enter Tryd.func50, Tryd.ntmps50
    go_wp2
    go_ret
    exact ⟨rfl, rfl⟩
  · have h1 : 1 ≤ t := by omega
    have h2 : ¬ t ≤ 8 := by omega
    have h3 : decide (t ≤ 8) = false := decide_eq_false h2
    go_enter Tryd.func50, Tryd.ntmps50
    go_wp2
    go_ret
    exact ⟨rfl, rfl⟩
theorem islen_yes (t : Int) (w : World) (h1 : 0 ≤ t) (h2 : t ≤ 4) : Calls Tryd.prog 51 #[.int .i64 t] w fun e w' => e = .returned (.bool true) ∧ w = w' := by
  go_enter Tryd.func51, Tryd.ntmps51
  go_wp2
  go_ret
  exact ⟨rfl, rfl⟩
theorem islen_no (t : Int) (w : World) (h : t < 0 ∨ 4 < t) : Calls Tryd.prog 51 #[.int .i64 t] w fun e w' => e = .returned (.bool false) ∧ w = w' := by
  rcases h with h | h
  · go_enter Tryd.func51, Tryd.ntmps51
    go_wp2
    go_ret
    exact ⟨rfl, rfl⟩
  · have h1 : 0 ≤ t := by omega
    have h2 : ¬ t ≤ 4 := by omega
    have h3 : decide (t ≤ 4) = false := decide_eq_false h2
    go_enter Tryd.func51, Tryd.ntmps51
    go_wp2
    go_ret
    exact ⟨rfl, rfl⟩
set_option maxRecDepth 100000 in
/-- the world behind the clearing, from place 0 on -/
theorem clear_0 (a b c d : Int) (w : World) : ∃ W, (∀ ty, (Builtin.clear_ #[22] ty #[.slice (some ⟨w.heap.size, 1, none⟩) 4 4]).run Tryd.prog ((w.alloc (.cells #[.int .i64 0, .int .i64 a, .int .i64 b, .int .i64 c, .int .i64 d] 25)).alloc (.cells #[.int .i64 0, .int .i64 0, .int .i64 0, .int .i64 0, .int .i64 0] 25)) = .ok (.tuple #[]) W) ∧
      Box W 25 w.heap.size #[.int .i64 0, .int .i64 0, .int .i64 0, .int .i64 0, .int .i64 0] ∧ Box W 25 (w.heap.size + 1) #[.int .i64 0, .int .i64 0, .int .i64 0, .int .i64 0, .int .i64 0] ∧ Below w.heap.size w W := by
  have X0 := Box.new w 25 #[.int .i64 0, .int .i64 a, .int .i64 b, .int .i64 c, .int .i64 d]
  have X := X0.alloc (.cells #[.int .i64 0, .int .i64 0, .int .i64 0, .int .i64 0, .int .i64 0] 25)
  have Y := Box.new (w.alloc (.cells #[.int .i64 0, .int .i64 a, .int .i64 b, .int .i64 c, .int .i64 d] 25)) 25 #[.int .i64 0, .int .i64 0, .int .i64 0, .int .i64 0, .int .i64 0]
  rw [show (w.alloc (.cells #[.int .i64 0, .int .i64 a, .int .i64 b, .int .i64 c, .int .i64 d] 25)).heap.size = w.heap.size + 1 from Array.size_push ..] at Y
  have B : Below w.heap.size w ((w.alloc (.cells #[.int .i64 0, .int .i64 a, .int .i64 b, .int .i64 c, .int .i64 d] 25)).alloc (.cells #[.int .i64 0, .int .i64 0, .int .i64 0, .int .i64 0, .int .i64 0] 25)) := ((Below.refl _ w).alloc (Nat.le_refl _) _).alloc (by simp) _
  obtain ⟨W, hcl, XW, hO, hBW, hsz⟩ := clear_box 0 (by omega) X
  exact ⟨W, hcl, XW, hO _ _ _ (by omega) Y, hBW _ _ (Nat.le_refl _) B⟩
set_option maxRecDepth 100000 in
set_option maxHeartbeats 1000000 in
theorem cut_n0 (a b c d k : Int) (w : World) (h : 0 ≤ k) : Calls Tryd.prog 52 #[.agg #[.int .i64 0, .int .i64 a, .int .i64 b, .int .i64 c, .int .i64 d], .int .i64 k] w fun e w' => e = .returned (Value.agg #[.int .i64 0, .int .i64 0, .int .i64 0, .int .i64 0, .int .i64 0]) ∧ Below w.heap.size w w' := by
  obtain ⟨W, hcl, XW, YW, hB⟩ := clear_0 a b c d w
  have BW := Lib.hid hB
  have hz := YW.lt
  have Y2 := YW.put5 (.int .i64 0) (.int .i64 0) (.int .i64 0) (.int .i64 0) (.int .i64 0)
  obtain ⟨f0, f1, f2, f3, f4⟩ := YW.free5
  obtain ⟨u0, u1, u2, u3, u4⟩ := YW.cell5
  obtain ⟨x0, x1, x2, x3, x4⟩ := XW.cell5
  have Y3 := Lib.hid Y2.cell5
  clear XW YW Y2 hB
  go_enter Tryd.func52, Tryd.ntmps52
  go_wp2
  obtain ⟨y0, y1, y2, y3, y4⟩ := Y3.out
  exact bodyPost_ret (v := .agg #[.int .i64 0, .int .i64 0, .int .i64 0, .int .i64 0, .int .i64 0]) (by simp [results, Tryd.results52, go_sem, y0, y1, y2, y3, y4]) rfl ⟨rfl, below_put5 BW.out (by omega) _ _ _ _ _⟩
set_option maxRecDepth 100000 in
set_option maxHeartbeats 1000000 in
theorem cut_k0 (N a b c d : Int) (w : World) (h : 0 < N) : Calls Tryd.prog 52 #[.agg #[.int .i64 N, .int .i64 a, .int .i64 b, .int .i64 c, .int .i64 d], .int .i64 0] w fun e w' => e = .returned (Value.agg #[.int .i64 0, .int .i64 0, .int .i64 0, .int .i64 0, .int .i64 0]) ∧ Below w.heap.size w w' := by
  obtain ⟨W, hcl, XW, YW, hB⟩ := clear_0 a b c d w
  have BW := Lib.hid hB
  have hz := YW.lt
  have Y2 := YW.put5 (.int .i64 0) (.int .i64 0) (.int .i64 0) (.int .i64 0) (.int .i64 0)
  obtain ⟨f0, f1, f2, f3, f4⟩ := YW.free5
  obtain ⟨u0, u1, u2, u3, u4⟩ := YW.cell5
  obtain ⟨x0, x1, x2, x3, x4⟩ := XW.cell5
  have Y3 := Lib.hid Y2.cell5
  clear XW YW Y2 hB
  go_enter Tryd.func52, Tryd.ntmps52
  go_wp2
  obtain ⟨y0, y1, y2, y3, y4⟩ := Y3.out
  exact bodyPost_ret (v := .agg #[.int .i64 0, .int .i64 0, .int .i64 0, .int .i64 0, .int .i64 0]) (by simp [results, Tryd.results52, go_sem, y0, y1, y2, y3, y4]) rfl ⟨rfl, below_put5 BW.out (by omega) _ _ _ _ _⟩
set_option maxRecDepth 100000 in
/-- the world behind the clearing, from place 1 on -/
theorem clear_1 (a b c d : Int) (w : World) : ∃ W, (∀ ty, (Builtin.clear_ #[22] ty #[.slice (some ⟨w.heap.size, 2, none⟩) 3 3]).run Tryd.prog ((w.alloc (.cells #[.int .i64 1, .int .i64 a, .int .i64 b, .int .i64 c, .int .i64 d] 25)).alloc (.cells #[.int .i64 0, .int .i64 0, .int .i64 0, .int .i64 0, .int .i64 0] 25)) = .ok (.tuple #[]) W) ∧
      Box W 25 w.heap.size #[.int .i64 1, .int .i64 a, .int .i64 0, .int .i64 0, .int .i64 0] ∧ Box W 25 (w.heap.size + 1) #[.int .i64 0, .int .i64 0, .int .i64 0, .int .i64 0, .int .i64 0] ∧ Below w.heap.size w W := by
  have X0 := Box.new w 25 #[.int .i64 1, .int .i64 a, .int .i64 b, .int .i64 c, .int .i64 d]
  have X := X0.alloc (.cells #[.int .i64 0, .int .i64 0, .int .i64 0, .int .i64 0, .int .i64 0] 25)
  have Y := Box.new (w.alloc (.cells #[.int .i64 1, .int .i64 a, .int .i64 b, .int .i64 c, .int .i64 d] 25)) 25 #[.int .i64 0, .int .i64 0, .int .i64 0, .int .i64 0, .int .i64 0]
  rw [show (w.alloc (.cells #[.int .i64 1, .int .i64 a, .int .i64 b, .int .i64 c, .int .i64 d] 25)).heap.size = w.heap.size + 1 from Array.size_push ..] at Y
  have B : Below w.heap.size w ((w.alloc (.cells #[.int .i64 1, .int .i64 a, .int .i64 b, .int .i64 c, .int .i64 d] 25)).alloc (.cells #[.int .i64 0, .int .i64 0, .int .i64 0, .int .i64 0, .int .i64 0] 25)) := ((Below.refl _ w).alloc (Nat.le_refl _) _).alloc (by simp) _
  obtain ⟨W, hcl, XW, hO, hBW, hsz⟩ := clear_box 1 (by omega) X
  exact ⟨W, hcl, XW, hO _ _ _ (by omega) Y, hBW _ _ (Nat.le_refl _) B⟩
set_option maxRecDepth 100000 in
set_option maxHeartbeats 1000000 in
theorem cut_n1 (a b c d k : Int) (w : World) (h : 1 ≤ k) : Calls Tryd.prog 52 #[.agg #[.int .i64 1, .int .i64 a, .int .i64 b, .int .i64 c, .int .i64 d], .int .i64 k] w fun e w' => e = .returned (Value.agg #[.int .i64 1, .int .i64 a, .int .i64 0, .int .i64 0, .int .i64 0]) ∧ Below w.heap.size w w' := by
  obtain ⟨W, hcl, XW, YW, hB⟩ := clear_1 a b c d w
  have BW := Lib.hid hB
  have hz := YW.lt
  have Y2 := YW.put5 (.int .i64 1) (.int .i64 a) (.int .i64 0) (.int .i64 0) (.int .i64 0)
  obtain ⟨f0, f1, f2, f3, f4⟩ := YW.free5
  obtain ⟨u0, u1, u2, u3, u4⟩ := YW.cell5
  obtain ⟨x0, x1, x2, x3, x4⟩ := XW.cell5
  have Y3 := Lib.hid Y2.cell5
  clear XW YW Y2 hB
  go_enter Tryd.func52, Tryd.ntmps52
  go_wp2
  obtain ⟨y0, y1, y2, y3, y4⟩ := Y3.out
  exact bodyPost_ret (v := .agg #[.int .i64 1, .int .i64 a, .int .i64 0, .int .i64 0, .int .i64 0]) (by simp [results, Tryd.results52, go_sem, y0, y1, y2, y3, y4]) rfl ⟨rfl, below_put5 BW.out (by omega) _ _ _ _ _⟩
set_option maxRecDepth 100000 in
set_option maxHeartbeats 1000000 in
theorem cut_k1 (N a b c d : Int) (w : World) (h : 1 < N) : Calls Tryd.prog 52 #[.agg #[.int .i64 N, .int .i64 a, .int .i64 b, .int .i64 c, .int .i64 d], .int .i64 1] w fun e w' => e = .returned (Value.agg #[.int .i64 1, .int .i64 a, .int .i64 0, .int .i64 0, .int .i64 0]) ∧ Below w.heap.size w w' := by
  obtain ⟨W, hcl, XW, YW, hB⟩ := clear_1 a b c d w
  have BW := Lib.hid hB
  have hz := YW.lt
  have Y2 := YW.put5 (.int .i64 1) (.int .i64 a) (.int .i64 0) (.int .i64 0) (.int .i64 0)
  obtain ⟨f0, f1, f2, f3, f4⟩ := YW.free5
  obtain ⟨u0, u1, u2, u3, u4⟩ := YW.cell5
  obtain ⟨x0, x1, x2, x3, x4⟩ := XW.cell5
  have Y3 := Lib.hid Y2.cell5
  clear XW YW Y2 hB
  go_enter Tryd.func52, Tryd.ntmps52
  go_wp2
  obtain ⟨y0, y1, y2, y3, y4⟩ := Y3.out
  exact bodyPost_ret (v := .agg #[.int .i64 1, .int .i64 a, .int .i64 0, .int .i64 0, .int .i64 0]) (by simp [results, Tryd.results52, go_sem, y0, y1, y2, y3, y4]) rfl ⟨rfl, below_put5 BW.out (by omega) _ _ _ _ _⟩
set_option maxRecDepth 100000 in
/-- the world behind the clearing, from place 2 on -/
theorem clear_2 (a b c d : Int) (w : World) : ∃ W, (∀ ty, (Builtin.clear_ #[22] ty #[.slice (some ⟨w.heap.size, 3, none⟩) 2 2]).run Tryd.prog ((w.alloc (.cells #[.int .i64 2, .int .i64 a, .int .i64 b, .int .i64 c, .int .i64 d] 25)).alloc (.cells #[.int .i64 0, .int .i64 0, .int .i64 0, .int .i64 0, .int .i64 0] 25)) = .ok (.tuple #[]) W) ∧
      Box W 25 w.heap.size #[.int .i64 2, .int .i64 a, .int .i64 b, .int .i64 0, .int .i64 0] ∧ Box W 25 (w.heap.size + 1) #[.int .i64 0, .int .i64 0, .int .i64 0, .int .i64 0, .int .i64 0] ∧ Below w.heap.size w W := by
  have X0 := Box.new w 25 #[.int .i64 2, .int .i64 a, .int .i64 b, .int .i64 c, .int .i64 d]
  have X := X0.alloc (.cells #[.int .i64 0, .int .i64 0, .int .i64 0, .int .i64 0, .int .i64 0] 25)
  have Y := Box.new (w.alloc (.cells #[.int .i64 2, .int .i64 a, .int .i64 b, .int .i64 c, .int .i64 d] 25)) 25 #[.int .i64 0, .int .i64 0, .int .i64 0, .int .i64 0, .int .i64 0]
  rw [show (w.alloc (.cells #[.int .i64 2, .int .i64 a, .int .i64 b, .int .i64 c, .int .i64 d] 25)).heap.size = w.heap.size + 1 from Array.size_push ..] at Y
  have B : Below w.heap.size w ((w.alloc (.cells #[.int .i64 2, .int .i64 a, .int .i64 b, .int .i64 c, .int .i64 d] 25)).alloc (.cells #[.int .i64 0, .int .i64 0, .int .i64 0, .int .i64 0, .int .i64 0] 25)) := ((Below.refl _ w).alloc (Nat.le_refl _) _).alloc (by simp) _
  obtain ⟨W, hcl, XW, hO, hBW, hsz⟩ := clear_box 2 (by omega) X
  exact ⟨W, hcl, XW, hO _ _ _ (by omega) Y, hBW _ _ (Nat.le_refl _) B⟩
set_option maxRecDepth 100000 in
set_option maxHeartbeats 1000000 in
theorem cut_n2 (a b c d k : Int) (w : World) (h : 2 ≤ k) : Calls Tryd.prog 52 #[.agg #[.int .i64 2, .int .i64 a, .int .i64 b, .int .i64 c, .int .i64 d], .int .i64 k] w fun e w' => e = .returned (Value.agg #[.int .i64 2, .int .i64 a, .int .i64 b, .int .i64 0, .int .i64 0]) ∧ Below w.heap.size w w' := by
  obtain ⟨W, hcl, XW, YW, hB⟩ := clear_2 a b c d w
  have BW := Lib.hid hB
  have hz := YW.lt
  have Y2 := YW.put5 (.int .i64 2) (.int .i64 a) (.int .i64 b) (.int .i64 0) (.int .i64 0)
  obtain ⟨f0, f1, f2, f3, f4⟩ := YW.free5
  obtain ⟨u0, u1, u2, u3, u4⟩ := YW.cell5
  obtain ⟨x0, x1, x2, x3, x4⟩ := XW.cell5
  have Y3 := Lib.hid Y2.cell5
  clear XW YW Y2 hB
  go_enter Tryd.func52, Tryd.ntmps52
  go_wp2
  obtain ⟨y0, y1, y2, y3, y4⟩ := Y3.out
  exact bodyPost_ret (v := .agg #[.int .i64 2, .int .i64 a, .int .i64 b, .int .i64 0, .int .i64 0]) (by simp [results, Tryd.results52, go_sem, y0, y1, y2, y3, y4]) rfl ⟨rfl, below_put5 BW.out (by omega) _ _ _ _ _⟩
set_option maxRecDepth 100000 in
set_option maxHeartbeats 1000000 in
theorem cut_k2 (N a b c d : Int) (w : World) (h : 2 < N) : Calls Tryd.prog 52 #[.agg #[.int .i64 N, .int .i64 a, .int .i64 b, .int .i64 c, .int .i64 d], .int .i64 2] w fun e w' => e = .returned (Value.agg #[.int .i64 2, .int .i64 a, .int .i64 b, .int .i64 0, .int .i64 0]) ∧ Below w.heap.size w w' := by
  obtain ⟨W, hcl, XW, YW, hB⟩ := clear_2 a b c d w
  have BW := Lib.hid hB
  have hz := YW.lt
  have Y2 := YW.put5 (.int .i64 2) (.int .i64 a) (.int .i64 b) (.int .i64 0) (.int .i64 0)
  obtain ⟨f0, f1, f2, f3, f4⟩ := YW.free5
  obtain ⟨u0, u1, u2, u3, u4⟩ := YW.cell5
  obtain ⟨x0, x1, x2, x3, x4⟩ := XW.cell5
  have Y3 := Lib.hid Y2.cell5
  clear XW YW Y2 hB
  go_enter Tryd.func52, Tryd.ntmps52
  go_wp2
  obtain ⟨y0, y1, y2, y3, y4⟩ := Y3.out
  exact bodyPost_ret (v := .agg #[.int .i64 2, .int .i64 a, .int .i64 b, .int .i64 0, .int .i64 0]) (by simp [results, Tryd.results52, go_sem, y0, y1, y2, y3, y4]) rfl ⟨rfl, below_put5 BW.out (by omega) _ _ _ _ _⟩
set_option maxRecDepth 100000 in
/-- the world behind the clearing, from place 3 on -/
theorem clear_3 (a b c d : Int) (w : World) : ∃ W, (∀ ty, (Builtin.clear_ #[22] ty #[.slice (some ⟨w.heap.size, 4, none⟩) 1 1]).run Tryd.prog ((w.alloc (.cells #[.int .i64 3, .int .i64 a, .int .i64 b, .int .i64 c, .int .i64 d] 25)).alloc (.cells #[.int .i64 0, .int .i64 0, .int .i64 0, .int .i64 0, .int .i64 0] 25)) = .ok (.tuple #[]) W) ∧
      Box W 25 w.heap.size #[.int .i64 3, .int .i64 a, .int .i64 b, .int .i64 c, .int .i64 0] ∧ Box W 25 (w.heap.size + 1) #[.int .i64 0, .int .i64 0, .int .i64 0, .int .i64 0, .int .i64 0] ∧ Below w.heap.size w W := by
  have X0 := Box.new w 25 #[.int .i64 3, .int .i64 a, .int .i64 b, .int .i64 c, .int .i64 d]
  have X := X0.alloc (.cells #[.int .i64 0, .int .i64 0, .int .i64 0, .int .i64 0, .int .i64 0] 25)
  have Y := Box.new (w.alloc (.cells #[.int .i64 3, .int .i64 a, .int .i64 b, .int .i64 c, .int .i64 d] 25)) 25 #[.int .i64 0, .int .i64 0, .int .i64 0, .int .i64 0, .int .i64 0]
  rw [show (w.alloc (.cells #[.int .i64 3, .int .i64 a, .int .i64 b, .int .i64 c, .int .i64 d] 25)).heap.size = w.heap.size + 1 from Array.size_push ..] at Y
  have B : Below w.heap.size w ((w.alloc (.cells #[.int .i64 3, .int .i64 a, .int .i64 b, .int .i64 c, .int .i64 d] 25)).alloc (.cells #[.int .i64 0, .int .i64 0, .int .i64 0, .int .i64 0, .int .i64 0] 25)) := ((Below.refl _ w).alloc (Nat.le_refl _) _).alloc (by simp) _
  obtain ⟨W, hcl, XW, hO, hBW, hsz⟩ := clear_box 3 (by omega) X
  exact ⟨W, hcl, XW, hO _ _ _ (by omega) Y, hBW _ _ (Nat.le_refl _) B⟩
set_option maxRecDepth 100000 in
set_option maxHeartbeats 1000000 in
theorem cut_n3 (a b c d k : Int) (w : World) (h : 3 ≤ k) : Calls Tryd.prog 52 #[.agg #[.int .i64 3, .int .i64 a, .int .i64 b, .int .i64 c, .int .i64 d], .int .i64 k] w fun e w' => e = .returned (Value.agg #[.int .i64 3, .int .i64 a, .int .i64 b, .int .i64 c, .int .i64 0]) ∧ Below w.heap.size w w' := by
  obtain ⟨W, hcl, XW, YW, hB⟩ := clear_3 a b c d w
  have BW := Lib.hid hB
  have hz := YW.lt
  have Y2 := YW.put5 (.int .i64 3) (.int .i64 a) (.int .i64 b) (.int .i64 c) (.int .i64 0)
  obtain ⟨f0, f1, f2, f3, f4⟩ := YW.free5
  obtain ⟨u0, u1, u2, u3, u4⟩ := YW.cell5
  obtain ⟨x0, x1, x2, x3, x4⟩ := XW.cell5
  have Y3 := Lib.hid Y2.cell5
  clear XW YW Y2 hB
  go_enter Tryd.func52, Tryd.ntmps52
  go_wp2
  obtain ⟨y0, y1, y2, y3, y4⟩ := Y3.out
  exact bodyPost_ret (v := .agg #[.int .i64 3, .int .i64 a, .int .i64 b, .int .i64 c, .int .i64 0]) (by simp [results, Tryd.results52, go_sem, y0, y1, y2, y3, y4]) rfl ⟨rfl, below_put5 BW.out (by omega) _ _ _ _ _⟩
set_option maxRecDepth 100000 in
set_option maxHeartbeats 1000000 in
theorem cut_k3 (N a b c d : Int) (w : World) (h : 3 < N) : Calls Tryd.prog 52 #[.agg #[.int .i64 N, .int .i64 a, .int .i64 b, .int .i64 c, .int .i64 d], .int .i64 3] w fun e w' => e = .returned (Value.agg #[.int .i64 3, .int .i64 a, .int .i64 b, .int .i64 c, .int .i64 0]) ∧ Below w.heap.size w w' := by
  obtain ⟨W, hcl, XW, YW, hB⟩ := clear_3 a b c d w
  have BW := Lib.hid hB
  have hz := YW.lt
  have Y2 := YW.put5 (.int .i64 3) (.int .i64 a) (.int .i64 b) (.int .i64 c) (.int .i64 0)
  obtain ⟨f0, f1, f2, f3, f4⟩ := YW.free5
  obtain ⟨u0, u1, u2, u3, u4⟩ := YW.cell5
  obtain ⟨x0, x1, x2, x3, x4⟩ := XW.cell5
  have Y3 := Lib.hid Y2.cell5
  clear XW YW Y2 hB
  go_enter Tryd.func52, Tryd.ntmps52
  go_wp2
  obtain ⟨y0, y1, y2, y3, y4⟩ := Y3.out
  exact bodyPost_ret (v := .agg #[.int .i64 3, .int .i64 a, .int .i64 b, .int .i64 c, .int .i64 0]) (by simp [results, Tryd.results52, go_sem, y0, y1, y2, y3, y4]) rfl ⟨rfl, below_put5 BW.out (by omega) _ _ _ _ _⟩
set_option maxRecDepth 100000 in
set_option maxHeartbeats 1000000 in
theorem cut_n4 (a b c d k : Int) (w : World) (h : 4 ≤ k) : Calls Tryd.prog 52 #[.agg #[.int .i64 4, .int .i64 a, .int .i64 b, .int .i64 c, .int .i64 d], .int .i64 k] w fun e w' => e = .returned (Value.agg #[.int .i64 4, .int .i64 a, .int .i64 b, .int .i64 c, .int .i64 d]) ∧ Below w.heap.size w w' := by
  have hcl : ∀ W ty a c, (Builtin.clear_ #[22] ty #[.slice a 0 c]).run Tryd.prog W = .ok (.tuple #[]) W := fun W ty a c => by cases a <;> simp [Builtin.clear_, run_underlying Tryd.underlying22]
  go_enter Tryd.func52, Tryd.ntmps52
  go_wp2
  exact bodyPost_ret (v := .agg #[.int .i64 4, .int .i64 a, .int .i64 b, .int .i64 c, .int .i64 d]) (by simp [results, Tryd.results52, go_sem]) rfl ⟨rfl, ((Below.refl _ _).alloc (Nat.le_refl _) _).alloc (by simp) _⟩
set_option maxRecDepth 100000 in
set_option maxHeartbeats 1000000 in
theorem cut_k4 (N a b c d : Int) (w : World) (h : 4 < N) : Calls Tryd.prog 52 #[.agg #[.int .i64 N, .int .i64 a, .int .i64 b, .int .i64 c, .int .i64 d], .int .i64 4] w fun e w' => e = .returned (Value.agg #[.int .i64 4, .int .i64 a, .int .i64 b, .int .i64 c, .int .i64 d]) ∧ Below w.heap.size w w' := by
  have hcl : ∀ W ty a c, (Builtin.clear_ #[22] ty #[.slice a 0 c]).run Tryd.prog W = .ok (.tuple #[]) W := fun W ty a c => by cases a <;> simp [Builtin.clear_, run_underlying Tryd.underlying22]
  go_enter Tryd.func52, Tryd.ntmps52
  go_wp2
  exact bodyPost_ret (v := .agg #[.int .i64 4, .int .i64 a, .int .i64 b, .int .i64 c, .int .i64 d]) (by simp [results, Tryd.results52, go_sem]) rfl ⟨rfl, ((Below.refl _ _).alloc (Nat.le_refl _) _).alloc (by simp) _⟩
/-- what is left of a look -/
def cutP (N k : Nat) (a b c d : Int) : Nat × Int × Int × Int × Int := (min N k, if 0 < min N k then a else 0, if 1 < min N k then b else 0, if 2 < min N k then c else 0, if 3 < min N k then d else 0)
theorem cut_any (N k : Nat) (a b c d : Int) (w : World) (h : min N k ≤ 4) (m : Nat) (a' b' c' d' : Int) (H : Hid (cutP N k a b c d = (m, a', b', c', d'))) :
    Calls Tryd.prog 52 #[.agg #[.int .i64 N, .int .i64 a, .int .i64 b, .int .i64 c, .int .i64 d], .int .i64 k] w fun e w' => e = .returned (Value.agg #[.int .i64 m, .int .i64 a', .int .i64 b', .int .i64 c', .int .i64 d']) ∧ Below w.heap.size w w' := by
  have hh := H.out
  unfold cutP at hh
  by_cases hnk : N ≤ k
  · rw [Nat.min_eq_left hnk] at hh h
    have hm : N = 0 ∨ N = 1 ∨ N = 2 ∨ N = 3 ∨ N = 4 := by omega
    rcases hm with rfl | rfl | rfl | rfl | rfl
    all_goals
      cases hh
      first
        | exact cut_n0 a b c d k w (by omega)
        | exact cut_n1 a b c d k w (by omega)
        | exact cut_n2 a b c d k w (by omega)
        | exact cut_n3 a b c d k w (by omega)
        | exact cut_n4 a b c d k w (by omega)
  · rw [Nat.min_eq_right (by omega)] at hh h
    have hm : k = 0 ∨ k = 1 ∨ k = 2 ∨ k = 3 ∨ k = 4 := by omega
    rcases hm with rfl | rfl | rfl | rfl | rfl
    all_goals
      cases hh
      first
        | exact cut_k0 N a b c d w (by omega)
        | exact cut_k1 N a b c d w (by omega)
        | exact cut_k2 N a b c d w (by omega)
        | exact cut_k3 N a b c d w (by omega)
        | exact cut_k4 N a b c d w (by omega)
theorem cutP_look {l : List Int} {n : Nat} {a b c d : Int} (hl : l.length ≤ 4) (hp : pad l = (n, a, b, c, d)) (k : Nat) : cutP n k a b c d = pad (l.take k) := by
  simp only [pad, Prod.mk.injEq] at hp
  obtain ⟨rfl, rfl, rfl, rfl, rfl⟩ := hp
  have e : ∀ i, (l.take k)[i]?.getD 0 = if i < min l.length k then l[i]?.getD 0 else 0 := fun i => by
    rw [List.getElem?_take]
    by_cases h1 : i < k
    · rw [if_pos h1]
      by_cases h2 : i < l.length
      · rw [if_pos (by omega)]
      · rw [if_neg (by omega), List.getElem?_eq_none (by omega)]; rfl
    · rw [if_neg h1, if_neg (by omega)]; rfl
  unfold cutP pad
  rw [e 0, e 1, e 2, e 3, List.length_take, Nat.min_comm]
end Go.Proofs.YtddackdghphcnaaDoor.s13
