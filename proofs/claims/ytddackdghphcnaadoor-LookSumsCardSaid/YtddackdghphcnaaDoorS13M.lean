/-
  Layer 13, plain: looks as lists of terminals; the order, sums, numbers, texts.
-/
import Derived.Test.YtddackdghphcnaaDoorKit
namespace Go.Proofs.YtddackdghphcnaaDoor.s13
set_option linter.unusedVariables false
set_option linter.unusedSimpArgs false

/-- right for t terminals -/
def okL (t : Int) (l : List Int) : Prop := l.length ≤ 4 ∧ ∀ x ∈ l, 0 ≤ x ∧ x < t
/-- the length and the four places -/
def pad (l : List Int) : Nat × Int × Int × Int × Int := (l.length, l[0]?.getD 0, l[1]?.getD 0, l[2]?.getD 0, l[3]?.getD 0)
theorem pad_inj {l m : List Int} (hl : l.length ≤ 4) (h : pad l = pad m) : l = m := by
  simp only [pad, Prod.mk.injEq] at h
  obtain ⟨h0, h1, h2, h3, h4⟩ := h
  match l, m, hl with
  | [], [], _ => rfl
  | [a], [b], _ => simpa using h1
  | [a, b], [c, d], _ => simp at h1 h2 ⊢; exact ⟨h1, h2⟩
  | [a, b, c], [d, e, f], _ => simp at h1 h2 h3 ⊢; exact ⟨h1, h2, h3⟩
  | [a, b, c, d], [e, f, g, i], _ => simp at h1 h2 h3 h4 ⊢; exact ⟨h1, h2, h3, h4⟩
  | [], _ :: _, _ => simp at h0
  | _ :: _, [], _ => simp at h0
  | [_], _ :: _ :: _, _ => simp at h0
  | _ :: _ :: _, [_], _ => simp at h0
  | [_, _], _ :: _ :: _ :: _, _ => simp at h0
  | _ :: _ :: _ :: _, [_, _], _ => simp at h0
  | [_, _, _], _ :: _ :: _ :: _ :: _, _ => simp at h0
  | _ :: _ :: _ :: _ :: _, [_, _, _], _ => simp at h0
  | [_, _, _, _], _ :: _ :: _ :: _ :: _ :: _, _ => simp at h0
  | _ :: _ :: _ :: _ :: _ :: _, _, h => simp at h
/-- what Check says -/
def chkP (n a b c d t : Int) : Int :=
  if t < 1 ∨ 8 < t then 2 else if n < 0 ∨ 4 < n then 3
  else if (n ≤ 0 ∧ a ≠ 0) ∨ (n ≤ 1 ∧ b ≠ 0) ∨ (n ≤ 2 ∧ c ≠ 0) ∨ (n ≤ 3 ∧ d ≠ 0) then 3
  else if (0 < n ∧ (a < 0 ∨ t ≤ a)) ∨ (1 < n ∧ (b < 0 ∨ t ≤ b)) ∨ (2 < n ∧ (c < 0 ∨ t ≤ c)) ∨ (3 < n ∧ (d < 0 ∨ t ≤ d)) then 14 else 0
theorem chkP_yes {n a b c d t : Int} (h : chkP n a b c d t = 0) : 1 ≤ t ∧ t ≤ 8 ∧ 0 ≤ n ∧ n ≤ 4 ∧ (0 < n ∨ a = 0) ∧ (1 < n ∨ b = 0) ∧ (2 < n ∨ c = 0) ∧ (3 < n ∨ d = 0) ∧ 0 ≤ a ∧ a < t ∧ 0 ≤ b ∧ b < t ∧ 0 ≤ c ∧ c < t ∧ 0 ≤ d ∧ d < t := by
  unfold chkP at h
  split at h
  · cases h
  · split at h
    · cases h
    · split at h
      · cases h
      · split at h
        · cases h
        · refine ⟨?_, ?_, ?_, ?_, ?_, ?_, ?_, ?_, ?_, ?_, ?_, ?_, ?_, ?_, ?_, ?_⟩ <;> omega
theorem chkP_look {n a b c d t : Int} (h : chkP n a b c d t = 0) : ∃ l, okL t l ∧ pad l = (n.toNat, a, b, c, d) ∧ (n.toNat : Int) = n := by
  obtain ⟨t1, t2, n0, n4, z0, z1, z2, z3, a0, a1, b0, b1, c0, c1, d0, d1⟩ := chkP_yes h
  obtain ⟨k, rfl⟩ : ∃ k : Nat, n = k := ⟨n.toNat, by omega⟩
  have hk : k = 0 ∨ k = 1 ∨ k = 2 ∨ k = 3 ∨ k = 4 := by omega
  rcases hk with rfl | rfl | rfl | rfl | rfl
  · refine ⟨[], ⟨by simp, by simp⟩, ?_, rfl⟩
    simp [pad]; omega
  · refine ⟨[a], ⟨by simp, by simp; omega⟩, ?_, rfl⟩
    simp [pad]; omega
  · refine ⟨[a, b], ⟨by simp, by simp; omega⟩, ?_, rfl⟩
    simp [pad]; omega
  · refine ⟨[a, b, c], ⟨by simp, by simp; omega⟩, ?_, rfl⟩
    simp [pad]; omega
  · exact ⟨[a, b, c, d], ⟨by simp, by simp; omega⟩, by simp [pad], rfl⟩
theorem okL_at {t : Int} {l : List Int} (h : okL t l) (i : Nat) (hi : i < l.length) : 0 ≤ l[i]?.getD 0 ∧ l[i]?.getD 0 < t := by
  rw [List.getElem?_eq_getElem hi]
  exact h.2 _ (List.getElem_mem hi)
theorem okL_at0 {t : Int} {l : List Int} (h : okL t l) (ht : 1 ≤ t) (i : Nat) : 0 ≤ l[i]?.getD 0 ∧ l[i]?.getD 0 < t := by
  rcases Nat.lt_or_ge i l.length with hi | hi
  · exact okL_at h i hi
  · rw [List.getElem?_eq_none hi]; simp; omega
theorem okL_chk {t : Int} {l : List Int} {n : Nat} {a b c d : Int} (h : okL t l) (t1 : 1 ≤ t) (t2 : t ≤ 8) (hp : pad l = (n, a, b, c, d)) : chkP n a b c d t = 0 := by
  simp only [pad, Prod.mk.injEq] at hp
  obtain ⟨rfl, rfl, rfl, rfl, rfl⟩ := hp
  have e0 := okL_at0 h t1 0
  have e1 := okL_at0 h t1 1
  have e2 := okL_at0 h t1 2
  have e3 := okL_at0 h t1 3
  have z : ∀ i, l.length ≤ i → l[i]?.getD 0 = 0 := fun i hi => by rw [List.getElem?_eq_none hi]; rfl
  have z0 := z 0
  have z1 := z 1
  have z2 := z 2
  have z3 := z 3
  have h4 := h.1
  unfold chkP
  rw [if_neg (by omega), if_neg (by omega), if_neg (by omega), if_neg (by omega)]
theorem okL_mono {t u : Int} {l : List Int} (h : okL t l) (hu : t ≤ u) : okL u l := ⟨h.1, fun x hx => by have := h.2 x hx; omega⟩
theorem okL_take {t : Int} {l : List Int} (h : okL t l) (k : Nat) : okL t (l.take k) := ⟨by rw [List.length_take]; have := h.1; omega, fun x hx => h.2 x (List.mem_of_mem_take hx)⟩
theorem okL_join {t : Int} {l m : List Int} (h : okL t l) (g : okL t m) (k : Nat) (hk : k ≤ 4) : okL t ((l ++ m).take k) :=
  ⟨by rw [List.length_take]; omega, fun x hx => by
    rcases List.mem_append.1 (List.mem_of_mem_take hx) with hx | hx
    · exact h.2 x hx
    · exact g.2 x hx⟩
theorem okL_nil (t : Int) : okL t [] := ⟨by simp, by simp⟩

/-- how two looks compare -/
def cmpL : List Int → List Int → Int
  | [], [] => 0
  | [], _ :: _ => -1
  | _ :: _, [] => 1
  | x :: l, y :: m => if x < y then -1 else if y < x then 1 else cmpL l m
theorem cmpL_range (l : List Int) : ∀ m, cmpL l m = -1 ∨ cmpL l m = 0 ∨ cmpL l m = 1 := by
  induction l with
  | nil => intro m; cases m <;> simp [cmpL]
  | cons x l ih =>
    intro m
    cases m with
    | nil => simp [cmpL]
    | cons y m =>
      unfold cmpL
      split
      · simp
      · split
        · simp
        · exact ih m
theorem cmpL_self (l : List Int) : cmpL l l = 0 := by
  induction l with
  | nil => rfl
  | cons x l ih => simp [cmpL, ih]
theorem cmpL_zero {l : List Int} : ∀ {m}, cmpL l m = 0 → l = m := by
  induction l with
  | nil => intro m h; cases m with | nil => rfl | cons y m => simp [cmpL] at h
  | cons x l ih =>
    intro m h
    cases m with
    | nil => simp [cmpL] at h
    | cons y m =>
      unfold cmpL at h
      split at h
      · omega
      · split at h
        · omega
        · rw [ih h, show x = y by omega]
theorem cmpL_neg (l : List Int) : ∀ m, cmpL m l = - cmpL l m := by
  induction l with
  | nil => intro m; cases m <;> simp [cmpL]
  | cons x l ih =>
    intro m
    cases m with
    | nil => simp [cmpL]
    | cons y m =>
      have := ih m
      unfold cmpL
      by_cases h1 : x < y
      · rw [if_neg (by omega), if_pos h1, if_pos h1]; rfl
      · by_cases h2 : y < x
        · rw [if_pos h2, if_neg h1, if_pos h2]
        · rw [if_neg h2, if_neg h1, if_neg h1, if_neg h2]; exact this
theorem cmpL_trans (l : List Int) : ∀ m o, cmpL l m ≤ 0 → cmpL m o ≤ 0 → cmpL l o ≤ 0 := by
  induction l with
  | nil => intro m o _ _; cases o <;> simp [cmpL]
  | cons x l ih =>
    intro m o h1 h2
    cases m with
    | nil => simp [cmpL] at h1
    | cons y m =>
      cases o with
      | nil => simp [cmpL] at h2
      | cons z o =>
        unfold cmpL at h1 h2 ⊢
        split at h1
        · split at h2
          · rw [if_pos (by omega)]; omega
          · split at h2
            · omega
            · rw [if_pos (by omega)]; omega
        · split at h1
          · omega
          · split at h2
            · rw [if_pos (by omega)]; omega
            · split at h2
              · omega
              · rw [if_neg (by omega), if_neg (by omega)]; exact ih m o h1 h2
theorem cmpL_strict (l m o : List Int) (h1 : cmpL l m < 0) (h2 : cmpL m o ≤ 0) : cmpL l o < 0 := by
  have h3 := cmpL_trans l m o (by omega) h2
  rcases cmpL_range l o with h | h | h
  · omega
  · have e := cmpL_zero h
    subst e
    have := cmpL_neg m l
    omega
  · omega
theorem cmpL_prefix (l : List Int) : ∀ m, cmpL l (l ++ m) ≤ 0 := by
  induction l with
  | nil => intro m; cases m <;> simp [cmpL]
  | cons x l ih => intro m; simp [cmpL]; exact ih m
theorem cmpL_nil (l : List Int) : cmpL [] l = if l.length = 0 then 0 else -1 := by
  cases l <;> simp [cmpL]

/-- how many looks of at most k terminals -/
def cnt (t : Int) : Nat → Int
  | 0 => 1
  | k + 1 => 1 + cnt t k * t
theorem cnt_pos (t : Int) (ht : 1 ≤ t) : ∀ k, 1 ≤ cnt t k := by
  intro k
  induction k with
  | zero => simp [cnt]
  | succ k ih =>
    have : 0 ≤ cnt t k * t := Int.mul_nonneg (by omega) (by omega)
    simp only [cnt]; omega
/-- the number of a look -/
def numL (t : Int) : Nat → List Int → Int
  | _, [] => 0
  | 0, _ :: _ => 0
  | k + 1, s :: r => 1 + s * cnt t k + numL t k r
/-- the look of a number -/
def decL (t : Int) : Nat → Int → List Int
  | 0, _ => []
  | k + 1, n => if n ≤ 0 then [] else (n - 1) / cnt t k :: decL t k ((n - 1) % cnt t k)
theorem numL_range (t : Int) (ht : 1 ≤ t) : ∀ (k : Nat) (l : List Int), l.length ≤ k → (∀ x ∈ l, 0 ≤ x ∧ x < t) → 0 ≤ numL t k l ∧ numL t k l < cnt t k := by
  intro k
  induction k with
  | zero => intro l hl _; cases l with | nil => simp [numL, cnt] | cons x l => simp at hl
  | succ k ih =>
    intro l hl hx
    have hc := cnt_pos t ht k
    cases l with
    | nil => have := cnt_pos t ht (k + 1); simp [numL]; omega
    | cons s r =>
      obtain ⟨h1, h2⟩ := ih r (by simpa using hl) (fun x h => hx x (List.mem_cons_of_mem _ h))
      obtain ⟨s0, s1⟩ := hx s List.mem_cons_self
      simp only [numL, cnt]
      have e1 : 0 ≤ s * cnt t k := Int.mul_nonneg s0 (by omega)
      have e2 : (s + 1) * cnt t k ≤ t * cnt t k := Int.mul_le_mul_of_nonneg_right (by omega) (by omega)
      rw [Int.add_mul, Int.one_mul] at e2
      rw [Int.mul_comm (cnt t k) t]
      omega
theorem decL_ok (t : Int) (ht : 1 ≤ t) : ∀ (k : Nat) (n : Int), 0 ≤ n → n < cnt t k → (decL t k n).length ≤ k ∧ (∀ x ∈ decL t k n, 0 ≤ x ∧ x < t) ∧ numL t k (decL t k n) = n := by
  intro k
  induction k with
  | zero => intro n h0 h1; simp [decL, numL, cnt] at *; omega
  | succ k ih =>
    intro n h0 h1
    have hc := cnt_pos t ht k
    unfold decL
    by_cases hn : n ≤ 0
    · rw [if_pos hn]; simp [numL]; omega
    · rw [if_neg hn]
      have hm := Int.emod_nonneg (n - 1) (show cnt t k ≠ 0 by omega)
      have hm2 := Int.emod_lt_of_pos (n - 1) (show 0 < cnt t k by omega)
      obtain ⟨i1, i2, i3⟩ := ih ((n - 1) % cnt t k) hm hm2
      have hq0 : 0 ≤ (n - 1) / cnt t k := Int.ediv_nonneg (by omega) (by omega)
      have hq1 : (n - 1) / cnt t k < t := by
        simp only [cnt] at h1
        refine Int.ediv_lt_of_lt_mul (by omega) ?_
        rw [Int.mul_comm t]; omega
      refine ⟨by simp; omega, ?_, ?_⟩
      · intro x hx
        rcases List.mem_cons.1 hx with rfl | hx
        · exact ⟨hq0, hq1⟩
        · exact i2 x hx
      · simp only [numL]
        rw [i3]
        have := Int.emod_add_mul_ediv (n - 1) (cnt t k)
        rw [Int.mul_comm] at this
        omega
/-- all looks, in order -/
def allL (t : Nat) : Nat → List Int → List (List Int)
  | 0, x => [x]
  | k + 1, x => x :: (List.range t).flatMap fun (s : Nat) => allL t k (x ++ [(s : Int)])
theorem allL_map (t : Nat) : ∀ (k : Nat) (x : List Int), allL t k x = (allL t k []).map (x ++ ·) := by
  intro k
  induction k with
  | zero => intro x; simp [allL]
  | succ k ih =>
    intro x
    simp only [allL, List.nil_append, List.map_cons, List.append_nil, List.map_flatMap]
    congr 1
    congr 1
    funext s
    rw [ih (x ++ [(s : Int)]), ih [(s : Int)], List.map_map]
    congr 1
    funext y
    simp
theorem flat_len {α : Type} (f : Nat → List α) (c : Nat) (t : Nat) (h : ∀ s, (f s).length = c) : ((List.range t).flatMap f).length = t * c := by
  induction t with
  | zero => simp
  | succ t ih => rw [List.range_succ, List.flatMap_append, List.length_append, ih]; simp [h]; rw [Nat.add_mul]; omega
theorem allL_len (t : Nat) : ∀ (k : Nat) (x : List Int), ((allL t k x).length : Int) = cnt t k := by
  intro k
  induction k with
  | zero => intro x; simp [allL, cnt]
  | succ k ih =>
    intro x
    have hf := flat_len (fun s : Nat => allL t k (x ++ [(s : Int)])) (allL t k []).length t (fun s => by rw [allL_map, List.length_map])
    simp only [allL, cnt, List.length_cons]
    rw [hf, ← ih []]
    simp
    rw [Int.mul_comm]; omega
theorem flat_at {α : Type} (f : Nat → List α) (c : Nat) (h : ∀ s, (f s).length = c) : ∀ (t s j : Nat), s < t → j < c → ((List.range t).flatMap f)[s * c + j]? = (f s)[j]? := by
  intro t
  induction t with
  | zero => intro s j hs; omega
  | succ t ih =>
    intro s j hs hj
    rw [List.range_succ, List.flatMap_append]
    have hl := flat_len f c t h
    by_cases e : s < t
    · have : s * c + j < t * c := by
        have : (s + 1) * c ≤ t * c := Nat.mul_le_mul_right c (by omega)
        rw [Nat.add_mul] at this; omega
      rw [List.getElem?_append_left (by omega)]
      exact ih s j e hj
    · obtain rfl : s = t := by omega
      rw [List.getElem?_append_right (by omega), hl]
      simp
theorem allL_at (t : Nat) (ht : 1 ≤ t) : ∀ (k : Nat) (l : List Int), l.length ≤ k → (∀ x ∈ l, 0 ≤ x ∧ x < (t : Int)) → (allL t k [])[(numL t k l).toNat]? = some l := by
  intro k
  induction k with
  | zero => intro l hl _; cases l with | nil => simp [numL, allL] | cons x l => simp at hl
  | succ k ih =>
    intro l hl hx
    cases l with
    | nil => simp [numL, allL]
    | cons s r =>
      have hr : ∀ x ∈ r, 0 ≤ x ∧ x < (t : Int) := fun x h => hx x (List.mem_cons_of_mem _ h)
      have hi := ih r (by simpa using hl) hr
      obtain ⟨n0, n1⟩ := numL_range t (by omega) k r (by simpa using hl) hr
      obtain ⟨s0, s1⟩ := hx s List.mem_cons_self
      have hc := allL_len t k []
      obtain ⟨s', rfl⟩ : ∃ s' : Nat, s = s' := ⟨s.toNat, by omega⟩
      have hf := flat_at (fun s : Nat => allL t k ([] ++ [(s : Int)])) (allL t k []).length (fun s => by rw [allL_map, List.length_map]) t s' (numL t k r).toNat (by omega) (by omega)
      have e : (numL t (k + 1) ((s' : Int) :: r)).toNat = (s' * (allL t k []).length + (numL t k r).toNat) + 1 := by
        simp only [numL]
        rw [← hc]
        have : 0 ≤ (s' : Int) * ((allL t k []).length : Int) := Int.mul_nonneg (by omega) (by omega)
        have e2 : ((s' * (allL t k []).length : Nat) : Int) = (s' : Int) * ((allL t k []).length : Int) := by simp
        omega
      rw [e]
      simp only [allL, List.getElem?_cons_succ]
      rw [hf, allL_map, List.getElem?_map, hi]
      simp
theorem allL_dec (t : Nat) (ht : 1 ≤ t) (k i : Nat) (hi : i < (allL t k []).length) : (allL t k [])[i]? = some (decL t k i) := by
  have hc := allL_len t k []
  obtain ⟨h1, h2, h3⟩ := decL_ok t (by omega) k i (by omega) (by omega)
  have h := allL_at t ht k (decL t k i) h1 h2
  rw [h3] at h
  simpa using h
theorem allL_inj (t : Nat) (ht : 1 ≤ t) (k i : Nat) (l : List Int) (h : (allL t k [])[i]? = some l) : (numL t k l) = i := by
  have hi : i < (allL t k []).length := (List.getElem?_eq_some_iff.1 h).1
  have hc := allL_len t k []
  obtain ⟨h1, h2, h3⟩ := decL_ok t (by omega) k i (by omega) (by omega)
  rw [allL_dec t ht k i hi] at h
  cases h
  exact h3
theorem allL_mem (t : Nat) (ht : 1 ≤ t) (k : Nat) (l : List Int) (h : l ∈ allL t k []) : l.length ≤ k ∧ ∀ x ∈ l, 0 ≤ x ∧ x < (t : Int) := by
  obtain ⟨i, hi, rfl⟩ := List.mem_iff_getElem.1 h
  have hc := allL_len t k []
  obtain ⟨h1, h2, h3⟩ := decL_ok t (by omega) k i (by omega) (by omega)
  have e := allL_dec t ht k i hi
  rw [List.getElem?_eq_getElem hi] at e
  rw [Option.some.inj e]
  exact ⟨h1, h2⟩
end Go.Proofs.YtddackdghphcnaaDoor.s13
