/-
  Layer 4: where lexemes stand (of no program).
-/
import Derived.Test.YtjhmlmimgahnmaaDoorS04PC
import Derived.Test.YtjhmlmimgahnmaaDoorS04L
namespace Go.Proofs.YtjhmlmimgahnmaaDoor.s04
set_option linter.unusedVariables false
set_option linter.unusedSimpArgs false
open Go.RowKit
open kit

theorem passM_f (c : UInt8) (r : List UInt8) : passM false (c :: r) = if blankB c.toNat then 1 + passM false r else if c.toNat = 35 then 1 + passM true r else 0 := rfl
theorem passM_t (c : UInt8) (r : List UInt8) : passM true (c :: r) = 1 + passM (c.toNat != 10) r := rfl
theorem passM_take : ∀ (l : List UInt8) (b : Bool), passM b (l.take (passM b l)) = passM b l := by
  intro l
  induction l with
  | nil => intro b; cases b <;> rfl
  | cons c r ih =>
    intro b
    cases b
    · rw [passM_f]
      by_cases hb : blankB c.toNat = true
      · rw [if_pos hb, show 1 + passM false r = passM false r + 1 by omega, List.take_succ_cons, passM_f, if_pos hb, ih]
        omega
      · rw [if_neg hb]
        by_cases h35 : c.toNat = 35
        · rw [if_pos h35, show 1 + passM true r = passM true r + 1 by omega, List.take_succ_cons, passM_f, if_neg hb, if_pos h35, ih]
          omega
        · rw [if_neg h35, List.take_zero]; rfl
    · rw [passM_t, show 1 + passM (c.toNat != 10) r = passM (c.toNat != 10) r + 1 by omega, List.take_succ_cons, passM_t, ih]
      omega
theorem run_in (p : Nat → Bool) (s : ByteArray) : ∀ (n k : Nat), s.size - k ≤ n → ∀ i, k ≤ i → i < runAt p s k → ∀ h : i < s.size, p s[i].toNat = true := by
  intro n
  induction n with
  | zero => intro k hk i h1 h2 h; omega
  | succ n ih =>
    intro k hk i h1 h2 h
    have hks : k < s.size := by omega
    by_cases hp : p s[k].toNat = true
    · rw [run_on hks hp] at h2
      by_cases e : i = k
      · subst e; exact hp
      · exact ih (k + 1) (by omega) i (by omega) h2 h
    · have hp' : p s[k].toNat = false := by simpa using hp
      rw [run_off hks hp'] at h2
      omega
theorem run_all (p : Nat → Bool) (t : ByteArray) : ∀ (n k : Nat), t.size - k ≤ n → k ≤ t.size → (∀ i, k ≤ i → ∀ h : i < t.size, p t[i].toNat = true) → runAt p t k = t.size := by
  intro n
  induction n with
  | zero => intro k hk hle _; rw [run_end (by omega)]; omega
  | succ n ih =>
    intro k hk hle hall
    by_cases hks : k < t.size
    · rw [run_on hks (hall k (Nat.le_refl _) hks)]
      exact ih (k + 1) (by omega) (by omega) (fun i hi h => hall i (by omega) h)
    · rw [run_end (by omega)]; omega
theorem ext_get (s : ByteArray) (p j i : Nat) (hj : j ≤ s.size) (h : i < (s.extract p j).size) : (s.extract p j)[i] = s[p + i]'(by rw [ByteArray.size_extract] at h; omega) := ByteArray.getElem_extract ..
theorem run_trunc (q : Nat → Bool) (s : ByteArray) (p : Nat) (hp : p < s.size) : runAt q (s.extract p (runAt q s (p + 1))) 1 = runAt q s (p + 1) - p := by
  have h1 := run_ge q s (p + 1)
  have h2 := run_le q s (p + 1) (by omega)
  have hsz : (s.extract p (runAt q s (p + 1))).size = runAt q s (p + 1) - p := by rw [ByteArray.size_extract]; omega
  rw [run_all q _ _ 1 (Nat.le_refl _) (by omega) ?_, hsz]
  intro i hi h
  rw [ext_get s p _ i h2 h]
  exact run_in q s _ (p + 1) (Nat.le_refl _) (p + i) (by omega) (by omega) (by omega)
/-- a lexeme that stands in a text is one by itself -/
theorem begR_cut (s : ByteArray) (p kd m : Nat) (hp : p < s.size) (h : begK s p = (kd, m)) (h0 : kd ≠ 0) : begR (s.extract p (p + m)) = (kd, m) ∧ 1 ≤ m ∧ p + m ≤ s.size := by
  have hl := begK_len s p hp
  rw [h] at hl
  have he := begK_eq s p hp
  rw [h] at he
  have first : ∀ j, p < j → j ≤ s.size → atB (s.extract p j) 0 = s[p].toNat := fun j hj hjs => by
    have hz : 0 < (s.extract p j).size := by rw [ByteArray.size_extract]; omega
    rw [at_in hz, ext_get s p j 0 hjs hz]
    rfl
  by_cases hS : signB s[p].toNat = true
  · rw [if_pos hS] at he
    cases he
    refine ⟨?_, Nat.le_refl _, hl⟩
    unfold begR
    rw [first (p + 1) (by omega) hl, if_pos hS]
  · rw [if_neg hS] at he
    by_cases hL : letterB s[p].toNat = true
    · rw [if_pos hL] at he
      have hge := run_ge wordB s (p + 1)
      have hle := run_le wordB s (p + 1) (by omega)
      cases he
      have e : p + (runAt wordB s (p + 1) - p) = runAt wordB s (p + 1) := by omega
      rw [e]
      refine ⟨?_, by omega, by omega⟩
      unfold begR
      rw [first _ (by omega) hle, if_neg hS, if_pos hL, run_trunc wordB s p hp]
    · rw [if_neg hL] at he
      by_cases hD : digitB s[p].toNat = true
      · rw [if_pos hD] at he
        have hge := run_ge digitB s (p + 1)
        have hle := run_le digitB s (p + 1) (by omega)
        split at he
        · cases he; exact absurd rfl h0
        · rename_i hc
          cases he
          have e : p + (runAt digitB s (p + 1) - p) = runAt digitB s (p + 1) := by omega
          rw [e]
          refine ⟨?_, by omega, by omega⟩
          have hsz : (s.extract p (runAt digitB s (p + 1))).size = runAt digitB s (p + 1) - p := by rw [ByteArray.size_extract]; omega
          unfold begR
          rw [first _ (by omega) hle, if_neg hS, if_neg hL, if_pos hD, run_trunc digitB s p hp, at_out (by omega)]
          rw [if_neg]
          intro h
          apply hc
          have h48 : (s[p].toNat = 48 ∧ 1 < runAt digitB s (p + 1) - p) := by
            simpa [letterB] using h
          rw [Bool.or_eq_true, decide_eq_true_eq]
          exact .inl ⟨h48.1, by omega⟩
      · rw [if_neg hD] at he
        cases he; exact absurd rfl h0
theorem begR_kinds (s : ByteArray) : (begR s).1 ≤ 3 := by
  unfold begR
  (repeat' split) <;> simp
theorem next_facts {s : ByteArray} {k : Nat} {x : Lx} {n a : Nat} (hk : k ≤ s.size) (h : nextR s (k : Int) = (x, n, 0, a)) :
    ∃ m, k ≤ x.2.2 ∧ x.2.2 + m ≤ s.size ∧ 1 ≤ m ∧ x.2.1 = s.extract x.2.2 (x.2.2 + m) ∧ x.2.1.size = m ∧ n = x.2.2 + m ∧ x.2.2 = passAt s k ∧ begR x.2.1 = (x.1, m) ∧ x.1 ≠ 0 ∧ x.1 ≤ 3 ∧ checkR (x.1 : Int) x.2.1 (x.2.2 : Int) = 0 ∧ passM false (s.extract k x.2.2).data.toList = x.2.2 - k := by
  rw [nextR_eq s k hk] at h
  have h1 := passAt_ge s k
  have h2 := passAt_le s k hk
  by_cases h3 : passAt s k = s.size
  · rw [if_pos h3] at h
    have := congrArg (fun t => t.2.2.1) h
    simp only at this; omega
  · rw [if_neg h3] at h
    obtain ⟨kd, m, hb⟩ : ∃ kd m, begK s (passAt s k) = (kd, m) := ⟨_, _, rfl⟩
    rw [hb] at h
    simp only at h
    by_cases h4 : kd = 0
    · rw [if_pos h4] at h
      have := congrArg (fun t => t.2.2.1) h
      simp only at this; omega
    · rw [if_neg h4] at h
      obtain ⟨g1, g2, g3⟩ := begR_cut s (passAt s k) kd m (by omega) hb h4
      have hx := congrArg (fun t => t.1) h
      have hn := congrArg (fun t => t.2.1) h
      simp only at hx hn
      subst hx
      have hsz : (s.extract (passAt s k) (passAt s k + m)).size = m := by rw [ByteArray.size_extract]; omega
      have hk3 := begR_kinds (s.extract (passAt s k) (passAt s k + m))
      rw [g1] at hk3
      refine ⟨m, h1, g3, g2, rfl, hsz, hn.symm, rfl, g1, h4, hk3, ?_, ?_⟩
      · simp only
        unfold checkR
        simp only at hk3
        rw [if_neg (by omega)]
        have : formB (kd : Int) (s.extract (passAt s k) (passAt s k + m)) = true := by
          unfold formB
          rw [g1, hsz, decide_eq_true]
          exact ⟨by omega, rfl, rfl⟩
        rw [this, if_neg (by decide), if_neg (by omega)]
      · simp only
        have e : (s.extract k (passAt s k)).data.toList = (s.data.toList.drop k).take (passM false (s.data.toList.drop k)) := by
          rw [ByteArray.data_extract, Array.toList_extract, List.extract_eq_take_drop]
          unfold passAt
          rw [show k + passM false (List.drop k s.data.toList) - k = passM false (List.drop k s.data.toList) by omega]
        rw [e, passM_take]
        unfold passAt; omega
theorem lexS_ext (s : ByteArray) : ∀ (f k : Nat) (acc L : List Li), lexS s f k acc = (L, 0, 0) → ∃ r, L = acc ++ r := by
  intro f
  induction f with
  | zero => intro k acc L h; cases h; exact ⟨[], by simp⟩
  | succ f ih =>
    intro k acc L h
    rw [lexS] at h
    split at h
    · cases h; exact ⟨[], by simp⟩
    · rename_i h5
      split at h
      · obtain ⟨r, hr⟩ := ih _ _ _ h
        exact ⟨liOf (nextR s k).1 :: r, by rw [hr]; simp⟩
      · rename_i h0
        have := congrArg (fun t => t.2.1) h
        simp only at this
        exact absurd this h0
/-- one step through the list -/
theorem lexS_walk {s : ByteArray} {f k i : Nat} {L : List Li} {x : Lx} {n er a : Nat} (h : lexS s (f + 1) k (L.take i) = (L, 0, 0)) (hn : nextR s (k : Int) = (x, n, er, a)) :
    (i < L.length → er = 0 ∧ L[i]? = some (liOf x) ∧ lexS s f n (L.take (i + 1)) = (L, 0, 0)) ∧ (L.length ≤ i → er = 5) := by
  obtain ⟨s5, s0, se⟩ := lexS_step h hn
  constructor
  · intro hi
    by_cases h5 : er = 5
    · have := congrArg (fun t => t.1.length) (s5 h5)
      simp only [List.length_take] at this
      omega
    · by_cases h0 : er = 0
      · have h2 := s0 h0
        obtain ⟨r, hr⟩ := lexS_ext s _ _ _ _ h2
        have hL : L = L.take i ++ ([liOf x] ++ r) := by rw [← List.append_assoc]; exact hr
        have hg : L[i]? = some (liOf x) := by
          rw [hL, List.getElem?_append_right (by simp; omega)]
          simp [List.length_take, Nat.min_eq_left (Nat.le_of_lt hi)]
        refine ⟨h0, hg, ?_⟩
        rw [List.take_add_one, hg]
        first | done | exact h2
      · exact absurd (congrArg (fun t => t.2.1) (se h5 h0)) h0
  · intro hi
    by_cases h5 : er = 5
    · exact h5
    · by_cases h0 : er = 0
      · have h2 := s0 h0
        obtain ⟨r, hr⟩ := lexS_ext s _ _ _ _ h2
        have := congrArg List.length hr
        rw [List.take_of_length_le hi, List.length_append, List.length_append] at this
        simp only [List.length_singleton] at this
        omega
      · have := congrArg (fun t => t.2.1) (se h5 h0)
        simp only at this
        exact absurd this h0
end Go.Proofs.YtjhmlmimgahnmaaDoor.s04
