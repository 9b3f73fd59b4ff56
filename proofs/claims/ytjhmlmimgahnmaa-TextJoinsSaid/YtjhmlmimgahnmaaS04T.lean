/-
  Layer 4: the lexemes of two texts, the first of which ends with a line feed (of no program).
-/
import Derived.Test.YtjhmlmimgahnmaaS04N
namespace Go.Proofs.Ytjhmlmimgahnmaa.s04
set_option linter.unusedVariables false
set_option linter.unusedSimpArgs false
open Go.RowKit
open kit

/-- at the end of a line, or nothing and in no remark -/
def ends10 (b : Bool) (l : List UInt8) : Prop := (l = [] ∧ b = false) ∨ l.getLast? = some 10
theorem pass_app (r : List UInt8) : ∀ (l : List UInt8) (b : Bool), ends10 b l → (passM b l < l.length → passM b (l ++ r) = passM b l) ∧ (passM b l = l.length → passM b (l ++ r) = l.length + passM false r) := by
  intro l
  induction l with
  | nil =>
    intro b h
    rcases h with ⟨_, rfl⟩ | h
    · exact ⟨fun h => absurd h (by simp), fun _ => by simp⟩
    · cases h
  | cons c l ih =>
    intro b h
    have hn : ∀ b', (l = [] → c.toNat = 10) ∧ (l ≠ [] → ends10 b' l) := fun b' => by
      rcases h with ⟨h, _⟩ | h
      · cases h
      · cases l with
        | nil => simp at h; exact ⟨fun _ => by rw [h]; rfl, fun e => absurd rfl e⟩
        | cons d l' => exact ⟨(fun e => nomatch e), fun _ => Or.inr (by simpa using h)⟩
    have key : ∀ b', (l = [] → b' = false) → ends10 b' l := fun b' hb => by
      by_cases e : l = []
      · exact .inl ⟨e, hb e⟩
      · exact (hn b').2 e
    cases b
    · rw [List.cons_append, passM_f, passM_f]
      by_cases hb : blankB c.toNat = true
      · obtain ⟨i1, i2⟩ := ih false (key false fun _ => rfl)
        rw [if_pos hb, if_pos hb, List.length_cons]
        exact ⟨fun h => by rw [i1 (by omega)], fun h => by rw [i2 (by omega)]; omega⟩
      · rw [if_neg hb, if_neg hb]
        by_cases h35 : c.toNat = 35
        · obtain ⟨i1, i2⟩ := ih true (key true fun e => by have := (hn true).1 e; omega)
          rw [if_pos h35, if_pos h35, List.length_cons]
          exact ⟨fun h => by rw [i1 (by omega)], fun h => by rw [i2 (by omega)]; omega⟩
        · rw [if_neg h35, if_neg h35, List.length_cons]
          exact ⟨fun _ => rfl, fun h => by omega⟩
    · rw [List.cons_append, passM_t, passM_t]
      obtain ⟨i1, i2⟩ := ih (c.toNat != 10) (key _ fun e => by rw [(hn true).1 e]; rfl)
      rw [List.length_cons]
      exact ⟨fun h => by rw [i1 (by omega)], fun h => by rw [i2 (by omega)]; omega⟩

/-- u is a text that ends with a line feed, and v is u with t behind it -/
structure Two (u t v : ByteArray) : Prop where
  app : v.data.toList = u.data.toList ++ t.data.toList
  last : u.data.toList.getLast? = some 10
variable {u t v : ByteArray}
theorem Two.size (h : Two u t v) : v.size = u.size + t.size := by
  have := congrArg List.length h.app
  simpa using this
theorem Two.pos (h : Two u t v) : 0 < u.size := by
  have := h.last
  rcases Nat.eq_zero_or_pos u.size with e | e
  · have hl : u.data.toList = [] := List.length_eq_zero_iff.1 (by simpa using e)
    rw [hl] at this; cases this
  · exact e
theorem Two.get (h : Two u t v) {i : Nat} (hi : i < u.size) : v[i]'(by have := h.size; omega) = u[i] := by
  have e1 : v.data.toList[i]'(by have := h.size; simpa using (by omega : i < v.size)) = u.data.toList[i]'(by simpa using hi) := by
    simp only [h.app]
    rw [List.getElem_append_left (by simpa using hi)]
  exact e1
theorem Two.lastAt (h : Two u t v) : (u[u.size - 1]'(by have := h.pos; omega)).toNat = 10 := by
  have hl := h.last
  have hp := h.pos
  rw [List.getLast?_eq_getElem?] at hl
  have hlen : u.data.toList.length = u.size := by simp
  rw [hlen, List.getElem?_eq_getElem (by rw [hlen]; omega)] at hl
  have : u.data.toList[u.size - 1]'(by rw [hlen]; omega) = 10 := Option.some.inj hl
  have e : u[u.size - 1]'(by omega) = u.data.toList[u.size - 1]'(by rw [hlen]; omega) := rfl
  rw [e, this]; rfl
theorem drop_last {l : List UInt8} {k : Nat} (h : l.getLast? = some 10) (hk : k ≤ l.length) : ends10 false (l.drop k) := by
  by_cases e : k = l.length
  · exact .inl ⟨List.drop_eq_nil_of_le (by omega), rfl⟩
  · refine .inr ?_
    rw [List.getLast?_drop, if_neg (by omega)]
    exact h
theorem Two.dropu (h : Two u t v) {k : Nat} (hk : k ≤ u.size) : v.data.toList.drop k = u.data.toList.drop k ++ t.data.toList := by
  rw [h.app, List.drop_append_of_le_length (by simpa using hk)]
theorem Two.pass (h : Two u t v) {k : Nat} (hk : k ≤ u.size) : (passAt u k < u.size → passAt v k = passAt u k) ∧ (passAt u k = u.size → passAt v k = u.size + passAt t 0) := by
  obtain ⟨p1, p2⟩ := pass_app t.data.toList (u.data.toList.drop k) false (drop_last h.last (by simpa using hk))
  have hl : (u.data.toList.drop k).length = u.size - k := by simp
  unfold passAt
  rw [h.dropu hk, List.drop_zero]
  constructor
  · intro h1; rw [p1 (by omega)]
  · intro h1; rw [p2 (by omega)]; omega
theorem Two.run (h : Two u t v) (q : Nat → Bool) (hq : q 10 = false) : ∀ (n k : Nat), u.size - k ≤ n → k < u.size → runAt q v k = runAt q u k ∧ runAt q u k < u.size := by
  intro n
  induction n with
  | zero => intro k h1 h2; omega
  | succ n ih =>
    intro k h1 h2
    have hz := h.size
    have hg := h.get h2
    by_cases hp : q u[k].toNat = true
    · have hne : k + 1 < u.size := by
        rcases Nat.lt_or_ge (k + 1) u.size with g | g
        · exact g
        · have e : k = u.size - 1 := by omega
          subst e
          rw [h.lastAt, hq] at hp; cases hp
      rw [run_on h2 hp, run_on (s := v) (by omega) (by rw [hg]; exact hp)]
      exact ih (k + 1) (by omega) hne
    · have hp' : q u[k].toNat = false := by simpa using hp
      rw [run_off h2 hp', run_off (s := v) (by omega) (by rw [hg]; exact hp')]
      exact ⟨rfl, h2⟩
theorem Two.at (h : Two u t v) {k : Nat} (hk : k < u.size) : atB v k = atB u k := by
  rw [at_in hk, at_in (by have := h.size; omega), h.get hk]
theorem Two.beg (h : Two u t v) {p : Nat} (hp : p < u.size) : begK v p = begK u p := by
  have hz := h.size
  rw [begK_eq v p (by omega), begK_eq u p hp, h.get hp]
  by_cases hS : signB u[p].toNat = true
  · rw [if_pos hS, if_pos hS]
  · rw [if_neg hS, if_neg hS]
    by_cases hL : letterB u[p].toNat = true
    · have hne : p + 1 < u.size := by
        rcases Nat.lt_or_ge (p + 1) u.size with g | g
        · exact g
        · have e : p = u.size - 1 := by omega
          subst e
          rw [h.lastAt] at hL; exact absurd hL (by decide)
      rw [if_pos hL, if_pos hL, (h.run wordB rfl _ (p + 1) (Nat.le_refl _) hne).1]
    · rw [if_neg hL, if_neg hL]
      by_cases hD : digitB u[p].toNat = true
      · have hne : p + 1 < u.size := by
          rcases Nat.lt_or_ge (p + 1) u.size with g | g
          · exact g
          · have e : p = u.size - 1 := by omega
            subst e
            rw [h.lastAt] at hD; exact absurd hD (by decide)
        obtain ⟨r1, r2⟩ := h.run digitB rfl _ (p + 1) (Nat.le_refl _) hne
        rw [if_pos hD, if_pos hD, r1, h.at r2]
      · rw [if_neg hD, if_neg hD]
theorem Two.ext (h : Two u t v) {p q : Nat} (hq : q ≤ u.size) : v.extract p q = u.extract p q := by
  apply bytes_ext
  rw [ByteArray.data_extract, ByteArray.data_extract, Array.toList_extract, Array.toList_extract, List.extract_eq_take_drop, List.extract_eq_take_drop, h.app]
  by_cases hp : p ≤ u.size
  · rw [List.drop_append_of_le_length (by simpa using hp), List.take_append_of_le_length (by simp; omega)]
  · rw [show q - p = 0 by omega, List.take_zero, List.take_zero]
theorem Two.ext2 (h : Two u t v) (p q : Nat) : v.extract (u.size + p) (u.size + q) = t.extract p q := by
  apply bytes_ext
  rw [ByteArray.data_extract, ByteArray.data_extract, Array.toList_extract, Array.toList_extract, List.extract_eq_take_drop, List.extract_eq_take_drop, h.app]
  have e : (u.data.toList ++ t.data.toList).drop (u.size + p) = t.data.toList.drop p := by
    rw [List.drop_append]
    have : u.data.toList.length = u.size := by simp
    rw [List.drop_eq_nil_of_le (by omega), List.nil_append, this]
    congr 1; omega
  rw [e]
  congr 1; omega
theorem Two.beg2 (h : Two u t v) (p : Nat) : begK v (u.size + p) = begK t p := by
  unfold begK
  rw [h.size, h.ext2]
theorem Two.pass2 (h : Two u t v) (k : Nat) : passAt v (u.size + k) = u.size + passAt t k := by
  have e : v.data.toList.drop (u.size + k) = t.data.toList.drop k := by
    rw [h.app, List.drop_append]
    have : u.data.toList.length = u.size := by simp
    rw [List.drop_eq_nil_of_le (by omega), List.nil_append, this]
    congr 1; omega
  unfold passAt
  rw [e]; omega
/-- a lexeme further on -/
def shL (d : Nat) (x : Li) : Li := (x.1, x.2.1, x.2.2 + (d : Int))
theorem Two.next1 (h : Two u t v) {k n e a : Nat} {x : Lx} (hk : k ≤ u.size) (hn : nextR u (k : Int) = (x, n, e, a)) :
    (e ≠ 5 → nextR v (k : Int) = (x, n, e, a)) ∧ (e = 5 → nextR v (k : Int) = nextR v (u.size : Int)) := by
  have hz := h.size
  obtain ⟨p1, p2⟩ := h.pass hk
  have hpl := passAt_le u k hk
  rw [nextR_eq u k hk] at hn
  by_cases hp : passAt u k = u.size
  · rw [if_pos hp] at hn
    have h5 := congrArg (fun t => t.2.2.1) hn
    simp only at h5
    refine ⟨fun g => absurd h5.symm g, fun _ => ?_⟩
    have e2 := h.pass2 0
    rw [Nat.add_zero] at e2
    rw [nextR_eq v k (by omega), nextR_eq v u.size (by omega), p2 hp, e2]
  · have hlt : passAt u k < u.size := by omega
    rw [if_neg hp] at hn
    have hb := h.beg hlt
    have hl := begK_len u _ hlt
    constructor
    · intro _
      rw [nextR_eq v k (by omega), p1 hlt, if_neg (by omega), hb, h.ext hl]
      exact hn
    · intro g
      split at hn
      · have := congrArg (fun t => t.2.2.1) hn
        simp only at this; omega
      · have := congrArg (fun t => t.2.2.1) hn
        simp only at this; omega
theorem Two.next2 (h : Two u t v) {k n e a : Nat} {x : Lx} (hk : k ≤ t.size) (hn : nextR t (k : Int) = (x, n, e, a)) :
    (e = 0 → nextR v ((u.size + k : Nat) : Int) = ((x.1, x.2.1, u.size + x.2.2), u.size + n, 0, 0)) ∧ (e ≠ 0 → ∃ y m, nextR v ((u.size + k : Nat) : Int) = (y, m, e, u.size + a)) := by
  have hz := h.size
  rw [nextR_eq t k hk] at hn
  rw [nextR_eq v (u.size + k) (by omega), h.pass2, h.beg2, hz]
  by_cases hp : passAt t k = t.size
  · rw [if_pos hp] at hn
    rw [if_pos (by omega)]
    have h1 := congrArg (fun t => t.2.2.1) hn
    have h2 := congrArg (fun t => t.2.2.2) hn
    simp only at h1 h2
    refine ⟨fun g => by omega, fun _ => ⟨_, _, by rw [h1, h2]⟩⟩
  · rw [if_neg hp] at hn
    rw [if_neg (by omega)]
    by_cases h0 : (begK t (passAt t k)).1 = 0
    · rw [if_pos h0] at hn
      rw [if_pos h0]
      have h1 := congrArg (fun t => t.2.2.1) hn
      have h2 := congrArg (fun t => t.2.2.2) hn
      simp only at h1 h2
      refine ⟨fun g => by omega, fun _ => ⟨_, _, by rw [h1, h2]⟩⟩
    · rw [if_neg h0] at hn
      rw [if_neg h0]
      have h1 := congrArg (fun t => t.2.2.1) hn
      have h3 := congrArg (fun t => t.1) hn
      have h4 := congrArg (fun t => t.2.1) hn
      simp only at h1 h3 h4
      refine ⟨fun _ => ?_, fun g => absurd h1.symm g⟩
      rw [Nat.add_assoc, h.ext2, ← h3, ← h4]
theorem lexS_same {s : ByteArray} {k k' f : Nat} {acc : List Li} (h : nextR s (k : Int) = nextR s (k' : Int)) : lexS s (f + 1) k acc = lexS s (f + 1) k' acc := by
  rw [lexS, lexS, h]
theorem lexS_fuel (s : ByteArray) : ∀ (f g k : Nat) (acc : List Li), k ≤ s.size → s.size - k < f → s.size - k < g → lexS s f k acc = lexS s g k acc := by
  intro f
  induction f with
  | zero => intro g k acc hk hf hg; omega
  | succ f ih =>
    intro g k acc hk hf hg
    obtain ⟨g, rfl⟩ : ∃ m, g = m + 1 := ⟨g - 1, by omega⟩
    rw [lexS, lexS]
    by_cases h5 : (nextR s k).2.2.1 = 5
    · rw [if_pos h5, if_pos h5]
    · rw [if_neg h5, if_neg h5]
      by_cases h0 : (nextR s k).2.2.1 = 0
      · rw [if_pos h0, if_pos h0]
        obtain ⟨o1, o2⟩ := nextR_on hk (x := (nextR s k).1) (n := (nextR s k).2.1) (er := (nextR s k).2.2.1) (a := (nextR s k).2.2.2) rfl h0
        exact ih g _ _ o2 (by omega) (by omega)
      · rw [if_neg h0, if_neg h0]
/-- what follows is read as if it stood alone -/
theorem Two.second (h : Two u t v) : ∀ (f k : Nat) (acc acc' L : List Li) (e p : Nat), k ≤ t.size → lexS t f k acc' = (L, e, p) →
    (e = 0 → lexS v f (u.size + k) (acc ++ acc'.map (shL u.size)) = (acc ++ L.map (shL u.size), 0, 0)) ∧ (e ≠ 0 → lexS v f (u.size + k) (acc ++ acc'.map (shL u.size)) = ([], e, u.size + p)) := by
  intro f
  induction f with
  | zero =>
    intro k acc acc' L e p hk hl
    have h1 := congrArg (fun t => t.1) hl
    have h2 := congrArg (fun t => t.2.1) hl
    simp only [lexS] at h1 h2
    subst h1
    exact ⟨fun _ => rfl, fun g => absurd h2.symm g⟩
  | succ f ih =>
    intro k acc acc' L e p hk hl
    obtain ⟨x, n, er, a, hn⟩ : ∃ x n e a, nextR t (k : Int) = (x, n, e, a) := ⟨_, _, _, _, rfl⟩
    obtain ⟨s5, s0, se⟩ := lexS_step hl hn
    obtain ⟨n1, n2⟩ := h.next2 hk hn
    by_cases h5 : er = 5
    · obtain ⟨y, m, hy⟩ := n2 (by omega)
      have h1 := congrArg (fun t => t.1) (s5 h5)
      have h2 := congrArg (fun t => t.2.1) (s5 h5)
      simp only at h1 h2
      subst h1
      rw [lexS, hy]
      simp only [if_pos h5]
      exact ⟨fun _ => trivial, fun g => absurd h2.symm g⟩
    · by_cases h0 : er = 0
      · have ho := nextR_on hk hn h0
        have hv := n1 h0
        have := ih n acc (acc' ++ [liOf x]) L e p ho.2 (s0 h0)
        rw [lexS, hv]
        simp only [if_neg (show ¬ (0 : Nat) = 5 by omega), if_pos]
        have e1 : acc ++ (acc' ++ [liOf x]).map (shL u.size) = acc ++ acc'.map (shL u.size) ++ [liOf (x.1, x.2.1, u.size + x.2.2)] := by
          rw [List.map_append, ← List.append_assoc]
          unfold shL liOf
          simp only [List.map_cons, List.map_nil]
          congr 4
          push_cast
          omega
        rw [e1] at this
        exact this
      · obtain ⟨y, m, hy⟩ := n2 h0
        have hs := se h5 h0
        have h2 := congrArg (fun t => t.2.1) hs
        have h3 := congrArg (fun t => t.2.2) hs
        simp only at h2 h3
        rw [lexS, hy]
        simp only [if_neg h5, if_neg h0]
        exact ⟨fun g => absurd (h2.trans g) h0, fun _ => by rw [h2, h3]⟩
theorem Two.first (h : Two u t v) : ∀ (f k : Nat) (acc L : List Li) (e p g : Nat), k ≤ u.size → u.size - k < f → v.size - k < g → lexS u f k acc = (L, e, p) →
    (e = 0 → lexS v g k acc = lexS v (v.size + 1) u.size L) ∧ (e ≠ 0 → lexS v g k acc = ([], e, p)) := by
  have hz := h.size
  intro f
  induction f with
  | zero => intro k acc L e p g hk hf; omega
  | succ f ih =>
    intro k acc L e p g hk hf hg hl
    obtain ⟨g, rfl⟩ : ∃ m, g = m + 1 := ⟨g - 1, by omega⟩
    obtain ⟨x, n, er, a, hn⟩ : ∃ x n e a, nextR u (k : Int) = (x, n, e, a) := ⟨_, _, _, _, rfl⟩
    obtain ⟨s5, s0, se⟩ := lexS_step hl hn
    obtain ⟨n1, n2⟩ := h.next1 hk hn
    by_cases h5 : er = 5
    · have h1 := congrArg (fun t => t.1) (s5 h5)
      have h2 := congrArg (fun t => t.2.1) (s5 h5)
      simp only at h1 h2
      subst h1
      refine ⟨fun _ => ?_, fun q => absurd h2.symm q⟩
      rw [lexS_same (n2 h5)]
      exact lexS_fuel v _ _ _ _ (by omega) (by omega) (by omega)
    · have hv := n1 h5
      by_cases h0 : er = 0
      · have ho := nextR_on hk hn h0
        have := ih n (acc ++ [liOf x]) L e p g ho.2 (by omega) (by omega) (s0 h0)
        rw [lexS, hv]
        simp only [if_neg h5, if_pos h0]
        exact this
      · have hs := se h5 h0
        have h2 := congrArg (fun t => t.2.1) hs
        have h3 := congrArg (fun t => t.2.2) hs
        simp only at h2 h3
        rw [lexS, hv]
        simp only [if_neg h5, if_neg h0]
        exact ⟨fun q => absurd (h2.trans q) h0, fun _ => by rw [h2, h3]⟩
/-- the lexemes of two texts -/
theorem Two.lex (h : Two u t v) (hs : v.size ≤ 2000) {La Lb : List Li} {ea pa eb pb : Nat} (ha : lexR u = (La, ea, pa)) (hb : lexR t = (Lb, eb, pb)) :
    (ea ≠ 0 → lexR v = ([], ea, pa)) ∧ (ea = 0 → eb ≠ 0 → lexR v = ([], eb, u.size + pb)) ∧ (ea = 0 → eb = 0 → lexR v = (La ++ Lb.map (shL u.size), 0, 0)) := by
  have hz := h.size
  unfold lexR at *
  rw [if_neg (by omega)] at ha hb ⊢
  obtain ⟨f1, f2⟩ := h.first _ _ _ _ _ _ (v.size + 1) (Nat.zero_le _) (by omega) (by omega) ha
  obtain ⟨g1, g2⟩ := h.second _ _ La _ _ _ _ (Nat.zero_le _) hb
  simp only [List.map_nil, List.append_nil, Nat.add_zero] at g1 g2
  have hfu : lexS v (v.size + 1) u.size La = lexS v (t.size + 1) u.size La := lexS_fuel v _ _ _ _ (by omega) (by omega) (by omega)
  refine ⟨f2, fun h0 h1 => ?_, fun h0 h1 => ?_⟩
  · rw [f1 h0, hfu]; exact g2 h1
  · rw [f1 h0, hfu]; exact g1 h1
end Go.Proofs.Ytjhmlmimgahnmaa.s04
