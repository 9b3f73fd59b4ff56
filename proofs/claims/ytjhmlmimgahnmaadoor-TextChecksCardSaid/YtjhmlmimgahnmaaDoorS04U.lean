/-
  Layer 4: a text made of lexemes, with gaps between them, has these lexemes (of no program).
-/
import Derived.Test.YtjhmlmimgahnmaaDoorS04N
namespace Go.Proofs.YtjhmlmimgahnmaaDoor.s04
set_option linter.unusedVariables false
set_option linter.unusedSimpArgs false
open Go.RowKit
open kit

/-- blanks and remarks: whether a remark is open behind them; none if something else stands there -/
def gapS : Bool → List UInt8 → Option Bool
  | b, [] => some b
  | true, c :: r => gapS (c.toNat != 10) r
  | false, c :: r => if blankB c.toNat then gapS false r else if c.toNat = 35 then gapS true r else none
theorem gapS_t (c : UInt8) (r : List UInt8) : gapS true (c :: r) = gapS (c.toNat != 10) r := rfl
theorem gapS_f (c : UInt8) (r : List UInt8) : gapS false (c :: r) = if blankB c.toNat then gapS false r else if c.toNat = 35 then gapS true r else none := rfl
theorem gap_pass (r : List UInt8) : ∀ (g : List UInt8) (b b' : Bool), gapS b g = some b' → passM b (g ++ r) = g.length + passM b' r := by
  intro g
  induction g with
  | nil => intro b b' h; cases b <;> cases h <;> simp
  | cons c g ih =>
    intro b b' h
    cases b
    · rw [gapS_f] at h
      rw [List.cons_append, passM_f, List.length_cons]
      by_cases hb : blankB c.toNat = true
      · rw [if_pos hb] at h ⊢
        rw [ih _ _ h]; omega
      · rw [if_neg hb] at h ⊢
        by_cases h35 : c.toNat = 35
        · rw [if_pos h35] at h ⊢
          rw [ih _ _ h]; omega
        · rw [if_neg h35] at h; cases h
    · rw [gapS_t] at h
      rw [List.cons_append, passM_t, List.length_cons, ih _ _ h]; omega
theorem gap_app (g' : List UInt8) : ∀ (g : List UInt8) (b b' : Bool), gapS b g = some b' → gapS b (g ++ g') = gapS b' g' := by
  intro g
  induction g with
  | nil => intro b b' h; cases b <;> cases h <;> rfl
  | cons c g ih =>
    intro b b' h
    cases b
    · rw [gapS_f] at h
      rw [List.cons_append, gapS_f]
      by_cases hb : blankB c.toNat = true
      · rw [if_pos hb] at h ⊢; exact ih _ _ h
      · rw [if_neg hb] at h ⊢
        by_cases h35 : c.toNat = 35
        · rw [if_pos h35] at h ⊢; exact ih _ _ h
        · rw [if_neg h35] at h; cases h
    · rw [gapS_t] at h
      rw [List.cons_append, gapS_t]; exact ih _ _ h
theorem run_upto (q : Nat → Bool) (S : ByteArray) : ∀ (n k j : Nat), j - k ≤ n → k ≤ j → j ≤ S.size → (∀ i, k ≤ i → i < j → ∀ h : i < S.size, q S[i].toNat = true) → (∀ h : j < S.size, q S[j].toNat = false) → runAt q S k = j := by
  intro n
  induction n with
  | zero =>
    intro k j h1 h2 h3 h4 h5
    have : k = j := by omega
    subst this
    by_cases h : k < S.size
    · exact run_off h (h5 h)
    · exact run_end (by omega)
  | succ n ih =>
    intro k j h1 h2 h3 h4 h5
    by_cases e : k = j
    · subst e
      by_cases h : k < S.size
      · exact run_off h (h5 h)
      · exact run_end (by omega)
    · have hk : k < S.size := by omega
      rw [run_on hk (h4 k (Nat.le_refl _) (by omega) hk)]
      exact ih (k + 1) j (by omega) (by omega) h3 (fun i hi => h4 i (by omega)) h5
theorem word_not {n : Nat} (h : wordB n = false) : letterB n = false ∧ digitB n = false ∧ n ≠ 95 := by
  unfold wordB at h
  simp only [Bool.or_eq_false_iff, beq_eq_false_iff_ne] at h
  exact ⟨h.1, h.2.1, h.2.2⟩
/-- the lexeme at a place at which these bytes stand -/
theorem beg_at {S tx : ByteArray} {p : Nat} {r : List UInt8} {kd : Nat} (hd : S.data.toList.drop p = tx.data.toList ++ r) (h0 : 0 < tx.size) (hb : begR tx = (kd, tx.size)) (hkd : kd ≠ 0) (hr : ∀ c r', r = c :: r' → wordB c.toNat = false) :
    p + tx.size ≤ S.size ∧ begK S p = (kd, tx.size) ∧ S.extract p (p + tx.size) = tx := by
  have hl := congrArg List.length hd
  simp only [List.length_drop, List.length_append] at hl
  have e1 : S.data.toList.length = S.size := by simp
  have e2 : tx.data.toList.length = tx.size := by simp
  rw [e1, e2] at hl
  have hsz : p + tx.size ≤ S.size := by omega
  have hext : S.extract p (p + tx.size) = tx := by
    apply bytes_ext
    rw [ByteArray.data_extract, Array.toList_extract, List.extract_eq_take_drop, hd, show p + tx.size - p = tx.data.toList.length by omega, List.take_left]
  have hget : ∀ i (h : i < tx.size), S[p + i]'(by omega) = tx[i] := fun i h => by
    have := ext_get S p (p + tx.size) i hsz (by rw [hext]; exact h)
    rw [← this]
    congr 1
  have hstop : ∀ h : p + tx.size < S.size, wordB (S[p + tx.size]'h).toNat = false := fun h => by
    have hdd : S.data.toList.drop (p + tx.size) = r := by
      rw [← List.drop_drop, hd, ← e2, List.drop_left]
    rw [drop_at S _ h] at hdd
    exact hr _ _ hdd.symm
  refine ⟨hsz, ?_, hext⟩
  have hps : p < S.size := by omega
  have hb' := begK_eq tx 0 h0
  have hw : begK tx 0 = begR tx := by unfold begK; rw [ext_whole]
  rw [hw, hb] at hb'
  rw [begK_eq S p hps]
  have hg0 : S[p] = tx[0] := hget 0 h0
  rw [hg0]
  by_cases hS : signB tx[0].toNat = true
  · rw [if_pos hS] at hb' ⊢
    exact hb'.symm
  · rw [if_neg hS] at hb' ⊢
    by_cases hL : letterB tx[0].toNat = true
    · rw [if_pos hL] at hb' ⊢
      have e3 : runAt wordB tx 1 = tx.size := by
        have := congrArg Prod.snd hb'
        simp only [Nat.zero_add, Nat.sub_zero] at this
        exact this.symm
      have hrun : runAt wordB S (p + 1) = p + tx.size := by
        refine run_upto wordB S _ (p + 1) (p + tx.size) (Nat.le_refl _) (by omega) hsz (fun i h1 h2 h3 => ?_) hstop
        have := run_in wordB tx _ 1 (Nat.le_refl _) (i - p) (by omega) (by rw [e3]; omega) (by omega)
        rw [← hget (i - p) (by omega)] at this
        simp only [show p + (i - p) = i by omega] at this
        exact this
      rw [hrun]
      have := congrArg Prod.fst hb'
      simp only at this
      rw [this, show p + tx.size - p = tx.size by omega]
    · rw [if_neg hL] at hb' ⊢
      by_cases hD : digitB tx[0].toNat = true
      · rw [if_pos hD] at hb' ⊢
        split at hb'
        · exact absurd (congrArg Prod.fst hb') hkd
        · rename_i hc
          have e3 : runAt digitB tx 1 = tx.size := by
            have := congrArg Prod.snd hb'
            simp only [Nat.zero_add, Nat.sub_zero] at this
            exact this.symm
          have hrun : runAt digitB S (p + 1) = p + tx.size := by
            refine run_upto digitB S _ (p + 1) (p + tx.size) (Nat.le_refl _) (by omega) hsz (fun i h1 h2 h3 => ?_) (fun h => (word_not (hstop h)).2.1)
            have := run_in digitB tx _ 1 (Nat.le_refl _) (i - p) (by omega) (by rw [e3]; omega) (by omega)
            rw [← hget (i - p) (by omega)] at this
            simp only [show p + (i - p) = i by omega] at this
            exact this
          rw [hrun]
          have hat : letterB (atB S (p + tx.size)) = false ∧ (atB S (p + tx.size) == 95) = false := by
            by_cases h : p + tx.size < S.size
            · rw [at_in h]
              have := word_not (hstop h)
              exact ⟨this.1, beq_eq_false_iff_ne.2 this.2.2⟩
            · rw [at_out (by omega)]; exact ⟨rfl, rfl⟩
          rw [hat.1, hat.2]
          have hcc : decide (tx[0].toNat = 48 ∧ p + 1 < p + tx.size) = false := by
            rw [decide_eq_false_iff_not]
            intro ⟨g1, g2⟩
            apply hc
            rw [Bool.or_eq_true, decide_eq_true_eq]
            simp only [Nat.zero_add]
            exact .inl ⟨g1, by rw [e3]; omega⟩
          rw [hcc]
          have := congrArg Prod.fst hb'
          simp only at this
          rw [this, show p + tx.size - p = tx.size by omega]; rfl
      · rw [if_neg hD] at hb'
        exact absurd (congrArg Prod.fst hb') hkd
theorem form_beg {kd : Int} {tx : ByteArray} (h : formB kd tx = true) : 0 < tx.size ∧ ∃ kd' : Nat, (kd' : Int) = kd ∧ begR tx = (kd', tx.size) := by
  unfold formB at h
  obtain ⟨h1, h2, h3⟩ := of_decide_eq_true h
  exact ⟨h1, (begR tx).1, h2, Prod.ext rfl h3⟩
theorem next_step {S tx : ByteArray} {k : Nat} {g r : List UInt8} {kd : Int} (hk : k ≤ S.size) (hd : S.data.toList.drop k = g ++ (tx.data.toList ++ r)) (hg : gapS false g = some false) (hf : formB kd tx = true) (h1 : 1 ≤ kd)
    (hr : ∀ c r', r = c :: r' → wordB c.toNat = false) :
    ∃ kd' : Nat, (kd' : Int) = kd ∧ nextR S (k : Int) = ((kd', tx, k + g.length), k + g.length + tx.size, 0, 0) ∧ S.data.toList.drop (k + g.length + tx.size) = r := by
  obtain ⟨h0, kd', hkd, hb⟩ := form_beg hf
  have hne : kd' ≠ 0 := by omega
  have hd2 : S.data.toList.drop (k + g.length) = tx.data.toList ++ r := by
    rw [← List.drop_drop, hd, List.drop_left]
  obtain ⟨b1, b2, b3⟩ := beg_at hd2 h0 hb hne hr
  have hp0 : passM false (tx.data.toList ++ r) = 0 := by
    have hz := pass_zero h0 (by rw [hb]; exact hne)
    unfold passAt at hz
    rw [List.drop_zero, Nat.zero_add] at hz
    have e : tx.data.toList = tx[0] :: tx.data.toList.drop 1 := by
      have := drop_at tx 0 h0
      rwa [List.drop_zero] at this
    rw [e, passM_f] at hz
    rw [e, List.cons_append, passM_f]
    split at hz
    · omega
    · rename_i h2
      rw [if_neg h2]
      split at hz
      · omega
      · rename_i h3
        rw [if_neg h3]
  have hp : passAt S k = k + g.length := by
    unfold passAt
    rw [hd, gap_pass _ _ _ _ hg, hp0]; omega
  refine ⟨kd', hkd, ?_, ?_⟩
  · rw [nextR_eq S k hk, hp, if_neg (by omega), b2, if_neg hne]
    simp only
    rw [b3]
  · rw [← List.drop_drop, hd2, show tx.size = tx.data.toList.length by simp, List.drop_left]
theorem next_stop {S : ByteArray} {k : Nat} (hk : k ≤ S.size) (h : passM false (S.data.toList.drop k) = (S.data.toList.drop k).length) : ∃ x n a, nextR S (k : Int) = (x, n, 5, a) := by
  have hp : passAt S k = S.size := by
    unfold passAt
    rw [h]
    simp; omega
  rw [nextR_eq S k hk, if_pos hp]
  exact ⟨_, _, _, rfl⟩
/-- a gap and a lexeme -/
abbrev Tk := List UInt8 × Int × ByteArray
def rend : List Tk → List UInt8 → List UInt8
  | [], z => z
  | t :: r, z => t.1 ++ (t.2.2.data.toList ++ rend r z)
def okT : List Tk → List UInt8 → Prop
  | [], z => passM false z = z.length
  | t :: r, z => gapS false t.1 = some false ∧ formB t.2.1 t.2.2 = true ∧ 1 ≤ t.2.1 ∧ (∀ c r', rend r z = c :: r' → wordB c.toNat = false) ∧ okT r z
def kt (x : Li) : Int × ByteArray := (x.1, x.2.1)
theorem lex_rend (S : ByteArray) (z : List UInt8) : ∀ (l : List Tk) (k f : Nat) (acc : List Li), k ≤ S.size → S.size - k < f → S.data.toList.drop k = rend l z → okT l z →
    ∃ L', lexS S f k acc = (acc ++ L', 0, 0) ∧ L'.map kt = l.map (fun t => (t.2.1, t.2.2)) := by
  intro l
  induction l with
  | nil =>
    intro k f acc hk hf hd ho
    obtain ⟨f, rfl⟩ : ∃ m, f = m + 1 := ⟨f - 1, by omega⟩
    obtain ⟨x, n, a, hn⟩ := next_stop hk (by rw [hd]; exact ho)
    exact ⟨[], by rw [lexS, hn, if_pos rfl]; simp, rfl⟩
  | cons t l ih =>
    intro k f acc hk hf hd ho
    obtain ⟨f, rfl⟩ : ∃ m, f = m + 1 := ⟨f - 1, by omega⟩
    obtain ⟨o1, o2, o3, o4, o5⟩ := ho
    obtain ⟨kd', hkd, hn, hd2⟩ := next_step hk hd o1 o2 o3 o4
    obtain ⟨q1, q2⟩ := nextR_on hk hn rfl
    obtain ⟨L', h1, h2⟩ := ih _ f (acc ++ [liOf (kd', t.2.2, k + t.1.length)]) q2 (by omega) hd2 o5
    refine ⟨liOf (kd', t.2.2, k + t.1.length) :: L', ?_, ?_⟩
    · rw [lexS, hn]
      rw [if_neg (show ¬ (0 : Nat) = 5 by omega), if_pos rfl]
      rw [h1]; simp
    · rw [List.map_cons, List.map_cons, h2]
      congr 1
      unfold kt liOf
      rw [hkd]
theorem rend_app (l m : List Tk) (z : List UInt8) : rend (l ++ m) z = rend l (rend m z) := by
  induction l with
  | nil => rfl
  | cons t l ih => simp only [List.cons_append, rend, ih]
/-- lexemes with a gap before the first one and a space between two -/
def toks (g : List UInt8) : List Li → List Tk
  | [] => []
  | x :: r => (g, x.1, x.2.1) :: toks [32] r
/-- the text of lexemes -/
def textB : List Li → List UInt8
  | [] => []
  | [x] => x.2.1.data.toList
  | x :: y :: r => x.2.1.data.toList ++ 32 :: textB (y :: r)
theorem rend_toks (z : List UInt8) : ∀ (l : List Li) (g : List UInt8), l ≠ [] → rend (toks g l) z = g ++ (textB l ++ z) := by
  intro l
  induction l with
  | nil => intro g h; exact absurd rfl h
  | cons x r ih =>
    intro g _
    cases r with
    | nil => rfl
    | cons y r =>
      show g ++ (x.2.1.data.toList ++ rend (toks [32] (y :: r)) z) = _
      rw [ih [32] (by simp)]
      simp [textB]
theorem toks_map (l : List Li) (g : List UInt8) : (toks g l).map (fun t => (t.2.1, t.2.2)) = l.map kt := by
  induction l generalizing g with
  | nil => rfl
  | cons x r ih => simp only [toks, List.map_cons, ih]; rfl
def okL (l : List Li) : Prop := ∀ x ∈ l, 1 ≤ x.1 ∧ formB x.1 x.2.1 = true
theorem ok_toks (m : List Tk) (z : List UInt8) (hm : okT m z) (hz : ∀ c r', rend m z = c :: r' → wordB c.toNat = false) : ∀ (l : List Li) (g : List UInt8), okL l → gapS false g = some false → okT (toks g l ++ m) z := by
  intro l
  induction l with
  | nil => intro g _ _; exact hm
  | cons x r ih =>
    intro g hl hg
    refine ⟨hg, (hl x (List.mem_cons_self ..)).2, (hl x (List.mem_cons_self ..)).1, ?_, ih [32] (fun y hy => hl y (List.mem_cons_of_mem _ hy)) rfl⟩
    intro c r' h
    cases r with
    | nil => exact hz c r' h
    | cons y r =>
      have : c = 32 := by
        simp only [toks, List.cons_append, rend] at h
        exact (List.cons.inj h).1.symm
      rw [this]; rfl
/-- the text of lexemes has these lexemes -/
theorem lex_text {S : ByteArray} {l : List Li} (hs : S.size ≤ 2000) (hl : okL l) (hS : S.data.toList = textB l) : ∃ L, lexR S = (L, 0, 0) ∧ L.map kt = l.map kt := by
  have hd : S.data.toList.drop 0 = rend (toks [] l ++ []) [] := by
    rw [List.drop_zero, List.append_nil, hS]
    cases l with
    | nil => rfl
    | cons x r => rw [rend_toks [] _ _ (by simp)]; simp
  obtain ⟨L, h1, h2⟩ := lex_rend S [] (toks [] l ++ []) 0 (S.size + 1) [] (Nat.zero_le _) (by omega) hd (ok_toks [] [] rfl (fun c r' h => nomatch h) l [] hl rfl)
  refine ⟨L, ?_, ?_⟩
  · unfold lexR; rw [if_neg (by omega), h1]; rfl
  · rw [h2, List.append_nil, toks_map]
/-- gaps may be laid before, between and behind -/
theorem lex_gaps {S : ByteArray} {a b : List Li} {g0 g1 g2 : List UInt8} (hs : S.size ≤ 2000) (ha : okL a) (hb : okL b) (h0 : gapS false g0 = some false) (h1 : gapS false g1 = some false) (h2 : passM false g2 = g2.length)
    (w1 : ∀ c r', g1 = c :: r' → wordB c.toNat = false) (n1 : g1 ≠ []) (w2 : ∀ c r', g2 = c :: r' → wordB c.toNat = false)
    (hS : S.data.toList = g0 ++ (textB a ++ (g1 ++ (textB b ++ g2)))) : ∃ L, lexR S = (L, 0, 0) ∧ L.map kt = (a ++ b).map kt := by
  have main : ∀ (m : List Tk) (z : List UInt8), S.data.toList = rend m z → okT m z → ∃ L, lexR S = (L, 0, 0) ∧ L.map kt = m.map (fun t => (t.2.1, t.2.2)) := fun m z hd ho => by
    obtain ⟨L, q1, q2⟩ := lex_rend S z m 0 (S.size + 1) [] (Nat.zero_le _) (by omega) (by rw [List.drop_zero]; exact hd) ho
    exact ⟨L, by unfold lexR; rw [if_neg (by omega), q1]; rfl, q2⟩
  have hB : ∀ g, gapS false g = some false → okT (toks g b ++ []) g2 := fun g hg => ok_toks [] g2 h2 w2 b g hb hg
  by_cases ea : a = []
  · subst ea
    have hg : gapS false (g0 ++ g1) = some false := by rw [gap_app _ _ _ _ h0]; exact h1
    by_cases eb : b = []
    · subst eb
      obtain ⟨L, q1, q2⟩ := main [] (g0 ++ (g1 ++ g2)) (by rw [hS]; rfl) (by
        show passM false _ = _
        rw [gap_pass _ _ _ _ h0, gap_pass _ _ _ _ h1, h2]; simp)
      exact ⟨L, q1, q2⟩
    · obtain ⟨L, q1, q2⟩ := main (toks (g0 ++ g1) b ++ []) g2 (by rw [List.append_nil, rend_toks _ _ _ eb, hS]; simp [textB]) (hB _ hg)
      exact ⟨L, q1, by rw [q2, List.append_nil, toks_map]; rfl⟩
  · by_cases eb : b = []
    · subst eb
      have hz : okT [] (g1 ++ g2) := by
        show passM false _ = _
        rw [gap_pass _ _ _ _ h1, h2]; simp
      have hw : ∀ c r', rend [] (g1 ++ g2) = c :: r' → wordB c.toNat = false := fun c r' h => by
        cases g1 with
        | nil => exact absurd rfl n1
        | cons d g1 => exact w1 c g1 (by have := (List.cons.inj h).1; rw [this])
      obtain ⟨L, q1, q2⟩ := main (toks g0 a ++ []) (g1 ++ g2) (by rw [List.append_nil, rend_toks _ _ _ ea, hS]; simp [textB]) (ok_toks [] (g1 ++ g2) hz hw a g0 ha h0)
      exact ⟨L, q1, by rw [q2, List.append_nil, toks_map, List.append_nil]⟩
    · have hw : ∀ c r', rend (toks g1 b ++ []) g2 = c :: r' → wordB c.toNat = false := fun c r' h => by
        rw [List.append_nil, rend_toks _ _ _ eb] at h
        cases g1 with
        | nil => exact absurd rfl n1
        | cons d g1 => exact w1 c g1 (by have := (List.cons.inj h).1; rw [this])
      obtain ⟨L, q1, q2⟩ := main (toks g0 a ++ (toks g1 b ++ [])) g2 (by rw [rend_app, List.append_nil, rend_toks _ _ _ ea, rend_toks _ _ _ eb, hS]) (ok_toks _ g2 (hB _ h1) hw a g0 ha h0)
      exact ⟨L, q1, by rw [q2, List.append_nil, List.map_append, toks_map, toks_map, List.map_append]⟩
end Go.Proofs.YtjhmlmimgahnmaaDoor.s04
