/-
  Layer 4: the laws' blank and next.
-/
import Derived.Test.YtjhmlmimgahnmaaS04Q
import Derived.Test.YtjhmlmimgahnmaaS04N
namespace Go.Proofs.Ytjhmlmimgahnmaa.s04
set_option linter.unusedVariables false
set_option linter.unusedSimpArgs false
open Go.RowKit
open kit

theorem pm_end (s : ByteArray) (b : Bool) (k : Nat) (h : s.size ≤ k) : passM b (s.data.toList.drop k) = 0 := by
  rw [drop_end s k h]; cases b <;> rfl
set_option maxRecDepth 100000 in
set_option maxHeartbeats 1000000 in
theorem blank_yes (s : ByteArray) (w : World) (hs : s.size ≤ 9223372036854775806) (H : Hid (passM false s.data.toList = s.size)) :
    Calls Try.prog 14 #[.string s] w fun e w' => e = .returned (.bool true) ∧ w = w' := by
  go_enter Try.func14, Try.ntmps14
  go_wp2
  go_loop [3, 4] (fun r i => ∃ (k : Nat) (b : Bool), k ≤ s.size ∧ i = .int .i64 k ∧ r = .bool b ∧ Hid (passM b (s.data.toList.drop k) = s.size - k)) (fun _ i => s.size - (intOf i).toNat)
  case atStart => exact ⟨0, false, by omega, rfl, rfl, by rw [List.drop_zero]; exact H⟩
  case round =>
    obtain ⟨k, b, hk, rfl, rfl, HK⟩ := hrel
    by_cases hlt : k < s.size
    · have hx := HK.out
      rw [drop_at s k hlt] at hx
      have hb := s[k].toNat_lt
      by_cases h10 : s[k].toNat = 10
      · have t10 : ((s[k].toNat : Int) == 10) = true := by rw [beq_iff_eq]; omega
        have HX : Hid (passM false (s.data.toList.drop (k + 1)) = s.size - (k + 1)) := Lib.hid (by
          cases b
          · rw [passM_f, if_pos (show blankB s[k].toNat = true by rw [h10]; rfl)] at hx; omega
          · rw [passM_t, h10] at hx; have : passM ((10 : Nat) != 10) (s.data.toList.drop (k + 1)) = passM false (s.data.toList.drop (k + 1)) := rfl; omega)
        clear hx h10
        go_wp2
        go_round
        case rel => exact ⟨k + 1, false, by omega, by go_num, rfl, HX⟩
        case measure => simp [intOf]; omega
      · have t10 : ((s[k].toNat : Int) == 10) = false := by rw [beq_eq_false_iff_ne]; omega
        by_cases h35 : s[k].toNat = 35
        · have t35 : ((s[k].toNat : Int) == 35) = true := by rw [beq_iff_eq]; omega
          have HX : Hid (passM true (s.data.toList.drop (k + 1)) = s.size - (k + 1)) := Lib.hid (by
            cases b
            · rw [passM_f, if_neg (show ¬ blankB s[k].toNat = true by rw [h35]; decide), if_pos h35] at hx; omega
            · rw [passM_t, bne_iff_ne.2 h10] at hx; omega)
          clear hx h10 h35
          go_wp2
          go_round
          case rel => exact ⟨k + 1, true, by omega, by go_num, rfl, HX⟩
          case measure => simp [intOf]; omega
        · have t35 : ((s[k].toNat : Int) == 35) = false := by rw [beq_eq_false_iff_ne]; omega
          cases b
          · have hbl : blankB s[k].toNat = true := by
              cases hq : blankB s[k].toNat with
              | true => rfl
              | false => rw [passM_f, hq, if_neg (by decide), if_neg h35] at hx; omega
            have HX : Hid (passM false (s.data.toList.drop (k + 1)) = s.size - (k + 1)) := Lib.hid (by
              rw [passM_f, if_pos hbl] at hx; omega)
            have h3 : s[k].toNat = 32 ∨ s[k].toNat = 9 ∨ s[k].toNat = 13 := by
              unfold blankB at hbl
              have := of_decide_eq_true hbl
              omega
            clear hx h10 h35 hbl
            by_cases e1 : s[k].toNat = 32
            · have u1 : ((s[k].toNat : Int) != 32) = false := by rw [bne_eq_false_iff_eq]; omega
              clear h3 e1
              go_wp2
              go_round
              case rel => exact ⟨k + 1, false, by omega, by go_num, rfl, HX⟩
              case measure => simp [intOf]; omega
            · have u1 : ((s[k].toNat : Int) != 32) = true := by rw [bne_iff_ne]; omega
              by_cases e2 : s[k].toNat = 9
              · have u2 : ((s[k].toNat : Int) != 9) = false := by rw [bne_eq_false_iff_eq]; omega
                clear h3 e1 e2
                go_wp2
                go_round
                case rel => exact ⟨k + 1, false, by omega, by go_num, rfl, HX⟩
                case measure => simp [intOf]; omega
              · have u2 : ((s[k].toNat : Int) != 9) = true := by rw [bne_iff_ne]; omega
                have u3 : ((s[k].toNat : Int) != 13) = false := by rw [bne_eq_false_iff_eq]; omega
                clear h3 e1 e2
                go_wp2
                go_round
                case rel => exact ⟨k + 1, false, by omega, by go_num, rfl, HX⟩
                case measure => simp [intOf]; omega
          · have HX : Hid (passM true (s.data.toList.drop (k + 1)) = s.size - (k + 1)) := Lib.hid (by
              rw [passM_t, bne_iff_ne.2 h10] at hx; omega)
            clear hx h10 h35
            go_wp2
            go_round
            case rel => exact ⟨k + 1, true, by omega, by go_num, rfl, HX⟩
            case measure => simp [intOf]; omega
    · go_wp2
      go_ret
      exact ⟨rfl, rfl⟩
set_option maxRecDepth 100000 in
set_option maxHeartbeats 1000000 in
theorem lnext_yes (s : ByteArray) (i : Int) (w : World) (h1 : -9223372036854775808 ≤ i) (h2 : i ≤ 9223372036854775807) (hs : s.size ≤ 9223372036854775806) (kd : Nat) (tx : ByteArray) (pl n : Nat) (H : Hid (nextR s i = ((kd, tx, pl), n, 0, 0))) :
    Calls Try.prog 15 #[.string s, .int .i64 i, .agg #[.int .i64 (kd : Int), .string tx, .int .i64 (pl : Int)], .int .i64 (n : Int)] w fun e w' => e = .returned (.bool true) ∧ Below w.heap.size w w' := by
  have HB := Lib.hid ((Below.refl w.heap.size w).alloc (Nat.le_refl _) (.cells #[.int .i64 (kd : Int), .string tx, .int .i64 (pl : Int)] 31))
  have HX := Lib.hid (Box.new w 31 #[.int .i64 (kd : Int), .string tx, .int .i64 (pl : Int)])
  go_enter Try.func15, Try.ntmps15
  go_wp2_with (go_at_call 11; refine (pnext_any s i _ h1 h2 hs (kd, tx, pl) n 0 0 H).mono ?_; rintro e w1 ⟨rfl, B1⟩; obtain ⟨x0, x1, x2⟩ := (HX.out.below B1).cell3; have hlt := (HX.out.below B1).lt)
  go_ret
  exact ⟨rfl, ((below_then HB.out B1).alloc (below_then HB.out B1).size _).alloc (by have := (below_then HB.out B1).size; simp; omega) _⟩
theorem nextR_at {s : ByteArray} {k : Nat} {x : Lx} {n er a : Nat} (hk : k ≤ s.size) (h : nextR s (k : Int) = (x, n, er, a)) : a ≤ s.size := by
  rw [nextR_eq s k hk] at h
  have h2 := passAt_le s k hk
  split at h
  · have e := congrArg (fun t => t.2.2.2) h
    simp only at e; omega
  · split at h
    · have e := congrArg (fun t => t.2.2.2) h
      simp only at e; omega
    · have e := congrArg (fun t => t.2.2.2) h
      simp only at e; omega
theorem lexS_fault (s : ByteArray) : ∀ (f k : Nat) (acc L : List Li) (er p : Nat), k ≤ s.size → lexS s f k acc = (L, er, p) → p ≤ s.size := by
  intro f
  induction f with
  | zero => intro k acc L er p hk h; cases h; omega
  | succ f ih =>
    intro k acc L er p hk h
    obtain ⟨x, n, e, a, hn⟩ : ∃ x n e a, nextR s (k : Int) = (x, n, e, a) := ⟨_, _, _, _, rfl⟩
    obtain ⟨s5, s0, se⟩ := lexS_step h hn
    by_cases h5 : e = 5
    · cases s5 h5; omega
    · by_cases h0 : e = 0
      · exact ih _ _ _ _ _ (nextR_on hk hn h0).2 (s0 h0)
      · cases se h5 h0; exact nextR_at hk hn
theorem lexR_fault {s : ByteArray} {L : List Li} {er p : Nat} (hs : s.size ≤ 2000) (h : lexR s = (L, er, p)) : p ≤ s.size := by
  unfold lexR at h
  rw [if_neg (by omega)] at h
  exact lexS_fault s _ _ _ _ _ _ (by omega) h
theorem next_end {s : ByteArray} {k : Nat} {x : Lx} {n a : Nat} (hk : k ≤ s.size) (h : nextR s (k : Int) = (x, n, 5, a)) : passM false (s.data.toList.drop k) = s.size - k := by
  rw [nextR_eq s k hk] at h
  have h1 := passAt_ge s k
  by_cases h3 : passAt s k = s.size
  · unfold passAt at h3; omega
  · rw [if_neg h3] at h
    split at h
    · have := congrArg (fun t => t.2.2.1) h
      simp only at this; omega
    · have := congrArg (fun t => t.2.2.1) h
      simp only at this; omega
theorem lexS_zero (s : ByteArray) : ∀ (f k : Nat) (acc L : List Li) (p : Nat), lexS s f k acc = (L, 0, p) → p = 0 := by
  intro f
  induction f with
  | zero => intro k acc L p h; exact (congrArg (fun t => t.2.2) h).symm
  | succ f ih =>
    intro k acc L p h
    obtain ⟨x, n, e, a, hn⟩ : ∃ x n e a, nextR s (k : Int) = (x, n, e, a) := ⟨_, _, _, _, rfl⟩
    obtain ⟨s5, s0, se⟩ := lexS_step h hn
    by_cases h5 : e = 5
    · exact (congrArg (fun t => t.2.2) (s5 h5)).symm
    · by_cases h0 : e = 0
      · exact ih _ _ _ _ (s0 h0)
      · exact absurd (congrArg (fun t => t.2.1) (se h5 h0)) h0
theorem ReadsL.left {w : World} {a : Option Addr} {l r : List Li} (h : ReadsL w a (l ++ r)) : ReadsL w a l := fun i hi => by
  obtain ⟨b, off, e, hb, h0, h1, h2⟩ := h i (by rw [List.length_append]; omega)
  rw [List.getElem?_append_left hi] at h0 h1 h2
  exact ⟨b, off, e, hb, h0, h1, h2⟩
theorem lexS_places (s : ByteArray) : ∀ (f k : Nat) (acc : List Li), k ≤ s.size → (∀ x ∈ acc, 0 ≤ x.2.2 ∧ x.2.2 ≤ (s.size : Int)) → ∀ x ∈ (lexS s f k acc).1, 0 ≤ x.2.2 ∧ x.2.2 ≤ (s.size : Int) := by
  intro f
  induction f with
  | zero => intro k acc _ h; exact h
  | succ f ih =>
    intro k acc hk h
    rw [lexS]
    split
    · exact h
    · split
      · rename_i h0
        obtain ⟨x, n, er, a, hn⟩ : ∃ x n e a, nextR s (k : Int) = (x, n, e, a) := ⟨_, _, _, _, rfl⟩
        rw [hn] at h0 ⊢
        simp only at h0 ⊢
        subst h0
        obtain ⟨m, g1, g2, _⟩ := next_facts hk (by rw [hn, nextR_ok hn rfl])
        refine ih n _ (nextR_on hk hn rfl).2 fun y hy => ?_
        rcases List.mem_append.1 hy with hy | hy
        · exact h y hy
        · rw [List.mem_singleton] at hy
          subst hy
          unfold liOf
          simp only
          omega
      · intro x hx; cases hx
theorem lexR_places {s : ByteArray} {L : List Li} {er p : Nat} (h : lexR s = (L, er, p)) : ∀ x ∈ L, 0 ≤ x.2.2 ∧ x.2.2 ≤ (s.size : Int) := by
  unfold lexR at h
  split at h
  · cases h; intro x hx; cases hx
  · have := lexS_places s (s.size + 1) 0 [] (Nat.zero_le _) (fun x hx => nomatch hx)
    rw [h] at this
    exact this
end Go.Proofs.Ytjhmlmimgahnmaa.s04
