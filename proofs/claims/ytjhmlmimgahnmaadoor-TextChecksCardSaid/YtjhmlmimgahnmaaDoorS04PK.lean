/-
  Layer 4, the program's side: the kind of the lexeme that begins at a place.
-/
import Derived.Test.YtjhmlmimgahnmaaDoorS04PL
namespace Go.Proofs.YtjhmlmimgahnmaaDoor.s04
set_option linter.unusedVariables false
set_option linter.unusedSimpArgs false
open Go.RowKit
open kit

theorem run_stop (p : Nat → Bool) (s : ByteArray) : ∀ (n k : Nat), s.size - k ≤ n → ∀ h : runAt p s k < s.size, p s[runAt p s k].toNat = false := by
  intro n
  induction n with
  | zero => intro k hk h; have := run_ge p s k; omega
  | succ n ih =>
    intro k hk h
    have hge := run_ge p s k
    by_cases hp : p (s[k]'(by omega)).toNat = true
    · have e := run_on (by omega : k < s.size) hp
      have := ih (k + 1) (by omega) (by rw [← e]; exact h)
      simp only [← e] at this
      exact this
    · have hp' : p (s[k]'(by omega)).toNat = false := by simpa using hp
      have e := run_off (by omega : k < s.size) hp'
      simp only [e]
      exact hp'
theorem ext_run (p : Nat → Bool) (s : ByteArray) (k j : Nat) : k + runAt p (s.extract k s.size) j = runAt p s (k + j) := by
  unfold runAt
  rw [ext_drop, List.drop_drop]; omega
theorem ext_at (s : ByteArray) (k j : Nat) (hk : k ≤ s.size) : atB (s.extract k s.size) j = atB s (k + j) := by
  by_cases h : k + j < s.size
  · rw [at_in h, at_in (by rw [ByteArray.size_extract]; omega)]
    exact congrArg UInt8.toNat (ByteArray.getElem_extract ..)
  · rw [at_out (s := s) (k := k + j) (by omega), at_out (by rw [ByteArray.size_extract]; omega)]
/-- the kind and the length of the lexeme at k -/
def begK (s : ByteArray) (k : Nat) : Nat × Nat := begR (s.extract k s.size)
theorem begK_eq (s : ByteArray) (k : Nat) (h : k < s.size) : begK s k =
    if signB s[k].toNat then (3, 1)
    else if letterB s[k].toNat then (1, runAt wordB s (k + 1) - k)
    else if digitB s[k].toNat then
      if (decide (s[k].toNat = 48 ∧ k + 1 < runAt digitB s (k + 1)) || (letterB (atB s (runAt digitB s (k + 1))) || atB s (runAt digitB s (k + 1)) == 95)) then (0, 0) else (2, runAt digitB s (k + 1) - k)
    else (0, 0) := by
  have h0 := ext_at s k 0 (by omega)
  have h1 := ext_run wordB s k 1
  have h2 := ext_run digitB s k 1
  have h3 := ext_at s k (runAt digitB (s.extract k s.size) 1) (by omega)
  rw [h2] at h3
  rw [Nat.add_zero, at_in h] at h0
  unfold begK begR
  rw [h0, h3, show runAt wordB (s.extract k s.size) 1 = runAt wordB s (k + 1) - k by omega, show runAt digitB (s.extract k s.size) 1 = runAt digitB s (k + 1) - k by omega]
  have e : decide (s[k].toNat = 48 ∧ 1 < runAt digitB s (k + 1) - k) = decide (s[k].toNat = 48 ∧ k + 1 < runAt digitB s (k + 1)) := decide_eq_decide.2 (by omega)
  rw [e]
/-- what a byte is in a word behind its first letter -/
def wordAt (s : ByteArray) (k : Nat) : Bool := if h : k < s.size then wordB s[k].toNat else false
def digitAt (s : ByteArray) (k : Nat) : Bool := if h : k < s.size then digitB s[k].toNat else false
theorem cls_wordAt (s : ByteArray) (k : Nat) : (clsAt s k == 3 || clsAt s k == 6 || (clsAt s k == 4 || clsAt s k == 5)) = wordAt s k := by
  unfold clsAt wordAt
  by_cases h : k < s.size
  · rw [dif_pos h, dif_pos h]; exact cls_word _
  · rw [dif_neg h, dif_neg h]; rfl
theorem cls_digitAt (s : ByteArray) (k : Nat) : (clsAt s k == 4 || clsAt s k == 5) = digitAt s k := by
  unfold clsAt digitAt
  by_cases h : k < s.size
  · rw [dif_pos h, dif_pos h]; exact cls_digit _
  · rw [dif_neg h, dif_neg h]; rfl
theorem word_of (s : ByteArray) (k : Nat) (hd : digitAt s k = false) : wordAt s k = (letterB (atB s k) || atB s k == 95) := by
  unfold wordAt
  unfold digitAt at hd
  by_cases h : k < s.size
  · rw [dif_pos h] at hd ⊢
    unfold wordB
    rw [at_in h, hd]; simp
  · rw [dif_neg h, at_out (by omega)]; rfl
theorem digit_stop (s : ByteArray) (k : Nat) : digitAt s (runAt digitB s k) = false := by
  unfold digitAt
  by_cases h : runAt digitB s k < s.size
  · rw [dif_pos h]; exact run_stop digitB s _ k (Nat.le_refl _) h
  · rw [dif_neg h]
def Kinded (w : World) (b : Nat) (s : ByteArray) (k : Nat) (g : Int) (kd n : Nat) (e : Ending) (w' : World) : Prop :=
  ∃ at' : Nat, e = .returned (.tuple #[.int .i64 (kd : Int), .int .i64 (if kd = 0 then 3 else 0)]) ∧ at' ≤ s.size ∧ (kd ≠ 0 → at' = k + n) ∧ Rd w' b s at' g ∧ GB b w w'
theorem Kinded.no {w w' : World} {b : Nat} {s : ByteArray} {k at' : Nat} {g : Int} {kd n : Nat} (h0 : kd = 0) (h1 : at' ≤ s.size) (hR : Rd w' b s at' g) (hB : GB b w w') : Kinded w b s k g kd n (.returned (.tuple #[.int .i64 0, .int .i64 3])) w' := by
  subst h0; exact ⟨at', rfl, h1, fun h => absurd rfl h, hR, hB⟩
theorem Kinded.yes {w w' : World} {b : Nat} {s : ByteArray} {k at' : Nat} {g : Int} {kd n : Nat} (k0 : Nat) (h0 : kd = k0) (hk : k0 ≠ 0) (h1 : at' ≤ s.size) (ha : at' = k + n) (hR : Rd w' b s at' g) (hB : GB b w w') : Kinded w b s k g kd n (.returned (.tuple #[.int .i64 (k0 : Int), .int .i64 0])) w' := by
  subst h0; exact ⟨at', by rw [if_neg hk], h1, fun _ => ha, hR, hB⟩
theorem kind_end (b : Nat) (s : ByteArray) (k : Nat) (g : Int) (w : World) (hk : k = s.size) (hs : s.size ≤ 9223372036854775806) (R : Hid (Rd w b s k g)) :
    Calls Tryd.prog 45 #[.pointer (some ⟨b, 0, none⟩)] w fun e w' => e = .returned (.tuple #[.int .i64 0, .int .i64 5]) ∧ Rd w' b s k g ∧ GB b w w' := by
  have HC : Hid (0 = clsAt s k) := Lib.hid (cls_out (by omega)).symm
  have hk2 : k ≤ s.size := by omega
  have HB0 := Lib.hid (GB.refl b w)
  clear hk
  go_enter Tryd.func45, Tryd.ntmps45
  go_wp2_with (go_at_call 52; refine (here_any b s k g _ hk2 hs R).mono ?_; rintro e w1 ⟨rfl, hB1⟩; rw [← HC.out]; have HR1 := Lib.hid (R.out.below hB1); have HB1 := Lib.hid (HB0.out.then hB1); clear hB1)
  go_ret2
  exact ⟨rfl, HR1.out, HB1.out⟩
theorem runD_step (s : ByteArray) (k : Nat) (h : k < s.size) (hd : digitB s[k].toNat = true) : runAt digitB s k = runAt digitB s (k + 1) := run_on h hd
theorem digit_end (s : ByteArray) (k : Nat) (hd : digitAt s k = false) : runAt digitB s k = k := by
  unfold digitAt at hd
  by_cases h : k < s.size
  · rw [dif_pos h] at hd; exact run_off h hd
  · exact run_end (by omega)
theorem digit_more (s : ByteArray) (k : Nat) (hd : digitAt s k = true) : k < runAt digitB s k := by
  unfold digitAt at hd
  by_cases h : k < s.size
  · rw [dif_pos h] at hd
    rw [run_on h hd]
    have := run_ge digitB s (k + 1)
    omega
  · rw [dif_neg h] at hd; cases hd
theorem cls_letter {n : Nat} (h : letterB n = true) : clsB n = 3 := by unfold clsB; rw [if_pos h]
theorem cls_sign {n : Nat} (h : signB n = true) : clsB n = 7 := by
  unfold signB at h
  rcases of_decide_eq_true h with rfl | rfl | rfl | rfl <;> rfl
theorem sign_letter {n : Nat} (h : signB n = true) : letterB n = false ∧ digitB n = false := by
  unfold signB at h
  rcases of_decide_eq_true h with rfl | rfl | rfl | rfl <;> exact ⟨rfl, rfl⟩
theorem cls_digit1 {n : Nat} (h : digitB n = true) (h48 : n ≠ 48) : clsB n = 5 := by
  unfold clsB
  have : letterB n = false := by
    unfold digitB at h; unfold letterB
    rw [decide_eq_false_iff_not]; have := of_decide_eq_true h; omega
  rw [this, if_neg (by decide : ¬ (false = true)), if_neg h48, if_pos h]
theorem cls_none {n : Nat} (h1 : signB n = false) (h2 : letterB n = false) (h3 : digitB n = false) : clsB n ≠ 0 ∧ clsB n ≠ 3 ∧ clsB n ≠ 4 ∧ clsB n ≠ 5 ∧ clsB n ≠ 7 := by
  unfold clsB
  have h48 : n ≠ 48 := by rintro rfl; exact absurd h3 (by decide)
  rw [h1, h2, h3]
  simp only [Bool.false_eq_true, if_false, if_neg h48]
  (repeat' split) <;> simp
set_option maxRecDepth 100000 in
set_option maxHeartbeats 2000000 in
theorem kind_any (b : Nat) (s : ByteArray) (k : Nat) (g : Int) (w : World) (hk : k < s.size) (hs : s.size ≤ 9223372036854775806) (R : Hid (Rd w b s k g)) (kd n : Nat) (H : Hid (begK s k = (kd, n))) :
    Calls Tryd.prog 45 #[.pointer (some ⟨b, 0, none⟩)] w (Kinded w b s k g kd n) := by
  have HB0 := Lib.hid (GB.refl b w)
  have hk1 : k ≤ s.size := by omega
  obtain ⟨c, hc⟩ : ∃ c, c = clsAt s k := ⟨_, rfl⟩
  have hcc : c = clsB s[k].toNat := by rw [hc, cls_in hk]
  have HC := Lib.hid hc
  have he := begK_eq s k hk
  cases hS : signB s[k].toNat
  · cases hL : letterB s[k].toNat
    · cases hD : digitB s[k].toNat
      · -- no lexeme
        obtain ⟨n0, n3, n4, n5, n7⟩ := cls_none hS hL hD
        rw [← hcc] at n0 n3 n4 n5 n7
        have t0 : ((c : Int) == 0) = false := by rw [beq_eq_false_iff_ne]; omega
        have t3 : ((c : Int) == 3) = false := by rw [beq_eq_false_iff_ne]; omega
        have t4 : ((c : Int) == 4) = false := by rw [beq_eq_false_iff_ne]; omega
        have t5 : ((c : Int) == 5) = false := by rw [beq_eq_false_iff_ne]; omega
        have t7 : ((c : Int) == 7) = false := by rw [beq_eq_false_iff_ne]; omega
        have HE : Hid (kd = 0) := Lib.hid (by rw [hS, hL, hD] at he; have := H.out.symm.trans he; simpa using congrArg Prod.fst this)
        clear hS hL hD he hc hcc n0 n3 n4 n5 n7
        go_enter Tryd.func45, Tryd.ntmps45
        go_wp2_with (go_at_call 52; (with_reducible refine (here_any b s k g _ hk1 hs R).mono ?_); rintro e w1 ⟨rfl, hB⟩; rw [← HC.out]; have HR1 := Lib.hid (R.out.below hB); have HB1 := Lib.hid (HB0.out.then hB); clear hB)
        go_ret2
        exact Kinded.no HE.out hk1 HR1.out HB1.out
      · by_cases h48 : s[k].toNat = 48
        · -- a zero
          have h4 : c = 4 := by rw [hcc, h48]; rfl
          obtain ⟨q, hq⟩ : ∃ q, q = digitAt s (k + 1) := ⟨_, rfl⟩
          have HQ : Hid ((clsAt s (k + 1) == 4 || clsAt s (k + 1) == 5) = q) := Lib.hid (by rw [cls_digitAt, hq])
          rw [hS, hL, hD, h48] at he
          simp only [Bool.false_eq_true, if_false, if_true] at he
          have HE := Lib.hid (H.out.symm.trans he)
          have HR0 := Lib.hid True.intro
          have hk2 : k + 1 ≤ s.size := by omega
          have HD := Lib.hid hq
          clear hS hL hD he hc hcc h48 hq
          subst h4
          cases q
          · -- no digit behind it
            have HJ := Lib.hid (digit_end s (k + 1) HD.out.symm)
            obtain ⟨v, hv⟩ : ∃ v, v = wordAt s (k + 1) := ⟨_, rfl⟩
            have HV : Hid ((clsAt s (k + 1) == 3 || clsAt s (k + 1) == 6 || (clsAt s (k + 1) == 4 || clsAt s (k + 1) == 5)) = v) := Lib.hid (by rw [cls_wordAt, hv])
            have HF : Hid ((kd, n) = if v then (0, 0) else (2, 1)) := Lib.hid (by
              rw [HE.out, HJ.out, hv, word_of _ _ HD.out.symm]
              rw [show decide (True ∧ k + 1 < k + 1) = false from decide_eq_false (by omega), Bool.false_or, show k + 1 - k = 1 by omega])
            clear hv
            have HC1 := Lib.hid (rfl : clsAt s (k + 1) = clsAt s (k + 1))
            cases v
            · have HG := Lib.hid (by have := HF.out; simpa using this : kd = 2 ∧ n = 1)
              clear HF HE
              go_enter Tryd.func45, Tryd.ntmps45
              go_wp2_with (first
          | (go_at_call 52; (with_reducible refine (here_any b s k g _ hk1 hs R).mono ?_); rintro e w1 ⟨rfl, hB⟩; rw [← HC.out]; have HR1 := Lib.hid (R.out.below hB); have HB1 := Lib.hid (HB0.out.then hB); clear hB; obtain ⟨d0, d1, d2⟩ := HR1.out.cell3; obtain ⟨f0, f1, f2⟩ := HR1.out.free3; have HR1m : Hid (Rd (w1.setCell ⟨b, 1, none⟩ (.int .i64 ((k : Int) + 1))) b s (k + 1) g) := Lib.hid (HR1.out.move (k + 1)); have HB1m : Hid (GB b w (w1.setCell ⟨b, 1, none⟩ (.int .i64 ((k : Int) + 1)))) := Lib.hid (HB1.out.set 1 (.int .i64 ((k : Int) + 1))))
          | (go_at_call 52; (with_reducible refine (here_any b s (k + 1) g _ hk2 hs HR1m).mono ?_); rintro e w2 ⟨rfl, hB⟩; have HR2 := Lib.hid (HR1m.out.below hB); have HB2 := Lib.hid (HB1m.out.then hB); clear hB)
          | (go_at_call 56; refine (inNumber_any _ _).mono ?_; rintro e w9 ⟨rfl, rfl⟩; rw [HQ.out])
          | (go_at_call 54; (with_reducible refine (passNumber_any b s (k + 1) g _ hk2 hs HR2 (k + 1) (Lib.hid HJ.out.symm)).mono ?_); rintro e w3 ⟨rfl, hR, hB⟩; have HR3 := Lib.hid hR; have HB3 := Lib.hid (HB2.out.trans hB); clear hR hB)
          | (go_at_call 52; (with_reducible refine (here_any b s (k + 1) g _ hk2 hs HR3).mono ?_); rintro e w4 ⟨rfl, hB⟩; have HR4 := Lib.hid (HR3.out.below hB); have HB4 := Lib.hid (HB3.out.then hB); clear hB)
          | (go_at_call 55; refine (inWord_any _ _).mono ?_; rintro e w9 ⟨rfl, rfl⟩; rw [HV.out]))
              go_ret2
              exact Kinded.yes 2 HG.out.1 (by decide) hk2 (by have := HG.out.2; omega) HR4.out HB4.out
            · have HG := Lib.hid (by have := HF.out; simpa using this : kd = 0 ∧ n = 0)
              clear HF HE
              go_enter Tryd.func45, Tryd.ntmps45
              go_wp2_with (first
          | (go_at_call 52; (with_reducible refine (here_any b s k g _ hk1 hs R).mono ?_); rintro e w1 ⟨rfl, hB⟩; rw [← HC.out]; have HR1 := Lib.hid (R.out.below hB); have HB1 := Lib.hid (HB0.out.then hB); clear hB; obtain ⟨d0, d1, d2⟩ := HR1.out.cell3; obtain ⟨f0, f1, f2⟩ := HR1.out.free3; have HR1m : Hid (Rd (w1.setCell ⟨b, 1, none⟩ (.int .i64 ((k : Int) + 1))) b s (k + 1) g) := Lib.hid (HR1.out.move (k + 1)); have HB1m : Hid (GB b w (w1.setCell ⟨b, 1, none⟩ (.int .i64 ((k : Int) + 1)))) := Lib.hid (HB1.out.set 1 (.int .i64 ((k : Int) + 1))))
          | (go_at_call 52; (with_reducible refine (here_any b s (k + 1) g _ hk2 hs HR1m).mono ?_); rintro e w2 ⟨rfl, hB⟩; have HR2 := Lib.hid (HR1m.out.below hB); have HB2 := Lib.hid (HB1m.out.then hB); clear hB)
          | (go_at_call 56; refine (inNumber_any _ _).mono ?_; rintro e w9 ⟨rfl, rfl⟩; rw [HQ.out])
          | (go_at_call 54; (with_reducible refine (passNumber_any b s (k + 1) g _ hk2 hs HR2 (k + 1) (Lib.hid HJ.out.symm)).mono ?_); rintro e w3 ⟨rfl, hR, hB⟩; have HR3 := Lib.hid hR; have HB3 := Lib.hid (HB2.out.trans hB); clear hR hB)
          | (go_at_call 52; (with_reducible refine (here_any b s (k + 1) g _ hk2 hs HR3).mono ?_); rintro e w4 ⟨rfl, hB⟩; have HR4 := Lib.hid (HR3.out.below hB); have HB4 := Lib.hid (HB3.out.then hB); clear hB)
          | (go_at_call 55; refine (inWord_any _ _).mono ?_; rintro e w9 ⟨rfl, rfl⟩; rw [HV.out]))
              go_ret2
              exact Kinded.no HG.out.1 hk2 HR4.out HB4.out
          · have HJ := digit_more s (k + 1) HD.out.symm
            have HG : Hid (kd = 0) := Lib.hid (by
              have h1 := HE.out
              rw [show decide (True ∧ k + 1 < runAt digitB s (k + 1)) = true from decide_eq_true ⟨trivial, HJ⟩, Bool.true_or, if_pos rfl] at h1
              exact congrArg Prod.fst h1)
            clear HJ HE
            go_enter Tryd.func45, Tryd.ntmps45
            go_wp2_with (first
          | (go_at_call 52; (with_reducible refine (here_any b s k g _ hk1 hs R).mono ?_); rintro e w1 ⟨rfl, hB⟩; rw [← HC.out]; have HR1 := Lib.hid (R.out.below hB); have HB1 := Lib.hid (HB0.out.then hB); clear hB; obtain ⟨d0, d1, d2⟩ := HR1.out.cell3; obtain ⟨f0, f1, f2⟩ := HR1.out.free3; have HR1m : Hid (Rd (w1.setCell ⟨b, 1, none⟩ (.int .i64 ((k : Int) + 1))) b s (k + 1) g) := Lib.hid (HR1.out.move (k + 1)); have HB1m : Hid (GB b w (w1.setCell ⟨b, 1, none⟩ (.int .i64 ((k : Int) + 1)))) := Lib.hid (HB1.out.set 1 (.int .i64 ((k : Int) + 1))))
          | (go_at_call 52; (with_reducible refine (here_any b s (k + 1) g _ hk2 hs HR1m).mono ?_); rintro e w2 ⟨rfl, hB⟩; have HR2 := Lib.hid (HR1m.out.below hB); have HB2 := Lib.hid (HB1m.out.then hB); clear hB)
          | (go_at_call 56; refine (inNumber_any _ _).mono ?_; rintro e w9 ⟨rfl, rfl⟩; rw [HQ.out]))
            go_ret2
            exact Kinded.no HG.out hk2 HR2.out HB2.out
        · -- another digit
          have h5 : c = 5 := by rw [hcc, cls_digit1 hD h48]
          rw [hS, hL, hD, show decide (s[k].toNat = 48 ∧ k + 1 < runAt digitB s (k + 1)) = false from decide_eq_false fun e => h48 e.1] at he
          simp only [Bool.false_eq_true, if_false, if_true, Bool.false_or] at he
          rw [← runD_step s k hk hD] at he
          obtain ⟨j, hj⟩ : ∃ j, j = runAt digitB s k := ⟨_, rfl⟩
          have hj1 : j ≤ s.size := by rw [hj]; exact run_le _ _ _ hk1
          have hj2 : k ≤ j := by rw [hj]; exact run_ge _ _ _
          have HD : Hid (digitAt s j = false) := Lib.hid (by rw [hj]; exact digit_stop s k)
          rw [← hj] at he
          obtain ⟨v, hv⟩ : ∃ v, v = wordAt s j := ⟨_, rfl⟩
          have HV : Hid ((clsAt s j == 3 || clsAt s j == 6 || (clsAt s j == 4 || clsAt s j == 5)) = v) := Lib.hid (by rw [cls_wordAt, hv])
          have HF : Hid ((kd, n) = if v then (0, 0) else (2, j - k)) := Lib.hid (by rw [hv, word_of _ _ HD.out, ← H.out, he])
          have HJ := Lib.hid hj
          clear hS hL hD he hc hcc h48 hj hv
          subst h5
          cases v
          · have HG := Lib.hid (by have := HF.out; simpa using this : kd = 2 ∧ n = j - k)
            clear HF
            go_enter Tryd.func45, Tryd.ntmps45
            go_wp2_with (first
          | (go_at_call 52; (with_reducible refine (here_any b s k g _ hk1 hs R).mono ?_); rintro e w1 ⟨rfl, hB⟩; rw [← HC.out]; have HR1 := Lib.hid (R.out.below hB); have HB1 := Lib.hid (HB0.out.then hB); clear hB)
          | (go_at_call 54; (with_reducible refine (passNumber_any b s k g _ hk1 hs HR1 j HJ).mono ?_); rintro e w2 ⟨rfl, hR, hB⟩; have HR2 := Lib.hid hR; have HB2 := Lib.hid (HB1.out.trans hB); clear hR hB)
          | (go_at_call 52; (with_reducible refine (here_any b s j g _ hj1 hs HR2).mono ?_); rintro e w3 ⟨rfl, hB⟩; have HR3 := Lib.hid (HR2.out.below hB); have HB3 := Lib.hid (HB2.out.then hB); clear hB)
          | (go_at_call 55; refine (inWord_any _ _).mono ?_; rintro e w9 ⟨rfl, rfl⟩; rw [HV.out]))
            go_ret2
            exact Kinded.yes 2 HG.out.1 (by decide) hj1 (by have := HG.out.2; omega) HR3.out HB3.out
          · have HG := Lib.hid (by have := HF.out; simpa using this : kd = 0 ∧ n = 0)
            clear HF
            go_enter Tryd.func45, Tryd.ntmps45
            go_wp2_with (first
          | (go_at_call 52; (with_reducible refine (here_any b s k g _ hk1 hs R).mono ?_); rintro e w1 ⟨rfl, hB⟩; rw [← HC.out]; have HR1 := Lib.hid (R.out.below hB); have HB1 := Lib.hid (HB0.out.then hB); clear hB)
          | (go_at_call 54; (with_reducible refine (passNumber_any b s k g _ hk1 hs HR1 j HJ).mono ?_); rintro e w2 ⟨rfl, hR, hB⟩; have HR2 := Lib.hid hR; have HB2 := Lib.hid (HB1.out.trans hB); clear hR hB)
          | (go_at_call 52; (with_reducible refine (here_any b s j g _ hj1 hs HR2).mono ?_); rintro e w3 ⟨rfl, hB⟩; have HR3 := Lib.hid (HR2.out.below hB); have HB3 := Lib.hid (HB2.out.then hB); clear hB)
          | (go_at_call 55; refine (inWord_any _ _).mono ?_; rintro e w9 ⟨rfl, rfl⟩; rw [HV.out]))
            go_ret2
            exact Kinded.no HG.out.1 hj1 HR3.out HB3.out
    · -- a letter
      have h3 : c = 3 := by rw [hcc, cls_letter hL]
      rw [hS, hL] at he
      simp only [Bool.false_eq_true, if_false, if_true] at he
      have hw : wordB s[k].toNat = true := by unfold wordB; rw [hL]; rfl
      rw [← run_on hk hw] at he
      obtain ⟨j, hj⟩ : ∃ j, j = runAt wordB s k := ⟨_, rfl⟩
      have hj1 : j ≤ s.size := by rw [hj]; exact run_le _ _ _ hk1
      have hj2 : k ≤ j := by rw [hj]; exact run_ge _ _ _
      rw [← hj] at he
      have HE := Lib.hid (H.out.symm.trans he)
      have HJ := Lib.hid hj
      clear hS hL he hc hcc hj hw
      subst h3
      go_enter Tryd.func45, Tryd.ntmps45
      go_wp2_with (first
          | (go_at_call 52; (with_reducible refine (here_any b s k g _ hk1 hs R).mono ?_); rintro e w1 ⟨rfl, hB⟩; rw [← HC.out]; have HR1 := Lib.hid (R.out.below hB); have HB1 := Lib.hid (HB0.out.then hB); clear hB)
          | (go_at_call 54; (with_reducible refine (passWord_any b s k g _ hk1 hs HR1 j HJ).mono ?_); rintro e w2 ⟨rfl, hR, hB⟩; have HR2 := Lib.hid hR; have HB2 := Lib.hid (HB1.out.trans hB); clear hR hB))
      go_ret2
      exact Kinded.yes 1 (congrArg Prod.fst HE.out) (by decide) hj1 (by have := congrArg Prod.snd HE.out; simp only at this; omega) HR2.out HB2.out
  · -- a sign
    have h7 : c = 7 := by rw [hcc, cls_sign hS]
    have HE : Hid ((kd, n) = (3, 1)) := Lib.hid (by rw [hS] at he; exact H.out.symm.trans he)
    have hk2 : k + 1 ≤ s.size := by omega
    clear hS he hc hcc
    subst h7
    go_enter Tryd.func45, Tryd.ntmps45
    go_wp2_with (go_at_call 52; (with_reducible refine (here_any b s k g _ hk1 hs R).mono ?_); rintro e w1 ⟨rfl, hB⟩; rw [← HC.out]; have HR1 := Lib.hid (R.out.below hB); have HB1 := Lib.hid (HB0.out.then hB); clear hB; obtain ⟨d0, d1, d2⟩ := HR1.out.cell3; obtain ⟨f0, f1, f2⟩ := HR1.out.free3)
    go_ret2
    exact Kinded.yes 3 (congrArg Prod.fst HE.out) (by decide) hk2 (by have := congrArg Prod.snd HE.out; simp only at this; omega) (HR1.out.move (k + 1)) (HB1.out.set 1 _)
end Go.Proofs.YtjhmlmimgahnmaaDoor.s04
