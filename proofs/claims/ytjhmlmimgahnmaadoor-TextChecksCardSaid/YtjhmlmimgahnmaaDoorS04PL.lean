/-
  Layer 4, the program's side: lines and what stands between lexemes.
-/
import Derived.Test.YtjhmlmimgahnmaaDoorS04PB
import Derived.Test.YtjhmlmimgahnmaaDoorLayI
namespace Go.Proofs.YtjhmlmimgahnmaaDoor.s04
set_option linter.unusedVariables false
set_option linter.unusedSimpArgs false
open Go.RowKit
open kit

/-- how many bytes stand before the next line feed -/
def lineN (l : List UInt8) : Nat := (l.takeWhile fun c => c.toNat != 10).length
theorem index_line (l : List UInt8) : Lib.indexByte l 10 = if lineN l = l.length then -1 else (lineN l : Int) := by
  induction l with
  | nil => simp [Lib.indexByte, lineN]
  | cons c r ih =>
    unfold Lib.indexByte
    by_cases hc : c = 10
    · subst hc
      have : lineN (10 :: r) = 0 := by simp [lineN]
      rw [this]; simp
    · have hn : (c.toNat != 10) = true := by
        rw [bne_iff_ne]; intro e; exact hc (UInt8.toNat_inj.1 (by simpa using e))
      have hl : lineN (c :: r) = lineN r + 1 := by simp [lineN, List.takeWhile_cons, hn]
      rw [if_neg (by simpa using hc), ih, hl]
      by_cases h : lineN r = r.length
      · simp [h]
      · rw [if_neg h, if_neg (by simp), if_neg (by simp; omega)]
        omega
theorem line_le (l : List UInt8) : lineN l ≤ l.length := by
  unfold lineN
  exact (List.takeWhile_sublist _).length_le
def lineAt (s : ByteArray) (k : Nat) : Nat := k + lineN (s.data.toList.drop k)
theorem ext_drop (s : ByteArray) (k : Nat) : (s.extract k s.size).data.toList = s.data.toList.drop k := by
  rw [ByteArray.data_extract, Array.toList_extract, List.extract_eq_take_drop]
  rw [List.take_of_length_le (by simp)]
theorem idx_any (s : ByteArray) (v : Int) (H : Hid (Lib.indexByte s.data.toList 10 = v)) (w : World) : Calls Tryd.prog 63 #[.string s, .int .u8 10] w fun e w' => e = .returned (.int .i64 v) ∧ w' = w :=
  (Any.strings_IndexByte lay.lay137 s 10 w).mono fun e w' ⟨he, hw⟩ => ⟨by rw [he, ← H.out]; rfl, hw⟩
set_option maxRecDepth 100000 in
set_option maxHeartbeats 1000000 in
theorem passLine_any (b : Nat) (s : ByteArray) (k : Nat) (g : Int) (w : World) (hk : k ≤ s.size) (hs : s.size ≤ 9223372036854775806) (R : Hid (Rd w b s k g)) (m : Nat) (HM : Hid (m = lineAt s k)) :
    Calls Tryd.prog 53 #[.pointer (some ⟨b, 0, none⟩)] w (Moved w b s m g) := by
  obtain ⟨c0, c1, c2⟩ := R.out.cell3
  obtain ⟨f0, f1, f2⟩ := R.out.free3
  have hlen : (s.data.toList.drop k).length = s.size - k := by simp
  have hle := line_le (s.data.toList.drop k)
  have HB0 := Lib.hid (GB.refl b w)
  by_cases hf : lineN (s.data.toList.drop k) = (s.data.toList.drop k).length
  · have HI : Hid (Lib.indexByte (s.extract k s.size).data.toList 10 = -1) := Lib.hid (by rw [ext_drop, index_line, if_pos hf])
    have HE : Hid (m = s.size) := Lib.hid (by rw [HM.out]; unfold lineAt; omega)
    have HQ := Lib.hid (idx_any _ _ HI)
    clear hf hlen hle
    go_enter Tryd.func53, Tryd.ntmps53
    go_wp2
    go_quiet ((go_at_call 63; exact Calls.quiet_of_same (HQ.out _)))
    obtain ⟨n1, hn1⟩ : ∃ n, n = nq := ⟨_, rfl⟩
    rw [← hn1]
    clear hn1
    go_wp2
    go_quiet (fail)
    go_wp2
    go_end0
    refine ⟨rfl, ?_, ?_⟩
    · rw [HE.out]
      have h1 := (show Rd (w.drewN (n1 + nq)) b s k g from R.out).move s.size
      rwa [show ((s.size : Nat) : Int) = (k : Int) + ((s.size : Int) - (k : Int)) from by omega] at h1
    · exact (HB0.out.drewN (n1 + nq)).set 1 _
  · obtain ⟨n, hn⟩ : ∃ n, n = lineN (s.data.toList.drop k) := ⟨_, rfl⟩
    have hkn : k + n ≤ s.size := by omega
    have HI : Hid (Lib.indexByte (s.extract k s.size).data.toList 10 = (n : Int)) := Lib.hid (by rw [ext_drop, index_line, if_neg hf, hn])
    have HE : Hid (m = k + n) := Lib.hid (by rw [HM.out, hn]; rfl)
    have HQ := Lib.hid (idx_any _ _ HI)
    clear hf hlen hle hn
    go_enter Tryd.func53, Tryd.ntmps53
    go_wp2
    go_quiet ((go_at_call 63; exact Calls.quiet_of_same (HQ.out _)))
    go_wp2
    go_end0
    refine ⟨rfl, ?_, ?_⟩
    · rw [HE.out]
      have h1 := (show Rd (w.drewN nq) b s k g from R.out).move (k + n)
      rwa [show ((k + n : Nat) : Int) = (k : Int) + (n : Int) from by omega] at h1
    · exact (HB0.out.drewN nq).set 1 _
theorem rem_lineN (l : List UInt8) : passM true l = lineN l + passM false (l.drop (lineN l)) := by
  induction l with
  | nil => rfl
  | cons c r ih =>
    by_cases hc : c.toNat = 10
    · have h1 : lineN (c :: r) = 0 := by simp [lineN, hc]
      rw [h1]
      have h2 : blankB c.toNat = true := by rw [hc]; rfl
      show 1 + passM (c.toNat != 10) r = 0 + passM false (c :: r)
      conv => rhs; unfold passM
      rw [if_pos h2, hc]; simp
    · have h1 : lineN (c :: r) = lineN r + 1 := by simp [lineN, List.takeWhile_cons, hc]
      rw [h1, List.drop_succ_cons]
      show 1 + passM (c.toNat != 10) r = _
      rw [bne_iff_ne.2 hc, ih]; omega
theorem rem_line_at (s : ByteArray) (k : Nat) : remAt s k = passAt s (lineAt s k) := by
  unfold remAt passAt lineAt
  rw [rem_lineN, List.drop_drop]; omega
theorem lineAt_le (s : ByteArray) (k : Nat) (h : k ≤ s.size) : lineAt s k ≤ s.size := by
  unfold lineAt
  have := line_le (s.data.toList.drop k)
  have e : (s.data.toList.drop k).length = s.size - k := by simp
  omega
theorem lineAt_gt (s : ByteArray) (k : Nat) (h : k < s.size) (hr : s[k].toNat = 35) : k < lineAt s k := by
  unfold lineAt
  rw [drop_at s k h]
  have : lineN (s[k] :: s.data.toList.drop (k + 1)) = lineN (s.data.toList.drop (k + 1)) + 1 := by simp [lineN, List.takeWhile_cons, hr]
  omega
theorem cls_blank {n : Nat} (h : blankB n = true) : clsB n = 1 := by
  unfold blankB at h
  have := of_decide_eq_true h
  rcases this with rfl | rfl | rfl | rfl <;> rfl
theorem cls_other {n : Nat} (h : blankB n = false) (h35 : n ≠ 35) : clsB n ≠ 1 ∧ clsB n ≠ 2 ∧ clsB n ≠ 0 := by
  unfold clsB
  rw [h, if_neg (by decide : ¬ (false = true))]
  rw [if_neg h35]
  (repeat' split) <;> simp
set_option maxRecDepth 100000 in
set_option maxHeartbeats 1000000 in
theorem passBetween_any (b : Nat) (s : ByteArray) (k0 : Nat) (g : Int) (w : World) (hk0 : k0 ≤ s.size) (hs : s.size ≤ 9223372036854775806) (R : Hid (Rd w b s k0 g)) (m : Nat) (HM : Hid (m = passAt s k0)) :
    Calls Tryd.prog 44 #[.pointer (some ⟨b, 0, none⟩)] w (Moved w b s m g) := by
  have HB0 := Lib.hid (GB.refl b w)
  go_enter Tryd.func44, Tryd.ntmps44
  go_wp2
  go_loopg [] (s.size - k0) (fun kx wr => ∃ k : Nat, k ≤ s.size ∧ s.size - k ≤ kx ∧ Hid (m = passAt s k) ∧ Hid (Rd wr b s k g) ∧ Hid (GB b w wr))
  case atStart => exact ⟨k0, hk0, Nat.le_refl _, HM, R, HB0⟩
  case round =>
    obtain ⟨k, hk, hkx, HK, HR, HB⟩ := hrel
    obtain ⟨c, hc⟩ : ∃ c, c = clsAt s k := ⟨_, rfl⟩
    have HC := Lib.hid hc
    by_cases hlt : k < s.size
    · cases hbl : blankB s[k].toNat
      · by_cases h35 : s[k].toNat = 35
        · have h2 : c = 2 := by rw [hc, cls_in hlt, h35]; rfl
          have HE : Hid (m = passAt s (lineAt s k)) := Lib.hid (by rw [HK.out, pass_remark hlt h35, rem_line_at])
          have hgt := lineAt_gt s k hlt h35
          have hle := lineAt_le s k hk
          obtain ⟨k', hk'⟩ : ∃ k', k' = lineAt s k := ⟨_, rfl⟩
          rw [← hk'] at HE hgt hle
          have HK' := Lib.hid hk'
          clear hbl h35 hc hk'
          subst h2
          go_wp2_with (first
            | (go_at_call 52; refine (here_any b s k g _ hk hs HR).mono ?_; rintro e w1 ⟨rfl, hB1⟩; rw [← HC.out]; have HR1 := Lib.hid (HR.out.below hB1); have HB1 := Lib.hid (HB.out.then hB1); clear hB1)
            | (go_at_call 53; refine (passLine_any b s k g _ hk hs HR1 k' HK').mono ?_; rintro e w2 ⟨rfl, hR2, hB2⟩; have HR2 := Lib.hid hR2; have HB2 := Lib.hid (HB1.out.trans hB2); clear hR2 hB2))
          go_roundg (s.size - k')
          case measure => omega
          case rel => exact ⟨k', hle, Nat.le_refl _, HE, HR2, HB2⟩
        · obtain ⟨n1, n2, _⟩ := cls_other hbl h35
          rw [← cls_in hlt, ← hc] at n1 n2
          have t1 : ((c : Int) == 1) = false := by rw [beq_eq_false_iff_ne]; omega
          have t2 : ((c : Int) == 2) = false := by rw [beq_eq_false_iff_ne]; omega
          have HE : Hid (m = k) := Lib.hid (by rw [HK.out, pass_other hlt hbl h35])
          clear hbl h35 hc n1 n2
          go_wp2_with (go_at_call 52; refine (here_any b s k g _ hk hs HR).mono ?_; rintro e w1 ⟨rfl, hB1⟩; rw [← HC.out]; have HR1 := Lib.hid (HR.out.below hB1); have HB1 := Lib.hid (HB.out.then hB1); clear hB1)
          go_end0
          exact ⟨rfl, by rw [HE.out]; exact HR1.out, HB1.out⟩
      · have h1 : c = 1 := by rw [hc, cls_in hlt, cls_blank hbl]
        have HE : Hid (m = passAt s (k + 1)) := Lib.hid (by rw [HK.out, pass_blank hlt hbl])
        clear hbl hc
        subst h1
        go_wp2_with (go_at_call 52; refine (here_any b s k g _ hk hs HR).mono ?_; rintro e w1 ⟨rfl, hB1⟩; rw [← HC.out]; have HR1 := Lib.hid (HR.out.below hB1); have HB1 := Lib.hid (HB.out.then hB1); clear hB1; obtain ⟨d0, d1, d2⟩ := HR1.out.cell3; obtain ⟨f0, f1, f2⟩ := HR1.out.free3)
        have HR2 := Lib.hid (HR1.out.move (k + 1))
        go_roundg (s.size - (k + 1))
        case measure => omega
        case rel => exact ⟨k + 1, by omega, Nat.le_refl _, HE, HR2, Lib.hid (HB1.out.set 1 _)⟩
    · have h0 : c = 0 := by rw [hc, cls_out (by omega)]
      have HE : Hid (m = k) := Lib.hid (by rw [HK.out, pass_end (by omega)])
      clear hc
      subst h0
      go_wp2_with (go_at_call 52; refine (here_any b s k g _ hk hs HR).mono ?_; rintro e w1 ⟨rfl, hB1⟩; rw [← HC.out]; have HR1 := Lib.hid (HR.out.below hB1); have HB1 := Lib.hid (HB.out.then hB1); clear hB1)
      go_end0
      exact ⟨rfl, by rw [HE.out]; exact HR1.out, HB1.out⟩
end Go.Proofs.YtjhmlmimgahnmaaDoor.s04
