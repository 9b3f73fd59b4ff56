/-
  Layer 5: CodecWhole's contract.
-/
import Derived.Test.YtkepnjnindolbaaS05ZJ
import Derived.Test.YtkepnjnindolbaaS05ZG
namespace Go.Proofs.Ytkepnjnindolbaa.s05
set_option linter.unusedVariables false
set_option linter.unusedSimpArgs false
open Go.RowKit
open kit

theorem km20w : cntw ⟨#[]⟩ 20000 0 = (⟨#[]⟩, 20000, 0) := by kernel_rfl
theorem kb1 (s : ByteArray) (m : Int) (hs : s.size ≤ 9223372036854775807) (K : ∀ l, Hid (addR s m 4 l = (s, m, 4))) (w : World) :
    Calls Try.prog 34 #[.agg #[.string s, .int .i64 m, .int .i64 4], .int .u64 0] w fun en w' => en = .returned (.agg #[.string s, .int .i64 m, .int .i64 4]) ∧ Below w.heap.size w w' :=
  pput_any s m 4 0 hs (by omega) (by omega) s m 4 (K _) w
theorem kb2 (s : ByteArray) (m : Int) (hs : s.size ≤ 9223372036854775807) (K : ∀ l, Hid (addR s m 4 l = (s, m, 4))) (a : Option Addr) (c : Nat) (w : World) (hr : ReadsS w a [⟨#[]⟩]) :
    Calls Try.prog 36 #[.agg #[.string s, .int .i64 m, .int .i64 4], .slice a 1 c] w fun en w' => en = .returned (.agg #[.string s, .int .i64 m, .int .i64 4]) ∧ Below w.heap.size w w' :=
  pputs_any s m 4 a c [⟨#[]⟩] hs (by simp) (Lib.hid (by intro x hx; simp at hx; subst hx; decide)) s m 4 (K _) w (Lib.hid hr)
theorem kb3 (s : ByteArray) (m : Int) (hs : s.size ≤ 9223372036854775807) (K : ∀ l, Hid (addR s m 4 l = (s, m, 4))) (w : World) :
    Calls Try.prog 38 #[.agg #[.string s, .int .i64 m, .int .i64 4], .slice none 0 0] w fun en w' => en = .returned (.agg #[.string s, .int .i64 m, .int .i64 4]) ∧ Below w.heap.size w w' :=
  pputi_any s m 4 none 0 [] hs (by simp) (Lib.hid (by simp)) s m 4 (K _) w (Lib.hid (Reads.nil _ _))
theorem kb4 (s : ByteArray) (m : Int) (hs : s.size ≤ 9223372036854775807) (K : ∀ l, Hid (addR s m 4 l = (s, m, 4))) (w : World) :
    Calls Try.prog 40 #[.agg #[.string s, .int .i64 m, .int .i64 4], .string ⟨#[]⟩] w fun en w' => en = .returned (.agg #[.string s, .int .i64 m, .int .i64 4]) ∧ Below w.heap.size w w' :=
  padd_any s m 4 ⟨#[]⟩ hs (by decide) s m 4 (K _) w
theorem two_c {W : World} {t : TypeId} {b b' : Nat} {x0 x1 x2 y0 y1 y2 : Value} (h : Box W t b #[x0, x1, x2]) (k : Box W t b' #[y0, y1, y2]) :
    W.cell? ⟨b, 0, none⟩ = some x0 ∧ W.cell? ⟨b, 1, none⟩ = some x1 ∧ W.cell? ⟨b, 2, none⟩ = some x2 ∧ W.cell? ⟨b', 0, none⟩ = some y0 ∧ W.cell? ⟨b', 1, none⟩ = some y1 ∧ W.cell? ⟨b', 2, none⟩ = some y2 :=
  ⟨h.cell 0, h.cell 1, h.cell 2, k.cell 0, k.cell 1, k.cell 2⟩
/-- how the reader stands before string k -/
def WInv (ts : List ByteArray) (c n : Nat) (k : Nat) (p e o : Int) : Prop :=
  (e = 0 ∧ o = 0 ∧ p = ((encS (ts.take k)).length : Int) ∧ p ≤ c) ∨ (e = 5 ∧ 0 ≤ p ∧ p ≤ c ∧ 0 ≤ o ∧ o ≤ c ∧ c < n)
set_option maxRecDepth 100000 in
set_option maxHeartbeats 4000000 in
theorem whole_any (a0 : Option Addr) (cap0 : Nat) (ts : List ByteArray) (n : Int) (w : World) (hl0 : ts.length ≤ 9223372036854775807) (i1 : -9223372036854775808 ≤ n) (i2 : n ≤ 9223372036854775807)
    (HZ : Hid (∀ x ∈ ts, x.size ≤ 9223372036854775807)) (RT : Hid (ReadsS w a0 ts)) :
    Calls Try.prog 8 #[.slice a0 ts.length cap0, .int .i64 n] w fun en w' => en = .returned (.bool true) ∧ Below w.heap.size w w' := by
  by_cases h1 : 6 < ts.length
  · go_enter Try.func8, Try.ntmps8
    go_wp2_with (go_at_call 6; refine (cknown_any _).mono ?_; rintro e w9 ⟨rfl, hB9⟩; have B9 := Lib.hid hB9; clear hB9)
    go_ret
    exact ⟨rfl, B9.out⟩
  have h1' : ts.length ≤ 6 := by omega
  cases hb : shortB ts 20
  · have HB := Lib.hid hb
    clear hb
    go_enter Try.func8, Try.ntmps8
    go_wp2_with (first
      | (go_at_call 6; refine (cknown_any _).mono ?_; rintro e w9 ⟨rfl, hB9⟩; have B9 := Lib.hid hB9; clear hB9)
      | (go_at_call 27; refine (short_any a0 cap0 20 ts _ hl0 (by omega) HZ.out (RT.out.below B9.out)).mono ?_; rintro e w8 ⟨rfl, rfl⟩; rw [HB.out]))
    go_ret
    exact ⟨rfl, B9.out⟩
  · have hsm := short_mem hb
    have HSM := Lib.hid hsm
    have hel := encS_len 20 ts hsm (by omega)
    have htot : (encS ts).length ≤ 200 := by have : ts.length * (20 + 10) ≤ 6 * (20 + 10) := Nat.mul_le_mul_right _ h1'; omega
    have HB := Lib.hid hb
    obtain ⟨S, hS⟩ : ∃ S : ByteArray, S = ⟨(encS ts).toArray⟩ := ⟨_, rfl⟩
    have hSz : S.size = (encS ts).length := by rw [hS, ba_size]
    have hSl : S.data.toList = encS ts := by rw [hS]
    have hS2 : S.size ≤ 20000 := by omega
    have hS3 : S.size ≤ 9223372036854775807 := by omega
    have hSm : S.size ≤ 200 := by omega
    have K1 : Hid (addR ⟨#[]⟩ 20000 0 (encS ts) = (S, 20000, 0)) := Lib.hid (by rw [hS]; exact add_ok (A := []) (by simp; omega))
    have K2 : Hid (doneW S 20000 0 = (S, 0)) := Lib.hid (by rw [hS]; exact done_ok (by omega))
    have hm0 : 0 ≤ n % ((S.size : Int) + 1) := Int.emod_nonneg _ (by omega)
    have hm1 : n % ((S.size : Int) + 1) < (S.size : Int) + 1 := Int.emod_lt_of_pos _ (by omega)
    obtain ⟨c, hc⟩ := Int.eq_ofNat_of_zero_le hm0
    have hcs : c ≤ S.size := by omega
    have HC := Lib.hid hc
    have hcz := cut_size hcs
    have K3 : Hid (cnt (S.extract 0 c) 0 0 0 = (S.extract 0 c, 0, 0, 0)) := Lib.hid (cnt_of (by omega) (by omega) (by omega))
    have hcz2 : (S.extract 0 c).size ≤ 9223372036854775807 := by omega
    have K4 : Hid (cntw ⟨#[]⟩ S.size 0 = (⟨#[]⟩, (S.size : Int), 0)) := Lib.hid (mk_full S hS2)
    have K5 : Hid (addR ⟨#[]⟩ S.size 0 S.data.toList = (S, (S.size : Int), 0)) := Lib.hid (add_full S hS2)
    have K6 : Hid (addR S S.size 0 (⟨#[120]⟩ : ByteArray).data.toList = (S, (S.size : Int), 4)) := Lib.hid (add_over S hS2 _ (by decide))
    have K7 : ∀ l, Hid (addR S S.size 4 l = (S, (S.size : Int), 4)) := fun l => Lib.hid (add_bad S hS2 l)
    have HSL := Lib.hid hSl
    have HSZ := Lib.hid hSz
    clear hb hsm hel htot hS hSz hSl hm0 hm1 hc hcz
    go_enter Try.func8, Try.ntmps8
    go_wp2_with (first
      | (go_at_call 6; refine (cknown_any _).mono ?_; rintro e w1 ⟨rfl, hB⟩; have B1 := Lib.hid hB; clear hB)
      | (go_at_call 27; refine (short_any a0 cap0 20 ts _ hl0 (by omega) HZ.out (RT.out.below B1.out)).mono ?_; rintro e w9 ⟨rfl, rfl⟩; rw [HB.out])
      | (go_at_call 32; refine (pmake_any 20000 ⟨#[]⟩ 20000 0 (Lib.hid km20w) _).mono ?_; rintro en w2 ⟨rfl, hB⟩; have B2 := Lib.hid (below_then B1.out hB); clear hB)
      | (go_at_call 36; refine (pputs_any ⟨#[]⟩ 20000 0 a0 cap0 ts (by decide) (by omega) HZ S 20000 0 K1 _ (Lib.hid (RT.out.below B2.out))).mono ?_; rintro en w3 ⟨rfl, hB⟩; have B3 := Lib.hid (below_then B2.out hB); clear hB)
      | (go_at_call 30; refine (pdone_any S 20000 0 hS3 S 0 K2 _).mono ?_; rintro en w4 ⟨rfl, hB⟩; have B4 := Lib.hid (below_then B3.out hB); clear hB)
      | (go_at_call 46; refine (mod_any n ((S.size : Int) + 1) i1 i2 (by omega) (by omega) _).mono ?_; rintro en w9 ⟨rfl, rfl⟩; rw [HC.out])
      | (go_at_call 25; refine (pread_any (S.extract 0 c) hcz2 (S.extract 0 c) 0 0 0 K3 _).mono ?_; rintro en w5 ⟨rfl, hB⟩; have B5 := Lib.hid (below_then B4.out hB); clear hB; have hw5 := B5.out.size))
    go_loopw [9] (fun i wr => ∃ (k : Nat) (p e o : Int), k ≤ ts.length ∧ i = .int .i64 k ∧ Hid (Box wr 26 w5.heap.size #[.string (S.extract 0 c), .int .i64 p, .int .i64 e, .int .i64 o]) ∧ Hid (Below w.heap.size w wr) ∧ Hid (WInv ts c S.size k p e o)) (fun i _ => ts.length - (intOf i).toNat)
    case atStart => exact ⟨0, 0, 0, 0, by omega, rfl, Lib.hid (Box.new _ _ _), Lib.hid (B5.out.alloc B5.out.size _), Lib.hid (.inl ⟨rfl, rfl, by rw [List.take_zero, encS_nil]; rfl, by omega⟩)⟩
    case round =>
      obtain ⟨k, p, e, o, hk, rfl, R, B, I⟩ := hrel
      by_cases hlt : k < ts.length
      · obtain ⟨b, off, rfl, hb, hcl⟩ := RT.out.below B.out k hlt
        have hz := HSM.out _ (mem_getS ts k hlt)
        have hsn := congrArg List.length (encS_snoc ts k hlt)
        rw [List.length_append] at hsn
        rcases I.out with ⟨rfl, rfl, hp, hpc⟩ | ⟨rfl, q1, q2, q3, q4, q5⟩
        · by_cases hf : (encS (ts.take (k + 1))).length ≤ c
          · have hW := whole_fit HSL.out hlt hf hcs hS2 hz
            rw [← hp] at hW
            have hpp : p ≤ ((encS (ts.take (k + 1))).length : Int) := by omega
            have hpc' : ((encS (ts.take (k + 1))).length : Int) ≤ c := by omega
            generalize hP : ((encS (ts.take (k + 1))).length : Int) = p' at hW hpp hpc'
            generalize ts[k]?.getD ByteArray.empty = t at hcl hz hW hsn
            have HI : Hid (WInv ts c S.size (k + 1) p' 0 0) := Lib.hid (.inl ⟨rfl, rfl, hP.symm, hpc'⟩)
            have HW := Lib.hid hW
            clear hW hP hp hf hz hsn I
            have g1 : decide (p' < p) = false := by rw [decide_eq_false_iff_not]; omega
            obtain ⟨c0, c1, c2, c3⟩ := R.out.c4
            go_wp2_with (go_at_call 14; refine (pstring_any (S.extract 0 c) p 0 0 20 hcz2 (by omega) (by omega) (S.extract 0 c) p' 0 0 t HW _).mono ?_; rintro en wa ⟨rfl, hB⟩; have hc2 := hB.cell (p := ⟨b, off + k, none⟩) hb; rw [hcl] at hc2; have R3 := Lib.hid (R.out.below hB); have B3' := Lib.hid (below_then B.out hB); clear hB c0 c1 c2 c3)
            obtain ⟨W, hW⟩ : ∃ W : World, W = wa.alloc (.cells #[.string (S.extract 0 c), .int .i64 p', .int .i64 0, .int .i64 0] 26) := ⟨_, rfl⟩
            rw [← hW]
            have hne : w5.heap.size ≠ wa.heap.size := Nat.ne_of_lt R3.out.lt
            have RW : Box W 26 w5.heap.size #[.string (S.extract 0 c), .int .i64 p, .int .i64 0, .int .i64 0] := by rw [hW]; exact R3.out.alloc _
            have NW : Box W 26 wa.heap.size #[.string (S.extract 0 c), .int .i64 p', .int .i64 0, .int .i64 0] := by rw [hW]; exact Box.new _ _ _
            have BW : Below w.heap.size w W := by rw [hW]; exact B3'.out.alloc B3'.out.size _
            have EW : W.cell? ⟨b, off + k, none⟩ = some (.string t) := by rw [hW]; exact (((Below.refl wa.heap.size wa).alloc (Nat.le_refl _) _).cell (p := ⟨b, off + k, none⟩) (cell_lt hc2)).trans hc2
            clear hW hc2
            have z1 : ∀ p9 : Later W, p9.W.cell? ⟨w5.heap.size, 1, none⟩ = some (.int .i64 p) := fun p9 => p9.cell RW.c4.2.1 RW.lt
            have x0 : ∀ p9 : Later W, p9.W.cell? ⟨wa.heap.size, 0, none⟩ = some (.string (S.extract 0 c)) := fun p9 => p9.cell NW.c4.1 NW.lt
            have x1 : ∀ p9 : Later W, p9.W.cell? ⟨wa.heap.size, 1, none⟩ = some (.int .i64 p') := fun p9 => p9.cell NW.c4.2.1 NW.lt
            refine wp_region_later (by kernel_rfl) (by kernel_rfl) ?_
            repeat (go_big_quiet_step (fail))
            refine wpQuiet_nil ?_
            intro _ hw'
            obtain ⟨p6, hw''⟩ := hw'
            subst hw''
            have R6 := Lib.hid (RW.below p6.h)
            have N6 := Lib.hid (NW.below p6.h)
            have B6 := Lib.hid (below_then BW p6.h)
            have E6 := p6.cell EW (cell_lt EW)
            generalize p6.W = W6 at R6 N6 B6 E6 ⊢
            clear z1 x0 x1 RW NW BW EW
            have lr := R6.out.lt
            have ln := N6.out.lt
            obtain ⟨c0, c1, c2, c3⟩ := R6.out.c4
            obtain ⟨f0, f1, f2, f3⟩ := R6.out.f4
            obtain ⟨d0, d1, d2, d3⟩ := N6.out.c4
            go_wp2
            go_roundw
            case rel => exact ⟨k + 1, p', 0, 0, by omega, by go_num, Lib.hid (R6.out.set4 (.string (S.extract 0 c)) (.int .i64 p') (.int .i64 0) (.int .i64 0)), Lib.hid (Below.set4 B6.out _ hw5 _ _ _ _), HI⟩
            case measure => simp [intOf]; omega
          · obtain ⟨o', u1, u2, hW⟩ := whole_cut HSL.out hlt (by omega) (by omega) hcs hS2 hz
            rw [← hp] at hW
            have hcS : c < S.size := by
              have h8 := encS_len_mono ts (k + 1)
              rw [← HSZ.out] at h8
              omega
            have HI : Hid (WInv ts c S.size (k + 1) p 5 o') := Lib.hid (.inr ⟨rfl, by omega, hpc, u1, u2, hcS⟩)
            generalize ts[k]?.getD ByteArray.empty = t at hcl hz hsn
            have HW := Lib.hid hW
            clear hW hp hf hz hsn I hcS
            obtain ⟨c0, c1, c2, c3⟩ := R.out.c4
            go_wp2_with (go_at_call 14; refine (pstring_any (S.extract 0 c) p 0 0 20 hcz2 (by omega) (by omega) (S.extract 0 c) p 5 o' ⟨#[]⟩ HW _).mono ?_; rintro en wa ⟨rfl, hB⟩; have hc2 := hB.cell (p := ⟨b, off + k, none⟩) hb; rw [hcl] at hc2; have R3 := Lib.hid (R.out.below hB); have B3' := Lib.hid (below_then B.out hB); clear hB c0 c1 c2 c3)
            obtain ⟨W, hW⟩ : ∃ W : World, W = wa.alloc (.cells #[.string (S.extract 0 c), .int .i64 p, .int .i64 5, .int .i64 o'] 26) := ⟨_, rfl⟩
            rw [← hW]
            have hne : w5.heap.size ≠ wa.heap.size := Nat.ne_of_lt R3.out.lt
            have RW : Box W 26 w5.heap.size #[.string (S.extract 0 c), .int .i64 p, .int .i64 0, .int .i64 0] := by rw [hW]; exact R3.out.alloc _
            have NW : Box W 26 wa.heap.size #[.string (S.extract 0 c), .int .i64 p, .int .i64 5, .int .i64 o'] := by rw [hW]; exact Box.new _ _ _
            have BW : Below w.heap.size w W := by rw [hW]; exact B3'.out.alloc B3'.out.size _
            have EW : W.cell? ⟨b, off + k, none⟩ = some (.string t) := by rw [hW]; exact (((Below.refl wa.heap.size wa).alloc (Nat.le_refl _) _).cell (p := ⟨b, off + k, none⟩) (cell_lt hc2)).trans hc2
            clear hW hc2
            have z1 : ∀ p9 : Later W, p9.W.cell? ⟨w5.heap.size, 1, none⟩ = some (.int .i64 p) := fun p9 => p9.cell RW.c4.2.1 RW.lt
            have x0 : ∀ p9 : Later W, p9.W.cell? ⟨wa.heap.size, 0, none⟩ = some (.string (S.extract 0 c)) := fun p9 => p9.cell NW.c4.1 NW.lt
            have x1 : ∀ p9 : Later W, p9.W.cell? ⟨wa.heap.size, 1, none⟩ = some (.int .i64 p) := fun p9 => p9.cell NW.c4.2.1 NW.lt
            refine wp_region_later (by kernel_rfl) (by kernel_rfl) ?_
            repeat (go_big_quiet_step (fail))
            refine wpQuiet_nil ?_
            intro _ hw'
            obtain ⟨p6, hw''⟩ := hw'
            subst hw''
            have R6 := Lib.hid (RW.below p6.h)
            have N6 := Lib.hid (NW.below p6.h)
            have B6 := Lib.hid (below_then BW p6.h)
            have E6 := p6.cell EW (cell_lt EW)
            generalize p6.W = W6 at R6 N6 B6 E6 ⊢
            clear z1 x0 x1 RW NW BW EW
            have lr := R6.out.lt
            have ln := N6.out.lt
            obtain ⟨c0, c1, c2, c3⟩ := R6.out.c4
            obtain ⟨f0, f1, f2, f3⟩ := R6.out.f4
            obtain ⟨d0, d1, d2, d3⟩ := N6.out.c4
            go_wp2
            go_roundw
            case rel => exact ⟨k + 1, p, 5, o', by omega, by go_num, Lib.hid (R6.out.set4 (.string (S.extract 0 c)) (.int .i64 p) (.int .i64 5) (.int .i64 o')), Lib.hid (Below.set4 B6.out _ hw5 _ _ _ _), HI⟩
            case measure => simp [intOf]; omega
        · have hW := whole_stay hcs hS2 q1 q2 q3 q4
          have HI : Hid (WInv ts c S.size (k + 1) p 5 o) := Lib.hid (.inr ⟨rfl, q1, q2, q3, q4, q5⟩)
          generalize ts[k]?.getD ByteArray.empty = t at hcl hz hsn
          have HW := Lib.hid hW
          clear hW hz hsn I q5
          obtain ⟨c0, c1, c2, c3⟩ := R.out.c4
          go_wp2_with (go_at_call 14; refine (pstring_any (S.extract 0 c) p 5 o 20 hcz2 (by omega) (by omega) (S.extract 0 c) p 5 o ⟨#[]⟩ HW _).mono ?_; rintro en wa ⟨rfl, hB⟩; have hc2 := hB.cell (p := ⟨b, off + k, none⟩) hb; rw [hcl] at hc2; have R3 := Lib.hid (R.out.below hB); have B3' := Lib.hid (below_then B.out hB); clear hB c0 c1 c2 c3)
          obtain ⟨W, hW⟩ : ∃ W : World, W = wa.alloc (.cells #[.string (S.extract 0 c), .int .i64 p, .int .i64 5, .int .i64 o] 26) := ⟨_, rfl⟩
          rw [← hW]
          have hne : w5.heap.size ≠ wa.heap.size := Nat.ne_of_lt R3.out.lt
          have RW : Box W 26 w5.heap.size #[.string (S.extract 0 c), .int .i64 p, .int .i64 5, .int .i64 o] := by rw [hW]; exact R3.out.alloc _
          have NW : Box W 26 wa.heap.size #[.string (S.extract 0 c), .int .i64 p, .int .i64 5, .int .i64 o] := by rw [hW]; exact Box.new _ _ _
          have BW : Below w.heap.size w W := by rw [hW]; exact B3'.out.alloc B3'.out.size _
          have EW : W.cell? ⟨b, off + k, none⟩ = some (.string t) := by rw [hW]; exact (((Below.refl wa.heap.size wa).alloc (Nat.le_refl _) _).cell (p := ⟨b, off + k, none⟩) (cell_lt hc2)).trans hc2
          clear hW hc2
          have z1 : ∀ p9 : Later W, p9.W.cell? ⟨w5.heap.size, 1, none⟩ = some (.int .i64 p) := fun p9 => p9.cell RW.c4.2.1 RW.lt
          have x0 : ∀ p9 : Later W, p9.W.cell? ⟨wa.heap.size, 0, none⟩ = some (.string (S.extract 0 c)) := fun p9 => p9.cell NW.c4.1 NW.lt
          have x1 : ∀ p9 : Later W, p9.W.cell? ⟨wa.heap.size, 1, none⟩ = some (.int .i64 p) := fun p9 => p9.cell NW.c4.2.1 NW.lt
          refine wp_region_later (by kernel_rfl) (by kernel_rfl) ?_
          repeat (go_big_quiet_step (fail))
          refine wpQuiet_nil ?_
          intro _ hw'
          obtain ⟨p6, hw''⟩ := hw'
          subst hw''
          have R6 := Lib.hid (RW.below p6.h)
          have N6 := Lib.hid (NW.below p6.h)
          have B6 := Lib.hid (below_then BW p6.h)
          have E6 := p6.cell EW (cell_lt EW)
          generalize p6.W = W6 at R6 N6 B6 E6 ⊢
          clear z1 x0 x1 RW NW BW EW
          have lr := R6.out.lt
          have ln := N6.out.lt
          obtain ⟨c0, c1, c2, c3⟩ := R6.out.c4
          obtain ⟨f0, f1, f2, f3⟩ := R6.out.f4
          obtain ⟨d0, d1, d2, d3⟩ := N6.out.c4
          go_wp2
          go_roundw
          case rel => exact ⟨k + 1, p, 5, o, by omega, by go_num, R6, B6, HI⟩
          case measure => simp [intOf]; omega
      · have hkk : k = ts.length := by omega
        subst hkk
        rcases I.out with ⟨rfl, rfl, hp, hpc⟩ | ⟨rfl, q1, q2, q3, q4, q5⟩
        · rw [List.take_length] at hp
          obtain rfl : c = S.size := by have := HSZ.out; omega
          clear hp hpc I
          obtain ⟨c0, c1, c2, c3⟩ := R.out.c4
          have lr := R.out.lt
          go_wp2_with (first
            | (go_at_call 32; refine (pmake_any S.size ⟨#[]⟩ S.size 0 K4 _).mono ?_; rintro en w6 ⟨rfl, hB⟩; clear c0 c1 c2 c3 lr; have B6 := Lib.hid (below_then B.out hB); clear hB)
            | (go_at_call 40; refine (padd_any ⟨#[]⟩ S.size 0 S (by decide) hS3 S S.size 0 K5 _).mono ?_; rintro en w7 ⟨rfl, hB⟩; have B7 := Lib.hid (below_then B6.out hB); clear hB; have F7 := Lib.hid (Box.new _ 45 #[.string S, .int .i64 S.size, .int .i64 0] : Box (World.alloc w7 (.cells #[.string S, .int .i64 S.size, .int .i64 0] 45)) _ _ _); have B7' := Lib.hid (B7.out.alloc B7.out.size (.cells #[.string S, .int .i64 S.size, .int .i64 0] 45)))
            | (go_at_call 40; refine (padd_any S S.size 0 ⟨#[120]⟩ hS3 (by decide) S S.size 4 K6 _).mono ?_; rintro en w8 ⟨rfl, hB⟩; have F8 := Lib.hid (F7.out.below hB); have B8 := Lib.hid (below_then B7'.out hB); clear hB))
          obtain ⟨W, hW⟩ : ∃ W : World, W = w8.alloc (.cells #[.string S, .int .i64 S.size, .int .i64 4] 45) := ⟨_, rfl⟩
          rw [← hW]
          have F2 : Hid (Box W.drew 45 w7.heap.size #[.string S, .int .i64 S.size, .int .i64 0]) := Lib.hid (by rw [hW]; exact F8.out.alloc _)
          have X2 : Hid (Box W.drew 45 w8.heap.size #[.string S, .int .i64 S.size, .int .i64 4]) := Lib.hid (by rw [hW]; exact Box.new _ _ _)
          have B2 : Hid (Below w.heap.size w W.drew) := Lib.hid (by rw [hW]; exact (B8.out.alloc B8.out.size _).drew)
          clear hW
          have g0 := two_c F2.out X2.out
          go_region_held3 (fun w' => w'.cell? ⟨w7.heap.size, 0, none⟩ = some (.string S) ∧ w'.cell? ⟨w7.heap.size, 1, none⟩ = some (.int .i64 S.size) ∧ w'.cell? ⟨w7.heap.size, 2, none⟩ = some (.int .i64 0) ∧ w'.cell? ⟨w8.heap.size, 0, none⟩ = some (.string S) ∧ w'.cell? ⟨w8.heap.size, 1, none⟩ = some (.int .i64 S.size) ∧ w'.cell? ⟨w8.heap.size, 2, none⟩ = some (.int .i64 4))
            (first
              | with_reducible exact g0
              | with_reducible exact two_c F3.out X3.out
              | with_reducible exact two_c (F3.out.alloc _) (X3.out.alloc _)
              | with_reducible exact two_c F4.out X4.out
              | with_reducible exact two_c F5.out X5.out
              | with_reducible exact two_c F6.out X6.out)
            (first
              | (go_at_call 34; refine (kb1 S S.size hS3 K7 _).mono ?_; rintro en w9 ⟨rfl, hB⟩; have F3 := Lib.hid (F2.out.below hB); have X3 := Lib.hid (X2.out.below hB); have B3 := Lib.hid (below_then B2.out hB); have Q3 := Lib.hid (Box.new w9 9 #[.string ⟨#[]⟩]); clear hB)
              | (go_at_call 36; refine (kb2 S S.size hS3 K7 _ 1 _ (reads_one _ w9.heap.size _ Q3.out.c1)).mono ?_; rintro en w10 ⟨rfl, hB⟩; have F4 := Lib.hid ((F3.out.alloc _).below hB); have X4 := Lib.hid ((X3.out.alloc _).below hB); have B4 := Lib.hid (below_then (B3.out.alloc B3.out.size _) hB); clear hB)
              | (go_at_call 38; refine (kb3 S S.size hS3 K7 _).mono ?_; rintro en w11 ⟨rfl, hB⟩; have F5 := Lib.hid (F4.out.below hB); have X5 := Lib.hid (X4.out.below hB); have B5 := Lib.hid (below_then B4.out hB); clear hB)
              | (go_at_call 40; refine (kb4 S S.size hS3 K7 _).mono ?_; rintro en w12 ⟨rfl, hB⟩; have F6 := Lib.hid (F5.out.below hB); have X6 := Lib.hid (X5.out.below hB); have B6 := Lib.hid (below_then B5.out hB); clear hB))
          go_wp2
          go_ret
          exact ⟨rfl, B6.out⟩
        · have g2 : decide ((c : Int) = (S.size : Int)) = false := by rw [decide_eq_false_iff_not]; omega
          clear I
          obtain ⟨c0, c1, c2, c3⟩ := R.out.c4
          have lr := R.out.lt
          go_wp2_with (first
            | (go_at_call 32; refine (pmake_any S.size ⟨#[]⟩ S.size 0 K4 _).mono ?_; rintro en w6 ⟨rfl, hB⟩; clear c0 c1 c2 c3 lr; have B6 := Lib.hid (below_then B.out hB); clear hB)
            | (go_at_call 40; refine (padd_any ⟨#[]⟩ S.size 0 S (by decide) hS3 S S.size 0 K5 _).mono ?_; rintro en w7 ⟨rfl, hB⟩; have B7 := Lib.hid (below_then B6.out hB); clear hB; have F7 := Lib.hid (Box.new _ 45 #[.string S, .int .i64 S.size, .int .i64 0] : Box (World.alloc w7 (.cells #[.string S, .int .i64 S.size, .int .i64 0] 45)) _ _ _); have B7' := Lib.hid (B7.out.alloc B7.out.size (.cells #[.string S, .int .i64 S.size, .int .i64 0] 45)))
            | (go_at_call 40; refine (padd_any S S.size 0 ⟨#[120]⟩ hS3 (by decide) S S.size 4 K6 _).mono ?_; rintro en w8 ⟨rfl, hB⟩; have F8 := Lib.hid (F7.out.below hB); have B8 := Lib.hid (below_then B7'.out hB); clear hB))
          obtain ⟨W, hW⟩ : ∃ W : World, W = w8.alloc (.cells #[.string S, .int .i64 S.size, .int .i64 4] 45) := ⟨_, rfl⟩
          rw [← hW]
          have F2 : Hid (Box W.drew 45 w7.heap.size #[.string S, .int .i64 S.size, .int .i64 0]) := Lib.hid (by rw [hW]; exact F8.out.alloc _)
          have X2 : Hid (Box W.drew 45 w8.heap.size #[.string S, .int .i64 S.size, .int .i64 4]) := Lib.hid (by rw [hW]; exact Box.new _ _ _)
          have B2 : Hid (Below w.heap.size w W.drew) := Lib.hid (by rw [hW]; exact (B8.out.alloc B8.out.size _).drew)
          clear hW
          have g0 := two_c F2.out X2.out
          go_region_held3 (fun w' => w'.cell? ⟨w7.heap.size, 0, none⟩ = some (.string S) ∧ w'.cell? ⟨w7.heap.size, 1, none⟩ = some (.int .i64 S.size) ∧ w'.cell? ⟨w7.heap.size, 2, none⟩ = some (.int .i64 0) ∧ w'.cell? ⟨w8.heap.size, 0, none⟩ = some (.string S) ∧ w'.cell? ⟨w8.heap.size, 1, none⟩ = some (.int .i64 S.size) ∧ w'.cell? ⟨w8.heap.size, 2, none⟩ = some (.int .i64 4))
            (first
              | with_reducible exact g0
              | with_reducible exact two_c F3.out X3.out
              | with_reducible exact two_c (F3.out.alloc _) (X3.out.alloc _)
              | with_reducible exact two_c F4.out X4.out
              | with_reducible exact two_c F5.out X5.out
              | with_reducible exact two_c F6.out X6.out)
            (first
              | (go_at_call 34; refine (kb1 S S.size hS3 K7 _).mono ?_; rintro en w9 ⟨rfl, hB⟩; have F3 := Lib.hid (F2.out.below hB); have X3 := Lib.hid (X2.out.below hB); have B3 := Lib.hid (below_then B2.out hB); have Q3 := Lib.hid (Box.new w9 9 #[.string ⟨#[]⟩]); clear hB)
              | (go_at_call 36; refine (kb2 S S.size hS3 K7 _ 1 _ (reads_one _ w9.heap.size _ Q3.out.c1)).mono ?_; rintro en w10 ⟨rfl, hB⟩; have F4 := Lib.hid ((F3.out.alloc _).below hB); have X4 := Lib.hid ((X3.out.alloc _).below hB); have B4 := Lib.hid (below_then (B3.out.alloc B3.out.size _) hB); clear hB)
              | (go_at_call 38; refine (kb3 S S.size hS3 K7 _).mono ?_; rintro en w11 ⟨rfl, hB⟩; have F5 := Lib.hid (F4.out.below hB); have X5 := Lib.hid (X4.out.below hB); have B5 := Lib.hid (below_then B4.out hB); clear hB)
              | (go_at_call 40; refine (kb4 S S.size hS3 K7 _).mono ?_; rintro en w12 ⟨rfl, hB⟩; have F6 := Lib.hid (F5.out.below hB); have X6 := Lib.hid (X5.out.below hB); have B6 := Lib.hid (below_then B5.out hB); clear hB))
          go_wp2
          go_ret
          exact ⟨rfl, B6.out⟩
end Go.Proofs.Ytkepnjnindolbaa.s05
