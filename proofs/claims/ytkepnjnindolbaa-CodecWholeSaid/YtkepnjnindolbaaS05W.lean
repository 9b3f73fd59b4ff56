/-
  Layer 5, the reference's side: Fixed, String, Fail, End.
-/
import Derived.Test.YtkepnjnindolbaaS05V
namespace Go.Proofs.Ytkepnjnindolbaa.s05
set_option linter.unusedVariables false
set_option linter.unusedSimpArgs false
open Go.RowKit
open kit

set_option maxRecDepth 100000 in
set_option maxHeartbeats 2000000 in
theorem rfixed_any (s : ByteArray) (p e o : Int) (most : Int) (hs : s.size ≤ 9223372036854775807) (hmost1 : -9223372036854775808 ≤ most) (hmost2 : most ≤ 9223372036854775807) (s' : ByteArray) (p' e' o' : Int) (n : ByteArray) (H : Hid (fldR (⟨#[]⟩ : ByteArray) (fixF most) s p e o = ((s', p', e', o'), n))) (w : World) :
    Calls Try.prog 17 #[.agg #[.string s, .int .i64 p, .int .i64 e, .int .i64 o], .int .i64 most] w fun en w' => en = .returned (.tuple #[.agg #[.string s', .int .i64 p', .int .i64 e', .int .i64 o'], .string n]) ∧ Below w.heap.size w w' := by
  have P1 := Lib.hid ((Box.new w 26 #[.string s, .int .i64 p, .int .i64 e, .int .i64 o]).alloc (.cells #[.string ⟨#[]⟩, .int .i64 0, .int .i64 0, .int .i64 0] 26))
  have X1 := Lib.hid (Box.new2 w (.cells #[.string s, .int .i64 p, .int .i64 e, .int .i64 o] 26) 26 #[.string ⟨#[]⟩, .int .i64 0, .int .i64 0, .int .i64 0])
  have B1 := Lib.hid (two_below w (.cells #[.string s, .int .i64 p, .int .i64 e, .int .i64 o] 26) (.cells #[.string ⟨#[]⟩, .int .i64 0, .int .i64 0, .int .i64 0] 26))
  obtain ⟨s0, p0, e0, o0, hc⟩ : ∃ s0 p0 e0 o0, cnt s p e o = (s0, p0, e0, o0) := ⟨_, _, _, _, rfl⟩
  obtain ⟨r1, r2, r3, r4, r5, r6, r7⟩ := cnt_ok hc
  have HC := Lib.hid hc
  have HI := Lib.hid (cnt_idem hc)
  by_cases hn : most < 0
  · have hF : fixF most s0 p0 = (⟨#[]⟩, 0, 2, p0) := by unfold fixF; rw [if_pos hn]
    obtain ⟨sx, px, ex, ox, hw⟩ : ∃ sx px ex ox, withR s0 p0 e0 o0 2 p0 = (sx, px, ex, ox) := ⟨_, _, _, _, rfl⟩
    have HX := Lib.hid (H.out.symm.trans ((fldR_range hc hF (by omega)).trans (by rw [hw] : _ = ((sx, px, ex, ox), (⟨#[]⟩ : ByteArray)))))
    have HW := Lib.hid hw
    clear H hc hF hw
    go_enter Try.func17, Try.ntmps17
    go_wp2_with (first
      | (go_at_call 50; (refine (rreader_any s p e o hs s0 p0 e0 o0 HC _).mono ?_); rintro en w2 ⟨rfl, hB⟩; have P2 := Lib.hid (P1.out.below hB); have X2 := Lib.hid (X1.out.below hB); have B2 := Lib.hid (below_then B1.out hB); clear hB; have lp := P2.out.lt; obtain ⟨cp0, cp1, cp2, cp3⟩ := P2.out.c4; obtain ⟨fp0, fp1, fp2, fp3⟩ := P2.out.f4; have lx := X2.out.lt; obtain ⟨cx0, cx1, cx2, cx3⟩ := X2.out.c4; obtain ⟨fx0, fx1, fx2, fx3⟩ := X2.out.f4; have P3 := Lib.hid (P2.out.set4 (.string s0) (.int .i64 p0) (.int .i64 e0) (.int .i64 o0)); have X3 := Lib.hid (X2.out.other4 (b' := w.heap.size) (by omega) (.string s0) (.int .i64 p0) (.int .i64 e0) (.int .i64 o0)); have B3 := Lib.hid (Below.set4 B2.out (w.heap.size) (by omega) (.string s0) (.int .i64 p0) (.int .i64 e0) (.int .i64 o0)))
      | (go_at_call 51; (refine (rfail_any s0 p0 e0 o0 2 p0 sx px ex ox HW _).mono ?_); rintro en w4 ⟨rfl, hB⟩; clear cp0 cp1 cp2 cp3 fp0 fp1 fp2 fp3 lp cx0 cx1 cx2 cx3 fx0 fx1 fx2 fx3 lx; have P4 := Lib.hid (P3.out.below hB); have X4 := Lib.hid (X3.out.below hB); have B4 := Lib.hid (below_then B3.out hB); clear hB; have lx := X4.out.lt; obtain ⟨cx0, cx1, cx2, cx3⟩ := X4.out.c4; obtain ⟨fx0, fx1, fx2, fx3⟩ := X4.out.f4))
    obtain ⟨d0, d1, d2, d3⟩ := (X4.out.set4 (.string sx) (.int .i64 px) (.int .i64 ex) (.int .i64 ox)).c4
    refine bodyPost_ret (v := .tuple #[.agg #[.string sx, .int .i64 px, .int .i64 ex, .int .i64 ox], .string ⟨#[]⟩]) (by simp [results, Try.results17, go_sem, d0, d1, d2, d3]) rfl ⟨ret_rs HX.out.symm, ?_⟩
    exact Below.set4 B4.out (w.heap.size + 1) (by omega) _ _ _ _
  · have hn0 : 0 ≤ most := by omega
    by_cases he : e0 = 0
    · subst he
      obtain rfl := r7 rfl
      by_cases hg : (s0.size : Int) - p0 < most
      · have hF : fixF most s0 p0 = (⟨#[]⟩, 0, 5, p0) := by unfold fixF; rw [if_neg hn, if_pos hg]
        have HX := Lib.hid (H.out.symm.trans (fldR_new hc hF (by omega)))
        clear H hc hF hn
        go_enter Try.func17, Try.ntmps17
        go_wp2_with (first
          | (go_at_call 50; (refine (rreader_any s p e o hs s0 p0 0 0 HC _).mono ?_); rintro en w2 ⟨rfl, hB⟩; have P2 := Lib.hid (P1.out.below hB); have X2 := Lib.hid (X1.out.below hB); have B2 := Lib.hid (below_then B1.out hB); clear hB; have lp := P2.out.lt; obtain ⟨cp0, cp1, cp2, cp3⟩ := P2.out.c4; obtain ⟨fp0, fp1, fp2, fp3⟩ := P2.out.f4; have lx := X2.out.lt; obtain ⟨cx0, cx1, cx2, cx3⟩ := X2.out.c4; obtain ⟨fx0, fx1, fx2, fx3⟩ := X2.out.f4; have P3 := Lib.hid (P2.out.set4 (.string s0) (.int .i64 p0) (.int .i64 0) (.int .i64 0)); have X3 := Lib.hid (X2.out.other4 (b' := w.heap.size) (by omega) (.string s0) (.int .i64 p0) (.int .i64 0) (.int .i64 0)); have B3 := Lib.hid (Below.set4 B2.out (w.heap.size) (by omega) (.string s0) (.int .i64 p0) (.int .i64 0) (.int .i64 0)))
          | (go_at_call 52; (refine (rfine_any s0 p0 0 0 true (Lib.hid rfl) _).mono ?_); rintro en w4 ⟨rfl, hB⟩; clear cp0 cp1 cp2 cp3 fp0 fp1 fp2 fp3 lp cx0 cx1 cx2 cx3 fx0 fx1 fx2 fx3 lx; have P4 := Lib.hid (P3.out.below hB); have X4 := Lib.hid (X3.out.below hB); have B4 := Lib.hid (below_then B3.out hB); clear hB; have lp := P4.out.lt; obtain ⟨cp0, cp1, cp2, cp3⟩ := P4.out.c4; obtain ⟨fp0, fp1, fp2, fp3⟩ := P4.out.f4; have lx := X4.out.lt; obtain ⟨cx0, cx1, cx2, cx3⟩ := X4.out.c4; obtain ⟨fx0, fx1, fx2, fx3⟩ := X4.out.f4)
          | (go_at_call 51; (refine (rfail_any s0 p0 0 0 5 p0 s0 p0 5 p0 (Lib.hid rfl) _).mono ?_); rintro en w5 ⟨rfl, hB⟩; clear cp0 cp1 cp2 cp3 fp0 fp1 fp2 fp3 lp cx0 cx1 cx2 cx3 fx0 fx1 fx2 fx3 lx; have P5 := Lib.hid (P4.out.below hB); have X5 := Lib.hid (X4.out.below hB); have B5 := Lib.hid (below_then B4.out hB); clear hB; have lx := X5.out.lt; obtain ⟨cx0, cx1, cx2, cx3⟩ := X5.out.c4; obtain ⟨fx0, fx1, fx2, fx3⟩ := X5.out.f4))
        obtain ⟨d0, d1, d2, d3⟩ := (X5.out.set4 (.string s0) (.int .i64 p0) (.int .i64 5) (.int .i64 p0)).c4
        refine bodyPost_ret (v := .tuple #[.agg #[.string s0, .int .i64 p0, .int .i64 5, .int .i64 p0], .string ⟨#[]⟩]) (by simp [results, Try.results17, go_sem, d0, d1, d2, d3]) rfl ⟨ret_rs HX.out.symm, ?_⟩
        exact Below.set4 B5.out (w.heap.size + 1) (by omega) _ _ _ _
      · have hF : fixF most s0 p0 = (s0.extract p0.toNat (p0 + most).toNat, p0 + most, 0, 0) := by unfold fixF; rw [if_neg hn, if_neg hg]
        have HX := Lib.hid (H.out.symm.trans (fldR_ok hc hF))
        have hg2 : most ≤ (s0.size : Int) - p0 := by omega
        have hg3 : p0 + most ≤ (s0.size : Int) := by omega
        clear H hc hF hn hg
        go_enter Try.func17, Try.ntmps17
        go_wp2_with (first
          | (go_at_call 50; (refine (rreader_any s p e o hs s0 p0 0 0 HC _).mono ?_); rintro en w2 ⟨rfl, hB⟩; have P2 := Lib.hid (P1.out.below hB); have X2 := Lib.hid (X1.out.below hB); have B2 := Lib.hid (below_then B1.out hB); clear hB; have lp := P2.out.lt; obtain ⟨cp0, cp1, cp2, cp3⟩ := P2.out.c4; obtain ⟨fp0, fp1, fp2, fp3⟩ := P2.out.f4; have lx := X2.out.lt; obtain ⟨cx0, cx1, cx2, cx3⟩ := X2.out.c4; obtain ⟨fx0, fx1, fx2, fx3⟩ := X2.out.f4; have P3 := Lib.hid (P2.out.set4 (.string s0) (.int .i64 p0) (.int .i64 0) (.int .i64 0)); have X3 := Lib.hid (X2.out.other4 (b' := w.heap.size) (by omega) (.string s0) (.int .i64 p0) (.int .i64 0) (.int .i64 0)); have B3 := Lib.hid (Below.set4 B2.out (w.heap.size) (by omega) (.string s0) (.int .i64 p0) (.int .i64 0) (.int .i64 0)))
          | (go_at_call 52; (refine (rfine_any s0 p0 0 0 true (Lib.hid rfl) _).mono ?_); rintro en w4 ⟨rfl, hB⟩; clear cp0 cp1 cp2 cp3 fp0 fp1 fp2 fp3 lp cx0 cx1 cx2 cx3 fx0 fx1 fx2 fx3 lx; have P4 := Lib.hid (P3.out.below hB); have X4 := Lib.hid (X3.out.below hB); have B4 := Lib.hid (below_then B3.out hB); clear hB; have lp := P4.out.lt; obtain ⟨cp0, cp1, cp2, cp3⟩ := P4.out.c4; obtain ⟨fp0, fp1, fp2, fp3⟩ := P4.out.f4; have lx := X4.out.lt; obtain ⟨cx0, cx1, cx2, cx3⟩ := X4.out.c4; obtain ⟨fx0, fx1, fx2, fx3⟩ := X4.out.f4))
        have X5 := Lib.hid (X4.out.other (b' := w.heap.size) (i := 1) (by omega) (.int .i64 (p0 + most)))
        have B5 := Lib.hid (B4.out.setCell (p := ⟨w.heap.size, 1, none⟩) (by simp) (.int .i64 (p0 + most)))
        obtain ⟨d0, d1, d2, d3⟩ := (X5.out.set4 (.string s0) (.int .i64 (p0 + most)) (.int .i64 0) (.int .i64 0)).c4
        refine bodyPost_ret (v := .tuple #[.agg #[.string s0, .int .i64 (p0 + most), .int .i64 0, .int .i64 0], .string (s0.extract p0.toNat (p0 + most).toNat)]) (by simp [results, Try.results17, go_sem, d0, d1, d2, d3]) rfl ⟨ret_rs HX.out.symm, ?_⟩
        exact Below.set4 B5.out (w.heap.size + 1) (by omega) _ _ _ _
    · have HX := Lib.hid (H.out.symm.trans (fldR_old hc he))
      have HE : Hid ((e0 == 0) = false) := Lib.hid (by simpa using he)
      clear H hc he hn
      go_enter Try.func17, Try.ntmps17
      go_wp2_with (first
        | (go_at_call 50; (refine (rreader_any s p e o hs s0 p0 e0 o0 HC _).mono ?_); rintro en w2 ⟨rfl, hB⟩; have P2 := Lib.hid (P1.out.below hB); have X2 := Lib.hid (X1.out.below hB); have B2 := Lib.hid (below_then B1.out hB); clear hB; have lp := P2.out.lt; obtain ⟨cp0, cp1, cp2, cp3⟩ := P2.out.c4; obtain ⟨fp0, fp1, fp2, fp3⟩ := P2.out.f4; have lx := X2.out.lt; obtain ⟨cx0, cx1, cx2, cx3⟩ := X2.out.c4; obtain ⟨fx0, fx1, fx2, fx3⟩ := X2.out.f4; have P3 := Lib.hid (P2.out.set4 (.string s0) (.int .i64 p0) (.int .i64 e0) (.int .i64 o0)); have X3 := Lib.hid (X2.out.other4 (b' := w.heap.size) (by omega) (.string s0) (.int .i64 p0) (.int .i64 e0) (.int .i64 o0)); have B3 := Lib.hid (Below.set4 B2.out (w.heap.size) (by omega) (.string s0) (.int .i64 p0) (.int .i64 e0) (.int .i64 o0)))
        | (go_at_call 52; (refine (rfine_any s0 p0 e0 o0 false HE _).mono ?_); rintro en w4 ⟨rfl, hB⟩; clear cp0 cp1 cp2 cp3 fp0 fp1 fp2 fp3 lp cx0 cx1 cx2 cx3 fx0 fx1 fx2 fx3 lx; have P4 := Lib.hid (P3.out.below hB); have X4 := Lib.hid (X3.out.below hB); have B4 := Lib.hid (below_then B3.out hB); clear hB; have lp := P4.out.lt; obtain ⟨cp0, cp1, cp2, cp3⟩ := P4.out.c4; obtain ⟨fp0, fp1, fp2, fp3⟩ := P4.out.f4; have lx := X4.out.lt; obtain ⟨cx0, cx1, cx2, cx3⟩ := X4.out.c4; obtain ⟨fx0, fx1, fx2, fx3⟩ := X4.out.f4))
      obtain ⟨d0, d1, d2, d3⟩ := (X4.out.set4 (.string s0) (.int .i64 p0) (.int .i64 e0) (.int .i64 o0)).c4
      refine bodyPost_ret (v := .tuple #[.agg #[.string s0, .int .i64 p0, .int .i64 e0, .int .i64 o0], .string ⟨#[]⟩]) (by simp [results, Try.results17, go_sem, d0, d1, d2, d3]) rfl ⟨ret_rs HX.out.symm, ?_⟩
      exact Below.set4 B4.out (w.heap.size + 1) (by omega) _ _ _ _
set_option maxRecDepth 100000 in
set_option maxHeartbeats 2000000 in
theorem rstring_any (s : ByteArray) (p e o : Int) (most : Int) (hs : s.size ≤ 9223372036854775807) (hmost1 : -9223372036854775808 ≤ most) (hmost2 : most ≤ 9223372036854775807) (s' : ByteArray) (p' e' o' : Int) (n : ByteArray) (H : Hid (fldR (⟨#[]⟩ : ByteArray) (sizF most) s p e o = ((s', p', e', o'), n))) (w : World) :
    Calls Try.prog 15 #[.agg #[.string s, .int .i64 p, .int .i64 e, .int .i64 o], .int .i64 most] w fun en w' => en = .returned (.tuple #[.agg #[.string s', .int .i64 p', .int .i64 e', .int .i64 o'], .string n]) ∧ Below w.heap.size w w' := by
  have P1 := Lib.hid ((Box.new w 26 #[.string s, .int .i64 p, .int .i64 e, .int .i64 o]).alloc (.cells #[.string ⟨#[]⟩, .int .i64 0, .int .i64 0, .int .i64 0] 26))
  have X1 := Lib.hid (Box.new2 w (.cells #[.string s, .int .i64 p, .int .i64 e, .int .i64 o] 26) 26 #[.string ⟨#[]⟩, .int .i64 0, .int .i64 0, .int .i64 0])
  have B1 := Lib.hid (two_below w (.cells #[.string s, .int .i64 p, .int .i64 e, .int .i64 o] 26) (.cells #[.string ⟨#[]⟩, .int .i64 0, .int .i64 0, .int .i64 0] 26))
  obtain ⟨s0, p0, e0, o0, hc⟩ : ∃ s0 p0 e0 o0, cnt s p e o = (s0, p0, e0, o0) := ⟨_, _, _, _, rfl⟩
  obtain ⟨r1, r2, r3, r4, r5, r6, r7⟩ := cnt_ok hc
  have HC := Lib.hid hc
  have HI := Lib.hid (cnt_idem hc)
  by_cases hn : most < 0
  · have hF : sizF most s0 p0 = (⟨#[]⟩, 0, 2, p0) := by unfold sizF lenF; rw [if_pos hn]; simp
    obtain ⟨sx, px, ex, ox, hw⟩ : ∃ sx px ex ox, withR s0 p0 e0 o0 2 p0 = (sx, px, ex, ox) := ⟨_, _, _, _, rfl⟩
    have HX := Lib.hid (H.out.symm.trans ((fldR_range hc hF (by omega)).trans (by rw [hw] : _ = ((sx, px, ex, ox), (⟨#[]⟩ : ByteArray)))))
    have HW := Lib.hid hw
    clear H hc hF hw
    go_enter Try.func15, Try.ntmps15
    go_wp2_with (first
      | (go_at_call 50; (refine (rreader_any s p e o hs s0 p0 e0 o0 HC _).mono ?_); rintro en w2 ⟨rfl, hB⟩; have P2 := Lib.hid (P1.out.below hB); have X2 := Lib.hid (X1.out.below hB); have B2 := Lib.hid (below_then B1.out hB); clear hB; have lp := P2.out.lt; obtain ⟨cp0, cp1, cp2, cp3⟩ := P2.out.c4; obtain ⟨fp0, fp1, fp2, fp3⟩ := P2.out.f4; have lx := X2.out.lt; obtain ⟨cx0, cx1, cx2, cx3⟩ := X2.out.c4; obtain ⟨fx0, fx1, fx2, fx3⟩ := X2.out.f4; have P3 := Lib.hid (P2.out.set4 (.string s0) (.int .i64 p0) (.int .i64 e0) (.int .i64 o0)); have X3 := Lib.hid (X2.out.other4 (b' := w.heap.size) (by omega) (.string s0) (.int .i64 p0) (.int .i64 e0) (.int .i64 o0)); have B3 := Lib.hid (Below.set4 B2.out (w.heap.size) (by omega) (.string s0) (.int .i64 p0) (.int .i64 e0) (.int .i64 o0)))
      | (go_at_call 51; (refine (rfail_any s0 p0 e0 o0 2 p0 sx px ex ox HW _).mono ?_); rintro en w4 ⟨rfl, hB⟩; clear cp0 cp1 cp2 cp3 fp0 fp1 fp2 fp3 lp cx0 cx1 cx2 cx3 fx0 fx1 fx2 fx3 lx; have P4 := Lib.hid (P3.out.below hB); have X4 := Lib.hid (X3.out.below hB); have B4 := Lib.hid (below_then B3.out hB); clear hB; have lx := X4.out.lt; obtain ⟨cx0, cx1, cx2, cx3⟩ := X4.out.c4; obtain ⟨fx0, fx1, fx2, fx3⟩ := X4.out.f4))
    obtain ⟨d0, d1, d2, d3⟩ := (X4.out.set4 (.string sx) (.int .i64 px) (.int .i64 ex) (.int .i64 ox)).c4
    refine bodyPost_ret (v := .tuple #[.agg #[.string sx, .int .i64 px, .int .i64 ex, .int .i64 ox], .string ⟨#[]⟩]) (by simp [results, Try.results15, go_sem, d0, d1, d2, d3]) rfl ⟨ret_rs HX.out.symm, ?_⟩
    exact Below.set4 B4.out (w.heap.size + 1) (by omega) _ _ _ _
  · have hn0 : 0 ≤ most := by omega
    by_cases he : e0 = 0
    · subst he
      obtain rfl := r7 rfl
      obtain ⟨n', nx, er, q, hb⟩ : ∃ n' nx er q, rd s0 p0 = (n', nx, er, q) := ⟨_, _, _, _, rfl⟩
      obtain ⟨b1, b2⟩ := rd_bounds s0 p0 hb
      have hbm : bnd s0 p0 18446744073709551615 = (n', nx, er, q) := (bnd_max s0 p0).trans hb
      by_cases hq : er = 0
      · subst hq
        obtain ⟨g1, g2, g3, g4, g5, rfl⟩ := b1 rfl
        have HWD := Lib.hid (fldR_ok (z := (0 : Int)) (F := fun s a => bnd s a 18446744073709551615) HI.out hbm)
        by_cases hl : most < n'
        · have hF : sizF most s0 p0 = (⟨#[]⟩, 0, 4, p0) := by
            unfold sizF lenF
            rw [if_neg hn, hb]
            simp only [if_true, if_pos hl]
            rfl
          have HX := Lib.hid (H.out.symm.trans (fldR_new hc hF (by omega)))
          clear H hc hF hn hb hbm b1 b2
          go_enter Try.func15, Try.ntmps15
          go_wp2_with (first
            | (go_at_call 50; (refine (rreader_any s p e o hs s0 p0 0 0 HC _).mono ?_); rintro en w2 ⟨rfl, hB⟩; have P2 := Lib.hid (P1.out.below hB); have X2 := Lib.hid (X1.out.below hB); have B2 := Lib.hid (below_then B1.out hB); clear hB; have lp := P2.out.lt; obtain ⟨cp0, cp1, cp2, cp3⟩ := P2.out.c4; obtain ⟨fp0, fp1, fp2, fp3⟩ := P2.out.f4; have lx := X2.out.lt; obtain ⟨cx0, cx1, cx2, cx3⟩ := X2.out.c4; obtain ⟨fx0, fx1, fx2, fx3⟩ := X2.out.f4; have P3 := Lib.hid (P2.out.set4 (.string s0) (.int .i64 p0) (.int .i64 0) (.int .i64 0)); have X3 := Lib.hid (X2.out.other4 (b' := w.heap.size) (by omega) (.string s0) (.int .i64 p0) (.int .i64 0) (.int .i64 0)); have B3 := Lib.hid (Below.set4 B2.out (w.heap.size) (by omega) (.string s0) (.int .i64 p0) (.int .i64 0) (.int .i64 0)))
            | (go_at_call 13; (refine (rwide_any s0 p0 0 0 18446744073709551615 (by omega) (by omega) (by omega) s0 nx 0 0 n' HWD _).mono ?_); rintro en w4 ⟨rfl, hB⟩; clear cp0 cp1 cp2 cp3 fp0 fp1 fp2 fp3 lp cx0 cx1 cx2 cx3 fx0 fx1 fx2 fx3 lx; have P4 := Lib.hid (P3.out.below hB); have X4 := Lib.hid (X3.out.below hB); have B4 := Lib.hid (below_then B3.out hB); clear hB; have lp := P4.out.lt; obtain ⟨cp0, cp1, cp2, cp3⟩ := P4.out.c4; obtain ⟨fp0, fp1, fp2, fp3⟩ := P4.out.f4; have lx := X4.out.lt; obtain ⟨cx0, cx1, cx2, cx3⟩ := X4.out.c4; obtain ⟨fx0, fx1, fx2, fx3⟩ := X4.out.f4; have P5 := Lib.hid (P4.out.alloc (.cells #[.string s0, .int .i64 nx, .int .i64 0, .int .i64 0] 26)); have X5 := Lib.hid (X4.out.alloc (.cells #[.string s0, .int .i64 nx, .int .i64 0, .int .i64 0] 26)); have B5 := Lib.hid (B4.out.alloc B4.out.size (.cells #[.string s0, .int .i64 nx, .int .i64 0, .int .i64 0] 26)); have Y5 := Lib.hid (Box.new _ 26 #[.string s0, .int .i64 nx, .int .i64 0, .int .i64 0] : Box (World.alloc w4 (.cells #[.string s0, .int .i64 nx, .int .i64 0, .int .i64 0] 26)) _ _ _))
            | (go_at_call 52; (refine (rfine_any s0 nx 0 0 true (Lib.hid rfl) _).mono ?_); rintro en w6 ⟨rfl, hB⟩; clear cp0 cp1 cp2 cp3 fp0 fp1 fp2 fp3 lp cx0 cx1 cx2 cx3 fx0 fx1 fx2 fx3 lx; have P6 := Lib.hid (P5.out.below hB); have X6 := Lib.hid (X5.out.below hB); have Y6 := Lib.hid (Y5.out.below hB); have B6 := Lib.hid (below_then B5.out hB); clear hB; have lp := P6.out.lt; obtain ⟨cp0, cp1, cp2, cp3⟩ := P6.out.c4; obtain ⟨fp0, fp1, fp2, fp3⟩ := P6.out.f4; have lx := X6.out.lt; obtain ⟨cx0, cx1, cx2, cx3⟩ := X6.out.c4; obtain ⟨fx0, fx1, fx2, fx3⟩ := X6.out.f4; have ly := Y6.out.lt; obtain ⟨cy0, cy1, cy2, cy3⟩ := Y6.out.c4; obtain ⟨fy0, fy1, fy2, fy3⟩ := Y6.out.f4)
            | (go_at_call 51; (refine (rfail_any s0 p0 0 0 4 p0 s0 p0 4 p0 (Lib.hid rfl) _).mono ?_); rintro en w7 ⟨rfl, hB⟩; clear cp0 cp1 cp2 cp3 fp0 fp1 fp2 fp3 lp cx0 cx1 cx2 cx3 fx0 fx1 fx2 fx3 lx cy0 cy1 cy2 cy3 fy0 fy1 fy2 fy3 ly; have P7 := Lib.hid (P6.out.below hB); have X7 := Lib.hid (X6.out.below hB); have Y7 := Lib.hid (Y6.out.below hB); have B7 := Lib.hid (below_then B6.out hB); clear hB; have lx := X7.out.lt; obtain ⟨cx0, cx1, cx2, cx3⟩ := X7.out.c4; obtain ⟨fx0, fx1, fx2, fx3⟩ := X7.out.f4))
          obtain ⟨d0, d1, d2, d3⟩ := (X7.out.set4 (.string s0) (.int .i64 p0) (.int .i64 4) (.int .i64 p0)).c4
          refine bodyPost_ret (v := .tuple #[.agg #[.string s0, .int .i64 p0, .int .i64 4, .int .i64 p0], .string ⟨#[]⟩]) (by simp [results, Try.results15, go_sem, d0, d1, d2, d3]) rfl ⟨ret_rs HX.out.symm, ?_⟩
          exact Below.set4 B7.out (w.heap.size + 1) (by omega) _ _ _ _
        · have hl2 : n' ≤ most := by omega
          have hlen : sizF most s0 p0 = fixF n' s0 nx := by
            unfold sizF lenF
            rw [if_neg hn, hb]
            simp only [if_true, if_neg hl]
          by_cases hg : (s0.size : Int) - nx < n'
          · have hF : sizF most s0 p0 = (⟨#[]⟩, 0, 5, nx) := by rw [hlen]; unfold fixF; rw [if_neg (by omega), if_pos hg]
            have HX := Lib.hid (H.out.symm.trans (fldR_new hc hF (by omega)))
            have hg0 : 0 ≤ (s0.size : Int) - nx := by omega
            clear H hc hF hn hb hbm b1 b2 hl hlen
            go_enter Try.func15, Try.ntmps15
            go_wp2_with (first
              | (go_at_call 50; (refine (rreader_any s p e o hs s0 p0 0 0 HC _).mono ?_); rintro en w2 ⟨rfl, hB⟩; have P2 := Lib.hid (P1.out.below hB); have X2 := Lib.hid (X1.out.below hB); have B2 := Lib.hid (below_then B1.out hB); clear hB; have lp := P2.out.lt; obtain ⟨cp0, cp1, cp2, cp3⟩ := P2.out.c4; obtain ⟨fp0, fp1, fp2, fp3⟩ := P2.out.f4; have lx := X2.out.lt; obtain ⟨cx0, cx1, cx2, cx3⟩ := X2.out.c4; obtain ⟨fx0, fx1, fx2, fx3⟩ := X2.out.f4; have P3 := Lib.hid (P2.out.set4 (.string s0) (.int .i64 p0) (.int .i64 0) (.int .i64 0)); have X3 := Lib.hid (X2.out.other4 (b' := w.heap.size) (by omega) (.string s0) (.int .i64 p0) (.int .i64 0) (.int .i64 0)); have B3 := Lib.hid (Below.set4 B2.out (w.heap.size) (by omega) (.string s0) (.int .i64 p0) (.int .i64 0) (.int .i64 0)))
              | (go_at_call 13; (refine (rwide_any s0 p0 0 0 18446744073709551615 (by omega) (by omega) (by omega) s0 nx 0 0 n' HWD _).mono ?_); rintro en w4 ⟨rfl, hB⟩; clear cp0 cp1 cp2 cp3 fp0 fp1 fp2 fp3 lp cx0 cx1 cx2 cx3 fx0 fx1 fx2 fx3 lx; have P4 := Lib.hid (P3.out.below hB); have X4 := Lib.hid (X3.out.below hB); have B4 := Lib.hid (below_then B3.out hB); clear hB; have lp := P4.out.lt; obtain ⟨cp0, cp1, cp2, cp3⟩ := P4.out.c4; obtain ⟨fp0, fp1, fp2, fp3⟩ := P4.out.f4; have lx := X4.out.lt; obtain ⟨cx0, cx1, cx2, cx3⟩ := X4.out.c4; obtain ⟨fx0, fx1, fx2, fx3⟩ := X4.out.f4; have P5 := Lib.hid (P4.out.alloc (.cells #[.string s0, .int .i64 nx, .int .i64 0, .int .i64 0] 26)); have X5 := Lib.hid (X4.out.alloc (.cells #[.string s0, .int .i64 nx, .int .i64 0, .int .i64 0] 26)); have B5 := Lib.hid (B4.out.alloc B4.out.size (.cells #[.string s0, .int .i64 nx, .int .i64 0, .int .i64 0] 26)); have Y5 := Lib.hid (Box.new _ 26 #[.string s0, .int .i64 nx, .int .i64 0, .int .i64 0] : Box (World.alloc w4 (.cells #[.string s0, .int .i64 nx, .int .i64 0, .int .i64 0] 26)) _ _ _))
              | (go_at_call 52; (refine (rfine_any s0 nx 0 0 true (Lib.hid rfl) _).mono ?_); rintro en w6 ⟨rfl, hB⟩; clear cp0 cp1 cp2 cp3 fp0 fp1 fp2 fp3 lp cx0 cx1 cx2 cx3 fx0 fx1 fx2 fx3 lx; have P6 := Lib.hid (P5.out.below hB); have X6 := Lib.hid (X5.out.below hB); have Y6 := Lib.hid (Y5.out.below hB); have B6 := Lib.hid (below_then B5.out hB); clear hB; have lp := P6.out.lt; obtain ⟨cp0, cp1, cp2, cp3⟩ := P6.out.c4; obtain ⟨fp0, fp1, fp2, fp3⟩ := P6.out.f4; have lx := X6.out.lt; obtain ⟨cx0, cx1, cx2, cx3⟩ := X6.out.c4; obtain ⟨fx0, fx1, fx2, fx3⟩ := X6.out.f4; have ly := Y6.out.lt; obtain ⟨cy0, cy1, cy2, cy3⟩ := Y6.out.c4; obtain ⟨fy0, fy1, fy2, fy3⟩ := Y6.out.f4)
              | (go_at_call 51; (refine (rfail_any s0 p0 0 0 5 nx s0 p0 5 nx (Lib.hid rfl) _).mono ?_); rintro en w7 ⟨rfl, hB⟩; clear cp0 cp1 cp2 cp3 fp0 fp1 fp2 fp3 lp cx0 cx1 cx2 cx3 fx0 fx1 fx2 fx3 lx cy0 cy1 cy2 cy3 fy0 fy1 fy2 fy3 ly; have P7 := Lib.hid (P6.out.below hB); have X7 := Lib.hid (X6.out.below hB); have Y7 := Lib.hid (Y6.out.below hB); have B7 := Lib.hid (below_then B6.out hB); clear hB; have lx := X7.out.lt; obtain ⟨cx0, cx1, cx2, cx3⟩ := X7.out.c4; obtain ⟨fx0, fx1, fx2, fx3⟩ := X7.out.f4))
            obtain ⟨d0, d1, d2, d3⟩ := (X7.out.set4 (.string s0) (.int .i64 p0) (.int .i64 5) (.int .i64 nx)).c4
            refine bodyPost_ret (v := .tuple #[.agg #[.string s0, .int .i64 p0, .int .i64 5, .int .i64 nx], .string ⟨#[]⟩]) (by simp [results, Try.results15, go_sem, d0, d1, d2, d3]) rfl ⟨ret_rs HX.out.symm, ?_⟩
            exact Below.set4 B7.out (w.heap.size + 1) (by omega) _ _ _ _
          · have hF0 : fixF n' s0 nx = (s0.extract nx.toNat (nx + n').toNat, nx + n', 0, 0) := by unfold fixF; rw [if_neg (by omega), if_neg hg]
            have hF : sizF most s0 p0 = (s0.extract nx.toNat (nx + n').toNat, nx + n', 0, 0) := hlen.trans hF0
            have HX := Lib.hid (H.out.symm.trans (fldR_ok hc hF))
            have HFX := Lib.hid (fldR_ok (z := (⟨#[]⟩ : ByteArray)) (cnt_of (s := s0) (p := nx) (by omega) (by omega) g5) hF0)
            have hg0 : 0 ≤ (s0.size : Int) - nx := by omega
            have hg2 : n' ≤ (s0.size : Int) - nx := by omega
            clear H hc hF hF0 hn hb hbm b1 b2 hl hlen hg
            go_enter Try.func15, Try.ntmps15
            go_wp2_with (first
              | (go_at_call 50; (refine (rreader_any s p e o hs s0 p0 0 0 HC _).mono ?_); rintro en w2 ⟨rfl, hB⟩; have P2 := Lib.hid (P1.out.below hB); have X2 := Lib.hid (X1.out.below hB); have B2 := Lib.hid (below_then B1.out hB); clear hB; have lp := P2.out.lt; obtain ⟨cp0, cp1, cp2, cp3⟩ := P2.out.c4; obtain ⟨fp0, fp1, fp2, fp3⟩ := P2.out.f4; have lx := X2.out.lt; obtain ⟨cx0, cx1, cx2, cx3⟩ := X2.out.c4; obtain ⟨fx0, fx1, fx2, fx3⟩ := X2.out.f4; have P3 := Lib.hid (P2.out.set4 (.string s0) (.int .i64 p0) (.int .i64 0) (.int .i64 0)); have X3 := Lib.hid (X2.out.other4 (b' := w.heap.size) (by omega) (.string s0) (.int .i64 p0) (.int .i64 0) (.int .i64 0)); have B3 := Lib.hid (Below.set4 B2.out (w.heap.size) (by omega) (.string s0) (.int .i64 p0) (.int .i64 0) (.int .i64 0)))
              | (go_at_call 13; (refine (rwide_any s0 p0 0 0 18446744073709551615 (by omega) (by omega) (by omega) s0 nx 0 0 n' HWD _).mono ?_); rintro en w4 ⟨rfl, hB⟩; clear cp0 cp1 cp2 cp3 fp0 fp1 fp2 fp3 lp cx0 cx1 cx2 cx3 fx0 fx1 fx2 fx3 lx; have P4 := Lib.hid (P3.out.below hB); have X4 := Lib.hid (X3.out.below hB); have B4 := Lib.hid (below_then B3.out hB); clear hB; have lp := P4.out.lt; obtain ⟨cp0, cp1, cp2, cp3⟩ := P4.out.c4; obtain ⟨fp0, fp1, fp2, fp3⟩ := P4.out.f4; have lx := X4.out.lt; obtain ⟨cx0, cx1, cx2, cx3⟩ := X4.out.c4; obtain ⟨fx0, fx1, fx2, fx3⟩ := X4.out.f4; have P5 := Lib.hid (P4.out.alloc (.cells #[.string s0, .int .i64 nx, .int .i64 0, .int .i64 0] 26)); have X5 := Lib.hid (X4.out.alloc (.cells #[.string s0, .int .i64 nx, .int .i64 0, .int .i64 0] 26)); have B5 := Lib.hid (B4.out.alloc B4.out.size (.cells #[.string s0, .int .i64 nx, .int .i64 0, .int .i64 0] 26)); have Y5 := Lib.hid (Box.new _ 26 #[.string s0, .int .i64 nx, .int .i64 0, .int .i64 0] : Box (World.alloc w4 (.cells #[.string s0, .int .i64 nx, .int .i64 0, .int .i64 0] 26)) _ _ _))
              | (go_at_call 52; (refine (rfine_any s0 nx 0 0 true (Lib.hid rfl) _).mono ?_); rintro en w6 ⟨rfl, hB⟩; clear cp0 cp1 cp2 cp3 fp0 fp1 fp2 fp3 lp cx0 cx1 cx2 cx3 fx0 fx1 fx2 fx3 lx; have P6 := Lib.hid (P5.out.below hB); have X6 := Lib.hid (X5.out.below hB); have Y6 := Lib.hid (Y5.out.below hB); have B6 := Lib.hid (below_then B5.out hB); clear hB; have lp := P6.out.lt; obtain ⟨cp0, cp1, cp2, cp3⟩ := P6.out.c4; obtain ⟨fp0, fp1, fp2, fp3⟩ := P6.out.f4; have lx := X6.out.lt; obtain ⟨cx0, cx1, cx2, cx3⟩ := X6.out.c4; obtain ⟨fx0, fx1, fx2, fx3⟩ := X6.out.f4; have ly := Y6.out.lt; obtain ⟨cy0, cy1, cy2, cy3⟩ := Y6.out.c4; obtain ⟨fy0, fy1, fy2, fy3⟩ := Y6.out.f4)
              | (go_at_call 17; (refine (rfixed_any s0 nx 0 0 n' (by omega) (by omega) (by omega) s0 (nx + n') 0 0 (s0.extract nx.toNat (nx + n').toNat) HFX _).mono ?_); rintro en w7 ⟨rfl, hB⟩; clear cp0 cp1 cp2 cp3 fp0 fp1 fp2 fp3 lp cx0 cx1 cx2 cx3 fx0 fx1 fx2 fx3 lx cy0 cy1 cy2 cy3 fy0 fy1 fy2 fy3 ly; have P7 := Lib.hid (P6.out.below hB); have X7 := Lib.hid (X6.out.below hB); have Y7 := Lib.hid (Y6.out.below hB); have B7 := Lib.hid (below_then B6.out hB); clear hB; have lx := X7.out.lt; obtain ⟨cx0, cx1, cx2, cx3⟩ := X7.out.c4; obtain ⟨fx0, fx1, fx2, fx3⟩ := X7.out.f4))
            obtain ⟨d0, d1, d2, d3⟩ := (X7.out.set4 (.string s0) (.int .i64 (nx + n')) (.int .i64 0) (.int .i64 0)).c4
            refine bodyPost_ret (v := .tuple #[.agg #[.string s0, .int .i64 (nx + n'), .int .i64 0, .int .i64 0], .string (s0.extract nx.toNat (nx + n').toNat)]) (by simp [results, Try.results15, go_sem, d0, d1, d2, d3]) rfl ⟨ret_rs HX.out.symm, ?_⟩
            exact Below.set4 B7.out (w.heap.size + 1) (by omega) _ _ _ _
      · obtain ⟨rfl, rfl, g3, g4, g5⟩ := b2 hq
        have HWD := Lib.hid (fldR_new (z := (0 : Int)) (F := fun s a => bnd s a 18446744073709551615) HI.out hbm hq)
        have hF : sizF most s0 p0 = (⟨#[]⟩, 0, er, q) := by
          unfold sizF lenF
          rw [if_neg hn, hb]
          simp only [if_neg hq]
        have HX := Lib.hid (H.out.symm.trans (fldR_new hc hF hq))
        have HE : Hid ((er == 0) = false) := Lib.hid (by simpa using hq)
        clear H hc hF hn hb hbm b1 b2 hq
        go_enter Try.func15, Try.ntmps15
        go_wp2_with (first
          | (go_at_call 50; (refine (rreader_any s p e o hs s0 p0 0 0 HC _).mono ?_); rintro en w2 ⟨rfl, hB⟩; have P2 := Lib.hid (P1.out.below hB); have X2 := Lib.hid (X1.out.below hB); have B2 := Lib.hid (below_then B1.out hB); clear hB; have lp := P2.out.lt; obtain ⟨cp0, cp1, cp2, cp3⟩ := P2.out.c4; obtain ⟨fp0, fp1, fp2, fp3⟩ := P2.out.f4; have lx := X2.out.lt; obtain ⟨cx0, cx1, cx2, cx3⟩ := X2.out.c4; obtain ⟨fx0, fx1, fx2, fx3⟩ := X2.out.f4; have P3 := Lib.hid (P2.out.set4 (.string s0) (.int .i64 p0) (.int .i64 0) (.int .i64 0)); have X3 := Lib.hid (X2.out.other4 (b' := w.heap.size) (by omega) (.string s0) (.int .i64 p0) (.int .i64 0) (.int .i64 0)); have B3 := Lib.hid (Below.set4 B2.out (w.heap.size) (by omega) (.string s0) (.int .i64 p0) (.int .i64 0) (.int .i64 0)))
          | (go_at_call 13; (refine (rwide_any s0 p0 0 0 18446744073709551615 (by omega) (by omega) (by omega) s0 p0 er q 0 HWD _).mono ?_); rintro en w4 ⟨rfl, hB⟩; clear cp0 cp1 cp2 cp3 fp0 fp1 fp2 fp3 lp cx0 cx1 cx2 cx3 fx0 fx1 fx2 fx3 lx; have P4 := Lib.hid (P3.out.below hB); have X4 := Lib.hid (X3.out.below hB); have B4 := Lib.hid (below_then B3.out hB); clear hB; have lp := P4.out.lt; obtain ⟨cp0, cp1, cp2, cp3⟩ := P4.out.c4; obtain ⟨fp0, fp1, fp2, fp3⟩ := P4.out.f4; have lx := X4.out.lt; obtain ⟨cx0, cx1, cx2, cx3⟩ := X4.out.c4; obtain ⟨fx0, fx1, fx2, fx3⟩ := X4.out.f4; have P5 := Lib.hid (P4.out.alloc (.cells #[.string s0, .int .i64 p0, .int .i64 er, .int .i64 q] 26)); have X5 := Lib.hid (X4.out.alloc (.cells #[.string s0, .int .i64 p0, .int .i64 er, .int .i64 q] 26)); have B5 := Lib.hid (B4.out.alloc B4.out.size (.cells #[.string s0, .int .i64 p0, .int .i64 er, .int .i64 q] 26)); have Y5 := Lib.hid (Box.new _ 26 #[.string s0, .int .i64 p0, .int .i64 er, .int .i64 q] : Box (World.alloc w4 (.cells #[.string s0, .int .i64 p0, .int .i64 er, .int .i64 q] 26)) _ _ _))
          | (go_at_call 52; (refine (rfine_any s0 p0 er q false HE _).mono ?_); rintro en w6 ⟨rfl, hB⟩; clear cp0 cp1 cp2 cp3 fp0 fp1 fp2 fp3 lp cx0 cx1 cx2 cx3 fx0 fx1 fx2 fx3 lx; have P6 := Lib.hid (P5.out.below hB); have X6 := Lib.hid (X5.out.below hB); have Y6 := Lib.hid (Y5.out.below hB); have B6 := Lib.hid (below_then B5.out hB); clear hB; have lp := P6.out.lt; obtain ⟨cp0, cp1, cp2, cp3⟩ := P6.out.c4; obtain ⟨fp0, fp1, fp2, fp3⟩ := P6.out.f4; have lx := X6.out.lt; obtain ⟨cx0, cx1, cx2, cx3⟩ := X6.out.c4; obtain ⟨fx0, fx1, fx2, fx3⟩ := X6.out.f4; have ly := Y6.out.lt; obtain ⟨cy0, cy1, cy2, cy3⟩ := Y6.out.c4; obtain ⟨fy0, fy1, fy2, fy3⟩ := Y6.out.f4))
        obtain ⟨d0, d1, d2, d3⟩ := (X6.out.set4 (.string s0) (.int .i64 p0) (.int .i64 er) (.int .i64 q)).c4
        refine bodyPost_ret (v := .tuple #[.agg #[.string s0, .int .i64 p0, .int .i64 er, .int .i64 q], .string ⟨#[]⟩]) (by simp [results, Try.results15, go_sem, d0, d1, d2, d3]) rfl ⟨ret_rs HX.out.symm, ?_⟩
        exact Below.set4 B6.out (w.heap.size + 1) (by omega) _ _ _ _
    · have HWD := Lib.hid (fldR_old (z := (0 : Int)) (F := fun s a => bnd s a 18446744073709551615) HI.out he)
      have HX := Lib.hid (H.out.symm.trans (fldR_old hc he))
      have HE : Hid ((e0 == 0) = false) := Lib.hid (by simpa using he)
      clear H hc he hn
      go_enter Try.func15, Try.ntmps15
      go_wp2_with (first
        | (go_at_call 50; (refine (rreader_any s p e o hs s0 p0 e0 o0 HC _).mono ?_); rintro en w2 ⟨rfl, hB⟩; have P2 := Lib.hid (P1.out.below hB); have X2 := Lib.hid (X1.out.below hB); have B2 := Lib.hid (below_then B1.out hB); clear hB; have lp := P2.out.lt; obtain ⟨cp0, cp1, cp2, cp3⟩ := P2.out.c4; obtain ⟨fp0, fp1, fp2, fp3⟩ := P2.out.f4; have lx := X2.out.lt; obtain ⟨cx0, cx1, cx2, cx3⟩ := X2.out.c4; obtain ⟨fx0, fx1, fx2, fx3⟩ := X2.out.f4; have P3 := Lib.hid (P2.out.set4 (.string s0) (.int .i64 p0) (.int .i64 e0) (.int .i64 o0)); have X3 := Lib.hid (X2.out.other4 (b' := w.heap.size) (by omega) (.string s0) (.int .i64 p0) (.int .i64 e0) (.int .i64 o0)); have B3 := Lib.hid (Below.set4 B2.out (w.heap.size) (by omega) (.string s0) (.int .i64 p0) (.int .i64 e0) (.int .i64 o0)))
        | (go_at_call 13; (refine (rwide_any s0 p0 e0 o0 18446744073709551615 (by omega) (by omega) (by omega) s0 p0 e0 o0 0 HWD _).mono ?_); rintro en w4 ⟨rfl, hB⟩; clear cp0 cp1 cp2 cp3 fp0 fp1 fp2 fp3 lp cx0 cx1 cx2 cx3 fx0 fx1 fx2 fx3 lx; have P4 := Lib.hid (P3.out.below hB); have X4 := Lib.hid (X3.out.below hB); have B4 := Lib.hid (below_then B3.out hB); clear hB; have lp := P4.out.lt; obtain ⟨cp0, cp1, cp2, cp3⟩ := P4.out.c4; obtain ⟨fp0, fp1, fp2, fp3⟩ := P4.out.f4; have lx := X4.out.lt; obtain ⟨cx0, cx1, cx2, cx3⟩ := X4.out.c4; obtain ⟨fx0, fx1, fx2, fx3⟩ := X4.out.f4; have P5 := Lib.hid (P4.out.alloc (.cells #[.string s0, .int .i64 p0, .int .i64 e0, .int .i64 o0] 26)); have X5 := Lib.hid (X4.out.alloc (.cells #[.string s0, .int .i64 p0, .int .i64 e0, .int .i64 o0] 26)); have B5 := Lib.hid (B4.out.alloc B4.out.size (.cells #[.string s0, .int .i64 p0, .int .i64 e0, .int .i64 o0] 26)); have Y5 := Lib.hid (Box.new _ 26 #[.string s0, .int .i64 p0, .int .i64 e0, .int .i64 o0] : Box (World.alloc w4 (.cells #[.string s0, .int .i64 p0, .int .i64 e0, .int .i64 o0] 26)) _ _ _))
        | (go_at_call 52; (refine (rfine_any s0 p0 e0 o0 false HE _).mono ?_); rintro en w6 ⟨rfl, hB⟩; clear cp0 cp1 cp2 cp3 fp0 fp1 fp2 fp3 lp cx0 cx1 cx2 cx3 fx0 fx1 fx2 fx3 lx; have P6 := Lib.hid (P5.out.below hB); have X6 := Lib.hid (X5.out.below hB); have Y6 := Lib.hid (Y5.out.below hB); have B6 := Lib.hid (below_then B5.out hB); clear hB; have lp := P6.out.lt; obtain ⟨cp0, cp1, cp2, cp3⟩ := P6.out.c4; obtain ⟨fp0, fp1, fp2, fp3⟩ := P6.out.f4; have lx := X6.out.lt; obtain ⟨cx0, cx1, cx2, cx3⟩ := X6.out.c4; obtain ⟨fx0, fx1, fx2, fx3⟩ := X6.out.f4; have ly := Y6.out.lt; obtain ⟨cy0, cy1, cy2, cy3⟩ := Y6.out.c4; obtain ⟨fy0, fy1, fy2, fy3⟩ := Y6.out.f4))
      obtain ⟨d0, d1, d2, d3⟩ := (X6.out.set4 (.string s0) (.int .i64 p0) (.int .i64 e0) (.int .i64 o0)).c4
      refine bodyPost_ret (v := .tuple #[.agg #[.string s0, .int .i64 p0, .int .i64 e0, .int .i64 o0], .string ⟨#[]⟩]) (by simp [results, Try.results15, go_sem, d0, d1, d2, d3]) rfl ⟨ret_rs HX.out.symm, ?_⟩
      exact Below.set4 B6.out (w.heap.size + 1) (by omega) _ _ _ _
set_option maxRecDepth 100000 in
set_option maxHeartbeats 2000000 in
theorem rFail_any (s : ByteArray) (p e o : Int) (err a : Int) (hs : s.size ≤ 9223372036854775807) (h1 : -9223372036854775808 ≤ err) (h2 : err ≤ 9223372036854775807) (h3 : -9223372036854775808 ≤ a) (h4 : a ≤ 9223372036854775807) (s' : ByteArray) (p' e' o' : Int) (H : Hid (failR s p e o err a = (s', p', e', o'))) (w : World) :
    Calls Try.prog 22 #[.agg #[.string s, .int .i64 p, .int .i64 e, .int .i64 o], .int .i64 err, .int .i64 a] w fun en w' => en = .returned (.agg #[.string s', .int .i64 p', .int .i64 e', .int .i64 o']) ∧ Below w.heap.size w w' := by
  have P1 := Lib.hid ((Box.new w 26 #[.string s, .int .i64 p, .int .i64 e, .int .i64 o]).alloc (.cells #[.string ⟨#[]⟩, .int .i64 0, .int .i64 0, .int .i64 0] 26))
  have X1 := Lib.hid (Box.new2 w (.cells #[.string s, .int .i64 p, .int .i64 e, .int .i64 o] 26) 26 #[.string ⟨#[]⟩, .int .i64 0, .int .i64 0, .int .i64 0])
  have B1 := Lib.hid (two_below w (.cells #[.string s, .int .i64 p, .int .i64 e, .int .i64 o] 26) (.cells #[.string ⟨#[]⟩, .int .i64 0, .int .i64 0, .int .i64 0] 26))
  obtain ⟨s0, p0, e0, o0, hc⟩ : ∃ s0 p0 e0 o0, cnt s p e o = (s0, p0, e0, o0) := ⟨_, _, _, _, rfl⟩
  obtain ⟨r1, r2, r3, r4, r5, r6, r7⟩ := cnt_ok hc
  have HC := Lib.hid hc
  have HI := Lib.hid (cnt_idem hc)
  have hx : withR s0 p0 e0 o0 (errF err) (offF s0 a) = (s', p', e', o') := by
    have h := H.out
    unfold failR at h
    rw [hc] at h
    exact h
  clear H hc
  have hss : ¬ (s0.size : Int) < 0 := by omega
  by_cases e1 : err < 1
  · by_cases a1 : a < 0
    · have HX : Hid (withR s0 p0 e0 o0 3 0 = (s', p', e', o')) := Lib.hid (by
        rw [show errF err = 3 by unfold errF; first | rw [if_pos (by omega)] | rw [if_neg (by omega)], show offF s0 a = 0 by unfold offF; omega] at hx
        exact hx)
      clear hx
      go_enter Try.func22, Try.ntmps22
      go_wp2_with (first
        | (go_at_call 50; (refine (rreader_any s p e o hs s0 p0 e0 o0 HC _).mono ?_); rintro en w2 ⟨rfl, hB⟩; have P2 := Lib.hid (P1.out.below hB); have X2 := Lib.hid (X1.out.below hB); have B2 := Lib.hid (below_then B1.out hB); clear hB; have lp := P2.out.lt; obtain ⟨cp0, cp1, cp2, cp3⟩ := P2.out.c4; obtain ⟨fp0, fp1, fp2, fp3⟩ := P2.out.f4; have lx := X2.out.lt; obtain ⟨cx0, cx1, cx2, cx3⟩ := X2.out.c4; obtain ⟨fx0, fx1, fx2, fx3⟩ := X2.out.f4; have P3 := Lib.hid (P2.out.set4 (.string s0) (.int .i64 p0) (.int .i64 e0) (.int .i64 o0)); have X3 := Lib.hid (X2.out.other4 (b' := w.heap.size) (by omega) (.string s0) (.int .i64 p0) (.int .i64 e0) (.int .i64 o0)); have B3 := Lib.hid (Below.set4 B2.out (w.heap.size) (by omega) (.string s0) (.int .i64 p0) (.int .i64 e0) (.int .i64 o0)))
        | (go_at_call 51; (refine (rfail_any s0 p0 e0 o0 3 0 s' p' e' o' HX _).mono ?_); rintro en w4 ⟨rfl, hB⟩; clear cp0 cp1 cp2 cp3 fp0 fp1 fp2 fp3 lp cx0 cx1 cx2 cx3 fx0 fx1 fx2 fx3 lx; have P4 := Lib.hid (P3.out.below hB); have X4 := Lib.hid (X3.out.below hB); have B4 := Lib.hid (below_then B3.out hB); clear hB; have lx := X4.out.lt; obtain ⟨cx0, cx1, cx2, cx3⟩ := X4.out.c4; obtain ⟨fx0, fx1, fx2, fx3⟩ := X4.out.f4))
      obtain ⟨d0, d1, d2, d3⟩ := (X4.out.set4 (.string s') (.int .i64 p') (.int .i64 e') (.int .i64 o')).c4
      refine bodyPost_ret (v := .agg #[.string s', .int .i64 p', .int .i64 e', .int .i64 o']) (by simp [results, Try.results22, go_sem, d0, d1, d2, d3]) rfl ⟨rfl, ?_⟩
      exact Below.set4 B4.out (w.heap.size + 1) (by omega) _ _ _ _
    · by_cases a2 : (s0.size : Int) < a
      · have HX : Hid (withR s0 p0 e0 o0 3 (s0.size : Int) = (s', p', e', o')) := Lib.hid (by
          rw [show errF err = 3 by unfold errF; first | rw [if_pos (by omega)] | rw [if_neg (by omega)], show offF s0 a = (s0.size : Int) by unfold offF; omega] at hx
          exact hx)
        clear hx
        go_enter Try.func22, Try.ntmps22
        go_wp2_with (first
          | (go_at_call 50; (refine (rreader_any s p e o hs s0 p0 e0 o0 HC _).mono ?_); rintro en w2 ⟨rfl, hB⟩; have P2 := Lib.hid (P1.out.below hB); have X2 := Lib.hid (X1.out.below hB); have B2 := Lib.hid (below_then B1.out hB); clear hB; have lp := P2.out.lt; obtain ⟨cp0, cp1, cp2, cp3⟩ := P2.out.c4; obtain ⟨fp0, fp1, fp2, fp3⟩ := P2.out.f4; have lx := X2.out.lt; obtain ⟨cx0, cx1, cx2, cx3⟩ := X2.out.c4; obtain ⟨fx0, fx1, fx2, fx3⟩ := X2.out.f4; have P3 := Lib.hid (P2.out.set4 (.string s0) (.int .i64 p0) (.int .i64 e0) (.int .i64 o0)); have X3 := Lib.hid (X2.out.other4 (b' := w.heap.size) (by omega) (.string s0) (.int .i64 p0) (.int .i64 e0) (.int .i64 o0)); have B3 := Lib.hid (Below.set4 B2.out (w.heap.size) (by omega) (.string s0) (.int .i64 p0) (.int .i64 e0) (.int .i64 o0)))
          | (go_at_call 51; (refine (rfail_any s0 p0 e0 o0 3 (s0.size : Int) s' p' e' o' HX _).mono ?_); rintro en w4 ⟨rfl, hB⟩; clear cp0 cp1 cp2 cp3 fp0 fp1 fp2 fp3 lp cx0 cx1 cx2 cx3 fx0 fx1 fx2 fx3 lx; have P4 := Lib.hid (P3.out.below hB); have X4 := Lib.hid (X3.out.below hB); have B4 := Lib.hid (below_then B3.out hB); clear hB; have lx := X4.out.lt; obtain ⟨cx0, cx1, cx2, cx3⟩ := X4.out.c4; obtain ⟨fx0, fx1, fx2, fx3⟩ := X4.out.f4))
        obtain ⟨d0, d1, d2, d3⟩ := (X4.out.set4 (.string s') (.int .i64 p') (.int .i64 e') (.int .i64 o')).c4
        refine bodyPost_ret (v := .agg #[.string s', .int .i64 p', .int .i64 e', .int .i64 o']) (by simp [results, Try.results22, go_sem, d0, d1, d2, d3]) rfl ⟨rfl, ?_⟩
        exact Below.set4 B4.out (w.heap.size + 1) (by omega) _ _ _ _
      · have HX : Hid (withR s0 p0 e0 o0 3 a = (s', p', e', o')) := Lib.hid (by
          rw [show errF err = 3 by unfold errF; first | rw [if_pos (by omega)] | rw [if_neg (by omega)], show offF s0 a = a by unfold offF; omega] at hx
          exact hx)
        clear hx
        go_enter Try.func22, Try.ntmps22
        go_wp2_with (first
          | (go_at_call 50; (refine (rreader_any s p e o hs s0 p0 e0 o0 HC _).mono ?_); rintro en w2 ⟨rfl, hB⟩; have P2 := Lib.hid (P1.out.below hB); have X2 := Lib.hid (X1.out.below hB); have B2 := Lib.hid (below_then B1.out hB); clear hB; have lp := P2.out.lt; obtain ⟨cp0, cp1, cp2, cp3⟩ := P2.out.c4; obtain ⟨fp0, fp1, fp2, fp3⟩ := P2.out.f4; have lx := X2.out.lt; obtain ⟨cx0, cx1, cx2, cx3⟩ := X2.out.c4; obtain ⟨fx0, fx1, fx2, fx3⟩ := X2.out.f4; have P3 := Lib.hid (P2.out.set4 (.string s0) (.int .i64 p0) (.int .i64 e0) (.int .i64 o0)); have X3 := Lib.hid (X2.out.other4 (b' := w.heap.size) (by omega) (.string s0) (.int .i64 p0) (.int .i64 e0) (.int .i64 o0)); have B3 := Lib.hid (Below.set4 B2.out (w.heap.size) (by omega) (.string s0) (.int .i64 p0) (.int .i64 e0) (.int .i64 o0)))
          | (go_at_call 51; (refine (rfail_any s0 p0 e0 o0 3 a s' p' e' o' HX _).mono ?_); rintro en w4 ⟨rfl, hB⟩; clear cp0 cp1 cp2 cp3 fp0 fp1 fp2 fp3 lp cx0 cx1 cx2 cx3 fx0 fx1 fx2 fx3 lx; have P4 := Lib.hid (P3.out.below hB); have X4 := Lib.hid (X3.out.below hB); have B4 := Lib.hid (below_then B3.out hB); clear hB; have lx := X4.out.lt; obtain ⟨cx0, cx1, cx2, cx3⟩ := X4.out.c4; obtain ⟨fx0, fx1, fx2, fx3⟩ := X4.out.f4))
        obtain ⟨d0, d1, d2, d3⟩ := (X4.out.set4 (.string s') (.int .i64 p') (.int .i64 e') (.int .i64 o')).c4
        refine bodyPost_ret (v := .agg #[.string s', .int .i64 p', .int .i64 e', .int .i64 o']) (by simp [results, Try.results22, go_sem, d0, d1, d2, d3]) rfl ⟨rfl, ?_⟩
        exact Below.set4 B4.out (w.heap.size + 1) (by omega) _ _ _ _
  · by_cases e2 : 31 < err
    · by_cases a1 : a < 0
      · have HX : Hid (withR s0 p0 e0 o0 3 0 = (s', p', e', o')) := Lib.hid (by
          rw [show errF err = 3 by unfold errF; first | rw [if_pos (by omega)] | rw [if_neg (by omega)], show offF s0 a = 0 by unfold offF; omega] at hx
          exact hx)
        clear hx
        go_enter Try.func22, Try.ntmps22
        go_wp2_with (first
          | (go_at_call 50; (refine (rreader_any s p e o hs s0 p0 e0 o0 HC _).mono ?_); rintro en w2 ⟨rfl, hB⟩; have P2 := Lib.hid (P1.out.below hB); have X2 := Lib.hid (X1.out.below hB); have B2 := Lib.hid (below_then B1.out hB); clear hB; have lp := P2.out.lt; obtain ⟨cp0, cp1, cp2, cp3⟩ := P2.out.c4; obtain ⟨fp0, fp1, fp2, fp3⟩ := P2.out.f4; have lx := X2.out.lt; obtain ⟨cx0, cx1, cx2, cx3⟩ := X2.out.c4; obtain ⟨fx0, fx1, fx2, fx3⟩ := X2.out.f4; have P3 := Lib.hid (P2.out.set4 (.string s0) (.int .i64 p0) (.int .i64 e0) (.int .i64 o0)); have X3 := Lib.hid (X2.out.other4 (b' := w.heap.size) (by omega) (.string s0) (.int .i64 p0) (.int .i64 e0) (.int .i64 o0)); have B3 := Lib.hid (Below.set4 B2.out (w.heap.size) (by omega) (.string s0) (.int .i64 p0) (.int .i64 e0) (.int .i64 o0)))
          | (go_at_call 51; (refine (rfail_any s0 p0 e0 o0 3 0 s' p' e' o' HX _).mono ?_); rintro en w4 ⟨rfl, hB⟩; clear cp0 cp1 cp2 cp3 fp0 fp1 fp2 fp3 lp cx0 cx1 cx2 cx3 fx0 fx1 fx2 fx3 lx; have P4 := Lib.hid (P3.out.below hB); have X4 := Lib.hid (X3.out.below hB); have B4 := Lib.hid (below_then B3.out hB); clear hB; have lx := X4.out.lt; obtain ⟨cx0, cx1, cx2, cx3⟩ := X4.out.c4; obtain ⟨fx0, fx1, fx2, fx3⟩ := X4.out.f4))
        obtain ⟨d0, d1, d2, d3⟩ := (X4.out.set4 (.string s') (.int .i64 p') (.int .i64 e') (.int .i64 o')).c4
        refine bodyPost_ret (v := .agg #[.string s', .int .i64 p', .int .i64 e', .int .i64 o']) (by simp [results, Try.results22, go_sem, d0, d1, d2, d3]) rfl ⟨rfl, ?_⟩
        exact Below.set4 B4.out (w.heap.size + 1) (by omega) _ _ _ _
      · by_cases a2 : (s0.size : Int) < a
        · have HX : Hid (withR s0 p0 e0 o0 3 (s0.size : Int) = (s', p', e', o')) := Lib.hid (by
            rw [show errF err = 3 by unfold errF; first | rw [if_pos (by omega)] | rw [if_neg (by omega)], show offF s0 a = (s0.size : Int) by unfold offF; omega] at hx
            exact hx)
          clear hx
          go_enter Try.func22, Try.ntmps22
          go_wp2_with (first
            | (go_at_call 50; (refine (rreader_any s p e o hs s0 p0 e0 o0 HC _).mono ?_); rintro en w2 ⟨rfl, hB⟩; have P2 := Lib.hid (P1.out.below hB); have X2 := Lib.hid (X1.out.below hB); have B2 := Lib.hid (below_then B1.out hB); clear hB; have lp := P2.out.lt; obtain ⟨cp0, cp1, cp2, cp3⟩ := P2.out.c4; obtain ⟨fp0, fp1, fp2, fp3⟩ := P2.out.f4; have lx := X2.out.lt; obtain ⟨cx0, cx1, cx2, cx3⟩ := X2.out.c4; obtain ⟨fx0, fx1, fx2, fx3⟩ := X2.out.f4; have P3 := Lib.hid (P2.out.set4 (.string s0) (.int .i64 p0) (.int .i64 e0) (.int .i64 o0)); have X3 := Lib.hid (X2.out.other4 (b' := w.heap.size) (by omega) (.string s0) (.int .i64 p0) (.int .i64 e0) (.int .i64 o0)); have B3 := Lib.hid (Below.set4 B2.out (w.heap.size) (by omega) (.string s0) (.int .i64 p0) (.int .i64 e0) (.int .i64 o0)))
            | (go_at_call 51; (refine (rfail_any s0 p0 e0 o0 3 (s0.size : Int) s' p' e' o' HX _).mono ?_); rintro en w4 ⟨rfl, hB⟩; clear cp0 cp1 cp2 cp3 fp0 fp1 fp2 fp3 lp cx0 cx1 cx2 cx3 fx0 fx1 fx2 fx3 lx; have P4 := Lib.hid (P3.out.below hB); have X4 := Lib.hid (X3.out.below hB); have B4 := Lib.hid (below_then B3.out hB); clear hB; have lx := X4.out.lt; obtain ⟨cx0, cx1, cx2, cx3⟩ := X4.out.c4; obtain ⟨fx0, fx1, fx2, fx3⟩ := X4.out.f4))
          obtain ⟨d0, d1, d2, d3⟩ := (X4.out.set4 (.string s') (.int .i64 p') (.int .i64 e') (.int .i64 o')).c4
          refine bodyPost_ret (v := .agg #[.string s', .int .i64 p', .int .i64 e', .int .i64 o']) (by simp [results, Try.results22, go_sem, d0, d1, d2, d3]) rfl ⟨rfl, ?_⟩
          exact Below.set4 B4.out (w.heap.size + 1) (by omega) _ _ _ _
        · have HX : Hid (withR s0 p0 e0 o0 3 a = (s', p', e', o')) := Lib.hid (by
            rw [show errF err = 3 by unfold errF; first | rw [if_pos (by omega)] | rw [if_neg (by omega)], show offF s0 a = a by unfold offF; omega] at hx
            exact hx)
          clear hx
          go_enter Try.func22, Try.ntmps22
          go_wp2_with (first
            | (go_at_call 50; (refine (rreader_any s p e o hs s0 p0 e0 o0 HC _).mono ?_); rintro en w2 ⟨rfl, hB⟩; have P2 := Lib.hid (P1.out.below hB); have X2 := Lib.hid (X1.out.below hB); have B2 := Lib.hid (below_then B1.out hB); clear hB; have lp := P2.out.lt; obtain ⟨cp0, cp1, cp2, cp3⟩ := P2.out.c4; obtain ⟨fp0, fp1, fp2, fp3⟩ := P2.out.f4; have lx := X2.out.lt; obtain ⟨cx0, cx1, cx2, cx3⟩ := X2.out.c4; obtain ⟨fx0, fx1, fx2, fx3⟩ := X2.out.f4; have P3 := Lib.hid (P2.out.set4 (.string s0) (.int .i64 p0) (.int .i64 e0) (.int .i64 o0)); have X3 := Lib.hid (X2.out.other4 (b' := w.heap.size) (by omega) (.string s0) (.int .i64 p0) (.int .i64 e0) (.int .i64 o0)); have B3 := Lib.hid (Below.set4 B2.out (w.heap.size) (by omega) (.string s0) (.int .i64 p0) (.int .i64 e0) (.int .i64 o0)))
            | (go_at_call 51; (refine (rfail_any s0 p0 e0 o0 3 a s' p' e' o' HX _).mono ?_); rintro en w4 ⟨rfl, hB⟩; clear cp0 cp1 cp2 cp3 fp0 fp1 fp2 fp3 lp cx0 cx1 cx2 cx3 fx0 fx1 fx2 fx3 lx; have P4 := Lib.hid (P3.out.below hB); have X4 := Lib.hid (X3.out.below hB); have B4 := Lib.hid (below_then B3.out hB); clear hB; have lx := X4.out.lt; obtain ⟨cx0, cx1, cx2, cx3⟩ := X4.out.c4; obtain ⟨fx0, fx1, fx2, fx3⟩ := X4.out.f4))
          obtain ⟨d0, d1, d2, d3⟩ := (X4.out.set4 (.string s') (.int .i64 p') (.int .i64 e') (.int .i64 o')).c4
          refine bodyPost_ret (v := .agg #[.string s', .int .i64 p', .int .i64 e', .int .i64 o']) (by simp [results, Try.results22, go_sem, d0, d1, d2, d3]) rfl ⟨rfl, ?_⟩
          exact Below.set4 B4.out (w.heap.size + 1) (by omega) _ _ _ _
    · by_cases a1 : a < 0
      · have HX : Hid (withR s0 p0 e0 o0 err 0 = (s', p', e', o')) := Lib.hid (by
          rw [show errF err = err by unfold errF; first | rw [if_pos (by omega)] | rw [if_neg (by omega)], show offF s0 a = 0 by unfold offF; omega] at hx
          exact hx)
        clear hx
        go_enter Try.func22, Try.ntmps22
        go_wp2_with (first
          | (go_at_call 50; (refine (rreader_any s p e o hs s0 p0 e0 o0 HC _).mono ?_); rintro en w2 ⟨rfl, hB⟩; have P2 := Lib.hid (P1.out.below hB); have X2 := Lib.hid (X1.out.below hB); have B2 := Lib.hid (below_then B1.out hB); clear hB; have lp := P2.out.lt; obtain ⟨cp0, cp1, cp2, cp3⟩ := P2.out.c4; obtain ⟨fp0, fp1, fp2, fp3⟩ := P2.out.f4; have lx := X2.out.lt; obtain ⟨cx0, cx1, cx2, cx3⟩ := X2.out.c4; obtain ⟨fx0, fx1, fx2, fx3⟩ := X2.out.f4; have P3 := Lib.hid (P2.out.set4 (.string s0) (.int .i64 p0) (.int .i64 e0) (.int .i64 o0)); have X3 := Lib.hid (X2.out.other4 (b' := w.heap.size) (by omega) (.string s0) (.int .i64 p0) (.int .i64 e0) (.int .i64 o0)); have B3 := Lib.hid (Below.set4 B2.out (w.heap.size) (by omega) (.string s0) (.int .i64 p0) (.int .i64 e0) (.int .i64 o0)))
          | (go_at_call 51; (refine (rfail_any s0 p0 e0 o0 err 0 s' p' e' o' HX _).mono ?_); rintro en w4 ⟨rfl, hB⟩; clear cp0 cp1 cp2 cp3 fp0 fp1 fp2 fp3 lp cx0 cx1 cx2 cx3 fx0 fx1 fx2 fx3 lx; have P4 := Lib.hid (P3.out.below hB); have X4 := Lib.hid (X3.out.below hB); have B4 := Lib.hid (below_then B3.out hB); clear hB; have lx := X4.out.lt; obtain ⟨cx0, cx1, cx2, cx3⟩ := X4.out.c4; obtain ⟨fx0, fx1, fx2, fx3⟩ := X4.out.f4))
        obtain ⟨d0, d1, d2, d3⟩ := (X4.out.set4 (.string s') (.int .i64 p') (.int .i64 e') (.int .i64 o')).c4
        refine bodyPost_ret (v := .agg #[.string s', .int .i64 p', .int .i64 e', .int .i64 o']) (by simp [results, Try.results22, go_sem, d0, d1, d2, d3]) rfl ⟨rfl, ?_⟩
        exact Below.set4 B4.out (w.heap.size + 1) (by omega) _ _ _ _
      · by_cases a2 : (s0.size : Int) < a
        · have HX : Hid (withR s0 p0 e0 o0 err (s0.size : Int) = (s', p', e', o')) := Lib.hid (by
            rw [show errF err = err by unfold errF; first | rw [if_pos (by omega)] | rw [if_neg (by omega)], show offF s0 a = (s0.size : Int) by unfold offF; omega] at hx
            exact hx)
          clear hx
          go_enter Try.func22, Try.ntmps22
          go_wp2_with (first
            | (go_at_call 50; (refine (rreader_any s p e o hs s0 p0 e0 o0 HC _).mono ?_); rintro en w2 ⟨rfl, hB⟩; have P2 := Lib.hid (P1.out.below hB); have X2 := Lib.hid (X1.out.below hB); have B2 := Lib.hid (below_then B1.out hB); clear hB; have lp := P2.out.lt; obtain ⟨cp0, cp1, cp2, cp3⟩ := P2.out.c4; obtain ⟨fp0, fp1, fp2, fp3⟩ := P2.out.f4; have lx := X2.out.lt; obtain ⟨cx0, cx1, cx2, cx3⟩ := X2.out.c4; obtain ⟨fx0, fx1, fx2, fx3⟩ := X2.out.f4; have P3 := Lib.hid (P2.out.set4 (.string s0) (.int .i64 p0) (.int .i64 e0) (.int .i64 o0)); have X3 := Lib.hid (X2.out.other4 (b' := w.heap.size) (by omega) (.string s0) (.int .i64 p0) (.int .i64 e0) (.int .i64 o0)); have B3 := Lib.hid (Below.set4 B2.out (w.heap.size) (by omega) (.string s0) (.int .i64 p0) (.int .i64 e0) (.int .i64 o0)))
            | (go_at_call 51; (refine (rfail_any s0 p0 e0 o0 err (s0.size : Int) s' p' e' o' HX _).mono ?_); rintro en w4 ⟨rfl, hB⟩; clear cp0 cp1 cp2 cp3 fp0 fp1 fp2 fp3 lp cx0 cx1 cx2 cx3 fx0 fx1 fx2 fx3 lx; have P4 := Lib.hid (P3.out.below hB); have X4 := Lib.hid (X3.out.below hB); have B4 := Lib.hid (below_then B3.out hB); clear hB; have lx := X4.out.lt; obtain ⟨cx0, cx1, cx2, cx3⟩ := X4.out.c4; obtain ⟨fx0, fx1, fx2, fx3⟩ := X4.out.f4))
          obtain ⟨d0, d1, d2, d3⟩ := (X4.out.set4 (.string s') (.int .i64 p') (.int .i64 e') (.int .i64 o')).c4
          refine bodyPost_ret (v := .agg #[.string s', .int .i64 p', .int .i64 e', .int .i64 o']) (by simp [results, Try.results22, go_sem, d0, d1, d2, d3]) rfl ⟨rfl, ?_⟩
          exact Below.set4 B4.out (w.heap.size + 1) (by omega) _ _ _ _
        · have HX : Hid (withR s0 p0 e0 o0 err a = (s', p', e', o')) := Lib.hid (by
            rw [show errF err = err by unfold errF; first | rw [if_pos (by omega)] | rw [if_neg (by omega)], show offF s0 a = a by unfold offF; omega] at hx
            exact hx)
          clear hx
          go_enter Try.func22, Try.ntmps22
          go_wp2_with (first
            | (go_at_call 50; (refine (rreader_any s p e o hs s0 p0 e0 o0 HC _).mono ?_); rintro en w2 ⟨rfl, hB⟩; have P2 := Lib.hid (P1.out.below hB); have X2 := Lib.hid (X1.out.below hB); have B2 := Lib.hid (below_then B1.out hB); clear hB; have lp := P2.out.lt; obtain ⟨cp0, cp1, cp2, cp3⟩ := P2.out.c4; obtain ⟨fp0, fp1, fp2, fp3⟩ := P2.out.f4; have lx := X2.out.lt; obtain ⟨cx0, cx1, cx2, cx3⟩ := X2.out.c4; obtain ⟨fx0, fx1, fx2, fx3⟩ := X2.out.f4; have P3 := Lib.hid (P2.out.set4 (.string s0) (.int .i64 p0) (.int .i64 e0) (.int .i64 o0)); have X3 := Lib.hid (X2.out.other4 (b' := w.heap.size) (by omega) (.string s0) (.int .i64 p0) (.int .i64 e0) (.int .i64 o0)); have B3 := Lib.hid (Below.set4 B2.out (w.heap.size) (by omega) (.string s0) (.int .i64 p0) (.int .i64 e0) (.int .i64 o0)))
            | (go_at_call 51; (refine (rfail_any s0 p0 e0 o0 err a s' p' e' o' HX _).mono ?_); rintro en w4 ⟨rfl, hB⟩; clear cp0 cp1 cp2 cp3 fp0 fp1 fp2 fp3 lp cx0 cx1 cx2 cx3 fx0 fx1 fx2 fx3 lx; have P4 := Lib.hid (P3.out.below hB); have X4 := Lib.hid (X3.out.below hB); have B4 := Lib.hid (below_then B3.out hB); clear hB; have lx := X4.out.lt; obtain ⟨cx0, cx1, cx2, cx3⟩ := X4.out.c4; obtain ⟨fx0, fx1, fx2, fx3⟩ := X4.out.f4))
          obtain ⟨d0, d1, d2, d3⟩ := (X4.out.set4 (.string s') (.int .i64 p') (.int .i64 e') (.int .i64 o')).c4
          refine bodyPost_ret (v := .agg #[.string s', .int .i64 p', .int .i64 e', .int .i64 o']) (by simp [results, Try.results22, go_sem, d0, d1, d2, d3]) rfl ⟨rfl, ?_⟩
          exact Below.set4 B4.out (w.heap.size + 1) (by omega) _ _ _ _
set_option maxRecDepth 100000 in
set_option maxHeartbeats 2000000 in
theorem rend_any (s : ByteArray) (p e o : Int) (hs : s.size ≤ 9223372036854775807) (fe fo : Int) (H : Hid (endF s p e o = (fe, fo))) (w : World) :
    Calls Try.prog 24 #[.agg #[.string s, .int .i64 p, .int .i64 e, .int .i64 o]] w fun en w' => en = .returned (.agg #[.int .i64 fe, .int .i64 fo]) ∧ Below w.heap.size w w' := by
  have P1 := Lib.hid ((Box.new w 26 #[.string s, .int .i64 p, .int .i64 e, .int .i64 o]).alloc (.cells #[.int .i64 0, .int .i64 0] 24))
  have X1 := Lib.hid (Box.new2 w (.cells #[.string s, .int .i64 p, .int .i64 e, .int .i64 o] 26) 24 #[.int .i64 0, .int .i64 0])
  have B1 := Lib.hid (two_below w (.cells #[.string s, .int .i64 p, .int .i64 e, .int .i64 o] 26) (.cells #[.int .i64 0, .int .i64 0] 24))
  obtain ⟨s0, p0, e0, o0, hc⟩ : ∃ s0 p0 e0 o0, cnt s p e o = (s0, p0, e0, o0) := ⟨_, _, _, _, rfl⟩
  obtain ⟨r1, r2, r3, r4, r5, r6, r7⟩ := cnt_ok hc
  have HC := Lib.hid hc
  have hx := H.out
  unfold endF at hx
  rw [hc] at hx
  simp only [] at hx
  clear H hc
  by_cases hl : p0 < (s0.size : Int)
  · obtain ⟨sx, px, ex, ox, hw⟩ : ∃ sx px ex ox, withR s0 p0 e0 o0 4 p0 = (sx, px, ex, ox) := ⟨_, _, _, _, rfl⟩
    have HX : Hid ((ex, ox) = (fe, fo)) := Lib.hid (by
      rw [← hx]
      unfold withR at hw
      by_cases he : e0 = 0
      · rw [if_pos he] at hw; rw [if_pos ⟨he, hl⟩]; cases hw; rfl
      · rw [if_neg he] at hw; rw [if_neg (by omega)]; cases hw; rfl)
    have HW := Lib.hid hw
    clear hx hw
    go_enter Try.func24, Try.ntmps24
    go_wp2_with (first
      | (go_at_call 50; (refine (rreader_any s p e o hs s0 p0 e0 o0 HC _).mono ?_); rintro en w2 ⟨rfl, hB⟩; have P2 := Lib.hid (P1.out.below hB); have X2 := Lib.hid (X1.out.below hB); have B2 := Lib.hid (below_then B1.out hB); clear hB; have lp := P2.out.lt; obtain ⟨cp0, cp1, cp2, cp3⟩ := P2.out.c4; obtain ⟨fp0, fp1, fp2, fp3⟩ := P2.out.f4; have lx := X2.out.lt; obtain ⟨cx0, cx1⟩ := X2.out.cell2; obtain ⟨fx0, fx1⟩ := X2.out.free2; have P3 := Lib.hid (P2.out.set4 (.string s0) (.int .i64 p0) (.int .i64 e0) (.int .i64 o0)); have X3 := Lib.hid (X2.out.other4 (b' := w.heap.size) (by omega) (.string s0) (.int .i64 p0) (.int .i64 e0) (.int .i64 o0)); have B3 := Lib.hid (Below.set4 B2.out (w.heap.size) (by omega) (.string s0) (.int .i64 p0) (.int .i64 e0) (.int .i64 o0)))
      | (go_at_call 51; (refine (rfail_any s0 p0 e0 o0 4 p0 sx px ex ox HW _).mono ?_); rintro en w4 ⟨rfl, hB⟩; clear cp0 cp1 cp2 cp3 fp0 fp1 fp2 fp3 lp cx0 cx1 fx0 fx1 lx; have P4 := Lib.hid (P3.out.below hB); have X4 := Lib.hid (X3.out.below hB); have B4 := Lib.hid (below_then B3.out hB); clear hB; have lp := P4.out.lt; obtain ⟨cp0, cp1, cp2, cp3⟩ := P4.out.c4; obtain ⟨fp0, fp1, fp2, fp3⟩ := P4.out.f4; have lx := X4.out.lt; obtain ⟨cx0, cx1⟩ := X4.out.cell2; obtain ⟨fx0, fx1⟩ := X4.out.free2; have P5 := Lib.hid (P4.out.set4 (.string sx) (.int .i64 px) (.int .i64 ex) (.int .i64 ox)); have X5 := Lib.hid (X4.out.other4 (b' := w.heap.size) (by omega) (.string sx) (.int .i64 px) (.int .i64 ex) (.int .i64 ox)); have B5 := Lib.hid (Below.set4 B4.out (w.heap.size) (by omega) (.string sx) (.int .i64 px) (.int .i64 ex) (.int .i64 ox))))
    obtain ⟨d0, d1⟩ := (X5.out.set2 (.int .i64 ex) (.int .i64 ox)).cell2
    refine bodyPost_ret (v := .agg #[.int .i64 ex, .int .i64 ox]) (by simp [results, Try.results24, go_sem, d0, d1]) rfl ?_
    have BE := Below.set2 B5.out (w.heap.size + 1) (by omega) (.int .i64 ex) (.int .i64 ox)
    cases HX.out
    exact ⟨rfl, BE⟩
  · have HX : Hid ((e0, o0) = (fe, fo)) := Lib.hid (by rw [← hx, if_neg (by omega)])
    have hl2 : (s0.size : Int) ≤ p0 := by omega
    clear hx hl
    go_enter Try.func24, Try.ntmps24
    go_wp2_with (first
      | (go_at_call 50; (refine (rreader_any s p e o hs s0 p0 e0 o0 HC _).mono ?_); rintro en w2 ⟨rfl, hB⟩; have P2 := Lib.hid (P1.out.below hB); have X2 := Lib.hid (X1.out.below hB); have B2 := Lib.hid (below_then B1.out hB); clear hB; have lp := P2.out.lt; obtain ⟨cp0, cp1, cp2, cp3⟩ := P2.out.c4; obtain ⟨fp0, fp1, fp2, fp3⟩ := P2.out.f4; have lx := X2.out.lt; obtain ⟨cx0, cx1⟩ := X2.out.cell2; obtain ⟨fx0, fx1⟩ := X2.out.free2; have P3 := Lib.hid (P2.out.set4 (.string s0) (.int .i64 p0) (.int .i64 e0) (.int .i64 o0)); have X3 := Lib.hid (X2.out.other4 (b' := w.heap.size) (by omega) (.string s0) (.int .i64 p0) (.int .i64 e0) (.int .i64 o0)); have B3 := Lib.hid (Below.set4 B2.out (w.heap.size) (by omega) (.string s0) (.int .i64 p0) (.int .i64 e0) (.int .i64 o0))))
    obtain ⟨d0, d1⟩ := (X3.out.set2 (.int .i64 e0) (.int .i64 o0)).cell2
    refine bodyPost_ret (v := .agg #[.int .i64 e0, .int .i64 o0]) (by simp [results, Try.results24, go_sem, d0, d1]) rfl ?_
    have BE := Below.set2 B3.out (w.heap.size + 1) (by omega) (.int .i64 e0) (.int .i64 o0)
    cases HX.out
    exact ⟨rfl, BE⟩
end Go.Proofs.Ytkepnjnindolbaa.s05
