/-
  Layer 5, the reference's side: Number, Fixed, String.
-/
import Derived.Test.YtkepnjnindolbaaS05U
namespace Go.Proofs.Ytkepnjnindolbaa.s05
set_option linter.unusedVariables false
set_option linter.unusedSimpArgs false
open Go.RowKit
open kit

theorem fldR_range {α : Type} {z : α} {F : ByteArray → Int → α × Int × Int × Int} {s : ByteArray} {p e o : Int} {s' : ByteArray} {p' e' o' : Int} (h : cnt s p e o = (s', p', e', o')) {nx er of : Int} (hF : F s' p' = (z, nx, er, of)) (he : er ≠ 0) : fldR z F s p e o = (withR s' p' e' o' er of, z) := by
  by_cases h0 : e' = 0
  · subst h0
    have : o' = 0 := (cnt_ok h).2.2.2.2.2.2 rfl
    subst this
    exact fldR_new h hF he
  · rw [fldR_old h h0, with_old h0]
theorem bnd_max (s : ByteArray) (a : Int) : bnd s a 18446744073709551615 = rd s a := by
  unfold bnd
  split
  · rename_i h
    obtain ⟨n, nx, er, p, hr⟩ : ∃ n nx er p, rd s a = (n, nx, er, p) := ⟨_, _, _, _, rfl⟩
    rw [hr] at h ⊢
    simp only at h
    have := (rd_bounds s a hr).1 h
    rw [if_neg (by simp only; omega)]
  · rfl
set_option maxRecDepth 100000 in
set_option maxHeartbeats 2000000 in
theorem rnumber_any (s : ByteArray) (p e o : Int) (least most : Int) (hs : s.size ≤ 9223372036854775807) (hleast1 : -9223372036854775808 ≤ least) (hleast2 : least ≤ 9223372036854775807) (hmost1 : -9223372036854775808 ≤ most) (hmost2 : most ≤ 9223372036854775807) (s' : ByteArray) (p' e' o' n : Int) (H : Hid (fldR (0 : Int) (numF least most) s p e o = ((s', p', e', o'), n))) (w : World) :
    Calls Try.prog 11 #[.agg #[.string s, .int .i64 p, .int .i64 e, .int .i64 o], .int .i64 least, .int .i64 most] w fun en w' => en = .returned (.tuple #[.agg #[.string s', .int .i64 p', .int .i64 e', .int .i64 o'], .int .i64 n]) ∧ Below w.heap.size w w' := by
  have P1 := Lib.hid ((Box.new w 26 #[.string s, .int .i64 p, .int .i64 e, .int .i64 o]).alloc (.cells #[.string ⟨#[]⟩, .int .i64 0, .int .i64 0, .int .i64 0] 26))
  have X1 := Lib.hid (Box.new2 w (.cells #[.string s, .int .i64 p, .int .i64 e, .int .i64 o] 26) 26 #[.string ⟨#[]⟩, .int .i64 0, .int .i64 0, .int .i64 0])
  have B1 := Lib.hid (two_below w (.cells #[.string s, .int .i64 p, .int .i64 e, .int .i64 o] 26) (.cells #[.string ⟨#[]⟩, .int .i64 0, .int .i64 0, .int .i64 0] 26))
  obtain ⟨s0, p0, e0, o0, hc⟩ : ∃ s0 p0 e0 o0, cnt s p e o = (s0, p0, e0, o0) := ⟨_, _, _, _, rfl⟩
  obtain ⟨r1, r2, r3, r4, r5, r6, r7⟩ := cnt_ok hc
  have HC := Lib.hid hc
  have HI := Lib.hid (cnt_idem hc)
  by_cases hr : least < 0 ∨ most < least
  · have hF : numF least most s0 p0 = (0, 0, 2, p0) := by unfold numF; rw [if_pos hr]
    obtain ⟨sx, px, ex, ox, hw⟩ : ∃ sx px ex ox, withR s0 p0 e0 o0 2 p0 = (sx, px, ex, ox) := ⟨_, _, _, _, rfl⟩
    have HX := Lib.hid (H.out.symm.trans ((fldR_range hc hF (by omega)).trans (by rw [hw] : _ = ((sx, px, ex, ox), (0 : Int)))))
    have HW := Lib.hid hw
    clear H hc hF hw
    by_cases hl : least < 0
    · clear hr
      go_enter Try.func11, Try.ntmps11
      go_wp2_with (first
        | (go_at_call 50; (refine (rreader_any s p e o hs s0 p0 e0 o0 HC _).mono ?_); rintro en w2 ⟨rfl, hB⟩; have P2 := Lib.hid (P1.out.below hB); have X2 := Lib.hid (X1.out.below hB); have B2 := Lib.hid (below_then B1.out hB); clear hB; have lp := P2.out.lt; obtain ⟨cp0, cp1, cp2, cp3⟩ := P2.out.c4; obtain ⟨fp0, fp1, fp2, fp3⟩ := P2.out.f4; have lx := X2.out.lt; obtain ⟨cx0, cx1, cx2, cx3⟩ := X2.out.c4; obtain ⟨fx0, fx1, fx2, fx3⟩ := X2.out.f4; have P3 := Lib.hid (P2.out.set4 (.string s0) (.int .i64 p0) (.int .i64 e0) (.int .i64 o0)); have X3 := Lib.hid (X2.out.other4 (b' := w.heap.size) (by omega) (.string s0) (.int .i64 p0) (.int .i64 e0) (.int .i64 o0)); have B3 := Lib.hid (Below.set4 B2.out (w.heap.size) (by omega) (.string s0) (.int .i64 p0) (.int .i64 e0) (.int .i64 o0)))
        | (go_at_call 51; (refine (rfail_any s0 p0 e0 o0 2 p0 sx px ex ox HW _).mono ?_); rintro en w4 ⟨rfl, hB⟩; clear cp0 cp1 cp2 cp3 fp0 fp1 fp2 fp3 lp cx0 cx1 cx2 cx3 fx0 fx1 fx2 fx3 lx; have P4 := Lib.hid (P3.out.below hB); have X4 := Lib.hid (X3.out.below hB); have B4 := Lib.hid (below_then B3.out hB); clear hB; have lx := X4.out.lt; obtain ⟨cx0, cx1, cx2, cx3⟩ := X4.out.c4; obtain ⟨fx0, fx1, fx2, fx3⟩ := X4.out.f4))
      obtain ⟨d0, d1, d2, d3⟩ := (X4.out.set4 (.string sx) (.int .i64 px) (.int .i64 ex) (.int .i64 ox)).c4
      refine bodyPost_ret (v := .tuple #[.agg #[.string sx, .int .i64 px, .int .i64 ex, .int .i64 ox], .int .i64 0]) (by simp [results, Try.results11, go_sem, d0, d1, d2, d3]) rfl ⟨ret_rn HX.out.symm, ?_⟩
      exact Below.set4 B4.out (w.heap.size + 1) (by omega) _ _ _ _
    · have hl2 : most < least := by omega
      clear hr
      go_enter Try.func11, Try.ntmps11
      go_wp2_with (first
        | (go_at_call 50; (refine (rreader_any s p e o hs s0 p0 e0 o0 HC _).mono ?_); rintro en w2 ⟨rfl, hB⟩; have P2 := Lib.hid (P1.out.below hB); have X2 := Lib.hid (X1.out.below hB); have B2 := Lib.hid (below_then B1.out hB); clear hB; have lp := P2.out.lt; obtain ⟨cp0, cp1, cp2, cp3⟩ := P2.out.c4; obtain ⟨fp0, fp1, fp2, fp3⟩ := P2.out.f4; have lx := X2.out.lt; obtain ⟨cx0, cx1, cx2, cx3⟩ := X2.out.c4; obtain ⟨fx0, fx1, fx2, fx3⟩ := X2.out.f4; have P3 := Lib.hid (P2.out.set4 (.string s0) (.int .i64 p0) (.int .i64 e0) (.int .i64 o0)); have X3 := Lib.hid (X2.out.other4 (b' := w.heap.size) (by omega) (.string s0) (.int .i64 p0) (.int .i64 e0) (.int .i64 o0)); have B3 := Lib.hid (Below.set4 B2.out (w.heap.size) (by omega) (.string s0) (.int .i64 p0) (.int .i64 e0) (.int .i64 o0)))
        | (go_at_call 51; (refine (rfail_any s0 p0 e0 o0 2 p0 sx px ex ox HW _).mono ?_); rintro en w4 ⟨rfl, hB⟩; clear cp0 cp1 cp2 cp3 fp0 fp1 fp2 fp3 lp cx0 cx1 cx2 cx3 fx0 fx1 fx2 fx3 lx; have P4 := Lib.hid (P3.out.below hB); have X4 := Lib.hid (X3.out.below hB); have B4 := Lib.hid (below_then B3.out hB); clear hB; have lx := X4.out.lt; obtain ⟨cx0, cx1, cx2, cx3⟩ := X4.out.c4; obtain ⟨fx0, fx1, fx2, fx3⟩ := X4.out.f4))
      obtain ⟨d0, d1, d2, d3⟩ := (X4.out.set4 (.string sx) (.int .i64 px) (.int .i64 ex) (.int .i64 ox)).c4
      refine bodyPost_ret (v := .tuple #[.agg #[.string sx, .int .i64 px, .int .i64 ex, .int .i64 ox], .int .i64 0]) (by simp [results, Try.results11, go_sem, d0, d1, d2, d3]) rfl ⟨ret_rn HX.out.symm, ?_⟩
      exact Below.set4 B4.out (w.heap.size + 1) (by omega) _ _ _ _
  · have hl1 : ¬ least < 0 := by omega
    have hl2 : ¬ most < least := by omega
    have hl3 : 0 ≤ least := by omega
    have hl4 : 0 ≤ most := by omega
    have hnum : ∀ {n nx er q : Int}, bnd s0 p0 most = (n, nx, er, q) → numF least most s0 p0 = if er = 0 then (if n < least then (0, 0, 2, p0) else (n, nx, er, q)) else (n, nx, er, q) := by
      intro n nx er q h
      unfold numF
      rw [if_neg hr, h]
    clear hr
    by_cases he : e0 = 0
    · subst he
      obtain rfl := r7 rfl
      obtain ⟨n', nx, er, q, hb⟩ : ∃ n' nx er q, bnd s0 p0 most = (n', nx, er, q) := ⟨_, _, _, _, rfl⟩
      obtain ⟨b1, b2⟩ := bnd_bounds s0 p0 most hb r2 r3
      have hF := hnum hb
      by_cases hq : er = 0
      · subst hq
        obtain ⟨g1, g2, g3, g4, g5, rfl⟩ := b1 rfl
        have HWD := Lib.hid (fldR_ok (z := (0 : Int)) (F := fun s a => bnd s a most) HI.out hb)
        rw [if_pos rfl] at hF
        by_cases hlow : n' < least
        · rw [if_pos hlow] at hF
          have HX := Lib.hid (H.out.symm.trans (fldR_new hc hF (by omega)))
          clear H hc hF hb b1 b2 hnum
          go_enter Try.func11, Try.ntmps11
          go_wp2_with (first
            | (go_at_call 50; (refine (rreader_any s p e o hs s0 p0 0 0 HC _).mono ?_); rintro en w2 ⟨rfl, hB⟩; have P2 := Lib.hid (P1.out.below hB); have X2 := Lib.hid (X1.out.below hB); have B2 := Lib.hid (below_then B1.out hB); clear hB; have lp := P2.out.lt; obtain ⟨cp0, cp1, cp2, cp3⟩ := P2.out.c4; obtain ⟨fp0, fp1, fp2, fp3⟩ := P2.out.f4; have lx := X2.out.lt; obtain ⟨cx0, cx1, cx2, cx3⟩ := X2.out.c4; obtain ⟨fx0, fx1, fx2, fx3⟩ := X2.out.f4; have P3 := Lib.hid (P2.out.set4 (.string s0) (.int .i64 p0) (.int .i64 0) (.int .i64 0)); have X3 := Lib.hid (X2.out.other4 (b' := w.heap.size) (by omega) (.string s0) (.int .i64 p0) (.int .i64 0) (.int .i64 0)); have B3 := Lib.hid (Below.set4 B2.out (w.heap.size) (by omega) (.string s0) (.int .i64 p0) (.int .i64 0) (.int .i64 0)))
            | (go_at_call 13; (refine (rwide_any s0 p0 0 0 most (by omega) (by omega) (by omega) s0 nx 0 0 n' HWD _).mono ?_); rintro en w4 ⟨rfl, hB⟩; clear cp0 cp1 cp2 cp3 fp0 fp1 fp2 fp3 lp cx0 cx1 cx2 cx3 fx0 fx1 fx2 fx3 lx; have P4 := Lib.hid (P3.out.below hB); have X4 := Lib.hid (X3.out.below hB); have B4 := Lib.hid (below_then B3.out hB); clear hB; have lp := P4.out.lt; obtain ⟨cp0, cp1, cp2, cp3⟩ := P4.out.c4; obtain ⟨fp0, fp1, fp2, fp3⟩ := P4.out.f4; have lx := X4.out.lt; obtain ⟨cx0, cx1, cx2, cx3⟩ := X4.out.c4; obtain ⟨fx0, fx1, fx2, fx3⟩ := X4.out.f4; have P5 := Lib.hid (P4.out.alloc (.cells #[.string s0, .int .i64 nx, .int .i64 0, .int .i64 0] 26)); have X5 := Lib.hid (X4.out.alloc (.cells #[.string s0, .int .i64 nx, .int .i64 0, .int .i64 0] 26)); have B5 := Lib.hid (B4.out.alloc B4.out.size (.cells #[.string s0, .int .i64 nx, .int .i64 0, .int .i64 0] 26)); have Y5 := Lib.hid (Box.new _ 26 #[.string s0, .int .i64 nx, .int .i64 0, .int .i64 0] : Box (World.alloc w4 (.cells #[.string s0, .int .i64 nx, .int .i64 0, .int .i64 0] 26)) _ _ _))
            | (go_at_call 52; (refine (rfine_any s0 nx 0 0 true (Lib.hid rfl) _).mono ?_); rintro en w6 ⟨rfl, hB⟩; clear cp0 cp1 cp2 cp3 fp0 fp1 fp2 fp3 lp cx0 cx1 cx2 cx3 fx0 fx1 fx2 fx3 lx; have P6 := Lib.hid (P5.out.below hB); have X6 := Lib.hid (X5.out.below hB); have Y6 := Lib.hid (Y5.out.below hB); have B6 := Lib.hid (below_then B5.out hB); clear hB; have lp := P6.out.lt; obtain ⟨cp0, cp1, cp2, cp3⟩ := P6.out.c4; obtain ⟨fp0, fp1, fp2, fp3⟩ := P6.out.f4; have lx := X6.out.lt; obtain ⟨cx0, cx1, cx2, cx3⟩ := X6.out.c4; obtain ⟨fx0, fx1, fx2, fx3⟩ := X6.out.f4; have ly := Y6.out.lt; obtain ⟨cy0, cy1, cy2, cy3⟩ := Y6.out.c4; obtain ⟨fy0, fy1, fy2, fy3⟩ := Y6.out.f4)
            | (go_at_call 51; (refine (rfail_any s0 p0 0 0 2 p0 s0 p0 2 p0 (Lib.hid rfl) _).mono ?_); rintro en w7 ⟨rfl, hB⟩; clear cp0 cp1 cp2 cp3 fp0 fp1 fp2 fp3 lp cx0 cx1 cx2 cx3 fx0 fx1 fx2 fx3 lx cy0 cy1 cy2 cy3 fy0 fy1 fy2 fy3 ly; have P7 := Lib.hid (P6.out.below hB); have X7 := Lib.hid (X6.out.below hB); have Y7 := Lib.hid (Y6.out.below hB); have B7 := Lib.hid (below_then B6.out hB); clear hB; have lx := X7.out.lt; obtain ⟨cx0, cx1, cx2, cx3⟩ := X7.out.c4; obtain ⟨fx0, fx1, fx2, fx3⟩ := X7.out.f4))
          obtain ⟨d0, d1, d2, d3⟩ := (X7.out.set4 (.string s0) (.int .i64 p0) (.int .i64 2) (.int .i64 p0)).c4
          refine bodyPost_ret (v := .tuple #[.agg #[.string s0, .int .i64 p0, .int .i64 2, .int .i64 p0], .int .i64 0]) (by simp [results, Try.results11, go_sem, d0, d1, d2, d3]) rfl ⟨ret_rn HX.out.symm, ?_⟩
          exact Below.set4 B7.out (w.heap.size + 1) (by omega) _ _ _ _
        · rw [if_neg hlow] at hF
          have HX := Lib.hid (H.out.symm.trans (fldR_ok hc hF))
          have hlow2 : least ≤ n' := by omega
          clear H hc hF hb b1 b2 hnum hlow
          go_enter Try.func11, Try.ntmps11
          go_wp2_with (first
            | (go_at_call 50; (refine (rreader_any s p e o hs s0 p0 0 0 HC _).mono ?_); rintro en w2 ⟨rfl, hB⟩; have P2 := Lib.hid (P1.out.below hB); have X2 := Lib.hid (X1.out.below hB); have B2 := Lib.hid (below_then B1.out hB); clear hB; have lp := P2.out.lt; obtain ⟨cp0, cp1, cp2, cp3⟩ := P2.out.c4; obtain ⟨fp0, fp1, fp2, fp3⟩ := P2.out.f4; have lx := X2.out.lt; obtain ⟨cx0, cx1, cx2, cx3⟩ := X2.out.c4; obtain ⟨fx0, fx1, fx2, fx3⟩ := X2.out.f4; have P3 := Lib.hid (P2.out.set4 (.string s0) (.int .i64 p0) (.int .i64 0) (.int .i64 0)); have X3 := Lib.hid (X2.out.other4 (b' := w.heap.size) (by omega) (.string s0) (.int .i64 p0) (.int .i64 0) (.int .i64 0)); have B3 := Lib.hid (Below.set4 B2.out (w.heap.size) (by omega) (.string s0) (.int .i64 p0) (.int .i64 0) (.int .i64 0)))
            | (go_at_call 13; (refine (rwide_any s0 p0 0 0 most (by omega) (by omega) (by omega) s0 nx 0 0 n' HWD _).mono ?_); rintro en w4 ⟨rfl, hB⟩; clear cp0 cp1 cp2 cp3 fp0 fp1 fp2 fp3 lp cx0 cx1 cx2 cx3 fx0 fx1 fx2 fx3 lx; have P4 := Lib.hid (P3.out.below hB); have X4 := Lib.hid (X3.out.below hB); have B4 := Lib.hid (below_then B3.out hB); clear hB; have lp := P4.out.lt; obtain ⟨cp0, cp1, cp2, cp3⟩ := P4.out.c4; obtain ⟨fp0, fp1, fp2, fp3⟩ := P4.out.f4; have lx := X4.out.lt; obtain ⟨cx0, cx1, cx2, cx3⟩ := X4.out.c4; obtain ⟨fx0, fx1, fx2, fx3⟩ := X4.out.f4; have P5 := Lib.hid (P4.out.alloc (.cells #[.string s0, .int .i64 nx, .int .i64 0, .int .i64 0] 26)); have X5 := Lib.hid (X4.out.alloc (.cells #[.string s0, .int .i64 nx, .int .i64 0, .int .i64 0] 26)); have B5 := Lib.hid (B4.out.alloc B4.out.size (.cells #[.string s0, .int .i64 nx, .int .i64 0, .int .i64 0] 26)); have Y5 := Lib.hid (Box.new _ 26 #[.string s0, .int .i64 nx, .int .i64 0, .int .i64 0] : Box (World.alloc w4 (.cells #[.string s0, .int .i64 nx, .int .i64 0, .int .i64 0] 26)) _ _ _))
            | (go_at_call 52; (refine (rfine_any s0 nx 0 0 true (Lib.hid rfl) _).mono ?_); rintro en w6 ⟨rfl, hB⟩; clear cp0 cp1 cp2 cp3 fp0 fp1 fp2 fp3 lp cx0 cx1 cx2 cx3 fx0 fx1 fx2 fx3 lx; have P6 := Lib.hid (P5.out.below hB); have X6 := Lib.hid (X5.out.below hB); have Y6 := Lib.hid (Y5.out.below hB); have B6 := Lib.hid (below_then B5.out hB); clear hB; have lp := P6.out.lt; obtain ⟨cp0, cp1, cp2, cp3⟩ := P6.out.c4; obtain ⟨fp0, fp1, fp2, fp3⟩ := P6.out.f4; have lx := X6.out.lt; obtain ⟨cx0, cx1, cx2, cx3⟩ := X6.out.c4; obtain ⟨fx0, fx1, fx2, fx3⟩ := X6.out.f4; have ly := Y6.out.lt; obtain ⟨cy0, cy1, cy2, cy3⟩ := Y6.out.c4; obtain ⟨fy0, fy1, fy2, fy3⟩ := Y6.out.f4))
          obtain ⟨d0, d1, d2, d3⟩ := (X6.out.set4 (.string s0) (.int .i64 nx) (.int .i64 0) (.int .i64 0)).c4
          refine bodyPost_ret (v := .tuple #[.agg #[.string s0, .int .i64 nx, .int .i64 0, .int .i64 0], .int .i64 n']) (by simp [results, Try.results11, go_sem, d0, d1, d2, d3]) rfl ⟨ret_rn HX.out.symm, ?_⟩
          exact Below.set4 B6.out (w.heap.size + 1) (by omega) _ _ _ _
      · obtain ⟨rfl, rfl, g3, g4, g5⟩ := b2 hq
        have HWD := Lib.hid (fldR_new (z := (0 : Int)) (F := fun s a => bnd s a most) HI.out hb hq)
        rw [if_neg hq] at hF
        have HX := Lib.hid (H.out.symm.trans (fldR_new hc hF hq))
        have HE : Hid ((er == 0) = false) := Lib.hid (by simpa using hq)
        clear H hc hF hb b1 b2 hnum hq
        go_enter Try.func11, Try.ntmps11
        go_wp2_with (first
          | (go_at_call 50; (refine (rreader_any s p e o hs s0 p0 0 0 HC _).mono ?_); rintro en w2 ⟨rfl, hB⟩; have P2 := Lib.hid (P1.out.below hB); have X2 := Lib.hid (X1.out.below hB); have B2 := Lib.hid (below_then B1.out hB); clear hB; have lp := P2.out.lt; obtain ⟨cp0, cp1, cp2, cp3⟩ := P2.out.c4; obtain ⟨fp0, fp1, fp2, fp3⟩ := P2.out.f4; have lx := X2.out.lt; obtain ⟨cx0, cx1, cx2, cx3⟩ := X2.out.c4; obtain ⟨fx0, fx1, fx2, fx3⟩ := X2.out.f4; have P3 := Lib.hid (P2.out.set4 (.string s0) (.int .i64 p0) (.int .i64 0) (.int .i64 0)); have X3 := Lib.hid (X2.out.other4 (b' := w.heap.size) (by omega) (.string s0) (.int .i64 p0) (.int .i64 0) (.int .i64 0)); have B3 := Lib.hid (Below.set4 B2.out (w.heap.size) (by omega) (.string s0) (.int .i64 p0) (.int .i64 0) (.int .i64 0)))
          | (go_at_call 13; (refine (rwide_any s0 p0 0 0 most (by omega) (by omega) (by omega) s0 p0 er q 0 HWD _).mono ?_); rintro en w4 ⟨rfl, hB⟩; clear cp0 cp1 cp2 cp3 fp0 fp1 fp2 fp3 lp cx0 cx1 cx2 cx3 fx0 fx1 fx2 fx3 lx; have P4 := Lib.hid (P3.out.below hB); have X4 := Lib.hid (X3.out.below hB); have B4 := Lib.hid (below_then B3.out hB); clear hB; have lp := P4.out.lt; obtain ⟨cp0, cp1, cp2, cp3⟩ := P4.out.c4; obtain ⟨fp0, fp1, fp2, fp3⟩ := P4.out.f4; have lx := X4.out.lt; obtain ⟨cx0, cx1, cx2, cx3⟩ := X4.out.c4; obtain ⟨fx0, fx1, fx2, fx3⟩ := X4.out.f4; have P5 := Lib.hid (P4.out.alloc (.cells #[.string s0, .int .i64 p0, .int .i64 er, .int .i64 q] 26)); have X5 := Lib.hid (X4.out.alloc (.cells #[.string s0, .int .i64 p0, .int .i64 er, .int .i64 q] 26)); have B5 := Lib.hid (B4.out.alloc B4.out.size (.cells #[.string s0, .int .i64 p0, .int .i64 er, .int .i64 q] 26)); have Y5 := Lib.hid (Box.new _ 26 #[.string s0, .int .i64 p0, .int .i64 er, .int .i64 q] : Box (World.alloc w4 (.cells #[.string s0, .int .i64 p0, .int .i64 er, .int .i64 q] 26)) _ _ _))
          | (go_at_call 52; (refine (rfine_any s0 p0 er q false HE _).mono ?_); rintro en w6 ⟨rfl, hB⟩; clear cp0 cp1 cp2 cp3 fp0 fp1 fp2 fp3 lp cx0 cx1 cx2 cx3 fx0 fx1 fx2 fx3 lx; have P6 := Lib.hid (P5.out.below hB); have X6 := Lib.hid (X5.out.below hB); have Y6 := Lib.hid (Y5.out.below hB); have B6 := Lib.hid (below_then B5.out hB); clear hB; have lp := P6.out.lt; obtain ⟨cp0, cp1, cp2, cp3⟩ := P6.out.c4; obtain ⟨fp0, fp1, fp2, fp3⟩ := P6.out.f4; have lx := X6.out.lt; obtain ⟨cx0, cx1, cx2, cx3⟩ := X6.out.c4; obtain ⟨fx0, fx1, fx2, fx3⟩ := X6.out.f4; have ly := Y6.out.lt; obtain ⟨cy0, cy1, cy2, cy3⟩ := Y6.out.c4; obtain ⟨fy0, fy1, fy2, fy3⟩ := Y6.out.f4))
        obtain ⟨d0, d1, d2, d3⟩ := (X6.out.set4 (.string s0) (.int .i64 p0) (.int .i64 er) (.int .i64 q)).c4
        refine bodyPost_ret (v := .tuple #[.agg #[.string s0, .int .i64 p0, .int .i64 er, .int .i64 q], .int .i64 0]) (by simp [results, Try.results11, go_sem, d0, d1, d2, d3]) rfl ⟨ret_rn HX.out.symm, ?_⟩
        exact Below.set4 B6.out (w.heap.size + 1) (by omega) _ _ _ _
    · have HWD := Lib.hid (fldR_old (z := (0 : Int)) (F := fun s a => bnd s a most) HI.out he)
      have HX := Lib.hid (H.out.symm.trans (fldR_old hc he))
      have HE : Hid ((e0 == 0) = false) := Lib.hid (by simpa using he)
      clear H hc hnum he
      go_enter Try.func11, Try.ntmps11
      go_wp2_with (first
        | (go_at_call 50; (refine (rreader_any s p e o hs s0 p0 e0 o0 HC _).mono ?_); rintro en w2 ⟨rfl, hB⟩; have P2 := Lib.hid (P1.out.below hB); have X2 := Lib.hid (X1.out.below hB); have B2 := Lib.hid (below_then B1.out hB); clear hB; have lp := P2.out.lt; obtain ⟨cp0, cp1, cp2, cp3⟩ := P2.out.c4; obtain ⟨fp0, fp1, fp2, fp3⟩ := P2.out.f4; have lx := X2.out.lt; obtain ⟨cx0, cx1, cx2, cx3⟩ := X2.out.c4; obtain ⟨fx0, fx1, fx2, fx3⟩ := X2.out.f4; have P3 := Lib.hid (P2.out.set4 (.string s0) (.int .i64 p0) (.int .i64 e0) (.int .i64 o0)); have X3 := Lib.hid (X2.out.other4 (b' := w.heap.size) (by omega) (.string s0) (.int .i64 p0) (.int .i64 e0) (.int .i64 o0)); have B3 := Lib.hid (Below.set4 B2.out (w.heap.size) (by omega) (.string s0) (.int .i64 p0) (.int .i64 e0) (.int .i64 o0)))
        | (go_at_call 13; (refine (rwide_any s0 p0 e0 o0 most (by omega) (by omega) (by omega) s0 p0 e0 o0 0 HWD _).mono ?_); rintro en w4 ⟨rfl, hB⟩; clear cp0 cp1 cp2 cp3 fp0 fp1 fp2 fp3 lp cx0 cx1 cx2 cx3 fx0 fx1 fx2 fx3 lx; have P4 := Lib.hid (P3.out.below hB); have X4 := Lib.hid (X3.out.below hB); have B4 := Lib.hid (below_then B3.out hB); clear hB; have lp := P4.out.lt; obtain ⟨cp0, cp1, cp2, cp3⟩ := P4.out.c4; obtain ⟨fp0, fp1, fp2, fp3⟩ := P4.out.f4; have lx := X4.out.lt; obtain ⟨cx0, cx1, cx2, cx3⟩ := X4.out.c4; obtain ⟨fx0, fx1, fx2, fx3⟩ := X4.out.f4; have P5 := Lib.hid (P4.out.alloc (.cells #[.string s0, .int .i64 p0, .int .i64 e0, .int .i64 o0] 26)); have X5 := Lib.hid (X4.out.alloc (.cells #[.string s0, .int .i64 p0, .int .i64 e0, .int .i64 o0] 26)); have B5 := Lib.hid (B4.out.alloc B4.out.size (.cells #[.string s0, .int .i64 p0, .int .i64 e0, .int .i64 o0] 26)); have Y5 := Lib.hid (Box.new _ 26 #[.string s0, .int .i64 p0, .int .i64 e0, .int .i64 o0] : Box (World.alloc w4 (.cells #[.string s0, .int .i64 p0, .int .i64 e0, .int .i64 o0] 26)) _ _ _))
        | (go_at_call 52; (refine (rfine_any s0 p0 e0 o0 false HE _).mono ?_); rintro en w6 ⟨rfl, hB⟩; clear cp0 cp1 cp2 cp3 fp0 fp1 fp2 fp3 lp cx0 cx1 cx2 cx3 fx0 fx1 fx2 fx3 lx; have P6 := Lib.hid (P5.out.below hB); have X6 := Lib.hid (X5.out.below hB); have Y6 := Lib.hid (Y5.out.below hB); have B6 := Lib.hid (below_then B5.out hB); clear hB; have lp := P6.out.lt; obtain ⟨cp0, cp1, cp2, cp3⟩ := P6.out.c4; obtain ⟨fp0, fp1, fp2, fp3⟩ := P6.out.f4; have lx := X6.out.lt; obtain ⟨cx0, cx1, cx2, cx3⟩ := X6.out.c4; obtain ⟨fx0, fx1, fx2, fx3⟩ := X6.out.f4; have ly := Y6.out.lt; obtain ⟨cy0, cy1, cy2, cy3⟩ := Y6.out.c4; obtain ⟨fy0, fy1, fy2, fy3⟩ := Y6.out.f4))
      obtain ⟨d0, d1, d2, d3⟩ := (X6.out.set4 (.string s0) (.int .i64 p0) (.int .i64 e0) (.int .i64 o0)).c4
      refine bodyPost_ret (v := .tuple #[.agg #[.string s0, .int .i64 p0, .int .i64 e0, .int .i64 o0], .int .i64 0]) (by simp [results, Try.results11, go_sem, d0, d1, d2, d3]) rfl ⟨ret_rn HX.out.symm, ?_⟩
      exact Below.set4 B6.out (w.heap.size + 1) (by omega) _ _ _ _
end Go.Proofs.Ytkepnjnindolbaa.s05
