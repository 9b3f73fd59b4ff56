/-
  Layer 5, the reference's side: Wide, Number, Fixed, Fail, End.
-/
import Derived.Test.YtkepnjnindolbaaS05T
import Derived.Test.YtkepnjnindolbaaWalksF
namespace Go.Proofs.Ytkepnjnindolbaa.s05
set_option linter.unusedVariables false
set_option linter.unusedSimpArgs false
open Go.RowKit
open kit

theorem Box.other4 {w : World} {t : TypeId} {b b' : Nat} {xs : Array Value} (h : Box w t b xs) (hne : b ≠ b') (y0 y1 y2 y3 : Value) : Box ((((w.setCell ⟨b', 0, none⟩ y0).setCell ⟨b', 1, none⟩ y1).setCell ⟨b', 2, none⟩ y2).setCell ⟨b', 3, none⟩ y3) t b xs :=
  (((h.other hne y0).other hne y1).other hne y2).other hne y3
theorem Box.other3 {w : World} {t : TypeId} {b b' : Nat} {xs : Array Value} (h : Box w t b xs) (hne : b ≠ b') (y0 y1 y2 : Value) : Box (((w.setCell ⟨b', 0, none⟩ y0).setCell ⟨b', 1, none⟩ y1).setCell ⟨b', 2, none⟩ y2) t b xs :=
  ((h.other hne y0).other hne y1).other hne y2
theorem ret_rn {k : IntKind} {s s' : ByteArray} {p p' e e' o o' n n' : Int} (h : ((s, p, e, o), n) = ((s', p', e', o'), n')) : Ending.returned (.tuple #[.agg #[.string s, .int .i64 p, .int .i64 e, .int .i64 o], .int k n]) = .returned (.tuple #[.agg #[.string s', .int .i64 p', .int .i64 e', .int .i64 o'], .int k n']) := by cases h; rfl
theorem ret_rs {s s' : ByteArray} {p p' e e' o o' : Int} {n n' : ByteArray} (h : ((s, p, e, o), n) = ((s', p', e', o'), n')) : Ending.returned (.tuple #[.agg #[.string s, .int .i64 p, .int .i64 e, .int .i64 o], .string n]) = .returned (.tuple #[.agg #[.string s', .int .i64 p', .int .i64 e', .int .i64 o'], .string n']) := by cases h; rfl
theorem with_new (s : ByteArray) (p o fe fo : Int) : withR s p 0 o fe fo = (s, p, fe, fo) := rfl
theorem with_old {s : ByteArray} {p e o fe fo : Int} (h : e ≠ 0) : withR s p e o fe fo = (s, p, e, o) := if_neg h
set_option maxRecDepth 100000 in
set_option maxHeartbeats 2000000 in
theorem rwide_any (s : ByteArray) (p e o : Int) (most : Int) (hs : s.size ≤ 9223372036854775807) (hm1 : 0 ≤ most) (hm2 : most ≤ 18446744073709551615) (s' : ByteArray) (p' e' o' n : Int) (H : Hid (fldR (0 : Int) (fun s a => bnd s a most) s p e o = ((s', p', e', o'), n))) (w : World) :
    Calls Try.prog 13 #[.agg #[.string s, .int .i64 p, .int .i64 e, .int .i64 o], .int .u64 most] w fun en w' => en = .returned (.tuple #[.agg #[.string s', .int .i64 p', .int .i64 e', .int .i64 o'], .int .u64 n]) ∧ Below w.heap.size w w' := by
  have P1 := Lib.hid ((Box.new w 26 #[.string s, .int .i64 p, .int .i64 e, .int .i64 o]).alloc (.cells #[.string ⟨#[]⟩, .int .i64 0, .int .i64 0, .int .i64 0] 26))
  have X1 := Lib.hid (Box.new2 w (.cells #[.string s, .int .i64 p, .int .i64 e, .int .i64 o] 26) 26 #[.string ⟨#[]⟩, .int .i64 0, .int .i64 0, .int .i64 0])
  have B1 := Lib.hid (two_below w (.cells #[.string s, .int .i64 p, .int .i64 e, .int .i64 o] 26) (.cells #[.string ⟨#[]⟩, .int .i64 0, .int .i64 0, .int .i64 0] 26))
  obtain ⟨s0, p0, e0, o0, hc⟩ : ∃ s0 p0 e0 o0, cnt s p e o = (s0, p0, e0, o0) := ⟨_, _, _, _, rfl⟩
  obtain ⟨r1, r2, r3, r4, r5, r6, r7⟩ := cnt_ok hc
  have HC := Lib.hid hc
  have HI := Lib.hid (cnt_idem hc)
  by_cases he : e0 = 0
  · subst he
    obtain rfl := r7 rfl
    obtain ⟨n', nx, er, q, hb⟩ : ∃ n' nx er q, rd s0 p0 = (n', nx, er, q) := ⟨_, _, _, _, rfl⟩
    obtain ⟨b1, b2⟩ := rd_bounds s0 p0 hb
    have HB := Lib.hid hb
    by_cases hq : er = 0
    · subst hq
      obtain ⟨g1, g2, g3, g4, g5, rfl⟩ := b1 rfl
      by_cases hl : most < n'
      · have HX := Lib.hid (H.out.symm.trans (fldR_new hc (show (fun s a => bnd s a most) s0 p0 = (0, 0, 2, p0) by simp only [bnd, hb, if_true, if_pos hl]) (by omega)))
        clear H hc hb b1 b2
        go_enter Try.func13, Try.ntmps13
        go_wp2_with (first
          | (go_at_call 50; refine (rreader_any s p e o hs s0 p0 0 0 HC _).mono ?_; rintro en w1 ⟨rfl, hB⟩; have P2 := Lib.hid (P1.out.below hB); have X2 := Lib.hid (X1.out.below hB); have B2 := Lib.hid (below_then B1.out hB); clear hB; obtain ⟨cp0, cp1, cp2, cp3⟩ := P2.out.c4; obtain ⟨fp0, fp1, fp2, fp3⟩ := P2.out.f4; have P3 := Lib.hid (P2.out.set4 (.string s0) (.int .i64 p0) (.int .i64 0) (.int .i64 0)); have X3 := Lib.hid (X2.out.other4 (b' := w.heap.size) (by omega) (.string s0) (.int .i64 p0) (.int .i64 0) (.int .i64 0)); have B3 := Lib.hid (Below.set4 B2.out (w.heap.size) (by omega) (.string s0) (.int .i64 p0) (.int .i64 0) (.int .i64 0)))
          | (go_at_call 52; refine (rfine_any s0 p0 0 0 true (Lib.hid rfl) _).mono ?_; rintro en w2 ⟨rfl, hB⟩; have P4 := Lib.hid (P3.out.below hB); have X4 := Lib.hid (X3.out.below hB); have B4 := Lib.hid (below_then B3.out hB); clear hB; clear cp0 fp0 cp1 fp1 cp2 fp2 cp3 fp3; obtain ⟨cp0, cp1, cp2, cp3⟩ := P4.out.c4; obtain ⟨fp0, fp1, fp2, fp3⟩ := P4.out.f4; )
          | (go_at_call 56; refine (readr_any s0 p0 (by omega) (by omega) (by omega) n' nx 0 0 HB _).mono ?_; rintro en w3 ⟨rfl, hB⟩; clear cp0 fp0 cp1 fp1 cp2 fp2 cp3 fp3; have P5 := Lib.hid (P4.out.below hB); have X5 := Lib.hid (X4.out.below hB); have B5 := Lib.hid (below_then B4.out hB); clear hB; have hz5 := X5.out.lt; have hp5 := P5.out.lt; obtain ⟨cp0, cp1, cp2, cp3⟩ := P5.out.c4; obtain ⟨fp0, fp1, fp2, fp3⟩ := P5.out.f4; have P6 := Lib.hid (P5.out.alloc (.cells #[.int .i64 0, .int .i64 0] 24)); have X6 := Lib.hid (X5.out.alloc (.cells #[.int .i64 0, .int .i64 0] 24)); have B6 := Lib.hid (B5.out.alloc B5.out.size (.cells #[.int .i64 0, .int .i64 0] 24)); obtain ⟨cx0, cx1, cx2, cx3⟩ := X5.out.c4; obtain ⟨fx0, fx1, fx2, fx3⟩ := X5.out.f4; )
          | (go_at_call 51; refine (rfail_any s0 p0 0 0 2 p0 s0 p0 2 p0 (Lib.hid rfl) _).mono ?_; rintro en w4 ⟨rfl, hB⟩; clear cp0 fp0 cp1 fp1 cp2 fp2 cp3 fp3; clear cx0 fx0 cx1 fx1 cx2 fx2 cx3 fx3; have X7 := Lib.hid (X6.out.below hB); have B7 := Lib.hid (below_then B6.out hB); clear hB; obtain ⟨cx0, cx1, cx2, cx3⟩ := X7.out.c4; obtain ⟨fx0, fx1, fx2, fx3⟩ := X7.out.f4; ))
        obtain ⟨d0, d1, d2, d3⟩ := (X7.out.set4 (.string s0) (.int .i64 p0) (.int .i64 2) (.int .i64 p0)).c4
        refine bodyPost_ret (v := .tuple #[.agg #[.string s0, .int .i64 p0, .int .i64 2, .int .i64 p0], .int .u64 0]) (by simp [results, Try.results13, go_sem, d0, d1, d2, d3]) rfl ⟨ret_rn HX.out.symm, ?_⟩
        exact Below.set4 B7.out (w.heap.size + 1) (by omega) _ _ _ _
      · have HX := Lib.hid (H.out.symm.trans (fldR_ok hc (show (fun s a => bnd s a most) s0 p0 = (n', nx, 0, 0) by simp only [bnd, hb, if_true, if_neg hl])))
        have hl2 : n' ≤ most := by omega
        clear H hc hb b1 b2 hl
        go_enter Try.func13, Try.ntmps13
        go_wp2_with (first
          | (go_at_call 50; refine (rreader_any s p e o hs s0 p0 0 0 HC _).mono ?_; rintro en w1 ⟨rfl, hB⟩; have P2 := Lib.hid (P1.out.below hB); have X2 := Lib.hid (X1.out.below hB); have B2 := Lib.hid (below_then B1.out hB); clear hB; obtain ⟨cp0, cp1, cp2, cp3⟩ := P2.out.c4; obtain ⟨fp0, fp1, fp2, fp3⟩ := P2.out.f4; have P3 := Lib.hid (P2.out.set4 (.string s0) (.int .i64 p0) (.int .i64 0) (.int .i64 0)); have X3 := Lib.hid (X2.out.other4 (b' := w.heap.size) (by omega) (.string s0) (.int .i64 p0) (.int .i64 0) (.int .i64 0)); have B3 := Lib.hid (Below.set4 B2.out (w.heap.size) (by omega) (.string s0) (.int .i64 p0) (.int .i64 0) (.int .i64 0)))
          | (go_at_call 52; refine (rfine_any s0 p0 0 0 true (Lib.hid rfl) _).mono ?_; rintro en w2 ⟨rfl, hB⟩; have P4 := Lib.hid (P3.out.below hB); have X4 := Lib.hid (X3.out.below hB); have B4 := Lib.hid (below_then B3.out hB); clear hB; clear cp0 fp0 cp1 fp1 cp2 fp2 cp3 fp3; obtain ⟨cp0, cp1, cp2, cp3⟩ := P4.out.c4; obtain ⟨fp0, fp1, fp2, fp3⟩ := P4.out.f4; )
          | (go_at_call 56; refine (readr_any s0 p0 (by omega) (by omega) (by omega) n' nx 0 0 HB _).mono ?_; rintro en w3 ⟨rfl, hB⟩; clear cp0 fp0 cp1 fp1 cp2 fp2 cp3 fp3; have P5 := Lib.hid (P4.out.below hB); have X5 := Lib.hid (X4.out.below hB); have B5 := Lib.hid (below_then B4.out hB); clear hB; have hz5 := X5.out.lt; have hp5 := P5.out.lt; obtain ⟨cp0, cp1, cp2, cp3⟩ := P5.out.c4; obtain ⟨fp0, fp1, fp2, fp3⟩ := P5.out.f4; have P6 := Lib.hid (P5.out.alloc (.cells #[.int .i64 0, .int .i64 0] 24)); have X6 := Lib.hid (X5.out.alloc (.cells #[.int .i64 0, .int .i64 0] 24)); have B6 := Lib.hid (B5.out.alloc B5.out.size (.cells #[.int .i64 0, .int .i64 0] 24)); obtain ⟨cx0, cx1, cx2, cx3⟩ := X5.out.c4; obtain ⟨fx0, fx1, fx2, fx3⟩ := X5.out.f4; ))
        have X7 := Lib.hid (X5.out.other (b' := w.heap.size) (i := 1) (by omega) (.int .i64 nx))
        have B7 := Lib.hid (B5.out.setCell (p := ⟨w.heap.size, 1, none⟩) (by simp) (.int .i64 nx))
        obtain ⟨d0, d1, d2, d3⟩ := ((X7.out.set4 (.string s0) (.int .i64 nx) (.int .i64 0) (.int .i64 0)).alloc (.cells #[.int .i64 0, .int .i64 0] 24)).c4
        refine bodyPost_ret (v := .tuple #[.agg #[.string s0, .int .i64 nx, .int .i64 0, .int .i64 0], .int .u64 n']) (by simp [results, Try.results13, go_sem, d0, d1, d2, d3]) rfl ⟨ret_rn HX.out.symm, ?_⟩
        have BE := Below.set4 B7.out (w.heap.size + 1) (by omega) (.string s0) (.int .i64 nx) (.int .i64 0) (.int .i64 0)
        exact BE.alloc BE.size _
    · obtain ⟨rfl, rfl, g3, g4, g5⟩ := b2 hq
      have HX := Lib.hid (H.out.symm.trans (fldR_new hc (show (fun s a => bnd s a most) s0 p0 = (0, 0, er, q) by simp only [bnd, hb, if_neg hq]) hq))
      have te : (er != 0) = true := by simpa using hq
      clear H hc hb b1 b2 hq
      go_enter Try.func13, Try.ntmps13
      go_wp2_with (first
        | (go_at_call 50; refine (rreader_any s p e o hs s0 p0 0 0 HC _).mono ?_; rintro en w1 ⟨rfl, hB⟩; have P2 := Lib.hid (P1.out.below hB); have X2 := Lib.hid (X1.out.below hB); have B2 := Lib.hid (below_then B1.out hB); clear hB; obtain ⟨cp0, cp1, cp2, cp3⟩ := P2.out.c4; obtain ⟨fp0, fp1, fp2, fp3⟩ := P2.out.f4; have P3 := Lib.hid (P2.out.set4 (.string s0) (.int .i64 p0) (.int .i64 0) (.int .i64 0)); have X3 := Lib.hid (X2.out.other4 (b' := w.heap.size) (by omega) (.string s0) (.int .i64 p0) (.int .i64 0) (.int .i64 0)); have B3 := Lib.hid (Below.set4 B2.out (w.heap.size) (by omega) (.string s0) (.int .i64 p0) (.int .i64 0) (.int .i64 0)))
        | (go_at_call 52; refine (rfine_any s0 p0 0 0 true (Lib.hid rfl) _).mono ?_; rintro en w2 ⟨rfl, hB⟩; have P4 := Lib.hid (P3.out.below hB); have X4 := Lib.hid (X3.out.below hB); have B4 := Lib.hid (below_then B3.out hB); clear hB; clear cp0 fp0 cp1 fp1 cp2 fp2 cp3 fp3; obtain ⟨cp0, cp1, cp2, cp3⟩ := P4.out.c4; obtain ⟨fp0, fp1, fp2, fp3⟩ := P4.out.f4; )
        | (go_at_call 56; refine (readr_any s0 p0 (by omega) (by omega) (by omega) 0 0 er q HB _).mono ?_; rintro en w3 ⟨rfl, hB⟩; clear cp0 fp0 cp1 fp1 cp2 fp2 cp3 fp3; have P5 := Lib.hid (P4.out.below hB); have X5 := Lib.hid (X4.out.below hB); have B5 := Lib.hid (below_then B4.out hB); clear hB; have hz5 := X5.out.lt; have hp5 := P5.out.lt; obtain ⟨cp0, cp1, cp2, cp3⟩ := P5.out.c4; obtain ⟨fp0, fp1, fp2, fp3⟩ := P5.out.f4; have P6 := Lib.hid (P5.out.alloc (.cells #[.int .i64 er, .int .i64 q] 24)); have X6 := Lib.hid (X5.out.alloc (.cells #[.int .i64 er, .int .i64 q] 24)); have B6 := Lib.hid (B5.out.alloc B5.out.size (.cells #[.int .i64 er, .int .i64 q] 24)); obtain ⟨cx0, cx1, cx2, cx3⟩ := X5.out.c4; obtain ⟨fx0, fx1, fx2, fx3⟩ := X5.out.f4; )
        | (go_at_call 57; refine (rwith_any s0 p0 0 0 er q s0 p0 er q (Lib.hid rfl) _).mono ?_; rintro en w4 ⟨rfl, hB⟩; clear cp0 fp0 cp1 fp1 cp2 fp2 cp3 fp3; clear cx0 fx0 cx1 fx1 cx2 fx2 cx3 fx3; have X7 := Lib.hid (X6.out.below hB); have B7 := Lib.hid (below_then B6.out hB); clear hB; obtain ⟨cx0, cx1, cx2, cx3⟩ := X7.out.c4; obtain ⟨fx0, fx1, fx2, fx3⟩ := X7.out.f4; ))
      obtain ⟨d0, d1, d2, d3⟩ := (X7.out.set4 (.string s0) (.int .i64 p0) (.int .i64 er) (.int .i64 q)).c4
      refine bodyPost_ret (v := .tuple #[.agg #[.string s0, .int .i64 p0, .int .i64 er, .int .i64 q], .int .u64 0]) (by simp [results, Try.results13, go_sem, d0, d1, d2, d3]) rfl ⟨ret_rn HX.out.symm, ?_⟩
      exact Below.set4 B7.out (w.heap.size + 1) (by omega) _ _ _ _
  · have HX := Lib.hid (H.out.symm.trans (fldR_old hc he))
    have HE : Hid ((e0 == 0) = false) := Lib.hid (by simpa using he)
    clear H hc he
    go_enter Try.func13, Try.ntmps13
    go_wp2_with (first
      | (go_at_call 50; refine (rreader_any s p e o hs s0 p0 e0 o0 HC _).mono ?_; rintro en w1 ⟨rfl, hB⟩; have P2 := Lib.hid (P1.out.below hB); have X2 := Lib.hid (X1.out.below hB); have B2 := Lib.hid (below_then B1.out hB); clear hB; obtain ⟨cp0, cp1, cp2, cp3⟩ := P2.out.c4; obtain ⟨fp0, fp1, fp2, fp3⟩ := P2.out.f4; have P3 := Lib.hid (P2.out.set4 (.string s0) (.int .i64 p0) (.int .i64 e0) (.int .i64 o0)); have X3 := Lib.hid (X2.out.other4 (b' := w.heap.size) (by omega) (.string s0) (.int .i64 p0) (.int .i64 e0) (.int .i64 o0)); have B3 := Lib.hid (Below.set4 B2.out (w.heap.size) (by omega) (.string s0) (.int .i64 p0) (.int .i64 e0) (.int .i64 o0)))
      | (go_at_call 52; refine (rfine_any s0 p0 e0 o0 false HE _).mono ?_; rintro en w2 ⟨rfl, hB⟩; have P4 := Lib.hid (P3.out.below hB); have X4 := Lib.hid (X3.out.below hB); have B4 := Lib.hid (below_then B3.out hB); clear hB; clear cp0 fp0 cp1 fp1 cp2 fp2 cp3 fp3; obtain ⟨cp0, cp1, cp2, cp3⟩ := P4.out.c4; obtain ⟨fp0, fp1, fp2, fp3⟩ := P4.out.f4; obtain ⟨cx0, cx1, cx2, cx3⟩ := X4.out.c4; obtain ⟨fx0, fx1, fx2, fx3⟩ := X4.out.f4; ))
    obtain ⟨d0, d1, d2, d3⟩ := (X4.out.set4 (.string s0) (.int .i64 p0) (.int .i64 e0) (.int .i64 o0)).c4
    refine bodyPost_ret (v := .tuple #[.agg #[.string s0, .int .i64 p0, .int .i64 e0, .int .i64 o0], .int .u64 0]) (by simp [results, Try.results13, go_sem, d0, d1, d2, d3]) rfl ⟨ret_rn HX.out.symm, ?_⟩
    exact Below.set4 B4.out (w.heap.size + 1) (by omega) _ _ _ _
end Go.Proofs.Ytkepnjnindolbaa.s05
