/-
  CodecReads: each reading of a reader gives what the reference's gives, whatever the reader of at most 100 bytes and the bounds; no condition.
-/
import Derived.Test.YtkepnjnindolbaaRows
import Derived.Test.YtkepnjnindolbaaS05ZC
import Derived.Test.YtkepnjnindolbaaS05ZD
import Derived.WalkKit
import Derived.ProofKit
import Derived.OpenShut
import Derived.ShutString
import Derived.SliceStrings
import Derived.ChangeOld
import Derived.Below
import Derived.Lib.SmallJoins
namespace Go.Proofs.Ytkepnjnindolbaa.codecReads
open Go.ChangeShapes Go.WideShapes Go.ChangeAt Go.RowKit
open kit s05
open Go.ChangeMaps (open_string shut_string)
set_option linter.unusedVariables false
set_option linter.unusedSimpArgs false

theorem own : ownKnob Try.prog.godebug = none := by kernel_rfl
theorem laidOut : laidOutB Try.prog = true := by kernel_rfl

set_option maxRecDepth 100000 in
set_option maxHeartbeats 2000000 in
theorem walk (rs0 : ByteArray) (rp0 re0 ro0 : Int) (a1 : Int) (a2 : Int) (a3 : Int) (a4 : Int) (a5 : Int) (w : World) (w0 : rs0.size ≤ maxLen) (wp0 : (Lit.int .i64 rp0).wf = true) (we0 : (Lit.int .i64 re0).wf = true) (wo0 : (Lit.int .i64 ro0).wf = true) (w1 : (Lit.int .i64 a1).wf = true) (w2 : (Lit.int .i64 a2).wf = true) (w3 : (Lit.int .i64 a3).wf = true) (w4 : (Lit.int .u64 a4).wf = true) (w5 : (Lit.int .i64 a5).wf = true) :
    Calls Try.prog 3 #[.agg #[.string rs0, .int .i64 rp0, .int .i64 re0, .int .i64 ro0], .int .i64 a1, .int .i64 a2, .int .i64 a3, .int .u64 a4, .int .i64 a5] w fun e w' => e = .returned (.bool true) ∧ Below w.heap.size w w' := by
  obtain ⟨i1, i2⟩ := bounds_i64 w1
  obtain ⟨i3, i4⟩ := bounds_i64 w2
  obtain ⟨i5, i6⟩ := bounds_i64 w3
  obtain ⟨i7, i8⟩ := bounds_u64 w4
  obtain ⟨i9, i10⟩ := bounds_i64 w5
  unfold maxLen at w0
  have hs : rs0.size ≤ 9223372036854775807 := by omega
  clear w1 w2 w3 w4 w5 wp0 we0 wo0
  have P1 := Lib.hid (Box.new w 26 #[.string rs0, .int .i64 rp0, .int .i64 re0, .int .i64 ro0])
  have B1 := Lib.hid ((Below.refl w.heap.size w).alloc (Nat.le_refl _) (.cells #[.string rs0, .int .i64 rp0, .int .i64 re0, .int .i64 ro0] 26))
  by_cases hbig : 100 < rs0.size
  · go_enter Try.func3, Try.ntmps3
    go_wp2_with (go_at_call 9; refine (awake_any _).mono ?_; rintro e w9 ⟨rfl, hB9⟩; have B9 := Lib.hid (below_then B1.out hB9); clear hB9)
    go_ret
    exact ⟨rfl, B9.out⟩
  · have hbig2 : rs0.size ≤ 100 := by omega
    clear hbig w0
    obtain ⟨⟨s1, p1, e1, o1⟩, n1, H1⟩ : ∃ r n, Hid (fldR (0 : Int) (numF a1 a2) rs0 rp0 re0 ro0 = (r, n)) := ⟨_, _, Lib.hid rfl⟩
    obtain ⟨⟨s2, p2, e2, o2⟩, n2, H2⟩ : ∃ r n, Hid (fldR (0 : Int) (fun s a => bnd s a a4) rs0 rp0 re0 ro0 = (r, n)) := ⟨_, _, Lib.hid rfl⟩
    obtain ⟨⟨s3, p3, e3, o3⟩, n3, H3⟩ : ∃ r n, Hid (fldR (⟨#[]⟩ : ByteArray) (sizF a3) rs0 rp0 re0 ro0 = (r, n)) := ⟨_, _, Lib.hid rfl⟩
    obtain ⟨⟨s4, p4, e4, o4⟩, n4, H4⟩ : ∃ r n, Hid (fldR (⟨#[]⟩ : ByteArray) (fixF a3) rs0 rp0 re0 ro0 = (r, n)) := ⟨_, _, Lib.hid rfl⟩
    obtain ⟨⟨s5, p5, e5, o5⟩, n5, H5⟩ : ∃ r n, Hid (fldR ([] : List Int) (lstF a3 a1 a2) rs0 rp0 re0 ro0 = (r, n)) := ⟨_, _, Lib.hid rfl⟩
    obtain ⟨⟨s6, p6, e6, o6⟩, H6⟩ : ∃ r, Hid (failR rs0 rp0 re0 ro0 a5 a3 = r) := ⟨_, Lib.hid rfl⟩
    obtain ⟨⟨fe, fo⟩, H7⟩ : ∃ r, Hid (endF rs0 rp0 re0 ro0 = r) := ⟨_, Lib.hid rfl⟩
    have hn5 := fldL_len H5.out
    go_enter Try.func3, Try.ntmps3
    go_wp2_with (first
      | (go_at_call 10; (refine (pnumber_any rs0 rp0 re0 ro0 a1 a2 hs i1 i2 i3 i4 s1 p1 e1 o1 n1 H1 _).mono ?_); rintro en w2 ⟨rfl, hB⟩; have P2 := Lib.hid (P1.out.below hB); have B2 := Lib.hid (below_then B1.out hB); clear hB; have lp := P2.out.lt; obtain ⟨cp0, cp1, cp2, cp3⟩ := P2.out.c4; obtain ⟨fp0, fp1, fp2, fp3⟩ := P2.out.f4; have qPA := P2.out.lt; have P3 := Lib.hid (P2.out.alloc (.cells #[.string s1, .int .i64 p1, .int .i64 e1, .int .i64 o1] 26)); have B3 := Lib.hid (B2.out.alloc B2.out.size (.cells #[.string s1, .int .i64 p1, .int .i64 e1, .int .i64 o1] 26)); have A3 := Lib.hid (Box.new _ 26 #[.string s1, .int .i64 p1, .int .i64 e1, .int .i64 o1] : Box (World.alloc w2 (.cells #[.string s1, .int .i64 p1, .int .i64 e1, .int .i64 o1] 26)) _ _ _))
      | (go_at_call 11; (refine (rnumber_any rs0 rp0 re0 ro0 a1 a2 hs i1 i2 i3 i4 s1 p1 e1 o1 n1 H1 _).mono ?_); rintro en w4 ⟨rfl, hB⟩; clear cp0 cp1 cp2 cp3 fp0 fp1 fp2 fp3 lp; have P4 := Lib.hid (P3.out.below hB); have A4 := Lib.hid (A3.out.below hB); have B4 := Lib.hid (below_then B3.out hB); clear hB; have lp := P4.out.lt; obtain ⟨cp0, cp1, cp2, cp3⟩ := P4.out.c4; obtain ⟨fp0, fp1, fp2, fp3⟩ := P4.out.f4; have la := A4.out.lt; obtain ⟨ca0, ca1, ca2, ca3⟩ := A4.out.c4; obtain ⟨fa0, fa1, fa2, fa3⟩ := A4.out.f4; have qPD := P4.out.lt; have qAD := A4.out.lt; have P5 := Lib.hid (P4.out.alloc (.cells #[.string s1, .int .i64 p1, .int .i64 e1, .int .i64 o1] 26)); have A5 := Lib.hid (A4.out.alloc (.cells #[.string s1, .int .i64 p1, .int .i64 e1, .int .i64 o1] 26)); have B5 := Lib.hid (B4.out.alloc B4.out.size (.cells #[.string s1, .int .i64 p1, .int .i64 e1, .int .i64 o1] 26)); have D5 := Lib.hid (Box.new _ 26 #[.string s1, .int .i64 p1, .int .i64 e1, .int .i64 o1] : Box (World.alloc w4 (.cells #[.string s1, .int .i64 p1, .int .i64 e1, .int .i64 o1] 26)) _ _ _))
      | (go_at_call 12; (refine (pwide_any rs0 rp0 re0 ro0 a4 hs i7 i8 s2 p2 e2 o2 n2 H2 _).mono ?_); rintro en w6 ⟨rfl, hB⟩; clear cp0 cp1 cp2 cp3 fp0 fp1 fp2 fp3 lp ca0 ca1 ca2 ca3 fa0 fa1 fa2 fa3 la; have P6 := Lib.hid (P5.out.below hB); have A6 := Lib.hid (A5.out.below hB); have D6 := Lib.hid (D5.out.below hB); have B6 := Lib.hid (below_then B5.out hB); clear hB; have lp := P6.out.lt; obtain ⟨cp0, cp1, cp2, cp3⟩ := P6.out.c4; obtain ⟨fp0, fp1, fp2, fp3⟩ := P6.out.f4; have la := A6.out.lt; obtain ⟨ca0, ca1, ca2, ca3⟩ := A6.out.c4; obtain ⟨fa0, fa1, fa2, fa3⟩ := A6.out.f4; have ld := D6.out.lt; obtain ⟨cd0, cd1, cd2, cd3⟩ := D6.out.c4; obtain ⟨fd0, fd1, fd2, fd3⟩ := D6.out.f4; have P7 := Lib.hid (P6.out.other4 (b' := w2.heap.size) (by omega) (.string s2) (.int .i64 p2) (.int .i64 e2) (.int .i64 o2)); have A7 := Lib.hid (A6.out.set4 (.string s2) (.int .i64 p2) (.int .i64 e2) (.int .i64 o2)); have D7 := Lib.hid (D6.out.other4 (b' := w2.heap.size) (by omega) (.string s2) (.int .i64 p2) (.int .i64 e2) (.int .i64 o2)); have B7 := Lib.hid (Below.set4 B6.out (w2.heap.size) (by omega) (.string s2) (.int .i64 p2) (.int .i64 e2) (.int .i64 o2)))
      | (go_at_call 13; (refine (rwide_any rs0 rp0 re0 ro0 a4 hs i7 i8 s2 p2 e2 o2 n2 H2 _).mono ?_); rintro en w8 ⟨rfl, hB⟩; clear cp0 cp1 cp2 cp3 fp0 fp1 fp2 fp3 lp ca0 ca1 ca2 ca3 fa0 fa1 fa2 fa3 la cd0 cd1 cd2 cd3 fd0 fd1 fd2 fd3 ld; have P8 := Lib.hid (P7.out.below hB); have A8 := Lib.hid (A7.out.below hB); have D8 := Lib.hid (D7.out.below hB); have B8 := Lib.hid (below_then B7.out hB); clear hB; have lp := P8.out.lt; obtain ⟨cp0, cp1, cp2, cp3⟩ := P8.out.c4; obtain ⟨fp0, fp1, fp2, fp3⟩ := P8.out.f4; have la := A8.out.lt; obtain ⟨ca0, ca1, ca2, ca3⟩ := A8.out.c4; obtain ⟨fa0, fa1, fa2, fa3⟩ := A8.out.f4; have ld := D8.out.lt; obtain ⟨cd0, cd1, cd2, cd3⟩ := D8.out.c4; obtain ⟨fd0, fd1, fd2, fd3⟩ := D8.out.f4; have P9 := Lib.hid (P8.out.other4 (b' := w4.heap.size) (by omega) (.string s2) (.int .i64 p2) (.int .i64 e2) (.int .i64 o2)); have A9 := Lib.hid (A8.out.other4 (b' := w4.heap.size) (by omega) (.string s2) (.int .i64 p2) (.int .i64 e2) (.int .i64 o2)); have D9 := Lib.hid (D8.out.set4 (.string s2) (.int .i64 p2) (.int .i64 e2) (.int .i64 o2)); have B9 := Lib.hid (Below.set4 B8.out (w4.heap.size) (by omega) (.string s2) (.int .i64 p2) (.int .i64 e2) (.int .i64 o2)))
      | (go_at_call 14; (refine (pstring_any rs0 rp0 re0 ro0 a3 hs i5 i6 s3 p3 e3 o3 n3 H3 _).mono ?_); rintro en w10 ⟨rfl, hB⟩; clear cp0 cp1 cp2 cp3 fp0 fp1 fp2 fp3 lp ca0 ca1 ca2 ca3 fa0 fa1 fa2 fa3 la cd0 cd1 cd2 cd3 fd0 fd1 fd2 fd3 ld; have P10 := Lib.hid (P9.out.below hB); have A10 := Lib.hid (A9.out.below hB); have D10 := Lib.hid (D9.out.below hB); have B10 := Lib.hid (below_then B9.out hB); clear hB; have lp := P10.out.lt; obtain ⟨cp0, cp1, cp2, cp3⟩ := P10.out.c4; obtain ⟨fp0, fp1, fp2, fp3⟩ := P10.out.f4; have la := A10.out.lt; obtain ⟨ca0, ca1, ca2, ca3⟩ := A10.out.c4; obtain ⟨fa0, fa1, fa2, fa3⟩ := A10.out.f4; have ld := D10.out.lt; obtain ⟨cd0, cd1, cd2, cd3⟩ := D10.out.c4; obtain ⟨fd0, fd1, fd2, fd3⟩ := D10.out.f4; have P11 := Lib.hid (P10.out.other4 (b' := w2.heap.size) (by omega) (.string s3) (.int .i64 p3) (.int .i64 e3) (.int .i64 o3)); have A11 := Lib.hid (A10.out.set4 (.string s3) (.int .i64 p3) (.int .i64 e3) (.int .i64 o3)); have D11 := Lib.hid (D10.out.other4 (b' := w2.heap.size) (by omega) (.string s3) (.int .i64 p3) (.int .i64 e3) (.int .i64 o3)); have B11 := Lib.hid (Below.set4 B10.out (w2.heap.size) (by omega) (.string s3) (.int .i64 p3) (.int .i64 e3) (.int .i64 o3)))
      | (go_at_call 15; (refine (rstring_any rs0 rp0 re0 ro0 a3 hs i5 i6 s3 p3 e3 o3 n3 H3 _).mono ?_); rintro en w12 ⟨rfl, hB⟩; clear cp0 cp1 cp2 cp3 fp0 fp1 fp2 fp3 lp ca0 ca1 ca2 ca3 fa0 fa1 fa2 fa3 la cd0 cd1 cd2 cd3 fd0 fd1 fd2 fd3 ld; have P12 := Lib.hid (P11.out.below hB); have A12 := Lib.hid (A11.out.below hB); have D12 := Lib.hid (D11.out.below hB); have B12 := Lib.hid (below_then B11.out hB); clear hB; have lp := P12.out.lt; obtain ⟨cp0, cp1, cp2, cp3⟩ := P12.out.c4; obtain ⟨fp0, fp1, fp2, fp3⟩ := P12.out.f4; have la := A12.out.lt; obtain ⟨ca0, ca1, ca2, ca3⟩ := A12.out.c4; obtain ⟨fa0, fa1, fa2, fa3⟩ := A12.out.f4; have ld := D12.out.lt; obtain ⟨cd0, cd1, cd2, cd3⟩ := D12.out.c4; obtain ⟨fd0, fd1, fd2, fd3⟩ := D12.out.f4; have P13 := Lib.hid (P12.out.other4 (b' := w4.heap.size) (by omega) (.string s3) (.int .i64 p3) (.int .i64 e3) (.int .i64 o3)); have A13 := Lib.hid (A12.out.other4 (b' := w4.heap.size) (by omega) (.string s3) (.int .i64 p3) (.int .i64 e3) (.int .i64 o3)); have D13 := Lib.hid (D12.out.set4 (.string s3) (.int .i64 p3) (.int .i64 e3) (.int .i64 o3)); have B13 := Lib.hid (Below.set4 B12.out (w4.heap.size) (by omega) (.string s3) (.int .i64 p3) (.int .i64 e3) (.int .i64 o3)))
      | (go_at_call 16; (refine (pfixed_any rs0 rp0 re0 ro0 a3 hs i5 i6 s4 p4 e4 o4 n4 H4 _).mono ?_); rintro en w14 ⟨rfl, hB⟩; clear cp0 cp1 cp2 cp3 fp0 fp1 fp2 fp3 lp ca0 ca1 ca2 ca3 fa0 fa1 fa2 fa3 la cd0 cd1 cd2 cd3 fd0 fd1 fd2 fd3 ld; have P14 := Lib.hid (P13.out.below hB); have A14 := Lib.hid (A13.out.below hB); have D14 := Lib.hid (D13.out.below hB); have B14 := Lib.hid (below_then B13.out hB); clear hB; have lp := P14.out.lt; obtain ⟨cp0, cp1, cp2, cp3⟩ := P14.out.c4; obtain ⟨fp0, fp1, fp2, fp3⟩ := P14.out.f4; have la := A14.out.lt; obtain ⟨ca0, ca1, ca2, ca3⟩ := A14.out.c4; obtain ⟨fa0, fa1, fa2, fa3⟩ := A14.out.f4; have ld := D14.out.lt; obtain ⟨cd0, cd1, cd2, cd3⟩ := D14.out.c4; obtain ⟨fd0, fd1, fd2, fd3⟩ := D14.out.f4; have P15 := Lib.hid (P14.out.other4 (b' := w2.heap.size) (by omega) (.string s4) (.int .i64 p4) (.int .i64 e4) (.int .i64 o4)); have A15 := Lib.hid (A14.out.set4 (.string s4) (.int .i64 p4) (.int .i64 e4) (.int .i64 o4)); have D15 := Lib.hid (D14.out.other4 (b' := w2.heap.size) (by omega) (.string s4) (.int .i64 p4) (.int .i64 e4) (.int .i64 o4)); have B15 := Lib.hid (Below.set4 B14.out (w2.heap.size) (by omega) (.string s4) (.int .i64 p4) (.int .i64 e4) (.int .i64 o4)))
      | (go_at_call 17; (refine (rfixed_any rs0 rp0 re0 ro0 a3 hs i5 i6 s4 p4 e4 o4 n4 H4 _).mono ?_); rintro en w16 ⟨rfl, hB⟩; clear cp0 cp1 cp2 cp3 fp0 fp1 fp2 fp3 lp ca0 ca1 ca2 ca3 fa0 fa1 fa2 fa3 la cd0 cd1 cd2 cd3 fd0 fd1 fd2 fd3 ld; have P16 := Lib.hid (P15.out.below hB); have A16 := Lib.hid (A15.out.below hB); have D16 := Lib.hid (D15.out.below hB); have B16 := Lib.hid (below_then B15.out hB); clear hB; have lp := P16.out.lt; obtain ⟨cp0, cp1, cp2, cp3⟩ := P16.out.c4; obtain ⟨fp0, fp1, fp2, fp3⟩ := P16.out.f4; have la := A16.out.lt; obtain ⟨ca0, ca1, ca2, ca3⟩ := A16.out.c4; obtain ⟨fa0, fa1, fa2, fa3⟩ := A16.out.f4; have ld := D16.out.lt; obtain ⟨cd0, cd1, cd2, cd3⟩ := D16.out.c4; obtain ⟨fd0, fd1, fd2, fd3⟩ := D16.out.f4; have P17 := Lib.hid (P16.out.other4 (b' := w4.heap.size) (by omega) (.string s4) (.int .i64 p4) (.int .i64 e4) (.int .i64 o4)); have A17 := Lib.hid (A16.out.other4 (b' := w4.heap.size) (by omega) (.string s4) (.int .i64 p4) (.int .i64 e4) (.int .i64 o4)); have D17 := Lib.hid (D16.out.set4 (.string s4) (.int .i64 p4) (.int .i64 e4) (.int .i64 o4)); have B17 := Lib.hid (Below.set4 B16.out (w4.heap.size) (by omega) (.string s4) (.int .i64 p4) (.int .i64 e4) (.int .i64 o4)))
      | (go_at_call 18; (refine (pints_any rs0 rp0 re0 ro0 a3 a1 a2 hs i5 i6 i1 i2 i3 i4 s5 p5 e5 o5 n5 H5 _).mono ?_); rintro en w18 ⟨Vu, bu, rfl, hbu, hVu, hB⟩; clear cp0 cp1 cp2 cp3 fp0 fp1 fp2 fp3 lp ca0 ca1 ca2 ca3 fa0 fa1 fa2 fa3 la cd0 cd1 cd2 cd3 fd0 fd1 fd2 fd3 ld; have P18 := Lib.hid (P17.out.below hB); have A18 := Lib.hid (A17.out.below hB); have D18 := Lib.hid (D17.out.below hB); have B18 := Lib.hid (below_then B17.out hB); have lAu : w2.heap.size < bu := Nat.lt_of_lt_of_le A17.out.lt hbu; have lDu : w4.heap.size < bu := Nat.lt_of_lt_of_le D17.out.lt hbu; have lp := P18.out.lt; obtain ⟨cp0, cp1, cp2, cp3⟩ := P18.out.c4; obtain ⟨fp0, fp1, fp2, fp3⟩ := P18.out.f4; have la := A18.out.lt; obtain ⟨ca0, ca1, ca2, ca3⟩ := A18.out.c4; obtain ⟨fa0, fa1, fa2, fa3⟩ := A18.out.f4; have ld := D18.out.lt; obtain ⟨cd0, cd1, cd2, cd3⟩ := D18.out.c4; obtain ⟨fd0, fd1, fd2, fd3⟩ := D18.out.f4; have RV0 := Lib.hid (hVu.set4 (w2.heap.size) lAu (.string s5) (.int .i64 p5) (.int .i64 e5) (.int .i64 o5)); have RVa := RV0; obtain ⟨au9, cu9, rfl, _⟩ := hVu; clear hB hbu; have P19 := Lib.hid (P18.out.other4 (b' := w2.heap.size) (by omega) (.string s5) (.int .i64 p5) (.int .i64 e5) (.int .i64 o5)); have A19 := Lib.hid (A18.out.set4 (.string s5) (.int .i64 p5) (.int .i64 e5) (.int .i64 o5)); have D19 := Lib.hid (D18.out.other4 (b' := w2.heap.size) (by omega) (.string s5) (.int .i64 p5) (.int .i64 e5) (.int .i64 o5)); have B19 := Lib.hid (Below.set4 B18.out (w2.heap.size) (by omega) (.string s5) (.int .i64 p5) (.int .i64 e5) (.int .i64 o5)))
      | (go_at_call 19; (refine (rints_any rs0 rp0 re0 ro0 a3 a1 a2 hs i5 i6 i1 i2 i3 i4 s5 p5 e5 o5 n5 H5 _).mono ?_); rintro en w20 ⟨Vv, bv, rfl, hbv, hVv, hB⟩; clear cp0 cp1 cp2 cp3 fp0 fp1 fp2 fp3 lp ca0 ca1 ca2 ca3 fa0 fa1 fa2 fa3 la cd0 cd1 cd2 cd3 fd0 fd1 fd2 fd3 ld; have P20 := Lib.hid (P19.out.below hB); have A20 := Lib.hid (A19.out.below hB); have D20 := Lib.hid (D19.out.below hB); have B20 := Lib.hid (below_then B19.out hB); have lAv : w2.heap.size < bv := Nat.lt_of_lt_of_le A19.out.lt hbv; have lDv : w4.heap.size < bv := Nat.lt_of_lt_of_le D19.out.lt hbv; have RVb := Lib.hid (RVa.out.below hB); have lp := P20.out.lt; obtain ⟨cp0, cp1, cp2, cp3⟩ := P20.out.c4; obtain ⟨fp0, fp1, fp2, fp3⟩ := P20.out.f4; have la := A20.out.lt; obtain ⟨ca0, ca1, ca2, ca3⟩ := A20.out.c4; obtain ⟨fa0, fa1, fa2, fa3⟩ := A20.out.f4; have ld := D20.out.lt; obtain ⟨cd0, cd1, cd2, cd3⟩ := D20.out.c4; obtain ⟨fd0, fd1, fd2, fd3⟩ := D20.out.f4; have RVc := Lib.hid (hVv.set4 (w4.heap.size) lDv (.string s5) (.int .i64 p5) (.int .i64 e5) (.int .i64 o5)); have RVd := Lib.hid (RVb.out.set4 (w4.heap.size) lDu (.string s5) (.int .i64 p5) (.int .i64 e5) (.int .i64 o5)); obtain ⟨av9, cv9, rfl, _⟩ := hVv; clear hB hbv; have P21 := Lib.hid (P20.out.other4 (b' := w4.heap.size) (by omega) (.string s5) (.int .i64 p5) (.int .i64 e5) (.int .i64 o5)); have A21 := Lib.hid (A20.out.other4 (b' := w4.heap.size) (by omega) (.string s5) (.int .i64 p5) (.int .i64 e5) (.int .i64 o5)); have D21 := Lib.hid (D20.out.set4 (.string s5) (.int .i64 p5) (.int .i64 e5) (.int .i64 o5)); have B21 := Lib.hid (Below.set4 B20.out (w4.heap.size) (by omega) (.string s5) (.int .i64 p5) (.int .i64 e5) (.int .i64 o5))))
    obtain ⟨ax, cx, ex, rx⟩ := RVd.out.reads
    obtain ⟨ay, cy, ey, ry⟩ := RVc.out.reads
    cases ex
    cases ey
    obtain ⟨W, hW⟩ : ∃ W : World, W = (((w20.setCell ⟨w4.heap.size, 0, none⟩ (.string s5)).setCell ⟨w4.heap.size, 1, none⟩ (.int .i64 p5)).setCell ⟨w4.heap.size, 2, none⟩ (.int .i64 e5)).setCell ⟨w4.heap.size, 3, none⟩ (.int .i64 o5) := ⟨_, rfl⟩
    rw [← hW]
    have PW : Box W 26 w.heap.size #[.string rs0, .int .i64 rp0, .int .i64 re0, .int .i64 ro0] := by rw [hW]; exact P21.out
    have AW : Box W 26 (w2.heap.size) #[.string s5, .int .i64 p5, .int .i64 e5, .int .i64 o5] := by rw [hW]; exact A21.out
    have DW : Box W 26 (w4.heap.size) #[.string s5, .int .i64 p5, .int .i64 e5, .int .i64 o5] := by rw [hW]; exact D21.out
    have BW : Below w.heap.size w W := by rw [hW]; exact B21.out
    rw [← hW] at rx ry
    have RX := Lib.hid rx
    have RY := Lib.hid ry
    clear hW rx ry cp0 cp1 cp2 cp3 fp0 fp1 fp2 fp3 lp ca0 ca1 ca2 ca3 fa0 fa1 fa2 fa3 la cd0 cd1 cd2 cd3 fd0 fd1 fd2 fd3 ld lAu lDu lAv lDv
    have z0 : ∀ p : Later W, p.W.cell? ⟨w.heap.size, 0, none⟩ = some (.string rs0) := fun p => p.cell PW.c4.1 PW.lt
    have z1 : ∀ p : Later W, p.W.cell? ⟨w.heap.size, 1, none⟩ = some (.int .i64 rp0) := fun p => p.cell PW.c4.2.1 PW.lt
    have z2 : ∀ p : Later W, p.W.cell? ⟨w.heap.size, 2, none⟩ = some (.int .i64 re0) := fun p => p.cell PW.c4.2.2.1 PW.lt
    have z3 : ∀ p : Later W, p.W.cell? ⟨w.heap.size, 3, none⟩ = some (.int .i64 ro0) := fun p => p.cell PW.c4.2.2.2 PW.lt
    have x0 : ∀ p : Later W, p.W.cell? ⟨w2.heap.size, 0, none⟩ = some (.string s5) := fun p => p.cell AW.c4.1 AW.lt
    have x1 : ∀ p : Later W, p.W.cell? ⟨w2.heap.size, 1, none⟩ = some (.int .i64 p5) := fun p => p.cell AW.c4.2.1 AW.lt
    have x2 : ∀ p : Later W, p.W.cell? ⟨w2.heap.size, 2, none⟩ = some (.int .i64 e5) := fun p => p.cell AW.c4.2.2.1 AW.lt
    have x3 : ∀ p : Later W, p.W.cell? ⟨w2.heap.size, 3, none⟩ = some (.int .i64 o5) := fun p => p.cell AW.c4.2.2.2 AW.lt
    have y0 : ∀ p : Later W, p.W.cell? ⟨w4.heap.size, 0, none⟩ = some (.string s5) := fun p => p.cell DW.c4.1 DW.lt
    have y1 : ∀ p : Later W, p.W.cell? ⟨w4.heap.size, 1, none⟩ = some (.int .i64 p5) := fun p => p.cell DW.c4.2.1 DW.lt
    have y2 : ∀ p : Later W, p.W.cell? ⟨w4.heap.size, 2, none⟩ = some (.int .i64 e5) := fun p => p.cell DW.c4.2.2.1 DW.lt
    have y3 : ∀ p : Later W, p.W.cell? ⟨w4.heap.size, 3, none⟩ = some (.int .i64 o5) := fun p => p.cell DW.c4.2.2.2 DW.lt
    refine wp_region_later (by kernel_rfl) (by kernel_rfl) ?_
    repeat (go_big_quiet_step ((first
      | (go_at_call 20; exact calls_drew (same_ints _ _ _ _ n5 _ (by omega) (RX.out.below (Later.h _)) (RY.out.below (Later.h _))))
      | (go_at_call 21; exact calls_later (pfail_any rs0 rp0 re0 ro0 a5 a3 hs i9 i10 i5 i6 s6 p6 e6 o6 H6 _))
      | (go_at_call 22; exact calls_later (rFail_any rs0 rp0 re0 ro0 a5 a3 hs i9 i10 i5 i6 s6 p6 e6 o6 H6 _))
      | (go_at_call 23; exact calls_later (pend_any rs0 rp0 re0 ro0 hs fe fo H7 _))
      | (go_at_call 24; exact calls_later (rend_any rs0 rp0 re0 ro0 hs fe fo H7 _))
      | (go_at_call 9; exact calls_later (awake_any _)))))
    refine wpQuiet_nil ?_
    intro _ hw'
    obtain ⟨p9, hw''⟩ := hw'
    subst hw''
    have B9 := Lib.hid (below_then BW p9.h)
    go_wp2
    go_ret
    exact ⟨rfl, B9.out⟩

set_option maxRecDepth 100000 in
theorem lifted (os : Os) (started : os.Started) (H : Type) (enc : TypeId × Value → H) :
    ReturnsInHanded {} Try.checked os 3 .any (Rows.codecReadsSpec.pre6 enc Try.prog Try.f3 Rows.codecReadsRow.domain false) (Rows.codecReadsSpec.post enc Try.prog Try.f3 false true false false) := by
  refine returnsInHanded_of_change (C := Try.checked) own started (by kernel_rfl) Try.func3
    (ChangeSpec.witness6 (enc := enc) (C := Try.checked) false ⟨#[], #[.agg #[.string ByteArray.empty, .int .i64 0, .int .i64 0, .int .i64 0], .int .i64 0, .int .i64 0, .int .i64 0, .int .u64 0, .int .i64 0], []⟩ 8 (by kernel_rfl) (by kernel_rfl) (by kernel_rfl) (by kernel_rfl)) ?_
  intro W base args ds gs before hval0 hW hcnd _
  have hval : ∀ (j : Nat) t v, Try.f3.params[j]? = some t → args[j]? = some v → Value.okWide Try.prog W .any base t v := hval0
  have hW' := hW
  obtain ⟨p, q, hA0, hV, rfl, hfz, hnd⟩ := hW
  have hA : DataW.TrodAll enc Try.prog W 0 (fun _ => true) true Try.f3.params.toList args.toList ds p := hA0
  rw [Try.params3] at hA hval
  obtain ⟨v0, vs0, d0, ds0, p0, q0, hargs, rfl, rfl, h0, r0⟩ := trodAll_cons hA
  obtain ⟨v1, vs1, d1, ds1, p1, q1, rfl, rfl, rfl, h1, r1⟩ := trodAll_cons r0
  obtain ⟨v2, vs2, d2, ds2, p2, q2, rfl, rfl, rfl, h2, r2⟩ := trodAll_cons r1
  obtain ⟨v3, vs3, d3, ds3, p3, q3, rfl, rfl, rfl, h3, r3⟩ := trodAll_cons r2
  obtain ⟨v4, vs4, d4, ds4, p4, q4, rfl, rfl, rfl, h4, r4⟩ := trodAll_cons r3
  obtain ⟨v5, vs5, d5, ds5, p5, q5, rfl, rfl, rfl, h5, r5⟩ := trodAll_cons r4
  obtain ⟨rfl, rfl, rfl⟩ := trodAll_nil r5
  obtain rfl : args = #[v0, v1, v2, v3, v4, v5] := by cases args; simp_all
  obtain ⟨rfl, rfl⟩ := trodVars_none hV
  have k0 := h0
  have lt0 : ∀ x ∈ p0, x.block < W.heap.size := by obtain ⟨m, hm⟩ := k0; exact DataW.trod_lt m _ _ _ hm
  have k1 := h1
  have lt1 : ∀ x ∈ p1, x.block < W.heap.size := by obtain ⟨m, hm⟩ := k1; exact DataW.trod_lt m _ _ _ hm
  have k2 := h2
  have lt2 : ∀ x ∈ p2, x.block < W.heap.size := by obtain ⟨m, hm⟩ := k2; exact DataW.trod_lt m _ _ _ hm
  have k3 := h3
  have lt3 : ∀ x ∈ p3, x.block < W.heap.size := by obtain ⟨m, hm⟩ := k3; exact DataW.trod_lt m _ _ _ hm
  have k4 := h4
  have lt4 : ∀ x ∈ p4, x.block < W.heap.size := by obtain ⟨m, hm⟩ := k4; exact DataW.trod_lt m _ _ _ hm
  have k5 := h5
  have lt5 : ∀ x ∈ p5, x.block < W.heap.size := by obtain ⟨m, hm⟩ := k5; exact DataW.trod_lt m _ _ _ hm
  obtain ⟨rs0, rp0, re0, ro0, rfl, w0, wp0, we0, wo0⟩ := s05.open_reader (hval 0 26 v0 rfl rfl) h0
  obtain ⟨a1, rfl, rfl, rfl, w1⟩ := open_int Try.underlying3 (hval 1 3 v1 rfl rfl) h1
  obtain ⟨a2, rfl, rfl, rfl, w2⟩ := open_int Try.underlying3 (hval 2 3 v2 rfl rfl) h2
  obtain ⟨a3, rfl, rfl, rfl, w3⟩ := open_int Try.underlying3 (hval 3 3 v3 rfl rfl) h3
  obtain ⟨a4, rfl, rfl, rfl, w4⟩ := open_int Try.underlying27 (hval 4 27 v4 rfl rfl) h4
  obtain ⟨a5, rfl, rfl, rfl, w5⟩ := open_int Try.underlying22 (hval 5 22 v5 rfl rfl) h5
  clear hA0 hval0
  refine (walk rs0 rp0 re0 ro0 a1 a2 a3 a4 a5 W w0 wp0 we0 wo0 w1 w2 w3 w4 w5).mono fun e W' ⟨he, bel⟩ => ?_
  subst he
  exact ⟨_, rfl, _, _, _, [], _, [], hW', trodAll_mk1 (shut_bool Try.underlying4 _), trodAll_cons_mk (Below.trod laidOut (by kernel_rfl) (of_decide_eq_true (by kernel_rfl)) k0 bel lt0) (trodAll_cons_mk (Below.trod laidOut (by kernel_rfl) (of_decide_eq_true (by kernel_rfl)) k1 bel lt1) (trodAll_cons_mk (Below.trod laidOut (by kernel_rfl) (of_decide_eq_true (by kernel_rfl)) k2 bel lt2) (trodAll_cons_mk (Below.trod laidOut (by kernel_rfl) (of_decide_eq_true (by kernel_rfl)) k3 bel lt3) (trodAll_cons_mk (Below.trod laidOut (by kernel_rfl) (of_decide_eq_true (by kernel_rfl)) k4 bel lt4) (trodAll_cons_mk (Below.trod laidOut (by kernel_rfl) (of_decide_eq_true (by kernel_rfl)) k5 bel lt5) trodAll_mk0))))), rfl, bel.frame _, fun h => by cases h⟩

theorem over : Rows.codecReadsRow.holds Try.pinned (OpenSpec.ofChange Rows.codecReadsSpec) :=
  OpenClaim.holds_of_wide 3 Try.f3 rfl rfl rfl rfl rfl rfl rfl ⟨rfl, rfl, rfl, rfl, rfl⟩ rfl rfl rfl rfl rfl (by kernel_rfl) Try.func3 (by kernel_rfl)
    (of_decide_eq_true (by kernel_rfl)) (by unfold Func.isWrapper; first | (rw [if_pos (by decide +kernel)]; kernel_rfl) | (rw [if_neg (by decide +kernel)]; exact ⟨rfl, rfl⟩))
    (fun os started H enc _ => lifted os started H enc)

/-- THE STATEMENT -/
theorem proved : Rows.CodecReadsSaid := over
#print axioms proved
end Go.Proofs.Ytkepnjnindolbaa.codecReads
