/-
  Layer 7: the laws TokenFrames and TokenReads.
-/
import Derived.Test.YtniimoebgajefaaS07Q
import Derived.Test.YtniimoebgajefaaS07D
import Derived.Test.YtniimoebgajefaaS07I
namespace Go.Proofs.Ytniimoebgajefaa.s07
set_option linter.unusedVariables false
set_option linter.unusedSimpArgs false
open Go.RowKit
open kit

set_option maxRecDepth 100000 in
set_option maxHeartbeats 2000000 in
theorem frames_law (y p t : Int) (x : ByteArray) (w : World) (hx0 : x.size ≤ 9223372036854775807) :
    Calls Try.prog 4 #[.agg #[.int .i64 y, .string x, .int .i64 p], .int .i64 t] w fun e w' => e = .returned (.bool true) ∧ Below w.heap.size w w' := by
  have HB := box1 y p x w
  have HX := box2 y p x w
  by_cases h60 : 60 < x.size
  · have h61 : (60 : Int) < (x.size : Int) := by omega
    go_enter Try.func4, Try.ntmps4
    go_wp2_with (go_at_call 20; refine (awake_any _).mono ?_; rintro e w9 ⟨rfl, hB9⟩)
    go_ret
    exact ⟨rfl, below_alloc_then (Below.refl _ _) hB9⟩
  · have h61 : ¬ (60 : Int) < (x.size : Int) := by omega
    have hx : x.size ≤ 9223372036854775805 := by omega
    obtain ⟨b, c, hb⟩ : ∃ b c, bytesR y x p t = (b, c) := ⟨_, _, rfl⟩
    obtain ⟨k, hk⟩ : ∃ k, chkR y x.size p t = k := ⟨_, rfl⟩
    obtain ⟨v, hv⟩ : ∃ v, sepR y x p t = v := ⟨_, rfl⟩
    have HBy := Lib.hid hb
    have HK := Lib.hid hk
    have HV := Lib.hid hv
    clear hb hk hv h60
    go_enter Try.func4, Try.ntmps4
    go_wp2_with (first
      | (go_at_call 10; refine (tbytes_any y p t x _ b c HBy).mono ?_; rintro e w1 ⟨rfl, hB⟩; have B1 := Lib.hid (HB.out.trans (hB.mono HB.out.size)); have X1 := Lib.hid (HX.out.below hB); clear hB; obtain ⟨c0, c1, c2⟩ := X1.out.cell3)
      | (go_at_call 21; refine (rbytes_any y p t x _ b c HBy).mono ?_; rintro e w2 ⟨rfl, hB⟩; have B2 := Lib.hid (below_then B1.out hB); have X2 := Lib.hid (X1.out.below hB); clear hB c0 c1 c2))
    have hlt := X2.out.lt
    obtain ⟨c0, c1, c2⟩ := X2.out.cell3
    have z0 : ∀ p : Later w2, p.W.cell? ⟨w.heap.size, 0, none⟩ = some (.int .i64 y) := fun p => p.cell c0 hlt
    have z1 : ∀ p : Later w2, p.W.cell? ⟨w.heap.size, 1, none⟩ = some (.string x) := fun p => p.cell c1 hlt
    have z2 : ∀ q : Later w2, q.W.cell? ⟨w.heap.size, 2, none⟩ = some (.int .i64 p) := fun q => q.cell c2 hlt
    clear c0 c1 c2 hlt X1 X2 HX HB
    refine wp_region_later (by kernel_rfl) (by kernel_rfl) ?_
    repeat (go_big_quiet_step ((first
      | (go_at_call 15; exact calls_later (check_any y p t x _ k HK))
      | (go_at_call 22; exact calls_later (rcheck_any y p t x _ k HK))
      | (go_at_call 11; exact calls_later (size_any y p x hx _))
      | (go_at_call 23; exact calls_later (rsize_any y p x hx _))
      | (go_at_call 19; exact calls_later (sep_any y p t x _ v HV))
      | (go_at_call 24; exact calls_later (rsep_any y p t x _ v HV))
      | (go_at_call 20; exact calls_later (awake_any _)))))
    refine wpQuiet_nil ?_
    rintro w5 ⟨p5, rfl⟩
    have B5 := Lib.hid (below_then B2.out p5.h)
    generalize p5.W = w6 at B5 ⊢
    go_wp2
    go_ret
    exact ⟨rfl, B5.out⟩
set_option maxRecDepth 100000 in
set_option maxHeartbeats 2000000 in
theorem reads_law (s : ByteArray) (t a : Int) (w : World) (hs : s.size ≤ 9223372036854775807) :
    Calls Try.prog 5 #[.string s, .int .i64 t, .int .i64 a] w fun e w' => e = .returned (.bool true) ∧ Below w.heap.size w w' := by
  by_cases h60 : 100 < s.size
  · have h61 : (100 : Int) < (s.size : Int) := by omega
    go_enter Try.func5, Try.ntmps5
    go_wp2_with (go_at_call 20; refine (awake_any _).mono ?_; rintro e w9 ⟨rfl, hB9⟩)
    go_ret
    exact ⟨rfl, hB9⟩
  · have h61 : ¬ (100 : Int) < (s.size : Int) := by omega
    have s1 : s.size ≤ 9223372036854775800 := by omega
    have s2 : s.size ≤ 9223372036854775806 := by omega
    obtain ⟨⟨y, x, p⟩, n, er, at', hr⟩ : ∃ z n er at', readR s t a = (z, n, er, at') := ⟨_, _, _, _, rfl⟩
    obtain ⟨v, c, hv⟩ : ∃ v c, beginsR s t = (v, c) := ⟨_, _, rfl⟩
    have HR := Lib.hid hr
    have HV := Lib.hid hv
    clear hr hv h60
    go_enter Try.func5, Try.ntmps5
    go_wp2_with (first
      | (go_at_call 25; refine (pread_any s t a _ s1 y x p n er at' HR).mono ?_; rintro e w1 ⟨rfl, hB⟩; have B1 := Lib.hid (hB.trans ((two_new w1 #[.int .i64 y, .string x, .int .i64 p] #[.int .i64 er, .int .i64 at']).2.2.mono hB.size)); have X1 := Lib.hid (two_new w1 #[.int .i64 y, .string x, .int .i64 p] #[.int .i64 er, .int .i64 at']).1; have Y1 := Lib.hid (two_new w1 #[.int .i64 y, .string x, .int .i64 p] #[.int .i64 er, .int .i64 at']).2.1; clear hB)
      | (go_at_call 26; refine (rread_any s t a _ s2 y x p n er at' HR).mono ?_; rintro e w2 ⟨rfl, hB⟩; have X2 := Lib.hid ((X1.out.below hB).below (two_new w2 #[.int .i64 y, .string x, .int .i64 p] #[.int .i64 er, .int .i64 at']).2.2); have Y2 := Lib.hid ((Y1.out.below hB).below (two_new w2 #[.int .i64 y, .string x, .int .i64 p] #[.int .i64 er, .int .i64 at']).2.2); have B2 := Lib.hid ((below_then B1.out hB).trans ((two_new w2 #[.int .i64 y, .string x, .int .i64 p] #[.int .i64 er, .int .i64 at']).2.2.mono (below_then B1.out hB).size)); have U2 := Lib.hid (two_new w2 #[.int .i64 y, .string x, .int .i64 p] #[.int .i64 er, .int .i64 at']).1; have V2 := Lib.hid (two_new w2 #[.int .i64 y, .string x, .int .i64 p] #[.int .i64 er, .int .i64 at']).2.1; clear hB X1 Y1 B1)
      | (go_at_call 14; refine (begins_any s t _ s2 v c HV).mono ?_; rintro e w3 ⟨rfl, hB⟩; have X3 := Lib.hid (X2.out.below hB); have Y3 := Lib.hid (Y2.out.below hB); have U3 := Lib.hid (U2.out.below hB); have V3 := Lib.hid (V2.out.below hB); have B3 := Lib.hid (below_then B2.out hB); clear hB X2 Y2 U2 V2 B2)
      | (go_at_call 27; refine (rbegins_any s t _ s2 v c HV).mono ?_; rintro e w4 ⟨rfl, rfl⟩; obtain ⟨c0, c1, c2⟩ := X3.out.cell3; obtain ⟨d0, d1, d2⟩ := U3.out.cell3; obtain ⟨e0, e1⟩ := Y3.out.cell2; obtain ⟨f0, f1⟩ := V3.out.cell2)
      | (go_at_call 20; refine (awake_any _).mono ?_; rintro e w5 ⟨rfl, hB⟩; have B5 := Lib.hid (below_then B3.out hB); clear hB))
    go_ret
    exact ⟨rfl, B5.out⟩
end Go.Proofs.Ytniimoebgajefaa.s07
