/-
  Layer 7: the law TokenBack.
-/
import Derived.Test.YtniimoebgajefaaS07Q
import Derived.Test.YtniimoebgajefaaS07I
import Derived.Test.YtniimoebgajefaaS07R
import Derived.Test.YtniimoebgajefaaS07U
namespace Go.Proofs.Ytniimoebgajefaa.s07
set_option linter.unusedVariables false
set_option linter.unusedSimpArgs false
open Go.RowKit
open kit

theorem bytesR_ok {y p t : Int} {x : ByteArray} (h : chkR y x.size p t = 0) : bytesR y x p t = (frm y x, 0) := by unfold bytesR; rw [if_pos h]
set_option maxRecDepth 100000 in
set_option maxHeartbeats 4000000 in
theorem back_law (k n : Int) (s : ByteArray) (k1 : -9223372036854775808 ≤ k) (k2 : k ≤ 9223372036854775807) (n1 : -9223372036854775808 ≤ n) (n2 : n ≤ 9223372036854775807) (w : World) (hs0 : s.size ≤ 9223372036854775807) :
    Calls Try.prog 7 #[.int .i64 k, .int .i64 n, .string s] w fun e w' => e = .returned (.bool true) ∧ Below w.heap.size w w' := by
  by_cases h40 : 40 < s.size
  · have h41 : (40 : Int) < (s.size : Int) := by omega
    go_enter Try.func7, Try.ntmps7
    go_wp2_with (go_at_call 20; refine (awake_any _).mono ?_; rintro e w9 ⟨rfl, hB9⟩)
    go_ret
    exact ⟨rfl, hB9⟩
  · have h41 : ¬ (40 : Int) < (s.size : Int) := by omega
    have hs : s.size ≤ 9223372036854775800 := by omega
    obtain ⟨m, hm⟩ : ∃ m, n % 8 = m := ⟨_, rfl⟩
    have m1 : 0 ≤ m := by omega
    have m2 : m ≤ 7 := by omega
    have HM := Lib.hid hm
    obtain ⟨⟨y, x, p⟩, hmk⟩ : ∃ z, madeR k (1 + m) = z := ⟨_, rfl⟩
    have hok : chkR y x.size p (1 + m) = 0 := by have := madeR_ok k (1 + m) (by omega) (by omega); rw [hmk] at this; exact this
    have HMK := Lib.hid hmk
    have HBY := Lib.hid (bytesR_ok hok)
    have HRB := Lib.hid (read_back s hok)
    have hx24 : x.size ≤ 24 := (chkP_ok (chkR_ok hok).1).2.2.2.2
    have hx8 : x.size ≤ 9223372036854775805 := by omega
    have hfs := frm_size y x
    have hcat : (frm y x ++ s).size ≤ 9223372036854775800 := by rw [ByteArray.size_append]; omega
    have hcat2 : (frm y x).size + s.size ≤ 9223372036854775807 := by omega
    obtain ⟨⟨y2, x2, p2⟩, u2, e2, o2, hr2⟩ : ∃ z u e o, readR s (1 + m) 0 = (z, u, e, o) := ⟨_, _, _, _, rfl⟩
    have HR2 := Lib.hid hr2
    have HFS := Lib.hid hfs
    have hfi : ((frm y x).size : Int) = 2 + (x.size : Int) := by omega
    have HFI := Lib.hid hfi
    have tq : ((2 + (x.size : Int)) != ((frm y x).size : Int)) = false := by rw [bne_eq_false_iff_eq, hfi]
    have m3 : 1 ≤ 1 + m := by omega
    have m4 : 1 + m ≤ 8 := by omega
    clear hm hmk hok h40 hfs hfi hx24
    by_cases he : e2 = 0
    · subst he
      obtain ⟨g1, g2, g3, g4, g5⟩ := read_made hr2
      have HBY2 := Lib.hid (bytesR_ok g1)
      have HU : Hid (u2 = 2 + (x2.size : Int)) := Lib.hid g2
      have hu2 : u2 = ((2 + x2.size : Nat) : Int) := by omega
      subst hu2
      have HE : Hid (s.extract 0 (2 + x2.size) = frm y2 x2) := Lib.hid g4
      have hE2 : (s.extract 0 (2 + x2.size)).toList = (frm y2 x2).toList := by rw [g4]
      have hE3 : ((s.extract 0 (2 + x2.size)).toList == (frm y2 x2).toList) = true := str_beq_true g4
      have q1 : (2 : Int) ≤ ((2 + x2.size : Nat) : Int) := by omega
      have q2 : ((2 + x2.size : Nat) : Int) ≤ (s.size : Int) := by omega
      clear g1 g2 g4 g5 hr2
      go_enter Try.func7, Try.ntmps7
      go_wp2_with (first
        | (go_at_call 33; refine (mod_any n 8 n1 n2 (by omega) (by omega) _).mono ?_; rintro e w1 ⟨rfl, rfl⟩; rw [HM.out])
        | (go_at_call 34; refine (made_any k (1 + m) k1 k2 m3 m4 _ y x p HMK).mono ?_; rintro e w1 ⟨rfl, hB⟩; have B1 := Lib.hid (hB.alloc hB.size (.cells #[.int .i64 y, .string x, .int .i64 p] 23)); have X1 := Lib.hid (Box.new w1 23 #[.int .i64 y, .string x, .int .i64 p]); clear hB)
        | (go_at_call 10; (with_reducible refine (tbytes_any y p (1 + m) x _ (frm y x) 0 HBY).mono ?_); rintro e w2 ⟨rfl, hB⟩; have B2 := Lib.hid (below_then B1.out hB); have X2 := Lib.hid (X1.out.below hB); clear hB B1 X1 HBY; obtain ⟨c0, c1, c2⟩ := X2.out.cell3)
        | (go_at_call 25; (with_reducible refine (pread_any (frm y x ++ s) (1 + m) p _ hcat y x p (2 + (x.size : Int)) 0 0 HRB).mono ?_); rintro e w3 ⟨rfl, hB⟩; have B3 := Lib.hid ((below_then B2.out hB).trans ((two_new w3 #[.int .i64 y, .string x, .int .i64 p] #[.int .i64 0, .int .i64 0]).2.2.mono (below_then B2.out hB).size)); have X3 := Lib.hid ((X2.out.below hB).below (two_new w3 #[.int .i64 y, .string x, .int .i64 p] #[.int .i64 0, .int .i64 0]).2.2); have T3 := Lib.hid (two_new w3 #[.int .i64 y, .string x, .int .i64 p] #[.int .i64 0, .int .i64 0]).1; have F3 := Lib.hid (two_new w3 #[.int .i64 y, .string x, .int .i64 p] #[.int .i64 0, .int .i64 0]).2.1; have hle3 : w.heap.size ≤ w3.heap.size + 1 := Nat.le_succ_of_le (below_then B2.out hB).size; clear hB B2 X2 HRB c0 c1 c2; obtain ⟨c0, c1, c2⟩ := X3.out.cell3; obtain ⟨d0, d1, d2⟩ := T3.out.cell3; obtain ⟨f0, f1⟩ := F3.out.cell2)
        | (go_at_call 11; refine (size_any y p x hx8 _).mono ?_; rintro e w4 ⟨rfl, hB⟩; have B4 := Lib.hid (below_then B3.out hB); have F4 := Lib.hid (F3.out.below hB); clear hB B3 F3 X3 T3 c0 c1 c2 d0 d1 d2 f0 f1)
        | (go_at_call 25; (with_reducible refine (pread_any s (1 + m) 0 _ hs y2 x2 p2 _ 0 o2 HR2).mono ?_); rintro e w5 ⟨rfl, hB⟩; have F5a := F4.out.below hB; have B5a := below_then B4.out hB; have B5 := Lib.hid ((below_put2 B5a hle3 (.int .i64 0) (.int .i64 o2)).alloc (below_put2 B5a hle3 (.int .i64 0) (.int .i64 o2)).size (.cells #[.int .i64 y2, .string x2, .int .i64 p2] 23)); have F5 := Lib.hid ((F4.out.below hB).alloc (.cells #[.int .i64 y2, .string x2, .int .i64 p2] 23)); have T5 := Lib.hid (Box.new w5 23 #[.int .i64 y2, .string x2, .int .i64 p2]); clear hB B4 F4 B5a HR2 F5 T5; obtain ⟨f0, f1⟩ := F5a.cell2; obtain ⟨g0, g1⟩ := F5a.free2; have hlt := F5a.lt)
        | (go_at_call 10; (with_reducible refine (tbytes_any y2 p2 (1 + m) x2 _ (frm y2 x2) 0 HBY2).mono ?_); rintro e w7 ⟨rfl, hB⟩; have B7 := Lib.hid (below_then B5.out hB); clear hB)
        | (go_at_call 20; refine (awake_any _).mono ?_; rintro e w8 ⟨rfl, hB⟩; have B8 := Lib.hid (below_then B7.out hB); clear hB))
      go_ret
      exact ⟨rfl, B8.out⟩
    · have t9 : (e2 != 0) = true := by rw [bne_iff_ne]; exact he
      clear hr2 he
      go_enter Try.func7, Try.ntmps7
      go_wp2_with (first
        | (go_at_call 33; refine (mod_any n 8 n1 n2 (by omega) (by omega) _).mono ?_; rintro e w1 ⟨rfl, rfl⟩; rw [HM.out])
        | (go_at_call 34; refine (made_any k (1 + m) k1 k2 m3 m4 _ y x p HMK).mono ?_; rintro e w1 ⟨rfl, hB⟩; have B1 := Lib.hid (hB.alloc hB.size (.cells #[.int .i64 y, .string x, .int .i64 p] 23)); have X1 := Lib.hid (Box.new w1 23 #[.int .i64 y, .string x, .int .i64 p]); clear hB)
        | (go_at_call 10; (with_reducible refine (tbytes_any y p (1 + m) x _ (frm y x) 0 HBY).mono ?_); rintro e w2 ⟨rfl, hB⟩; have B2 := Lib.hid (below_then B1.out hB); have X2 := Lib.hid (X1.out.below hB); clear hB B1 X1 HBY; obtain ⟨c0, c1, c2⟩ := X2.out.cell3)
        | (go_at_call 25; (with_reducible refine (pread_any (frm y x ++ s) (1 + m) p _ hcat y x p (2 + (x.size : Int)) 0 0 HRB).mono ?_); rintro e w3 ⟨rfl, hB⟩; have B3 := Lib.hid ((below_then B2.out hB).trans ((two_new w3 #[.int .i64 y, .string x, .int .i64 p] #[.int .i64 0, .int .i64 0]).2.2.mono (below_then B2.out hB).size)); have X3 := Lib.hid ((X2.out.below hB).below (two_new w3 #[.int .i64 y, .string x, .int .i64 p] #[.int .i64 0, .int .i64 0]).2.2); have T3 := Lib.hid (two_new w3 #[.int .i64 y, .string x, .int .i64 p] #[.int .i64 0, .int .i64 0]).1; have F3 := Lib.hid (two_new w3 #[.int .i64 y, .string x, .int .i64 p] #[.int .i64 0, .int .i64 0]).2.1; have hle3 : w.heap.size ≤ w3.heap.size + 1 := Nat.le_succ_of_le (below_then B2.out hB).size; clear hB B2 X2 HRB c0 c1 c2; obtain ⟨c0, c1, c2⟩ := X3.out.cell3; obtain ⟨d0, d1, d2⟩ := T3.out.cell3; obtain ⟨f0, f1⟩ := F3.out.cell2)
        | (go_at_call 11; refine (size_any y p x hx8 _).mono ?_; rintro e w4 ⟨rfl, hB⟩; have B4 := Lib.hid (below_then B3.out hB); have F4 := Lib.hid (F3.out.below hB); clear hB B3 F3 X3 T3 c0 c1 c2 d0 d1 d2 f0 f1)
        | (go_at_call 25; (with_reducible refine (pread_any s (1 + m) 0 _ hs y2 x2 p2 _ e2 o2 HR2).mono ?_); rintro e w5 ⟨rfl, hB⟩; have F5a := F4.out.below hB; have B5a := below_then B4.out hB; have B5 := Lib.hid ((below_put2 B5a hle3 (.int .i64 e2) (.int .i64 o2)).alloc (below_put2 B5a hle3 (.int .i64 e2) (.int .i64 o2)).size (.cells #[.int .i64 y2, .string x2, .int .i64 p2] 23)); have F5 := Lib.hid ((F4.out.below hB).alloc (.cells #[.int .i64 y2, .string x2, .int .i64 p2] 23)); have T5 := Lib.hid (Box.new w5 23 #[.int .i64 y2, .string x2, .int .i64 p2]); clear hB B4 F4 B5a HR2 F5 T5; obtain ⟨f0, f1⟩ := F5a.cell2; obtain ⟨g0, g1⟩ := F5a.free2; have hlt := F5a.lt)
        | (go_at_call 20; refine (awake_any _).mono ?_; rintro e w8 ⟨rfl, hB⟩; have B8 := Lib.hid (below_then B5.out hB); clear hB))
      go_ret
      exact ⟨rfl, B8.out⟩
end Go.Proofs.Ytniimoebgajefaa.s07
