/-
  Layer 7: the law TokenCuts.
-/
import Derived.Test.YtniimoebgajefaaS07V
import Derived.Test.YtniimoebgajefaaS07WA
namespace Go.Proofs.Ytniimoebgajefaa.s07
set_option linter.unusedVariables false
set_option linter.unusedSimpArgs false
open Go.RowKit
open kit

set_option maxRecDepth 100000 in
set_option maxHeartbeats 4000000 in
theorem cuts_law (k n cut b : Int) (k1 : -9223372036854775808 ≤ k) (k2 : k ≤ 9223372036854775807) (n1 : -9223372036854775808 ≤ n) (n2 : n ≤ 9223372036854775807) (cu1 : -9223372036854775808 ≤ cut) (cu2 : cut ≤ 9223372036854775807) (b1 : 0 ≤ b) (b2 : b ≤ 255) (w : World) :
    Calls Try.prog 8 #[.int .i64 k, .int .i64 n, .int .i64 cut, .int .u8 b] w fun e w' => e = .returned (.bool true) ∧ Below w.heap.size w w' := by
  obtain ⟨m, hm⟩ : ∃ m, n % 8 = m := ⟨_, rfl⟩
  have m1 : 0 ≤ m := by omega
  have m2 : m ≤ 7 := by omega
  have HM := Lib.hid hm
  obtain ⟨⟨y, x, p⟩, hmk⟩ : ∃ z, madeR k (1 + m) = z := ⟨_, rfl⟩
  have hok : chkR y x.size p (1 + m) = 0 := by have := madeR_ok k (1 + m) (by omega) (by omega); rw [hmk] at this; exact this
  have HMK := Lib.hid hmk
  have HBY := Lib.hid (bytesR_ok hok)
  have HWH := Lib.hid (whole_frm hok)
  have hx24 : x.size ≤ 24 := (chkP_ok (chkR_ok hok).1).2.2.2.2
  have hfs := frm_size y x
  obtain ⟨q, hq⟩ : ∃ q : Nat, cut % ((2 + x.size : Nat) : Int) = (q : Int) := ⟨(cut % ((2 + x.size : Nat) : Int)).toNat, by have := Int.emod_nonneg cut (show ((2 + x.size : Nat) : Int) ≠ 0 by omega); omega⟩
  have hq2 : q < 2 + x.size := by
    have := Int.emod_lt_of_pos cut (show (0 : Int) < ((2 + x.size : Nat) : Int) by omega)
    omega
  obtain ⟨pt, hpt⟩ : ∃ pt, (frm y x).extract 0 q = pt := ⟨_, rfl⟩
  obtain ⟨z1, z2, z3, z4⟩ := cut_facts hok hq2 hpt
  obtain ⟨u, hu⟩ : ∃ u, pt ++ strOfNums [b] = u := ⟨_, rfl⟩
  obtain ⟨hus, v, c, ⟨y3, x3, p3⟩, m3, er, o3, hbg, hrd, hor⟩ := next_facts (t := 1 + m) (by omega) (by omega) z1 hq2 z4 hu
  have HB1 := Lib.hid z2
  have HR1 : Hid (readR pt (1 + m) 0 = ((0, ByteArray.empty, 0), 0, 5, 0)) := Lib.hid z3
  have HB2 := Lib.hid hbg
  have HR2 := Lib.hid hrd
  have HQ : Hid (cut % ((frm y x).size : Int) = (q : Int)) := Lib.hid (by rw [hfs]; exact hq)
  have hfl : (2 : Int) ≤ ((frm y x).size : Int) := by omega
  have hfm : (1 : Int) ≤ ((frm y x).size : Int) := by omega
  have HFS := Lib.hid hfs
  have HX24 := Lib.hid hx24
  have hqf : (q : Int) ≤ ((frm y x).size : Int) := by omega
  have hqf2 : q ≤ (frm y x).size := by omega
  have hp5 : pt.size ≤ 9223372036854775800 := by omega
  have hp6 : pt.size ≤ 9223372036854775806 := by omega
  have hf6 : (frm y x).size ≤ 9223372036854775806 := by omega
  have hu5 : u.size ≤ 9223372036854775800 := by omega
  have hu6 : u.size ≤ 9223372036854775806 := by omega
  have hcat : pt.size + (strOfNums [b]).size ≤ 9223372036854775807 := by rw [strOfNums_size]; simp; omega
  have t3 : 1 ≤ 1 + m := by omega
  have t4 : 1 + m ≤ 8 := by omega
  have cv := conv1
  have huI : (u.size : Int) = ((q + 1 : Nat) : Int) := by omega
  have HUI := Lib.hid huI
  have HPT := Lib.hid hpt
  have HU := Lib.hid hu
  clear hpt hu hm hmk hok hfs hx24 hq hq2 z1 z2 z3 z4 hus hbg hrd huI
  rcases hor with ⟨rfl, rfl, rfl⟩ | ⟨rfl, rfl, rfl, hm3⟩ | ⟨rfl, hc, rfl⟩
  · go_enter Try.func8, Try.ntmps8
    go_wp2_with (first
      | (go_at_call 33; have hm9 := HM.out; refine (mod_any n 8 n1 n2 (by omega) (by omega) _).mono ?_; rintro e w1 ⟨rfl, rfl⟩; rw [hm9]; clear hm9 HM)
      | (go_at_call 34; refine (made_any k (1 + m) k1 k2 t3 t4 _ y x p HMK).mono ?_; rintro e w1 ⟨rfl, hB⟩; have B1 := Lib.hid (hB.alloc hB.size (.cells #[.int .i64 y, .string x, .int .i64 p] 23)); clear hB)
      | (go_at_call 10; (with_reducible refine (tbytes_any y p (1 + m) x _ (frm y x) 0 HBY).mono ?_); rintro e w2 ⟨rfl, hB⟩; have B2 := Lib.hid (below_then B1.out hB); clear hB B1)
      | (go_at_call 33; (with_reducible refine (mod_any cut ((frm y x).size : Int) cu1 cu2 hfm (by have := HFS.out; have := HX24.out; omega) _).mono ?_); rintro e w1 ⟨rfl, rfl⟩; rw [HQ.out])
      | (go_at_call 14; rw [HPT.out]; (with_reducible refine (begins_any pt (1 + m) _ hp6 true 0 HB1).mono ?_); rintro e w3 ⟨rfl, hB⟩; have B3 := Lib.hid (below_then B2.out hB); clear hB B2 HB1)
      | (go_at_call 25; (with_reducible refine (pread_any pt (1 + m) 0 _ hp5 0 ByteArray.empty 0 0 5 0 HR1).mono ?_); rintro e w4 ⟨rfl, hB⟩; have hle4 : w.heap.size ≤ w4.heap.size + 1 := Nat.le_succ_of_le (below_then B3.out hB).size; have B4 := Lib.hid ((below_then B3.out hB).trans ((two_new w4 #[.int .i64 0, .string ByteArray.empty, .int .i64 0] #[.int .i64 5, .int .i64 0]).2.2.mono (below_then B3.out hB).size)); have F4 := Lib.hid (two_new w4 #[.int .i64 0, .string ByteArray.empty, .int .i64 0] #[.int .i64 5, .int .i64 0]).2.1; clear hB B3 HR1)
      | (go_at_call 14; (with_reducible refine (begins_any (frm y x) (1 + m) _ hf6 false 0 HWH).mono ?_); rintro e w5 ⟨rfl, hB⟩; have B5 := Lib.hid (below_then B4.out hB); have F5 := Lib.hid (F4.out.below hB); clear hB B4 F4 HWH; obtain ⟨c0, c1⟩ := F5.out.cell2; have hlt := F5.out.lt)
      | (go_at_call 14; rw [HU.out]; (with_reducible refine (begins_any u (1 + m) _ hu6 true 0 HB2).mono ?_); rintro e w6 ⟨rfl, hB⟩; have B6 := Lib.hid (below_then (B5.out.alloc B5.out.size _) hB); have F6 := Lib.hid ((F5.out.alloc _).below hB); clear hB B5 F5 HB2 c0 c1 hlt)
      | (go_at_call 25; (with_reducible refine (pread_any u (1 + m) 0 _ hu5 y3 x3 p3 _ 5 o3 HR2).mono ?_); rintro e w7 ⟨rfl, hB⟩; have F7a := F6.out.below hB; have B7a := below_then B6.out hB; have B7 := Lib.hid ((below_put2 B7a hle4 (.int .i64 5) (.int .i64 o3)).alloc (below_put2 B7a hle4 (.int .i64 5) (.int .i64 o3)).size (.cells #[.int .i64 y3, .string x3, .int .i64 p3] 23)); clear hB B6 F6 B7a HR2; obtain ⟨f0, f1⟩ := F7a.cell2; obtain ⟨g0, g1⟩ := F7a.free2; have hlt := F7a.lt)
      | (go_at_call 20; refine (awake_any _).mono ?_; rintro e w9 ⟨rfl, hB⟩; have B9 := Lib.hid (below_then B7.out hB); clear hB))
    go_ret
    exact ⟨rfl, B9.out⟩
  · have hmu : (m3 == (u.size : Int)) = true := by rw [beq_iff_eq, HUI.out]; exact hm3
    clear hm3
    go_enter Try.func8, Try.ntmps8
    go_wp2_with (first
      | (go_at_call 33; have hm9 := HM.out; refine (mod_any n 8 n1 n2 (by omega) (by omega) _).mono ?_; rintro e w1 ⟨rfl, rfl⟩; rw [hm9]; clear hm9 HM)
      | (go_at_call 34; refine (made_any k (1 + m) k1 k2 t3 t4 _ y x p HMK).mono ?_; rintro e w1 ⟨rfl, hB⟩; have B1 := Lib.hid (hB.alloc hB.size (.cells #[.int .i64 y, .string x, .int .i64 p] 23)); clear hB)
      | (go_at_call 10; (with_reducible refine (tbytes_any y p (1 + m) x _ (frm y x) 0 HBY).mono ?_); rintro e w2 ⟨rfl, hB⟩; have B2 := Lib.hid (below_then B1.out hB); clear hB B1)
      | (go_at_call 33; (with_reducible refine (mod_any cut ((frm y x).size : Int) cu1 cu2 hfm (by have := HFS.out; have := HX24.out; omega) _).mono ?_); rintro e w1 ⟨rfl, rfl⟩; rw [HQ.out])
      | (go_at_call 14; rw [HPT.out]; (with_reducible refine (begins_any pt (1 + m) _ hp6 true 0 HB1).mono ?_); rintro e w3 ⟨rfl, hB⟩; have B3 := Lib.hid (below_then B2.out hB); clear hB B2 HB1)
      | (go_at_call 25; (with_reducible refine (pread_any pt (1 + m) 0 _ hp5 0 ByteArray.empty 0 0 5 0 HR1).mono ?_); rintro e w4 ⟨rfl, hB⟩; have hle4 : w.heap.size ≤ w4.heap.size + 1 := Nat.le_succ_of_le (below_then B3.out hB).size; have B4 := Lib.hid ((below_then B3.out hB).trans ((two_new w4 #[.int .i64 0, .string ByteArray.empty, .int .i64 0] #[.int .i64 5, .int .i64 0]).2.2.mono (below_then B3.out hB).size)); have F4 := Lib.hid (two_new w4 #[.int .i64 0, .string ByteArray.empty, .int .i64 0] #[.int .i64 5, .int .i64 0]).2.1; clear hB B3 HR1)
      | (go_at_call 14; (with_reducible refine (begins_any (frm y x) (1 + m) _ hf6 false 0 HWH).mono ?_); rintro e w5 ⟨rfl, hB⟩; have B5 := Lib.hid (below_then B4.out hB); have F5 := Lib.hid (F4.out.below hB); clear hB B4 F4 HWH; obtain ⟨c0, c1⟩ := F5.out.cell2; have hlt := F5.out.lt)
      | (go_at_call 14; rw [HU.out]; (with_reducible refine (begins_any u (1 + m) _ hu6 false 0 HB2).mono ?_); rintro e w6 ⟨rfl, hB⟩; have B6 := Lib.hid (below_then (B5.out.alloc B5.out.size _) hB); have F6 := Lib.hid ((F5.out.alloc _).below hB); clear hB B5 F5 HB2 c0 c1 hlt)
      | (go_at_call 25; (with_reducible refine (pread_any u (1 + m) 0 _ hu5 y3 x3 p3 _ 0 o3 HR2).mono ?_); rintro e w7 ⟨rfl, hB⟩; have F7a := F6.out.below hB; have B7a := below_then B6.out hB; have B7 := Lib.hid ((below_put2 B7a hle4 (.int .i64 0) (.int .i64 o3)).alloc (below_put2 B7a hle4 (.int .i64 0) (.int .i64 o3)).size (.cells #[.int .i64 y3, .string x3, .int .i64 p3] 23)); clear hB B6 F6 B7a HR2; obtain ⟨f0, f1⟩ := F7a.cell2; obtain ⟨g0, g1⟩ := F7a.free2; have hlt := F7a.lt)
      | (go_at_call 20; refine (awake_any _).mono ?_; rintro e w9 ⟨rfl, hB⟩; have B9 := Lib.hid (below_then B7.out hB); clear hB))
    go_ret
    exact ⟨rfl, B9.out⟩
  · have hc1 : (er == 0) = false := by rw [beq_eq_false_iff_ne]; exact hc
    have hc2 : (er != 0) = true := by rw [bne_iff_ne]; exact hc
    go_enter Try.func8, Try.ntmps8
    go_wp2_with (first
      | (go_at_call 33; have hm9 := HM.out; refine (mod_any n 8 n1 n2 (by omega) (by omega) _).mono ?_; rintro e w1 ⟨rfl, rfl⟩; rw [hm9]; clear hm9 HM)
      | (go_at_call 34; refine (made_any k (1 + m) k1 k2 t3 t4 _ y x p HMK).mono ?_; rintro e w1 ⟨rfl, hB⟩; have B1 := Lib.hid (hB.alloc hB.size (.cells #[.int .i64 y, .string x, .int .i64 p] 23)); clear hB)
      | (go_at_call 10; (with_reducible refine (tbytes_any y p (1 + m) x _ (frm y x) 0 HBY).mono ?_); rintro e w2 ⟨rfl, hB⟩; have B2 := Lib.hid (below_then B1.out hB); clear hB B1)
      | (go_at_call 33; (with_reducible refine (mod_any cut ((frm y x).size : Int) cu1 cu2 hfm (by have := HFS.out; have := HX24.out; omega) _).mono ?_); rintro e w1 ⟨rfl, rfl⟩; rw [HQ.out])
      | (go_at_call 14; rw [HPT.out]; (with_reducible refine (begins_any pt (1 + m) _ hp6 true 0 HB1).mono ?_); rintro e w3 ⟨rfl, hB⟩; have B3 := Lib.hid (below_then B2.out hB); clear hB B2 HB1)
      | (go_at_call 25; (with_reducible refine (pread_any pt (1 + m) 0 _ hp5 0 ByteArray.empty 0 0 5 0 HR1).mono ?_); rintro e w4 ⟨rfl, hB⟩; have hle4 : w.heap.size ≤ w4.heap.size + 1 := Nat.le_succ_of_le (below_then B3.out hB).size; have B4 := Lib.hid ((below_then B3.out hB).trans ((two_new w4 #[.int .i64 0, .string ByteArray.empty, .int .i64 0] #[.int .i64 5, .int .i64 0]).2.2.mono (below_then B3.out hB).size)); have F4 := Lib.hid (two_new w4 #[.int .i64 0, .string ByteArray.empty, .int .i64 0] #[.int .i64 5, .int .i64 0]).2.1; clear hB B3 HR1)
      | (go_at_call 14; (with_reducible refine (begins_any (frm y x) (1 + m) _ hf6 false 0 HWH).mono ?_); rintro e w5 ⟨rfl, hB⟩; have B5 := Lib.hid (below_then B4.out hB); have F5 := Lib.hid (F4.out.below hB); clear hB B4 F4 HWH; obtain ⟨c0, c1⟩ := F5.out.cell2; have hlt := F5.out.lt)
      | (go_at_call 14; rw [HU.out]; (with_reducible refine (begins_any u (1 + m) _ hu6 false er HB2).mono ?_); rintro e w6 ⟨rfl, hB⟩; have B6 := Lib.hid (below_then (B5.out.alloc B5.out.size _) hB); have F6 := Lib.hid ((F5.out.alloc _).below hB); clear hB B5 F5 HB2 c0 c1 hlt)
      | (go_at_call 25; (with_reducible refine (pread_any u (1 + m) 0 _ hu5 y3 x3 p3 _ er o3 HR2).mono ?_); rintro e w7 ⟨rfl, hB⟩; have F7a := F6.out.below hB; have B7a := below_then B6.out hB; have B7 := Lib.hid ((below_put2 B7a hle4 (.int .i64 er) (.int .i64 o3)).alloc (below_put2 B7a hle4 (.int .i64 er) (.int .i64 o3)).size (.cells #[.int .i64 y3, .string x3, .int .i64 p3] 23)); clear hB B6 F6 B7a HR2; obtain ⟨f0, f1⟩ := F7a.cell2; obtain ⟨g0, g1⟩ := F7a.free2; have hlt := F7a.lt)
      | (go_at_call 20; refine (awake_any _).mono ?_; rintro e w9 ⟨rfl, hB⟩; have B9 := Lib.hid (below_then B7.out hB); clear hB))
    go_ret
    exact ⟨rfl, B9.out⟩
end Go.Proofs.Ytniimoebgajefaa.s07
