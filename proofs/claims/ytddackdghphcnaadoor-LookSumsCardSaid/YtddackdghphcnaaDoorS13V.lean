/-
  Layer 13: the program's times and count.
-/
import Derived.Test.YtddackdghphcnaaDoorS13U
import Derived.Test.YtddackdghphcnaaDoorS13TB
namespace Go.Proofs.YtddackdghphcnaaDoor.s13
set_option linter.unusedVariables false
set_option linter.unusedSimpArgs false
set_option linter.unnecessarySimpa false
open Go.RowKit
open kit

abbrev ZS : List Int := [0, 1, 56, 2, 57, 49, 28, 3, 61, 58, 42, 50, 38, 29, 17, 4, 62, 47, 59, 36, 45, 43, 51, 22, 53, 39, 33, 30, 24, 18, 12, 5, 63, 55, 48, 27, 60, 41, 37, 16, 46, 35, 44, 21, 52, 32, 23, 11, 54, 26, 40, 15, 34, 20, 31, 10, 25, 14, 19, 9, 13, 8, 7, 6]
theorem tab_at {w : World} (h : Tab w) (i : Nat) (hi : i < 64) : w.cell? ⟨3, i, none⟩ = some (.int .u8 (ZS.getD i 0)) := Lib.TabIs.cell h (by kernel_rfl) i hi
set_option maxRecDepth 100000 in
set_option maxHeartbeats 2000000 in
theorem ones64_1 (w : World) : Calls Tryd.prog 83 #[.int .u64 1] w fun e w' => e = .returned (.int .i64 1) ∧ w' = w := by
  go_enter Tryd.func83, Tryd.ntmps83
  go_wp2
  go_ret
  exact ⟨by kernel_rfl, rfl⟩
set_option maxRecDepth 100000 in
set_option maxHeartbeats 2000000 in
theorem ones_1 (w : World) : Calls Tryd.prog 74 #[.int .u64 1] w fun e w' => e = .returned (.int .i64 1) ∧ w' = w := by
  go_enter Tryd.func74, Tryd.ntmps74
  go_wp2_with (go_at_call 83; refine (ones64_1 _).mono ?_; rintro e w1 ⟨rfl, rfl⟩)
  go_ret
  exact ⟨rfl, rfl⟩
set_option maxRecDepth 100000 in
set_option maxHeartbeats 2000000 in
theorem ones64_2 (w : World) : Calls Tryd.prog 83 #[.int .u64 2] w fun e w' => e = .returned (.int .i64 1) ∧ w' = w := by
  go_enter Tryd.func83, Tryd.ntmps83
  go_wp2
  go_ret
  exact ⟨by kernel_rfl, rfl⟩
set_option maxRecDepth 100000 in
set_option maxHeartbeats 2000000 in
theorem ones_2 (w : World) : Calls Tryd.prog 74 #[.int .u64 2] w fun e w' => e = .returned (.int .i64 1) ∧ w' = w := by
  go_enter Tryd.func74, Tryd.ntmps74
  go_wp2_with (go_at_call 83; refine (ones64_2 _).mono ?_; rintro e w1 ⟨rfl, rfl⟩)
  go_ret
  exact ⟨rfl, rfl⟩
set_option maxRecDepth 100000 in
set_option maxHeartbeats 2000000 in
theorem ones64_3 (w : World) : Calls Tryd.prog 83 #[.int .u64 3] w fun e w' => e = .returned (.int .i64 2) ∧ w' = w := by
  go_enter Tryd.func83, Tryd.ntmps83
  go_wp2
  go_ret
  exact ⟨by kernel_rfl, rfl⟩
set_option maxRecDepth 100000 in
set_option maxHeartbeats 2000000 in
theorem ones_3 (w : World) : Calls Tryd.prog 74 #[.int .u64 3] w fun e w' => e = .returned (.int .i64 2) ∧ w' = w := by
  go_enter Tryd.func74, Tryd.ntmps74
  go_wp2_with (go_at_call 83; refine (ones64_3 _).mono ?_; rintro e w1 ⟨rfl, rfl⟩)
  go_ret
  exact ⟨rfl, rfl⟩
set_option maxRecDepth 100000 in
set_option maxHeartbeats 2000000 in
theorem ones64_4 (w : World) : Calls Tryd.prog 83 #[.int .u64 4] w fun e w' => e = .returned (.int .i64 1) ∧ w' = w := by
  go_enter Tryd.func83, Tryd.ntmps83
  go_wp2
  go_ret
  exact ⟨by kernel_rfl, rfl⟩
set_option maxRecDepth 100000 in
set_option maxHeartbeats 2000000 in
theorem ones_4 (w : World) : Calls Tryd.prog 74 #[.int .u64 4] w fun e w' => e = .returned (.int .i64 1) ∧ w' = w := by
  go_enter Tryd.func74, Tryd.ntmps74
  go_wp2_with (go_at_call 83; refine (ones64_4 _).mono ?_; rintro e w1 ⟨rfl, rfl⟩)
  go_ret
  exact ⟨rfl, rfl⟩
set_option maxRecDepth 100000 in
set_option maxHeartbeats 2000000 in
theorem ones64_5 (w : World) : Calls Tryd.prog 83 #[.int .u64 5] w fun e w' => e = .returned (.int .i64 2) ∧ w' = w := by
  go_enter Tryd.func83, Tryd.ntmps83
  go_wp2
  go_ret
  exact ⟨by kernel_rfl, rfl⟩
set_option maxRecDepth 100000 in
set_option maxHeartbeats 2000000 in
theorem ones_5 (w : World) : Calls Tryd.prog 74 #[.int .u64 5] w fun e w' => e = .returned (.int .i64 2) ∧ w' = w := by
  go_enter Tryd.func74, Tryd.ntmps74
  go_wp2_with (go_at_call 83; refine (ones64_5 _).mono ?_; rintro e w1 ⟨rfl, rfl⟩)
  go_ret
  exact ⟨rfl, rfl⟩
set_option maxRecDepth 100000 in
set_option maxHeartbeats 2000000 in
theorem ones64_6 (w : World) : Calls Tryd.prog 83 #[.int .u64 6] w fun e w' => e = .returned (.int .i64 2) ∧ w' = w := by
  go_enter Tryd.func83, Tryd.ntmps83
  go_wp2
  go_ret
  exact ⟨by kernel_rfl, rfl⟩
set_option maxRecDepth 100000 in
set_option maxHeartbeats 2000000 in
theorem ones_6 (w : World) : Calls Tryd.prog 74 #[.int .u64 6] w fun e w' => e = .returned (.int .i64 2) ∧ w' = w := by
  go_enter Tryd.func74, Tryd.ntmps74
  go_wp2_with (go_at_call 83; refine (ones64_6 _).mono ?_; rintro e w1 ⟨rfl, rfl⟩)
  go_ret
  exact ⟨rfl, rfl⟩
set_option maxRecDepth 100000 in
set_option maxHeartbeats 2000000 in
theorem ones64_7 (w : World) : Calls Tryd.prog 83 #[.int .u64 7] w fun e w' => e = .returned (.int .i64 3) ∧ w' = w := by
  go_enter Tryd.func83, Tryd.ntmps83
  go_wp2
  go_ret
  exact ⟨by kernel_rfl, rfl⟩
set_option maxRecDepth 100000 in
set_option maxHeartbeats 2000000 in
theorem ones_7 (w : World) : Calls Tryd.prog 74 #[.int .u64 7] w fun e w' => e = .returned (.int .i64 3) ∧ w' = w := by
  go_enter Tryd.func74, Tryd.ntmps74
  go_wp2_with (go_at_call 83; refine (ones64_7 _).mono ?_; rintro e w1 ⟨rfl, rfl⟩)
  go_ret
  exact ⟨rfl, rfl⟩
set_option maxRecDepth 100000 in
set_option maxHeartbeats 2000000 in
theorem ones64_8 (w : World) : Calls Tryd.prog 83 #[.int .u64 8] w fun e w' => e = .returned (.int .i64 1) ∧ w' = w := by
  go_enter Tryd.func83, Tryd.ntmps83
  go_wp2
  go_ret
  exact ⟨by kernel_rfl, rfl⟩
set_option maxRecDepth 100000 in
set_option maxHeartbeats 2000000 in
theorem ones_8 (w : World) : Calls Tryd.prog 74 #[.int .u64 8] w fun e w' => e = .returned (.int .i64 1) ∧ w' = w := by
  go_enter Tryd.func74, Tryd.ntmps74
  go_wp2_with (go_at_call 83; refine (ones64_8 _).mono ?_; rintro e w1 ⟨rfl, rfl⟩)
  go_ret
  exact ⟨rfl, rfl⟩
set_option maxRecDepth 100000 in
set_option maxHeartbeats 2000000 in
theorem ctz64_1 (w : World) (hT : Tab w) : Calls Tryd.prog 85 #[.int .u64 1] w fun e w' => e = .returned (.int .i64 0) ∧ w' = w := by
  have c := tab_at hT 0 (by decide)
  rw [show (ZS.getD 0 0 : Int) = 0 by decide] at c
  have hix : IntKind.u64.wrap (bits BinOp.and IntKind.u64 1 (IntKind.u64.wrap (-1)) * 285870213051353865) / 288230376151711744 = 0 := by kernel_rfl
  go_enter Tryd.func85, Tryd.ntmps85
  go_wp2

  go_ret
  exact ⟨by kernel_rfl, rfl⟩
set_option maxRecDepth 100000 in
set_option maxHeartbeats 2000000 in
theorem ctz_1 (w : World) (hT : Tab w) : Calls Tryd.prog 75 #[.int .u64 1] w fun e w' => e = .returned (.int .i64 0) ∧ w' = w := by
  go_enter Tryd.func75, Tryd.ntmps75
  go_wp2_with (go_at_call 85; refine (ctz64_1 _ hT).mono ?_; rintro e w1 ⟨rfl, rfl⟩)
  go_ret
  exact ⟨rfl, rfl⟩
set_option maxRecDepth 100000 in
set_option maxHeartbeats 2000000 in
theorem ctz64_2 (w : World) (hT : Tab w) : Calls Tryd.prog 85 #[.int .u64 2] w fun e w' => e = .returned (.int .i64 1) ∧ w' = w := by
  have c := tab_at hT 1 (by decide)
  rw [show (ZS.getD 1 0 : Int) = 1 by decide] at c
  have hix : IntKind.u64.wrap (bits BinOp.and IntKind.u64 2 (IntKind.u64.wrap (-2)) * 285870213051353865) / 288230376151711744 = 1 := by kernel_rfl
  go_enter Tryd.func85, Tryd.ntmps85
  go_wp2

  go_ret
  exact ⟨by kernel_rfl, rfl⟩
set_option maxRecDepth 100000 in
set_option maxHeartbeats 2000000 in
theorem ctz_2 (w : World) (hT : Tab w) : Calls Tryd.prog 75 #[.int .u64 2] w fun e w' => e = .returned (.int .i64 1) ∧ w' = w := by
  go_enter Tryd.func75, Tryd.ntmps75
  go_wp2_with (go_at_call 85; refine (ctz64_2 _ hT).mono ?_; rintro e w1 ⟨rfl, rfl⟩)
  go_ret
  exact ⟨rfl, rfl⟩
set_option maxRecDepth 100000 in
set_option maxHeartbeats 2000000 in
theorem ctz64_4 (w : World) (hT : Tab w) : Calls Tryd.prog 85 #[.int .u64 4] w fun e w' => e = .returned (.int .i64 2) ∧ w' = w := by
  have c := tab_at hT 3 (by decide)
  rw [show (ZS.getD 3 0 : Int) = 2 by decide] at c
  have hix : IntKind.u64.wrap (bits BinOp.and IntKind.u64 4 (IntKind.u64.wrap (-4)) * 285870213051353865) / 288230376151711744 = 3 := by kernel_rfl
  go_enter Tryd.func85, Tryd.ntmps85
  go_wp2

  go_ret
  exact ⟨by kernel_rfl, rfl⟩
set_option maxRecDepth 100000 in
set_option maxHeartbeats 2000000 in
theorem ctz_4 (w : World) (hT : Tab w) : Calls Tryd.prog 75 #[.int .u64 4] w fun e w' => e = .returned (.int .i64 2) ∧ w' = w := by
  go_enter Tryd.func75, Tryd.ntmps75
  go_wp2_with (go_at_call 85; refine (ctz64_4 _ hT).mono ?_; rintro e w1 ⟨rfl, rfl⟩)
  go_ret
  exact ⟨rfl, rfl⟩
set_option maxRecDepth 100000 in
set_option maxHeartbeats 2000000 in
theorem ctz64_8 (w : World) (hT : Tab w) : Calls Tryd.prog 85 #[.int .u64 8] w fun e w' => e = .returned (.int .i64 3) ∧ w' = w := by
  have c := tab_at hT 7 (by decide)
  rw [show (ZS.getD 7 0 : Int) = 3 by decide] at c
  have hix : IntKind.u64.wrap (bits BinOp.and IntKind.u64 8 (IntKind.u64.wrap (-8)) * 285870213051353865) / 288230376151711744 = 7 := by kernel_rfl
  go_enter Tryd.func85, Tryd.ntmps85
  go_wp2

  go_ret
  exact ⟨by kernel_rfl, rfl⟩
set_option maxRecDepth 100000 in
set_option maxHeartbeats 2000000 in
theorem ctz_8 (w : World) (hT : Tab w) : Calls Tryd.prog 75 #[.int .u64 8] w fun e w' => e = .returned (.int .i64 3) ∧ w' = w := by
  go_enter Tryd.func75, Tryd.ntmps75
  go_wp2_with (go_at_call 85; refine (ctz64_8 _ hT).mono ?_; rintro e w1 ⟨rfl, rfl⟩)
  go_ret
  exact ⟨rfl, rfl⟩
set_option maxRecDepth 100000 in
set_option maxHeartbeats 2000000 in
theorem times_1 (n : Int) (w : World) (hT : Tab w) (n0 : 0 ≤ n) (n1 : n ≤ 100000) : Calls Tryd.prog 68 #[.int .i64 n, .int .i64 1] w fun e w' => e = .returned (.int .i64 (n * 1)) ∧ w' = w := by
  have hw : IntKind.u64.wrap (1 : Int) = 1 := by kernel_rfl
  go_enter Tryd.func68, Tryd.ntmps68
  go_wp2_with (first
    | (go_at_call 74; refine (ones_1 _).mono ?_; rintro e w1 ⟨rfl, rfl⟩)
    | (go_at_call 75; refine (ctz_1 _ hT).mono ?_; rintro e w1 ⟨rfl, rfl⟩))
  go_ret
  exact ⟨by show Ending.returned (.int .i64 n) = _; rw [Int.mul_one], rfl⟩
set_option maxRecDepth 100000 in
set_option maxHeartbeats 2000000 in
theorem times_2 (n : Int) (w : World) (hT : Tab w) (n0 : 0 ≤ n) (n1 : n ≤ 100000) : Calls Tryd.prog 68 #[.int .i64 n, .int .i64 2] w fun e w' => e = .returned (.int .i64 (n * 2)) ∧ w' = w := by
  have hw : IntKind.u64.wrap (2 : Int) = 2 := by kernel_rfl
  go_enter Tryd.func68, Tryd.ntmps68
  go_wp2_with (first
    | (go_at_call 74; refine (ones_2 _).mono ?_; rintro e w1 ⟨rfl, rfl⟩)
    | (go_at_call 75; refine (ctz_2 _ hT).mono ?_; rintro e w1 ⟨rfl, rfl⟩))
  go_ret
  exact ⟨rfl, rfl⟩
set_option maxRecDepth 100000 in
set_option maxHeartbeats 2000000 in
theorem times_3 (n : Int) (w : World) (hT : Tab w) (n0 : 0 ≤ n) (n1 : n ≤ 100000) : Calls Tryd.prog 68 #[.int .i64 n, .int .i64 3] w fun e w' => e = .returned (.int .i64 (n * 3)) ∧ w' = w := by
  have hw : IntKind.u64.wrap (3 : Int) = 3 := by kernel_rfl
  go_enter Tryd.func68, Tryd.ntmps68
  go_wp2_with (first
    | (go_at_call 74; refine (ones_3 _).mono ?_; rintro e w1 ⟨rfl, rfl⟩))
  go_ret
  exact ⟨rfl, rfl⟩
set_option maxRecDepth 100000 in
set_option maxHeartbeats 2000000 in
theorem times_4 (n : Int) (w : World) (hT : Tab w) (n0 : 0 ≤ n) (n1 : n ≤ 100000) : Calls Tryd.prog 68 #[.int .i64 n, .int .i64 4] w fun e w' => e = .returned (.int .i64 (n * 4)) ∧ w' = w := by
  have hw : IntKind.u64.wrap (4 : Int) = 4 := by kernel_rfl
  go_enter Tryd.func68, Tryd.ntmps68
  go_wp2_with (first
    | (go_at_call 74; refine (ones_4 _).mono ?_; rintro e w1 ⟨rfl, rfl⟩)
    | (go_at_call 75; refine (ctz_4 _ hT).mono ?_; rintro e w1 ⟨rfl, rfl⟩))
  go_ret
  exact ⟨rfl, rfl⟩
set_option maxRecDepth 100000 in
set_option maxHeartbeats 2000000 in
theorem times_5 (n : Int) (w : World) (hT : Tab w) (n0 : 0 ≤ n) (n1 : n ≤ 100000) : Calls Tryd.prog 68 #[.int .i64 n, .int .i64 5] w fun e w' => e = .returned (.int .i64 (n * 5)) ∧ w' = w := by
  have hw : IntKind.u64.wrap (5 : Int) = 5 := by kernel_rfl
  go_enter Tryd.func68, Tryd.ntmps68
  go_wp2_with (first
    | (go_at_call 74; refine (ones_5 _).mono ?_; rintro e w1 ⟨rfl, rfl⟩))
  go_ret
  exact ⟨rfl, rfl⟩
set_option maxRecDepth 100000 in
set_option maxHeartbeats 2000000 in
theorem times_6 (n : Int) (w : World) (hT : Tab w) (n0 : 0 ≤ n) (n1 : n ≤ 100000) : Calls Tryd.prog 68 #[.int .i64 n, .int .i64 6] w fun e w' => e = .returned (.int .i64 (n * 6)) ∧ w' = w := by
  have hw : IntKind.u64.wrap (6 : Int) = 6 := by kernel_rfl
  go_enter Tryd.func68, Tryd.ntmps68
  go_wp2_with (first
    | (go_at_call 74; refine (ones_6 _).mono ?_; rintro e w1 ⟨rfl, rfl⟩))
  go_ret
  exact ⟨rfl, rfl⟩
set_option maxRecDepth 100000 in
set_option maxHeartbeats 2000000 in
theorem times_7 (n : Int) (w : World) (hT : Tab w) (n0 : 0 ≤ n) (n1 : n ≤ 100000) : Calls Tryd.prog 68 #[.int .i64 n, .int .i64 7] w fun e w' => e = .returned (.int .i64 (n * 7)) ∧ w' = w := by
  have hw : IntKind.u64.wrap (7 : Int) = 7 := by kernel_rfl
  go_enter Tryd.func68, Tryd.ntmps68
  go_wp2_with (first
    | (go_at_call 74; refine (ones_7 _).mono ?_; rintro e w1 ⟨rfl, rfl⟩))
  go_ret
  exact ⟨rfl, rfl⟩
set_option maxRecDepth 100000 in
set_option maxHeartbeats 2000000 in
theorem times_8 (n : Int) (w : World) (hT : Tab w) (n0 : 0 ≤ n) (n1 : n ≤ 100000) : Calls Tryd.prog 68 #[.int .i64 n, .int .i64 8] w fun e w' => e = .returned (.int .i64 (n * 8)) ∧ w' = w := by
  have hw : IntKind.u64.wrap (8 : Int) = 8 := by kernel_rfl
  go_enter Tryd.func68, Tryd.ntmps68
  go_wp2_with (first
    | (go_at_call 74; refine (ones_8 _).mono ?_; rintro e w1 ⟨rfl, rfl⟩)
    | (go_at_call 75; refine (ctz_8 _ hT).mono ?_; rintro e w1 ⟨rfl, rfl⟩))
  go_ret
  exact ⟨rfl, rfl⟩
theorem times_any (n t : Int) (w : World) (hT : Tab w) (h1 : 1 ≤ t) (h2 : t ≤ 8) (n0 : 0 ≤ n) (n1 : n ≤ 100000) : Calls Tryd.prog 68 #[.int .i64 n, .int .i64 t] w fun e w' => e = .returned (.int .i64 (n * t)) ∧ w' = w := by
  have ht : t = 1 ∨ t = 2 ∨ t = 3 ∨ t = 4 ∨ t = 5 ∨ t = 6 ∨ t = 7 ∨ t = 8 := by omega
  rcases ht with rfl | rfl | rfl | rfl | rfl | rfl | rfl | rfl
  · exact times_1 n w hT n0 n1
  · exact times_2 n w hT n0 n1
  · exact times_3 n w hT n0 n1
  · exact times_4 n w hT n0 n1
  · exact times_5 n w hT n0 n1
  · exact times_6 n w hT n0 n1
  · exact times_7 n w hT n0 n1
  · exact times_8 n w hT n0 n1
end Go.Proofs.YtddackdghphcnaaDoor.s13
