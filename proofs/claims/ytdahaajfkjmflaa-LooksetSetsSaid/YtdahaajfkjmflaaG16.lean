/-
  Layer 14: LooksetKnown. stenotypekit.Mod.
-/
import Derived.Test.YtdahaajfkjmflaaG15
import Derived.Test.YtdahaajfkjmflaaG01
namespace Go.Proofs.Ytdahaajfkjmflaa.s14
set_option linter.unusedVariables false
set_option linter.unusedSimpArgs false
open Go.RowKit
open kit

open s13

open Go.Shelf
theorem load5 {w : World} {g : Nat} {n a b c d : Int} (h : Box w 25 g #[.int .i64 n, .int .i64 a, .int .i64 b, .int .i64 c, .int .i64 d]) : (Instr.loadAt 25 (.pointer (some ⟨g, 0, none⟩))).run Try.prog w = .ok (.agg #[.int .i64 n, .int .i64 a, .int .i64 b, .int .i64 c, .int .i64 d]) w := by
  obtain ⟨z0, z1, z2, z3, z4⟩ := h.cell5
  simp [go_sem, z0, z1, z2, z3, z4]
set_option maxRecDepth 100000 in
set_option maxHeartbeats 40000000 in
theorem known_any (w : World) : Calls Try.prog 5 #[] w fun e w' => e = .returned (.bool true) ∧ Below w.heap.size w w' := by
  go_enter Try.func5, Try.ntmps5
  have B : Hid (Below w.heap.size w w) := Lib.hid (Below.refl _ _)
  go_wp2_with (fail)
  go_at_call 35
  refine (lx_0 _ _).mono ?_
  rintro e w1 ⟨rfl, hB⟩
  have hC := hB
  replace B := Lib.hid (below_then B.out hC)
  clear hB hC
  go_wp2_with (fail)
  go_at_call 35
  refine (lx_1 _ _ 1 _ (reads_new _ [1] _)).mono ?_
  rintro e w2 ⟨rfl, hB⟩
  have hC := (made1 hB).2
  replace B := Lib.hid (below_then B.out hC)
  clear hB hC
  go_wp2_with (fail)
  go_at_call 34
  refine (lset_row _ 2 2 (([[], [1]] : List (List Int)).map pad5) _ (reads5_block (Box.new _ _ _) rfl)).mono ?_
  rintro e w3 ⟨rfl, hR, hB⟩
  have R0 := Lib.hid hR
  have hC := (made1 hB).2
  replace B := Lib.hid (below_then B.out hC)
  clear hB hC
  clear hR
  go_wp2_with (fail)
  go_at_call 35
  refine (lx_1 _ _ 0 _ (reads_new _ [0] _)).mono ?_
  rintro e w4 ⟨rfl, hB⟩
  have hC := (made1 hB).2
  replace R0 := Lib.hid (R0.out.below hC)
  replace B := Lib.hid (below_then B.out hC)
  clear hB hC
  go_wp2_with (fail)
  go_at_call 35
  refine (lx_1 _ _ 1 _ (reads_new _ [1] _)).mono ?_
  rintro e w5 ⟨rfl, hB⟩
  have hC := (made1 hB).2
  replace R0 := Lib.hid (R0.out.below hC)
  replace B := Lib.hid (below_then B.out hC)
  clear hB hC
  go_wp2_with (fail)
  go_at_call 34
  refine (lset_row _ 2 2 (([[0], [1]] : List (List Int)).map pad5) _ (reads5_block (Box.new _ _ _) rfl)).mono ?_
  rintro e w6 ⟨rfl, hR, hB⟩
  have R1 := Lib.hid hR
  have hC := (made1 hB).2
  replace R0 := Lib.hid (R0.out.below hC)
  replace B := Lib.hid (below_then B.out hC)
  clear hB hC
  clear hR
  go_wp2_with (fail)
  go_at_call 18
  refine (punion_ok 3 _ 2 2 [([[], [1]] : List (List Int)), ([[0], [1]] : List (List Int))] _ (Lib.hid rfl) (by omega) (Lib.hid (by decide)) (Lib.hid (gridc2 (Box.new _ _ _) rfl rfl (Nat.le_refl _) (Nat.le_refl _) (R0.out.alloc _) (R1.out.alloc _))) (Lib.hid (chkA_known (by omega) (by omega) (by rfl))) (Lib.hid (okk_of (by rfl))) ([[], [0], [1]] : List (List Int)) 3 (Lib.hid (uni_known (by rfl) (by rfl))) (Lib.hid rfl)).mono ?_
  rintro e w7 ⟨p7, cp7, rfl, hR, hB, hp7⟩
  have R2 := Lib.hid hR
  have hC := (made1 hB).2
  replace R0 := Lib.hid (R0.out.below hC)
  replace R1 := Lib.hid (R1.out.below hC)
  replace B := Lib.hid (below_then B.out hC)
  clear hB hC
  clear hR
  go_wp2_with (fail)
  go_at_call 20
  refine (pmeet_ok 3 _ _ 2 2 _ _ ([[], [1]] : List (List Int)) ([[0], [1]] : List (List Int)) _ (Lib.hid rfl) (Lib.hid rfl) (by omega) (by omega) (Nat.le_refl _) (Nat.le_refl _) (Lib.hid (ok_of (by rfl))) (Lib.hid (ok_of (by rfl))) R0 R1 (Lib.hid (chkA_known (Ls := [([[], [1]] : List (List Int)), ([[0], [1]] : List (List Int))]) (by omega) (by omega) (by rfl))) ([[1]] : List (List Int)) 1 (Lib.hid ((mrgM_set (asc_of (by rfl)) (asc_of (by rfl))).trans (known (by rfl)))) (Lib.hid rfl)).mono ?_
  rintro e w8 ⟨p8, cp8, rfl, hR, hB, hp8⟩
  have R3 := Lib.hid hR
  have hC := hB
  replace R0 := Lib.hid (R0.out.below hC)
  replace R1 := Lib.hid (R1.out.below hC)
  replace R2 := Lib.hid (R2.out.below hC)
  replace B := Lib.hid (below_then B.out hC)
  clear hB hC
  clear hR
  go_wp2_with (fail)
  go_at_call 22
  refine (pless_ok 3 _ _ 2 2 _ _ ([[], [1]] : List (List Int)) ([[0], [1]] : List (List Int)) _ (Lib.hid rfl) (Lib.hid rfl) (by omega) (by omega) (Nat.le_refl _) (Nat.le_refl _) (Lib.hid (ok_of (by rfl))) (Lib.hid (ok_of (by rfl))) R0 R1 (Lib.hid (chkA_known (Ls := [([[], [1]] : List (List Int)), ([[0], [1]] : List (List Int))]) (by omega) (by omega) (by rfl))) ([[]] : List (List Int)) 1 (Lib.hid ((mrgL_set (asc_of (by rfl)) (asc_of (by rfl))).trans (known (by rfl)))) (Lib.hid rfl)).mono ?_
  rintro e w9 ⟨p9, cp9, rfl, hR, hB, hp9⟩
  have R4 := Lib.hid hR
  have hC := hB
  replace R0 := Lib.hid (R0.out.below hC)
  replace R1 := Lib.hid (R1.out.below hC)
  replace R2 := Lib.hid (R2.out.below hC)
  replace R3 := Lib.hid (R3.out.below hC)
  replace B := Lib.hid (below_then B.out hC)
  clear hB hC
  clear hR
  go_wp2_with (fail)
  go_at_call 35
  refine (lx_0 _ _).mono ?_
  rintro e w10 ⟨rfl, hB⟩
  have hC := hB
  replace R0 := Lib.hid (R0.out.below hC)
  replace R1 := Lib.hid (R1.out.below hC)
  replace R2 := Lib.hid (R2.out.below hC)
  replace R3 := Lib.hid (R3.out.below hC)
  replace R4 := Lib.hid (R4.out.below hC)
  replace B := Lib.hid (below_then B.out hC)
  clear hB hC
  go_wp2_with (fail)
  go_at_call 35
  refine (lx_1 _ _ 0 _ (reads_new _ [0] _)).mono ?_
  rintro e w11 ⟨rfl, hB⟩
  have hC := (made1 hB).2
  replace R0 := Lib.hid (R0.out.below hC)
  replace R1 := Lib.hid (R1.out.below hC)
  replace R2 := Lib.hid (R2.out.below hC)
  replace R3 := Lib.hid (R3.out.below hC)
  replace R4 := Lib.hid (R4.out.below hC)
  replace B := Lib.hid (below_then B.out hC)
  clear hB hC
  go_wp2_with (fail)
  go_at_call 35
  refine (lx_1 _ _ 1 _ (reads_new _ [1] _)).mono ?_
  rintro e w12 ⟨rfl, hB⟩
  have hC := (made1 hB).2
  replace R0 := Lib.hid (R0.out.below hC)
  replace R1 := Lib.hid (R1.out.below hC)
  replace R2 := Lib.hid (R2.out.below hC)
  replace R3 := Lib.hid (R3.out.below hC)
  replace R4 := Lib.hid (R4.out.below hC)
  replace B := Lib.hid (below_then B.out hC)
  clear hB hC
  go_wp2_with (fail)
  go_at_call 34
  refine (lset_row _ 3 3 (([[], [0], [1]] : List (List Int)).map pad5) _ (reads5_block (Box.new _ _ _) rfl)).mono ?_
  rintro e w13 ⟨rfl, hR, hB⟩
  have R5 := Lib.hid hR
  have hC := (made1 hB).2
  replace R0 := Lib.hid (R0.out.below hC)
  replace R1 := Lib.hid (R1.out.below hC)
  replace R2 := Lib.hid (R2.out.below hC)
  replace R3 := Lib.hid (R3.out.below hC)
  replace R4 := Lib.hid (R4.out.below hC)
  replace B := Lib.hid (below_then B.out hC)
  clear hB hC
  clear hR
  go_wp2_with (fail)
  go_at_call 15
  refine (lsame_any _ _ 3 3 _ _ (([[], [0], [1]] : List (List Int)).map pad5) (([[], [0], [1]] : List (List Int)).map pad5) _ (Lib.hid rfl) (Lib.hid rfl) (by omega) (by omega) R2 R5 true (Lib.hid (decide_eq_true rfl))).mono ?_
  rintro e w14 ⟨rfl, hB⟩
  have hC := hB
  replace R0 := Lib.hid (R0.out.below hC)
  replace R1 := Lib.hid (R1.out.below hC)
  replace R2 := Lib.hid (R2.out.below hC)
  replace R3 := Lib.hid (R3.out.below hC)
  replace R4 := Lib.hid (R4.out.below hC)
  replace R5 := Lib.hid (R5.out.below hC)
  replace B := Lib.hid (below_then B.out hC)
  clear hB hC
  go_wp2_with (fail)
  go_at_call 35
  refine (lx_1 _ _ 1 _ (reads_new _ [1] _)).mono ?_
  rintro e w15 ⟨rfl, hB⟩
  have hC := (made1 hB).2
  replace R0 := Lib.hid (R0.out.below hC)
  replace R1 := Lib.hid (R1.out.below hC)
  replace R2 := Lib.hid (R2.out.below hC)
  replace R3 := Lib.hid (R3.out.below hC)
  replace R4 := Lib.hid (R4.out.below hC)
  replace R5 := Lib.hid (R5.out.below hC)
  replace B := Lib.hid (below_then B.out hC)
  clear hB hC
  go_wp2_with (fail)
  go_at_call 34
  refine (lset_row _ 1 1 (([[1]] : List (List Int)).map pad5) _ (reads5_block (Box.new _ _ _) rfl)).mono ?_
  rintro e w16 ⟨rfl, hR, hB⟩
  have R6 := Lib.hid hR
  have hC := (made1 hB).2
  replace R0 := Lib.hid (R0.out.below hC)
  replace R1 := Lib.hid (R1.out.below hC)
  replace R2 := Lib.hid (R2.out.below hC)
  replace R3 := Lib.hid (R3.out.below hC)
  replace R4 := Lib.hid (R4.out.below hC)
  replace R5 := Lib.hid (R5.out.below hC)
  replace B := Lib.hid (below_then B.out hC)
  clear hB hC
  clear hR
  go_wp2_with (fail)
  go_at_call 15
  refine (lsame_any _ _ 1 1 _ _ (([[1]] : List (List Int)).map pad5) (([[1]] : List (List Int)).map pad5) _ (Lib.hid rfl) (Lib.hid rfl) (by omega) (by omega) R3 R6 true (Lib.hid (decide_eq_true rfl))).mono ?_
  rintro e w17 ⟨rfl, hB⟩
  have hC := hB
  replace R0 := Lib.hid (R0.out.below hC)
  replace R1 := Lib.hid (R1.out.below hC)
  replace R2 := Lib.hid (R2.out.below hC)
  replace R3 := Lib.hid (R3.out.below hC)
  replace R4 := Lib.hid (R4.out.below hC)
  replace R5 := Lib.hid (R5.out.below hC)
  replace R6 := Lib.hid (R6.out.below hC)
  replace B := Lib.hid (below_then B.out hC)
  clear hB hC
  go_wp2_with (fail)
  go_at_call 35
  refine (lx_0 _ _).mono ?_
  rintro e w18 ⟨rfl, hB⟩
  have hC := hB
  replace R0 := Lib.hid (R0.out.below hC)
  replace R1 := Lib.hid (R1.out.below hC)
  replace R2 := Lib.hid (R2.out.below hC)
  replace R3 := Lib.hid (R3.out.below hC)
  replace R4 := Lib.hid (R4.out.below hC)
  replace R5 := Lib.hid (R5.out.below hC)
  replace R6 := Lib.hid (R6.out.below hC)
  replace B := Lib.hid (below_then B.out hC)
  clear hB hC
  go_wp2_with (fail)
  go_at_call 34
  refine (lset_row _ 1 1 (([[]] : List (List Int)).map pad5) _ (reads5_block (Box.new _ _ _) rfl)).mono ?_
  rintro e w19 ⟨rfl, hR, hB⟩
  have R7 := Lib.hid hR
  have hC := (made1 hB).2
  replace R0 := Lib.hid (R0.out.below hC)
  replace R1 := Lib.hid (R1.out.below hC)
  replace R2 := Lib.hid (R2.out.below hC)
  replace R3 := Lib.hid (R3.out.below hC)
  replace R4 := Lib.hid (R4.out.below hC)
  replace R5 := Lib.hid (R5.out.below hC)
  replace R6 := Lib.hid (R6.out.below hC)
  replace B := Lib.hid (below_then B.out hC)
  clear hB hC
  clear hR
  go_wp2_with (fail)
  go_at_call 15
  refine (lsame_any _ _ 1 1 _ _ (([[]] : List (List Int)).map pad5) (([[]] : List (List Int)).map pad5) _ (Lib.hid rfl) (Lib.hid rfl) (by omega) (by omega) R4 R7 true (Lib.hid (decide_eq_true rfl))).mono ?_
  rintro e w20 ⟨rfl, hB⟩
  have hC := hB
  replace R0 := Lib.hid (R0.out.below hC)
  replace R1 := Lib.hid (R1.out.below hC)
  replace R2 := Lib.hid (R2.out.below hC)
  replace R3 := Lib.hid (R3.out.below hC)
  replace R4 := Lib.hid (R4.out.below hC)
  replace R5 := Lib.hid (R5.out.below hC)
  replace R6 := Lib.hid (R6.out.below hC)
  replace R7 := Lib.hid (R7.out.below hC)
  replace B := Lib.hid (below_then B.out hC)
  clear hB hC
  go_wp2_with (fail)
  go_at_call 35
  refine (lx_0 _ _).mono ?_
  rintro e w21 ⟨rfl, hB⟩
  have hC := hB
  replace R0 := Lib.hid (R0.out.below hC)
  replace R1 := Lib.hid (R1.out.below hC)
  replace R2 := Lib.hid (R2.out.below hC)
  replace R3 := Lib.hid (R3.out.below hC)
  replace R4 := Lib.hid (R4.out.below hC)
  replace R5 := Lib.hid (R5.out.below hC)
  replace R6 := Lib.hid (R6.out.below hC)
  replace R7 := Lib.hid (R7.out.below hC)
  replace B := Lib.hid (below_then B.out hC)
  clear hB hC
  go_wp2_with (fail)
  go_at_call 35
  refine (lx_2 _ _ 0 1 _ (reads_new _ [0, 1] _)).mono ?_
  rintro e w22 ⟨rfl, hB⟩
  have hC := (made1 hB).2
  replace R0 := Lib.hid (R0.out.below hC)
  replace R1 := Lib.hid (R1.out.below hC)
  replace R2 := Lib.hid (R2.out.below hC)
  replace R3 := Lib.hid (R3.out.below hC)
  replace R4 := Lib.hid (R4.out.below hC)
  replace R5 := Lib.hid (R5.out.below hC)
  replace R6 := Lib.hid (R6.out.below hC)
  replace R7 := Lib.hid (R7.out.below hC)
  replace B := Lib.hid (below_then B.out hC)
  clear hB hC
  go_wp2_with (fail)
  go_at_call 35
  refine (lx_1 _ _ 1 _ (reads_new _ [1] _)).mono ?_
  rintro e w23 ⟨rfl, hB⟩
  have hC := (made1 hB).2
  replace R0 := Lib.hid (R0.out.below hC)
  replace R1 := Lib.hid (R1.out.below hC)
  replace R2 := Lib.hid (R2.out.below hC)
  replace R3 := Lib.hid (R3.out.below hC)
  replace R4 := Lib.hid (R4.out.below hC)
  replace R5 := Lib.hid (R5.out.below hC)
  replace R6 := Lib.hid (R6.out.below hC)
  replace R7 := Lib.hid (R7.out.below hC)
  replace B := Lib.hid (below_then B.out hC)
  clear hB hC
  go_wp2_with (fail)
  go_at_call 34
  refine (lset_row _ 3 3 (([[], [0, 1], [1]] : List (List Int)).map pad5) _ (reads5_block (Box.new _ _ _) rfl)).mono ?_
  rintro e w24 ⟨rfl, hR, hB⟩
  have R8 := Lib.hid hR
  have hC := (made1 hB).2
  replace R0 := Lib.hid (R0.out.below hC)
  replace R1 := Lib.hid (R1.out.below hC)
  replace R2 := Lib.hid (R2.out.below hC)
  replace R3 := Lib.hid (R3.out.below hC)
  replace R4 := Lib.hid (R4.out.below hC)
  replace R5 := Lib.hid (R5.out.below hC)
  replace R6 := Lib.hid (R6.out.below hC)
  replace R7 := Lib.hid (R7.out.below hC)
  replace B := Lib.hid (below_then B.out hC)
  clear hB hC
  clear hR
  go_wp2_with (fail)
  go_at_call 11
  refine (pset_any 3 _ 3 3 (([[], [0, 1], [1]] : List (List Int)).map pad5) _ (Lib.hid rfl) (by omega) R8 0 (Lib.hid (chkS_known (by omega) (by omega) (by rfl)))).mono ?_
  rintro e w25 ⟨rfl, hB⟩
  have hC := hB
  replace R0 := Lib.hid (R0.out.below hC)
  replace R1 := Lib.hid (R1.out.below hC)
  replace R2 := Lib.hid (R2.out.below hC)
  replace R3 := Lib.hid (R3.out.below hC)
  replace R4 := Lib.hid (R4.out.below hC)
  replace R5 := Lib.hid (R5.out.below hC)
  replace R6 := Lib.hid (R6.out.below hC)
  replace R7 := Lib.hid (R7.out.below hC)
  replace R8 := Lib.hid (R8.out.below hC)
  replace B := Lib.hid (below_then B.out hC)
  clear hB hC
  go_wp2_with (fail)
  go_at_call 35
  refine (lx_0 _ _).mono ?_
  rintro e w26 ⟨rfl, hB⟩
  have hC := hB
  replace R0 := Lib.hid (R0.out.below hC)
  replace R1 := Lib.hid (R1.out.below hC)
  replace R2 := Lib.hid (R2.out.below hC)
  replace R3 := Lib.hid (R3.out.below hC)
  replace R4 := Lib.hid (R4.out.below hC)
  replace R5 := Lib.hid (R5.out.below hC)
  replace R6 := Lib.hid (R6.out.below hC)
  replace R7 := Lib.hid (R7.out.below hC)
  replace R8 := Lib.hid (R8.out.below hC)
  replace B := Lib.hid (below_then B.out hC)
  clear hB hC
  go_wp2_with (fail)
  go_at_call 35
  refine (lx_1 _ _ 0 _ (reads_new _ [0] _)).mono ?_
  rintro e w27 ⟨rfl, hB⟩
  have hC := (made1 hB).2
  replace R0 := Lib.hid (R0.out.below hC)
  replace R1 := Lib.hid (R1.out.below hC)
  replace R2 := Lib.hid (R2.out.below hC)
  replace R3 := Lib.hid (R3.out.below hC)
  replace R4 := Lib.hid (R4.out.below hC)
  replace R5 := Lib.hid (R5.out.below hC)
  replace R6 := Lib.hid (R6.out.below hC)
  replace R7 := Lib.hid (R7.out.below hC)
  replace R8 := Lib.hid (R8.out.below hC)
  replace B := Lib.hid (below_then B.out hC)
  clear hB hC
  go_wp2_with (fail)
  go_at_call 34
  refine (lset_row _ 2 2 (([[], [0]] : List (List Int)).map pad5) _ (reads5_block (Box.new _ _ _) rfl)).mono ?_
  rintro e w28 ⟨rfl, hR, hB⟩
  have R9 := Lib.hid hR
  have hC := (made1 hB).2
  replace R0 := Lib.hid (R0.out.below hC)
  replace R1 := Lib.hid (R1.out.below hC)
  replace R2 := Lib.hid (R2.out.below hC)
  replace R3 := Lib.hid (R3.out.below hC)
  replace R4 := Lib.hid (R4.out.below hC)
  replace R5 := Lib.hid (R5.out.below hC)
  replace R6 := Lib.hid (R6.out.below hC)
  replace R7 := Lib.hid (R7.out.below hC)
  replace R8 := Lib.hid (R8.out.below hC)
  replace B := Lib.hid (below_then B.out hC)
  clear hB hC
  clear hR
  go_wp2_with (fail)
  go_at_call 35
  refine (lx_1 _ _ 1 _ (reads_new _ [1] _)).mono ?_
  rintro e w29 ⟨rfl, hB⟩
  have hC := (made1 hB).2
  replace R0 := Lib.hid (R0.out.below hC)
  replace R1 := Lib.hid (R1.out.below hC)
  replace R2 := Lib.hid (R2.out.below hC)
  replace R3 := Lib.hid (R3.out.below hC)
  replace R4 := Lib.hid (R4.out.below hC)
  replace R5 := Lib.hid (R5.out.below hC)
  replace R6 := Lib.hid (R6.out.below hC)
  replace R7 := Lib.hid (R7.out.below hC)
  replace R8 := Lib.hid (R8.out.below hC)
  replace R9 := Lib.hid (R9.out.below hC)
  replace B := Lib.hid (below_then B.out hC)
  clear hB hC
  go_wp2_with (fail)
  go_at_call 35
  refine (lx_2 _ _ 1 2 _ (reads_new _ [1, 2] _)).mono ?_
  rintro e w30 ⟨rfl, hB⟩
  have hC := (made1 hB).2
  replace R0 := Lib.hid (R0.out.below hC)
  replace R1 := Lib.hid (R1.out.below hC)
  replace R2 := Lib.hid (R2.out.below hC)
  replace R3 := Lib.hid (R3.out.below hC)
  replace R4 := Lib.hid (R4.out.below hC)
  replace R5 := Lib.hid (R5.out.below hC)
  replace R6 := Lib.hid (R6.out.below hC)
  replace R7 := Lib.hid (R7.out.below hC)
  replace R8 := Lib.hid (R8.out.below hC)
  replace R9 := Lib.hid (R9.out.below hC)
  replace B := Lib.hid (below_then B.out hC)
  clear hB hC
  go_wp2_with (fail)
  go_at_call 34
  refine (lset_row _ 2 2 (([[1], [1, 2]] : List (List Int)).map pad5) _ (reads5_block (Box.new _ _ _) rfl)).mono ?_
  rintro e w31 ⟨rfl, hR, hB⟩
  have R10 := Lib.hid hR
  have hC := (made1 hB).2
  replace R0 := Lib.hid (R0.out.below hC)
  replace R1 := Lib.hid (R1.out.below hC)
  replace R2 := Lib.hid (R2.out.below hC)
  replace R3 := Lib.hid (R3.out.below hC)
  replace R4 := Lib.hid (R4.out.below hC)
  replace R5 := Lib.hid (R5.out.below hC)
  replace R6 := Lib.hid (R6.out.below hC)
  replace R7 := Lib.hid (R7.out.below hC)
  replace R8 := Lib.hid (R8.out.below hC)
  replace R9 := Lib.hid (R9.out.below hC)
  replace B := Lib.hid (below_then B.out hC)
  clear hB hC
  clear hR
  go_wp2_with (fail)
  go_at_call 35
  refine (lx_1 _ _ 0 _ (reads_new _ [0] _)).mono ?_
  rintro e w32 ⟨rfl, hB⟩
  have hC := (made1 hB).2
  replace R0 := Lib.hid (R0.out.below hC)
  replace R1 := Lib.hid (R1.out.below hC)
  replace R2 := Lib.hid (R2.out.below hC)
  replace R3 := Lib.hid (R3.out.below hC)
  replace R4 := Lib.hid (R4.out.below hC)
  replace R5 := Lib.hid (R5.out.below hC)
  replace R6 := Lib.hid (R6.out.below hC)
  replace R7 := Lib.hid (R7.out.below hC)
  replace R8 := Lib.hid (R8.out.below hC)
  replace R9 := Lib.hid (R9.out.below hC)
  replace R10 := Lib.hid (R10.out.below hC)
  replace B := Lib.hid (below_then B.out hC)
  clear hB hC
  go_wp2_with (fail)
  go_at_call 35
  refine (lx_1 _ _ 1 _ (reads_new _ [1] _)).mono ?_
  rintro e w33 ⟨rfl, hB⟩
  have hC := (made1 hB).2
  replace R0 := Lib.hid (R0.out.below hC)
  replace R1 := Lib.hid (R1.out.below hC)
  replace R2 := Lib.hid (R2.out.below hC)
  replace R3 := Lib.hid (R3.out.below hC)
  replace R4 := Lib.hid (R4.out.below hC)
  replace R5 := Lib.hid (R5.out.below hC)
  replace R6 := Lib.hid (R6.out.below hC)
  replace R7 := Lib.hid (R7.out.below hC)
  replace R8 := Lib.hid (R8.out.below hC)
  replace R9 := Lib.hid (R9.out.below hC)
  replace R10 := Lib.hid (R10.out.below hC)
  replace B := Lib.hid (below_then B.out hC)
  clear hB hC
  go_wp2_with (fail)
  go_at_call 34
  refine (lset_row _ 2 2 (([[0], [1]] : List (List Int)).map pad5) _ (reads5_block (Box.new _ _ _) rfl)).mono ?_
  rintro e w34 ⟨rfl, hR, hB⟩
  have R11 := Lib.hid hR
  have hC := (made1 hB).2
  replace R0 := Lib.hid (R0.out.below hC)
  replace R1 := Lib.hid (R1.out.below hC)
  replace R2 := Lib.hid (R2.out.below hC)
  replace R3 := Lib.hid (R3.out.below hC)
  replace R4 := Lib.hid (R4.out.below hC)
  replace R5 := Lib.hid (R5.out.below hC)
  replace R6 := Lib.hid (R6.out.below hC)
  replace R7 := Lib.hid (R7.out.below hC)
  replace R8 := Lib.hid (R8.out.below hC)
  replace R9 := Lib.hid (R9.out.below hC)
  replace R10 := Lib.hid (R10.out.below hC)
  replace B := Lib.hid (below_then B.out hC)
  clear hB hC
  clear hR
  go_wp2_with (fail)
  go_at_call 36
  refine (lsums_any 1 _ _ _ 2 2 2 _ _ _ ([[], [0]] : List (List Int)) ([[1], [1, 2]] : List (List Int)) (([[0], [1]] : List (List Int)).map pad5) _ (by omega) (by omega) (Lib.hid rfl) (Lib.hid rfl) (Lib.hid rfl) (by omega) (by omega) (by omega) (Nat.le_refl _) (Nat.le_refl _) (Lib.hid (ok_of (by rfl))) (Lib.hid (ok_of (by rfl))) R9 R10 R11 (Lib.hid (chkA_known (Ls := [([[], [0]] : List (List Int)), ([[1], [1, 2]] : List (List Int))]) (by omega) (by omega) (by rfl))) true (Lib.hid (decide_eq_true (congrArg (List.map pad5) ((sumS_set 1 (asc_of (by rfl)) (asc_of (by rfl))).trans (known (by rfl))))))).mono ?_
  rintro e w35 ⟨rfl, hB⟩
  have hC := hB
  replace R0 := Lib.hid (R0.out.below hC)
  replace R1 := Lib.hid (R1.out.below hC)
  replace R2 := Lib.hid (R2.out.below hC)
  replace R3 := Lib.hid (R3.out.below hC)
  replace R4 := Lib.hid (R4.out.below hC)
  replace R5 := Lib.hid (R5.out.below hC)
  replace R6 := Lib.hid (R6.out.below hC)
  replace R7 := Lib.hid (R7.out.below hC)
  replace R8 := Lib.hid (R8.out.below hC)
  replace R9 := Lib.hid (R9.out.below hC)
  replace R10 := Lib.hid (R10.out.below hC)
  replace R11 := Lib.hid (R11.out.below hC)
  replace B := Lib.hid (below_then B.out hC)
  clear hB hC
  go_wp2_with (fail)
  go_at_call 35
  refine (lx_1 _ _ 0 _ (reads_new _ [0] _)).mono ?_
  rintro e w36 ⟨rfl, hB⟩
  have hC := (made1 hB).2
  replace R0 := Lib.hid (R0.out.below hC)
  replace R1 := Lib.hid (R1.out.below hC)
  replace R2 := Lib.hid (R2.out.below hC)
  replace R3 := Lib.hid (R3.out.below hC)
  replace R4 := Lib.hid (R4.out.below hC)
  replace R5 := Lib.hid (R5.out.below hC)
  replace R6 := Lib.hid (R6.out.below hC)
  replace R7 := Lib.hid (R7.out.below hC)
  replace R8 := Lib.hid (R8.out.below hC)
  replace R9 := Lib.hid (R9.out.below hC)
  replace R10 := Lib.hid (R10.out.below hC)
  replace R11 := Lib.hid (R11.out.below hC)
  replace B := Lib.hid (below_then B.out hC)
  clear hB hC
  go_wp2_with (fail)
  go_at_call 34
  refine (lset_row _ 1 1 (([[0]] : List (List Int)).map pad5) _ (reads5_block (Box.new _ _ _) rfl)).mono ?_
  rintro e w37 ⟨rfl, hR, hB⟩
  have R12 := Lib.hid hR
  have hC := (made1 hB).2
  replace R0 := Lib.hid (R0.out.below hC)
  replace R1 := Lib.hid (R1.out.below hC)
  replace R2 := Lib.hid (R2.out.below hC)
  replace R3 := Lib.hid (R3.out.below hC)
  replace R4 := Lib.hid (R4.out.below hC)
  replace R5 := Lib.hid (R5.out.below hC)
  replace R6 := Lib.hid (R6.out.below hC)
  replace R7 := Lib.hid (R7.out.below hC)
  replace R8 := Lib.hid (R8.out.below hC)
  replace R9 := Lib.hid (R9.out.below hC)
  replace R10 := Lib.hid (R10.out.below hC)
  replace R11 := Lib.hid (R11.out.below hC)
  replace B := Lib.hid (below_then B.out hC)
  clear hB hC
  clear hR
  go_wp2_with (fail)
  go_at_call 36
  refine (lsums_any 2 _ _ _ 0 1 0 _ _ _ ([] : List (List Int)) ([[0]] : List (List Int)) (([] : List (List Int)).map pad5) _ (by omega) (by omega) (Lib.hid rfl) (Lib.hid rfl) (Lib.hid rfl) (by omega) (by omega) (by omega) (Nat.le_refl _) (Nat.le_refl _) (Lib.hid (ok_of (by rfl))) (Lib.hid (ok_of (by rfl))) (Lib.hid (Reads5.nil _ _)) R12 (Lib.hid (Reads5.nil _ _)) (Lib.hid (chkA_known (Ls := [([] : List (List Int)), ([[0]] : List (List Int))]) (by omega) (by omega) (by rfl))) true (Lib.hid (decide_eq_true (congrArg (List.map pad5) ((sumS_set 2 (asc_of (by rfl)) (asc_of (by rfl))).trans (known (by rfl))))))).mono ?_
  rintro e w38 ⟨rfl, hB⟩
  have hC := hB
  replace R0 := Lib.hid (R0.out.below hC)
  replace R1 := Lib.hid (R1.out.below hC)
  replace R2 := Lib.hid (R2.out.below hC)
  replace R3 := Lib.hid (R3.out.below hC)
  replace R4 := Lib.hid (R4.out.below hC)
  replace R5 := Lib.hid (R5.out.below hC)
  replace R6 := Lib.hid (R6.out.below hC)
  replace R7 := Lib.hid (R7.out.below hC)
  replace R8 := Lib.hid (R8.out.below hC)
  replace R9 := Lib.hid (R9.out.below hC)
  replace R10 := Lib.hid (R10.out.below hC)
  replace R11 := Lib.hid (R11.out.below hC)
  replace R12 := Lib.hid (R12.out.below hC)
  replace B := Lib.hid (below_then B.out hC)
  clear hB hC
  go_wp2_with (fail)
  go_at_call 35
  refine (lx_2 _ _ 0 1 _ (reads_new _ [0, 1] _)).mono ?_
  rintro e w39 ⟨rfl, hB⟩
  have hC := (made1 hB).2
  replace R0 := Lib.hid (R0.out.below hC)
  replace R1 := Lib.hid (R1.out.below hC)
  replace R2 := Lib.hid (R2.out.below hC)
  replace R3 := Lib.hid (R3.out.below hC)
  replace R4 := Lib.hid (R4.out.below hC)
  replace R5 := Lib.hid (R5.out.below hC)
  replace R6 := Lib.hid (R6.out.below hC)
  replace R7 := Lib.hid (R7.out.below hC)
  replace R8 := Lib.hid (R8.out.below hC)
  replace R9 := Lib.hid (R9.out.below hC)
  replace R10 := Lib.hid (R10.out.below hC)
  replace R11 := Lib.hid (R11.out.below hC)
  replace R12 := Lib.hid (R12.out.below hC)
  replace B := Lib.hid (below_then B.out hC)
  clear hB hC
  go_wp2_with (fail)
  go_at_call 35
  refine (lx_2 _ _ 0 2 _ (reads_new _ [0, 2] _)).mono ?_
  rintro e w40 ⟨rfl, hB⟩
  have hC := (made1 hB).2
  replace R0 := Lib.hid (R0.out.below hC)
  replace R1 := Lib.hid (R1.out.below hC)
  replace R2 := Lib.hid (R2.out.below hC)
  replace R3 := Lib.hid (R3.out.below hC)
  replace R4 := Lib.hid (R4.out.below hC)
  replace R5 := Lib.hid (R5.out.below hC)
  replace R6 := Lib.hid (R6.out.below hC)
  replace R7 := Lib.hid (R7.out.below hC)
  replace R8 := Lib.hid (R8.out.below hC)
  replace R9 := Lib.hid (R9.out.below hC)
  replace R10 := Lib.hid (R10.out.below hC)
  replace R11 := Lib.hid (R11.out.below hC)
  replace R12 := Lib.hid (R12.out.below hC)
  replace B := Lib.hid (below_then B.out hC)
  clear hB hC
  go_wp2_with (fail)
  go_at_call 35
  refine (lx_1 _ _ 1 _ (reads_new _ [1] _)).mono ?_
  rintro e w41 ⟨rfl, hB⟩
  have hC := (made1 hB).2
  replace R0 := Lib.hid (R0.out.below hC)
  replace R1 := Lib.hid (R1.out.below hC)
  replace R2 := Lib.hid (R2.out.below hC)
  replace R3 := Lib.hid (R3.out.below hC)
  replace R4 := Lib.hid (R4.out.below hC)
  replace R5 := Lib.hid (R5.out.below hC)
  replace R6 := Lib.hid (R6.out.below hC)
  replace R7 := Lib.hid (R7.out.below hC)
  replace R8 := Lib.hid (R8.out.below hC)
  replace R9 := Lib.hid (R9.out.below hC)
  replace R10 := Lib.hid (R10.out.below hC)
  replace R11 := Lib.hid (R11.out.below hC)
  replace R12 := Lib.hid (R12.out.below hC)
  replace B := Lib.hid (below_then B.out hC)
  clear hB hC
  go_wp2_with (fail)
  go_at_call 34
  refine (lset_row _ 3 3 (([[0, 1], [0, 2], [1]] : List (List Int)).map pad5) _ (reads5_block (Box.new _ _ _) rfl)).mono ?_
  rintro e w42 ⟨rfl, hR, hB⟩
  have R13 := Lib.hid hR
  have hC := (made1 hB).2
  replace R0 := Lib.hid (R0.out.below hC)
  replace R1 := Lib.hid (R1.out.below hC)
  replace R2 := Lib.hid (R2.out.below hC)
  replace R3 := Lib.hid (R3.out.below hC)
  replace R4 := Lib.hid (R4.out.below hC)
  replace R5 := Lib.hid (R5.out.below hC)
  replace R6 := Lib.hid (R6.out.below hC)
  replace R7 := Lib.hid (R7.out.below hC)
  replace R8 := Lib.hid (R8.out.below hC)
  replace R9 := Lib.hid (R9.out.below hC)
  replace R10 := Lib.hid (R10.out.below hC)
  replace R11 := Lib.hid (R11.out.below hC)
  replace R12 := Lib.hid (R12.out.below hC)
  replace B := Lib.hid (below_then B.out hC)
  clear hB hC
  clear hR
  go_wp2_with (fail)
  go_at_call 32
  refine (pcut_ok 3 1 _ 3 _ ([[0, 1], [0, 2], [1]] : List (List Int)) _ (by omega) (by omega) (Lib.hid rfl) (by omega) (Lib.hid (ok_of (by rfl))) R13 (Lib.hid (chkS_known (by omega) (by omega) (by rfl))) ([[0], [1]] : List (List Int)) 2 (Lib.hid ((cutS_set 1 (asc_of (by rfl))).trans (known (by rfl)))) (Lib.hid rfl)).mono ?_
  rintro e w43 ⟨p43, cp43, rfl, hR, hB, hp43⟩
  have R14 := Lib.hid hR
  have hC := hB
  replace R0 := Lib.hid (R0.out.below hC)
  replace R1 := Lib.hid (R1.out.below hC)
  replace R2 := Lib.hid (R2.out.below hC)
  replace R3 := Lib.hid (R3.out.below hC)
  replace R4 := Lib.hid (R4.out.below hC)
  replace R5 := Lib.hid (R5.out.below hC)
  replace R6 := Lib.hid (R6.out.below hC)
  replace R7 := Lib.hid (R7.out.below hC)
  replace R8 := Lib.hid (R8.out.below hC)
  replace R9 := Lib.hid (R9.out.below hC)
  replace R10 := Lib.hid (R10.out.below hC)
  replace R11 := Lib.hid (R11.out.below hC)
  replace R12 := Lib.hid (R12.out.below hC)
  replace R13 := Lib.hid (R13.out.below hC)
  replace B := Lib.hid (below_then B.out hC)
  clear hB hC
  clear hR
  go_wp2_with (fail)
  go_at_call 32
  refine (pcut_ok 3 2 _ 3 _ ([[0, 1], [0, 2], [1]] : List (List Int)) _ (by omega) (by omega) (Lib.hid rfl) (by omega) (Lib.hid (ok_of (by rfl))) R13 (Lib.hid (chkS_known (by omega) (by omega) (by rfl))) ([[0, 1], [0, 2], [1]] : List (List Int)) 3 (Lib.hid ((cutS_set 2 (asc_of (by rfl))).trans (known (by rfl)))) (Lib.hid rfl)).mono ?_
  rintro e w44 ⟨p44, cp44, rfl, hR, hB, hp44⟩
  have R15 := Lib.hid hR
  have hC := hB
  replace R0 := Lib.hid (R0.out.below hC)
  replace R1 := Lib.hid (R1.out.below hC)
  replace R2 := Lib.hid (R2.out.below hC)
  replace R3 := Lib.hid (R3.out.below hC)
  replace R4 := Lib.hid (R4.out.below hC)
  replace R5 := Lib.hid (R5.out.below hC)
  replace R6 := Lib.hid (R6.out.below hC)
  replace R7 := Lib.hid (R7.out.below hC)
  replace R8 := Lib.hid (R8.out.below hC)
  replace R9 := Lib.hid (R9.out.below hC)
  replace R10 := Lib.hid (R10.out.below hC)
  replace R11 := Lib.hid (R11.out.below hC)
  replace R12 := Lib.hid (R12.out.below hC)
  replace R13 := Lib.hid (R13.out.below hC)
  replace R14 := Lib.hid (R14.out.below hC)
  replace B := Lib.hid (below_then B.out hC)
  clear hB hC
  clear hR
  go_wp2_with (fail)
  go_at_call 35
  refine (lx_2 _ _ 0 1 _ (reads_new _ [0, 1] _)).mono ?_
  rintro e w45 ⟨rfl, hB⟩
  have hC := (made1 hB).2
  replace R0 := Lib.hid (R0.out.below hC)
  replace R1 := Lib.hid (R1.out.below hC)
  replace R2 := Lib.hid (R2.out.below hC)
  replace R3 := Lib.hid (R3.out.below hC)
  replace R4 := Lib.hid (R4.out.below hC)
  replace R5 := Lib.hid (R5.out.below hC)
  replace R6 := Lib.hid (R6.out.below hC)
  replace R7 := Lib.hid (R7.out.below hC)
  replace R8 := Lib.hid (R8.out.below hC)
  replace R9 := Lib.hid (R9.out.below hC)
  replace R10 := Lib.hid (R10.out.below hC)
  replace R11 := Lib.hid (R11.out.below hC)
  replace R12 := Lib.hid (R12.out.below hC)
  replace R13 := Lib.hid (R13.out.below hC)
  replace R14 := Lib.hid (R14.out.below hC)
  replace R15 := Lib.hid (R15.out.below hC)
  replace B := Lib.hid (below_then B.out hC)
  clear hB hC
  go_wp2_with (fail)
  go_at_call 35
  refine (lx_1 _ _ 1 _ (reads_new _ [1] _)).mono ?_
  rintro e w46 ⟨rfl, hB⟩
  have hC := (made1 hB).2
  replace R0 := Lib.hid (R0.out.below hC)
  replace R1 := Lib.hid (R1.out.below hC)
  replace R2 := Lib.hid (R2.out.below hC)
  replace R3 := Lib.hid (R3.out.below hC)
  replace R4 := Lib.hid (R4.out.below hC)
  replace R5 := Lib.hid (R5.out.below hC)
  replace R6 := Lib.hid (R6.out.below hC)
  replace R7 := Lib.hid (R7.out.below hC)
  replace R8 := Lib.hid (R8.out.below hC)
  replace R9 := Lib.hid (R9.out.below hC)
  replace R10 := Lib.hid (R10.out.below hC)
  replace R11 := Lib.hid (R11.out.below hC)
  replace R12 := Lib.hid (R12.out.below hC)
  replace R13 := Lib.hid (R13.out.below hC)
  replace R14 := Lib.hid (R14.out.below hC)
  replace R15 := Lib.hid (R15.out.below hC)
  replace B := Lib.hid (below_then B.out hC)
  clear hB hC
  go_wp2_with (fail)
  go_at_call 34
  refine (lset_row _ 2 2 (([[0, 1], [1]] : List (List Int)).map pad5) _ (reads5_block (Box.new _ _ _) rfl)).mono ?_
  rintro e w47 ⟨rfl, hR, hB⟩
  have R16 := Lib.hid hR
  have hC := (made1 hB).2
  replace R0 := Lib.hid (R0.out.below hC)
  replace R1 := Lib.hid (R1.out.below hC)
  replace R2 := Lib.hid (R2.out.below hC)
  replace R3 := Lib.hid (R3.out.below hC)
  replace R4 := Lib.hid (R4.out.below hC)
  replace R5 := Lib.hid (R5.out.below hC)
  replace R6 := Lib.hid (R6.out.below hC)
  replace R7 := Lib.hid (R7.out.below hC)
  replace R8 := Lib.hid (R8.out.below hC)
  replace R9 := Lib.hid (R9.out.below hC)
  replace R10 := Lib.hid (R10.out.below hC)
  replace R11 := Lib.hid (R11.out.below hC)
  replace R12 := Lib.hid (R12.out.below hC)
  replace R13 := Lib.hid (R13.out.below hC)
  replace R14 := Lib.hid (R14.out.below hC)
  replace R15 := Lib.hid (R15.out.below hC)
  replace B := Lib.hid (below_then B.out hC)
  clear hB hC
  clear hR
  go_wp2_with (fail)
  go_at_call 24
  refine (pleast_ok 3 _ 2 _ (2, 0, 1, 0, 0) (([[1]] : List (List Int)).map pad5) _ (Lib.hid rfl) (by omega) R16 (Lib.hid (chkS_known (L := ([[0, 1], [1]] : List (List Int))) (by omega) (by omega) (by rfl)))).mono ?_
  rintro e w48 ⟨he, hB⟩
  simp only [s13.LE] at he
  subst he
  have hC := hB
  replace R0 := Lib.hid (R0.out.below hC)
  replace R1 := Lib.hid (R1.out.below hC)
  replace R2 := Lib.hid (R2.out.below hC)
  replace R3 := Lib.hid (R3.out.below hC)
  replace R4 := Lib.hid (R4.out.below hC)
  replace R5 := Lib.hid (R5.out.below hC)
  replace R6 := Lib.hid (R6.out.below hC)
  replace R7 := Lib.hid (R7.out.below hC)
  replace R8 := Lib.hid (R8.out.below hC)
  replace R9 := Lib.hid (R9.out.below hC)
  replace R10 := Lib.hid (R10.out.below hC)
  replace R11 := Lib.hid (R11.out.below hC)
  replace R12 := Lib.hid (R12.out.below hC)
  replace R13 := Lib.hid (R13.out.below hC)
  replace R14 := Lib.hid (R14.out.below hC)
  replace R15 := Lib.hid (R15.out.below hC)
  replace R16 := Lib.hid (R16.out.below hC)
  replace B := Lib.hid (below_then B.out hC)
  clear hB hC
  go_wp2_with (fail)
  go_at_call 24
  refine (pleast_none 3 _ _ _ (by omega) (by omega)).mono ?_
  rintro e w49 ⟨he, hB⟩
  simp only [s13.LE, s13.no5] at he
  subst he
  have X12 := Lib.hid (made1 hB).1
  have hC := (made1 hB).2
  replace R0 := Lib.hid (R0.out.below hC)
  replace R1 := Lib.hid (R1.out.below hC)
  replace R2 := Lib.hid (R2.out.below hC)
  replace R3 := Lib.hid (R3.out.below hC)
  replace R4 := Lib.hid (R4.out.below hC)
  replace R5 := Lib.hid (R5.out.below hC)
  replace R6 := Lib.hid (R6.out.below hC)
  replace R7 := Lib.hid (R7.out.below hC)
  replace R8 := Lib.hid (R8.out.below hC)
  replace R9 := Lib.hid (R9.out.below hC)
  replace R10 := Lib.hid (R10.out.below hC)
  replace R11 := Lib.hid (R11.out.below hC)
  replace R12 := Lib.hid (R12.out.below hC)
  replace R13 := Lib.hid (R13.out.below hC)
  replace R14 := Lib.hid (R14.out.below hC)
  replace R15 := Lib.hid (R15.out.below hC)
  replace R16 := Lib.hid (R16.out.below hC)
  replace B := Lib.hid (below_then B.out hC)
  clear hB hC
  go_wp2_with (fail)
  go_at_call 30
  refine (psum_k 3 5 none none 0 0 0 0 [] [] _ (Lib.hid rfl) (Lib.hid rfl) (by omega) (by omega) (Lib.hid (Reads5.nil _ _)) (Lib.hid (Reads5.nil _ _)) (Lib.hid (by rfl)) (by omega)).mono ?_
  rintro e w50 ⟨he, hB⟩
  simp only [noS] at he
  subst he
  have X13 := Lib.hid (made1 hB).1
  have hC := (made1 hB).2
  replace R0 := Lib.hid (R0.out.below hC)
  replace R1 := Lib.hid (R1.out.below hC)
  replace R2 := Lib.hid (R2.out.below hC)
  replace R3 := Lib.hid (R3.out.below hC)
  replace R4 := Lib.hid (R4.out.below hC)
  replace R5 := Lib.hid (R5.out.below hC)
  replace R6 := Lib.hid (R6.out.below hC)
  replace R7 := Lib.hid (R7.out.below hC)
  replace R8 := Lib.hid (R8.out.below hC)
  replace R9 := Lib.hid (R9.out.below hC)
  replace R10 := Lib.hid (R10.out.below hC)
  replace R11 := Lib.hid (R11.out.below hC)
  replace R12 := Lib.hid (R12.out.below hC)
  replace R13 := Lib.hid (R13.out.below hC)
  replace R14 := Lib.hid (R14.out.below hC)
  replace R15 := Lib.hid (R15.out.below hC)
  replace R16 := Lib.hid (R16.out.below hC)
  replace X12 := Lib.hid (X12.out.below hC)
  replace B := Lib.hid (below_then B.out hC)
  clear hB hC
  go_wp2_with (fail)
  refine wp_region_specs [.con (.int .i64 0), .con (.bool true), .con (.bool true), .con (.slice p43 2 cp43), SlI [0], .con (.agg #[.int .i64 1, .int .i64 0, .int .i64 0, .int .i64 0, .int .i64 0]), SlI [1], .con (.agg #[.int .i64 1, .int .i64 1, .int .i64 0, .int .i64 0, .int .i64 0]), Sl5 [[0], [1]], Sl5 [[0], [1]], .con (.bool true), .con (.bool true), .con (.bool true), .con (.int .i64 0), .con (.bool true), .con (.bool true), .con (.bool true), .con (.slice p44 3 cp44), .con (.slice (some ⟨w41.heap.size, 0, none⟩) 3 3), .con (.bool true), .con (.bool true), .con (.bool true), .con (.int .i64 0), .con (.bool true), .con (.bool true), .con (.bool true), .con (.agg #[.int .i64 2, .int .i64 0, .int .i64 1, .int .i64 0, .int .i64 0]), SlI [0, 1], .con (.agg #[.int .i64 2, .int .i64 0, .int .i64 1, .int .i64 0, .int .i64 0]), .con (.bool true), .con (.bool true), .con (.bool true), .con (.int .i64 20), .con (.bool true), .con (.bool true), .con (.bool true), .con (.int .i64 2), .con (.bool true), .con (.bool true), .con (.bool true)] (by kernel_rfl) (by kernel_rfl) ?keeps ?steps ?rest
  case keeps =>
    intro s hs
    simp only [List.mem_cons, List.not_mem_nil, or_false] at hs
    rcases hs with rfl | rfl | rfl | rfl | rfl | rfl | rfl | rfl | rfl | rfl | rfl | rfl | rfl | rfl | rfl | rfl | rfl | rfl | rfl | rfl | rfl | rfl | rfl | rfl | rfl | rfl | rfl | rfl | rfl | rfl | rfl | rfl | rfl | rfl | rfl | rfl | rfl | rfl | rfl | rfl <;> first | exact con_keeps _ | exact SlI.keeps _ | exact Sl5.keeps _
  case steps =>
    refine ⟨fun A w9 hB9 h => step_move_old h (by kernel_rfl) 4 rfl (by kernel_rfl) (by rfl), ?_⟩
    refine ⟨fun A w9 hB9 h => step_bin h (by kernel_rfl) _ _ _ _ _ (.int .i64 0) (.int .i64 0) rfl (by kernel_rfl) (by kernel_rfl) (fun W => by kernel_rfl) (fun W => by kernel_rfl), ?_⟩
    refine ⟨fun A w9 hB9 h => step_move h (by kernel_rfl) _ rfl (by kernel_rfl), ?_⟩
    refine ⟨fun A w9 hB9 h => step_move_old h (by kernel_rfl) 3 rfl (by kernel_rfl) (by rfl), ?_⟩
    refine ⟨fun A w9 hB9 h => step_slice h (by kernel_rfl) _ 3 _ _ [0] rfl (by kernel_rfl) (by kernel_rfl) (by kernel_rfl) rfl (by decide) (by decide) (by kernel_rfl), ?_⟩
    refine ⟨fun A w9 hB9 h => step_call_sl h (by kernel_rfl) 35 _ [0] 4 160 rfl rfl rfl (by kernel_rfl) (by kernel_rfl) rfl rfl (fun p hr => lx_1 p 1 0 w9 hr), ?_⟩
    refine ⟨fun A w9 hB9 h => step_slice h (by kernel_rfl) _ 3 _ _ [1] rfl (by kernel_rfl) (by kernel_rfl) (by kernel_rfl) rfl (by decide) (by decide) (by kernel_rfl), ?_⟩
    refine ⟨fun A w9 hB9 h => step_call_sl h (by kernel_rfl) 35 _ [1] 6 162 rfl rfl rfl (by kernel_rfl) (by kernel_rfl) rfl rfl (fun p hr => lx_1 p 1 1 w9 hr), ?_⟩
    refine ⟨fun A w9 hB9 h => step_slice5 h (by kernel_rfl) _ _ [[0], [1]] rfl rfl (by decide) (by decide) (by kernel_rfl), ?_⟩
    refine ⟨fun A w9 hB9 h => ?_, ?_⟩
    · obtain ⟨a, e, hr⟩ := h.rel 8 (d := 164) (by kernel_rfl) (by kernel_rfl) rfl
      exact step_call h (by kernel_rfl) 34 _ #[.slice a 2 2] rfl rfl (by kernel_rfl) (by simp [e]) ((lset_row a 2 2 _ w9 hr).mono (fun e9 w8 ⟨h1, h2, h3⟩ => ⟨_, h1, h3, a, rfl, h2⟩))
    refine ⟨fun A w9 hB9 h => ?_, ?_⟩
    · obtain ⟨a, e, hr⟩ := h.rel 9 (d := 165) (by kernel_rfl) (by kernel_rfl) rfl
      have e3 := h.con 3 (d := 159) (by kernel_rfl) (by kernel_rfl) rfl
      exact step_call h (by kernel_rfl) 15 _ #[.slice p43 2 cp43, .slice a 2 2] rfl rfl (by kernel_rfl) (by simp [e, e3]) ((lsame_any _ _ 2 2 _ _ (([[0], [1]] : List (List Int)).map pad5) (([[0], [1]] : List (List Int)).map pad5) w9 (Lib.hid rfl) (Lib.hid rfl) (by omega) (by omega) (Lib.hid (R14.out.below hB9)) (Lib.hid hr) true (Lib.hid (decide_eq_true rfl))).mono (fun e9 w8 ⟨h1, h2⟩ => ⟨_, h1, h2, rfl⟩))
    refine ⟨fun A w9 hB9 h => step_pick h (by kernel_rfl) _ _ _ true rfl (by kernel_rfl) (by kernel_rfl), ?_⟩
    refine ⟨fun A w9 hB9 h => step_move h (by kernel_rfl) _ rfl (by kernel_rfl), ?_⟩
    refine ⟨fun A w9 hB9 h => step_move_old h (by kernel_rfl) 6 rfl (by kernel_rfl) (by rfl), ?_⟩
    refine ⟨fun A w9 hB9 h => step_bin h (by kernel_rfl) _ _ _ _ _ (.int .i64 0) (.int .i64 0) rfl (by kernel_rfl) (by kernel_rfl) (fun W => by kernel_rfl) (fun W => by kernel_rfl), ?_⟩
    refine ⟨fun A w9 hB9 h => step_pick h (by kernel_rfl) _ _ _ true rfl (by kernel_rfl) (by kernel_rfl), ?_⟩
    refine ⟨fun A w9 hB9 h => step_move h (by kernel_rfl) _ rfl (by kernel_rfl), ?_⟩
    refine ⟨fun A w9 hB9 h => step_move_old h (by kernel_rfl) 5 rfl (by kernel_rfl) (by rfl), ?_⟩
    refine ⟨fun A w9 hB9 h => step_move_old h (by kernel_rfl) 11 rfl (by kernel_rfl) (by rfl), ?_⟩
    refine ⟨fun A w9 hB9 h => step_call_con h (by kernel_rfl) 15 _ [.slice p44 3 cp44, .slice (some ⟨w41.heap.size, 0, none⟩) 3 3] rfl rfl (by kernel_rfl) (by rfl) (lsame_any _ _ 3 3 _ _ (([[0, 1], [0, 2], [1]] : List (List Int)).map pad5) (([[0, 1], [0, 2], [1]] : List (List Int)).map pad5) w9 (Lib.hid rfl) (Lib.hid rfl) (by omega) (by omega) (Lib.hid (R15.out.below hB9)) (Lib.hid (R13.out.below hB9)) true (Lib.hid (decide_eq_true rfl))), ?_⟩
    refine ⟨fun A w9 hB9 h => step_pick h (by kernel_rfl) _ _ _ true rfl (by kernel_rfl) (by kernel_rfl), ?_⟩
    refine ⟨fun A w9 hB9 h => step_move h (by kernel_rfl) _ rfl (by kernel_rfl), ?_⟩
    refine ⟨fun A w9 hB9 h => step_move_old h (by kernel_rfl) 8 rfl (by kernel_rfl) (by rfl), ?_⟩
    refine ⟨fun A w9 hB9 h => step_bin h (by kernel_rfl) _ _ _ _ _ (.int .i64 0) (.int .i64 0) rfl (by kernel_rfl) (by kernel_rfl) (fun W => by kernel_rfl) (fun W => by kernel_rfl), ?_⟩
    refine ⟨fun A w9 hB9 h => step_pick h (by kernel_rfl) _ _ _ true rfl (by kernel_rfl) (by kernel_rfl), ?_⟩
    refine ⟨fun A w9 hB9 h => step_move h (by kernel_rfl) _ rfl (by kernel_rfl), ?_⟩
    refine ⟨fun A w9 hB9 h => step_load h (by kernel_rfl) _ _ (.pointer (some ⟨w48.heap.size, 0, none⟩)) rfl (h.old 12 (by kernel_rfl) (by rfl)) (load5 (X12.out.below hB9)), ?_⟩
    refine ⟨fun A w9 hB9 h => step_slice h (by kernel_rfl) _ 3 _ _ [0, 1] rfl (by kernel_rfl) (by kernel_rfl) (by kernel_rfl) rfl (by decide) (by decide) (by kernel_rfl), ?_⟩
    refine ⟨fun A w9 hB9 h => step_call_sl h (by kernel_rfl) 35 _ [0, 1] 27 183 rfl rfl rfl (by kernel_rfl) (by kernel_rfl) rfl rfl (fun p hr => lx_2 p 2 0 1 w9 hr), ?_⟩
    refine ⟨fun A w9 hB9 h => step_bin h (by kernel_rfl) _ _ _ _ _ (.agg #[.int .i64 2, .int .i64 0, .int .i64 1, .int .i64 0, .int .i64 0]) (.agg #[.int .i64 2, .int .i64 0, .int .i64 1, .int .i64 0, .int .i64 0]) rfl (by kernel_rfl) (by kernel_rfl) (fun W => guard_look _ _ _ _ _ W) (fun W => (eql_look 2 0 1 0 0 2 0 1 0 0 W).trans (by rfl)), ?_⟩
    refine ⟨fun A w9 hB9 h => step_pick h (by kernel_rfl) _ _ _ true rfl (by kernel_rfl) (by kernel_rfl), ?_⟩
    refine ⟨fun A w9 hB9 h => step_move h (by kernel_rfl) _ rfl (by kernel_rfl), ?_⟩
    refine ⟨fun A w9 hB9 h => step_move_old h (by kernel_rfl) 14 rfl (by kernel_rfl) (by rfl), ?_⟩
    refine ⟨fun A w9 hB9 h => step_bin h (by kernel_rfl) _ _ _ _ _ (.int .i64 20) (.int .i64 20) rfl (by kernel_rfl) (by kernel_rfl) (fun W => by kernel_rfl) (fun W => by kernel_rfl), ?_⟩
    refine ⟨fun A w9 hB9 h => step_pick h (by kernel_rfl) _ _ _ true rfl (by kernel_rfl) (by kernel_rfl), ?_⟩
    refine ⟨fun A w9 hB9 h => step_move h (by kernel_rfl) _ rfl (by kernel_rfl), ?_⟩
    refine ⟨fun A w9 hB9 h => step_move_old h (by kernel_rfl) 16 rfl (by kernel_rfl) (by rfl), ?_⟩
    refine ⟨fun A w9 hB9 h => step_bin h (by kernel_rfl) _ _ _ _ _ (.int .i64 2) (.int .i64 2) rfl (by kernel_rfl) (by kernel_rfl) (fun W => by kernel_rfl) (fun W => by kernel_rfl), ?_⟩
    refine ⟨fun A w9 hB9 h => step_pick h (by kernel_rfl) _ _ _ true rfl (by kernel_rfl) (by kernel_rfl), ?_⟩
    refine ⟨fun A w9 hB9 h => step_assign h (by kernel_rfl) _ rfl (by kernel_rfl), trivial⟩
  case rest =>
    intro vs w99 hB9 hv
    replace B := Lib.hid (below_then B.out hB9)
    obtain ⟨v4, hv4⟩ : ∃ v, vs 4 = v := ⟨_, rfl⟩
    obtain ⟨v6, hv6⟩ : ∃ v, vs 6 = v := ⟨_, rfl⟩
    obtain ⟨v8, hv8⟩ : ∃ v, vs 8 = v := ⟨_, rfl⟩
    obtain ⟨v9, hv9⟩ : ∃ v, vs 9 = v := ⟨_, rfl⟩
    obtain ⟨v27, hv27⟩ : ∃ v, vs 27 = v := ⟨_, rfl⟩
    have q0 := hv 0 _ rfl
    have q1 := hv 1 _ rfl
    have q2 := hv 2 _ rfl
    have q3 := hv 3 _ rfl
    have q5 := hv 5 _ rfl
    have q7 := hv 7 _ rfl
    have q10 := hv 10 _ rfl
    have q11 := hv 11 _ rfl
    have q12 := hv 12 _ rfl
    have q13 := hv 13 _ rfl
    have q14 := hv 14 _ rfl
    have q15 := hv 15 _ rfl
    have q16 := hv 16 _ rfl
    have q17 := hv 17 _ rfl
    have q18 := hv 18 _ rfl
    have q19 := hv 19 _ rfl
    have q20 := hv 20 _ rfl
    have q21 := hv 21 _ rfl
    have q22 := hv 22 _ rfl
    have q23 := hv 23 _ rfl
    have q24 := hv 24 _ rfl
    have q25 := hv 25 _ rfl
    have q26 := hv 26 _ rfl
    have q28 := hv 28 _ rfl
    have q29 := hv 29 _ rfl
    have q30 := hv 30 _ rfl
    have q31 := hv 31 _ rfl
    have q32 := hv 32 _ rfl
    have q33 := hv 33 _ rfl
    have q34 := hv 34 _ rfl
    have q35 := hv 35 _ rfl
    have q36 := hv 36 _ rfl
    have q37 := hv 37 _ rfl
    have q38 := hv 38 _ rfl
    have q39 := hv 39 _ rfl
    simp only [Sp.Ok] at q0 q1 q2 q3 q5 q7 q10 q11 q12 q13 q14 q15 q16 q17 q18 q19 q20 q21 q22 q23 q24 q25 q26 q28 q29 q30 q31 q32 q33 q34 q35 q36 q37 q38 q39
    simp only [putAll, q0, q1, q2, q3, q5, q7, q10, q11, q12, q13, q14, q15, q16, q17, q18, q19, q20, q21, q22, q23, q24, q25, q26, q28, q29, q30, q31, q32, q33, q34, q35, q36, q37, q38, q39, hv4, hv6, hv8, hv9, hv27]
    clear hv hB9 q0 q1 q2 q3 q5 q7 q10 q11 q12 q13 q14 q15 q16 q17 q18 q19 q20 q21 q22 q23 q24 q25 q26 q28 q29 q30 q31 q32 q33 q34 q35 q36 q37 q38 q39 hv4 hv6 hv8 hv9 hv27
    go_wp2_with (fail)
    go_wp2_with (fail)
    go_at_call 9
    refine (awake_any _).mono ?_
    rintro e w101 ⟨rfl, hB⟩
    have hC := hB
    replace B := Lib.hid (below_then B.out hC)
    clear hB hC
    go_wp2_with (fail)
    go_at_call 11
    refine (pset_any 9 _ 0 0 (([] : List (List Int)).map pad5) _ (Lib.hid rfl) (by omega) (Lib.hid (Reads5.nil _ _)) 2 (Lib.hid (by rfl))).mono ?_
    rintro e w102 ⟨rfl, hB⟩
    have hC := hB
    replace B := Lib.hid (below_then B.out hC)
    clear hB hC
    go_wp2
    go_ret
    exact ⟨rfl, B.out⟩
end Go.Proofs.Ytdahaajfkjmflaa.s14

namespace Go.Proofs.Ytdahaajfkjmflaa.kit
set_option linter.unusedVariables false
set_option linter.unusedSimpArgs false
open Go.RowKit

theorem tmod_fix (n m : Int) (hm : 0 < m) : (if n.tmod m < 0 then n.tmod m + m else n.tmod m) = n % m := by
  have h1 := Int.tmod_eq_emod (a := n) (b := m)
  have h2 := Int.emod_nonneg n (by omega : m ≠ 0)
  have h3 := Int.emod_lt_of_pos n hm
  rw [h1]
  have ha : (m.natAbs : Int) = m := by omega
  split <;> split <;> omega
theorem mod_any (n m : Int) (h1 : -9223372036854775808 ≤ n) (h2 : n ≤ 9223372036854775807) (m1 : 1 ≤ m) (m2 : m ≤ 1000000000) (w : World) :
    Calls Try.prog 38 #[.int .i64 n, .int .i64 m] w fun e w' => e = .returned (.int .i64 (n % m)) ∧ w = w' := by
  have H := Lib.hid (tmod_fix n m (by omega))
  go_enter Try.func38, Try.ntmps38
  have hlo : -m ≤ n.tmod m := by
    have := H.out
    have h2 := Int.emod_nonneg n (by omega : m ≠ 0)
    split at this <;> omega
  go_wp2
  · have hl : n.tmod m < 0 := by assumption
    go_ret
    exact ⟨ret_int (by rw [← H.out, if_pos hl]), rfl⟩
  · have hl : 0 ≤ n.tmod m := by assumption
    go_ret
    exact ⟨ret_int (by rw [← H.out, if_neg (by omega)]), rfl⟩
end Go.Proofs.Ytdahaajfkjmflaa.kit
