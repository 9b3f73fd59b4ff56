/-
  Layer 13: the law of Join, Cut, Compare, Begins.
-/
import Derived.Test.YtddackdghphcnaaDoorS13AW
import Derived.Test.YtddackdghphcnaaDoorS13N
import Derived.Test.YtddackdghphcnaaDoorS13RE
namespace Go.Proofs.YtddackdghphcnaaDoor.s13
set_option linter.unusedVariables false
set_option linter.unusedSimpArgs false
set_option linter.unnecessarySimpa false
open Go.RowKit
open kit

set_option maxRecDepth 100000 in
set_option maxHeartbeats 4000000 in
theorem lookjoins_any (n a b c d n' a' b' c' d' k : Int) (w : World) : Calls Tryd.prog 4 #[.agg #[.int .i64 n, .int .i64 a, .int .i64 b, .int .i64 c, .int .i64 d], .agg #[.int .i64 n', .int .i64 a', .int .i64 b', .int .i64 c', .int .i64 d'], .int .i64 k] w fun e w' => e = .returned (.bool true) ∧ Below w.heap.size w w' := by
  obtain ⟨⟨⟨j0, j1, j2, j3, j4⟩, rj⟩, hj⟩ : ∃ y, joinE k (n, a, b, c, d) (n', a', b', c', d') = y := ⟨_, rfl⟩
  obtain ⟨⟨⟨q0, q1, q2, q3, q4⟩, rq⟩, hq⟩ : ∃ y, cutE (n, a, b, c, d) k = y := ⟨_, rfl⟩
  obtain ⟨⟨vm, rm⟩, hm⟩ : ∃ y, cmpE (n, a, b, c, d) (n', a', b', c', d') = y := ⟨_, rfl⟩
  obtain ⟨⟨vg, rg⟩, hg⟩ : ∃ y, begE (n, a, b, c, d) (n', a', b', c', d') = y := ⟨_, rfl⟩
  have HJ := Lib.hid hj
  have HC := Lib.hid hq
  have HM := Lib.hid hm
  have HG := Lib.hid hg
  clear hj hq hm hg
  have z1 : ∀ W, (binOp .neq 25 (.agg #[.int .i64 j0, .int .i64 j1, .int .i64 j2, .int .i64 j3, .int .i64 j4]) (.agg #[.int .i64 j0, .int .i64 j1, .int .i64 j2, .int .i64 j3, .int .i64 j4])).run Tryd.prog W = .ok (.bool false) W := fun W => by rw [neq_look, decide_eq_true ⟨rfl, rfl, rfl, rfl, rfl⟩]; rfl
  have z2 : ∀ W, (binOp .neq 25 (.agg #[.int .i64 q0, .int .i64 q1, .int .i64 q2, .int .i64 q3, .int .i64 q4]) (.agg #[.int .i64 q0, .int .i64 q1, .int .i64 q2, .int .i64 q3, .int .i64 q4])).run Tryd.prog W = .ok (.bool false) W := fun W => by rw [neq_look, decide_eq_true ⟨rfl, rfl, rfl, rfl, rfl⟩]; rfl
  have zg := guard_look
  go_enter Tryd.func4, Tryd.ntmps4
  go_wp2_with (first
    | (go_at_call 21; refine (pjoin_any k n a b c d n' a' b' c' d' _ _ _ HJ).mono ?_; rintro e w1 ⟨rfl, hB⟩; obtain ⟨X1, Y1, hB1⟩ := made2 hB; have B1 := Lib.hid hB1; have X1 := Lib.hid X1; have Y1 := Lib.hid Y1; clear hB hB1; obtain ⟨cX1_0, cX1_1, cX1_2, cX1_3, cX1_4⟩ := X1.out.cell5; have lX1 := X1.out.lt; obtain ⟨cY1_0, cY1_1, cY1_2, cY1_3, cY1_4⟩ := Y1.out.cell5; have lY1 := Y1.out.lt)
    | (go_at_call 22; refine (rjoin_any k n a b c d n' a' b' c' d' _ _ _ HJ).mono ?_; rintro e w2 ⟨rfl, hB⟩; have B2 := Lib.hid (below_on B1.out (Nat.le_refl _) (made1 hB).2); have X2 := Lib.hid ((X1.out.alloc _).below hB); have Y2 := Lib.hid ((Y1.out.alloc _).below hB); have J2 := Lib.hid (made1 hB).1; clear hB; obtain ⟨cX2_0, cX2_1, cX2_2, cX2_3, cX2_4⟩ := X2.out.cell5; have lX2 := X2.out.lt; obtain ⟨cY2_0, cY2_1, cY2_2, cY2_3, cY2_4⟩ := Y2.out.cell5; have lY2 := Y2.out.lt; clear X1 Y1 cX1_0 cX1_1 cX1_2 cX1_3 cX1_4 lX1 cY1_0 cY1_1 cY1_2 cY1_3 cY1_4 lY1)
    | (go_at_call 23; refine (pcut_any n a b c d k _ _ _ HC).mono ?_; rintro e w3 ⟨rfl, hB⟩; have B3 := Lib.hid (below_on B2.out (Nat.le_refl _) (made1 hB).2); have X3 := Lib.hid ((X2.out.alloc _).below hB); have Y3 := Lib.hid ((Y2.out.alloc _).below hB); have J3 := Lib.hid ((J2.out.alloc _).below hB); have G3 := Lib.hid (made1 hB).1; clear hB; obtain ⟨cX3_0, cX3_1, cX3_2, cX3_3, cX3_4⟩ := X3.out.cell5; have lX3 := X3.out.lt; obtain ⟨cY3_0, cY3_1, cY3_2, cY3_3, cY3_4⟩ := Y3.out.cell5; have lY3 := Y3.out.lt; clear X2 Y2 J2 cX2_0 cX2_1 cX2_2 cX2_3 cX2_4 lX2 cY2_0 cY2_1 cY2_2 cY2_3 cY2_4 lY2)
    | (go_at_call 24; refine (rcut_any n a b c d k _ _ _ HC).mono ?_; rintro e w4 ⟨rfl, hB⟩; have B4 := Lib.hid (below_on B3.out (Nat.le_refl _) (made1 hB).2); have X4 := Lib.hid ((X3.out.alloc _).below hB); have Y4 := Lib.hid ((Y3.out.alloc _).below hB); have J4 := Lib.hid ((J3.out.alloc _).below hB); have G4 := Lib.hid ((G3.out.alloc _).below hB); have C4 := Lib.hid (made1 hB).1; clear hB; obtain ⟨cX4_0, cX4_1, cX4_2, cX4_3, cX4_4⟩ := X4.out.cell5; have lX4 := X4.out.lt; obtain ⟨cY4_0, cY4_1, cY4_2, cY4_3, cY4_4⟩ := Y4.out.cell5; have lY4 := Y4.out.lt; obtain ⟨cJ4_0, cJ4_1, cJ4_2, cJ4_3, cJ4_4⟩ := J4.out.cell5; have lJ4 := J4.out.lt; obtain ⟨cG4_0, cG4_1, cG4_2, cG4_3, cG4_4⟩ := G4.out.cell5; have lG4 := G4.out.lt; obtain ⟨cC4_0, cC4_1, cC4_2, cC4_3, cC4_4⟩ := C4.out.cell5; have lC4 := C4.out.lt; clear X3 Y3 J3 G3 cX3_0 cX3_1 cX3_2 cX3_3 cX3_4 lX3 cY3_0 cY3_1 cY3_2 cY3_3 cY3_4 lY3)
    | (go_at_call 25; refine (pcompare_any n a b c d n' a' b' c' d' _ _ _ HM).mono ?_; rintro e w5 ⟨rfl, hB⟩; have B5 := Lib.hid (below_on B4.out (Nat.le_refl _) (made1 hB).2); have X5 := Lib.hid ((X4.out.alloc _).below hB); have Y5 := Lib.hid ((Y4.out.alloc _).below hB); have D5 := Lib.hid (made1 hB).1; clear hB; obtain ⟨cX5_0, cX5_1, cX5_2, cX5_3, cX5_4⟩ := X5.out.cell5; have lX5 := X5.out.lt; obtain ⟨cY5_0, cY5_1, cY5_2, cY5_3, cY5_4⟩ := Y5.out.cell5; have lY5 := Y5.out.lt; clear X4 Y4 cX4_0 cX4_1 cX4_2 cX4_3 cX4_4 lX4 cY4_0 cY4_1 cY4_2 cY4_3 cY4_4 lY4 cJ4_0 cJ4_1 cJ4_2 cJ4_3 cJ4_4 lJ4 cG4_0 cG4_1 cG4_2 cG4_3 cG4_4 lG4 cC4_0 cC4_1 cC4_2 cC4_3 cC4_4 lC4 J4 G4 C4)
    | (go_at_call 26; refine (rcompare_any n a b c d n' a' b' c' d' _ _ _ HM).mono ?_; rintro e w6 ⟨rfl, hB⟩; have B6 := Lib.hid (below_on B5.out (Nat.le_refl _) hB); have X6 := Lib.hid (X5.out.below hB); have Y6 := Lib.hid (Y5.out.below hB); clear hB; obtain ⟨cX6_0, cX6_1, cX6_2, cX6_3, cX6_4⟩ := X6.out.cell5; have lX6 := X6.out.lt; obtain ⟨cY6_0, cY6_1, cY6_2, cY6_3, cY6_4⟩ := Y6.out.cell5; have lY6 := Y6.out.lt; clear X5 Y5 cX5_0 cX5_1 cX5_2 cX5_3 cX5_4 lX5 cY5_0 cY5_1 cY5_2 cY5_3 cY5_4 lY5 D5)
    | (go_at_call 27; refine (pbegins_any n a b c d n' a' b' c' d' _ _ _ HG).mono ?_; rintro e w7 ⟨rfl, hB⟩; have B7 := Lib.hid (below_on B6.out (Nat.le_refl _) hB); have X7 := Lib.hid (X6.out.below hB); have Y7 := Lib.hid (Y6.out.below hB); clear hB; obtain ⟨cX7_0, cX7_1, cX7_2, cX7_3, cX7_4⟩ := X7.out.cell5; have lX7 := X7.out.lt; obtain ⟨cY7_0, cY7_1, cY7_2, cY7_3, cY7_4⟩ := Y7.out.cell5; have lY7 := Y7.out.lt; clear X6 Y6 cX6_0 cX6_1 cX6_2 cX6_3 cX6_4 lX6 cY6_0 cY6_1 cY6_2 cY6_3 cY6_4 lY6)
    | (go_at_call 28; refine (rbegins_any n a b c d n' a' b' c' d' _ _ _ HG).mono ?_; rintro e w8 ⟨rfl, hB⟩; have B8 := Lib.hid (below_on B7.out (Nat.le_refl _) hB); have X8 := Lib.hid (X7.out.below hB); have Y8 := Lib.hid (Y7.out.below hB); clear hB; clear X7 Y7 cX7_0 cX7_1 cX7_2 cX7_3 cX7_4 lX7 cY7_0 cY7_1 cY7_2 cY7_3 cY7_4 lY7)
    | (go_at_call 10; refine (awake_any _).mono ?_; rintro e w9 ⟨rfl, hB⟩; have B9 := Lib.hid (below_on B8.out (Nat.le_refl _) hB); have X9 := Lib.hid (X8.out.below hB); have Y9 := Lib.hid (Y8.out.below hB); clear hB; clear X8 Y8 ))
  go_ret
  exact ⟨rfl, B9.out⟩
end Go.Proofs.YtddackdghphcnaaDoor.s13
