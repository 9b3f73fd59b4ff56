/-
  Layer 13: what is known. Layer 13: the law of the order.
-/
import Derived.Test.YtddackdghphcnaaDoorG08
import Derived.Test.YtddackdghphcnaaDoorG09
import Derived.Test.YtddackdghphcnaaDoorG07
import Derived.Test.YtddackdghphcnaaDoorG10
import Derived.Test.YtddackdghphcnaaDoorG06
namespace Go.Proofs.YtddackdghphcnaaDoor.s13
set_option linter.unusedVariables false
set_option linter.unusedSimpArgs false
set_option linter.unnecessarySimpa false
open Go.RowKit
open kit

theorem reads_new2 (w : World) (o : Obj) (l : List Int) (t : TypeId) : ReadsI ((w.alloc o).alloc (.cells (l.map (Value.int .i64)).toArray t)) (some ⟨w.heap.size + 1, 0, none⟩) l := by
  have := reads_new (w.alloc o) l t
  rwa [size1] at this
set_option maxRecDepth 100000 in
set_option maxHeartbeats 2000000 in
theorem lookknown_any (w : World) (T0 : Hid (Tab w)) : Calls Tryd.prog 6 #[] w fun e w' => e = .returned (.bool true) ∧ Below w.heap.size w w' := by
  go_enter Tryd.func6, Tryd.ntmps6
  go_wp2_with fail
  refine (of_any _ _ [8] _ (by simp) (reads_new _ _ _) (0, 0, 0, 0, 0) 14 (Lib.hid (by decide))).mono ?_
  rintro e v1 ⟨rfl, hB⟩
  have hBW : Below w.heap.size w v1 := (made1 hB).2
  have B1 := Lib.hid hBW
  have T1 := Lib.hid (T0.out.below hBW)
  clear hB hBW T0
  go_wp2_with fail
  refine (of_any _ _ [0, 0, 0, 0, 0] _ (by simp) (reads_new2 _ _ _ _) (0, 0, 0, 0, 0) 6 (Lib.hid (by decide))).mono ?_
  rintro e v2 ⟨rfl, hB⟩
  have hBW : Below v1.heap.size v1 v2 := (made2 hB).2.2
  have B2 := Lib.hid (below_on B1.out (Nat.le_refl _) hBW)
  have T2 := Lib.hid (T1.out.below hBW)
  clear hB hBW T1 B1
  go_wp2_with fail
  refine (of_any _ _ [8, 0, 0, 0, 0] _ (by simp) (reads_new2 _ _ _ _) (0, 0, 0, 0, 0) 6 (Lib.hid (by decide))).mono ?_
  rintro e v3 ⟨rfl, hB⟩
  have hBW : Below v2.heap.size v2 v3 := (made2 hB).2.2
  have B3 := Lib.hid (below_on B2.out (Nat.le_refl _) hBW)
  have T3 := Lib.hid (T2.out.below hBW)
  clear hB hBW T2 B2
  go_wp2_with fail
  refine (lof_any _ _ [0] _ (by simp) (Lib.hid (reads_new2 _ _ _ _)) 1 0 0 0 0 0 (Lib.hid (by decide))).mono ?_
  rintro e v4 ⟨rfl, hB⟩
  have hBW : Below v3.heap.size v3 v4 := (made2 hB).2.2
  have B4 := Lib.hid (below_on B3.out (Nat.le_refl _) hBW)
  have T4 := Lib.hid (T3.out.below hBW)
  clear hB hBW T3 B3
  go_wp2_with fail
  refine (lof_any _ _ [1] _ (by simp) (Lib.hid (reads_new _ _ _)) 1 1 0 0 0 0 (Lib.hid (by decide))).mono ?_
  rintro e v5 ⟨rfl, hB⟩
  have hBW : Below v4.heap.size v4 v5 := (made1 hB).2
  have B5 := Lib.hid (below_on B4.out (Nat.le_refl _) hBW)
  have T5 := Lib.hid (T4.out.below hBW)
  clear hB hBW T4 B4
  go_wp2_with fail
  refine (pjoin_any 0 1 0 0 0 0 1 1 0 0 0 _ (0, 0, 0, 0, 0) 2 (Lib.hid (by decide))).mono ?_
  rintro e v6 ⟨rfl, hB⟩
  have hBW : Below v5.heap.size v5 v6 := hB
  have B6 := Lib.hid (below_on B5.out (Nat.le_refl _) hBW)
  have T6 := Lib.hid (T5.out.below hBW)
  clear hB hBW T5 B5
  go_wp2_with fail
  refine (lof_any _ _ [0, 1, 2] _ (by simp) (Lib.hid (reads_new2 _ _ _ _)) 3 0 1 2 0 0 (Lib.hid (by decide))).mono ?_
  rintro e v7 ⟨rfl, hB⟩
  have hBW : Below v6.heap.size v6 v7 := (made2 hB).2.2
  have B7 := Lib.hid (below_on B6.out (Nat.le_refl _) hBW)
  have T7 := Lib.hid (T6.out.below hBW)
  clear hB hBW T6 B6
  go_wp2_with fail
  refine (pcut_any 3 0 1 2 0 2 _ (2, 0, 1, 0, 0) 0 (Lib.hid (by decide))).mono ?_
  rintro e v8 ⟨rfl, hB⟩
  have hBW : Below v7.heap.size v7 v8 := hB
  have B8 := Lib.hid (below_on B7.out (Nat.le_refl _) hBW)
  have T8 := Lib.hid (T7.out.below hBW)
  clear hB hBW T7 B7
  go_wp2_with fail
  refine (lof_any none 0 [] _ (by simp) (Lib.hid (fun i hi => by simp at hi)) 0 0 0 0 0 0 (Lib.hid (by decide))).mono ?_
  rintro e v9 ⟨rfl, hB⟩
  have hBW : Below v8.heap.size v8 v9 := (made1 hB).2
  have C_9 := Lib.hid ((made1 hB).1)
  have B9 := Lib.hid (below_on B8.out (Nat.le_refl _) hBW)
  have T9 := Lib.hid (T8.out.below hBW)
  clear hB hBW T8 B8
  go_wp2_with fail
  refine (ptext_any 0 0 0 0 0 _ ⟨#[45]⟩ 0 (Lib.hid (by decide))).mono ?_
  rintro e v10 ⟨rfl, hB⟩
  have hBW : Below v9.heap.size v9 v10 := hB
  have B10 := Lib.hid (below_on B9.out (Nat.le_refl _) hBW)
  have T10 := Lib.hid (T9.out.below hBW)
  have C_10 := Lib.hid (C_9.out.below hBW)
  clear hB hBW T9 C_9 B9
  go_wp2_with fail
  refine (pall_any 2 1 _ [(0, 0, 0, 0, 0), (1, 0, 0, 0, 0), (1, 1, 0, 0, 0)] 0 (Lib.hid (by decide))).mono ?_
  rintro e v11 ⟨aP, cP, rfl, hR, hB⟩
  have hBW : Below v10.heap.size v10 v11 := hB
  have B11 := Lib.hid (below_on B10.out (Nat.le_refl _) hBW)
  have T11 := Lib.hid (T10.out.below hBW)
  have C_11 := Lib.hid (C_10.out.below hBW)
  have P_11 := Lib.hid hR
  clear hR
  clear hB hBW T10 C_10 B10
  go_wp2_with fail
  refine (pall_any 1 2 _ [(0, 0, 0, 0, 0), (1, 0, 0, 0, 0), (2, 0, 0, 0, 0)] 0 (Lib.hid (by decide))).mono ?_
  rintro e v12 ⟨aQ, cQ, rfl, hR, hB⟩
  have hBW : Below v11.heap.size v11 v12 := hB
  have B12 := Lib.hid (below_on B11.out (Nat.le_refl _) hBW)
  have T12 := Lib.hid (T11.out.below hBW)
  have C_12 := Lib.hid (C_11.out.below hBW)
  have P_12 := Lib.hid (P_11.out.below hBW)
  have Q_12 := Lib.hid hR
  clear hR
  clear hB hBW T11 C_11 P_11 B11
  go_wp2_with fail
  refine (pall_any 9 1 _ [] 2 (Lib.hid (by decide))).mono ?_
  rintro e v13 ⟨aZ, cZ, rfl, hR, hB⟩
  have hBW : Below v12.heap.size v12 v13 := hB
  have B13 := Lib.hid (below_on B12.out (Nat.le_refl _) hBW)
  have T13 := Lib.hid (T12.out.below hBW)
  have C_13 := Lib.hid (C_12.out.below hBW)
  have P_13 := Lib.hid (P_12.out.below hBW)
  have Q_13 := Lib.hid (Q_12.out.below hBW)
  clear hB hBW T12 C_12 P_12 Q_12 B12
  clear hR
  go_wp2_with fail
  refine (lof_any _ _ [1] _ (by simp) (Lib.hid (reads_new _ _ _)) 1 1 0 0 0 0 (Lib.hid (by decide))).mono ?_
  rintro e v14 ⟨rfl, hB⟩
  have hBW : Below v13.heap.size v13 v14 := (made1 hB).2
  have B14 := Lib.hid (below_on B13.out (Nat.le_refl _) hBW)
  have T14 := Lib.hid (T13.out.below hBW)
  have C_14 := Lib.hid (C_13.out.below hBW)
  have P_14 := Lib.hid (P_13.out.below hBW)
  have Q_14 := Lib.hid (Q_13.out.below hBW)
  clear hB hBW T13 C_13 P_13 Q_13 B13
  go_wp2_with fail
  refine (pnumber_any 1 1 0 0 0 1 _ T14 0 14 (Lib.hid (by decide))).mono ?_
  rintro e v15 ⟨rfl, hB⟩
  have hBW : Below v14.heap.size v14 v15 := hB
  have B15 := Lib.hid (below_on B14.out (Nat.le_refl _) hBW)
  have T15 := Lib.hid (T14.out.below hBW)
  have C_15 := Lib.hid (C_14.out.below hBW)
  have P_15 := Lib.hid (P_14.out.below hBW)
  have Q_15 := Lib.hid (Q_14.out.below hBW)
  clear hB hBW T14 C_14 P_14 Q_14 B14
  go_wp2_with fail
  refine (pnumbered_any 16 2 _ T15 (1, 1, 0, 0, 0) 0 (Lib.hid (by decide))).mono ?_
  rintro e v16 ⟨rfl, hB⟩
  have hBW : Below v15.heap.size v15 v16 := hB
  have B16 := Lib.hid (below_on B15.out (Nat.le_refl _) hBW)
  have T16 := Lib.hid (T15.out.below hBW)
  have C_16 := Lib.hid (C_15.out.below hBW)
  have P_16 := Lib.hid (P_15.out.below hBW)
  have Q_16 := Lib.hid (Q_15.out.below hBW)
  clear hB hBW T15 C_15 P_15 Q_15 B15
  go_wp2_with fail
  refine (pnumbered_any 31 2 _ (Lib.hid (T16.out.below ((Below.refl _ _).alloc (Nat.le_refl _) _))) (0, 0, 0, 0, 0) 2 (Lib.hid (by decide))).mono ?_
  rintro e v17 ⟨rfl, hB⟩
  have hBW : Below v16.heap.size v16 v17 := (made1 hB).2
  have D_17 := Lib.hid ((made1 hB).1)
  have B17 := Lib.hid (below_on B16.out (Nat.le_refl _) hBW)
  have T17 := Lib.hid (T16.out.below hBW)
  have C_17 := Lib.hid (C_16.out.below hBW)
  have P_17 := Lib.hid (P_16.out.below hBW)
  have Q_17 := Lib.hid (Q_16.out.below hBW)
  clear hB hBW T16 C_16 P_16 Q_16 B16
  obtain ⟨bP, oP, hP0, _, _⟩ := P_17.out 0 (by decide)
  subst hP0
  obtain ⟨bQ, oQ, hQ0, _, _⟩ := Q_17.out 0 (by decide)
  subst hQ0
  have C_r0 := Lib.hid (C_17.out.alloc (.cells #[.int .i64 0, .int .i64 0, .int .i64 0, .int .i64 0, .int .i64 0] 25))
  have P_r0 := Lib.hid (P_17.out.alloc (.cells #[.int .i64 0, .int .i64 0, .int .i64 0, .int .i64 0, .int .i64 0] 25))
  have Q_r0 := Lib.hid (Q_17.out.alloc (.cells #[.int .i64 0, .int .i64 0, .int .i64 0, .int .i64 0, .int .i64 0] 25))
  have D_r0 := Lib.hid (D_17.out.alloc (.cells #[.int .i64 0, .int .i64 0, .int .i64 0, .int .i64 0, .int .i64 0] 25))
  have T_r0 := Lib.hid (T17.out.below ((Below.refl v17.heap.size v17).alloc (Nat.le_refl _) (.cells #[.int .i64 0, .int .i64 0, .int .i64 0, .int .i64 0, .int .i64 0] 25)))
  go_wp2_with fail
  refine wp_region_drawn [.con (.int .i64 14), .con (.bool true), .con (.bool true), .con (.int .i64 6), .con (.bool true), .con (.bool true), .con (.bool true), .con (.int .i64 6), .con (.bool true), .con (.bool true), .con (.bool true), .con (.agg #[.int .i64 0, .int .i64 0, .int .i64 0, .int .i64 0, .int .i64 0]), .con (.agg #[.int .i64 0, .int .i64 0, .int .i64 0, .int .i64 0, .int .i64 0]), .con (.bool true), .con (.bool true), .con (.bool true), SlI [0], .con (.agg #[.int .i64 1, .int .i64 0, .int .i64 0, .int .i64 0, .int .i64 0]), .con (.agg #[.int .i64 0, .int .i64 0, .int .i64 0, .int .i64 0, .int .i64 0]), SlI [0], .con (.agg #[.int .i64 1, .int .i64 0, .int .i64 0, .int .i64 0, .int .i64 0]), .con (.bool true), .con (.bool true), .con (.bool true), .con (.int .i64 2), .con (.bool true), .con (.bool true), .con (.bool true), SlI [0], .con (.agg #[.int .i64 1, .int .i64 0, .int .i64 0, .int .i64 0, .int .i64 0]), SlI [0, 1], .con (.agg #[.int .i64 2, .int .i64 0, .int .i64 1, .int .i64 0, .int .i64 0]), .con (.bool true), .con (.bool true), .con (.bool true), SlI [0, 1], .con (.agg #[.int .i64 2, .int .i64 0, .int .i64 1, .int .i64 0, .int .i64 0]), SlI [0], .con (.agg #[.int .i64 1, .int .i64 0, .int .i64 0, .int .i64 0, .int .i64 0]), .con (.bool true), .con (.bool true), .con (.bool true), .con (.int .i64 0), .con (.bool true), .con (.bool true), .con (.bool true), .con (.agg #[.int .i64 2, .int .i64 0, .int .i64 1, .int .i64 0, .int .i64 0]), SlI [0, 1], .con (.agg #[.int .i64 2, .int .i64 0, .int .i64 1, .int .i64 0, .int .i64 0]), .con (.bool true), .con (.bool true), .con (.bool true)] (by kernel_rfl) (by kernel_rfl) ?k13 ?s13 ?f13
  case k13 =>
    refine spS_keeps ?_
    intro s hs
    simp only [List.mem_cons, List.not_mem_nil, or_false] at hs
    rcases hs with rfl | rfl | rfl | rfl | rfl | rfl | rfl | rfl | rfl | rfl | rfl | rfl | rfl | rfl | rfl | rfl | rfl | rfl | rfl | rfl | rfl | rfl | rfl | rfl | rfl | rfl | rfl | rfl | rfl | rfl | rfl | rfl | rfl | rfl | rfl | rfl | rfl | rfl | rfl | rfl | rfl | rfl | rfl | rfl | rfl | rfl | rfl | rfl | rfl | rfl | rfl | rfl <;> first | exact .inl ⟨_, rfl⟩ | exact .inr ⟨_, rfl⟩
  case s13 =>
    refine ⟨fun A w9 hB h => step_move_old h (by kernel_rfl) 2 rfl (by kernel_rfl) (by rfl), ?_⟩
    refine ⟨fun A w9 hB h => step_bin h (by kernel_rfl) _ _ _ _ _ (.int .i64 14) (.int .i64 14) rfl (by kernel_rfl) (by kernel_rfl) (fun W => by kernel_rfl) (fun W => by kernel_rfl), ?_⟩
    refine ⟨fun A w9 hB h => step_move h (by kernel_rfl) _ rfl (by kernel_rfl), ?_⟩
    refine ⟨fun A w9 hB h => step_move_old h (by kernel_rfl) 4 rfl (by kernel_rfl) (by rfl), ?_⟩
    refine ⟨fun A w9 hB h => step_bin h (by kernel_rfl) _ _ _ _ _ (.int .i64 6) (.int .i64 6) rfl (by kernel_rfl) (by kernel_rfl) (fun W => by kernel_rfl) (fun W => by kernel_rfl), ?_⟩
    refine ⟨fun A w9 hB h => step_pick h (by kernel_rfl) _ _ _ true rfl (by kernel_rfl) (by kernel_rfl), ?_⟩
    refine ⟨fun A w9 hB h => step_move h (by kernel_rfl) _ rfl (by kernel_rfl), ?_⟩
    refine ⟨fun A w9 hB h => step_move_old h (by kernel_rfl) 6 rfl (by kernel_rfl) (by rfl), ?_⟩
    refine ⟨fun A w9 hB h => step_bin h (by kernel_rfl) _ _ _ _ _ (.int .i64 6) (.int .i64 6) rfl (by kernel_rfl) (by kernel_rfl) (fun W => by kernel_rfl) (fun W => by kernel_rfl), ?_⟩
    refine ⟨fun A w9 hB h => step_pick h (by kernel_rfl) _ _ _ true rfl (by kernel_rfl) (by kernel_rfl), ?_⟩
    refine ⟨fun A w9 hB h => step_move h (by kernel_rfl) _ rfl (by kernel_rfl), ?_⟩
    refine ⟨fun A w9 hB h => step_call_con h (by kernel_rfl) _ _ [.slice none 0 0] rfl rfl (by kernel_rfl) (by kernel_rfl) (lof_any none 0 [] w9 (by simp) (Lib.hid (fun i hi => by simp at hi)) 0 0 0 0 0 0 (Lib.hid (by decide))), ?_⟩
    refine ⟨fun A w9 hB h => step_build h (by kernel_rfl) _ _ [] _ rfl (by kernel_rfl) (by kernel_rfl), ?_⟩
    refine ⟨fun A w9 hB h => step_bin h (by kernel_rfl) _ _ _ _ _ (.agg #[.int .i64 0, .int .i64 0, .int .i64 0, .int .i64 0, .int .i64 0]) (.agg #[.int .i64 0, .int .i64 0, .int .i64 0, .int .i64 0, .int .i64 0]) rfl (by kernel_rfl) (by kernel_rfl) (fun W => guard_look _ _ _ _ _ W) (fun W => (eql_look 0 0 0 0 0 0 0 0 0 0 W).trans (by rfl)), ?_⟩
    refine ⟨fun A w9 hB h => step_pick h (by kernel_rfl) _ _ _ true rfl (by kernel_rfl) (by kernel_rfl), ?_⟩
    refine ⟨fun A w9 hB h => step_move h (by kernel_rfl) _ rfl (by kernel_rfl), ?_⟩
    refine ⟨fun A w9 hB h => step_slice h (by kernel_rfl) _ 3 _ _ [0] rfl (by kernel_rfl) (by kernel_rfl) (by kernel_rfl) rfl (by decide) (by decide) (by kernel_rfl), ?_⟩
    refine ⟨fun A w9 hB h => step_call_sl h (by kernel_rfl) _ _ [0] 16 105 rfl rfl rfl (by kernel_rfl) (by kernel_rfl) rfl rfl (fun p hr => lof_any p 1 [0] w9 (by simp) (Lib.hid hr) 1 0 0 0 0 0 (Lib.hid (by decide))), ?_⟩
    refine ⟨fun A w9 hB h => step_call_con h (by kernel_rfl) _ _ [.slice none 0 0] rfl rfl (by kernel_rfl) (by kernel_rfl) (lof_any none 0 [] w9 (by simp) (Lib.hid (fun i hi => by simp at hi)) 0 0 0 0 0 0 (Lib.hid (by decide))), ?_⟩
    refine ⟨fun A w9 hB h => step_slice h (by kernel_rfl) _ 3 _ _ [0] rfl (by kernel_rfl) (by kernel_rfl) (by kernel_rfl) rfl (by decide) (by decide) (by kernel_rfl), ?_⟩
    refine ⟨fun A w9 hB h => step_call_sl h (by kernel_rfl) _ _ [0] 19 108 rfl rfl rfl (by kernel_rfl) (by kernel_rfl) rfl rfl (fun p hr => lof_any p 1 [0] w9 (by simp) (Lib.hid hr) 1 0 0 0 0 0 (Lib.hid (by decide))), ?_⟩
    refine ⟨fun A w9 hB h => step_call_con h (by kernel_rfl) _ _ [.int .i64 4, .agg #[.int .i64 1, .int .i64 0, .int .i64 0, .int .i64 0, .int .i64 0], .agg #[.int .i64 0, .int .i64 0, .int .i64 0, .int .i64 0, .int .i64 0], .agg #[.int .i64 1, .int .i64 0, .int .i64 0, .int .i64 0, .int .i64 0]] rfl rfl (by kernel_rfl) (by kernel_rfl) (ljoins_any 4 1 0 0 0 0 0 0 0 0 0 1 0 0 0 0 1 0 0 0 0 0 w9 (Lib.hid (by decide)) rfl true (by decide)), ?_⟩
    refine ⟨fun A w9 hB h => step_pick h (by kernel_rfl) _ _ _ true rfl (by kernel_rfl) (by kernel_rfl), ?_⟩
    refine ⟨fun A w9 hB h => step_move h (by kernel_rfl) _ rfl (by kernel_rfl), ?_⟩
    refine ⟨fun A w9 hB h => step_move_old h (by kernel_rfl) 8 rfl (by kernel_rfl) (by rfl), ?_⟩
    refine ⟨fun A w9 hB h => step_bin h (by kernel_rfl) _ _ _ _ _ (.int .i64 2) (.int .i64 2) rfl (by kernel_rfl) (by kernel_rfl) (fun W => by kernel_rfl) (fun W => by kernel_rfl), ?_⟩
    refine ⟨fun A w9 hB h => step_pick h (by kernel_rfl) _ _ _ true rfl (by kernel_rfl) (by kernel_rfl), ?_⟩
    refine ⟨fun A w9 hB h => step_move h (by kernel_rfl) _ rfl (by kernel_rfl), ?_⟩
    refine ⟨fun A w9 hB h => step_slice h (by kernel_rfl) _ 3 _ _ [0] rfl (by kernel_rfl) (by kernel_rfl) (by kernel_rfl) rfl (by decide) (by decide) (by kernel_rfl), ?_⟩
    refine ⟨fun A w9 hB h => step_call_sl h (by kernel_rfl) _ _ [0] 28 117 rfl rfl rfl (by kernel_rfl) (by kernel_rfl) rfl rfl (fun p hr => lof_any p 1 [0] w9 (by simp) (Lib.hid hr) 1 0 0 0 0 0 (Lib.hid (by decide))), ?_⟩
    refine ⟨fun A w9 hB h => step_slice h (by kernel_rfl) _ 3 _ _ [0, 1] rfl (by kernel_rfl) (by kernel_rfl) (by kernel_rfl) rfl (by decide) (by decide) (by kernel_rfl), ?_⟩
    refine ⟨fun A w9 hB h => step_call_sl h (by kernel_rfl) _ _ [0, 1] 30 119 rfl rfl rfl (by kernel_rfl) (by kernel_rfl) rfl rfl (fun p hr => lof_any p 2 [0, 1] w9 (by simp) (Lib.hid hr) 2 0 1 0 0 0 (Lib.hid (by decide))), ?_⟩
    refine ⟨fun A w9 hB h => step_call_con h (by kernel_rfl) _ _ [.agg #[.int .i64 1, .int .i64 0, .int .i64 0, .int .i64 0, .int .i64 0], .agg #[.int .i64 2, .int .i64 0, .int .i64 1, .int .i64 0, .int .i64 0], .bool true] rfl rfl (by kernel_rfl) (by kernel_rfl) (lbegins_any 1 0 0 0 0 2 0 1 0 0 w9 true true 0 rfl (Lib.hid (by decide)) true (by decide)), ?_⟩
    refine ⟨fun A w9 hB h => step_pick h (by kernel_rfl) _ _ _ true rfl (by kernel_rfl) (by kernel_rfl), ?_⟩
    refine ⟨fun A w9 hB h => step_move h (by kernel_rfl) _ rfl (by kernel_rfl), ?_⟩
    refine ⟨fun A w9 hB h => step_slice h (by kernel_rfl) _ 3 _ _ [0, 1] rfl (by kernel_rfl) (by kernel_rfl) (by kernel_rfl) rfl (by decide) (by decide) (by kernel_rfl), ?_⟩
    refine ⟨fun A w9 hB h => step_call_sl h (by kernel_rfl) _ _ [0, 1] 35 124 rfl rfl rfl (by kernel_rfl) (by kernel_rfl) rfl rfl (fun p hr => lof_any p 2 [0, 1] w9 (by simp) (Lib.hid hr) 2 0 1 0 0 0 (Lib.hid (by decide))), ?_⟩
    refine ⟨fun A w9 hB h => step_slice h (by kernel_rfl) _ 3 _ _ [0] rfl (by kernel_rfl) (by kernel_rfl) (by kernel_rfl) rfl (by decide) (by decide) (by kernel_rfl), ?_⟩
    refine ⟨fun A w9 hB h => step_call_sl h (by kernel_rfl) _ _ [0] 37 126 rfl rfl rfl (by kernel_rfl) (by kernel_rfl) rfl rfl (fun p hr => lof_any p 1 [0] w9 (by simp) (Lib.hid hr) 1 0 0 0 0 0 (Lib.hid (by decide))), ?_⟩
    refine ⟨fun A w9 hB h => step_call_con h (by kernel_rfl) _ _ [.agg #[.int .i64 2, .int .i64 0, .int .i64 1, .int .i64 0, .int .i64 0], .agg #[.int .i64 1, .int .i64 0, .int .i64 0, .int .i64 0, .int .i64 0], .bool false] rfl rfl (by kernel_rfl) (by kernel_rfl) (lbegins_any 2 0 1 0 0 1 0 0 0 0 w9 false false 0 rfl (Lib.hid (by decide)) true (by decide)), ?_⟩
    refine ⟨fun A w9 hB h => step_pick h (by kernel_rfl) _ _ _ true rfl (by kernel_rfl) (by kernel_rfl), ?_⟩
    refine ⟨fun A w9 hB h => step_move h (by kernel_rfl) _ rfl (by kernel_rfl), ?_⟩
    refine ⟨fun A w9 hB h => step_move_old h (by kernel_rfl) 10 rfl (by kernel_rfl) (by rfl), ?_⟩
    refine ⟨fun A w9 hB h => step_bin h (by kernel_rfl) _ _ _ _ _ (.int .i64 0) (.int .i64 0) rfl (by kernel_rfl) (by kernel_rfl) (fun W => by kernel_rfl) (fun W => by kernel_rfl), ?_⟩
    refine ⟨fun A w9 hB h => step_pick h (by kernel_rfl) _ _ _ true rfl (by kernel_rfl) (by kernel_rfl), ?_⟩
    refine ⟨fun A w9 hB h => step_move h (by kernel_rfl) _ rfl (by kernel_rfl), ?_⟩
    refine ⟨fun A w9 hB h => step_load h (by kernel_rfl) _ _ (.pointer (some ⟨v8.heap.size, 0, none⟩)) rfl (h.old 9 (by kernel_rfl) (by rfl)) (load5 (C_r0.out.below hB)), ?_⟩
    refine ⟨fun A w9 hB h => step_slice h (by kernel_rfl) _ 3 _ _ [0, 1] rfl (by kernel_rfl) (by kernel_rfl) (by kernel_rfl) rfl (by decide) (by decide) (by kernel_rfl), ?_⟩
    refine ⟨fun A w9 hB h => step_call_sl h (by kernel_rfl) _ _ [0, 1] 47 136 rfl rfl rfl (by kernel_rfl) (by kernel_rfl) rfl rfl (fun p hr => lof_any p 2 [0, 1] w9 (by simp) (Lib.hid hr) 2 0 1 0 0 0 (Lib.hid (by decide))), ?_⟩
    refine ⟨fun A w9 hB h => step_bin h (by kernel_rfl) _ _ _ _ _ (.agg #[.int .i64 2, .int .i64 0, .int .i64 1, .int .i64 0, .int .i64 0]) (.agg #[.int .i64 2, .int .i64 0, .int .i64 1, .int .i64 0, .int .i64 0]) rfl (by kernel_rfl) (by kernel_rfl) (fun W => guard_look _ _ _ _ _ W) (fun W => (eql_look 2 0 1 0 0 2 0 1 0 0 W).trans (by rfl)), ?_⟩
    refine ⟨fun A w9 hB h => step_pick h (by kernel_rfl) _ _ _ true rfl (by kernel_rfl) (by kernel_rfl), ?_⟩
    refine ⟨fun A w9 hB h => step_assign h (by kernel_rfl) _ rfl (by kernel_rfl), ?_⟩
    exact trivial
  case f13 =>
    intro A1 u1 hB hb
    have hBW : Below v17.heap.size v17 u1 := (made1 hB).2
    have G1 := Lib.hid (below_on B17.out (Nat.le_refl _) hBW)
    have C_r1 := Lib.hid (C_r0.out.below hB)
    have P_r1 := Lib.hid (P_r0.out.below hB)
    have Q_r1 := Lib.hid (Q_r0.out.below hB)
    have D_r1 := Lib.hid (D_r0.out.below hB)
    have T_r1 := Lib.hid (T_r0.out.below hB)
    have e1_11 : A1.eval (.tmp 11) = .string ⟨#[45]⟩ := (hb.old 11 (by kernel_rfl)).trans (by rfl)
    have e1_12 : A1.eval (.tmp 12) = .int .i64 0 := (hb.old 12 (by kernel_rfl)).trans (by rfl)
    have e1_13 : A1.eval (.tmp 13) = .slice (some ⟨bP, oP, none⟩) 3 cP := (hb.old 13 (by kernel_rfl)).trans (by rfl)
    have e1_14 : A1.eval (.tmp 14) = .int .i64 0 := (hb.old 14 (by kernel_rfl)).trans (by rfl)
    have e1_15 : A1.eval (.tmp 15) = .slice (some ⟨bQ, oQ, none⟩) 3 cQ := (hb.old 15 (by kernel_rfl)).trans (by rfl)
    have e1_16 : A1.eval (.tmp 16) = .int .i64 0 := (hb.old 16 (by kernel_rfl)).trans (by rfl)
    have e1_18 : A1.eval (.tmp 18) = .int .i64 2 := (hb.old 18 (by kernel_rfl)).trans (by rfl)
    have e1_20 : A1.eval (.tmp 20) = .int .i64 14 := (hb.old 20 (by kernel_rfl)).trans (by rfl)
    have e1_21 : A1.eval (.tmp 21) = .pointer (some ⟨v16.heap.size, 0, none⟩) := (hb.old 21 (by kernel_rfl)).trans (by rfl)
    have e1_22 : A1.eval (.tmp 22) = .int .i64 0 := (hb.old 22 (by kernel_rfl)).trans (by rfl)
    have e1_24 : A1.eval (.tmp 24) = .int .i64 2 := (hb.old 24 (by kernel_rfl)).trans (by rfl)
    have e1_25 : A1.eval (.tmp 25) = .bool true := hb.con 51 25 _ (by kernel_rfl) (by kernel_rfl)
    have z1 : A1.tmps.size = 272 := hb.size.trans (by rfl)
    have q1 : A1.defers = [] := hb.defers.trans (by rfl)
    clear hB hb hBW
    rename_i K hK
    refine hK _ _ ?_
    clear hK
    refine wp_seq ?_
    refine wp_region_inText [.con (.int .i64 0), .con (.bool true), .con (.bool true), .con (.string ⟨#[45]⟩), .con (.bool true), .con (.bool true), .con (.bool true), .con (.bool true), .con (.bool true), .con (.bool true), .con (.bool true), .con (.bool true), .con (.bool true), .con (.bool true), .con (.bool true), .con (.bool true), .con (.bool true), .con (.bool true), .con (.bool true), .con (.bool true), .con (.bool true), .con (.bool true)] (by rw [z1]; kernel_rfl) ?k14 ?s14 ?f14
    case k14 =>
      refine spS_keeps ?_
      intro s hs
      simp only [List.mem_cons, List.not_mem_nil, or_false] at hs
      rcases hs with rfl | rfl | rfl | rfl | rfl | rfl | rfl | rfl | rfl | rfl | rfl | rfl | rfl | rfl | rfl | rfl | rfl | rfl | rfl | rfl | rfl | rfl <;> first | exact .inl ⟨_, rfl⟩ | exact .inr ⟨_, rfl⟩
    case s14 =>
      refine ⟨fun A w9 hB h => step_move_old h (by kernel_rfl) 12 rfl (by kernel_rfl) (e1_12), ?_⟩
      refine ⟨fun A w9 hB h => step_bin h (by kernel_rfl) _ _ _ _ _ (.int .i64 0) (.int .i64 0) rfl (by kernel_rfl) (by kernel_rfl) (fun W => by kernel_rfl) (fun W => by kernel_rfl), ?_⟩
      refine ⟨fun A w9 hB h => step_move h (by kernel_rfl) _ rfl (by kernel_rfl), ?_⟩
      refine ⟨fun A w9 hB h => step_move_old h (by kernel_rfl) 11 rfl (by kernel_rfl) (e1_11), ?_⟩
      refine ⟨fun A w9 hB h => step_bin h (by kernel_rfl) _ _ _ _ _ (.string ⟨#[45]⟩) (.string ⟨#[45]⟩) rfl (by kernel_rfl) (by kernel_rfl) (fun W => by kernel_rfl) (fun W => by kernel_rfl), ?_⟩
      refine ⟨fun A w9 hB h => step_pick h (by kernel_rfl) _ _ _ true rfl (by kernel_rfl) (by kernel_rfl), ?_⟩
      refine ⟨fun A w9 hB h => step_move h (by kernel_rfl) _ rfl (by kernel_rfl), ?_⟩
      refine ⟨fun A w9 hB h => step_call_con h (by kernel_rfl) _ _ [.string ⟨#[45]⟩, .int .i64 0] rfl rfl (by kernel_rfl) (by kernel_rfl) (lparses_any ⟨#[45]⟩ 0 w9 (by decide) 0 0 0 0 0 0 (Lib.hid (by decide)) rfl (by decide)), ?_⟩
      refine ⟨fun A w9 hB h => step_pick h (by kernel_rfl) _ _ _ true rfl (by kernel_rfl) (by kernel_rfl), ?_⟩
      refine ⟨fun A w9 hB h => step_move h (by kernel_rfl) _ rfl (by kernel_rfl), ?_⟩
      refine ⟨fun A w9 hB h => step_call_con h (by kernel_rfl) _ _ [.string ⟨#[48, 32, 32, 55]⟩, .int .i64 3] rfl rfl (by kernel_rfl) (by kernel_rfl) (lparses_any ⟨#[48, 32, 32, 55]⟩ 3 w9 (by decide) 0 0 0 0 0 3 (Lib.hid (by decide)) rfl (by decide)), ?_⟩
      refine ⟨fun A w9 hB h => step_pick h (by kernel_rfl) _ _ _ true rfl (by kernel_rfl) (by kernel_rfl), ?_⟩
      refine ⟨fun A w9 hB h => step_move h (by kernel_rfl) _ rfl (by kernel_rfl), ?_⟩
      refine ⟨fun A w9 hB h => step_call_con h (by kernel_rfl) _ _ [.string ⟨#[56]⟩, .int .i64 14] rfl rfl (by kernel_rfl) (by kernel_rfl) (lparses_any ⟨#[56]⟩ 14 w9 (by decide) 0 0 0 0 0 14 (Lib.hid (by decide)) rfl (by decide)), ?_⟩
      refine ⟨fun A w9 hB h => step_pick h (by kernel_rfl) _ _ _ true rfl (by kernel_rfl) (by kernel_rfl), ?_⟩
      refine ⟨fun A w9 hB h => step_move h (by kernel_rfl) _ rfl (by kernel_rfl), ?_⟩
      refine ⟨fun A w9 hB h => step_call_con h (by kernel_rfl) _ _ [.string ⟨#[49, 50]⟩, .int .i64 3] rfl rfl (by kernel_rfl) (by kernel_rfl) (lparses_any ⟨#[49, 50]⟩ 3 w9 (by decide) 0 0 0 0 0 3 (Lib.hid (by decide)) rfl (by decide)), ?_⟩
      refine ⟨fun A w9 hB h => step_pick h (by kernel_rfl) _ _ _ true rfl (by kernel_rfl) (by kernel_rfl), ?_⟩
      refine ⟨fun A w9 hB h => step_move h (by kernel_rfl) _ rfl (by kernel_rfl), ?_⟩
      refine ⟨fun A w9 hB h => step_call_con h (by kernel_rfl) _ _ [.string ⟨#[]⟩, .int .i64 3] rfl rfl (by kernel_rfl) (by kernel_rfl) (lparses_any ⟨#[]⟩ 3 w9 (by decide) 0 0 0 0 0 3 (Lib.hid (by decide)) rfl (by decide)), ?_⟩
      refine ⟨fun A w9 hB h => step_pick h (by kernel_rfl) _ _ _ true rfl (by kernel_rfl) (by kernel_rfl), ?_⟩
      refine ⟨fun A w9 hB h => step_assign h (by kernel_rfl) _ rfl (by kernel_rfl), ?_⟩
      exact trivial
    case f14 =>
      intro A2 u2 hB hb
      have hBW := hB
      have G2 := Lib.hid (below_on G1.out (Nat.le_refl _) hBW)
      have C_r2 := Lib.hid (C_r1.out.below hB)
      have P_r2 := Lib.hid (P_r1.out.below hB)
      have Q_r2 := Lib.hid (Q_r1.out.below hB)
      have D_r2 := Lib.hid (D_r1.out.below hB)
      have T_r2 := Lib.hid (T_r1.out.below hB)
      have e2_13 : A2.eval (.tmp 13) = .slice (some ⟨bP, oP, none⟩) 3 cP := (hb.old 13 (by kernel_rfl)).trans (e1_13)
      have e2_14 : A2.eval (.tmp 14) = .int .i64 0 := (hb.old 14 (by kernel_rfl)).trans (e1_14)
      have e2_15 : A2.eval (.tmp 15) = .slice (some ⟨bQ, oQ, none⟩) 3 cQ := (hb.old 15 (by kernel_rfl)).trans (e1_15)
      have e2_16 : A2.eval (.tmp 16) = .int .i64 0 := (hb.old 16 (by kernel_rfl)).trans (e1_16)
      have e2_18 : A2.eval (.tmp 18) = .int .i64 2 := (hb.old 18 (by kernel_rfl)).trans (e1_18)
      have e2_20 : A2.eval (.tmp 20) = .int .i64 14 := (hb.old 20 (by kernel_rfl)).trans (e1_20)
      have e2_21 : A2.eval (.tmp 21) = .pointer (some ⟨v16.heap.size, 0, none⟩) := (hb.old 21 (by kernel_rfl)).trans (e1_21)
      have e2_22 : A2.eval (.tmp 22) = .int .i64 0 := (hb.old 22 (by kernel_rfl)).trans (e1_22)
      have e2_24 : A2.eval (.tmp 24) = .int .i64 2 := (hb.old 24 (by kernel_rfl)).trans (e1_24)
      have e2_25 : A2.eval (.tmp 25) = .bool true := (hb.old 25 (by kernel_rfl)).trans (e1_25)
      have e2_26 : A2.eval (.tmp 26) = .bool true := hb.con 21 26 _ (by kernel_rfl) (by kernel_rfl)
      have z2 : A2.tmps.size = 272 := hb.size.trans (z1)
      have q2 : A2.defers = [] := hb.defers.trans (q1)
      clear hB hb hBW
      refine wp_seq ?_
      refine wp_region_drawn [.con (.int .i64 0), .con (.bool true), .con (.bool true), .con (.slice (some ⟨bP, oP, none⟩) 3 cP), .con (.int .i64 3), .con (.bool true), .con (.bool true), .con (.bool true), .con (.slice (some ⟨bP, oP, none⟩) 3 cP), .con (.pointer (some ⟨bP, oP + 0 * 5, none⟩)), .con (.agg #[.int .i64 0, .int .i64 0, .int .i64 0, .int .i64 0, .int .i64 0]), .con (.agg #[.int .i64 0, .int .i64 0, .int .i64 0, .int .i64 0, .int .i64 0]), .con (.bool true), .con (.bool true), .con (.bool true), .con (.slice (some ⟨bP, oP, none⟩) 3 cP), .con (.pointer (some ⟨bP, oP + 1 * 5, none⟩)), .con (.agg #[.int .i64 1, .int .i64 0, .int .i64 0, .int .i64 0, .int .i64 0]), SlI [0], .con (.agg #[.int .i64 1, .int .i64 0, .int .i64 0, .int .i64 0, .int .i64 0]), .con (.bool true), .con (.bool true), .con (.bool true), .con (.slice (some ⟨bP, oP, none⟩) 3 cP), .con (.pointer (some ⟨bP, oP + 2 * 5, none⟩)), .con (.agg #[.int .i64 1, .int .i64 1, .int .i64 0, .int .i64 0, .int .i64 0]), SlI [1], .con (.agg #[.int .i64 1, .int .i64 1, .int .i64 0, .int .i64 0, .int .i64 0]), .con (.bool true), .con (.bool true), .con (.bool true), .con (.int .i64 0), .con (.bool true), .con (.bool true), .con (.bool true), .con (.slice (some ⟨bQ, oQ, none⟩) 3 cQ), .con (.int .i64 3), .con (.bool true), .con (.bool true), .con (.bool true), .con (.slice (some ⟨bQ, oQ, none⟩) 3 cQ), .con (.pointer (some ⟨bQ, oQ + 2 * 5, none⟩)), .con (.agg #[.int .i64 2, .int .i64 0, .int .i64 0, .int .i64 0, .int .i64 0]), SlI [0, 0], .con (.agg #[.int .i64 2, .int .i64 0, .int .i64 0, .int .i64 0, .int .i64 0]), .con (.bool true), .con (.bool true), .con (.bool true), .con (.int .i64 2), .con (.bool true), .con (.bool true), .con (.bool true)] (by kernel_rfl) (by rw [z2]; kernel_rfl) ?k15 ?s15 ?f15
      case k15 =>
        refine spS_keeps ?_
        intro s hs
        simp only [List.mem_cons, List.not_mem_nil, or_false] at hs
        rcases hs with rfl | rfl | rfl | rfl | rfl | rfl | rfl | rfl | rfl | rfl | rfl | rfl | rfl | rfl | rfl | rfl | rfl | rfl | rfl | rfl | rfl | rfl | rfl | rfl | rfl | rfl | rfl | rfl | rfl | rfl | rfl | rfl | rfl | rfl | rfl | rfl | rfl | rfl | rfl | rfl | rfl | rfl | rfl | rfl | rfl | rfl | rfl | rfl | rfl | rfl | rfl | rfl <;> first | exact .inl ⟨_, rfl⟩ | exact .inr ⟨_, rfl⟩
      case s15 =>
        refine ⟨fun A w9 hB h => step_move_old h (by kernel_rfl) 14 rfl (by kernel_rfl) (e2_14), ?_⟩
        refine ⟨fun A w9 hB h => step_bin h (by kernel_rfl) _ _ _ _ _ (.int .i64 0) (.int .i64 0) rfl (by kernel_rfl) (by kernel_rfl) (fun W => by kernel_rfl) (fun W => by kernel_rfl), ?_⟩
        refine ⟨fun A w9 hB h => step_move h (by kernel_rfl) _ rfl (by kernel_rfl), ?_⟩
        refine ⟨fun A w9 hB h => step_move_old h (by kernel_rfl) 13 rfl (by kernel_rfl) (e2_13), ?_⟩
        refine ⟨fun A w9 hB h => step_len h (by kernel_rfl) _ _ ((some ⟨bP, oP, none⟩)) 3 cP rfl (by kernel_rfl) (by kernel_rfl), ?_⟩
        refine ⟨fun A w9 hB h => step_bin h (by kernel_rfl) _ _ _ _ _ (.int .i64 3) (.int .i64 3) rfl (by kernel_rfl) (by kernel_rfl) (fun W => by kernel_rfl) (fun W => by kernel_rfl), ?_⟩
        refine ⟨fun A w9 hB h => step_pick h (by kernel_rfl) _ _ _ true rfl (by kernel_rfl) (by kernel_rfl), ?_⟩
        refine ⟨fun A w9 hB h => step_move h (by kernel_rfl) _ rfl (by kernel_rfl), ?_⟩
        refine ⟨fun A w9 hB h => step_move_old h (by kernel_rfl) 13 rfl (by kernel_rfl) (e2_13), ?_⟩
        refine ⟨fun A w9 hB h => step_idx h (by kernel_rfl) _ _ _ (.slice (some ⟨bP, oP, none⟩) 3 cP) (.int .i64 0) rfl (by kernel_rfl) (by kernel_rfl) (idx5_0 bP oP cP w9), ?_⟩
        refine ⟨fun A w9 hB h => step_load h (by kernel_rfl) _ _ (.pointer (some ⟨bP, oP + 0 * 5, none⟩)) rfl (lookAt_eval h (by kernel_rfl)) (load_at5 (at5_of (P_r2.out.below hB) 0 (by decide) rfl)), ?_⟩
        refine ⟨fun A w9 hB h => step_call_con h (by kernel_rfl) _ _ [.slice none 0 0] rfl rfl (by kernel_rfl) (by kernel_rfl) (lof_any none 0 [] w9 (by simp) (Lib.hid (fun i hi => by simp at hi)) 0 0 0 0 0 0 (Lib.hid (by decide))), ?_⟩
        refine ⟨fun A w9 hB h => step_bin h (by kernel_rfl) _ _ _ _ _ (.agg #[.int .i64 0, .int .i64 0, .int .i64 0, .int .i64 0, .int .i64 0]) (.agg #[.int .i64 0, .int .i64 0, .int .i64 0, .int .i64 0, .int .i64 0]) rfl (by kernel_rfl) (by kernel_rfl) (fun W => guard_look _ _ _ _ _ W) (fun W => (eql_look 0 0 0 0 0 0 0 0 0 0 W).trans (by rfl)), ?_⟩
        refine ⟨fun A w9 hB h => step_pick h (by kernel_rfl) _ _ _ true rfl (by kernel_rfl) (by kernel_rfl), ?_⟩
        refine ⟨fun A w9 hB h => step_move h (by kernel_rfl) _ rfl (by kernel_rfl), ?_⟩
        refine ⟨fun A w9 hB h => step_move_old h (by kernel_rfl) 13 rfl (by kernel_rfl) (e2_13), ?_⟩
        refine ⟨fun A w9 hB h => step_idx h (by kernel_rfl) _ _ _ (.slice (some ⟨bP, oP, none⟩) 3 cP) (.int .i64 1) rfl (by kernel_rfl) (by kernel_rfl) (idx5_1 bP oP cP w9), ?_⟩
        refine ⟨fun A w9 hB h => step_load h (by kernel_rfl) _ _ (.pointer (some ⟨bP, oP + 1 * 5, none⟩)) rfl (lookAt_eval h (by kernel_rfl)) (load_at5 (at5_of (P_r2.out.below hB) 1 (by decide) rfl)), ?_⟩
        refine ⟨fun A w9 hB h => step_slice h (by kernel_rfl) _ 3 _ _ [0] rfl (by kernel_rfl) (by kernel_rfl) (by kernel_rfl) rfl (by decide) (by decide) (by kernel_rfl), ?_⟩
        refine ⟨fun A w9 hB h => step_call_sl h (by kernel_rfl) _ _ [0] 18 179 rfl rfl rfl (by kernel_rfl) (by kernel_rfl) rfl rfl (fun p hr => lof_any p 1 [0] w9 (by simp) (Lib.hid hr) 1 0 0 0 0 0 (Lib.hid (by decide))), ?_⟩
        refine ⟨fun A w9 hB h => step_bin h (by kernel_rfl) _ _ _ _ _ (.agg #[.int .i64 1, .int .i64 0, .int .i64 0, .int .i64 0, .int .i64 0]) (.agg #[.int .i64 1, .int .i64 0, .int .i64 0, .int .i64 0, .int .i64 0]) rfl (by kernel_rfl) (by kernel_rfl) (fun W => guard_look _ _ _ _ _ W) (fun W => (eql_look 1 0 0 0 0 1 0 0 0 0 W).trans (by rfl)), ?_⟩
        refine ⟨fun A w9 hB h => step_pick h (by kernel_rfl) _ _ _ true rfl (by kernel_rfl) (by kernel_rfl), ?_⟩
        refine ⟨fun A w9 hB h => step_move h (by kernel_rfl) _ rfl (by kernel_rfl), ?_⟩
        refine ⟨fun A w9 hB h => step_move_old h (by kernel_rfl) 13 rfl (by kernel_rfl) (e2_13), ?_⟩
        refine ⟨fun A w9 hB h => step_idx h (by kernel_rfl) _ _ _ (.slice (some ⟨bP, oP, none⟩) 3 cP) (.int .i64 2) rfl (by kernel_rfl) (by kernel_rfl) (idx5_2 bP oP cP w9), ?_⟩
        refine ⟨fun A w9 hB h => step_load h (by kernel_rfl) _ _ (.pointer (some ⟨bP, oP + 2 * 5, none⟩)) rfl (lookAt_eval h (by kernel_rfl)) (load_at5 (at5_of (P_r2.out.below hB) 2 (by decide) rfl)), ?_⟩
        refine ⟨fun A w9 hB h => step_slice h (by kernel_rfl) _ 3 _ _ [1] rfl (by kernel_rfl) (by kernel_rfl) (by kernel_rfl) rfl (by decide) (by decide) (by kernel_rfl), ?_⟩
        refine ⟨fun A w9 hB h => step_call_sl h (by kernel_rfl) _ _ [1] 26 187 rfl rfl rfl (by kernel_rfl) (by kernel_rfl) rfl rfl (fun p hr => lof_any p 1 [1] w9 (by simp) (Lib.hid hr) 1 1 0 0 0 0 (Lib.hid (by decide))), ?_⟩
        refine ⟨fun A w9 hB h => step_bin h (by kernel_rfl) _ _ _ _ _ (.agg #[.int .i64 1, .int .i64 1, .int .i64 0, .int .i64 0, .int .i64 0]) (.agg #[.int .i64 1, .int .i64 1, .int .i64 0, .int .i64 0, .int .i64 0]) rfl (by kernel_rfl) (by kernel_rfl) (fun W => guard_look _ _ _ _ _ W) (fun W => (eql_look 1 1 0 0 0 1 1 0 0 0 W).trans (by rfl)), ?_⟩
        refine ⟨fun A w9 hB h => step_pick h (by kernel_rfl) _ _ _ true rfl (by kernel_rfl) (by kernel_rfl), ?_⟩
        refine ⟨fun A w9 hB h => step_move h (by kernel_rfl) _ rfl (by kernel_rfl), ?_⟩
        refine ⟨fun A w9 hB h => step_move_old h (by kernel_rfl) 16 rfl (by kernel_rfl) (e2_16), ?_⟩
        refine ⟨fun A w9 hB h => step_bin h (by kernel_rfl) _ _ _ _ _ (.int .i64 0) (.int .i64 0) rfl (by kernel_rfl) (by kernel_rfl) (fun W => by kernel_rfl) (fun W => by kernel_rfl), ?_⟩
        refine ⟨fun A w9 hB h => step_pick h (by kernel_rfl) _ _ _ true rfl (by kernel_rfl) (by kernel_rfl), ?_⟩
        refine ⟨fun A w9 hB h => step_move h (by kernel_rfl) _ rfl (by kernel_rfl), ?_⟩
        refine ⟨fun A w9 hB h => step_move_old h (by kernel_rfl) 15 rfl (by kernel_rfl) (e2_15), ?_⟩
        refine ⟨fun A w9 hB h => step_len h (by kernel_rfl) _ _ ((some ⟨bQ, oQ, none⟩)) 3 cQ rfl (by kernel_rfl) (by kernel_rfl), ?_⟩
        refine ⟨fun A w9 hB h => step_bin h (by kernel_rfl) _ _ _ _ _ (.int .i64 3) (.int .i64 3) rfl (by kernel_rfl) (by kernel_rfl) (fun W => by kernel_rfl) (fun W => by kernel_rfl), ?_⟩
        refine ⟨fun A w9 hB h => step_pick h (by kernel_rfl) _ _ _ true rfl (by kernel_rfl) (by kernel_rfl), ?_⟩
        refine ⟨fun A w9 hB h => step_move h (by kernel_rfl) _ rfl (by kernel_rfl), ?_⟩
        refine ⟨fun A w9 hB h => step_move_old h (by kernel_rfl) 15 rfl (by kernel_rfl) (e2_15), ?_⟩
        refine ⟨fun A w9 hB h => step_idx h (by kernel_rfl) _ _ _ (.slice (some ⟨bQ, oQ, none⟩) 3 cQ) (.int .i64 2) rfl (by kernel_rfl) (by kernel_rfl) (idx5_2 bQ oQ cQ w9), ?_⟩
        refine ⟨fun A w9 hB h => step_load h (by kernel_rfl) _ _ (.pointer (some ⟨bQ, oQ + 2 * 5, none⟩)) rfl (lookAt_eval h (by kernel_rfl)) (load_at5 (at5_of (Q_r2.out.below hB) 2 (by decide) rfl)), ?_⟩
        refine ⟨fun A w9 hB h => step_slice h (by kernel_rfl) _ 3 _ _ [0, 0] rfl (by kernel_rfl) (by kernel_rfl) (by kernel_rfl) rfl (by decide) (by decide) (by kernel_rfl), ?_⟩
        refine ⟨fun A w9 hB h => step_call_sl h (by kernel_rfl) _ _ [0, 0] 43 204 rfl rfl rfl (by kernel_rfl) (by kernel_rfl) rfl rfl (fun p hr => lof_any p 2 [0, 0] w9 (by simp) (Lib.hid hr) 2 0 0 0 0 0 (Lib.hid (by decide))), ?_⟩
        refine ⟨fun A w9 hB h => step_bin h (by kernel_rfl) _ _ _ _ _ (.agg #[.int .i64 2, .int .i64 0, .int .i64 0, .int .i64 0, .int .i64 0]) (.agg #[.int .i64 2, .int .i64 0, .int .i64 0, .int .i64 0, .int .i64 0]) rfl (by kernel_rfl) (by kernel_rfl) (fun W => guard_look _ _ _ _ _ W) (fun W => (eql_look 2 0 0 0 0 2 0 0 0 0 W).trans (by rfl)), ?_⟩
        refine ⟨fun A w9 hB h => step_pick h (by kernel_rfl) _ _ _ true rfl (by kernel_rfl) (by kernel_rfl), ?_⟩
        refine ⟨fun A w9 hB h => step_move h (by kernel_rfl) _ rfl (by kernel_rfl), ?_⟩
        refine ⟨fun A w9 hB h => step_move_old h (by kernel_rfl) 18 rfl (by kernel_rfl) (e2_18), ?_⟩
        refine ⟨fun A w9 hB h => step_bin h (by kernel_rfl) _ _ _ _ _ (.int .i64 2) (.int .i64 2) rfl (by kernel_rfl) (by kernel_rfl) (fun W => by kernel_rfl) (fun W => by kernel_rfl), ?_⟩
        refine ⟨fun A w9 hB h => step_pick h (by kernel_rfl) _ _ _ true rfl (by kernel_rfl) (by kernel_rfl), ?_⟩
        refine ⟨fun A w9 hB h => step_assign h (by kernel_rfl) _ rfl (by kernel_rfl), ?_⟩
        exact trivial
      case f15 =>
        intro A3 u3 hB hb
        have hBW := hB
        have G3 := Lib.hid (below_on G2.out (Nat.le_refl _) hBW)
        have C_r3 := Lib.hid (C_r2.out.below hB)
        have P_r3 := Lib.hid (P_r2.out.below hB)
        have Q_r3 := Lib.hid (Q_r2.out.below hB)
        have D_r3 := Lib.hid (D_r2.out.below hB)
        have T_r3 := Lib.hid (T_r2.out.below hB)
        have e3_20 : A3.eval (.tmp 20) = .int .i64 14 := (hb.old 20 (by kernel_rfl)).trans (e2_20)
        have e3_21 : A3.eval (.tmp 21) = .pointer (some ⟨v16.heap.size, 0, none⟩) := (hb.old 21 (by kernel_rfl)).trans (e2_21)
        have e3_22 : A3.eval (.tmp 22) = .int .i64 0 := (hb.old 22 (by kernel_rfl)).trans (e2_22)
        have e3_24 : A3.eval (.tmp 24) = .int .i64 2 := (hb.old 24 (by kernel_rfl)).trans (e2_24)
        have e3_25 : A3.eval (.tmp 25) = .bool true := (hb.old 25 (by kernel_rfl)).trans (e2_25)
        have e3_26 : A3.eval (.tmp 26) = .bool true := (hb.old 26 (by kernel_rfl)).trans (e2_26)
        have e3_27 : A3.eval (.tmp 27) = .bool true := hb.con 51 27 _ (by kernel_rfl) (by kernel_rfl)
        have z3 : A3.tmps.size = 272 := hb.size.trans (z2)
        have q3 : A3.defers = [] := hb.defers.trans (q2)
        clear hB hb hBW
        refine wp_seq ?_
        refine wp_region_drawn [.con (.agg #[.int .i64 0, .int .i64 0, .int .i64 0, .int .i64 0, .int .i64 0]), .con (.bool true), .con (.bool true), SlI [0], .con (.agg #[.int .i64 1, .int .i64 0, .int .i64 0, .int .i64 0, .int .i64 0]), .con (.bool true), .con (.bool true), .con (.bool true), SlI [1], .con (.agg #[.int .i64 1, .int .i64 1, .int .i64 0, .int .i64 0, .int .i64 0]), .con (.bool true), .con (.bool true), .con (.bool true), SlI [1, 1, 1, 1], .con (.agg #[.int .i64 4, .int .i64 1, .int .i64 1, .int .i64 1, .int .i64 1]), .con (.bool true), .con (.bool true), .con (.bool true), .con (.int .i64 14), .con (.bool true), .con (.bool true), .con (.bool true), .con (.int .i64 0), .con (.bool true), .con (.bool true), .con (.bool true), .con (.agg #[.int .i64 1, .int .i64 1, .int .i64 0, .int .i64 0, .int .i64 0]), SlI [1], .con (.agg #[.int .i64 1, .int .i64 1, .int .i64 0, .int .i64 0, .int .i64 0]), .con (.bool true), .con (.bool true), .con (.bool true), .con (.int .i64 2), .con (.bool true), .con (.bool true), .con (.bool true)] (by kernel_rfl) (by rw [z3]; kernel_rfl) ?k16 ?s16 ?f16
        case k16 =>
          refine spS_keeps ?_
          intro s hs
          simp only [List.mem_cons, List.not_mem_nil, or_false] at hs
          rcases hs with rfl | rfl | rfl | rfl | rfl | rfl | rfl | rfl | rfl | rfl | rfl | rfl | rfl | rfl | rfl | rfl | rfl | rfl | rfl | rfl | rfl | rfl | rfl | rfl | rfl | rfl | rfl | rfl | rfl | rfl | rfl | rfl | rfl | rfl | rfl | rfl <;> first | exact .inl ⟨_, rfl⟩ | exact .inr ⟨_, rfl⟩
        case s16 =>
          refine ⟨fun A w9 hB h => step_call_con h (by kernel_rfl) _ _ [.slice none 0 0] rfl rfl (by kernel_rfl) (by kernel_rfl) (lof_any none 0 [] w9 (by simp) (Lib.hid (fun i hi => by simp at hi)) 0 0 0 0 0 0 (Lib.hid (by decide))), ?_⟩
          refine ⟨fun A w9 hB h => step_call_con h (by kernel_rfl) _ _ [.agg #[.int .i64 0, .int .i64 0, .int .i64 0, .int .i64 0, .int .i64 0], .int .i64 2, .int .i64 0] rfl rfl (by kernel_rfl) (by kernel_rfl) (lnumbered_any 0 0 0 0 0 2 0 w9 (Lib.hid (T_r3.out.below hB)) 0 0 rfl (Lib.hid (by decide)) true (by decide)), ?_⟩
          refine ⟨fun A w9 hB h => step_move h (by kernel_rfl) _ rfl (by kernel_rfl), ?_⟩
          refine ⟨fun A w9 hB h => step_slice h (by kernel_rfl) _ 3 _ _ [0] rfl (by kernel_rfl) (by kernel_rfl) (by kernel_rfl) rfl (by decide) (by decide) (by kernel_rfl), ?_⟩
          refine ⟨fun A w9 hB h => step_call_sl h (by kernel_rfl) _ _ [0] 3 215 rfl rfl rfl (by kernel_rfl) (by kernel_rfl) rfl rfl (fun p hr => lof_any p 1 [0] w9 (by simp) (Lib.hid hr) 1 0 0 0 0 0 (Lib.hid (by decide))), ?_⟩
          refine ⟨fun A w9 hB h => step_call_con h (by kernel_rfl) _ _ [.agg #[.int .i64 1, .int .i64 0, .int .i64 0, .int .i64 0, .int .i64 0], .int .i64 2, .int .i64 1] rfl rfl (by kernel_rfl) (by kernel_rfl) (lnumbered_any 1 0 0 0 0 2 1 w9 (Lib.hid (T_r3.out.below hB)) 1 0 rfl (Lib.hid (by decide)) true (by decide)), ?_⟩
          refine ⟨fun A w9 hB h => step_pick h (by kernel_rfl) _ _ _ true rfl (by kernel_rfl) (by kernel_rfl), ?_⟩
          refine ⟨fun A w9 hB h => step_move h (by kernel_rfl) _ rfl (by kernel_rfl), ?_⟩
          refine ⟨fun A w9 hB h => step_slice h (by kernel_rfl) _ 3 _ _ [1] rfl (by kernel_rfl) (by kernel_rfl) (by kernel_rfl) rfl (by decide) (by decide) (by kernel_rfl), ?_⟩
          refine ⟨fun A w9 hB h => step_call_sl h (by kernel_rfl) _ _ [1] 8 220 rfl rfl rfl (by kernel_rfl) (by kernel_rfl) rfl rfl (fun p hr => lof_any p 1 [1] w9 (by simp) (Lib.hid hr) 1 1 0 0 0 0 (Lib.hid (by decide))), ?_⟩
          refine ⟨fun A w9 hB h => step_call_con h (by kernel_rfl) _ _ [.agg #[.int .i64 1, .int .i64 1, .int .i64 0, .int .i64 0, .int .i64 0], .int .i64 2, .int .i64 16] rfl rfl (by kernel_rfl) (by kernel_rfl) (lnumbered_any 1 1 0 0 0 2 16 w9 (Lib.hid (T_r3.out.below hB)) 16 0 rfl (Lib.hid (by decide)) true (by decide)), ?_⟩
          refine ⟨fun A w9 hB h => step_pick h (by kernel_rfl) _ _ _ true rfl (by kernel_rfl) (by kernel_rfl), ?_⟩
          refine ⟨fun A w9 hB h => step_move h (by kernel_rfl) _ rfl (by kernel_rfl), ?_⟩
          refine ⟨fun A w9 hB h => step_slice h (by kernel_rfl) _ 3 _ _ [1, 1, 1, 1] rfl (by kernel_rfl) (by kernel_rfl) (by kernel_rfl) rfl (by decide) (by decide) (by kernel_rfl), ?_⟩
          refine ⟨fun A w9 hB h => step_call_sl h (by kernel_rfl) _ _ [1, 1, 1, 1] 13 225 rfl rfl rfl (by kernel_rfl) (by kernel_rfl) rfl rfl (fun p hr => lof_any p 4 [1, 1, 1, 1] w9 (by simp) (Lib.hid hr) 4 1 1 1 1 0 (Lib.hid (by decide))), ?_⟩
          refine ⟨fun A w9 hB h => step_call_con h (by kernel_rfl) _ _ [.agg #[.int .i64 4, .int .i64 1, .int .i64 1, .int .i64 1, .int .i64 1], .int .i64 2, .int .i64 30] rfl rfl (by kernel_rfl) (by kernel_rfl) (lnumbered_any 4 1 1 1 1 2 30 w9 (Lib.hid (T_r3.out.below hB)) 30 0 rfl (Lib.hid (by decide)) true (by decide)), ?_⟩
          refine ⟨fun A w9 hB h => step_pick h (by kernel_rfl) _ _ _ true rfl (by kernel_rfl) (by kernel_rfl), ?_⟩
          refine ⟨fun A w9 hB h => step_move h (by kernel_rfl) _ rfl (by kernel_rfl), ?_⟩
          refine ⟨fun A w9 hB h => step_move_old h (by kernel_rfl) 20 rfl (by kernel_rfl) (e3_20), ?_⟩
          refine ⟨fun A w9 hB h => step_bin h (by kernel_rfl) _ _ _ _ _ (.int .i64 14) (.int .i64 14) rfl (by kernel_rfl) (by kernel_rfl) (fun W => by kernel_rfl) (fun W => by kernel_rfl), ?_⟩
          refine ⟨fun A w9 hB h => step_pick h (by kernel_rfl) _ _ _ true rfl (by kernel_rfl) (by kernel_rfl), ?_⟩
          refine ⟨fun A w9 hB h => step_move h (by kernel_rfl) _ rfl (by kernel_rfl), ?_⟩
          refine ⟨fun A w9 hB h => step_move_old h (by kernel_rfl) 22 rfl (by kernel_rfl) (e3_22), ?_⟩
          refine ⟨fun A w9 hB h => step_bin h (by kernel_rfl) _ _ _ _ _ (.int .i64 0) (.int .i64 0) rfl (by kernel_rfl) (by kernel_rfl) (fun W => by kernel_rfl) (fun W => by kernel_rfl), ?_⟩
          refine ⟨fun A w9 hB h => step_pick h (by kernel_rfl) _ _ _ true rfl (by kernel_rfl) (by kernel_rfl), ?_⟩
          refine ⟨fun A w9 hB h => step_move h (by kernel_rfl) _ rfl (by kernel_rfl), ?_⟩
          refine ⟨fun A w9 hB h => step_load h (by kernel_rfl) _ _ (.pointer (some ⟨v16.heap.size, 0, none⟩)) rfl (h.old 21 (by kernel_rfl) (e3_21)) (load5 (D_r3.out.below hB)), ?_⟩
          refine ⟨fun A w9 hB h => step_slice h (by kernel_rfl) _ 3 _ _ [1] rfl (by kernel_rfl) (by kernel_rfl) (by kernel_rfl) rfl (by decide) (by decide) (by kernel_rfl), ?_⟩
          refine ⟨fun A w9 hB h => step_call_sl h (by kernel_rfl) _ _ [1] 27 239 rfl rfl rfl (by kernel_rfl) (by kernel_rfl) rfl rfl (fun p hr => lof_any p 1 [1] w9 (by simp) (Lib.hid hr) 1 1 0 0 0 0 (Lib.hid (by decide))), ?_⟩
          refine ⟨fun A w9 hB h => step_bin h (by kernel_rfl) _ _ _ _ _ (.agg #[.int .i64 1, .int .i64 1, .int .i64 0, .int .i64 0, .int .i64 0]) (.agg #[.int .i64 1, .int .i64 1, .int .i64 0, .int .i64 0, .int .i64 0]) rfl (by kernel_rfl) (by kernel_rfl) (fun W => guard_look _ _ _ _ _ W) (fun W => (eql_look 1 1 0 0 0 1 1 0 0 0 W).trans (by rfl)), ?_⟩
          refine ⟨fun A w9 hB h => step_pick h (by kernel_rfl) _ _ _ true rfl (by kernel_rfl) (by kernel_rfl), ?_⟩
          refine ⟨fun A w9 hB h => step_move h (by kernel_rfl) _ rfl (by kernel_rfl), ?_⟩
          refine ⟨fun A w9 hB h => step_move_old h (by kernel_rfl) 24 rfl (by kernel_rfl) (e3_24), ?_⟩
          refine ⟨fun A w9 hB h => step_bin h (by kernel_rfl) _ _ _ _ _ (.int .i64 2) (.int .i64 2) rfl (by kernel_rfl) (by kernel_rfl) (fun W => by kernel_rfl) (fun W => by kernel_rfl), ?_⟩
          refine ⟨fun A w9 hB h => step_pick h (by kernel_rfl) _ _ _ true rfl (by kernel_rfl) (by kernel_rfl), ?_⟩
          refine ⟨fun A w9 hB h => step_assign h (by kernel_rfl) _ rfl (by kernel_rfl), ?_⟩
          exact trivial
        case f16 =>
          intro A4 u4 hB hb
          have hBW := hB
          have G4 := Lib.hid (below_on G3.out (Nat.le_refl _) hBW)
          have C_r4 := Lib.hid (C_r3.out.below hB)
          have P_r4 := Lib.hid (P_r3.out.below hB)
          have Q_r4 := Lib.hid (Q_r3.out.below hB)
          have D_r4 := Lib.hid (D_r3.out.below hB)
          have T_r4 := Lib.hid (T_r3.out.below hB)
          have e4_25 : A4.eval (.tmp 25) = .bool true := (hb.old 25 (by kernel_rfl)).trans (e3_25)
          have e4_26 : A4.eval (.tmp 26) = .bool true := (hb.old 26 (by kernel_rfl)).trans (e3_26)
          have e4_27 : A4.eval (.tmp 27) = .bool true := (hb.old 27 (by kernel_rfl)).trans (e3_27)
          have e4_28 : A4.eval (.tmp 28) = .bool true := hb.con 35 28 _ (by kernel_rfl) (by kernel_rfl)
          have z4 : A4.tmps.size = 272 := hb.size.trans (z3)
          have q4 : A4.defers = [] := hb.defers.trans (q3)
          clear hB hb hBW
          refine wp_seq ?_
          refine wp_region_inText [.con (.bool true), .con (.bool true), .con (.bool true), .con (.bool true), .con (.bool true), .con (.bool true), .con (.bool true), .con (.bool true), .con (.bool true), .con (.bool true), .con (.bool true), .con (.bool true), .con (.bool true), .con (.bool true), .con (.agg #[.int .i64 0, .int .i64 1, .int .i64 0, .int .i64 0]), .con (.agg #[.int .i64 1, .int .i64 0, .int .i64 1, .int .i64 0, .int .i64 0]), .con (.int .i64 3), .con (.bool true), .con (.bool true), .con (.bool true), SlI [0, 1], .con (.agg #[.int .i64 2, .int .i64 0, .int .i64 1, .int .i64 0, .int .i64 0]), .con (.int .i64 14), .con (.bool true), .con (.bool true), .con (.bool true)] (by rw [z4]; kernel_rfl) ?k17 ?s17 ?f17
          case k17 =>
            refine spS_keeps ?_
            intro s hs
            simp only [List.mem_cons, List.not_mem_nil, or_false] at hs
            rcases hs with rfl | rfl | rfl | rfl | rfl | rfl | rfl | rfl | rfl | rfl | rfl | rfl | rfl | rfl | rfl | rfl | rfl | rfl | rfl | rfl | rfl | rfl | rfl | rfl | rfl | rfl <;> first | exact .inl ⟨_, rfl⟩ | exact .inr ⟨_, rfl⟩
          case s17 =>
            refine ⟨fun A w9 hB h => step_call_con h (by kernel_rfl) _ _ [] rfl rfl (by kernel_rfl) (by kernel_rfl) (awake_any w9), ?_⟩
            refine ⟨fun A w9 hB h => step_move h (by kernel_rfl) _ rfl (by kernel_rfl), ?_⟩
            refine ⟨fun A w9 hB h => step_move_old h (by kernel_rfl) 25 rfl (by kernel_rfl) (e4_25), ?_⟩
            refine ⟨fun A w9 hB h => step_pick h (by kernel_rfl) _ _ _ true rfl (by kernel_rfl) (by kernel_rfl), ?_⟩
            refine ⟨fun A w9 hB h => step_move h (by kernel_rfl) _ rfl (by kernel_rfl), ?_⟩
            refine ⟨fun A w9 hB h => step_move_old h (by kernel_rfl) 26 rfl (by kernel_rfl) (e4_26), ?_⟩
            refine ⟨fun A w9 hB h => step_pick h (by kernel_rfl) _ _ _ true rfl (by kernel_rfl) (by kernel_rfl), ?_⟩
            refine ⟨fun A w9 hB h => step_move h (by kernel_rfl) _ rfl (by kernel_rfl), ?_⟩
            refine ⟨fun A w9 hB h => step_move_old h (by kernel_rfl) 27 rfl (by kernel_rfl) (e4_27), ?_⟩
            refine ⟨fun A w9 hB h => step_pick h (by kernel_rfl) _ _ _ true rfl (by kernel_rfl) (by kernel_rfl), ?_⟩
            refine ⟨fun A w9 hB h => step_move h (by kernel_rfl) _ rfl (by kernel_rfl), ?_⟩
            refine ⟨fun A w9 hB h => step_move_old h (by kernel_rfl) 28 rfl (by kernel_rfl) (e4_28), ?_⟩
            refine ⟨fun A w9 hB h => step_pick h (by kernel_rfl) _ _ _ true rfl (by kernel_rfl) (by kernel_rfl), ?_⟩
            refine ⟨fun A w9 hB h => step_move h (by kernel_rfl) _ rfl (by kernel_rfl), ?_⟩
            refine ⟨fun A w9 hB h => step_build h (by kernel_rfl) _ _ [(0, .int .i64 0), (1, .int .i64 1)] _ rfl (by kernel_rfl) (by kernel_rfl), ?_⟩
            refine ⟨fun A w9 hB h => step_build h (by kernel_rfl) _ _ [(0, .int .i64 1), (1, .agg #[.int .i64 0, .int .i64 1, .int .i64 0, .int .i64 0])] _ rfl (by kernel_rfl) (by kernel_rfl), ?_⟩
            refine ⟨fun A w9 hB h => step_call_con h (by kernel_rfl) _ _ [.agg #[.int .i64 1, .int .i64 0, .int .i64 1, .int .i64 0, .int .i64 0], .int .i64 8] rfl rfl (by kernel_rfl) (by kernel_rfl) (pcheck_any 1 0 1 0 0 8 3 w9 (Lib.hid (by decide))), ?_⟩
            refine ⟨fun A w9 hB h => step_bin h (by kernel_rfl) _ _ _ _ _ (.int .i64 3) (.int .i64 3) rfl (by kernel_rfl) (by kernel_rfl) (fun W => by kernel_rfl) (fun W => by kernel_rfl), ?_⟩
            refine ⟨fun A w9 hB h => step_pick h (by kernel_rfl) _ _ _ true rfl (by kernel_rfl) (by kernel_rfl), ?_⟩
            refine ⟨fun A w9 hB h => step_move h (by kernel_rfl) _ rfl (by kernel_rfl), ?_⟩
            refine ⟨fun A w9 hB h => step_slice h (by kernel_rfl) _ 3 _ _ [0, 1] rfl (by kernel_rfl) (by kernel_rfl) (by kernel_rfl) rfl (by decide) (by decide) (by kernel_rfl), ?_⟩
            refine ⟨fun A w9 hB h => step_call_sl h (by kernel_rfl) _ _ [0, 1] 20 267 rfl rfl rfl (by kernel_rfl) (by kernel_rfl) rfl rfl (fun p hr => lof_any p 2 [0, 1] w9 (by simp) (Lib.hid hr) 2 0 1 0 0 0 (Lib.hid (by decide))), ?_⟩
            refine ⟨fun A w9 hB h => step_call_con h (by kernel_rfl) _ _ [.agg #[.int .i64 2, .int .i64 0, .int .i64 1, .int .i64 0, .int .i64 0], .int .i64 1] rfl rfl (by kernel_rfl) (by kernel_rfl) (pcheck_any 2 0 1 0 0 1 14 w9 (Lib.hid (by decide))), ?_⟩
            refine ⟨fun A w9 hB h => step_bin h (by kernel_rfl) _ _ _ _ _ (.int .i64 14) (.int .i64 14) rfl (by kernel_rfl) (by kernel_rfl) (fun W => by kernel_rfl) (fun W => by kernel_rfl), ?_⟩
            refine ⟨fun A w9 hB h => step_pick h (by kernel_rfl) _ _ _ true rfl (by kernel_rfl) (by kernel_rfl), ?_⟩
            refine ⟨fun A w9 hB h => step_assign h (by kernel_rfl) _ rfl (by kernel_rfl), ?_⟩
            exact trivial
          case f17 =>
            intro A5 u5 hB hb
            have hBW := hB
            have G5 := Lib.hid (below_on G4.out (Nat.le_refl _) hBW)
            have C_r5 := Lib.hid (C_r4.out.below hB)
            have P_r5 := Lib.hid (P_r4.out.below hB)
            have Q_r5 := Lib.hid (Q_r4.out.below hB)
            have D_r5 := Lib.hid (D_r4.out.below hB)
            have T_r5 := Lib.hid (T_r4.out.below hB)
            have z5 : A5.tmps.size = 272 := hb.size.trans (z4)
            have q5 : A5.defers = [] := hb.defers.trans (q4)
            have er : A5.eval (.tmp 0) = .bool true := hb.con 25 0 _ (by kernel_rfl) (by kernel_rfl)
            clear hB hb hBW
            have er2 : A5.tmps[0]?.getD undef = .bool true := by have h := er; simp only [Act.eval] at h; simpa using h
            show Code.wp Tryd.prog Code.ret _ A5 u5
            go_wp2
            exact bodyPost_ret (v := .bool true) (by simp [results, Tryd.results6, go_sem, er2]) q5 ⟨rfl, G5.out⟩
end Go.Proofs.YtddackdghphcnaaDoor.s13

namespace Go.Proofs.YtddackdghphcnaaDoor.s13
set_option linter.unusedVariables false
set_option linter.unusedSimpArgs false
set_option linter.unnecessarySimpa false
open Go.RowKit
open kit

theorem ok_chk {l : List Int} (h : okL 3 l) {n a b c d : Int} (hp : pad5 l = (n, a, b, c, d)) : chkP n a b c d 8 = 0 := pad5_chk (t := 8) ⟨h.1, fun x hx => by have := h.2 x hx; omega⟩ (by omega) (by omega) hp
theorem both_ok {l m : List Int} (h : okL 3 l) (k : okL 3 m) {n a b c d n' a' b' c' d' : Int} (hp : pad5 l = (n, a, b, c, d)) (kp : pad5 m = (n', a', b', c', d')) : bothP n a b c d n' a' b' c' d' = 0 := by
  unfold bothP
  rw [ok_chk h hp, ok_chk k kp]; rfl
theorem lst_of {l : List Int} (h : l.length ≤ 4) {y : V5} (hp : pad5 l = y) : lst y = l := by rw [← hp, lst_pad h]
theorem cmpE_ok {l m : List Int} (h : okL 3 l) (k : okL 3 m) {n a b c d n' a' b' c' d' : Int} (hp : pad5 l = (n, a, b, c, d)) (kp : pad5 m = (n', a', b', c', d')) : cmpE (n, a, b, c, d) (n', a', b', c', d') = (cmpL l m, 0) := by
  unfold cmpE
  simp only
  rw [if_neg (by rw [both_ok h k hp kp]; simp), lst_of h.1 hp, lst_of k.1 kp]
theorem begE_ok {l m : List Int} (h : okL 3 l) (k : okL 3 m) {n a b c d n' a' b' c' d' : Int} (hp : pad5 l = (n, a, b, c, d)) (kp : pad5 m = (n', a', b', c', d')) : begE (n, a, b, c, d) (n', a', b', c', d') = (begB l m, 0) := by
  unfold begE
  simp only
  rw [if_neg (by rw [both_ok h k hp kp]; simp), lst_of h.1 hp, lst_of k.1 kp]
theorem eq_ok {l m : List Int} (h : okL 3 l) (k : okL 3 m) {n a b c d n' a' b' c' d' : Int} (hp : pad5 l = (n, a, b, c, d)) (kp : pad5 m = (n', a', b', c', d')) : decide (n = n' ∧ a = a' ∧ b = b' ∧ c = c' ∧ d = d') = decide (cmpL l m = 0) := by
  refine decide_eq_decide.2 ⟨fun ⟨e0, e1, e2, e3, e4⟩ => ?_, fun e => ?_⟩
  · have : l = m := pad5_inj h.1 (by rw [hp, kp, e0, e1, e2, e3, e4])
    rw [this]; exact cmpL_self m
  · have := cmpL_zero e
    subst this
    rw [hp] at kp
    simpa using kp
theorem order_cases (l m o : List Int) (v1 v2 v3 : Int) (vb e : Bool) (h1 : cmpL l m = v1) (h2 : cmpL m o = v2) (h3 : cmpL l o = v3) (hb : begB l m = vb) (he : decide (cmpL l m = 0) = e) : (v1 = -1 ∧ v2 = -1 ∧ v3 = -1 ∧ vb = true ∧ e = false) ∨ (v1 = -1 ∧ v2 = -1 ∧ v3 = -1 ∧ vb = false ∧ e = false) ∨ (v1 = -1 ∧ v2 = 0 ∧ v3 = -1 ∧ vb = true ∧ e = false) ∨ (v1 = -1 ∧ v2 = 0 ∧ v3 = -1 ∧ vb = false ∧ e = false) ∨ (v1 = -1 ∧ v2 = 1 ∧ v3 = -1 ∧ vb = true ∧ e = false) ∨ (v1 = -1 ∧ v2 = 1 ∧ v3 = -1 ∧ vb = false ∧ e = false) ∨ (v1 = -1 ∧ v2 = 1 ∧ v3 = 0 ∧ vb = true ∧ e = false) ∨ (v1 = -1 ∧ v2 = 1 ∧ v3 = 0 ∧ vb = false ∧ e = false) ∨ (v1 = -1 ∧ v2 = 1 ∧ v3 = 1 ∧ vb = true ∧ e = false) ∨ (v1 = -1 ∧ v2 = 1 ∧ v3 = 1 ∧ vb = false ∧ e = false) ∨ (v1 = 0 ∧ v2 = -1 ∧ v3 = -1 ∧ vb = true ∧ e = true) ∨ (v1 = 0 ∧ v2 = -1 ∧ v3 = -1 ∧ vb = false ∧ e = true) ∨ (v1 = 0 ∧ v2 = 0 ∧ v3 = 0 ∧ vb = true ∧ e = true) ∨ (v1 = 0 ∧ v2 = 0 ∧ v3 = 0 ∧ vb = false ∧ e = true) ∨ (v1 = 0 ∧ v2 = 1 ∧ v3 = 1 ∧ vb = true ∧ e = true) ∨ (v1 = 0 ∧ v2 = 1 ∧ v3 = 1 ∧ vb = false ∧ e = true) ∨ (v1 = 1 ∧ v2 = -1 ∧ v3 = -1 ∧ vb = false ∧ e = false) ∨ (v1 = 1 ∧ v2 = -1 ∧ v3 = 0 ∧ vb = false ∧ e = false) ∨ (v1 = 1 ∧ v2 = -1 ∧ v3 = 1 ∧ vb = false ∧ e = false) ∨ (v1 = 1 ∧ v2 = 0 ∧ v3 = 1 ∧ vb = false ∧ e = false) ∨ (v1 = 1 ∧ v2 = 1 ∧ v3 = 1 ∧ vb = false ∧ e = false) := by
  have r1 := cmpL_range l m
  have r2 := cmpL_range m o
  have r3 := cmpL_range l o
  have t1 := cmpL_trans l m o
  have s1 := cmpL_strict l m o
  have n1 := cmpL_neg l m
  have n2 := cmpL_neg m o
  have n3 := cmpL_neg l o
  have t2 := cmpL_trans o m l
  have s2 := cmpL_strict o m l
  have z1 : cmpL l m = 0 → cmpL l o = cmpL m o := fun h => by rw [cmpL_zero h]
  have z2 : cmpL m o = 0 → cmpL l o = cmpL l m := fun h => by rw [cmpL_zero h]
  have hp : vb = true → v1 ≤ 0 := fun h => by
    rw [h] at hb
    have hq := of_decide_eq_true hb
    have := cmpL_prefix l (m.drop l.length)
    have hm : l ++ m.drop l.length = m := by have h5 := List.take_append_drop l.length m; rw [hq] at h5; exact h5
    rw [hm] at this
    omega
  have he2 : e = decide (v1 = 0) := by rw [← he, h1]
  clear hb he
  rw [h1] at r1 t1 s1 n1 z1 z2
  rw [h2] at r2 t1 s1 n2 z1 z2
  rw [h3] at r3 t1 s1 n3 z1 z2
  rw [n1] at t2 s2
  rw [n2] at t2 s2
  rw [n3] at t2 s2
  clear h1 h2 h3 n1 n2 n3
  subst he2
  cases vb
  · clear hp
    rcases r1 with rfl | rfl | rfl <;> rcases r2 with rfl | rfl | rfl <;> rcases r3 with rfl | rfl | rfl <;> first | (simp; done) | (exfalso; simp at t1 s1 t2 s2 z1 z2; done)
  · have hp := hp rfl
    rcases r1 with rfl | rfl | rfl <;> rcases r2 with rfl | rfl | rfl <;> rcases r3 with rfl | rfl | rfl <;> first | (simp; done) | (exfalso; simp at t1 s1 t2 s2 z1 z2 hp; done)
end Go.Proofs.YtddackdghphcnaaDoor.s13
