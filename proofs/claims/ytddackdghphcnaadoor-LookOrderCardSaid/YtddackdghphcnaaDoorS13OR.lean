/-
  Layer 13: the law of the order, walked.
-/
import Derived.Test.YtddackdghphcnaaDoorS13OC
namespace Go.Proofs.YtddackdghphcnaaDoor.s13
set_option linter.unusedVariables false
set_option linter.unusedSimpArgs false
set_option linter.unnecessarySimpa false
open Go.RowKit
open kit

set_option maxRecDepth 100000 in
set_option maxHeartbeats 40000000 in
theorem lookorder_any (a b c : Int) (w : World) (hT : Hid (Tab w)) (a1 : -9223372036854775808 ≤ a) (a2 : a ≤ 9223372036854775807) (b1 : -9223372036854775808 ≤ b) (b2 : b ≤ 9223372036854775807) (c1 : -9223372036854775808 ≤ c) (c2 : c ≤ 9223372036854775807) :
    Calls Tryd.prog 7 #[.int .i64 a, .int .i64 b, .int .i64 c] w fun e w' => e = .returned (.bool true) ∧ Below w.heap.size w w' := by
  go_enter Tryd.func7, Tryd.ntmps7
  go_wp2_with fail
  refine (lookknown_any _ hT).mono ?_
  rintro e w1 ⟨rfl, hB⟩
  have B1 := Lib.hid hB
  clear hB
  go_wp2_with fail
  refine (lmade_any a _ a1 a2).mono ?_
  rintro e w2 ⟨l, x0, x1, x2, x3, x4, hl, hlp, rfl, hB⟩
  have HL := Lib.hid hl
  have HLP := Lib.hid hlp
  have B2 := Lib.hid (below_on B1.out (Nat.le_refl _) hB)
  clear hB hl hlp
  go_wp2_with fail
  refine (lmade_any b _ b1 b2).mono ?_
  rintro e w3 ⟨m, y0, y1, y2, y3, y4, hl, hlp, rfl, hB⟩
  have HM := Lib.hid hl
  have HMP := Lib.hid hlp
  have B3 := Lib.hid (below_on B2.out (Nat.le_refl _) hB)
  clear hB hl hlp
  go_wp2_with fail
  refine (lmade_any c _ c1 c2).mono ?_
  rintro e w4 ⟨o, u0, u1, u2, u3, u4, hl, hlp, rfl, hB⟩
  have HO := Lib.hid hl
  have HOP := Lib.hid hlp
  have B4 := Lib.hid (below_on B3.out (Nat.le_refl _) hB)
  clear hB hl hlp
  obtain ⟨v1, h1⟩ : ∃ v, cmpL l m = v := ⟨_, rfl⟩
  obtain ⟨v2, h2⟩ : ∃ v, cmpL m o = v := ⟨_, rfl⟩
  obtain ⟨v3, h3⟩ : ∃ v, cmpL l o = v := ⟨_, rfl⟩
  obtain ⟨vb, hb⟩ : ∃ v, begB l m = v := ⟨_, rfl⟩
  obtain ⟨e0, he⟩ : ∃ v, decide (cmpL l m = 0) = v := ⟨_, rfl⟩
  obtain ⟨lv, hlv⟩ : ∃ v, (if x0 = 0 then 0 else -1 : Int) = v := ⟨_, rfl⟩
  have C1 : Hid (cmpE (x0, x1, x2, x3, x4) (y0, y1, y2, y3, y4) = (v1, 0)) := Lib.hid (by rw [cmpE_ok HL.out HM.out HLP.out HMP.out, h1])
  have C2 : Hid (cmpE (y0, y1, y2, y3, y4) (u0, u1, u2, u3, u4) = (v2, 0)) := Lib.hid (by rw [cmpE_ok HM.out HO.out HMP.out HOP.out, h2])
  have C3 : Hid (cmpE (x0, x1, x2, x3, x4) (u0, u1, u2, u3, u4) = (v3, 0)) := Lib.hid (by rw [cmpE_ok HL.out HO.out HLP.out HOP.out, h3])
  have C4 : Hid (cmpE (y0, y1, y2, y3, y4) (x0, x1, x2, x3, x4) = (-v1, 0)) := Lib.hid (by rw [cmpE_ok HM.out HL.out HMP.out HLP.out, cmpL_neg l m, h1])
  have G1 : Hid (begE (x0, x1, x2, x3, x4) (y0, y1, y2, y3, y4) = (vb, 0)) := Lib.hid (by rw [begE_ok HL.out HM.out HLP.out HMP.out, hb])
  have zq : ∀ W, (binOp .eql 25 (.agg #[.int .i64 x0, .int .i64 x1, .int .i64 x2, .int .i64 x3, .int .i64 x4]) (.agg #[.int .i64 y0, .int .i64 y1, .int .i64 y2, .int .i64 y3, .int .i64 y4])).run Tryd.prog W = .ok (.bool e0) W := fun W => by rw [eql_look, eq_ok HL.out HM.out HLP.out HMP.out, he]
  have HLV := Lib.hid hlv
  have HL0 : Hid (cmpE (0, 0, 0, 0, 0) (x0, x1, x2, x3, x4) = (lv, 0)) := Lib.hid (by
    rw [cmpE_ok (l := []) ⟨by simp, fun x hx => by cases hx⟩ HL.out (show pad5 [] = (0, 0, 0, 0, 0) from rfl) HLP.out, cmpL_nil, ← hlv]
    have hx : (l.length : Int) = x0 := congrArg Prod.fst HLP.out
    rw [← hx]
    by_cases h : l.length = 0
    · rw [if_pos h, if_pos (by omega)]
    · rw [if_neg h, if_neg (by omega)])
  have OC := Lib.hid (order_cases l m o v1 v2 v3 vb e0 h1 h2 h3 hb he)
  clear h1 h2 h3 hb he hlv
  go_wp2_with fail
  refine (pcompare_any x0 x1 x2 x3 x4 y0 y1 y2 y3 y4 _ v1 0 C1).mono ?_
  rintro e w5 ⟨rfl, hB⟩
  have B5 := Lib.hid (below_on B4.out (Nat.le_refl _) (made3 hB).2.2.2)
  have X5 := Lib.hid ((made3 hB).1)
  have Y5 := Lib.hid ((made3 hB).2.1)
  have Z5 := Lib.hid ((made3 hB).2.2.1)
  obtain ⟨cX0, cX1, cX2, cX3, cX4⟩ := X5.out.cell5
  obtain ⟨cY0, cY1, cY2, cY3, cY4⟩ := Y5.out.cell5
  obtain ⟨cZ0, cZ1, cZ2, cZ3, cZ4⟩ := Z5.out.cell5
  clear hB
  go_wp2_with fail
  refine (pcompare_any y0 y1 y2 y3 y4 u0 u1 u2 u3 u4 _ v2 0 C2).mono ?_
  rintro e w6 ⟨rfl, hB⟩
  have B6 := Lib.hid (below_on B5.out (Nat.le_refl _) hB)
  have X6 := Lib.hid (X5.out.below hB)
  have Y6 := Lib.hid (Y5.out.below hB)
  have Z6 := Lib.hid (Z5.out.below hB)
  clear cX0 cX1 cX2 cX3 cX4 cY0 cY1 cY2 cY3 cY4 cZ0 cZ1 cZ2 cZ3 cZ4
  obtain ⟨cX0, cX1, cX2, cX3, cX4⟩ := X6.out.cell5
  obtain ⟨cY0, cY1, cY2, cY3, cY4⟩ := Y6.out.cell5
  obtain ⟨cZ0, cZ1, cZ2, cZ3, cZ4⟩ := Z6.out.cell5
  clear hB B5 X5 Y5 Z5
  go_wp2_with fail
  refine (pcompare_any x0 x1 x2 x3 x4 u0 u1 u2 u3 u4 _ v3 0 C3).mono ?_
  rintro e w7 ⟨rfl, hB⟩
  have B7 := Lib.hid (below_on B6.out (Nat.le_refl _) hB)
  have X7 := Lib.hid (X6.out.below hB)
  have Y7 := Lib.hid (Y6.out.below hB)
  have Z7 := Lib.hid (Z6.out.below hB)
  clear cX0 cX1 cX2 cX3 cX4 cY0 cY1 cY2 cY3 cY4 cZ0 cZ1 cZ2 cZ3 cZ4
  obtain ⟨cX0, cX1, cX2, cX3, cX4⟩ := X7.out.cell5
  obtain ⟨cY0, cY1, cY2, cY3, cY4⟩ := Y7.out.cell5
  obtain ⟨cZ0, cZ1, cZ2, cZ3, cZ4⟩ := Z7.out.cell5
  clear hB B6 X6 Y6 Z6
  go_wp2_with fail
  refine (pcompare_any y0 y1 y2 y3 y4 x0 x1 x2 x3 x4 _ (-v1) 0 C4).mono ?_
  rintro e w8 ⟨rfl, hB⟩
  have B8 := Lib.hid (below_on B7.out (Nat.le_refl _) hB)
  have X8 := Lib.hid (X7.out.below hB)
  have Y8 := Lib.hid (Y7.out.below hB)
  have Z8 := Lib.hid (Z7.out.below hB)
  clear cX0 cX1 cX2 cX3 cX4 cY0 cY1 cY2 cY3 cY4 cZ0 cZ1 cZ2 cZ3 cZ4
  obtain ⟨cX0, cX1, cX2, cX3, cX4⟩ := X8.out.cell5
  obtain ⟨cY0, cY1, cY2, cY3, cY4⟩ := Y8.out.cell5
  obtain ⟨cZ0, cZ1, cZ2, cZ3, cZ4⟩ := Z8.out.cell5
  clear hB B7 X7 Y7 Z7
  go_wp2_with fail
  refine (pbegins_any x0 x1 x2 x3 x4 y0 y1 y2 y3 y4 _ vb 0 G1).mono ?_
  rintro e w9 ⟨rfl, hB⟩
  have B9 := Lib.hid (below_on B8.out (Nat.le_refl _) hB)
  have X9 := Lib.hid (X8.out.below hB)
  have Y9 := Lib.hid (Y8.out.below hB)
  have Z9 := Lib.hid (Z8.out.below hB)
  clear cX0 cX1 cX2 cX3 cX4 cY0 cY1 cY2 cY3 cY4 cZ0 cZ1 cZ2 cZ3 cZ4
  obtain ⟨cX0, cX1, cX2, cX3, cX4⟩ := X9.out.cell5
  obtain ⟨cY0, cY1, cY2, cY3, cY4⟩ := Y9.out.cell5
  obtain ⟨cZ0, cZ1, cZ2, cZ3, cZ4⟩ := Z9.out.cell5
  clear hB B8 X8 Y8 Z8
  clear cX0 cX1 cX2 cX3 cX4 cY0 cY1 cY2 cY3 cY4 cZ0 cZ1 cZ2 cZ3 cZ4
  have X8 := X9
  have Y8 := Y9
  clear X9 Y9 Z9 C1 C2 C3 C4 G1 HL HM HO HLP HMP HOP
  go_wp2_with fail
  rcases OC.out with ⟨rfl, rfl, rfl, rfl, rfl⟩ | ⟨rfl, rfl, rfl, rfl, rfl⟩ | ⟨rfl, rfl, rfl, rfl, rfl⟩ | ⟨rfl, rfl, rfl, rfl, rfl⟩ | ⟨rfl, rfl, rfl, rfl, rfl⟩ | ⟨rfl, rfl, rfl, rfl, rfl⟩ | ⟨rfl, rfl, rfl, rfl, rfl⟩ | ⟨rfl, rfl, rfl, rfl, rfl⟩ | ⟨rfl, rfl, rfl, rfl, rfl⟩ | ⟨rfl, rfl, rfl, rfl, rfl⟩ | ⟨rfl, rfl, rfl, rfl, rfl⟩ | ⟨rfl, rfl, rfl, rfl, rfl⟩ | ⟨rfl, rfl, rfl, rfl, rfl⟩ | ⟨rfl, rfl, rfl, rfl, rfl⟩ | ⟨rfl, rfl, rfl, rfl, rfl⟩ | ⟨rfl, rfl, rfl, rfl, rfl⟩ | ⟨rfl, rfl, rfl, rfl, rfl⟩ | ⟨rfl, rfl, rfl, rfl, rfl⟩ | ⟨rfl, rfl, rfl, rfl, rfl⟩ | ⟨rfl, rfl, rfl, rfl, rfl⟩ | ⟨rfl, rfl, rfl, rfl, rfl⟩
  · clear OC
    refine wp_region_last [.con (.bool true), .con (.bool true), .con (.int .i64 0), .con (.bool true), .con (.bool true), .con (.bool true), .con (.int .i64 0), .con (.bool true), .con (.bool true), .con (.bool true), .con (.int .i64 0), .con (.bool true), .con (.bool true), .con (.bool true), .con (.int .i64 0), .con (.bool true), .con (.bool true), .con (.bool true), .con (.int .i64 0), .con (.bool true), .con (.bool true), .con (.bool true), .con (.int .i64 1), .con (.int .i64 (-1)), .con (.int .i64 1), .con (.bool true), .con (.bool true), .con (.bool true), .con (.int .i64 (-1)), .con (.bool false), .con (.agg #[.int .i64 x0, .int .i64 x1, .int .i64 x2, .int .i64 x3, .int .i64 x4]), .con (.agg #[.int .i64 y0, .int .i64 y1, .int .i64 y2, .int .i64 y3, .int .i64 y4]), .con (.bool false), .con (.bool true), .con (.bool true), .con (.bool true), .con (.int .i64 (-1)), .con (.bool false), .con (.bool false), .con (.int .i64 (-1)), .con (.bool false), .con (.bool false), .con (.bool false), .con (.int .i64 (-1)), .con (.bool true), .con (.bool true), .con (.bool true), .con (.bool true), .con (.int .i64 (-1)), .con (.bool false), .con (.bool false), .con (.int .i64 (-1)), .con (.bool false), .con (.bool false), .con (.bool false), .con (.int .i64 (-1)), .con (.bool true), .con (.bool true), .con (.bool true), .con (.bool true), .con (.bool true), .con (.bool false), .con (.bool false), .con (.int .i64 (-1)), .con (.bool true), .con (.bool true), .con (.bool true), .con (.bool true), .con (.agg #[.int .i64 0, .int .i64 0, .int .i64 0, .int .i64 0, .int .i64 0]), .con (.agg #[.int .i64 x0, .int .i64 x1, .int .i64 x2, .int .i64 x3, .int .i64 x4]), .con (.agg #[.int .i64 x0, .int .i64 x1, .int .i64 x2, .int .i64 x3, .int .i64 x4]), .con (.int .i64 lv), .con (.bool true), .con (.bool true), .con (.bool true)] 6 74 (.bool true) (by kernel_rfl) (by kernel_rfl) (mkS_keeps (by kernel_rfl)) rfl rfl rfl ?steps ?fin
    case steps =>
      refine ⟨fun A w9 hB h => step_move_old h (by kernel_rfl) 7 rfl (by kernel_rfl) (by rfl), ?_⟩
      refine ⟨fun A w9 hB h => step_move h (by kernel_rfl) _ rfl (by kernel_rfl), ?_⟩
      refine ⟨fun A w9 hB h => step_move_old h (by kernel_rfl) 12 rfl (by kernel_rfl) (by rfl), ?_⟩
      refine ⟨fun A w9 hB h => step_bin h (by kernel_rfl) _ _ _ _ _ (.int .i64 0) (.int .i64 0) rfl (by kernel_rfl) (by kernel_rfl) (fun W => by kernel_rfl) (fun W => by kernel_rfl), ?_⟩
      refine ⟨fun A w9 hB h => step_pick h (by kernel_rfl) _ _ _ true rfl (by kernel_rfl) (by kernel_rfl), ?_⟩
      refine ⟨fun A w9 hB h => step_move h (by kernel_rfl) _ rfl (by kernel_rfl), ?_⟩
      refine ⟨fun A w9 hB h => step_move_old h (by kernel_rfl) 14 rfl (by kernel_rfl) (by rfl), ?_⟩
      refine ⟨fun A w9 hB h => step_bin h (by kernel_rfl) _ _ _ _ _ (.int .i64 0) (.int .i64 0) rfl (by kernel_rfl) (by kernel_rfl) (fun W => by kernel_rfl) (fun W => by kernel_rfl), ?_⟩
      refine ⟨fun A w9 hB h => step_pick h (by kernel_rfl) _ _ _ true rfl (by kernel_rfl) (by kernel_rfl), ?_⟩
      refine ⟨fun A w9 hB h => step_move h (by kernel_rfl) _ rfl (by kernel_rfl), ?_⟩
      refine ⟨fun A w9 hB h => step_move_old h (by kernel_rfl) 16 rfl (by kernel_rfl) (by rfl), ?_⟩
      refine ⟨fun A w9 hB h => step_bin h (by kernel_rfl) _ _ _ _ _ (.int .i64 0) (.int .i64 0) rfl (by kernel_rfl) (by kernel_rfl) (fun W => by kernel_rfl) (fun W => by kernel_rfl), ?_⟩
      refine ⟨fun A w9 hB h => step_pick h (by kernel_rfl) _ _ _ true rfl (by kernel_rfl) (by kernel_rfl), ?_⟩
      refine ⟨fun A w9 hB h => step_move h (by kernel_rfl) _ rfl (by kernel_rfl), ?_⟩
      refine ⟨fun A w9 hB h => step_move_old h (by kernel_rfl) 18 rfl (by kernel_rfl) (by rfl), ?_⟩
      refine ⟨fun A w9 hB h => step_bin h (by kernel_rfl) _ _ _ _ _ (.int .i64 0) (.int .i64 0) rfl (by kernel_rfl) (by kernel_rfl) (fun W => by kernel_rfl) (fun W => by kernel_rfl), ?_⟩
      refine ⟨fun A w9 hB h => step_pick h (by kernel_rfl) _ _ _ true rfl (by kernel_rfl) (by kernel_rfl), ?_⟩
      refine ⟨fun A w9 hB h => step_move h (by kernel_rfl) _ rfl (by kernel_rfl), ?_⟩
      refine ⟨fun A w9 hB h => step_move_old h (by kernel_rfl) 20 rfl (by kernel_rfl) (by rfl), ?_⟩
      refine ⟨fun A w9 hB h => step_bin h (by kernel_rfl) _ _ _ _ _ (.int .i64 0) (.int .i64 0) rfl (by kernel_rfl) (by kernel_rfl) (fun W => by kernel_rfl) (fun W => by kernel_rfl), ?_⟩
      refine ⟨fun A w9 hB h => step_pick h (by kernel_rfl) _ _ _ true rfl (by kernel_rfl) (by kernel_rfl), ?_⟩
      refine ⟨fun A w9 hB h => step_move h (by kernel_rfl) _ rfl (by kernel_rfl), ?_⟩
      refine ⟨fun A w9 hB h => step_move_old h (by kernel_rfl) 17 rfl (by kernel_rfl) (by rfl), ?_⟩
      refine ⟨fun A w9 hB h => step_move_old h (by kernel_rfl) 11 rfl (by kernel_rfl) (by rfl), ?_⟩
      refine ⟨fun A w9 hB h => step_un h (by kernel_rfl) _ _ _ (.int .i64 (-1)) rfl (by kernel_rfl) (by kernel_rfl), ?_⟩
      refine ⟨fun A w9 hB h => step_bin h (by kernel_rfl) _ _ _ _ _ (.int .i64 1) (.int .i64 1) rfl (by kernel_rfl) (by kernel_rfl) (fun W => by kernel_rfl) (fun W => by kernel_rfl), ?_⟩
      refine ⟨fun A w9 hB h => step_pick h (by kernel_rfl) _ _ _ true rfl (by kernel_rfl) (by kernel_rfl), ?_⟩
      refine ⟨fun A w9 hB h => step_move h (by kernel_rfl) _ rfl (by kernel_rfl), ?_⟩
      refine ⟨fun A w9 hB h => step_move_old h (by kernel_rfl) 11 rfl (by kernel_rfl) (by rfl), ?_⟩
      refine ⟨fun A w9 hB h => step_bin h (by kernel_rfl) _ _ _ _ _ (.int .i64 (-1)) (.int .i64 0) rfl (by kernel_rfl) (by kernel_rfl) (fun W => by kernel_rfl) (fun W => by kernel_rfl), ?_⟩
      refine ⟨fun A w9 hB h => step_load h (by kernel_rfl) _ _ (.pointer (some ⟨w4.heap.size, 0, none⟩)) rfl (h.old 8 (by kernel_rfl) (by rfl)) (load5 (X8.out.below hB)), ?_⟩
      refine ⟨fun A w9 hB h => step_load h (by kernel_rfl) _ _ (.pointer (some ⟨w4.heap.size + 1, 0, none⟩)) rfl (h.old 9 (by kernel_rfl) (by rfl)) (load5 (Y8.out.below hB)), ?_⟩
      refine ⟨fun A w9 hB h => step_bin h (by kernel_rfl) _ _ _ _ _ (.agg #[.int .i64 x0, .int .i64 x1, .int .i64 x2, .int .i64 x3, .int .i64 x4]) (.agg #[.int .i64 y0, .int .i64 y1, .int .i64 y2, .int .i64 y3, .int .i64 y4]) rfl (by kernel_rfl) (by kernel_rfl) (fun W => guard_look _ _ _ _ _ W) (fun W => zq W), ?_⟩
      refine ⟨fun A w9 hB h => step_bin h (by kernel_rfl) _ _ _ _ _ (.bool false) (.bool false) rfl (by kernel_rfl) (by kernel_rfl) (fun W => by kernel_rfl) (fun W => by kernel_rfl), ?_⟩
      refine ⟨fun A w9 hB h => step_pick h (by kernel_rfl) _ _ _ true rfl (by kernel_rfl) (by kernel_rfl), ?_⟩
      refine ⟨fun A w9 hB h => step_move h (by kernel_rfl) _ rfl (by kernel_rfl), ?_⟩
      refine ⟨fun A w9 hB h => step_move_old h (by kernel_rfl) 11 rfl (by kernel_rfl) (by rfl), ?_⟩
      refine ⟨fun A w9 hB h => step_bin h (by kernel_rfl) _ _ _ _ _ (.int .i64 (-1)) (.int .i64 0) rfl (by kernel_rfl) (by kernel_rfl) (fun W => by kernel_rfl) (fun W => by kernel_rfl), ?_⟩
      refine ⟨fun A w9 hB h => step_move h (by kernel_rfl) _ rfl (by kernel_rfl), ?_⟩
      refine ⟨fun A w9 hB h => step_move_old h (by kernel_rfl) 13 rfl (by kernel_rfl) (by rfl), ?_⟩
      refine ⟨fun A w9 hB h => step_bin h (by kernel_rfl) _ _ _ _ _ (.int .i64 (-1)) (.int .i64 0) rfl (by kernel_rfl) (by kernel_rfl) (fun W => by kernel_rfl) (fun W => by kernel_rfl), ?_⟩
      refine ⟨fun A w9 hB h => step_pick h (by kernel_rfl) _ _ _ false rfl (by kernel_rfl) (by kernel_rfl), ?_⟩
      refine ⟨fun A w9 hB h => step_move h (by kernel_rfl) _ rfl (by kernel_rfl), ?_⟩
      refine ⟨fun A w9 hB h => step_move_old h (by kernel_rfl) 15 rfl (by kernel_rfl) (by rfl), ?_⟩
      refine ⟨fun A w9 hB h => step_bin h (by kernel_rfl) _ _ _ _ _ (.int .i64 (-1)) (.int .i64 0) rfl (by kernel_rfl) (by kernel_rfl) (fun W => by kernel_rfl) (fun W => by kernel_rfl), ?_⟩
      refine ⟨fun A w9 hB h => step_pick h (by kernel_rfl) _ _ _ false rfl (by kernel_rfl) (by kernel_rfl), ?_⟩
      refine ⟨fun A w9 hB h => step_pick h (by kernel_rfl) _ _ _ true rfl (by kernel_rfl) (by kernel_rfl), ?_⟩
      refine ⟨fun A w9 hB h => step_move h (by kernel_rfl) _ rfl (by kernel_rfl), ?_⟩
      refine ⟨fun A w9 hB h => step_move_old h (by kernel_rfl) 11 rfl (by kernel_rfl) (by rfl), ?_⟩
      refine ⟨fun A w9 hB h => step_bin h (by kernel_rfl) _ _ _ _ _ (.int .i64 (-1)) (.int .i64 0) rfl (by kernel_rfl) (by kernel_rfl) (fun W => by kernel_rfl) (fun W => by kernel_rfl), ?_⟩
      refine ⟨fun A w9 hB h => step_move h (by kernel_rfl) _ rfl (by kernel_rfl), ?_⟩
      refine ⟨fun A w9 hB h => step_move_old h (by kernel_rfl) 13 rfl (by kernel_rfl) (by rfl), ?_⟩
      refine ⟨fun A w9 hB h => step_bin h (by kernel_rfl) _ _ _ _ _ (.int .i64 (-1)) (.int .i64 0) rfl (by kernel_rfl) (by kernel_rfl) (fun W => by kernel_rfl) (fun W => by kernel_rfl), ?_⟩
      refine ⟨fun A w9 hB h => step_pick h (by kernel_rfl) _ _ _ false rfl (by kernel_rfl) (by kernel_rfl), ?_⟩
      refine ⟨fun A w9 hB h => step_move h (by kernel_rfl) _ rfl (by kernel_rfl), ?_⟩
      refine ⟨fun A w9 hB h => step_move_old h (by kernel_rfl) 15 rfl (by kernel_rfl) (by rfl), ?_⟩
      refine ⟨fun A w9 hB h => step_bin h (by kernel_rfl) _ _ _ _ _ (.int .i64 (-1)) (.int .i64 0) rfl (by kernel_rfl) (by kernel_rfl) (fun W => by kernel_rfl) (fun W => by kernel_rfl), ?_⟩
      refine ⟨fun A w9 hB h => step_pick h (by kernel_rfl) _ _ _ false rfl (by kernel_rfl) (by kernel_rfl), ?_⟩
      refine ⟨fun A w9 hB h => step_pick h (by kernel_rfl) _ _ _ true rfl (by kernel_rfl) (by kernel_rfl), ?_⟩
      refine ⟨fun A w9 hB h => step_move h (by kernel_rfl) _ rfl (by kernel_rfl), ?_⟩
      refine ⟨fun A w9 hB h => step_move_old h (by kernel_rfl) 19 rfl (by kernel_rfl) (by rfl), ?_⟩
      refine ⟨fun A w9 hB h => step_un h (by kernel_rfl) _ _ _ (.bool true) rfl (by kernel_rfl) (by kernel_rfl), ?_⟩
      refine ⟨fun A w9 hB h => step_move h (by kernel_rfl) _ rfl (by kernel_rfl), ?_⟩
      refine ⟨fun A w9 hB h => step_move_old h (by kernel_rfl) 11 rfl (by kernel_rfl) (by rfl), ?_⟩
      refine ⟨fun A w9 hB h => step_bin h (by kernel_rfl) _ _ _ _ _ (.int .i64 (-1)) (.int .i64 0) rfl (by kernel_rfl) (by kernel_rfl) (fun W => by kernel_rfl) (fun W => by kernel_rfl), ?_⟩
      refine ⟨fun A w9 hB h => step_pick h (by kernel_rfl) _ _ _ false rfl (by kernel_rfl) (by kernel_rfl), ?_⟩
      refine ⟨fun A w9 hB h => step_pick h (by kernel_rfl) _ _ _ true rfl (by kernel_rfl) (by kernel_rfl), ?_⟩
      refine ⟨fun A w9 hB h => step_move h (by kernel_rfl) _ rfl (by kernel_rfl), ?_⟩
      refine ⟨fun A w9 hB h => step_call_con h (by kernel_rfl) _ _ [.slice none 0 0] rfl rfl (by kernel_rfl) (by kernel_rfl) (lof_any none 0 [] w9 (by simp) (Lib.hid (fun i hi => by simp at hi)) 0 0 0 0 0 0 (Lib.hid (by decide))), ?_⟩
      refine ⟨fun A w9 hB h => step_load h (by kernel_rfl) _ _ (.pointer (some ⟨w4.heap.size, 0, none⟩)) rfl (h.old 8 (by kernel_rfl) (by rfl)) (load5 (X8.out.below hB)), ?_⟩
      refine ⟨fun A w9 hB h => step_load h (by kernel_rfl) _ _ (.pointer (some ⟨w4.heap.size, 0, none⟩)) rfl (h.old 8 (by kernel_rfl) (by rfl)) (load5 (X8.out.below hB)), ?_⟩
      refine ⟨fun A w9 hB h => step_call_con h (by kernel_rfl) _ _ [.agg #[.int .i64 x0, .int .i64 x1, .int .i64 x2, .int .i64 x3, .int .i64 x4]] rfl rfl (by kernel_rfl) (by kernel_rfl) (lleast_any x0 x1 x2 x3 x4 w9 lv HLV.out), ?_⟩
      refine ⟨fun A w9 hB h => step_call_con h (by kernel_rfl) _ _ [.agg #[.int .i64 0, .int .i64 0, .int .i64 0, .int .i64 0, .int .i64 0], .agg #[.int .i64 x0, .int .i64 x1, .int .i64 x2, .int .i64 x3, .int .i64 x4], .int .i64 lv] rfl rfl (by kernel_rfl) (by kernel_rfl) ((lcompares_any 0 0 0 0 0 x0 x1 x2 x3 x4 w9 lv lv 0 rfl HL0).mono (fun e w8 q => by simpa using q)), ?_⟩
      refine ⟨fun A w9 hB h => step_pick h (by kernel_rfl) _ _ _ true rfl (by kernel_rfl) (by kernel_rfl), ?_⟩
      refine ⟨fun A w9 hB h => step_assign h (by kernel_rfl) _ rfl (by kernel_rfl), ?_⟩
      exact trivial
    case fin =>
      intro B w8 hB hsz hdf hold
      clear hold
      have B8 := Lib.hid (below_on B9.out (Nat.le_refl _) hB)
      have hs : B.tmps.size = 132 := hsz.trans (by rfl)
      clear hB hsz
      rename_i K hK
      refine hK _ _ ?_
      clear hK
      go_wp2
      exact bodyPost_ret (v := .bool true) (by simp [results, Tryd.results7, go_sem, hs]) rfl ⟨rfl, B8.out⟩
  · clear OC
    refine wp_region_last [.con (.bool true), .con (.bool true), .con (.int .i64 0), .con (.bool true), .con (.bool true), .con (.bool true), .con (.int .i64 0), .con (.bool true), .con (.bool true), .con (.bool true), .con (.int .i64 0), .con (.bool true), .con (.bool true), .con (.bool true), .con (.int .i64 0), .con (.bool true), .con (.bool true), .con (.bool true), .con (.int .i64 0), .con (.bool true), .con (.bool true), .con (.bool true), .con (.int .i64 1), .con (.int .i64 (-1)), .con (.int .i64 1), .con (.bool true), .con (.bool true), .con (.bool true), .con (.int .i64 (-1)), .con (.bool false), .con (.agg #[.int .i64 x0, .int .i64 x1, .int .i64 x2, .int .i64 x3, .int .i64 x4]), .con (.agg #[.int .i64 y0, .int .i64 y1, .int .i64 y2, .int .i64 y3, .int .i64 y4]), .con (.bool false), .con (.bool true), .con (.bool true), .con (.bool true), .con (.int .i64 (-1)), .con (.bool false), .con (.bool false), .con (.int .i64 (-1)), .con (.bool false), .con (.bool false), .con (.bool false), .con (.int .i64 (-1)), .con (.bool true), .con (.bool true), .con (.bool true), .con (.bool true), .con (.int .i64 (-1)), .con (.bool false), .con (.bool false), .con (.int .i64 (-1)), .con (.bool false), .con (.bool false), .con (.bool false), .con (.int .i64 (-1)), .con (.bool true), .con (.bool true), .con (.bool true), .con (.bool true), .con (.bool false), .con (.bool true), .con (.bool true), .con (undef), .con (undef), .con (.bool true), .con (.bool true), .con (.bool true), .con (.agg #[.int .i64 0, .int .i64 0, .int .i64 0, .int .i64 0, .int .i64 0]), .con (.agg #[.int .i64 x0, .int .i64 x1, .int .i64 x2, .int .i64 x3, .int .i64 x4]), .con (.agg #[.int .i64 x0, .int .i64 x1, .int .i64 x2, .int .i64 x3, .int .i64 x4]), .con (.int .i64 lv), .con (.bool true), .con (.bool true), .con (.bool true)] 6 74 (.bool true) (by kernel_rfl) (by kernel_rfl) (mkS_keeps (by kernel_rfl)) rfl rfl rfl ?steps ?fin
    case steps =>
      refine ⟨fun A w9 hB h => step_move_old h (by kernel_rfl) 7 rfl (by kernel_rfl) (by rfl), ?_⟩
      refine ⟨fun A w9 hB h => step_move h (by kernel_rfl) _ rfl (by kernel_rfl), ?_⟩
      refine ⟨fun A w9 hB h => step_move_old h (by kernel_rfl) 12 rfl (by kernel_rfl) (by rfl), ?_⟩
      refine ⟨fun A w9 hB h => step_bin h (by kernel_rfl) _ _ _ _ _ (.int .i64 0) (.int .i64 0) rfl (by kernel_rfl) (by kernel_rfl) (fun W => by kernel_rfl) (fun W => by kernel_rfl), ?_⟩
      refine ⟨fun A w9 hB h => step_pick h (by kernel_rfl) _ _ _ true rfl (by kernel_rfl) (by kernel_rfl), ?_⟩
      refine ⟨fun A w9 hB h => step_move h (by kernel_rfl) _ rfl (by kernel_rfl), ?_⟩
      refine ⟨fun A w9 hB h => step_move_old h (by kernel_rfl) 14 rfl (by kernel_rfl) (by rfl), ?_⟩
      refine ⟨fun A w9 hB h => step_bin h (by kernel_rfl) _ _ _ _ _ (.int .i64 0) (.int .i64 0) rfl (by kernel_rfl) (by kernel_rfl) (fun W => by kernel_rfl) (fun W => by kernel_rfl), ?_⟩
      refine ⟨fun A w9 hB h => step_pick h (by kernel_rfl) _ _ _ true rfl (by kernel_rfl) (by kernel_rfl), ?_⟩
      refine ⟨fun A w9 hB h => step_move h (by kernel_rfl) _ rfl (by kernel_rfl), ?_⟩
      refine ⟨fun A w9 hB h => step_move_old h (by kernel_rfl) 16 rfl (by kernel_rfl) (by rfl), ?_⟩
      refine ⟨fun A w9 hB h => step_bin h (by kernel_rfl) _ _ _ _ _ (.int .i64 0) (.int .i64 0) rfl (by kernel_rfl) (by kernel_rfl) (fun W => by kernel_rfl) (fun W => by kernel_rfl), ?_⟩
      refine ⟨fun A w9 hB h => step_pick h (by kernel_rfl) _ _ _ true rfl (by kernel_rfl) (by kernel_rfl), ?_⟩
      refine ⟨fun A w9 hB h => step_move h (by kernel_rfl) _ rfl (by kernel_rfl), ?_⟩
      refine ⟨fun A w9 hB h => step_move_old h (by kernel_rfl) 18 rfl (by kernel_rfl) (by rfl), ?_⟩
      refine ⟨fun A w9 hB h => step_bin h (by kernel_rfl) _ _ _ _ _ (.int .i64 0) (.int .i64 0) rfl (by kernel_rfl) (by kernel_rfl) (fun W => by kernel_rfl) (fun W => by kernel_rfl), ?_⟩
      refine ⟨fun A w9 hB h => step_pick h (by kernel_rfl) _ _ _ true rfl (by kernel_rfl) (by kernel_rfl), ?_⟩
      refine ⟨fun A w9 hB h => step_move h (by kernel_rfl) _ rfl (by kernel_rfl), ?_⟩
      refine ⟨fun A w9 hB h => step_move_old h (by kernel_rfl) 20 rfl (by kernel_rfl) (by rfl), ?_⟩
      refine ⟨fun A w9 hB h => step_bin h (by kernel_rfl) _ _ _ _ _ (.int .i64 0) (.int .i64 0) rfl (by kernel_rfl) (by kernel_rfl) (fun W => by kernel_rfl) (fun W => by kernel_rfl), ?_⟩
      refine ⟨fun A w9 hB h => step_pick h (by kernel_rfl) _ _ _ true rfl (by kernel_rfl) (by kernel_rfl), ?_⟩
      refine ⟨fun A w9 hB h => step_move h (by kernel_rfl) _ rfl (by kernel_rfl), ?_⟩
      refine ⟨fun A w9 hB h => step_move_old h (by kernel_rfl) 17 rfl (by kernel_rfl) (by rfl), ?_⟩
      refine ⟨fun A w9 hB h => step_move_old h (by kernel_rfl) 11 rfl (by kernel_rfl) (by rfl), ?_⟩
      refine ⟨fun A w9 hB h => step_un h (by kernel_rfl) _ _ _ (.int .i64 (-1)) rfl (by kernel_rfl) (by kernel_rfl), ?_⟩
      refine ⟨fun A w9 hB h => step_bin h (by kernel_rfl) _ _ _ _ _ (.int .i64 1) (.int .i64 1) rfl (by kernel_rfl) (by kernel_rfl) (fun W => by kernel_rfl) (fun W => by kernel_rfl), ?_⟩
      refine ⟨fun A w9 hB h => step_pick h (by kernel_rfl) _ _ _ true rfl (by kernel_rfl) (by kernel_rfl), ?_⟩
      refine ⟨fun A w9 hB h => step_move h (by kernel_rfl) _ rfl (by kernel_rfl), ?_⟩
      refine ⟨fun A w9 hB h => step_move_old h (by kernel_rfl) 11 rfl (by kernel_rfl) (by rfl), ?_⟩
      refine ⟨fun A w9 hB h => step_bin h (by kernel_rfl) _ _ _ _ _ (.int .i64 (-1)) (.int .i64 0) rfl (by kernel_rfl) (by kernel_rfl) (fun W => by kernel_rfl) (fun W => by kernel_rfl), ?_⟩
      refine ⟨fun A w9 hB h => step_load h (by kernel_rfl) _ _ (.pointer (some ⟨w4.heap.size, 0, none⟩)) rfl (h.old 8 (by kernel_rfl) (by rfl)) (load5 (X8.out.below hB)), ?_⟩
      refine ⟨fun A w9 hB h => step_load h (by kernel_rfl) _ _ (.pointer (some ⟨w4.heap.size + 1, 0, none⟩)) rfl (h.old 9 (by kernel_rfl) (by rfl)) (load5 (Y8.out.below hB)), ?_⟩
      refine ⟨fun A w9 hB h => step_bin h (by kernel_rfl) _ _ _ _ _ (.agg #[.int .i64 x0, .int .i64 x1, .int .i64 x2, .int .i64 x3, .int .i64 x4]) (.agg #[.int .i64 y0, .int .i64 y1, .int .i64 y2, .int .i64 y3, .int .i64 y4]) rfl (by kernel_rfl) (by kernel_rfl) (fun W => guard_look _ _ _ _ _ W) (fun W => zq W), ?_⟩
      refine ⟨fun A w9 hB h => step_bin h (by kernel_rfl) _ _ _ _ _ (.bool false) (.bool false) rfl (by kernel_rfl) (by kernel_rfl) (fun W => by kernel_rfl) (fun W => by kernel_rfl), ?_⟩
      refine ⟨fun A w9 hB h => step_pick h (by kernel_rfl) _ _ _ true rfl (by kernel_rfl) (by kernel_rfl), ?_⟩
      refine ⟨fun A w9 hB h => step_move h (by kernel_rfl) _ rfl (by kernel_rfl), ?_⟩
      refine ⟨fun A w9 hB h => step_move_old h (by kernel_rfl) 11 rfl (by kernel_rfl) (by rfl), ?_⟩
      refine ⟨fun A w9 hB h => step_bin h (by kernel_rfl) _ _ _ _ _ (.int .i64 (-1)) (.int .i64 0) rfl (by kernel_rfl) (by kernel_rfl) (fun W => by kernel_rfl) (fun W => by kernel_rfl), ?_⟩
      refine ⟨fun A w9 hB h => step_move h (by kernel_rfl) _ rfl (by kernel_rfl), ?_⟩
      refine ⟨fun A w9 hB h => step_move_old h (by kernel_rfl) 13 rfl (by kernel_rfl) (by rfl), ?_⟩
      refine ⟨fun A w9 hB h => step_bin h (by kernel_rfl) _ _ _ _ _ (.int .i64 (-1)) (.int .i64 0) rfl (by kernel_rfl) (by kernel_rfl) (fun W => by kernel_rfl) (fun W => by kernel_rfl), ?_⟩
      refine ⟨fun A w9 hB h => step_pick h (by kernel_rfl) _ _ _ false rfl (by kernel_rfl) (by kernel_rfl), ?_⟩
      refine ⟨fun A w9 hB h => step_move h (by kernel_rfl) _ rfl (by kernel_rfl), ?_⟩
      refine ⟨fun A w9 hB h => step_move_old h (by kernel_rfl) 15 rfl (by kernel_rfl) (by rfl), ?_⟩
      refine ⟨fun A w9 hB h => step_bin h (by kernel_rfl) _ _ _ _ _ (.int .i64 (-1)) (.int .i64 0) rfl (by kernel_rfl) (by kernel_rfl) (fun W => by kernel_rfl) (fun W => by kernel_rfl), ?_⟩
      refine ⟨fun A w9 hB h => step_pick h (by kernel_rfl) _ _ _ false rfl (by kernel_rfl) (by kernel_rfl), ?_⟩
      refine ⟨fun A w9 hB h => step_pick h (by kernel_rfl) _ _ _ true rfl (by kernel_rfl) (by kernel_rfl), ?_⟩
      refine ⟨fun A w9 hB h => step_move h (by kernel_rfl) _ rfl (by kernel_rfl), ?_⟩
      refine ⟨fun A w9 hB h => step_move_old h (by kernel_rfl) 11 rfl (by kernel_rfl) (by rfl), ?_⟩
      refine ⟨fun A w9 hB h => step_bin h (by kernel_rfl) _ _ _ _ _ (.int .i64 (-1)) (.int .i64 0) rfl (by kernel_rfl) (by kernel_rfl) (fun W => by kernel_rfl) (fun W => by kernel_rfl), ?_⟩
      refine ⟨fun A w9 hB h => step_move h (by kernel_rfl) _ rfl (by kernel_rfl), ?_⟩
      refine ⟨fun A w9 hB h => step_move_old h (by kernel_rfl) 13 rfl (by kernel_rfl) (by rfl), ?_⟩
      refine ⟨fun A w9 hB h => step_bin h (by kernel_rfl) _ _ _ _ _ (.int .i64 (-1)) (.int .i64 0) rfl (by kernel_rfl) (by kernel_rfl) (fun W => by kernel_rfl) (fun W => by kernel_rfl), ?_⟩
      refine ⟨fun A w9 hB h => step_pick h (by kernel_rfl) _ _ _ false rfl (by kernel_rfl) (by kernel_rfl), ?_⟩
      refine ⟨fun A w9 hB h => step_move h (by kernel_rfl) _ rfl (by kernel_rfl), ?_⟩
      refine ⟨fun A w9 hB h => step_move_old h (by kernel_rfl) 15 rfl (by kernel_rfl) (by rfl), ?_⟩
      refine ⟨fun A w9 hB h => step_bin h (by kernel_rfl) _ _ _ _ _ (.int .i64 (-1)) (.int .i64 0) rfl (by kernel_rfl) (by kernel_rfl) (fun W => by kernel_rfl) (fun W => by kernel_rfl), ?_⟩
      refine ⟨fun A w9 hB h => step_pick h (by kernel_rfl) _ _ _ false rfl (by kernel_rfl) (by kernel_rfl), ?_⟩
      refine ⟨fun A w9 hB h => step_pick h (by kernel_rfl) _ _ _ true rfl (by kernel_rfl) (by kernel_rfl), ?_⟩
      refine ⟨fun A w9 hB h => step_move h (by kernel_rfl) _ rfl (by kernel_rfl), ?_⟩
      refine ⟨fun A w9 hB h => step_move_old h (by kernel_rfl) 19 rfl (by kernel_rfl) (by rfl), ?_⟩
      refine ⟨fun A w9 hB h => step_un h (by kernel_rfl) _ _ _ (.bool false) rfl (by kernel_rfl) (by kernel_rfl), ?_⟩
      refine ⟨fun A w9 hB h => step_move h (by kernel_rfl) _ rfl (by kernel_rfl), ?_⟩
      refine ⟨fun A w9 hB h => kit.step_skip h (by kernel_rfl), ?_⟩
      refine ⟨fun A w9 hB h => kit.step_skip h (by kernel_rfl), ?_⟩
      refine ⟨fun A w9 hB h => step_pick h (by kernel_rfl) _ _ _ true rfl (by kernel_rfl) (by kernel_rfl), ?_⟩
      refine ⟨fun A w9 hB h => step_pick h (by kernel_rfl) _ _ _ true rfl (by kernel_rfl) (by kernel_rfl), ?_⟩
      refine ⟨fun A w9 hB h => step_move h (by kernel_rfl) _ rfl (by kernel_rfl), ?_⟩
      refine ⟨fun A w9 hB h => step_call_con h (by kernel_rfl) _ _ [.slice none 0 0] rfl rfl (by kernel_rfl) (by kernel_rfl) (lof_any none 0 [] w9 (by simp) (Lib.hid (fun i hi => by simp at hi)) 0 0 0 0 0 0 (Lib.hid (by decide))), ?_⟩
      refine ⟨fun A w9 hB h => step_load h (by kernel_rfl) _ _ (.pointer (some ⟨w4.heap.size, 0, none⟩)) rfl (h.old 8 (by kernel_rfl) (by rfl)) (load5 (X8.out.below hB)), ?_⟩
      refine ⟨fun A w9 hB h => step_load h (by kernel_rfl) _ _ (.pointer (some ⟨w4.heap.size, 0, none⟩)) rfl (h.old 8 (by kernel_rfl) (by rfl)) (load5 (X8.out.below hB)), ?_⟩
      refine ⟨fun A w9 hB h => step_call_con h (by kernel_rfl) _ _ [.agg #[.int .i64 x0, .int .i64 x1, .int .i64 x2, .int .i64 x3, .int .i64 x4]] rfl rfl (by kernel_rfl) (by kernel_rfl) (lleast_any x0 x1 x2 x3 x4 w9 lv HLV.out), ?_⟩
      refine ⟨fun A w9 hB h => step_call_con h (by kernel_rfl) _ _ [.agg #[.int .i64 0, .int .i64 0, .int .i64 0, .int .i64 0, .int .i64 0], .agg #[.int .i64 x0, .int .i64 x1, .int .i64 x2, .int .i64 x3, .int .i64 x4], .int .i64 lv] rfl rfl (by kernel_rfl) (by kernel_rfl) ((lcompares_any 0 0 0 0 0 x0 x1 x2 x3 x4 w9 lv lv 0 rfl HL0).mono (fun e w8 q => by simpa using q)), ?_⟩
      refine ⟨fun A w9 hB h => step_pick h (by kernel_rfl) _ _ _ true rfl (by kernel_rfl) (by kernel_rfl), ?_⟩
      refine ⟨fun A w9 hB h => step_assign h (by kernel_rfl) _ rfl (by kernel_rfl), ?_⟩
      exact trivial
    case fin =>
      intro B w8 hB hsz hdf hold
      clear hold
      have B8 := Lib.hid (below_on B9.out (Nat.le_refl _) hB)
      have hs : B.tmps.size = 132 := hsz.trans (by rfl)
      clear hB hsz
      rename_i K hK
      refine hK _ _ ?_
      clear hK
      go_wp2
      exact bodyPost_ret (v := .bool true) (by simp [results, Tryd.results7, go_sem, hs]) rfl ⟨rfl, B8.out⟩
  · clear OC
    refine wp_region_last [.con (.bool true), .con (.bool true), .con (.int .i64 0), .con (.bool true), .con (.bool true), .con (.bool true), .con (.int .i64 0), .con (.bool true), .con (.bool true), .con (.bool true), .con (.int .i64 0), .con (.bool true), .con (.bool true), .con (.bool true), .con (.int .i64 0), .con (.bool true), .con (.bool true), .con (.bool true), .con (.int .i64 0), .con (.bool true), .con (.bool true), .con (.bool true), .con (.int .i64 1), .con (.int .i64 (-1)), .con (.int .i64 1), .con (.bool true), .con (.bool true), .con (.bool true), .con (.int .i64 (-1)), .con (.bool false), .con (.agg #[.int .i64 x0, .int .i64 x1, .int .i64 x2, .int .i64 x3, .int .i64 x4]), .con (.agg #[.int .i64 y0, .int .i64 y1, .int .i64 y2, .int .i64 y3, .int .i64 y4]), .con (.bool false), .con (.bool true), .con (.bool true), .con (.bool true), .con (.int .i64 (-1)), .con (.bool false), .con (.bool false), .con (.int .i64 0), .con (.bool false), .con (.bool false), .con (.bool false), .con (.int .i64 (-1)), .con (.bool true), .con (.bool true), .con (.bool true), .con (.bool true), .con (.int .i64 (-1)), .con (.bool false), .con (.bool false), .con (.int .i64 0), .con (.bool false), .con (.bool false), .con (.bool false), .con (.int .i64 (-1)), .con (.bool true), .con (.bool true), .con (.bool true), .con (.bool true), .con (.bool true), .con (.bool false), .con (.bool false), .con (.int .i64 (-1)), .con (.bool true), .con (.bool true), .con (.bool true), .con (.bool true), .con (.agg #[.int .i64 0, .int .i64 0, .int .i64 0, .int .i64 0, .int .i64 0]), .con (.agg #[.int .i64 x0, .int .i64 x1, .int .i64 x2, .int .i64 x3, .int .i64 x4]), .con (.agg #[.int .i64 x0, .int .i64 x1, .int .i64 x2, .int .i64 x3, .int .i64 x4]), .con (.int .i64 lv), .con (.bool true), .con (.bool true), .con (.bool true)] 6 74 (.bool true) (by kernel_rfl) (by kernel_rfl) (mkS_keeps (by kernel_rfl)) rfl rfl rfl ?steps ?fin
    case steps =>
      refine ⟨fun A w9 hB h => step_move_old h (by kernel_rfl) 7 rfl (by kernel_rfl) (by rfl), ?_⟩
      refine ⟨fun A w9 hB h => step_move h (by kernel_rfl) _ rfl (by kernel_rfl), ?_⟩
      refine ⟨fun A w9 hB h => step_move_old h (by kernel_rfl) 12 rfl (by kernel_rfl) (by rfl), ?_⟩
      refine ⟨fun A w9 hB h => step_bin h (by kernel_rfl) _ _ _ _ _ (.int .i64 0) (.int .i64 0) rfl (by kernel_rfl) (by kernel_rfl) (fun W => by kernel_rfl) (fun W => by kernel_rfl), ?_⟩
      refine ⟨fun A w9 hB h => step_pick h (by kernel_rfl) _ _ _ true rfl (by kernel_rfl) (by kernel_rfl), ?_⟩
      refine ⟨fun A w9 hB h => step_move h (by kernel_rfl) _ rfl (by kernel_rfl), ?_⟩
      refine ⟨fun A w9 hB h => step_move_old h (by kernel_rfl) 14 rfl (by kernel_rfl) (by rfl), ?_⟩
      refine ⟨fun A w9 hB h => step_bin h (by kernel_rfl) _ _ _ _ _ (.int .i64 0) (.int .i64 0) rfl (by kernel_rfl) (by kernel_rfl) (fun W => by kernel_rfl) (fun W => by kernel_rfl), ?_⟩
      refine ⟨fun A w9 hB h => step_pick h (by kernel_rfl) _ _ _ true rfl (by kernel_rfl) (by kernel_rfl), ?_⟩
      refine ⟨fun A w9 hB h => step_move h (by kernel_rfl) _ rfl (by kernel_rfl), ?_⟩
      refine ⟨fun A w9 hB h => step_move_old h (by kernel_rfl) 16 rfl (by kernel_rfl) (by rfl), ?_⟩
      refine ⟨fun A w9 hB h => step_bin h (by kernel_rfl) _ _ _ _ _ (.int .i64 0) (.int .i64 0) rfl (by kernel_rfl) (by kernel_rfl) (fun W => by kernel_rfl) (fun W => by kernel_rfl), ?_⟩
      refine ⟨fun A w9 hB h => step_pick h (by kernel_rfl) _ _ _ true rfl (by kernel_rfl) (by kernel_rfl), ?_⟩
      refine ⟨fun A w9 hB h => step_move h (by kernel_rfl) _ rfl (by kernel_rfl), ?_⟩
      refine ⟨fun A w9 hB h => step_move_old h (by kernel_rfl) 18 rfl (by kernel_rfl) (by rfl), ?_⟩
      refine ⟨fun A w9 hB h => step_bin h (by kernel_rfl) _ _ _ _ _ (.int .i64 0) (.int .i64 0) rfl (by kernel_rfl) (by kernel_rfl) (fun W => by kernel_rfl) (fun W => by kernel_rfl), ?_⟩
      refine ⟨fun A w9 hB h => step_pick h (by kernel_rfl) _ _ _ true rfl (by kernel_rfl) (by kernel_rfl), ?_⟩
      refine ⟨fun A w9 hB h => step_move h (by kernel_rfl) _ rfl (by kernel_rfl), ?_⟩
      refine ⟨fun A w9 hB h => step_move_old h (by kernel_rfl) 20 rfl (by kernel_rfl) (by rfl), ?_⟩
      refine ⟨fun A w9 hB h => step_bin h (by kernel_rfl) _ _ _ _ _ (.int .i64 0) (.int .i64 0) rfl (by kernel_rfl) (by kernel_rfl) (fun W => by kernel_rfl) (fun W => by kernel_rfl), ?_⟩
      refine ⟨fun A w9 hB h => step_pick h (by kernel_rfl) _ _ _ true rfl (by kernel_rfl) (by kernel_rfl), ?_⟩
      refine ⟨fun A w9 hB h => step_move h (by kernel_rfl) _ rfl (by kernel_rfl), ?_⟩
      refine ⟨fun A w9 hB h => step_move_old h (by kernel_rfl) 17 rfl (by kernel_rfl) (by rfl), ?_⟩
      refine ⟨fun A w9 hB h => step_move_old h (by kernel_rfl) 11 rfl (by kernel_rfl) (by rfl), ?_⟩
      refine ⟨fun A w9 hB h => step_un h (by kernel_rfl) _ _ _ (.int .i64 (-1)) rfl (by kernel_rfl) (by kernel_rfl), ?_⟩
      refine ⟨fun A w9 hB h => step_bin h (by kernel_rfl) _ _ _ _ _ (.int .i64 1) (.int .i64 1) rfl (by kernel_rfl) (by kernel_rfl) (fun W => by kernel_rfl) (fun W => by kernel_rfl), ?_⟩
      refine ⟨fun A w9 hB h => step_pick h (by kernel_rfl) _ _ _ true rfl (by kernel_rfl) (by kernel_rfl), ?_⟩
      refine ⟨fun A w9 hB h => step_move h (by kernel_rfl) _ rfl (by kernel_rfl), ?_⟩
      refine ⟨fun A w9 hB h => step_move_old h (by kernel_rfl) 11 rfl (by kernel_rfl) (by rfl), ?_⟩
      refine ⟨fun A w9 hB h => step_bin h (by kernel_rfl) _ _ _ _ _ (.int .i64 (-1)) (.int .i64 0) rfl (by kernel_rfl) (by kernel_rfl) (fun W => by kernel_rfl) (fun W => by kernel_rfl), ?_⟩
      refine ⟨fun A w9 hB h => step_load h (by kernel_rfl) _ _ (.pointer (some ⟨w4.heap.size, 0, none⟩)) rfl (h.old 8 (by kernel_rfl) (by rfl)) (load5 (X8.out.below hB)), ?_⟩
      refine ⟨fun A w9 hB h => step_load h (by kernel_rfl) _ _ (.pointer (some ⟨w4.heap.size + 1, 0, none⟩)) rfl (h.old 9 (by kernel_rfl) (by rfl)) (load5 (Y8.out.below hB)), ?_⟩
      refine ⟨fun A w9 hB h => step_bin h (by kernel_rfl) _ _ _ _ _ (.agg #[.int .i64 x0, .int .i64 x1, .int .i64 x2, .int .i64 x3, .int .i64 x4]) (.agg #[.int .i64 y0, .int .i64 y1, .int .i64 y2, .int .i64 y3, .int .i64 y4]) rfl (by kernel_rfl) (by kernel_rfl) (fun W => guard_look _ _ _ _ _ W) (fun W => zq W), ?_⟩
      refine ⟨fun A w9 hB h => step_bin h (by kernel_rfl) _ _ _ _ _ (.bool false) (.bool false) rfl (by kernel_rfl) (by kernel_rfl) (fun W => by kernel_rfl) (fun W => by kernel_rfl), ?_⟩
      refine ⟨fun A w9 hB h => step_pick h (by kernel_rfl) _ _ _ true rfl (by kernel_rfl) (by kernel_rfl), ?_⟩
      refine ⟨fun A w9 hB h => step_move h (by kernel_rfl) _ rfl (by kernel_rfl), ?_⟩
      refine ⟨fun A w9 hB h => step_move_old h (by kernel_rfl) 11 rfl (by kernel_rfl) (by rfl), ?_⟩
      refine ⟨fun A w9 hB h => step_bin h (by kernel_rfl) _ _ _ _ _ (.int .i64 (-1)) (.int .i64 0) rfl (by kernel_rfl) (by kernel_rfl) (fun W => by kernel_rfl) (fun W => by kernel_rfl), ?_⟩
      refine ⟨fun A w9 hB h => step_move h (by kernel_rfl) _ rfl (by kernel_rfl), ?_⟩
      refine ⟨fun A w9 hB h => step_move_old h (by kernel_rfl) 13 rfl (by kernel_rfl) (by rfl), ?_⟩
      refine ⟨fun A w9 hB h => step_bin h (by kernel_rfl) _ _ _ _ _ (.int .i64 0) (.int .i64 0) rfl (by kernel_rfl) (by kernel_rfl) (fun W => by kernel_rfl) (fun W => by kernel_rfl), ?_⟩
      refine ⟨fun A w9 hB h => step_pick h (by kernel_rfl) _ _ _ false rfl (by kernel_rfl) (by kernel_rfl), ?_⟩
      refine ⟨fun A w9 hB h => step_move h (by kernel_rfl) _ rfl (by kernel_rfl), ?_⟩
      refine ⟨fun A w9 hB h => step_move_old h (by kernel_rfl) 15 rfl (by kernel_rfl) (by rfl), ?_⟩
      refine ⟨fun A w9 hB h => step_bin h (by kernel_rfl) _ _ _ _ _ (.int .i64 (-1)) (.int .i64 0) rfl (by kernel_rfl) (by kernel_rfl) (fun W => by kernel_rfl) (fun W => by kernel_rfl), ?_⟩
      refine ⟨fun A w9 hB h => step_pick h (by kernel_rfl) _ _ _ false rfl (by kernel_rfl) (by kernel_rfl), ?_⟩
      refine ⟨fun A w9 hB h => step_pick h (by kernel_rfl) _ _ _ true rfl (by kernel_rfl) (by kernel_rfl), ?_⟩
      refine ⟨fun A w9 hB h => step_move h (by kernel_rfl) _ rfl (by kernel_rfl), ?_⟩
      refine ⟨fun A w9 hB h => step_move_old h (by kernel_rfl) 11 rfl (by kernel_rfl) (by rfl), ?_⟩
      refine ⟨fun A w9 hB h => step_bin h (by kernel_rfl) _ _ _ _ _ (.int .i64 (-1)) (.int .i64 0) rfl (by kernel_rfl) (by kernel_rfl) (fun W => by kernel_rfl) (fun W => by kernel_rfl), ?_⟩
      refine ⟨fun A w9 hB h => step_move h (by kernel_rfl) _ rfl (by kernel_rfl), ?_⟩
      refine ⟨fun A w9 hB h => step_move_old h (by kernel_rfl) 13 rfl (by kernel_rfl) (by rfl), ?_⟩
      refine ⟨fun A w9 hB h => step_bin h (by kernel_rfl) _ _ _ _ _ (.int .i64 0) (.int .i64 0) rfl (by kernel_rfl) (by kernel_rfl) (fun W => by kernel_rfl) (fun W => by kernel_rfl), ?_⟩
      refine ⟨fun A w9 hB h => step_pick h (by kernel_rfl) _ _ _ false rfl (by kernel_rfl) (by kernel_rfl), ?_⟩
      refine ⟨fun A w9 hB h => step_move h (by kernel_rfl) _ rfl (by kernel_rfl), ?_⟩
      refine ⟨fun A w9 hB h => step_move_old h (by kernel_rfl) 15 rfl (by kernel_rfl) (by rfl), ?_⟩
      refine ⟨fun A w9 hB h => step_bin h (by kernel_rfl) _ _ _ _ _ (.int .i64 (-1)) (.int .i64 0) rfl (by kernel_rfl) (by kernel_rfl) (fun W => by kernel_rfl) (fun W => by kernel_rfl), ?_⟩
      refine ⟨fun A w9 hB h => step_pick h (by kernel_rfl) _ _ _ false rfl (by kernel_rfl) (by kernel_rfl), ?_⟩
      refine ⟨fun A w9 hB h => step_pick h (by kernel_rfl) _ _ _ true rfl (by kernel_rfl) (by kernel_rfl), ?_⟩
      refine ⟨fun A w9 hB h => step_move h (by kernel_rfl) _ rfl (by kernel_rfl), ?_⟩
      refine ⟨fun A w9 hB h => step_move_old h (by kernel_rfl) 19 rfl (by kernel_rfl) (by rfl), ?_⟩
      refine ⟨fun A w9 hB h => step_un h (by kernel_rfl) _ _ _ (.bool true) rfl (by kernel_rfl) (by kernel_rfl), ?_⟩
      refine ⟨fun A w9 hB h => step_move h (by kernel_rfl) _ rfl (by kernel_rfl), ?_⟩
      refine ⟨fun A w9 hB h => step_move_old h (by kernel_rfl) 11 rfl (by kernel_rfl) (by rfl), ?_⟩
      refine ⟨fun A w9 hB h => step_bin h (by kernel_rfl) _ _ _ _ _ (.int .i64 (-1)) (.int .i64 0) rfl (by kernel_rfl) (by kernel_rfl) (fun W => by kernel_rfl) (fun W => by kernel_rfl), ?_⟩
      refine ⟨fun A w9 hB h => step_pick h (by kernel_rfl) _ _ _ false rfl (by kernel_rfl) (by kernel_rfl), ?_⟩
      refine ⟨fun A w9 hB h => step_pick h (by kernel_rfl) _ _ _ true rfl (by kernel_rfl) (by kernel_rfl), ?_⟩
      refine ⟨fun A w9 hB h => step_move h (by kernel_rfl) _ rfl (by kernel_rfl), ?_⟩
      refine ⟨fun A w9 hB h => step_call_con h (by kernel_rfl) _ _ [.slice none 0 0] rfl rfl (by kernel_rfl) (by kernel_rfl) (lof_any none 0 [] w9 (by simp) (Lib.hid (fun i hi => by simp at hi)) 0 0 0 0 0 0 (Lib.hid (by decide))), ?_⟩
      refine ⟨fun A w9 hB h => step_load h (by kernel_rfl) _ _ (.pointer (some ⟨w4.heap.size, 0, none⟩)) rfl (h.old 8 (by kernel_rfl) (by rfl)) (load5 (X8.out.below hB)), ?_⟩
      refine ⟨fun A w9 hB h => step_load h (by kernel_rfl) _ _ (.pointer (some ⟨w4.heap.size, 0, none⟩)) rfl (h.old 8 (by kernel_rfl) (by rfl)) (load5 (X8.out.below hB)), ?_⟩
      refine ⟨fun A w9 hB h => step_call_con h (by kernel_rfl) _ _ [.agg #[.int .i64 x0, .int .i64 x1, .int .i64 x2, .int .i64 x3, .int .i64 x4]] rfl rfl (by kernel_rfl) (by kernel_rfl) (lleast_any x0 x1 x2 x3 x4 w9 lv HLV.out), ?_⟩
      refine ⟨fun A w9 hB h => step_call_con h (by kernel_rfl) _ _ [.agg #[.int .i64 0, .int .i64 0, .int .i64 0, .int .i64 0, .int .i64 0], .agg #[.int .i64 x0, .int .i64 x1, .int .i64 x2, .int .i64 x3, .int .i64 x4], .int .i64 lv] rfl rfl (by kernel_rfl) (by kernel_rfl) ((lcompares_any 0 0 0 0 0 x0 x1 x2 x3 x4 w9 lv lv 0 rfl HL0).mono (fun e w8 q => by simpa using q)), ?_⟩
      refine ⟨fun A w9 hB h => step_pick h (by kernel_rfl) _ _ _ true rfl (by kernel_rfl) (by kernel_rfl), ?_⟩
      refine ⟨fun A w9 hB h => step_assign h (by kernel_rfl) _ rfl (by kernel_rfl), ?_⟩
      exact trivial
    case fin =>
      intro B w8 hB hsz hdf hold
      clear hold
      have B8 := Lib.hid (below_on B9.out (Nat.le_refl _) hB)
      have hs : B.tmps.size = 132 := hsz.trans (by rfl)
      clear hB hsz
      rename_i K hK
      refine hK _ _ ?_
      clear hK
      go_wp2
      exact bodyPost_ret (v := .bool true) (by simp [results, Tryd.results7, go_sem, hs]) rfl ⟨rfl, B8.out⟩
  · clear OC
    refine wp_region_last [.con (.bool true), .con (.bool true), .con (.int .i64 0), .con (.bool true), .con (.bool true), .con (.bool true), .con (.int .i64 0), .con (.bool true), .con (.bool true), .con (.bool true), .con (.int .i64 0), .con (.bool true), .con (.bool true), .con (.bool true), .con (.int .i64 0), .con (.bool true), .con (.bool true), .con (.bool true), .con (.int .i64 0), .con (.bool true), .con (.bool true), .con (.bool true), .con (.int .i64 1), .con (.int .i64 (-1)), .con (.int .i64 1), .con (.bool true), .con (.bool true), .con (.bool true), .con (.int .i64 (-1)), .con (.bool false), .con (.agg #[.int .i64 x0, .int .i64 x1, .int .i64 x2, .int .i64 x3, .int .i64 x4]), .con (.agg #[.int .i64 y0, .int .i64 y1, .int .i64 y2, .int .i64 y3, .int .i64 y4]), .con (.bool false), .con (.bool true), .con (.bool true), .con (.bool true), .con (.int .i64 (-1)), .con (.bool false), .con (.bool false), .con (.int .i64 0), .con (.bool false), .con (.bool false), .con (.bool false), .con (.int .i64 (-1)), .con (.bool true), .con (.bool true), .con (.bool true), .con (.bool true), .con (.int .i64 (-1)), .con (.bool false), .con (.bool false), .con (.int .i64 0), .con (.bool false), .con (.bool false), .con (.bool false), .con (.int .i64 (-1)), .con (.bool true), .con (.bool true), .con (.bool true), .con (.bool true), .con (.bool false), .con (.bool true), .con (.bool true), .con (undef), .con (undef), .con (.bool true), .con (.bool true), .con (.bool true), .con (.agg #[.int .i64 0, .int .i64 0, .int .i64 0, .int .i64 0, .int .i64 0]), .con (.agg #[.int .i64 x0, .int .i64 x1, .int .i64 x2, .int .i64 x3, .int .i64 x4]), .con (.agg #[.int .i64 x0, .int .i64 x1, .int .i64 x2, .int .i64 x3, .int .i64 x4]), .con (.int .i64 lv), .con (.bool true), .con (.bool true), .con (.bool true)] 6 74 (.bool true) (by kernel_rfl) (by kernel_rfl) (mkS_keeps (by kernel_rfl)) rfl rfl rfl ?steps ?fin
    case steps =>
      refine ⟨fun A w9 hB h => step_move_old h (by kernel_rfl) 7 rfl (by kernel_rfl) (by rfl), ?_⟩
      refine ⟨fun A w9 hB h => step_move h (by kernel_rfl) _ rfl (by kernel_rfl), ?_⟩
      refine ⟨fun A w9 hB h => step_move_old h (by kernel_rfl) 12 rfl (by kernel_rfl) (by rfl), ?_⟩
      refine ⟨fun A w9 hB h => step_bin h (by kernel_rfl) _ _ _ _ _ (.int .i64 0) (.int .i64 0) rfl (by kernel_rfl) (by kernel_rfl) (fun W => by kernel_rfl) (fun W => by kernel_rfl), ?_⟩
      refine ⟨fun A w9 hB h => step_pick h (by kernel_rfl) _ _ _ true rfl (by kernel_rfl) (by kernel_rfl), ?_⟩
      refine ⟨fun A w9 hB h => step_move h (by kernel_rfl) _ rfl (by kernel_rfl), ?_⟩
      refine ⟨fun A w9 hB h => step_move_old h (by kernel_rfl) 14 rfl (by kernel_rfl) (by rfl), ?_⟩
      refine ⟨fun A w9 hB h => step_bin h (by kernel_rfl) _ _ _ _ _ (.int .i64 0) (.int .i64 0) rfl (by kernel_rfl) (by kernel_rfl) (fun W => by kernel_rfl) (fun W => by kernel_rfl), ?_⟩
      refine ⟨fun A w9 hB h => step_pick h (by kernel_rfl) _ _ _ true rfl (by kernel_rfl) (by kernel_rfl), ?_⟩
      refine ⟨fun A w9 hB h => step_move h (by kernel_rfl) _ rfl (by kernel_rfl), ?_⟩
      refine ⟨fun A w9 hB h => step_move_old h (by kernel_rfl) 16 rfl (by kernel_rfl) (by rfl), ?_⟩
      refine ⟨fun A w9 hB h => step_bin h (by kernel_rfl) _ _ _ _ _ (.int .i64 0) (.int .i64 0) rfl (by kernel_rfl) (by kernel_rfl) (fun W => by kernel_rfl) (fun W => by kernel_rfl), ?_⟩
      refine ⟨fun A w9 hB h => step_pick h (by kernel_rfl) _ _ _ true rfl (by kernel_rfl) (by kernel_rfl), ?_⟩
      refine ⟨fun A w9 hB h => step_move h (by kernel_rfl) _ rfl (by kernel_rfl), ?_⟩
      refine ⟨fun A w9 hB h => step_move_old h (by kernel_rfl) 18 rfl (by kernel_rfl) (by rfl), ?_⟩
      refine ⟨fun A w9 hB h => step_bin h (by kernel_rfl) _ _ _ _ _ (.int .i64 0) (.int .i64 0) rfl (by kernel_rfl) (by kernel_rfl) (fun W => by kernel_rfl) (fun W => by kernel_rfl), ?_⟩
      refine ⟨fun A w9 hB h => step_pick h (by kernel_rfl) _ _ _ true rfl (by kernel_rfl) (by kernel_rfl), ?_⟩
      refine ⟨fun A w9 hB h => step_move h (by kernel_rfl) _ rfl (by kernel_rfl), ?_⟩
      refine ⟨fun A w9 hB h => step_move_old h (by kernel_rfl) 20 rfl (by kernel_rfl) (by rfl), ?_⟩
      refine ⟨fun A w9 hB h => step_bin h (by kernel_rfl) _ _ _ _ _ (.int .i64 0) (.int .i64 0) rfl (by kernel_rfl) (by kernel_rfl) (fun W => by kernel_rfl) (fun W => by kernel_rfl), ?_⟩
      refine ⟨fun A w9 hB h => step_pick h (by kernel_rfl) _ _ _ true rfl (by kernel_rfl) (by kernel_rfl), ?_⟩
      refine ⟨fun A w9 hB h => step_move h (by kernel_rfl) _ rfl (by kernel_rfl), ?_⟩
      refine ⟨fun A w9 hB h => step_move_old h (by kernel_rfl) 17 rfl (by kernel_rfl) (by rfl), ?_⟩
      refine ⟨fun A w9 hB h => step_move_old h (by kernel_rfl) 11 rfl (by kernel_rfl) (by rfl), ?_⟩
      refine ⟨fun A w9 hB h => step_un h (by kernel_rfl) _ _ _ (.int .i64 (-1)) rfl (by kernel_rfl) (by kernel_rfl), ?_⟩
      refine ⟨fun A w9 hB h => step_bin h (by kernel_rfl) _ _ _ _ _ (.int .i64 1) (.int .i64 1) rfl (by kernel_rfl) (by kernel_rfl) (fun W => by kernel_rfl) (fun W => by kernel_rfl), ?_⟩
      refine ⟨fun A w9 hB h => step_pick h (by kernel_rfl) _ _ _ true rfl (by kernel_rfl) (by kernel_rfl), ?_⟩
      refine ⟨fun A w9 hB h => step_move h (by kernel_rfl) _ rfl (by kernel_rfl), ?_⟩
      refine ⟨fun A w9 hB h => step_move_old h (by kernel_rfl) 11 rfl (by kernel_rfl) (by rfl), ?_⟩
      refine ⟨fun A w9 hB h => step_bin h (by kernel_rfl) _ _ _ _ _ (.int .i64 (-1)) (.int .i64 0) rfl (by kernel_rfl) (by kernel_rfl) (fun W => by kernel_rfl) (fun W => by kernel_rfl), ?_⟩
      refine ⟨fun A w9 hB h => step_load h (by kernel_rfl) _ _ (.pointer (some ⟨w4.heap.size, 0, none⟩)) rfl (h.old 8 (by kernel_rfl) (by rfl)) (load5 (X8.out.below hB)), ?_⟩
      refine ⟨fun A w9 hB h => step_load h (by kernel_rfl) _ _ (.pointer (some ⟨w4.heap.size + 1, 0, none⟩)) rfl (h.old 9 (by kernel_rfl) (by rfl)) (load5 (Y8.out.below hB)), ?_⟩
      refine ⟨fun A w9 hB h => step_bin h (by kernel_rfl) _ _ _ _ _ (.agg #[.int .i64 x0, .int .i64 x1, .int .i64 x2, .int .i64 x3, .int .i64 x4]) (.agg #[.int .i64 y0, .int .i64 y1, .int .i64 y2, .int .i64 y3, .int .i64 y4]) rfl (by kernel_rfl) (by kernel_rfl) (fun W => guard_look _ _ _ _ _ W) (fun W => zq W), ?_⟩
      refine ⟨fun A w9 hB h => step_bin h (by kernel_rfl) _ _ _ _ _ (.bool false) (.bool false) rfl (by kernel_rfl) (by kernel_rfl) (fun W => by kernel_rfl) (fun W => by kernel_rfl), ?_⟩
      refine ⟨fun A w9 hB h => step_pick h (by kernel_rfl) _ _ _ true rfl (by kernel_rfl) (by kernel_rfl), ?_⟩
      refine ⟨fun A w9 hB h => step_move h (by kernel_rfl) _ rfl (by kernel_rfl), ?_⟩
      refine ⟨fun A w9 hB h => step_move_old h (by kernel_rfl) 11 rfl (by kernel_rfl) (by rfl), ?_⟩
      refine ⟨fun A w9 hB h => step_bin h (by kernel_rfl) _ _ _ _ _ (.int .i64 (-1)) (.int .i64 0) rfl (by kernel_rfl) (by kernel_rfl) (fun W => by kernel_rfl) (fun W => by kernel_rfl), ?_⟩
      refine ⟨fun A w9 hB h => step_move h (by kernel_rfl) _ rfl (by kernel_rfl), ?_⟩
      refine ⟨fun A w9 hB h => step_move_old h (by kernel_rfl) 13 rfl (by kernel_rfl) (by rfl), ?_⟩
      refine ⟨fun A w9 hB h => step_bin h (by kernel_rfl) _ _ _ _ _ (.int .i64 0) (.int .i64 0) rfl (by kernel_rfl) (by kernel_rfl) (fun W => by kernel_rfl) (fun W => by kernel_rfl), ?_⟩
      refine ⟨fun A w9 hB h => step_pick h (by kernel_rfl) _ _ _ false rfl (by kernel_rfl) (by kernel_rfl), ?_⟩
      refine ⟨fun A w9 hB h => step_move h (by kernel_rfl) _ rfl (by kernel_rfl), ?_⟩
      refine ⟨fun A w9 hB h => step_move_old h (by kernel_rfl) 15 rfl (by kernel_rfl) (by rfl), ?_⟩
      refine ⟨fun A w9 hB h => step_bin h (by kernel_rfl) _ _ _ _ _ (.int .i64 (-1)) (.int .i64 0) rfl (by kernel_rfl) (by kernel_rfl) (fun W => by kernel_rfl) (fun W => by kernel_rfl), ?_⟩
      refine ⟨fun A w9 hB h => step_pick h (by kernel_rfl) _ _ _ false rfl (by kernel_rfl) (by kernel_rfl), ?_⟩
      refine ⟨fun A w9 hB h => step_pick h (by kernel_rfl) _ _ _ true rfl (by kernel_rfl) (by kernel_rfl), ?_⟩
      refine ⟨fun A w9 hB h => step_move h (by kernel_rfl) _ rfl (by kernel_rfl), ?_⟩
      refine ⟨fun A w9 hB h => step_move_old h (by kernel_rfl) 11 rfl (by kernel_rfl) (by rfl), ?_⟩
      refine ⟨fun A w9 hB h => step_bin h (by kernel_rfl) _ _ _ _ _ (.int .i64 (-1)) (.int .i64 0) rfl (by kernel_rfl) (by kernel_rfl) (fun W => by kernel_rfl) (fun W => by kernel_rfl), ?_⟩
      refine ⟨fun A w9 hB h => step_move h (by kernel_rfl) _ rfl (by kernel_rfl), ?_⟩
      refine ⟨fun A w9 hB h => step_move_old h (by kernel_rfl) 13 rfl (by kernel_rfl) (by rfl), ?_⟩
      refine ⟨fun A w9 hB h => step_bin h (by kernel_rfl) _ _ _ _ _ (.int .i64 0) (.int .i64 0) rfl (by kernel_rfl) (by kernel_rfl) (fun W => by kernel_rfl) (fun W => by kernel_rfl), ?_⟩
      refine ⟨fun A w9 hB h => step_pick h (by kernel_rfl) _ _ _ false rfl (by kernel_rfl) (by kernel_rfl), ?_⟩
      refine ⟨fun A w9 hB h => step_move h (by kernel_rfl) _ rfl (by kernel_rfl), ?_⟩
      refine ⟨fun A w9 hB h => step_move_old h (by kernel_rfl) 15 rfl (by kernel_rfl) (by rfl), ?_⟩
      refine ⟨fun A w9 hB h => step_bin h (by kernel_rfl) _ _ _ _ _ (.int .i64 (-1)) (.int .i64 0) rfl (by kernel_rfl) (by kernel_rfl) (fun W => by kernel_rfl) (fun W => by kernel_rfl), ?_⟩
      refine ⟨fun A w9 hB h => step_pick h (by kernel_rfl) _ _ _ false rfl (by kernel_rfl) (by kernel_rfl), ?_⟩
      refine ⟨fun A w9 hB h => step_pick h (by kernel_rfl) _ _ _ true rfl (by kernel_rfl) (by kernel_rfl), ?_⟩
      refine ⟨fun A w9 hB h => step_move h (by kernel_rfl) _ rfl (by kernel_rfl), ?_⟩
      refine ⟨fun A w9 hB h => step_move_old h (by kernel_rfl) 19 rfl (by kernel_rfl) (by rfl), ?_⟩
      refine ⟨fun A w9 hB h => step_un h (by kernel_rfl) _ _ _ (.bool false) rfl (by kernel_rfl) (by kernel_rfl), ?_⟩
      refine ⟨fun A w9 hB h => step_move h (by kernel_rfl) _ rfl (by kernel_rfl), ?_⟩
      refine ⟨fun A w9 hB h => kit.step_skip h (by kernel_rfl), ?_⟩
      refine ⟨fun A w9 hB h => kit.step_skip h (by kernel_rfl), ?_⟩
      refine ⟨fun A w9 hB h => step_pick h (by kernel_rfl) _ _ _ true rfl (by kernel_rfl) (by kernel_rfl), ?_⟩
      refine ⟨fun A w9 hB h => step_pick h (by kernel_rfl) _ _ _ true rfl (by kernel_rfl) (by kernel_rfl), ?_⟩
      refine ⟨fun A w9 hB h => step_move h (by kernel_rfl) _ rfl (by kernel_rfl), ?_⟩
      refine ⟨fun A w9 hB h => step_call_con h (by kernel_rfl) _ _ [.slice none 0 0] rfl rfl (by kernel_rfl) (by kernel_rfl) (lof_any none 0 [] w9 (by simp) (Lib.hid (fun i hi => by simp at hi)) 0 0 0 0 0 0 (Lib.hid (by decide))), ?_⟩
      refine ⟨fun A w9 hB h => step_load h (by kernel_rfl) _ _ (.pointer (some ⟨w4.heap.size, 0, none⟩)) rfl (h.old 8 (by kernel_rfl) (by rfl)) (load5 (X8.out.below hB)), ?_⟩
      refine ⟨fun A w9 hB h => step_load h (by kernel_rfl) _ _ (.pointer (some ⟨w4.heap.size, 0, none⟩)) rfl (h.old 8 (by kernel_rfl) (by rfl)) (load5 (X8.out.below hB)), ?_⟩
      refine ⟨fun A w9 hB h => step_call_con h (by kernel_rfl) _ _ [.agg #[.int .i64 x0, .int .i64 x1, .int .i64 x2, .int .i64 x3, .int .i64 x4]] rfl rfl (by kernel_rfl) (by kernel_rfl) (lleast_any x0 x1 x2 x3 x4 w9 lv HLV.out), ?_⟩
      refine ⟨fun A w9 hB h => step_call_con h (by kernel_rfl) _ _ [.agg #[.int .i64 0, .int .i64 0, .int .i64 0, .int .i64 0, .int .i64 0], .agg #[.int .i64 x0, .int .i64 x1, .int .i64 x2, .int .i64 x3, .int .i64 x4], .int .i64 lv] rfl rfl (by kernel_rfl) (by kernel_rfl) ((lcompares_any 0 0 0 0 0 x0 x1 x2 x3 x4 w9 lv lv 0 rfl HL0).mono (fun e w8 q => by simpa using q)), ?_⟩
      refine ⟨fun A w9 hB h => step_pick h (by kernel_rfl) _ _ _ true rfl (by kernel_rfl) (by kernel_rfl), ?_⟩
      refine ⟨fun A w9 hB h => step_assign h (by kernel_rfl) _ rfl (by kernel_rfl), ?_⟩
      exact trivial
    case fin =>
      intro B w8 hB hsz hdf hold
      clear hold
      have B8 := Lib.hid (below_on B9.out (Nat.le_refl _) hB)
      have hs : B.tmps.size = 132 := hsz.trans (by rfl)
      clear hB hsz
      rename_i K hK
      refine hK _ _ ?_
      clear hK
      go_wp2
      exact bodyPost_ret (v := .bool true) (by simp [results, Tryd.results7, go_sem, hs]) rfl ⟨rfl, B8.out⟩
  · clear OC
    refine wp_region_last [.con (.bool true), .con (.bool true), .con (.int .i64 0), .con (.bool true), .con (.bool true), .con (.bool true), .con (.int .i64 0), .con (.bool true), .con (.bool true), .con (.bool true), .con (.int .i64 0), .con (.bool true), .con (.bool true), .con (.bool true), .con (.int .i64 0), .con (.bool true), .con (.bool true), .con (.bool true), .con (.int .i64 0), .con (.bool true), .con (.bool true), .con (.bool true), .con (.int .i64 1), .con (.int .i64 (-1)), .con (.int .i64 1), .con (.bool true), .con (.bool true), .con (.bool true), .con (.int .i64 (-1)), .con (.bool false), .con (.agg #[.int .i64 x0, .int .i64 x1, .int .i64 x2, .int .i64 x3, .int .i64 x4]), .con (.agg #[.int .i64 y0, .int .i64 y1, .int .i64 y2, .int .i64 y3, .int .i64 y4]), .con (.bool false), .con (.bool true), .con (.bool true), .con (.bool true), .con (.int .i64 (-1)), .con (.bool false), .con (.bool false), .con (.int .i64 1), .con (.bool true), .con (.bool true), .con (.bool true), .con (undef), .con (undef), .con (.bool true), .con (.bool true), .con (.bool true), .con (.int .i64 (-1)), .con (.bool false), .con (.bool false), .con (.int .i64 1), .con (.bool true), .con (.bool true), .con (.bool true), .con (undef), .con (undef), .con (.bool true), .con (.bool true), .con (.bool true), .con (.bool true), .con (.bool false), .con (.bool false), .con (.int .i64 (-1)), .con (.bool true), .con (.bool true), .con (.bool true), .con (.bool true), .con (.agg #[.int .i64 0, .int .i64 0, .int .i64 0, .int .i64 0, .int .i64 0]), .con (.agg #[.int .i64 x0, .int .i64 x1, .int .i64 x2, .int .i64 x3, .int .i64 x4]), .con (.agg #[.int .i64 x0, .int .i64 x1, .int .i64 x2, .int .i64 x3, .int .i64 x4]), .con (.int .i64 lv), .con (.bool true), .con (.bool true), .con (.bool true)] 6 74 (.bool true) (by kernel_rfl) (by kernel_rfl) (mkS_keeps (by kernel_rfl)) rfl rfl rfl ?steps ?fin
    case steps =>
      refine ⟨fun A w9 hB h => step_move_old h (by kernel_rfl) 7 rfl (by kernel_rfl) (by rfl), ?_⟩
      refine ⟨fun A w9 hB h => step_move h (by kernel_rfl) _ rfl (by kernel_rfl), ?_⟩
      refine ⟨fun A w9 hB h => step_move_old h (by kernel_rfl) 12 rfl (by kernel_rfl) (by rfl), ?_⟩
      refine ⟨fun A w9 hB h => step_bin h (by kernel_rfl) _ _ _ _ _ (.int .i64 0) (.int .i64 0) rfl (by kernel_rfl) (by kernel_rfl) (fun W => by kernel_rfl) (fun W => by kernel_rfl), ?_⟩
      refine ⟨fun A w9 hB h => step_pick h (by kernel_rfl) _ _ _ true rfl (by kernel_rfl) (by kernel_rfl), ?_⟩
      refine ⟨fun A w9 hB h => step_move h (by kernel_rfl) _ rfl (by kernel_rfl), ?_⟩
      refine ⟨fun A w9 hB h => step_move_old h (by kernel_rfl) 14 rfl (by kernel_rfl) (by rfl), ?_⟩
      refine ⟨fun A w9 hB h => step_bin h (by kernel_rfl) _ _ _ _ _ (.int .i64 0) (.int .i64 0) rfl (by kernel_rfl) (by kernel_rfl) (fun W => by kernel_rfl) (fun W => by kernel_rfl), ?_⟩
      refine ⟨fun A w9 hB h => step_pick h (by kernel_rfl) _ _ _ true rfl (by kernel_rfl) (by kernel_rfl), ?_⟩
      refine ⟨fun A w9 hB h => step_move h (by kernel_rfl) _ rfl (by kernel_rfl), ?_⟩
      refine ⟨fun A w9 hB h => step_move_old h (by kernel_rfl) 16 rfl (by kernel_rfl) (by rfl), ?_⟩
      refine ⟨fun A w9 hB h => step_bin h (by kernel_rfl) _ _ _ _ _ (.int .i64 0) (.int .i64 0) rfl (by kernel_rfl) (by kernel_rfl) (fun W => by kernel_rfl) (fun W => by kernel_rfl), ?_⟩
      refine ⟨fun A w9 hB h => step_pick h (by kernel_rfl) _ _ _ true rfl (by kernel_rfl) (by kernel_rfl), ?_⟩
      refine ⟨fun A w9 hB h => step_move h (by kernel_rfl) _ rfl (by kernel_rfl), ?_⟩
      refine ⟨fun A w9 hB h => step_move_old h (by kernel_rfl) 18 rfl (by kernel_rfl) (by rfl), ?_⟩
      refine ⟨fun A w9 hB h => step_bin h (by kernel_rfl) _ _ _ _ _ (.int .i64 0) (.int .i64 0) rfl (by kernel_rfl) (by kernel_rfl) (fun W => by kernel_rfl) (fun W => by kernel_rfl), ?_⟩
      refine ⟨fun A w9 hB h => step_pick h (by kernel_rfl) _ _ _ true rfl (by kernel_rfl) (by kernel_rfl), ?_⟩
      refine ⟨fun A w9 hB h => step_move h (by kernel_rfl) _ rfl (by kernel_rfl), ?_⟩
      refine ⟨fun A w9 hB h => step_move_old h (by kernel_rfl) 20 rfl (by kernel_rfl) (by rfl), ?_⟩
      refine ⟨fun A w9 hB h => step_bin h (by kernel_rfl) _ _ _ _ _ (.int .i64 0) (.int .i64 0) rfl (by kernel_rfl) (by kernel_rfl) (fun W => by kernel_rfl) (fun W => by kernel_rfl), ?_⟩
      refine ⟨fun A w9 hB h => step_pick h (by kernel_rfl) _ _ _ true rfl (by kernel_rfl) (by kernel_rfl), ?_⟩
      refine ⟨fun A w9 hB h => step_move h (by kernel_rfl) _ rfl (by kernel_rfl), ?_⟩
      refine ⟨fun A w9 hB h => step_move_old h (by kernel_rfl) 17 rfl (by kernel_rfl) (by rfl), ?_⟩
      refine ⟨fun A w9 hB h => step_move_old h (by kernel_rfl) 11 rfl (by kernel_rfl) (by rfl), ?_⟩
      refine ⟨fun A w9 hB h => step_un h (by kernel_rfl) _ _ _ (.int .i64 (-1)) rfl (by kernel_rfl) (by kernel_rfl), ?_⟩
      refine ⟨fun A w9 hB h => step_bin h (by kernel_rfl) _ _ _ _ _ (.int .i64 1) (.int .i64 1) rfl (by kernel_rfl) (by kernel_rfl) (fun W => by kernel_rfl) (fun W => by kernel_rfl), ?_⟩
      refine ⟨fun A w9 hB h => step_pick h (by kernel_rfl) _ _ _ true rfl (by kernel_rfl) (by kernel_rfl), ?_⟩
      refine ⟨fun A w9 hB h => step_move h (by kernel_rfl) _ rfl (by kernel_rfl), ?_⟩
      refine ⟨fun A w9 hB h => step_move_old h (by kernel_rfl) 11 rfl (by kernel_rfl) (by rfl), ?_⟩
      refine ⟨fun A w9 hB h => step_bin h (by kernel_rfl) _ _ _ _ _ (.int .i64 (-1)) (.int .i64 0) rfl (by kernel_rfl) (by kernel_rfl) (fun W => by kernel_rfl) (fun W => by kernel_rfl), ?_⟩
      refine ⟨fun A w9 hB h => step_load h (by kernel_rfl) _ _ (.pointer (some ⟨w4.heap.size, 0, none⟩)) rfl (h.old 8 (by kernel_rfl) (by rfl)) (load5 (X8.out.below hB)), ?_⟩
      refine ⟨fun A w9 hB h => step_load h (by kernel_rfl) _ _ (.pointer (some ⟨w4.heap.size + 1, 0, none⟩)) rfl (h.old 9 (by kernel_rfl) (by rfl)) (load5 (Y8.out.below hB)), ?_⟩
      refine ⟨fun A w9 hB h => step_bin h (by kernel_rfl) _ _ _ _ _ (.agg #[.int .i64 x0, .int .i64 x1, .int .i64 x2, .int .i64 x3, .int .i64 x4]) (.agg #[.int .i64 y0, .int .i64 y1, .int .i64 y2, .int .i64 y3, .int .i64 y4]) rfl (by kernel_rfl) (by kernel_rfl) (fun W => guard_look _ _ _ _ _ W) (fun W => zq W), ?_⟩
      refine ⟨fun A w9 hB h => step_bin h (by kernel_rfl) _ _ _ _ _ (.bool false) (.bool false) rfl (by kernel_rfl) (by kernel_rfl) (fun W => by kernel_rfl) (fun W => by kernel_rfl), ?_⟩
      refine ⟨fun A w9 hB h => step_pick h (by kernel_rfl) _ _ _ true rfl (by kernel_rfl) (by kernel_rfl), ?_⟩
      refine ⟨fun A w9 hB h => step_move h (by kernel_rfl) _ rfl (by kernel_rfl), ?_⟩
      refine ⟨fun A w9 hB h => step_move_old h (by kernel_rfl) 11 rfl (by kernel_rfl) (by rfl), ?_⟩
      refine ⟨fun A w9 hB h => step_bin h (by kernel_rfl) _ _ _ _ _ (.int .i64 (-1)) (.int .i64 0) rfl (by kernel_rfl) (by kernel_rfl) (fun W => by kernel_rfl) (fun W => by kernel_rfl), ?_⟩
      refine ⟨fun A w9 hB h => step_move h (by kernel_rfl) _ rfl (by kernel_rfl), ?_⟩
      refine ⟨fun A w9 hB h => step_move_old h (by kernel_rfl) 13 rfl (by kernel_rfl) (by rfl), ?_⟩
      refine ⟨fun A w9 hB h => step_bin h (by kernel_rfl) _ _ _ _ _ (.int .i64 1) (.int .i64 0) rfl (by kernel_rfl) (by kernel_rfl) (fun W => by kernel_rfl) (fun W => by kernel_rfl), ?_⟩
      refine ⟨fun A w9 hB h => step_pick h (by kernel_rfl) _ _ _ false rfl (by kernel_rfl) (by kernel_rfl), ?_⟩
      refine ⟨fun A w9 hB h => step_move h (by kernel_rfl) _ rfl (by kernel_rfl), ?_⟩
      refine ⟨fun A w9 hB h => kit.step_skip h (by kernel_rfl), ?_⟩
      refine ⟨fun A w9 hB h => kit.step_skip h (by kernel_rfl), ?_⟩
      refine ⟨fun A w9 hB h => step_pick h (by kernel_rfl) _ _ _ true rfl (by kernel_rfl) (by kernel_rfl), ?_⟩
      refine ⟨fun A w9 hB h => step_pick h (by kernel_rfl) _ _ _ true rfl (by kernel_rfl) (by kernel_rfl), ?_⟩
      refine ⟨fun A w9 hB h => step_move h (by kernel_rfl) _ rfl (by kernel_rfl), ?_⟩
      refine ⟨fun A w9 hB h => step_move_old h (by kernel_rfl) 11 rfl (by kernel_rfl) (by rfl), ?_⟩
      refine ⟨fun A w9 hB h => step_bin h (by kernel_rfl) _ _ _ _ _ (.int .i64 (-1)) (.int .i64 0) rfl (by kernel_rfl) (by kernel_rfl) (fun W => by kernel_rfl) (fun W => by kernel_rfl), ?_⟩
      refine ⟨fun A w9 hB h => step_move h (by kernel_rfl) _ rfl (by kernel_rfl), ?_⟩
      refine ⟨fun A w9 hB h => step_move_old h (by kernel_rfl) 13 rfl (by kernel_rfl) (by rfl), ?_⟩
      refine ⟨fun A w9 hB h => step_bin h (by kernel_rfl) _ _ _ _ _ (.int .i64 1) (.int .i64 0) rfl (by kernel_rfl) (by kernel_rfl) (fun W => by kernel_rfl) (fun W => by kernel_rfl), ?_⟩
      refine ⟨fun A w9 hB h => step_pick h (by kernel_rfl) _ _ _ false rfl (by kernel_rfl) (by kernel_rfl), ?_⟩
      refine ⟨fun A w9 hB h => step_move h (by kernel_rfl) _ rfl (by kernel_rfl), ?_⟩
      refine ⟨fun A w9 hB h => kit.step_skip h (by kernel_rfl), ?_⟩
      refine ⟨fun A w9 hB h => kit.step_skip h (by kernel_rfl), ?_⟩
      refine ⟨fun A w9 hB h => step_pick h (by kernel_rfl) _ _ _ true rfl (by kernel_rfl) (by kernel_rfl), ?_⟩
      refine ⟨fun A w9 hB h => step_pick h (by kernel_rfl) _ _ _ true rfl (by kernel_rfl) (by kernel_rfl), ?_⟩
      refine ⟨fun A w9 hB h => step_move h (by kernel_rfl) _ rfl (by kernel_rfl), ?_⟩
      refine ⟨fun A w9 hB h => step_move_old h (by kernel_rfl) 19 rfl (by kernel_rfl) (by rfl), ?_⟩
      refine ⟨fun A w9 hB h => step_un h (by kernel_rfl) _ _ _ (.bool true) rfl (by kernel_rfl) (by kernel_rfl), ?_⟩
      refine ⟨fun A w9 hB h => step_move h (by kernel_rfl) _ rfl (by kernel_rfl), ?_⟩
      refine ⟨fun A w9 hB h => step_move_old h (by kernel_rfl) 11 rfl (by kernel_rfl) (by rfl), ?_⟩
      refine ⟨fun A w9 hB h => step_bin h (by kernel_rfl) _ _ _ _ _ (.int .i64 (-1)) (.int .i64 0) rfl (by kernel_rfl) (by kernel_rfl) (fun W => by kernel_rfl) (fun W => by kernel_rfl), ?_⟩
      refine ⟨fun A w9 hB h => step_pick h (by kernel_rfl) _ _ _ false rfl (by kernel_rfl) (by kernel_rfl), ?_⟩
      refine ⟨fun A w9 hB h => step_pick h (by kernel_rfl) _ _ _ true rfl (by kernel_rfl) (by kernel_rfl), ?_⟩
      refine ⟨fun A w9 hB h => step_move h (by kernel_rfl) _ rfl (by kernel_rfl), ?_⟩
      refine ⟨fun A w9 hB h => step_call_con h (by kernel_rfl) _ _ [.slice none 0 0] rfl rfl (by kernel_rfl) (by kernel_rfl) (lof_any none 0 [] w9 (by simp) (Lib.hid (fun i hi => by simp at hi)) 0 0 0 0 0 0 (Lib.hid (by decide))), ?_⟩
      refine ⟨fun A w9 hB h => step_load h (by kernel_rfl) _ _ (.pointer (some ⟨w4.heap.size, 0, none⟩)) rfl (h.old 8 (by kernel_rfl) (by rfl)) (load5 (X8.out.below hB)), ?_⟩
      refine ⟨fun A w9 hB h => step_load h (by kernel_rfl) _ _ (.pointer (some ⟨w4.heap.size, 0, none⟩)) rfl (h.old 8 (by kernel_rfl) (by rfl)) (load5 (X8.out.below hB)), ?_⟩
      refine ⟨fun A w9 hB h => step_call_con h (by kernel_rfl) _ _ [.agg #[.int .i64 x0, .int .i64 x1, .int .i64 x2, .int .i64 x3, .int .i64 x4]] rfl rfl (by kernel_rfl) (by kernel_rfl) (lleast_any x0 x1 x2 x3 x4 w9 lv HLV.out), ?_⟩
      refine ⟨fun A w9 hB h => step_call_con h (by kernel_rfl) _ _ [.agg #[.int .i64 0, .int .i64 0, .int .i64 0, .int .i64 0, .int .i64 0], .agg #[.int .i64 x0, .int .i64 x1, .int .i64 x2, .int .i64 x3, .int .i64 x4], .int .i64 lv] rfl rfl (by kernel_rfl) (by kernel_rfl) ((lcompares_any 0 0 0 0 0 x0 x1 x2 x3 x4 w9 lv lv 0 rfl HL0).mono (fun e w8 q => by simpa using q)), ?_⟩
      refine ⟨fun A w9 hB h => step_pick h (by kernel_rfl) _ _ _ true rfl (by kernel_rfl) (by kernel_rfl), ?_⟩
      refine ⟨fun A w9 hB h => step_assign h (by kernel_rfl) _ rfl (by kernel_rfl), ?_⟩
      exact trivial
    case fin =>
      intro B w8 hB hsz hdf hold
      clear hold
      have B8 := Lib.hid (below_on B9.out (Nat.le_refl _) hB)
      have hs : B.tmps.size = 132 := hsz.trans (by rfl)
      clear hB hsz
      rename_i K hK
      refine hK _ _ ?_
      clear hK
      go_wp2
      exact bodyPost_ret (v := .bool true) (by simp [results, Tryd.results7, go_sem, hs]) rfl ⟨rfl, B8.out⟩
  · clear OC
    refine wp_region_last [.con (.bool true), .con (.bool true), .con (.int .i64 0), .con (.bool true), .con (.bool true), .con (.bool true), .con (.int .i64 0), .con (.bool true), .con (.bool true), .con (.bool true), .con (.int .i64 0), .con (.bool true), .con (.bool true), .con (.bool true), .con (.int .i64 0), .con (.bool true), .con (.bool true), .con (.bool true), .con (.int .i64 0), .con (.bool true), .con (.bool true), .con (.bool true), .con (.int .i64 1), .con (.int .i64 (-1)), .con (.int .i64 1), .con (.bool true), .con (.bool true), .con (.bool true), .con (.int .i64 (-1)), .con (.bool false), .con (.agg #[.int .i64 x0, .int .i64 x1, .int .i64 x2, .int .i64 x3, .int .i64 x4]), .con (.agg #[.int .i64 y0, .int .i64 y1, .int .i64 y2, .int .i64 y3, .int .i64 y4]), .con (.bool false), .con (.bool true), .con (.bool true), .con (.bool true), .con (.int .i64 (-1)), .con (.bool false), .con (.bool false), .con (.int .i64 1), .con (.bool true), .con (.bool true), .con (.bool true), .con (undef), .con (undef), .con (.bool true), .con (.bool true), .con (.bool true), .con (.int .i64 (-1)), .con (.bool false), .con (.bool false), .con (.int .i64 1), .con (.bool true), .con (.bool true), .con (.bool true), .con (undef), .con (undef), .con (.bool true), .con (.bool true), .con (.bool true), .con (.bool false), .con (.bool true), .con (.bool true), .con (undef), .con (undef), .con (.bool true), .con (.bool true), .con (.bool true), .con (.agg #[.int .i64 0, .int .i64 0, .int .i64 0, .int .i64 0, .int .i64 0]), .con (.agg #[.int .i64 x0, .int .i64 x1, .int .i64 x2, .int .i64 x3, .int .i64 x4]), .con (.agg #[.int .i64 x0, .int .i64 x1, .int .i64 x2, .int .i64 x3, .int .i64 x4]), .con (.int .i64 lv), .con (.bool true), .con (.bool true), .con (.bool true)] 6 74 (.bool true) (by kernel_rfl) (by kernel_rfl) (mkS_keeps (by kernel_rfl)) rfl rfl rfl ?steps ?fin
    case steps =>
      refine ⟨fun A w9 hB h => step_move_old h (by kernel_rfl) 7 rfl (by kernel_rfl) (by rfl), ?_⟩
      refine ⟨fun A w9 hB h => step_move h (by kernel_rfl) _ rfl (by kernel_rfl), ?_⟩
      refine ⟨fun A w9 hB h => step_move_old h (by kernel_rfl) 12 rfl (by kernel_rfl) (by rfl), ?_⟩
      refine ⟨fun A w9 hB h => step_bin h (by kernel_rfl) _ _ _ _ _ (.int .i64 0) (.int .i64 0) rfl (by kernel_rfl) (by kernel_rfl) (fun W => by kernel_rfl) (fun W => by kernel_rfl), ?_⟩
      refine ⟨fun A w9 hB h => step_pick h (by kernel_rfl) _ _ _ true rfl (by kernel_rfl) (by kernel_rfl), ?_⟩
      refine ⟨fun A w9 hB h => step_move h (by kernel_rfl) _ rfl (by kernel_rfl), ?_⟩
      refine ⟨fun A w9 hB h => step_move_old h (by kernel_rfl) 14 rfl (by kernel_rfl) (by rfl), ?_⟩
      refine ⟨fun A w9 hB h => step_bin h (by kernel_rfl) _ _ _ _ _ (.int .i64 0) (.int .i64 0) rfl (by kernel_rfl) (by kernel_rfl) (fun W => by kernel_rfl) (fun W => by kernel_rfl), ?_⟩
      refine ⟨fun A w9 hB h => step_pick h (by kernel_rfl) _ _ _ true rfl (by kernel_rfl) (by kernel_rfl), ?_⟩
      refine ⟨fun A w9 hB h => step_move h (by kernel_rfl) _ rfl (by kernel_rfl), ?_⟩
      refine ⟨fun A w9 hB h => step_move_old h (by kernel_rfl) 16 rfl (by kernel_rfl) (by rfl), ?_⟩
      refine ⟨fun A w9 hB h => step_bin h (by kernel_rfl) _ _ _ _ _ (.int .i64 0) (.int .i64 0) rfl (by kernel_rfl) (by kernel_rfl) (fun W => by kernel_rfl) (fun W => by kernel_rfl), ?_⟩
      refine ⟨fun A w9 hB h => step_pick h (by kernel_rfl) _ _ _ true rfl (by kernel_rfl) (by kernel_rfl), ?_⟩
      refine ⟨fun A w9 hB h => step_move h (by kernel_rfl) _ rfl (by kernel_rfl), ?_⟩
      refine ⟨fun A w9 hB h => step_move_old h (by kernel_rfl) 18 rfl (by kernel_rfl) (by rfl), ?_⟩
      refine ⟨fun A w9 hB h => step_bin h (by kernel_rfl) _ _ _ _ _ (.int .i64 0) (.int .i64 0) rfl (by kernel_rfl) (by kernel_rfl) (fun W => by kernel_rfl) (fun W => by kernel_rfl), ?_⟩
      refine ⟨fun A w9 hB h => step_pick h (by kernel_rfl) _ _ _ true rfl (by kernel_rfl) (by kernel_rfl), ?_⟩
      refine ⟨fun A w9 hB h => step_move h (by kernel_rfl) _ rfl (by kernel_rfl), ?_⟩
      refine ⟨fun A w9 hB h => step_move_old h (by kernel_rfl) 20 rfl (by kernel_rfl) (by rfl), ?_⟩
      refine ⟨fun A w9 hB h => step_bin h (by kernel_rfl) _ _ _ _ _ (.int .i64 0) (.int .i64 0) rfl (by kernel_rfl) (by kernel_rfl) (fun W => by kernel_rfl) (fun W => by kernel_rfl), ?_⟩
      refine ⟨fun A w9 hB h => step_pick h (by kernel_rfl) _ _ _ true rfl (by kernel_rfl) (by kernel_rfl), ?_⟩
      refine ⟨fun A w9 hB h => step_move h (by kernel_rfl) _ rfl (by kernel_rfl), ?_⟩
      refine ⟨fun A w9 hB h => step_move_old h (by kernel_rfl) 17 rfl (by kernel_rfl) (by rfl), ?_⟩
      refine ⟨fun A w9 hB h => step_move_old h (by kernel_rfl) 11 rfl (by kernel_rfl) (by rfl), ?_⟩
      refine ⟨fun A w9 hB h => step_un h (by kernel_rfl) _ _ _ (.int .i64 (-1)) rfl (by kernel_rfl) (by kernel_rfl), ?_⟩
      refine ⟨fun A w9 hB h => step_bin h (by kernel_rfl) _ _ _ _ _ (.int .i64 1) (.int .i64 1) rfl (by kernel_rfl) (by kernel_rfl) (fun W => by kernel_rfl) (fun W => by kernel_rfl), ?_⟩
      refine ⟨fun A w9 hB h => step_pick h (by kernel_rfl) _ _ _ true rfl (by kernel_rfl) (by kernel_rfl), ?_⟩
      refine ⟨fun A w9 hB h => step_move h (by kernel_rfl) _ rfl (by kernel_rfl), ?_⟩
      refine ⟨fun A w9 hB h => step_move_old h (by kernel_rfl) 11 rfl (by kernel_rfl) (by rfl), ?_⟩
      refine ⟨fun A w9 hB h => step_bin h (by kernel_rfl) _ _ _ _ _ (.int .i64 (-1)) (.int .i64 0) rfl (by kernel_rfl) (by kernel_rfl) (fun W => by kernel_rfl) (fun W => by kernel_rfl), ?_⟩
      refine ⟨fun A w9 hB h => step_load h (by kernel_rfl) _ _ (.pointer (some ⟨w4.heap.size, 0, none⟩)) rfl (h.old 8 (by kernel_rfl) (by rfl)) (load5 (X8.out.below hB)), ?_⟩
      refine ⟨fun A w9 hB h => step_load h (by kernel_rfl) _ _ (.pointer (some ⟨w4.heap.size + 1, 0, none⟩)) rfl (h.old 9 (by kernel_rfl) (by rfl)) (load5 (Y8.out.below hB)), ?_⟩
      refine ⟨fun A w9 hB h => step_bin h (by kernel_rfl) _ _ _ _ _ (.agg #[.int .i64 x0, .int .i64 x1, .int .i64 x2, .int .i64 x3, .int .i64 x4]) (.agg #[.int .i64 y0, .int .i64 y1, .int .i64 y2, .int .i64 y3, .int .i64 y4]) rfl (by kernel_rfl) (by kernel_rfl) (fun W => guard_look _ _ _ _ _ W) (fun W => zq W), ?_⟩
      refine ⟨fun A w9 hB h => step_bin h (by kernel_rfl) _ _ _ _ _ (.bool false) (.bool false) rfl (by kernel_rfl) (by kernel_rfl) (fun W => by kernel_rfl) (fun W => by kernel_rfl), ?_⟩
      refine ⟨fun A w9 hB h => step_pick h (by kernel_rfl) _ _ _ true rfl (by kernel_rfl) (by kernel_rfl), ?_⟩
      refine ⟨fun A w9 hB h => step_move h (by kernel_rfl) _ rfl (by kernel_rfl), ?_⟩
      refine ⟨fun A w9 hB h => step_move_old h (by kernel_rfl) 11 rfl (by kernel_rfl) (by rfl), ?_⟩
      refine ⟨fun A w9 hB h => step_bin h (by kernel_rfl) _ _ _ _ _ (.int .i64 (-1)) (.int .i64 0) rfl (by kernel_rfl) (by kernel_rfl) (fun W => by kernel_rfl) (fun W => by kernel_rfl), ?_⟩
      refine ⟨fun A w9 hB h => step_move h (by kernel_rfl) _ rfl (by kernel_rfl), ?_⟩
      refine ⟨fun A w9 hB h => step_move_old h (by kernel_rfl) 13 rfl (by kernel_rfl) (by rfl), ?_⟩
      refine ⟨fun A w9 hB h => step_bin h (by kernel_rfl) _ _ _ _ _ (.int .i64 1) (.int .i64 0) rfl (by kernel_rfl) (by kernel_rfl) (fun W => by kernel_rfl) (fun W => by kernel_rfl), ?_⟩
      refine ⟨fun A w9 hB h => step_pick h (by kernel_rfl) _ _ _ false rfl (by kernel_rfl) (by kernel_rfl), ?_⟩
      refine ⟨fun A w9 hB h => step_move h (by kernel_rfl) _ rfl (by kernel_rfl), ?_⟩
      refine ⟨fun A w9 hB h => kit.step_skip h (by kernel_rfl), ?_⟩
      refine ⟨fun A w9 hB h => kit.step_skip h (by kernel_rfl), ?_⟩
      refine ⟨fun A w9 hB h => step_pick h (by kernel_rfl) _ _ _ true rfl (by kernel_rfl) (by kernel_rfl), ?_⟩
      refine ⟨fun A w9 hB h => step_pick h (by kernel_rfl) _ _ _ true rfl (by kernel_rfl) (by kernel_rfl), ?_⟩
      refine ⟨fun A w9 hB h => step_move h (by kernel_rfl) _ rfl (by kernel_rfl), ?_⟩
      refine ⟨fun A w9 hB h => step_move_old h (by kernel_rfl) 11 rfl (by kernel_rfl) (by rfl), ?_⟩
      refine ⟨fun A w9 hB h => step_bin h (by kernel_rfl) _ _ _ _ _ (.int .i64 (-1)) (.int .i64 0) rfl (by kernel_rfl) (by kernel_rfl) (fun W => by kernel_rfl) (fun W => by kernel_rfl), ?_⟩
      refine ⟨fun A w9 hB h => step_move h (by kernel_rfl) _ rfl (by kernel_rfl), ?_⟩
      refine ⟨fun A w9 hB h => step_move_old h (by kernel_rfl) 13 rfl (by kernel_rfl) (by rfl), ?_⟩
      refine ⟨fun A w9 hB h => step_bin h (by kernel_rfl) _ _ _ _ _ (.int .i64 1) (.int .i64 0) rfl (by kernel_rfl) (by kernel_rfl) (fun W => by kernel_rfl) (fun W => by kernel_rfl), ?_⟩
      refine ⟨fun A w9 hB h => step_pick h (by kernel_rfl) _ _ _ false rfl (by kernel_rfl) (by kernel_rfl), ?_⟩
      refine ⟨fun A w9 hB h => step_move h (by kernel_rfl) _ rfl (by kernel_rfl), ?_⟩
      refine ⟨fun A w9 hB h => kit.step_skip h (by kernel_rfl), ?_⟩
      refine ⟨fun A w9 hB h => kit.step_skip h (by kernel_rfl), ?_⟩
      refine ⟨fun A w9 hB h => step_pick h (by kernel_rfl) _ _ _ true rfl (by kernel_rfl) (by kernel_rfl), ?_⟩
      refine ⟨fun A w9 hB h => step_pick h (by kernel_rfl) _ _ _ true rfl (by kernel_rfl) (by kernel_rfl), ?_⟩
      refine ⟨fun A w9 hB h => step_move h (by kernel_rfl) _ rfl (by kernel_rfl), ?_⟩
      refine ⟨fun A w9 hB h => step_move_old h (by kernel_rfl) 19 rfl (by kernel_rfl) (by rfl), ?_⟩
      refine ⟨fun A w9 hB h => step_un h (by kernel_rfl) _ _ _ (.bool false) rfl (by kernel_rfl) (by kernel_rfl), ?_⟩
      refine ⟨fun A w9 hB h => step_move h (by kernel_rfl) _ rfl (by kernel_rfl), ?_⟩
      refine ⟨fun A w9 hB h => kit.step_skip h (by kernel_rfl), ?_⟩
      refine ⟨fun A w9 hB h => kit.step_skip h (by kernel_rfl), ?_⟩
      refine ⟨fun A w9 hB h => step_pick h (by kernel_rfl) _ _ _ true rfl (by kernel_rfl) (by kernel_rfl), ?_⟩
      refine ⟨fun A w9 hB h => step_pick h (by kernel_rfl) _ _ _ true rfl (by kernel_rfl) (by kernel_rfl), ?_⟩
      refine ⟨fun A w9 hB h => step_move h (by kernel_rfl) _ rfl (by kernel_rfl), ?_⟩
      refine ⟨fun A w9 hB h => step_call_con h (by kernel_rfl) _ _ [.slice none 0 0] rfl rfl (by kernel_rfl) (by kernel_rfl) (lof_any none 0 [] w9 (by simp) (Lib.hid (fun i hi => by simp at hi)) 0 0 0 0 0 0 (Lib.hid (by decide))), ?_⟩
      refine ⟨fun A w9 hB h => step_load h (by kernel_rfl) _ _ (.pointer (some ⟨w4.heap.size, 0, none⟩)) rfl (h.old 8 (by kernel_rfl) (by rfl)) (load5 (X8.out.below hB)), ?_⟩
      refine ⟨fun A w9 hB h => step_load h (by kernel_rfl) _ _ (.pointer (some ⟨w4.heap.size, 0, none⟩)) rfl (h.old 8 (by kernel_rfl) (by rfl)) (load5 (X8.out.below hB)), ?_⟩
      refine ⟨fun A w9 hB h => step_call_con h (by kernel_rfl) _ _ [.agg #[.int .i64 x0, .int .i64 x1, .int .i64 x2, .int .i64 x3, .int .i64 x4]] rfl rfl (by kernel_rfl) (by kernel_rfl) (lleast_any x0 x1 x2 x3 x4 w9 lv HLV.out), ?_⟩
      refine ⟨fun A w9 hB h => step_call_con h (by kernel_rfl) _ _ [.agg #[.int .i64 0, .int .i64 0, .int .i64 0, .int .i64 0, .int .i64 0], .agg #[.int .i64 x0, .int .i64 x1, .int .i64 x2, .int .i64 x3, .int .i64 x4], .int .i64 lv] rfl rfl (by kernel_rfl) (by kernel_rfl) ((lcompares_any 0 0 0 0 0 x0 x1 x2 x3 x4 w9 lv lv 0 rfl HL0).mono (fun e w8 q => by simpa using q)), ?_⟩
      refine ⟨fun A w9 hB h => step_pick h (by kernel_rfl) _ _ _ true rfl (by kernel_rfl) (by kernel_rfl), ?_⟩
      refine ⟨fun A w9 hB h => step_assign h (by kernel_rfl) _ rfl (by kernel_rfl), ?_⟩
      exact trivial
    case fin =>
      intro B w8 hB hsz hdf hold
      clear hold
      have B8 := Lib.hid (below_on B9.out (Nat.le_refl _) hB)
      have hs : B.tmps.size = 132 := hsz.trans (by rfl)
      clear hB hsz
      rename_i K hK
      refine hK _ _ ?_
      clear hK
      go_wp2
      exact bodyPost_ret (v := .bool true) (by simp [results, Tryd.results7, go_sem, hs]) rfl ⟨rfl, B8.out⟩
  · clear OC
    refine wp_region_last [.con (.bool true), .con (.bool true), .con (.int .i64 0), .con (.bool true), .con (.bool true), .con (.bool true), .con (.int .i64 0), .con (.bool true), .con (.bool true), .con (.bool true), .con (.int .i64 0), .con (.bool true), .con (.bool true), .con (.bool true), .con (.int .i64 0), .con (.bool true), .con (.bool true), .con (.bool true), .con (.int .i64 0), .con (.bool true), .con (.bool true), .con (.bool true), .con (.int .i64 1), .con (.int .i64 (-1)), .con (.int .i64 1), .con (.bool true), .con (.bool true), .con (.bool true), .con (.int .i64 (-1)), .con (.bool false), .con (.agg #[.int .i64 x0, .int .i64 x1, .int .i64 x2, .int .i64 x3, .int .i64 x4]), .con (.agg #[.int .i64 y0, .int .i64 y1, .int .i64 y2, .int .i64 y3, .int .i64 y4]), .con (.bool false), .con (.bool true), .con (.bool true), .con (.bool true), .con (.int .i64 (-1)), .con (.bool false), .con (.bool false), .con (.int .i64 1), .con (.bool true), .con (.bool true), .con (.bool true), .con (undef), .con (undef), .con (.bool true), .con (.bool true), .con (.bool true), .con (.int .i64 (-1)), .con (.bool false), .con (.bool false), .con (.int .i64 1), .con (.bool true), .con (.bool true), .con (.bool true), .con (undef), .con (undef), .con (.bool true), .con (.bool true), .con (.bool true), .con (.bool true), .con (.bool false), .con (.bool false), .con (.int .i64 (-1)), .con (.bool true), .con (.bool true), .con (.bool true), .con (.bool true), .con (.agg #[.int .i64 0, .int .i64 0, .int .i64 0, .int .i64 0, .int .i64 0]), .con (.agg #[.int .i64 x0, .int .i64 x1, .int .i64 x2, .int .i64 x3, .int .i64 x4]), .con (.agg #[.int .i64 x0, .int .i64 x1, .int .i64 x2, .int .i64 x3, .int .i64 x4]), .con (.int .i64 lv), .con (.bool true), .con (.bool true), .con (.bool true)] 6 74 (.bool true) (by kernel_rfl) (by kernel_rfl) (mkS_keeps (by kernel_rfl)) rfl rfl rfl ?steps ?fin
    case steps =>
      refine ⟨fun A w9 hB h => step_move_old h (by kernel_rfl) 7 rfl (by kernel_rfl) (by rfl), ?_⟩
      refine ⟨fun A w9 hB h => step_move h (by kernel_rfl) _ rfl (by kernel_rfl), ?_⟩
      refine ⟨fun A w9 hB h => step_move_old h (by kernel_rfl) 12 rfl (by kernel_rfl) (by rfl), ?_⟩
      refine ⟨fun A w9 hB h => step_bin h (by kernel_rfl) _ _ _ _ _ (.int .i64 0) (.int .i64 0) rfl (by kernel_rfl) (by kernel_rfl) (fun W => by kernel_rfl) (fun W => by kernel_rfl), ?_⟩
      refine ⟨fun A w9 hB h => step_pick h (by kernel_rfl) _ _ _ true rfl (by kernel_rfl) (by kernel_rfl), ?_⟩
      refine ⟨fun A w9 hB h => step_move h (by kernel_rfl) _ rfl (by kernel_rfl), ?_⟩
      refine ⟨fun A w9 hB h => step_move_old h (by kernel_rfl) 14 rfl (by kernel_rfl) (by rfl), ?_⟩
      refine ⟨fun A w9 hB h => step_bin h (by kernel_rfl) _ _ _ _ _ (.int .i64 0) (.int .i64 0) rfl (by kernel_rfl) (by kernel_rfl) (fun W => by kernel_rfl) (fun W => by kernel_rfl), ?_⟩
      refine ⟨fun A w9 hB h => step_pick h (by kernel_rfl) _ _ _ true rfl (by kernel_rfl) (by kernel_rfl), ?_⟩
      refine ⟨fun A w9 hB h => step_move h (by kernel_rfl) _ rfl (by kernel_rfl), ?_⟩
      refine ⟨fun A w9 hB h => step_move_old h (by kernel_rfl) 16 rfl (by kernel_rfl) (by rfl), ?_⟩
      refine ⟨fun A w9 hB h => step_bin h (by kernel_rfl) _ _ _ _ _ (.int .i64 0) (.int .i64 0) rfl (by kernel_rfl) (by kernel_rfl) (fun W => by kernel_rfl) (fun W => by kernel_rfl), ?_⟩
      refine ⟨fun A w9 hB h => step_pick h (by kernel_rfl) _ _ _ true rfl (by kernel_rfl) (by kernel_rfl), ?_⟩
      refine ⟨fun A w9 hB h => step_move h (by kernel_rfl) _ rfl (by kernel_rfl), ?_⟩
      refine ⟨fun A w9 hB h => step_move_old h (by kernel_rfl) 18 rfl (by kernel_rfl) (by rfl), ?_⟩
      refine ⟨fun A w9 hB h => step_bin h (by kernel_rfl) _ _ _ _ _ (.int .i64 0) (.int .i64 0) rfl (by kernel_rfl) (by kernel_rfl) (fun W => by kernel_rfl) (fun W => by kernel_rfl), ?_⟩
      refine ⟨fun A w9 hB h => step_pick h (by kernel_rfl) _ _ _ true rfl (by kernel_rfl) (by kernel_rfl), ?_⟩
      refine ⟨fun A w9 hB h => step_move h (by kernel_rfl) _ rfl (by kernel_rfl), ?_⟩
      refine ⟨fun A w9 hB h => step_move_old h (by kernel_rfl) 20 rfl (by kernel_rfl) (by rfl), ?_⟩
      refine ⟨fun A w9 hB h => step_bin h (by kernel_rfl) _ _ _ _ _ (.int .i64 0) (.int .i64 0) rfl (by kernel_rfl) (by kernel_rfl) (fun W => by kernel_rfl) (fun W => by kernel_rfl), ?_⟩
      refine ⟨fun A w9 hB h => step_pick h (by kernel_rfl) _ _ _ true rfl (by kernel_rfl) (by kernel_rfl), ?_⟩
      refine ⟨fun A w9 hB h => step_move h (by kernel_rfl) _ rfl (by kernel_rfl), ?_⟩
      refine ⟨fun A w9 hB h => step_move_old h (by kernel_rfl) 17 rfl (by kernel_rfl) (by rfl), ?_⟩
      refine ⟨fun A w9 hB h => step_move_old h (by kernel_rfl) 11 rfl (by kernel_rfl) (by rfl), ?_⟩
      refine ⟨fun A w9 hB h => step_un h (by kernel_rfl) _ _ _ (.int .i64 (-1)) rfl (by kernel_rfl) (by kernel_rfl), ?_⟩
      refine ⟨fun A w9 hB h => step_bin h (by kernel_rfl) _ _ _ _ _ (.int .i64 1) (.int .i64 1) rfl (by kernel_rfl) (by kernel_rfl) (fun W => by kernel_rfl) (fun W => by kernel_rfl), ?_⟩
      refine ⟨fun A w9 hB h => step_pick h (by kernel_rfl) _ _ _ true rfl (by kernel_rfl) (by kernel_rfl), ?_⟩
      refine ⟨fun A w9 hB h => step_move h (by kernel_rfl) _ rfl (by kernel_rfl), ?_⟩
      refine ⟨fun A w9 hB h => step_move_old h (by kernel_rfl) 11 rfl (by kernel_rfl) (by rfl), ?_⟩
      refine ⟨fun A w9 hB h => step_bin h (by kernel_rfl) _ _ _ _ _ (.int .i64 (-1)) (.int .i64 0) rfl (by kernel_rfl) (by kernel_rfl) (fun W => by kernel_rfl) (fun W => by kernel_rfl), ?_⟩
      refine ⟨fun A w9 hB h => step_load h (by kernel_rfl) _ _ (.pointer (some ⟨w4.heap.size, 0, none⟩)) rfl (h.old 8 (by kernel_rfl) (by rfl)) (load5 (X8.out.below hB)), ?_⟩
      refine ⟨fun A w9 hB h => step_load h (by kernel_rfl) _ _ (.pointer (some ⟨w4.heap.size + 1, 0, none⟩)) rfl (h.old 9 (by kernel_rfl) (by rfl)) (load5 (Y8.out.below hB)), ?_⟩
      refine ⟨fun A w9 hB h => step_bin h (by kernel_rfl) _ _ _ _ _ (.agg #[.int .i64 x0, .int .i64 x1, .int .i64 x2, .int .i64 x3, .int .i64 x4]) (.agg #[.int .i64 y0, .int .i64 y1, .int .i64 y2, .int .i64 y3, .int .i64 y4]) rfl (by kernel_rfl) (by kernel_rfl) (fun W => guard_look _ _ _ _ _ W) (fun W => zq W), ?_⟩
      refine ⟨fun A w9 hB h => step_bin h (by kernel_rfl) _ _ _ _ _ (.bool false) (.bool false) rfl (by kernel_rfl) (by kernel_rfl) (fun W => by kernel_rfl) (fun W => by kernel_rfl), ?_⟩
      refine ⟨fun A w9 hB h => step_pick h (by kernel_rfl) _ _ _ true rfl (by kernel_rfl) (by kernel_rfl), ?_⟩
      refine ⟨fun A w9 hB h => step_move h (by kernel_rfl) _ rfl (by kernel_rfl), ?_⟩
      refine ⟨fun A w9 hB h => step_move_old h (by kernel_rfl) 11 rfl (by kernel_rfl) (by rfl), ?_⟩
      refine ⟨fun A w9 hB h => step_bin h (by kernel_rfl) _ _ _ _ _ (.int .i64 (-1)) (.int .i64 0) rfl (by kernel_rfl) (by kernel_rfl) (fun W => by kernel_rfl) (fun W => by kernel_rfl), ?_⟩
      refine ⟨fun A w9 hB h => step_move h (by kernel_rfl) _ rfl (by kernel_rfl), ?_⟩
      refine ⟨fun A w9 hB h => step_move_old h (by kernel_rfl) 13 rfl (by kernel_rfl) (by rfl), ?_⟩
      refine ⟨fun A w9 hB h => step_bin h (by kernel_rfl) _ _ _ _ _ (.int .i64 1) (.int .i64 0) rfl (by kernel_rfl) (by kernel_rfl) (fun W => by kernel_rfl) (fun W => by kernel_rfl), ?_⟩
      refine ⟨fun A w9 hB h => step_pick h (by kernel_rfl) _ _ _ false rfl (by kernel_rfl) (by kernel_rfl), ?_⟩
      refine ⟨fun A w9 hB h => step_move h (by kernel_rfl) _ rfl (by kernel_rfl), ?_⟩
      refine ⟨fun A w9 hB h => kit.step_skip h (by kernel_rfl), ?_⟩
      refine ⟨fun A w9 hB h => kit.step_skip h (by kernel_rfl), ?_⟩
      refine ⟨fun A w9 hB h => step_pick h (by kernel_rfl) _ _ _ true rfl (by kernel_rfl) (by kernel_rfl), ?_⟩
      refine ⟨fun A w9 hB h => step_pick h (by kernel_rfl) _ _ _ true rfl (by kernel_rfl) (by kernel_rfl), ?_⟩
      refine ⟨fun A w9 hB h => step_move h (by kernel_rfl) _ rfl (by kernel_rfl), ?_⟩
      refine ⟨fun A w9 hB h => step_move_old h (by kernel_rfl) 11 rfl (by kernel_rfl) (by rfl), ?_⟩
      refine ⟨fun A w9 hB h => step_bin h (by kernel_rfl) _ _ _ _ _ (.int .i64 (-1)) (.int .i64 0) rfl (by kernel_rfl) (by kernel_rfl) (fun W => by kernel_rfl) (fun W => by kernel_rfl), ?_⟩
      refine ⟨fun A w9 hB h => step_move h (by kernel_rfl) _ rfl (by kernel_rfl), ?_⟩
      refine ⟨fun A w9 hB h => step_move_old h (by kernel_rfl) 13 rfl (by kernel_rfl) (by rfl), ?_⟩
      refine ⟨fun A w9 hB h => step_bin h (by kernel_rfl) _ _ _ _ _ (.int .i64 1) (.int .i64 0) rfl (by kernel_rfl) (by kernel_rfl) (fun W => by kernel_rfl) (fun W => by kernel_rfl), ?_⟩
      refine ⟨fun A w9 hB h => step_pick h (by kernel_rfl) _ _ _ false rfl (by kernel_rfl) (by kernel_rfl), ?_⟩
      refine ⟨fun A w9 hB h => step_move h (by kernel_rfl) _ rfl (by kernel_rfl), ?_⟩
      refine ⟨fun A w9 hB h => kit.step_skip h (by kernel_rfl), ?_⟩
      refine ⟨fun A w9 hB h => kit.step_skip h (by kernel_rfl), ?_⟩
      refine ⟨fun A w9 hB h => step_pick h (by kernel_rfl) _ _ _ true rfl (by kernel_rfl) (by kernel_rfl), ?_⟩
      refine ⟨fun A w9 hB h => step_pick h (by kernel_rfl) _ _ _ true rfl (by kernel_rfl) (by kernel_rfl), ?_⟩
      refine ⟨fun A w9 hB h => step_move h (by kernel_rfl) _ rfl (by kernel_rfl), ?_⟩
      refine ⟨fun A w9 hB h => step_move_old h (by kernel_rfl) 19 rfl (by kernel_rfl) (by rfl), ?_⟩
      refine ⟨fun A w9 hB h => step_un h (by kernel_rfl) _ _ _ (.bool true) rfl (by kernel_rfl) (by kernel_rfl), ?_⟩
      refine ⟨fun A w9 hB h => step_move h (by kernel_rfl) _ rfl (by kernel_rfl), ?_⟩
      refine ⟨fun A w9 hB h => step_move_old h (by kernel_rfl) 11 rfl (by kernel_rfl) (by rfl), ?_⟩
      refine ⟨fun A w9 hB h => step_bin h (by kernel_rfl) _ _ _ _ _ (.int .i64 (-1)) (.int .i64 0) rfl (by kernel_rfl) (by kernel_rfl) (fun W => by kernel_rfl) (fun W => by kernel_rfl), ?_⟩
      refine ⟨fun A w9 hB h => step_pick h (by kernel_rfl) _ _ _ false rfl (by kernel_rfl) (by kernel_rfl), ?_⟩
      refine ⟨fun A w9 hB h => step_pick h (by kernel_rfl) _ _ _ true rfl (by kernel_rfl) (by kernel_rfl), ?_⟩
      refine ⟨fun A w9 hB h => step_move h (by kernel_rfl) _ rfl (by kernel_rfl), ?_⟩
      refine ⟨fun A w9 hB h => step_call_con h (by kernel_rfl) _ _ [.slice none 0 0] rfl rfl (by kernel_rfl) (by kernel_rfl) (lof_any none 0 [] w9 (by simp) (Lib.hid (fun i hi => by simp at hi)) 0 0 0 0 0 0 (Lib.hid (by decide))), ?_⟩
      refine ⟨fun A w9 hB h => step_load h (by kernel_rfl) _ _ (.pointer (some ⟨w4.heap.size, 0, none⟩)) rfl (h.old 8 (by kernel_rfl) (by rfl)) (load5 (X8.out.below hB)), ?_⟩
      refine ⟨fun A w9 hB h => step_load h (by kernel_rfl) _ _ (.pointer (some ⟨w4.heap.size, 0, none⟩)) rfl (h.old 8 (by kernel_rfl) (by rfl)) (load5 (X8.out.below hB)), ?_⟩
      refine ⟨fun A w9 hB h => step_call_con h (by kernel_rfl) _ _ [.agg #[.int .i64 x0, .int .i64 x1, .int .i64 x2, .int .i64 x3, .int .i64 x4]] rfl rfl (by kernel_rfl) (by kernel_rfl) (lleast_any x0 x1 x2 x3 x4 w9 lv HLV.out), ?_⟩
      refine ⟨fun A w9 hB h => step_call_con h (by kernel_rfl) _ _ [.agg #[.int .i64 0, .int .i64 0, .int .i64 0, .int .i64 0, .int .i64 0], .agg #[.int .i64 x0, .int .i64 x1, .int .i64 x2, .int .i64 x3, .int .i64 x4], .int .i64 lv] rfl rfl (by kernel_rfl) (by kernel_rfl) ((lcompares_any 0 0 0 0 0 x0 x1 x2 x3 x4 w9 lv lv 0 rfl HL0).mono (fun e w8 q => by simpa using q)), ?_⟩
      refine ⟨fun A w9 hB h => step_pick h (by kernel_rfl) _ _ _ true rfl (by kernel_rfl) (by kernel_rfl), ?_⟩
      refine ⟨fun A w9 hB h => step_assign h (by kernel_rfl) _ rfl (by kernel_rfl), ?_⟩
      exact trivial
    case fin =>
      intro B w8 hB hsz hdf hold
      clear hold
      have B8 := Lib.hid (below_on B9.out (Nat.le_refl _) hB)
      have hs : B.tmps.size = 132 := hsz.trans (by rfl)
      clear hB hsz
      rename_i K hK
      refine hK _ _ ?_
      clear hK
      go_wp2
      exact bodyPost_ret (v := .bool true) (by simp [results, Tryd.results7, go_sem, hs]) rfl ⟨rfl, B8.out⟩
  · clear OC
    refine wp_region_last [.con (.bool true), .con (.bool true), .con (.int .i64 0), .con (.bool true), .con (.bool true), .con (.bool true), .con (.int .i64 0), .con (.bool true), .con (.bool true), .con (.bool true), .con (.int .i64 0), .con (.bool true), .con (.bool true), .con (.bool true), .con (.int .i64 0), .con (.bool true), .con (.bool true), .con (.bool true), .con (.int .i64 0), .con (.bool true), .con (.bool true), .con (.bool true), .con (.int .i64 1), .con (.int .i64 (-1)), .con (.int .i64 1), .con (.bool true), .con (.bool true), .con (.bool true), .con (.int .i64 (-1)), .con (.bool false), .con (.agg #[.int .i64 x0, .int .i64 x1, .int .i64 x2, .int .i64 x3, .int .i64 x4]), .con (.agg #[.int .i64 y0, .int .i64 y1, .int .i64 y2, .int .i64 y3, .int .i64 y4]), .con (.bool false), .con (.bool true), .con (.bool true), .con (.bool true), .con (.int .i64 (-1)), .con (.bool false), .con (.bool false), .con (.int .i64 1), .con (.bool true), .con (.bool true), .con (.bool true), .con (undef), .con (undef), .con (.bool true), .con (.bool true), .con (.bool true), .con (.int .i64 (-1)), .con (.bool false), .con (.bool false), .con (.int .i64 1), .con (.bool true), .con (.bool true), .con (.bool true), .con (undef), .con (undef), .con (.bool true), .con (.bool true), .con (.bool true), .con (.bool false), .con (.bool true), .con (.bool true), .con (undef), .con (undef), .con (.bool true), .con (.bool true), .con (.bool true), .con (.agg #[.int .i64 0, .int .i64 0, .int .i64 0, .int .i64 0, .int .i64 0]), .con (.agg #[.int .i64 x0, .int .i64 x1, .int .i64 x2, .int .i64 x3, .int .i64 x4]), .con (.agg #[.int .i64 x0, .int .i64 x1, .int .i64 x2, .int .i64 x3, .int .i64 x4]), .con (.int .i64 lv), .con (.bool true), .con (.bool true), .con (.bool true)] 6 74 (.bool true) (by kernel_rfl) (by kernel_rfl) (mkS_keeps (by kernel_rfl)) rfl rfl rfl ?steps ?fin
    case steps =>
      refine ⟨fun A w9 hB h => step_move_old h (by kernel_rfl) 7 rfl (by kernel_rfl) (by rfl), ?_⟩
      refine ⟨fun A w9 hB h => step_move h (by kernel_rfl) _ rfl (by kernel_rfl), ?_⟩
      refine ⟨fun A w9 hB h => step_move_old h (by kernel_rfl) 12 rfl (by kernel_rfl) (by rfl), ?_⟩
      refine ⟨fun A w9 hB h => step_bin h (by kernel_rfl) _ _ _ _ _ (.int .i64 0) (.int .i64 0) rfl (by kernel_rfl) (by kernel_rfl) (fun W => by kernel_rfl) (fun W => by kernel_rfl), ?_⟩
      refine ⟨fun A w9 hB h => step_pick h (by kernel_rfl) _ _ _ true rfl (by kernel_rfl) (by kernel_rfl), ?_⟩
      refine ⟨fun A w9 hB h => step_move h (by kernel_rfl) _ rfl (by kernel_rfl), ?_⟩
      refine ⟨fun A w9 hB h => step_move_old h (by kernel_rfl) 14 rfl (by kernel_rfl) (by rfl), ?_⟩
      refine ⟨fun A w9 hB h => step_bin h (by kernel_rfl) _ _ _ _ _ (.int .i64 0) (.int .i64 0) rfl (by kernel_rfl) (by kernel_rfl) (fun W => by kernel_rfl) (fun W => by kernel_rfl), ?_⟩
      refine ⟨fun A w9 hB h => step_pick h (by kernel_rfl) _ _ _ true rfl (by kernel_rfl) (by kernel_rfl), ?_⟩
      refine ⟨fun A w9 hB h => step_move h (by kernel_rfl) _ rfl (by kernel_rfl), ?_⟩
      refine ⟨fun A w9 hB h => step_move_old h (by kernel_rfl) 16 rfl (by kernel_rfl) (by rfl), ?_⟩
      refine ⟨fun A w9 hB h => step_bin h (by kernel_rfl) _ _ _ _ _ (.int .i64 0) (.int .i64 0) rfl (by kernel_rfl) (by kernel_rfl) (fun W => by kernel_rfl) (fun W => by kernel_rfl), ?_⟩
      refine ⟨fun A w9 hB h => step_pick h (by kernel_rfl) _ _ _ true rfl (by kernel_rfl) (by kernel_rfl), ?_⟩
      refine ⟨fun A w9 hB h => step_move h (by kernel_rfl) _ rfl (by kernel_rfl), ?_⟩
      refine ⟨fun A w9 hB h => step_move_old h (by kernel_rfl) 18 rfl (by kernel_rfl) (by rfl), ?_⟩
      refine ⟨fun A w9 hB h => step_bin h (by kernel_rfl) _ _ _ _ _ (.int .i64 0) (.int .i64 0) rfl (by kernel_rfl) (by kernel_rfl) (fun W => by kernel_rfl) (fun W => by kernel_rfl), ?_⟩
      refine ⟨fun A w9 hB h => step_pick h (by kernel_rfl) _ _ _ true rfl (by kernel_rfl) (by kernel_rfl), ?_⟩
      refine ⟨fun A w9 hB h => step_move h (by kernel_rfl) _ rfl (by kernel_rfl), ?_⟩
      refine ⟨fun A w9 hB h => step_move_old h (by kernel_rfl) 20 rfl (by kernel_rfl) (by rfl), ?_⟩
      refine ⟨fun A w9 hB h => step_bin h (by kernel_rfl) _ _ _ _ _ (.int .i64 0) (.int .i64 0) rfl (by kernel_rfl) (by kernel_rfl) (fun W => by kernel_rfl) (fun W => by kernel_rfl), ?_⟩
      refine ⟨fun A w9 hB h => step_pick h (by kernel_rfl) _ _ _ true rfl (by kernel_rfl) (by kernel_rfl), ?_⟩
      refine ⟨fun A w9 hB h => step_move h (by kernel_rfl) _ rfl (by kernel_rfl), ?_⟩
      refine ⟨fun A w9 hB h => step_move_old h (by kernel_rfl) 17 rfl (by kernel_rfl) (by rfl), ?_⟩
      refine ⟨fun A w9 hB h => step_move_old h (by kernel_rfl) 11 rfl (by kernel_rfl) (by rfl), ?_⟩
      refine ⟨fun A w9 hB h => step_un h (by kernel_rfl) _ _ _ (.int .i64 (-1)) rfl (by kernel_rfl) (by kernel_rfl), ?_⟩
      refine ⟨fun A w9 hB h => step_bin h (by kernel_rfl) _ _ _ _ _ (.int .i64 1) (.int .i64 1) rfl (by kernel_rfl) (by kernel_rfl) (fun W => by kernel_rfl) (fun W => by kernel_rfl), ?_⟩
      refine ⟨fun A w9 hB h => step_pick h (by kernel_rfl) _ _ _ true rfl (by kernel_rfl) (by kernel_rfl), ?_⟩
      refine ⟨fun A w9 hB h => step_move h (by kernel_rfl) _ rfl (by kernel_rfl), ?_⟩
      refine ⟨fun A w9 hB h => step_move_old h (by kernel_rfl) 11 rfl (by kernel_rfl) (by rfl), ?_⟩
      refine ⟨fun A w9 hB h => step_bin h (by kernel_rfl) _ _ _ _ _ (.int .i64 (-1)) (.int .i64 0) rfl (by kernel_rfl) (by kernel_rfl) (fun W => by kernel_rfl) (fun W => by kernel_rfl), ?_⟩
      refine ⟨fun A w9 hB h => step_load h (by kernel_rfl) _ _ (.pointer (some ⟨w4.heap.size, 0, none⟩)) rfl (h.old 8 (by kernel_rfl) (by rfl)) (load5 (X8.out.below hB)), ?_⟩
      refine ⟨fun A w9 hB h => step_load h (by kernel_rfl) _ _ (.pointer (some ⟨w4.heap.size + 1, 0, none⟩)) rfl (h.old 9 (by kernel_rfl) (by rfl)) (load5 (Y8.out.below hB)), ?_⟩
      refine ⟨fun A w9 hB h => step_bin h (by kernel_rfl) _ _ _ _ _ (.agg #[.int .i64 x0, .int .i64 x1, .int .i64 x2, .int .i64 x3, .int .i64 x4]) (.agg #[.int .i64 y0, .int .i64 y1, .int .i64 y2, .int .i64 y3, .int .i64 y4]) rfl (by kernel_rfl) (by kernel_rfl) (fun W => guard_look _ _ _ _ _ W) (fun W => zq W), ?_⟩
      refine ⟨fun A w9 hB h => step_bin h (by kernel_rfl) _ _ _ _ _ (.bool false) (.bool false) rfl (by kernel_rfl) (by kernel_rfl) (fun W => by kernel_rfl) (fun W => by kernel_rfl), ?_⟩
      refine ⟨fun A w9 hB h => step_pick h (by kernel_rfl) _ _ _ true rfl (by kernel_rfl) (by kernel_rfl), ?_⟩
      refine ⟨fun A w9 hB h => step_move h (by kernel_rfl) _ rfl (by kernel_rfl), ?_⟩
      refine ⟨fun A w9 hB h => step_move_old h (by kernel_rfl) 11 rfl (by kernel_rfl) (by rfl), ?_⟩
      refine ⟨fun A w9 hB h => step_bin h (by kernel_rfl) _ _ _ _ _ (.int .i64 (-1)) (.int .i64 0) rfl (by kernel_rfl) (by kernel_rfl) (fun W => by kernel_rfl) (fun W => by kernel_rfl), ?_⟩
      refine ⟨fun A w9 hB h => step_move h (by kernel_rfl) _ rfl (by kernel_rfl), ?_⟩
      refine ⟨fun A w9 hB h => step_move_old h (by kernel_rfl) 13 rfl (by kernel_rfl) (by rfl), ?_⟩
      refine ⟨fun A w9 hB h => step_bin h (by kernel_rfl) _ _ _ _ _ (.int .i64 1) (.int .i64 0) rfl (by kernel_rfl) (by kernel_rfl) (fun W => by kernel_rfl) (fun W => by kernel_rfl), ?_⟩
      refine ⟨fun A w9 hB h => step_pick h (by kernel_rfl) _ _ _ false rfl (by kernel_rfl) (by kernel_rfl), ?_⟩
      refine ⟨fun A w9 hB h => step_move h (by kernel_rfl) _ rfl (by kernel_rfl), ?_⟩
      refine ⟨fun A w9 hB h => kit.step_skip h (by kernel_rfl), ?_⟩
      refine ⟨fun A w9 hB h => kit.step_skip h (by kernel_rfl), ?_⟩
      refine ⟨fun A w9 hB h => step_pick h (by kernel_rfl) _ _ _ true rfl (by kernel_rfl) (by kernel_rfl), ?_⟩
      refine ⟨fun A w9 hB h => step_pick h (by kernel_rfl) _ _ _ true rfl (by kernel_rfl) (by kernel_rfl), ?_⟩
      refine ⟨fun A w9 hB h => step_move h (by kernel_rfl) _ rfl (by kernel_rfl), ?_⟩
      refine ⟨fun A w9 hB h => step_move_old h (by kernel_rfl) 11 rfl (by kernel_rfl) (by rfl), ?_⟩
      refine ⟨fun A w9 hB h => step_bin h (by kernel_rfl) _ _ _ _ _ (.int .i64 (-1)) (.int .i64 0) rfl (by kernel_rfl) (by kernel_rfl) (fun W => by kernel_rfl) (fun W => by kernel_rfl), ?_⟩
      refine ⟨fun A w9 hB h => step_move h (by kernel_rfl) _ rfl (by kernel_rfl), ?_⟩
      refine ⟨fun A w9 hB h => step_move_old h (by kernel_rfl) 13 rfl (by kernel_rfl) (by rfl), ?_⟩
      refine ⟨fun A w9 hB h => step_bin h (by kernel_rfl) _ _ _ _ _ (.int .i64 1) (.int .i64 0) rfl (by kernel_rfl) (by kernel_rfl) (fun W => by kernel_rfl) (fun W => by kernel_rfl), ?_⟩
      refine ⟨fun A w9 hB h => step_pick h (by kernel_rfl) _ _ _ false rfl (by kernel_rfl) (by kernel_rfl), ?_⟩
      refine ⟨fun A w9 hB h => step_move h (by kernel_rfl) _ rfl (by kernel_rfl), ?_⟩
      refine ⟨fun A w9 hB h => kit.step_skip h (by kernel_rfl), ?_⟩
      refine ⟨fun A w9 hB h => kit.step_skip h (by kernel_rfl), ?_⟩
      refine ⟨fun A w9 hB h => step_pick h (by kernel_rfl) _ _ _ true rfl (by kernel_rfl) (by kernel_rfl), ?_⟩
      refine ⟨fun A w9 hB h => step_pick h (by kernel_rfl) _ _ _ true rfl (by kernel_rfl) (by kernel_rfl), ?_⟩
      refine ⟨fun A w9 hB h => step_move h (by kernel_rfl) _ rfl (by kernel_rfl), ?_⟩
      refine ⟨fun A w9 hB h => step_move_old h (by kernel_rfl) 19 rfl (by kernel_rfl) (by rfl), ?_⟩
      refine ⟨fun A w9 hB h => step_un h (by kernel_rfl) _ _ _ (.bool false) rfl (by kernel_rfl) (by kernel_rfl), ?_⟩
      refine ⟨fun A w9 hB h => step_move h (by kernel_rfl) _ rfl (by kernel_rfl), ?_⟩
      refine ⟨fun A w9 hB h => kit.step_skip h (by kernel_rfl), ?_⟩
      refine ⟨fun A w9 hB h => kit.step_skip h (by kernel_rfl), ?_⟩
      refine ⟨fun A w9 hB h => step_pick h (by kernel_rfl) _ _ _ true rfl (by kernel_rfl) (by kernel_rfl), ?_⟩
      refine ⟨fun A w9 hB h => step_pick h (by kernel_rfl) _ _ _ true rfl (by kernel_rfl) (by kernel_rfl), ?_⟩
      refine ⟨fun A w9 hB h => step_move h (by kernel_rfl) _ rfl (by kernel_rfl), ?_⟩
      refine ⟨fun A w9 hB h => step_call_con h (by kernel_rfl) _ _ [.slice none 0 0] rfl rfl (by kernel_rfl) (by kernel_rfl) (lof_any none 0 [] w9 (by simp) (Lib.hid (fun i hi => by simp at hi)) 0 0 0 0 0 0 (Lib.hid (by decide))), ?_⟩
      refine ⟨fun A w9 hB h => step_load h (by kernel_rfl) _ _ (.pointer (some ⟨w4.heap.size, 0, none⟩)) rfl (h.old 8 (by kernel_rfl) (by rfl)) (load5 (X8.out.below hB)), ?_⟩
      refine ⟨fun A w9 hB h => step_load h (by kernel_rfl) _ _ (.pointer (some ⟨w4.heap.size, 0, none⟩)) rfl (h.old 8 (by kernel_rfl) (by rfl)) (load5 (X8.out.below hB)), ?_⟩
      refine ⟨fun A w9 hB h => step_call_con h (by kernel_rfl) _ _ [.agg #[.int .i64 x0, .int .i64 x1, .int .i64 x2, .int .i64 x3, .int .i64 x4]] rfl rfl (by kernel_rfl) (by kernel_rfl) (lleast_any x0 x1 x2 x3 x4 w9 lv HLV.out), ?_⟩
      refine ⟨fun A w9 hB h => step_call_con h (by kernel_rfl) _ _ [.agg #[.int .i64 0, .int .i64 0, .int .i64 0, .int .i64 0, .int .i64 0], .agg #[.int .i64 x0, .int .i64 x1, .int .i64 x2, .int .i64 x3, .int .i64 x4], .int .i64 lv] rfl rfl (by kernel_rfl) (by kernel_rfl) ((lcompares_any 0 0 0 0 0 x0 x1 x2 x3 x4 w9 lv lv 0 rfl HL0).mono (fun e w8 q => by simpa using q)), ?_⟩
      refine ⟨fun A w9 hB h => step_pick h (by kernel_rfl) _ _ _ true rfl (by kernel_rfl) (by kernel_rfl), ?_⟩
      refine ⟨fun A w9 hB h => step_assign h (by kernel_rfl) _ rfl (by kernel_rfl), ?_⟩
      exact trivial
    case fin =>
      intro B w8 hB hsz hdf hold
      clear hold
      have B8 := Lib.hid (below_on B9.out (Nat.le_refl _) hB)
      have hs : B.tmps.size = 132 := hsz.trans (by rfl)
      clear hB hsz
      rename_i K hK
      refine hK _ _ ?_
      clear hK
      go_wp2
      exact bodyPost_ret (v := .bool true) (by simp [results, Tryd.results7, go_sem, hs]) rfl ⟨rfl, B8.out⟩
  · clear OC
    refine wp_region_last [.con (.bool true), .con (.bool true), .con (.int .i64 0), .con (.bool true), .con (.bool true), .con (.bool true), .con (.int .i64 0), .con (.bool true), .con (.bool true), .con (.bool true), .con (.int .i64 0), .con (.bool true), .con (.bool true), .con (.bool true), .con (.int .i64 0), .con (.bool true), .con (.bool true), .con (.bool true), .con (.int .i64 0), .con (.bool true), .con (.bool true), .con (.bool true), .con (.int .i64 1), .con (.int .i64 (-1)), .con (.int .i64 1), .con (.bool true), .con (.bool true), .con (.bool true), .con (.int .i64 (-1)), .con (.bool false), .con (.agg #[.int .i64 x0, .int .i64 x1, .int .i64 x2, .int .i64 x3, .int .i64 x4]), .con (.agg #[.int .i64 y0, .int .i64 y1, .int .i64 y2, .int .i64 y3, .int .i64 y4]), .con (.bool false), .con (.bool true), .con (.bool true), .con (.bool true), .con (.int .i64 (-1)), .con (.bool false), .con (.bool false), .con (.int .i64 1), .con (.bool true), .con (.bool true), .con (.bool true), .con (undef), .con (undef), .con (.bool true), .con (.bool true), .con (.bool true), .con (.int .i64 (-1)), .con (.bool false), .con (.bool false), .con (.int .i64 1), .con (.bool true), .con (.bool true), .con (.bool true), .con (undef), .con (undef), .con (.bool true), .con (.bool true), .con (.bool true), .con (.bool true), .con (.bool false), .con (.bool false), .con (.int .i64 (-1)), .con (.bool true), .con (.bool true), .con (.bool true), .con (.bool true), .con (.agg #[.int .i64 0, .int .i64 0, .int .i64 0, .int .i64 0, .int .i64 0]), .con (.agg #[.int .i64 x0, .int .i64 x1, .int .i64 x2, .int .i64 x3, .int .i64 x4]), .con (.agg #[.int .i64 x0, .int .i64 x1, .int .i64 x2, .int .i64 x3, .int .i64 x4]), .con (.int .i64 lv), .con (.bool true), .con (.bool true), .con (.bool true)] 6 74 (.bool true) (by kernel_rfl) (by kernel_rfl) (mkS_keeps (by kernel_rfl)) rfl rfl rfl ?steps ?fin
    case steps =>
      refine ⟨fun A w9 hB h => step_move_old h (by kernel_rfl) 7 rfl (by kernel_rfl) (by rfl), ?_⟩
      refine ⟨fun A w9 hB h => step_move h (by kernel_rfl) _ rfl (by kernel_rfl), ?_⟩
      refine ⟨fun A w9 hB h => step_move_old h (by kernel_rfl) 12 rfl (by kernel_rfl) (by rfl), ?_⟩
      refine ⟨fun A w9 hB h => step_bin h (by kernel_rfl) _ _ _ _ _ (.int .i64 0) (.int .i64 0) rfl (by kernel_rfl) (by kernel_rfl) (fun W => by kernel_rfl) (fun W => by kernel_rfl), ?_⟩
      refine ⟨fun A w9 hB h => step_pick h (by kernel_rfl) _ _ _ true rfl (by kernel_rfl) (by kernel_rfl), ?_⟩
      refine ⟨fun A w9 hB h => step_move h (by kernel_rfl) _ rfl (by kernel_rfl), ?_⟩
      refine ⟨fun A w9 hB h => step_move_old h (by kernel_rfl) 14 rfl (by kernel_rfl) (by rfl), ?_⟩
      refine ⟨fun A w9 hB h => step_bin h (by kernel_rfl) _ _ _ _ _ (.int .i64 0) (.int .i64 0) rfl (by kernel_rfl) (by kernel_rfl) (fun W => by kernel_rfl) (fun W => by kernel_rfl), ?_⟩
      refine ⟨fun A w9 hB h => step_pick h (by kernel_rfl) _ _ _ true rfl (by kernel_rfl) (by kernel_rfl), ?_⟩
      refine ⟨fun A w9 hB h => step_move h (by kernel_rfl) _ rfl (by kernel_rfl), ?_⟩
      refine ⟨fun A w9 hB h => step_move_old h (by kernel_rfl) 16 rfl (by kernel_rfl) (by rfl), ?_⟩
      refine ⟨fun A w9 hB h => step_bin h (by kernel_rfl) _ _ _ _ _ (.int .i64 0) (.int .i64 0) rfl (by kernel_rfl) (by kernel_rfl) (fun W => by kernel_rfl) (fun W => by kernel_rfl), ?_⟩
      refine ⟨fun A w9 hB h => step_pick h (by kernel_rfl) _ _ _ true rfl (by kernel_rfl) (by kernel_rfl), ?_⟩
      refine ⟨fun A w9 hB h => step_move h (by kernel_rfl) _ rfl (by kernel_rfl), ?_⟩
      refine ⟨fun A w9 hB h => step_move_old h (by kernel_rfl) 18 rfl (by kernel_rfl) (by rfl), ?_⟩
      refine ⟨fun A w9 hB h => step_bin h (by kernel_rfl) _ _ _ _ _ (.int .i64 0) (.int .i64 0) rfl (by kernel_rfl) (by kernel_rfl) (fun W => by kernel_rfl) (fun W => by kernel_rfl), ?_⟩
      refine ⟨fun A w9 hB h => step_pick h (by kernel_rfl) _ _ _ true rfl (by kernel_rfl) (by kernel_rfl), ?_⟩
      refine ⟨fun A w9 hB h => step_move h (by kernel_rfl) _ rfl (by kernel_rfl), ?_⟩
      refine ⟨fun A w9 hB h => step_move_old h (by kernel_rfl) 20 rfl (by kernel_rfl) (by rfl), ?_⟩
      refine ⟨fun A w9 hB h => step_bin h (by kernel_rfl) _ _ _ _ _ (.int .i64 0) (.int .i64 0) rfl (by kernel_rfl) (by kernel_rfl) (fun W => by kernel_rfl) (fun W => by kernel_rfl), ?_⟩
      refine ⟨fun A w9 hB h => step_pick h (by kernel_rfl) _ _ _ true rfl (by kernel_rfl) (by kernel_rfl), ?_⟩
      refine ⟨fun A w9 hB h => step_move h (by kernel_rfl) _ rfl (by kernel_rfl), ?_⟩
      refine ⟨fun A w9 hB h => step_move_old h (by kernel_rfl) 17 rfl (by kernel_rfl) (by rfl), ?_⟩
      refine ⟨fun A w9 hB h => step_move_old h (by kernel_rfl) 11 rfl (by kernel_rfl) (by rfl), ?_⟩
      refine ⟨fun A w9 hB h => step_un h (by kernel_rfl) _ _ _ (.int .i64 (-1)) rfl (by kernel_rfl) (by kernel_rfl), ?_⟩
      refine ⟨fun A w9 hB h => step_bin h (by kernel_rfl) _ _ _ _ _ (.int .i64 1) (.int .i64 1) rfl (by kernel_rfl) (by kernel_rfl) (fun W => by kernel_rfl) (fun W => by kernel_rfl), ?_⟩
      refine ⟨fun A w9 hB h => step_pick h (by kernel_rfl) _ _ _ true rfl (by kernel_rfl) (by kernel_rfl), ?_⟩
      refine ⟨fun A w9 hB h => step_move h (by kernel_rfl) _ rfl (by kernel_rfl), ?_⟩
      refine ⟨fun A w9 hB h => step_move_old h (by kernel_rfl) 11 rfl (by kernel_rfl) (by rfl), ?_⟩
      refine ⟨fun A w9 hB h => step_bin h (by kernel_rfl) _ _ _ _ _ (.int .i64 (-1)) (.int .i64 0) rfl (by kernel_rfl) (by kernel_rfl) (fun W => by kernel_rfl) (fun W => by kernel_rfl), ?_⟩
      refine ⟨fun A w9 hB h => step_load h (by kernel_rfl) _ _ (.pointer (some ⟨w4.heap.size, 0, none⟩)) rfl (h.old 8 (by kernel_rfl) (by rfl)) (load5 (X8.out.below hB)), ?_⟩
      refine ⟨fun A w9 hB h => step_load h (by kernel_rfl) _ _ (.pointer (some ⟨w4.heap.size + 1, 0, none⟩)) rfl (h.old 9 (by kernel_rfl) (by rfl)) (load5 (Y8.out.below hB)), ?_⟩
      refine ⟨fun A w9 hB h => step_bin h (by kernel_rfl) _ _ _ _ _ (.agg #[.int .i64 x0, .int .i64 x1, .int .i64 x2, .int .i64 x3, .int .i64 x4]) (.agg #[.int .i64 y0, .int .i64 y1, .int .i64 y2, .int .i64 y3, .int .i64 y4]) rfl (by kernel_rfl) (by kernel_rfl) (fun W => guard_look _ _ _ _ _ W) (fun W => zq W), ?_⟩
      refine ⟨fun A w9 hB h => step_bin h (by kernel_rfl) _ _ _ _ _ (.bool false) (.bool false) rfl (by kernel_rfl) (by kernel_rfl) (fun W => by kernel_rfl) (fun W => by kernel_rfl), ?_⟩
      refine ⟨fun A w9 hB h => step_pick h (by kernel_rfl) _ _ _ true rfl (by kernel_rfl) (by kernel_rfl), ?_⟩
      refine ⟨fun A w9 hB h => step_move h (by kernel_rfl) _ rfl (by kernel_rfl), ?_⟩
      refine ⟨fun A w9 hB h => step_move_old h (by kernel_rfl) 11 rfl (by kernel_rfl) (by rfl), ?_⟩
      refine ⟨fun A w9 hB h => step_bin h (by kernel_rfl) _ _ _ _ _ (.int .i64 (-1)) (.int .i64 0) rfl (by kernel_rfl) (by kernel_rfl) (fun W => by kernel_rfl) (fun W => by kernel_rfl), ?_⟩
      refine ⟨fun A w9 hB h => step_move h (by kernel_rfl) _ rfl (by kernel_rfl), ?_⟩
      refine ⟨fun A w9 hB h => step_move_old h (by kernel_rfl) 13 rfl (by kernel_rfl) (by rfl), ?_⟩
      refine ⟨fun A w9 hB h => step_bin h (by kernel_rfl) _ _ _ _ _ (.int .i64 1) (.int .i64 0) rfl (by kernel_rfl) (by kernel_rfl) (fun W => by kernel_rfl) (fun W => by kernel_rfl), ?_⟩
      refine ⟨fun A w9 hB h => step_pick h (by kernel_rfl) _ _ _ false rfl (by kernel_rfl) (by kernel_rfl), ?_⟩
      refine ⟨fun A w9 hB h => step_move h (by kernel_rfl) _ rfl (by kernel_rfl), ?_⟩
      refine ⟨fun A w9 hB h => kit.step_skip h (by kernel_rfl), ?_⟩
      refine ⟨fun A w9 hB h => kit.step_skip h (by kernel_rfl), ?_⟩
      refine ⟨fun A w9 hB h => step_pick h (by kernel_rfl) _ _ _ true rfl (by kernel_rfl) (by kernel_rfl), ?_⟩
      refine ⟨fun A w9 hB h => step_pick h (by kernel_rfl) _ _ _ true rfl (by kernel_rfl) (by kernel_rfl), ?_⟩
      refine ⟨fun A w9 hB h => step_move h (by kernel_rfl) _ rfl (by kernel_rfl), ?_⟩
      refine ⟨fun A w9 hB h => step_move_old h (by kernel_rfl) 11 rfl (by kernel_rfl) (by rfl), ?_⟩
      refine ⟨fun A w9 hB h => step_bin h (by kernel_rfl) _ _ _ _ _ (.int .i64 (-1)) (.int .i64 0) rfl (by kernel_rfl) (by kernel_rfl) (fun W => by kernel_rfl) (fun W => by kernel_rfl), ?_⟩
      refine ⟨fun A w9 hB h => step_move h (by kernel_rfl) _ rfl (by kernel_rfl), ?_⟩
      refine ⟨fun A w9 hB h => step_move_old h (by kernel_rfl) 13 rfl (by kernel_rfl) (by rfl), ?_⟩
      refine ⟨fun A w9 hB h => step_bin h (by kernel_rfl) _ _ _ _ _ (.int .i64 1) (.int .i64 0) rfl (by kernel_rfl) (by kernel_rfl) (fun W => by kernel_rfl) (fun W => by kernel_rfl), ?_⟩
      refine ⟨fun A w9 hB h => step_pick h (by kernel_rfl) _ _ _ false rfl (by kernel_rfl) (by kernel_rfl), ?_⟩
      refine ⟨fun A w9 hB h => step_move h (by kernel_rfl) _ rfl (by kernel_rfl), ?_⟩
      refine ⟨fun A w9 hB h => kit.step_skip h (by kernel_rfl), ?_⟩
      refine ⟨fun A w9 hB h => kit.step_skip h (by kernel_rfl), ?_⟩
      refine ⟨fun A w9 hB h => step_pick h (by kernel_rfl) _ _ _ true rfl (by kernel_rfl) (by kernel_rfl), ?_⟩
      refine ⟨fun A w9 hB h => step_pick h (by kernel_rfl) _ _ _ true rfl (by kernel_rfl) (by kernel_rfl), ?_⟩
      refine ⟨fun A w9 hB h => step_move h (by kernel_rfl) _ rfl (by kernel_rfl), ?_⟩
      refine ⟨fun A w9 hB h => step_move_old h (by kernel_rfl) 19 rfl (by kernel_rfl) (by rfl), ?_⟩
      refine ⟨fun A w9 hB h => step_un h (by kernel_rfl) _ _ _ (.bool true) rfl (by kernel_rfl) (by kernel_rfl), ?_⟩
      refine ⟨fun A w9 hB h => step_move h (by kernel_rfl) _ rfl (by kernel_rfl), ?_⟩
      refine ⟨fun A w9 hB h => step_move_old h (by kernel_rfl) 11 rfl (by kernel_rfl) (by rfl), ?_⟩
      refine ⟨fun A w9 hB h => step_bin h (by kernel_rfl) _ _ _ _ _ (.int .i64 (-1)) (.int .i64 0) rfl (by kernel_rfl) (by kernel_rfl) (fun W => by kernel_rfl) (fun W => by kernel_rfl), ?_⟩
      refine ⟨fun A w9 hB h => step_pick h (by kernel_rfl) _ _ _ false rfl (by kernel_rfl) (by kernel_rfl), ?_⟩
      refine ⟨fun A w9 hB h => step_pick h (by kernel_rfl) _ _ _ true rfl (by kernel_rfl) (by kernel_rfl), ?_⟩
      refine ⟨fun A w9 hB h => step_move h (by kernel_rfl) _ rfl (by kernel_rfl), ?_⟩
      refine ⟨fun A w9 hB h => step_call_con h (by kernel_rfl) _ _ [.slice none 0 0] rfl rfl (by kernel_rfl) (by kernel_rfl) (lof_any none 0 [] w9 (by simp) (Lib.hid (fun i hi => by simp at hi)) 0 0 0 0 0 0 (Lib.hid (by decide))), ?_⟩
      refine ⟨fun A w9 hB h => step_load h (by kernel_rfl) _ _ (.pointer (some ⟨w4.heap.size, 0, none⟩)) rfl (h.old 8 (by kernel_rfl) (by rfl)) (load5 (X8.out.below hB)), ?_⟩
      refine ⟨fun A w9 hB h => step_load h (by kernel_rfl) _ _ (.pointer (some ⟨w4.heap.size, 0, none⟩)) rfl (h.old 8 (by kernel_rfl) (by rfl)) (load5 (X8.out.below hB)), ?_⟩
      refine ⟨fun A w9 hB h => step_call_con h (by kernel_rfl) _ _ [.agg #[.int .i64 x0, .int .i64 x1, .int .i64 x2, .int .i64 x3, .int .i64 x4]] rfl rfl (by kernel_rfl) (by kernel_rfl) (lleast_any x0 x1 x2 x3 x4 w9 lv HLV.out), ?_⟩
      refine ⟨fun A w9 hB h => step_call_con h (by kernel_rfl) _ _ [.agg #[.int .i64 0, .int .i64 0, .int .i64 0, .int .i64 0, .int .i64 0], .agg #[.int .i64 x0, .int .i64 x1, .int .i64 x2, .int .i64 x3, .int .i64 x4], .int .i64 lv] rfl rfl (by kernel_rfl) (by kernel_rfl) ((lcompares_any 0 0 0 0 0 x0 x1 x2 x3 x4 w9 lv lv 0 rfl HL0).mono (fun e w8 q => by simpa using q)), ?_⟩
      refine ⟨fun A w9 hB h => step_pick h (by kernel_rfl) _ _ _ true rfl (by kernel_rfl) (by kernel_rfl), ?_⟩
      refine ⟨fun A w9 hB h => step_assign h (by kernel_rfl) _ rfl (by kernel_rfl), ?_⟩
      exact trivial
    case fin =>
      intro B w8 hB hsz hdf hold
      clear hold
      have B8 := Lib.hid (below_on B9.out (Nat.le_refl _) hB)
      have hs : B.tmps.size = 132 := hsz.trans (by rfl)
      clear hB hsz
      rename_i K hK
      refine hK _ _ ?_
      clear hK
      go_wp2
      exact bodyPost_ret (v := .bool true) (by simp [results, Tryd.results7, go_sem, hs]) rfl ⟨rfl, B8.out⟩
  · clear OC
    refine wp_region_last [.con (.bool true), .con (.bool true), .con (.int .i64 0), .con (.bool true), .con (.bool true), .con (.bool true), .con (.int .i64 0), .con (.bool true), .con (.bool true), .con (.bool true), .con (.int .i64 0), .con (.bool true), .con (.bool true), .con (.bool true), .con (.int .i64 0), .con (.bool true), .con (.bool true), .con (.bool true), .con (.int .i64 0), .con (.bool true), .con (.bool true), .con (.bool true), .con (.int .i64 1), .con (.int .i64 (-1)), .con (.int .i64 1), .con (.bool true), .con (.bool true), .con (.bool true), .con (.int .i64 (-1)), .con (.bool false), .con (.agg #[.int .i64 x0, .int .i64 x1, .int .i64 x2, .int .i64 x3, .int .i64 x4]), .con (.agg #[.int .i64 y0, .int .i64 y1, .int .i64 y2, .int .i64 y3, .int .i64 y4]), .con (.bool false), .con (.bool true), .con (.bool true), .con (.bool true), .con (.int .i64 (-1)), .con (.bool false), .con (.bool false), .con (.int .i64 1), .con (.bool true), .con (.bool true), .con (.bool true), .con (undef), .con (undef), .con (.bool true), .con (.bool true), .con (.bool true), .con (.int .i64 (-1)), .con (.bool false), .con (.bool false), .con (.int .i64 1), .con (.bool true), .con (.bool true), .con (.bool true), .con (undef), .con (undef), .con (.bool true), .con (.bool true), .con (.bool true), .con (.bool false), .con (.bool true), .con (.bool true), .con (undef), .con (undef), .con (.bool true), .con (.bool true), .con (.bool true), .con (.agg #[.int .i64 0, .int .i64 0, .int .i64 0, .int .i64 0, .int .i64 0]), .con (.agg #[.int .i64 x0, .int .i64 x1, .int .i64 x2, .int .i64 x3, .int .i64 x4]), .con (.agg #[.int .i64 x0, .int .i64 x1, .int .i64 x2, .int .i64 x3, .int .i64 x4]), .con (.int .i64 lv), .con (.bool true), .con (.bool true), .con (.bool true)] 6 74 (.bool true) (by kernel_rfl) (by kernel_rfl) (mkS_keeps (by kernel_rfl)) rfl rfl rfl ?steps ?fin
    case steps =>
      refine ⟨fun A w9 hB h => step_move_old h (by kernel_rfl) 7 rfl (by kernel_rfl) (by rfl), ?_⟩
      refine ⟨fun A w9 hB h => step_move h (by kernel_rfl) _ rfl (by kernel_rfl), ?_⟩
      refine ⟨fun A w9 hB h => step_move_old h (by kernel_rfl) 12 rfl (by kernel_rfl) (by rfl), ?_⟩
      refine ⟨fun A w9 hB h => step_bin h (by kernel_rfl) _ _ _ _ _ (.int .i64 0) (.int .i64 0) rfl (by kernel_rfl) (by kernel_rfl) (fun W => by kernel_rfl) (fun W => by kernel_rfl), ?_⟩
      refine ⟨fun A w9 hB h => step_pick h (by kernel_rfl) _ _ _ true rfl (by kernel_rfl) (by kernel_rfl), ?_⟩
      refine ⟨fun A w9 hB h => step_move h (by kernel_rfl) _ rfl (by kernel_rfl), ?_⟩
      refine ⟨fun A w9 hB h => step_move_old h (by kernel_rfl) 14 rfl (by kernel_rfl) (by rfl), ?_⟩
      refine ⟨fun A w9 hB h => step_bin h (by kernel_rfl) _ _ _ _ _ (.int .i64 0) (.int .i64 0) rfl (by kernel_rfl) (by kernel_rfl) (fun W => by kernel_rfl) (fun W => by kernel_rfl), ?_⟩
      refine ⟨fun A w9 hB h => step_pick h (by kernel_rfl) _ _ _ true rfl (by kernel_rfl) (by kernel_rfl), ?_⟩
      refine ⟨fun A w9 hB h => step_move h (by kernel_rfl) _ rfl (by kernel_rfl), ?_⟩
      refine ⟨fun A w9 hB h => step_move_old h (by kernel_rfl) 16 rfl (by kernel_rfl) (by rfl), ?_⟩
      refine ⟨fun A w9 hB h => step_bin h (by kernel_rfl) _ _ _ _ _ (.int .i64 0) (.int .i64 0) rfl (by kernel_rfl) (by kernel_rfl) (fun W => by kernel_rfl) (fun W => by kernel_rfl), ?_⟩
      refine ⟨fun A w9 hB h => step_pick h (by kernel_rfl) _ _ _ true rfl (by kernel_rfl) (by kernel_rfl), ?_⟩
      refine ⟨fun A w9 hB h => step_move h (by kernel_rfl) _ rfl (by kernel_rfl), ?_⟩
      refine ⟨fun A w9 hB h => step_move_old h (by kernel_rfl) 18 rfl (by kernel_rfl) (by rfl), ?_⟩
      refine ⟨fun A w9 hB h => step_bin h (by kernel_rfl) _ _ _ _ _ (.int .i64 0) (.int .i64 0) rfl (by kernel_rfl) (by kernel_rfl) (fun W => by kernel_rfl) (fun W => by kernel_rfl), ?_⟩
      refine ⟨fun A w9 hB h => step_pick h (by kernel_rfl) _ _ _ true rfl (by kernel_rfl) (by kernel_rfl), ?_⟩
      refine ⟨fun A w9 hB h => step_move h (by kernel_rfl) _ rfl (by kernel_rfl), ?_⟩
      refine ⟨fun A w9 hB h => step_move_old h (by kernel_rfl) 20 rfl (by kernel_rfl) (by rfl), ?_⟩
      refine ⟨fun A w9 hB h => step_bin h (by kernel_rfl) _ _ _ _ _ (.int .i64 0) (.int .i64 0) rfl (by kernel_rfl) (by kernel_rfl) (fun W => by kernel_rfl) (fun W => by kernel_rfl), ?_⟩
      refine ⟨fun A w9 hB h => step_pick h (by kernel_rfl) _ _ _ true rfl (by kernel_rfl) (by kernel_rfl), ?_⟩
      refine ⟨fun A w9 hB h => step_move h (by kernel_rfl) _ rfl (by kernel_rfl), ?_⟩
      refine ⟨fun A w9 hB h => step_move_old h (by kernel_rfl) 17 rfl (by kernel_rfl) (by rfl), ?_⟩
      refine ⟨fun A w9 hB h => step_move_old h (by kernel_rfl) 11 rfl (by kernel_rfl) (by rfl), ?_⟩
      refine ⟨fun A w9 hB h => step_un h (by kernel_rfl) _ _ _ (.int .i64 (-1)) rfl (by kernel_rfl) (by kernel_rfl), ?_⟩
      refine ⟨fun A w9 hB h => step_bin h (by kernel_rfl) _ _ _ _ _ (.int .i64 1) (.int .i64 1) rfl (by kernel_rfl) (by kernel_rfl) (fun W => by kernel_rfl) (fun W => by kernel_rfl), ?_⟩
      refine ⟨fun A w9 hB h => step_pick h (by kernel_rfl) _ _ _ true rfl (by kernel_rfl) (by kernel_rfl), ?_⟩
      refine ⟨fun A w9 hB h => step_move h (by kernel_rfl) _ rfl (by kernel_rfl), ?_⟩
      refine ⟨fun A w9 hB h => step_move_old h (by kernel_rfl) 11 rfl (by kernel_rfl) (by rfl), ?_⟩
      refine ⟨fun A w9 hB h => step_bin h (by kernel_rfl) _ _ _ _ _ (.int .i64 (-1)) (.int .i64 0) rfl (by kernel_rfl) (by kernel_rfl) (fun W => by kernel_rfl) (fun W => by kernel_rfl), ?_⟩
      refine ⟨fun A w9 hB h => step_load h (by kernel_rfl) _ _ (.pointer (some ⟨w4.heap.size, 0, none⟩)) rfl (h.old 8 (by kernel_rfl) (by rfl)) (load5 (X8.out.below hB)), ?_⟩
      refine ⟨fun A w9 hB h => step_load h (by kernel_rfl) _ _ (.pointer (some ⟨w4.heap.size + 1, 0, none⟩)) rfl (h.old 9 (by kernel_rfl) (by rfl)) (load5 (Y8.out.below hB)), ?_⟩
      refine ⟨fun A w9 hB h => step_bin h (by kernel_rfl) _ _ _ _ _ (.agg #[.int .i64 x0, .int .i64 x1, .int .i64 x2, .int .i64 x3, .int .i64 x4]) (.agg #[.int .i64 y0, .int .i64 y1, .int .i64 y2, .int .i64 y3, .int .i64 y4]) rfl (by kernel_rfl) (by kernel_rfl) (fun W => guard_look _ _ _ _ _ W) (fun W => zq W), ?_⟩
      refine ⟨fun A w9 hB h => step_bin h (by kernel_rfl) _ _ _ _ _ (.bool false) (.bool false) rfl (by kernel_rfl) (by kernel_rfl) (fun W => by kernel_rfl) (fun W => by kernel_rfl), ?_⟩
      refine ⟨fun A w9 hB h => step_pick h (by kernel_rfl) _ _ _ true rfl (by kernel_rfl) (by kernel_rfl), ?_⟩
      refine ⟨fun A w9 hB h => step_move h (by kernel_rfl) _ rfl (by kernel_rfl), ?_⟩
      refine ⟨fun A w9 hB h => step_move_old h (by kernel_rfl) 11 rfl (by kernel_rfl) (by rfl), ?_⟩
      refine ⟨fun A w9 hB h => step_bin h (by kernel_rfl) _ _ _ _ _ (.int .i64 (-1)) (.int .i64 0) rfl (by kernel_rfl) (by kernel_rfl) (fun W => by kernel_rfl) (fun W => by kernel_rfl), ?_⟩
      refine ⟨fun A w9 hB h => step_move h (by kernel_rfl) _ rfl (by kernel_rfl), ?_⟩
      refine ⟨fun A w9 hB h => step_move_old h (by kernel_rfl) 13 rfl (by kernel_rfl) (by rfl), ?_⟩
      refine ⟨fun A w9 hB h => step_bin h (by kernel_rfl) _ _ _ _ _ (.int .i64 1) (.int .i64 0) rfl (by kernel_rfl) (by kernel_rfl) (fun W => by kernel_rfl) (fun W => by kernel_rfl), ?_⟩
      refine ⟨fun A w9 hB h => step_pick h (by kernel_rfl) _ _ _ false rfl (by kernel_rfl) (by kernel_rfl), ?_⟩
      refine ⟨fun A w9 hB h => step_move h (by kernel_rfl) _ rfl (by kernel_rfl), ?_⟩
      refine ⟨fun A w9 hB h => kit.step_skip h (by kernel_rfl), ?_⟩
      refine ⟨fun A w9 hB h => kit.step_skip h (by kernel_rfl), ?_⟩
      refine ⟨fun A w9 hB h => step_pick h (by kernel_rfl) _ _ _ true rfl (by kernel_rfl) (by kernel_rfl), ?_⟩
      refine ⟨fun A w9 hB h => step_pick h (by kernel_rfl) _ _ _ true rfl (by kernel_rfl) (by kernel_rfl), ?_⟩
      refine ⟨fun A w9 hB h => step_move h (by kernel_rfl) _ rfl (by kernel_rfl), ?_⟩
      refine ⟨fun A w9 hB h => step_move_old h (by kernel_rfl) 11 rfl (by kernel_rfl) (by rfl), ?_⟩
      refine ⟨fun A w9 hB h => step_bin h (by kernel_rfl) _ _ _ _ _ (.int .i64 (-1)) (.int .i64 0) rfl (by kernel_rfl) (by kernel_rfl) (fun W => by kernel_rfl) (fun W => by kernel_rfl), ?_⟩
      refine ⟨fun A w9 hB h => step_move h (by kernel_rfl) _ rfl (by kernel_rfl), ?_⟩
      refine ⟨fun A w9 hB h => step_move_old h (by kernel_rfl) 13 rfl (by kernel_rfl) (by rfl), ?_⟩
      refine ⟨fun A w9 hB h => step_bin h (by kernel_rfl) _ _ _ _ _ (.int .i64 1) (.int .i64 0) rfl (by kernel_rfl) (by kernel_rfl) (fun W => by kernel_rfl) (fun W => by kernel_rfl), ?_⟩
      refine ⟨fun A w9 hB h => step_pick h (by kernel_rfl) _ _ _ false rfl (by kernel_rfl) (by kernel_rfl), ?_⟩
      refine ⟨fun A w9 hB h => step_move h (by kernel_rfl) _ rfl (by kernel_rfl), ?_⟩
      refine ⟨fun A w9 hB h => kit.step_skip h (by kernel_rfl), ?_⟩
      refine ⟨fun A w9 hB h => kit.step_skip h (by kernel_rfl), ?_⟩
      refine ⟨fun A w9 hB h => step_pick h (by kernel_rfl) _ _ _ true rfl (by kernel_rfl) (by kernel_rfl), ?_⟩
      refine ⟨fun A w9 hB h => step_pick h (by kernel_rfl) _ _ _ true rfl (by kernel_rfl) (by kernel_rfl), ?_⟩
      refine ⟨fun A w9 hB h => step_move h (by kernel_rfl) _ rfl (by kernel_rfl), ?_⟩
      refine ⟨fun A w9 hB h => step_move_old h (by kernel_rfl) 19 rfl (by kernel_rfl) (by rfl), ?_⟩
      refine ⟨fun A w9 hB h => step_un h (by kernel_rfl) _ _ _ (.bool false) rfl (by kernel_rfl) (by kernel_rfl), ?_⟩
      refine ⟨fun A w9 hB h => step_move h (by kernel_rfl) _ rfl (by kernel_rfl), ?_⟩
      refine ⟨fun A w9 hB h => kit.step_skip h (by kernel_rfl), ?_⟩
      refine ⟨fun A w9 hB h => kit.step_skip h (by kernel_rfl), ?_⟩
      refine ⟨fun A w9 hB h => step_pick h (by kernel_rfl) _ _ _ true rfl (by kernel_rfl) (by kernel_rfl), ?_⟩
      refine ⟨fun A w9 hB h => step_pick h (by kernel_rfl) _ _ _ true rfl (by kernel_rfl) (by kernel_rfl), ?_⟩
      refine ⟨fun A w9 hB h => step_move h (by kernel_rfl) _ rfl (by kernel_rfl), ?_⟩
      refine ⟨fun A w9 hB h => step_call_con h (by kernel_rfl) _ _ [.slice none 0 0] rfl rfl (by kernel_rfl) (by kernel_rfl) (lof_any none 0 [] w9 (by simp) (Lib.hid (fun i hi => by simp at hi)) 0 0 0 0 0 0 (Lib.hid (by decide))), ?_⟩
      refine ⟨fun A w9 hB h => step_load h (by kernel_rfl) _ _ (.pointer (some ⟨w4.heap.size, 0, none⟩)) rfl (h.old 8 (by kernel_rfl) (by rfl)) (load5 (X8.out.below hB)), ?_⟩
      refine ⟨fun A w9 hB h => step_load h (by kernel_rfl) _ _ (.pointer (some ⟨w4.heap.size, 0, none⟩)) rfl (h.old 8 (by kernel_rfl) (by rfl)) (load5 (X8.out.below hB)), ?_⟩
      refine ⟨fun A w9 hB h => step_call_con h (by kernel_rfl) _ _ [.agg #[.int .i64 x0, .int .i64 x1, .int .i64 x2, .int .i64 x3, .int .i64 x4]] rfl rfl (by kernel_rfl) (by kernel_rfl) (lleast_any x0 x1 x2 x3 x4 w9 lv HLV.out), ?_⟩
      refine ⟨fun A w9 hB h => step_call_con h (by kernel_rfl) _ _ [.agg #[.int .i64 0, .int .i64 0, .int .i64 0, .int .i64 0, .int .i64 0], .agg #[.int .i64 x0, .int .i64 x1, .int .i64 x2, .int .i64 x3, .int .i64 x4], .int .i64 lv] rfl rfl (by kernel_rfl) (by kernel_rfl) ((lcompares_any 0 0 0 0 0 x0 x1 x2 x3 x4 w9 lv lv 0 rfl HL0).mono (fun e w8 q => by simpa using q)), ?_⟩
      refine ⟨fun A w9 hB h => step_pick h (by kernel_rfl) _ _ _ true rfl (by kernel_rfl) (by kernel_rfl), ?_⟩
      refine ⟨fun A w9 hB h => step_assign h (by kernel_rfl) _ rfl (by kernel_rfl), ?_⟩
      exact trivial
    case fin =>
      intro B w8 hB hsz hdf hold
      clear hold
      have B8 := Lib.hid (below_on B9.out (Nat.le_refl _) hB)
      have hs : B.tmps.size = 132 := hsz.trans (by rfl)
      clear hB hsz
      rename_i K hK
      refine hK _ _ ?_
      clear hK
      go_wp2
      exact bodyPost_ret (v := .bool true) (by simp [results, Tryd.results7, go_sem, hs]) rfl ⟨rfl, B8.out⟩
  · clear OC
    refine wp_region_last [.con (.bool true), .con (.bool true), .con (.int .i64 0), .con (.bool true), .con (.bool true), .con (.bool true), .con (.int .i64 0), .con (.bool true), .con (.bool true), .con (.bool true), .con (.int .i64 0), .con (.bool true), .con (.bool true), .con (.bool true), .con (.int .i64 0), .con (.bool true), .con (.bool true), .con (.bool true), .con (.int .i64 0), .con (.bool true), .con (.bool true), .con (.bool true), .con (.int .i64 0), .con (.int .i64 0), .con (.int .i64 0), .con (.bool true), .con (.bool true), .con (.bool true), .con (.int .i64 0), .con (.bool true), .con (.agg #[.int .i64 x0, .int .i64 x1, .int .i64 x2, .int .i64 x3, .int .i64 x4]), .con (.agg #[.int .i64 y0, .int .i64 y1, .int .i64 y2, .int .i64 y3, .int .i64 y4]), .con (.bool true), .con (.bool true), .con (.bool true), .con (.bool true), .con (.int .i64 0), .con (.bool false), .con (.bool false), .con (.int .i64 (-1)), .con (.bool false), .con (.bool false), .con (.bool false), .con (.int .i64 (-1)), .con (.bool true), .con (.bool true), .con (.bool true), .con (.bool true), .con (.int .i64 0), .con (.bool true), .con (.bool true), .con (undef), .con (undef), .con (.bool true), .con (.bool true), .con (undef), .con (undef), .con (.bool true), .con (.bool true), .con (.bool true), .con (.bool true), .con (.bool false), .con (.bool false), .con (.int .i64 0), .con (.bool true), .con (.bool true), .con (.bool true), .con (.bool true), .con (.agg #[.int .i64 0, .int .i64 0, .int .i64 0, .int .i64 0, .int .i64 0]), .con (.agg #[.int .i64 x0, .int .i64 x1, .int .i64 x2, .int .i64 x3, .int .i64 x4]), .con (.agg #[.int .i64 x0, .int .i64 x1, .int .i64 x2, .int .i64 x3, .int .i64 x4]), .con (.int .i64 lv), .con (.bool true), .con (.bool true), .con (.bool true)] 6 74 (.bool true) (by kernel_rfl) (by kernel_rfl) (mkS_keeps (by kernel_rfl)) rfl rfl rfl ?steps ?fin
    case steps =>
      refine ⟨fun A w9 hB h => step_move_old h (by kernel_rfl) 7 rfl (by kernel_rfl) (by rfl), ?_⟩
      refine ⟨fun A w9 hB h => step_move h (by kernel_rfl) _ rfl (by kernel_rfl), ?_⟩
      refine ⟨fun A w9 hB h => step_move_old h (by kernel_rfl) 12 rfl (by kernel_rfl) (by rfl), ?_⟩
      refine ⟨fun A w9 hB h => step_bin h (by kernel_rfl) _ _ _ _ _ (.int .i64 0) (.int .i64 0) rfl (by kernel_rfl) (by kernel_rfl) (fun W => by kernel_rfl) (fun W => by kernel_rfl), ?_⟩
      refine ⟨fun A w9 hB h => step_pick h (by kernel_rfl) _ _ _ true rfl (by kernel_rfl) (by kernel_rfl), ?_⟩
      refine ⟨fun A w9 hB h => step_move h (by kernel_rfl) _ rfl (by kernel_rfl), ?_⟩
      refine ⟨fun A w9 hB h => step_move_old h (by kernel_rfl) 14 rfl (by kernel_rfl) (by rfl), ?_⟩
      refine ⟨fun A w9 hB h => step_bin h (by kernel_rfl) _ _ _ _ _ (.int .i64 0) (.int .i64 0) rfl (by kernel_rfl) (by kernel_rfl) (fun W => by kernel_rfl) (fun W => by kernel_rfl), ?_⟩
      refine ⟨fun A w9 hB h => step_pick h (by kernel_rfl) _ _ _ true rfl (by kernel_rfl) (by kernel_rfl), ?_⟩
      refine ⟨fun A w9 hB h => step_move h (by kernel_rfl) _ rfl (by kernel_rfl), ?_⟩
      refine ⟨fun A w9 hB h => step_move_old h (by kernel_rfl) 16 rfl (by kernel_rfl) (by rfl), ?_⟩
      refine ⟨fun A w9 hB h => step_bin h (by kernel_rfl) _ _ _ _ _ (.int .i64 0) (.int .i64 0) rfl (by kernel_rfl) (by kernel_rfl) (fun W => by kernel_rfl) (fun W => by kernel_rfl), ?_⟩
      refine ⟨fun A w9 hB h => step_pick h (by kernel_rfl) _ _ _ true rfl (by kernel_rfl) (by kernel_rfl), ?_⟩
      refine ⟨fun A w9 hB h => step_move h (by kernel_rfl) _ rfl (by kernel_rfl), ?_⟩
      refine ⟨fun A w9 hB h => step_move_old h (by kernel_rfl) 18 rfl (by kernel_rfl) (by rfl), ?_⟩
      refine ⟨fun A w9 hB h => step_bin h (by kernel_rfl) _ _ _ _ _ (.int .i64 0) (.int .i64 0) rfl (by kernel_rfl) (by kernel_rfl) (fun W => by kernel_rfl) (fun W => by kernel_rfl), ?_⟩
      refine ⟨fun A w9 hB h => step_pick h (by kernel_rfl) _ _ _ true rfl (by kernel_rfl) (by kernel_rfl), ?_⟩
      refine ⟨fun A w9 hB h => step_move h (by kernel_rfl) _ rfl (by kernel_rfl), ?_⟩
      refine ⟨fun A w9 hB h => step_move_old h (by kernel_rfl) 20 rfl (by kernel_rfl) (by rfl), ?_⟩
      refine ⟨fun A w9 hB h => step_bin h (by kernel_rfl) _ _ _ _ _ (.int .i64 0) (.int .i64 0) rfl (by kernel_rfl) (by kernel_rfl) (fun W => by kernel_rfl) (fun W => by kernel_rfl), ?_⟩
      refine ⟨fun A w9 hB h => step_pick h (by kernel_rfl) _ _ _ true rfl (by kernel_rfl) (by kernel_rfl), ?_⟩
      refine ⟨fun A w9 hB h => step_move h (by kernel_rfl) _ rfl (by kernel_rfl), ?_⟩
      refine ⟨fun A w9 hB h => step_move_old h (by kernel_rfl) 17 rfl (by kernel_rfl) (by rfl), ?_⟩
      refine ⟨fun A w9 hB h => step_move_old h (by kernel_rfl) 11 rfl (by kernel_rfl) (by rfl), ?_⟩
      refine ⟨fun A w9 hB h => step_un h (by kernel_rfl) _ _ _ (.int .i64 0) rfl (by kernel_rfl) (by kernel_rfl), ?_⟩
      refine ⟨fun A w9 hB h => step_bin h (by kernel_rfl) _ _ _ _ _ (.int .i64 0) (.int .i64 0) rfl (by kernel_rfl) (by kernel_rfl) (fun W => by kernel_rfl) (fun W => by kernel_rfl), ?_⟩
      refine ⟨fun A w9 hB h => step_pick h (by kernel_rfl) _ _ _ true rfl (by kernel_rfl) (by kernel_rfl), ?_⟩
      refine ⟨fun A w9 hB h => step_move h (by kernel_rfl) _ rfl (by kernel_rfl), ?_⟩
      refine ⟨fun A w9 hB h => step_move_old h (by kernel_rfl) 11 rfl (by kernel_rfl) (by rfl), ?_⟩
      refine ⟨fun A w9 hB h => step_bin h (by kernel_rfl) _ _ _ _ _ (.int .i64 0) (.int .i64 0) rfl (by kernel_rfl) (by kernel_rfl) (fun W => by kernel_rfl) (fun W => by kernel_rfl), ?_⟩
      refine ⟨fun A w9 hB h => step_load h (by kernel_rfl) _ _ (.pointer (some ⟨w4.heap.size, 0, none⟩)) rfl (h.old 8 (by kernel_rfl) (by rfl)) (load5 (X8.out.below hB)), ?_⟩
      refine ⟨fun A w9 hB h => step_load h (by kernel_rfl) _ _ (.pointer (some ⟨w4.heap.size + 1, 0, none⟩)) rfl (h.old 9 (by kernel_rfl) (by rfl)) (load5 (Y8.out.below hB)), ?_⟩
      refine ⟨fun A w9 hB h => step_bin h (by kernel_rfl) _ _ _ _ _ (.agg #[.int .i64 x0, .int .i64 x1, .int .i64 x2, .int .i64 x3, .int .i64 x4]) (.agg #[.int .i64 y0, .int .i64 y1, .int .i64 y2, .int .i64 y3, .int .i64 y4]) rfl (by kernel_rfl) (by kernel_rfl) (fun W => guard_look _ _ _ _ _ W) (fun W => zq W), ?_⟩
      refine ⟨fun A w9 hB h => step_bin h (by kernel_rfl) _ _ _ _ _ (.bool true) (.bool true) rfl (by kernel_rfl) (by kernel_rfl) (fun W => by kernel_rfl) (fun W => by kernel_rfl), ?_⟩
      refine ⟨fun A w9 hB h => step_pick h (by kernel_rfl) _ _ _ true rfl (by kernel_rfl) (by kernel_rfl), ?_⟩
      refine ⟨fun A w9 hB h => step_move h (by kernel_rfl) _ rfl (by kernel_rfl), ?_⟩
      refine ⟨fun A w9 hB h => step_move_old h (by kernel_rfl) 11 rfl (by kernel_rfl) (by rfl), ?_⟩
      refine ⟨fun A w9 hB h => step_bin h (by kernel_rfl) _ _ _ _ _ (.int .i64 0) (.int .i64 0) rfl (by kernel_rfl) (by kernel_rfl) (fun W => by kernel_rfl) (fun W => by kernel_rfl), ?_⟩
      refine ⟨fun A w9 hB h => step_move h (by kernel_rfl) _ rfl (by kernel_rfl), ?_⟩
      refine ⟨fun A w9 hB h => step_move_old h (by kernel_rfl) 13 rfl (by kernel_rfl) (by rfl), ?_⟩
      refine ⟨fun A w9 hB h => step_bin h (by kernel_rfl) _ _ _ _ _ (.int .i64 (-1)) (.int .i64 0) rfl (by kernel_rfl) (by kernel_rfl) (fun W => by kernel_rfl) (fun W => by kernel_rfl), ?_⟩
      refine ⟨fun A w9 hB h => step_pick h (by kernel_rfl) _ _ _ false rfl (by kernel_rfl) (by kernel_rfl), ?_⟩
      refine ⟨fun A w9 hB h => step_move h (by kernel_rfl) _ rfl (by kernel_rfl), ?_⟩
      refine ⟨fun A w9 hB h => step_move_old h (by kernel_rfl) 15 rfl (by kernel_rfl) (by rfl), ?_⟩
      refine ⟨fun A w9 hB h => step_bin h (by kernel_rfl) _ _ _ _ _ (.int .i64 (-1)) (.int .i64 0) rfl (by kernel_rfl) (by kernel_rfl) (fun W => by kernel_rfl) (fun W => by kernel_rfl), ?_⟩
      refine ⟨fun A w9 hB h => step_pick h (by kernel_rfl) _ _ _ false rfl (by kernel_rfl) (by kernel_rfl), ?_⟩
      refine ⟨fun A w9 hB h => step_pick h (by kernel_rfl) _ _ _ true rfl (by kernel_rfl) (by kernel_rfl), ?_⟩
      refine ⟨fun A w9 hB h => step_move h (by kernel_rfl) _ rfl (by kernel_rfl), ?_⟩
      refine ⟨fun A w9 hB h => step_move_old h (by kernel_rfl) 11 rfl (by kernel_rfl) (by rfl), ?_⟩
      refine ⟨fun A w9 hB h => step_bin h (by kernel_rfl) _ _ _ _ _ (.int .i64 0) (.int .i64 0) rfl (by kernel_rfl) (by kernel_rfl) (fun W => by kernel_rfl) (fun W => by kernel_rfl), ?_⟩
      refine ⟨fun A w9 hB h => step_move h (by kernel_rfl) _ rfl (by kernel_rfl), ?_⟩
      refine ⟨fun A w9 hB h => kit.step_skip h (by kernel_rfl), ?_⟩
      refine ⟨fun A w9 hB h => kit.step_skip h (by kernel_rfl), ?_⟩
      refine ⟨fun A w9 hB h => step_pick h (by kernel_rfl) _ _ _ true rfl (by kernel_rfl) (by kernel_rfl), ?_⟩
      refine ⟨fun A w9 hB h => step_move h (by kernel_rfl) _ rfl (by kernel_rfl), ?_⟩
      refine ⟨fun A w9 hB h => kit.step_skip h (by kernel_rfl), ?_⟩
      refine ⟨fun A w9 hB h => kit.step_skip h (by kernel_rfl), ?_⟩
      refine ⟨fun A w9 hB h => step_pick h (by kernel_rfl) _ _ _ true rfl (by kernel_rfl) (by kernel_rfl), ?_⟩
      refine ⟨fun A w9 hB h => step_pick h (by kernel_rfl) _ _ _ true rfl (by kernel_rfl) (by kernel_rfl), ?_⟩
      refine ⟨fun A w9 hB h => step_move h (by kernel_rfl) _ rfl (by kernel_rfl), ?_⟩
      refine ⟨fun A w9 hB h => step_move_old h (by kernel_rfl) 19 rfl (by kernel_rfl) (by rfl), ?_⟩
      refine ⟨fun A w9 hB h => step_un h (by kernel_rfl) _ _ _ (.bool true) rfl (by kernel_rfl) (by kernel_rfl), ?_⟩
      refine ⟨fun A w9 hB h => step_move h (by kernel_rfl) _ rfl (by kernel_rfl), ?_⟩
      refine ⟨fun A w9 hB h => step_move_old h (by kernel_rfl) 11 rfl (by kernel_rfl) (by rfl), ?_⟩
      refine ⟨fun A w9 hB h => step_bin h (by kernel_rfl) _ _ _ _ _ (.int .i64 0) (.int .i64 0) rfl (by kernel_rfl) (by kernel_rfl) (fun W => by kernel_rfl) (fun W => by kernel_rfl), ?_⟩
      refine ⟨fun A w9 hB h => step_pick h (by kernel_rfl) _ _ _ false rfl (by kernel_rfl) (by kernel_rfl), ?_⟩
      refine ⟨fun A w9 hB h => step_pick h (by kernel_rfl) _ _ _ true rfl (by kernel_rfl) (by kernel_rfl), ?_⟩
      refine ⟨fun A w9 hB h => step_move h (by kernel_rfl) _ rfl (by kernel_rfl), ?_⟩
      refine ⟨fun A w9 hB h => step_call_con h (by kernel_rfl) _ _ [.slice none 0 0] rfl rfl (by kernel_rfl) (by kernel_rfl) (lof_any none 0 [] w9 (by simp) (Lib.hid (fun i hi => by simp at hi)) 0 0 0 0 0 0 (Lib.hid (by decide))), ?_⟩
      refine ⟨fun A w9 hB h => step_load h (by kernel_rfl) _ _ (.pointer (some ⟨w4.heap.size, 0, none⟩)) rfl (h.old 8 (by kernel_rfl) (by rfl)) (load5 (X8.out.below hB)), ?_⟩
      refine ⟨fun A w9 hB h => step_load h (by kernel_rfl) _ _ (.pointer (some ⟨w4.heap.size, 0, none⟩)) rfl (h.old 8 (by kernel_rfl) (by rfl)) (load5 (X8.out.below hB)), ?_⟩
      refine ⟨fun A w9 hB h => step_call_con h (by kernel_rfl) _ _ [.agg #[.int .i64 x0, .int .i64 x1, .int .i64 x2, .int .i64 x3, .int .i64 x4]] rfl rfl (by kernel_rfl) (by kernel_rfl) (lleast_any x0 x1 x2 x3 x4 w9 lv HLV.out), ?_⟩
      refine ⟨fun A w9 hB h => step_call_con h (by kernel_rfl) _ _ [.agg #[.int .i64 0, .int .i64 0, .int .i64 0, .int .i64 0, .int .i64 0], .agg #[.int .i64 x0, .int .i64 x1, .int .i64 x2, .int .i64 x3, .int .i64 x4], .int .i64 lv] rfl rfl (by kernel_rfl) (by kernel_rfl) ((lcompares_any 0 0 0 0 0 x0 x1 x2 x3 x4 w9 lv lv 0 rfl HL0).mono (fun e w8 q => by simpa using q)), ?_⟩
      refine ⟨fun A w9 hB h => step_pick h (by kernel_rfl) _ _ _ true rfl (by kernel_rfl) (by kernel_rfl), ?_⟩
      refine ⟨fun A w9 hB h => step_assign h (by kernel_rfl) _ rfl (by kernel_rfl), ?_⟩
      exact trivial
    case fin =>
      intro B w8 hB hsz hdf hold
      clear hold
      have B8 := Lib.hid (below_on B9.out (Nat.le_refl _) hB)
      have hs : B.tmps.size = 132 := hsz.trans (by rfl)
      clear hB hsz
      rename_i K hK
      refine hK _ _ ?_
      clear hK
      go_wp2
      exact bodyPost_ret (v := .bool true) (by simp [results, Tryd.results7, go_sem, hs]) rfl ⟨rfl, B8.out⟩
  · clear OC
    refine wp_region_last [.con (.bool true), .con (.bool true), .con (.int .i64 0), .con (.bool true), .con (.bool true), .con (.bool true), .con (.int .i64 0), .con (.bool true), .con (.bool true), .con (.bool true), .con (.int .i64 0), .con (.bool true), .con (.bool true), .con (.bool true), .con (.int .i64 0), .con (.bool true), .con (.bool true), .con (.bool true), .con (.int .i64 0), .con (.bool true), .con (.bool true), .con (.bool true), .con (.int .i64 0), .con (.int .i64 0), .con (.int .i64 0), .con (.bool true), .con (.bool true), .con (.bool true), .con (.int .i64 0), .con (.bool true), .con (.agg #[.int .i64 x0, .int .i64 x1, .int .i64 x2, .int .i64 x3, .int .i64 x4]), .con (.agg #[.int .i64 y0, .int .i64 y1, .int .i64 y2, .int .i64 y3, .int .i64 y4]), .con (.bool true), .con (.bool true), .con (.bool true), .con (.bool true), .con (.int .i64 0), .con (.bool false), .con (.bool false), .con (.int .i64 (-1)), .con (.bool false), .con (.bool false), .con (.bool false), .con (.int .i64 (-1)), .con (.bool true), .con (.bool true), .con (.bool true), .con (.bool true), .con (.int .i64 0), .con (.bool true), .con (.bool true), .con (undef), .con (undef), .con (.bool true), .con (.bool true), .con (undef), .con (undef), .con (.bool true), .con (.bool true), .con (.bool true), .con (.bool false), .con (.bool true), .con (.bool true), .con (undef), .con (undef), .con (.bool true), .con (.bool true), .con (.bool true), .con (.agg #[.int .i64 0, .int .i64 0, .int .i64 0, .int .i64 0, .int .i64 0]), .con (.agg #[.int .i64 x0, .int .i64 x1, .int .i64 x2, .int .i64 x3, .int .i64 x4]), .con (.agg #[.int .i64 x0, .int .i64 x1, .int .i64 x2, .int .i64 x3, .int .i64 x4]), .con (.int .i64 lv), .con (.bool true), .con (.bool true), .con (.bool true)] 6 74 (.bool true) (by kernel_rfl) (by kernel_rfl) (mkS_keeps (by kernel_rfl)) rfl rfl rfl ?steps ?fin
    case steps =>
      refine ⟨fun A w9 hB h => step_move_old h (by kernel_rfl) 7 rfl (by kernel_rfl) (by rfl), ?_⟩
      refine ⟨fun A w9 hB h => step_move h (by kernel_rfl) _ rfl (by kernel_rfl), ?_⟩
      refine ⟨fun A w9 hB h => step_move_old h (by kernel_rfl) 12 rfl (by kernel_rfl) (by rfl), ?_⟩
      refine ⟨fun A w9 hB h => step_bin h (by kernel_rfl) _ _ _ _ _ (.int .i64 0) (.int .i64 0) rfl (by kernel_rfl) (by kernel_rfl) (fun W => by kernel_rfl) (fun W => by kernel_rfl), ?_⟩
      refine ⟨fun A w9 hB h => step_pick h (by kernel_rfl) _ _ _ true rfl (by kernel_rfl) (by kernel_rfl), ?_⟩
      refine ⟨fun A w9 hB h => step_move h (by kernel_rfl) _ rfl (by kernel_rfl), ?_⟩
      refine ⟨fun A w9 hB h => step_move_old h (by kernel_rfl) 14 rfl (by kernel_rfl) (by rfl), ?_⟩
      refine ⟨fun A w9 hB h => step_bin h (by kernel_rfl) _ _ _ _ _ (.int .i64 0) (.int .i64 0) rfl (by kernel_rfl) (by kernel_rfl) (fun W => by kernel_rfl) (fun W => by kernel_rfl), ?_⟩
      refine ⟨fun A w9 hB h => step_pick h (by kernel_rfl) _ _ _ true rfl (by kernel_rfl) (by kernel_rfl), ?_⟩
      refine ⟨fun A w9 hB h => step_move h (by kernel_rfl) _ rfl (by kernel_rfl), ?_⟩
      refine ⟨fun A w9 hB h => step_move_old h (by kernel_rfl) 16 rfl (by kernel_rfl) (by rfl), ?_⟩
      refine ⟨fun A w9 hB h => step_bin h (by kernel_rfl) _ _ _ _ _ (.int .i64 0) (.int .i64 0) rfl (by kernel_rfl) (by kernel_rfl) (fun W => by kernel_rfl) (fun W => by kernel_rfl), ?_⟩
      refine ⟨fun A w9 hB h => step_pick h (by kernel_rfl) _ _ _ true rfl (by kernel_rfl) (by kernel_rfl), ?_⟩
      refine ⟨fun A w9 hB h => step_move h (by kernel_rfl) _ rfl (by kernel_rfl), ?_⟩
      refine ⟨fun A w9 hB h => step_move_old h (by kernel_rfl) 18 rfl (by kernel_rfl) (by rfl), ?_⟩
      refine ⟨fun A w9 hB h => step_bin h (by kernel_rfl) _ _ _ _ _ (.int .i64 0) (.int .i64 0) rfl (by kernel_rfl) (by kernel_rfl) (fun W => by kernel_rfl) (fun W => by kernel_rfl), ?_⟩
      refine ⟨fun A w9 hB h => step_pick h (by kernel_rfl) _ _ _ true rfl (by kernel_rfl) (by kernel_rfl), ?_⟩
      refine ⟨fun A w9 hB h => step_move h (by kernel_rfl) _ rfl (by kernel_rfl), ?_⟩
      refine ⟨fun A w9 hB h => step_move_old h (by kernel_rfl) 20 rfl (by kernel_rfl) (by rfl), ?_⟩
      refine ⟨fun A w9 hB h => step_bin h (by kernel_rfl) _ _ _ _ _ (.int .i64 0) (.int .i64 0) rfl (by kernel_rfl) (by kernel_rfl) (fun W => by kernel_rfl) (fun W => by kernel_rfl), ?_⟩
      refine ⟨fun A w9 hB h => step_pick h (by kernel_rfl) _ _ _ true rfl (by kernel_rfl) (by kernel_rfl), ?_⟩
      refine ⟨fun A w9 hB h => step_move h (by kernel_rfl) _ rfl (by kernel_rfl), ?_⟩
      refine ⟨fun A w9 hB h => step_move_old h (by kernel_rfl) 17 rfl (by kernel_rfl) (by rfl), ?_⟩
      refine ⟨fun A w9 hB h => step_move_old h (by kernel_rfl) 11 rfl (by kernel_rfl) (by rfl), ?_⟩
      refine ⟨fun A w9 hB h => step_un h (by kernel_rfl) _ _ _ (.int .i64 0) rfl (by kernel_rfl) (by kernel_rfl), ?_⟩
      refine ⟨fun A w9 hB h => step_bin h (by kernel_rfl) _ _ _ _ _ (.int .i64 0) (.int .i64 0) rfl (by kernel_rfl) (by kernel_rfl) (fun W => by kernel_rfl) (fun W => by kernel_rfl), ?_⟩
      refine ⟨fun A w9 hB h => step_pick h (by kernel_rfl) _ _ _ true rfl (by kernel_rfl) (by kernel_rfl), ?_⟩
      refine ⟨fun A w9 hB h => step_move h (by kernel_rfl) _ rfl (by kernel_rfl), ?_⟩
      refine ⟨fun A w9 hB h => step_move_old h (by kernel_rfl) 11 rfl (by kernel_rfl) (by rfl), ?_⟩
      refine ⟨fun A w9 hB h => step_bin h (by kernel_rfl) _ _ _ _ _ (.int .i64 0) (.int .i64 0) rfl (by kernel_rfl) (by kernel_rfl) (fun W => by kernel_rfl) (fun W => by kernel_rfl), ?_⟩
      refine ⟨fun A w9 hB h => step_load h (by kernel_rfl) _ _ (.pointer (some ⟨w4.heap.size, 0, none⟩)) rfl (h.old 8 (by kernel_rfl) (by rfl)) (load5 (X8.out.below hB)), ?_⟩
      refine ⟨fun A w9 hB h => step_load h (by kernel_rfl) _ _ (.pointer (some ⟨w4.heap.size + 1, 0, none⟩)) rfl (h.old 9 (by kernel_rfl) (by rfl)) (load5 (Y8.out.below hB)), ?_⟩
      refine ⟨fun A w9 hB h => step_bin h (by kernel_rfl) _ _ _ _ _ (.agg #[.int .i64 x0, .int .i64 x1, .int .i64 x2, .int .i64 x3, .int .i64 x4]) (.agg #[.int .i64 y0, .int .i64 y1, .int .i64 y2, .int .i64 y3, .int .i64 y4]) rfl (by kernel_rfl) (by kernel_rfl) (fun W => guard_look _ _ _ _ _ W) (fun W => zq W), ?_⟩
      refine ⟨fun A w9 hB h => step_bin h (by kernel_rfl) _ _ _ _ _ (.bool true) (.bool true) rfl (by kernel_rfl) (by kernel_rfl) (fun W => by kernel_rfl) (fun W => by kernel_rfl), ?_⟩
      refine ⟨fun A w9 hB h => step_pick h (by kernel_rfl) _ _ _ true rfl (by kernel_rfl) (by kernel_rfl), ?_⟩
      refine ⟨fun A w9 hB h => step_move h (by kernel_rfl) _ rfl (by kernel_rfl), ?_⟩
      refine ⟨fun A w9 hB h => step_move_old h (by kernel_rfl) 11 rfl (by kernel_rfl) (by rfl), ?_⟩
      refine ⟨fun A w9 hB h => step_bin h (by kernel_rfl) _ _ _ _ _ (.int .i64 0) (.int .i64 0) rfl (by kernel_rfl) (by kernel_rfl) (fun W => by kernel_rfl) (fun W => by kernel_rfl), ?_⟩
      refine ⟨fun A w9 hB h => step_move h (by kernel_rfl) _ rfl (by kernel_rfl), ?_⟩
      refine ⟨fun A w9 hB h => step_move_old h (by kernel_rfl) 13 rfl (by kernel_rfl) (by rfl), ?_⟩
      refine ⟨fun A w9 hB h => step_bin h (by kernel_rfl) _ _ _ _ _ (.int .i64 (-1)) (.int .i64 0) rfl (by kernel_rfl) (by kernel_rfl) (fun W => by kernel_rfl) (fun W => by kernel_rfl), ?_⟩
      refine ⟨fun A w9 hB h => step_pick h (by kernel_rfl) _ _ _ false rfl (by kernel_rfl) (by kernel_rfl), ?_⟩
      refine ⟨fun A w9 hB h => step_move h (by kernel_rfl) _ rfl (by kernel_rfl), ?_⟩
      refine ⟨fun A w9 hB h => step_move_old h (by kernel_rfl) 15 rfl (by kernel_rfl) (by rfl), ?_⟩
      refine ⟨fun A w9 hB h => step_bin h (by kernel_rfl) _ _ _ _ _ (.int .i64 (-1)) (.int .i64 0) rfl (by kernel_rfl) (by kernel_rfl) (fun W => by kernel_rfl) (fun W => by kernel_rfl), ?_⟩
      refine ⟨fun A w9 hB h => step_pick h (by kernel_rfl) _ _ _ false rfl (by kernel_rfl) (by kernel_rfl), ?_⟩
      refine ⟨fun A w9 hB h => step_pick h (by kernel_rfl) _ _ _ true rfl (by kernel_rfl) (by kernel_rfl), ?_⟩
      refine ⟨fun A w9 hB h => step_move h (by kernel_rfl) _ rfl (by kernel_rfl), ?_⟩
      refine ⟨fun A w9 hB h => step_move_old h (by kernel_rfl) 11 rfl (by kernel_rfl) (by rfl), ?_⟩
      refine ⟨fun A w9 hB h => step_bin h (by kernel_rfl) _ _ _ _ _ (.int .i64 0) (.int .i64 0) rfl (by kernel_rfl) (by kernel_rfl) (fun W => by kernel_rfl) (fun W => by kernel_rfl), ?_⟩
      refine ⟨fun A w9 hB h => step_move h (by kernel_rfl) _ rfl (by kernel_rfl), ?_⟩
      refine ⟨fun A w9 hB h => kit.step_skip h (by kernel_rfl), ?_⟩
      refine ⟨fun A w9 hB h => kit.step_skip h (by kernel_rfl), ?_⟩
      refine ⟨fun A w9 hB h => step_pick h (by kernel_rfl) _ _ _ true rfl (by kernel_rfl) (by kernel_rfl), ?_⟩
      refine ⟨fun A w9 hB h => step_move h (by kernel_rfl) _ rfl (by kernel_rfl), ?_⟩
      refine ⟨fun A w9 hB h => kit.step_skip h (by kernel_rfl), ?_⟩
      refine ⟨fun A w9 hB h => kit.step_skip h (by kernel_rfl), ?_⟩
      refine ⟨fun A w9 hB h => step_pick h (by kernel_rfl) _ _ _ true rfl (by kernel_rfl) (by kernel_rfl), ?_⟩
      refine ⟨fun A w9 hB h => step_pick h (by kernel_rfl) _ _ _ true rfl (by kernel_rfl) (by kernel_rfl), ?_⟩
      refine ⟨fun A w9 hB h => step_move h (by kernel_rfl) _ rfl (by kernel_rfl), ?_⟩
      refine ⟨fun A w9 hB h => step_move_old h (by kernel_rfl) 19 rfl (by kernel_rfl) (by rfl), ?_⟩
      refine ⟨fun A w9 hB h => step_un h (by kernel_rfl) _ _ _ (.bool false) rfl (by kernel_rfl) (by kernel_rfl), ?_⟩
      refine ⟨fun A w9 hB h => step_move h (by kernel_rfl) _ rfl (by kernel_rfl), ?_⟩
      refine ⟨fun A w9 hB h => kit.step_skip h (by kernel_rfl), ?_⟩
      refine ⟨fun A w9 hB h => kit.step_skip h (by kernel_rfl), ?_⟩
      refine ⟨fun A w9 hB h => step_pick h (by kernel_rfl) _ _ _ true rfl (by kernel_rfl) (by kernel_rfl), ?_⟩
      refine ⟨fun A w9 hB h => step_pick h (by kernel_rfl) _ _ _ true rfl (by kernel_rfl) (by kernel_rfl), ?_⟩
      refine ⟨fun A w9 hB h => step_move h (by kernel_rfl) _ rfl (by kernel_rfl), ?_⟩
      refine ⟨fun A w9 hB h => step_call_con h (by kernel_rfl) _ _ [.slice none 0 0] rfl rfl (by kernel_rfl) (by kernel_rfl) (lof_any none 0 [] w9 (by simp) (Lib.hid (fun i hi => by simp at hi)) 0 0 0 0 0 0 (Lib.hid (by decide))), ?_⟩
      refine ⟨fun A w9 hB h => step_load h (by kernel_rfl) _ _ (.pointer (some ⟨w4.heap.size, 0, none⟩)) rfl (h.old 8 (by kernel_rfl) (by rfl)) (load5 (X8.out.below hB)), ?_⟩
      refine ⟨fun A w9 hB h => step_load h (by kernel_rfl) _ _ (.pointer (some ⟨w4.heap.size, 0, none⟩)) rfl (h.old 8 (by kernel_rfl) (by rfl)) (load5 (X8.out.below hB)), ?_⟩
      refine ⟨fun A w9 hB h => step_call_con h (by kernel_rfl) _ _ [.agg #[.int .i64 x0, .int .i64 x1, .int .i64 x2, .int .i64 x3, .int .i64 x4]] rfl rfl (by kernel_rfl) (by kernel_rfl) (lleast_any x0 x1 x2 x3 x4 w9 lv HLV.out), ?_⟩
      refine ⟨fun A w9 hB h => step_call_con h (by kernel_rfl) _ _ [.agg #[.int .i64 0, .int .i64 0, .int .i64 0, .int .i64 0, .int .i64 0], .agg #[.int .i64 x0, .int .i64 x1, .int .i64 x2, .int .i64 x3, .int .i64 x4], .int .i64 lv] rfl rfl (by kernel_rfl) (by kernel_rfl) ((lcompares_any 0 0 0 0 0 x0 x1 x2 x3 x4 w9 lv lv 0 rfl HL0).mono (fun e w8 q => by simpa using q)), ?_⟩
      refine ⟨fun A w9 hB h => step_pick h (by kernel_rfl) _ _ _ true rfl (by kernel_rfl) (by kernel_rfl), ?_⟩
      refine ⟨fun A w9 hB h => step_assign h (by kernel_rfl) _ rfl (by kernel_rfl), ?_⟩
      exact trivial
    case fin =>
      intro B w8 hB hsz hdf hold
      clear hold
      have B8 := Lib.hid (below_on B9.out (Nat.le_refl _) hB)
      have hs : B.tmps.size = 132 := hsz.trans (by rfl)
      clear hB hsz
      rename_i K hK
      refine hK _ _ ?_
      clear hK
      go_wp2
      exact bodyPost_ret (v := .bool true) (by simp [results, Tryd.results7, go_sem, hs]) rfl ⟨rfl, B8.out⟩
  · clear OC
    refine wp_region_last [.con (.bool true), .con (.bool true), .con (.int .i64 0), .con (.bool true), .con (.bool true), .con (.bool true), .con (.int .i64 0), .con (.bool true), .con (.bool true), .con (.bool true), .con (.int .i64 0), .con (.bool true), .con (.bool true), .con (.bool true), .con (.int .i64 0), .con (.bool true), .con (.bool true), .con (.bool true), .con (.int .i64 0), .con (.bool true), .con (.bool true), .con (.bool true), .con (.int .i64 0), .con (.int .i64 0), .con (.int .i64 0), .con (.bool true), .con (.bool true), .con (.bool true), .con (.int .i64 0), .con (.bool true), .con (.agg #[.int .i64 x0, .int .i64 x1, .int .i64 x2, .int .i64 x3, .int .i64 x4]), .con (.agg #[.int .i64 y0, .int .i64 y1, .int .i64 y2, .int .i64 y3, .int .i64 y4]), .con (.bool true), .con (.bool true), .con (.bool true), .con (.bool true), .con (.int .i64 0), .con (.bool false), .con (.bool false), .con (.int .i64 0), .con (.bool false), .con (.bool false), .con (.bool false), .con (.int .i64 0), .con (.bool true), .con (.bool true), .con (.bool true), .con (.bool true), .con (.int .i64 0), .con (.bool true), .con (.bool true), .con (undef), .con (undef), .con (.bool true), .con (.bool true), .con (undef), .con (undef), .con (.bool true), .con (.bool true), .con (.bool true), .con (.bool true), .con (.bool false), .con (.bool false), .con (.int .i64 0), .con (.bool true), .con (.bool true), .con (.bool true), .con (.bool true), .con (.agg #[.int .i64 0, .int .i64 0, .int .i64 0, .int .i64 0, .int .i64 0]), .con (.agg #[.int .i64 x0, .int .i64 x1, .int .i64 x2, .int .i64 x3, .int .i64 x4]), .con (.agg #[.int .i64 x0, .int .i64 x1, .int .i64 x2, .int .i64 x3, .int .i64 x4]), .con (.int .i64 lv), .con (.bool true), .con (.bool true), .con (.bool true)] 6 74 (.bool true) (by kernel_rfl) (by kernel_rfl) (mkS_keeps (by kernel_rfl)) rfl rfl rfl ?steps ?fin
    case steps =>
      refine ⟨fun A w9 hB h => step_move_old h (by kernel_rfl) 7 rfl (by kernel_rfl) (by rfl), ?_⟩
      refine ⟨fun A w9 hB h => step_move h (by kernel_rfl) _ rfl (by kernel_rfl), ?_⟩
      refine ⟨fun A w9 hB h => step_move_old h (by kernel_rfl) 12 rfl (by kernel_rfl) (by rfl), ?_⟩
      refine ⟨fun A w9 hB h => step_bin h (by kernel_rfl) _ _ _ _ _ (.int .i64 0) (.int .i64 0) rfl (by kernel_rfl) (by kernel_rfl) (fun W => by kernel_rfl) (fun W => by kernel_rfl), ?_⟩
      refine ⟨fun A w9 hB h => step_pick h (by kernel_rfl) _ _ _ true rfl (by kernel_rfl) (by kernel_rfl), ?_⟩
      refine ⟨fun A w9 hB h => step_move h (by kernel_rfl) _ rfl (by kernel_rfl), ?_⟩
      refine ⟨fun A w9 hB h => step_move_old h (by kernel_rfl) 14 rfl (by kernel_rfl) (by rfl), ?_⟩
      refine ⟨fun A w9 hB h => step_bin h (by kernel_rfl) _ _ _ _ _ (.int .i64 0) (.int .i64 0) rfl (by kernel_rfl) (by kernel_rfl) (fun W => by kernel_rfl) (fun W => by kernel_rfl), ?_⟩
      refine ⟨fun A w9 hB h => step_pick h (by kernel_rfl) _ _ _ true rfl (by kernel_rfl) (by kernel_rfl), ?_⟩
      refine ⟨fun A w9 hB h => step_move h (by kernel_rfl) _ rfl (by kernel_rfl), ?_⟩
      refine ⟨fun A w9 hB h => step_move_old h (by kernel_rfl) 16 rfl (by kernel_rfl) (by rfl), ?_⟩
      refine ⟨fun A w9 hB h => step_bin h (by kernel_rfl) _ _ _ _ _ (.int .i64 0) (.int .i64 0) rfl (by kernel_rfl) (by kernel_rfl) (fun W => by kernel_rfl) (fun W => by kernel_rfl), ?_⟩
      refine ⟨fun A w9 hB h => step_pick h (by kernel_rfl) _ _ _ true rfl (by kernel_rfl) (by kernel_rfl), ?_⟩
      refine ⟨fun A w9 hB h => step_move h (by kernel_rfl) _ rfl (by kernel_rfl), ?_⟩
      refine ⟨fun A w9 hB h => step_move_old h (by kernel_rfl) 18 rfl (by kernel_rfl) (by rfl), ?_⟩
      refine ⟨fun A w9 hB h => step_bin h (by kernel_rfl) _ _ _ _ _ (.int .i64 0) (.int .i64 0) rfl (by kernel_rfl) (by kernel_rfl) (fun W => by kernel_rfl) (fun W => by kernel_rfl), ?_⟩
      refine ⟨fun A w9 hB h => step_pick h (by kernel_rfl) _ _ _ true rfl (by kernel_rfl) (by kernel_rfl), ?_⟩
      refine ⟨fun A w9 hB h => step_move h (by kernel_rfl) _ rfl (by kernel_rfl), ?_⟩
      refine ⟨fun A w9 hB h => step_move_old h (by kernel_rfl) 20 rfl (by kernel_rfl) (by rfl), ?_⟩
      refine ⟨fun A w9 hB h => step_bin h (by kernel_rfl) _ _ _ _ _ (.int .i64 0) (.int .i64 0) rfl (by kernel_rfl) (by kernel_rfl) (fun W => by kernel_rfl) (fun W => by kernel_rfl), ?_⟩
      refine ⟨fun A w9 hB h => step_pick h (by kernel_rfl) _ _ _ true rfl (by kernel_rfl) (by kernel_rfl), ?_⟩
      refine ⟨fun A w9 hB h => step_move h (by kernel_rfl) _ rfl (by kernel_rfl), ?_⟩
      refine ⟨fun A w9 hB h => step_move_old h (by kernel_rfl) 17 rfl (by kernel_rfl) (by rfl), ?_⟩
      refine ⟨fun A w9 hB h => step_move_old h (by kernel_rfl) 11 rfl (by kernel_rfl) (by rfl), ?_⟩
      refine ⟨fun A w9 hB h => step_un h (by kernel_rfl) _ _ _ (.int .i64 0) rfl (by kernel_rfl) (by kernel_rfl), ?_⟩
      refine ⟨fun A w9 hB h => step_bin h (by kernel_rfl) _ _ _ _ _ (.int .i64 0) (.int .i64 0) rfl (by kernel_rfl) (by kernel_rfl) (fun W => by kernel_rfl) (fun W => by kernel_rfl), ?_⟩
      refine ⟨fun A w9 hB h => step_pick h (by kernel_rfl) _ _ _ true rfl (by kernel_rfl) (by kernel_rfl), ?_⟩
      refine ⟨fun A w9 hB h => step_move h (by kernel_rfl) _ rfl (by kernel_rfl), ?_⟩
      refine ⟨fun A w9 hB h => step_move_old h (by kernel_rfl) 11 rfl (by kernel_rfl) (by rfl), ?_⟩
      refine ⟨fun A w9 hB h => step_bin h (by kernel_rfl) _ _ _ _ _ (.int .i64 0) (.int .i64 0) rfl (by kernel_rfl) (by kernel_rfl) (fun W => by kernel_rfl) (fun W => by kernel_rfl), ?_⟩
      refine ⟨fun A w9 hB h => step_load h (by kernel_rfl) _ _ (.pointer (some ⟨w4.heap.size, 0, none⟩)) rfl (h.old 8 (by kernel_rfl) (by rfl)) (load5 (X8.out.below hB)), ?_⟩
      refine ⟨fun A w9 hB h => step_load h (by kernel_rfl) _ _ (.pointer (some ⟨w4.heap.size + 1, 0, none⟩)) rfl (h.old 9 (by kernel_rfl) (by rfl)) (load5 (Y8.out.below hB)), ?_⟩
      refine ⟨fun A w9 hB h => step_bin h (by kernel_rfl) _ _ _ _ _ (.agg #[.int .i64 x0, .int .i64 x1, .int .i64 x2, .int .i64 x3, .int .i64 x4]) (.agg #[.int .i64 y0, .int .i64 y1, .int .i64 y2, .int .i64 y3, .int .i64 y4]) rfl (by kernel_rfl) (by kernel_rfl) (fun W => guard_look _ _ _ _ _ W) (fun W => zq W), ?_⟩
      refine ⟨fun A w9 hB h => step_bin h (by kernel_rfl) _ _ _ _ _ (.bool true) (.bool true) rfl (by kernel_rfl) (by kernel_rfl) (fun W => by kernel_rfl) (fun W => by kernel_rfl), ?_⟩
      refine ⟨fun A w9 hB h => step_pick h (by kernel_rfl) _ _ _ true rfl (by kernel_rfl) (by kernel_rfl), ?_⟩
      refine ⟨fun A w9 hB h => step_move h (by kernel_rfl) _ rfl (by kernel_rfl), ?_⟩
      refine ⟨fun A w9 hB h => step_move_old h (by kernel_rfl) 11 rfl (by kernel_rfl) (by rfl), ?_⟩
      refine ⟨fun A w9 hB h => step_bin h (by kernel_rfl) _ _ _ _ _ (.int .i64 0) (.int .i64 0) rfl (by kernel_rfl) (by kernel_rfl) (fun W => by kernel_rfl) (fun W => by kernel_rfl), ?_⟩
      refine ⟨fun A w9 hB h => step_move h (by kernel_rfl) _ rfl (by kernel_rfl), ?_⟩
      refine ⟨fun A w9 hB h => step_move_old h (by kernel_rfl) 13 rfl (by kernel_rfl) (by rfl), ?_⟩
      refine ⟨fun A w9 hB h => step_bin h (by kernel_rfl) _ _ _ _ _ (.int .i64 0) (.int .i64 0) rfl (by kernel_rfl) (by kernel_rfl) (fun W => by kernel_rfl) (fun W => by kernel_rfl), ?_⟩
      refine ⟨fun A w9 hB h => step_pick h (by kernel_rfl) _ _ _ false rfl (by kernel_rfl) (by kernel_rfl), ?_⟩
      refine ⟨fun A w9 hB h => step_move h (by kernel_rfl) _ rfl (by kernel_rfl), ?_⟩
      refine ⟨fun A w9 hB h => step_move_old h (by kernel_rfl) 15 rfl (by kernel_rfl) (by rfl), ?_⟩
      refine ⟨fun A w9 hB h => step_bin h (by kernel_rfl) _ _ _ _ _ (.int .i64 0) (.int .i64 0) rfl (by kernel_rfl) (by kernel_rfl) (fun W => by kernel_rfl) (fun W => by kernel_rfl), ?_⟩
      refine ⟨fun A w9 hB h => step_pick h (by kernel_rfl) _ _ _ false rfl (by kernel_rfl) (by kernel_rfl), ?_⟩
      refine ⟨fun A w9 hB h => step_pick h (by kernel_rfl) _ _ _ true rfl (by kernel_rfl) (by kernel_rfl), ?_⟩
      refine ⟨fun A w9 hB h => step_move h (by kernel_rfl) _ rfl (by kernel_rfl), ?_⟩
      refine ⟨fun A w9 hB h => step_move_old h (by kernel_rfl) 11 rfl (by kernel_rfl) (by rfl), ?_⟩
      refine ⟨fun A w9 hB h => step_bin h (by kernel_rfl) _ _ _ _ _ (.int .i64 0) (.int .i64 0) rfl (by kernel_rfl) (by kernel_rfl) (fun W => by kernel_rfl) (fun W => by kernel_rfl), ?_⟩
      refine ⟨fun A w9 hB h => step_move h (by kernel_rfl) _ rfl (by kernel_rfl), ?_⟩
      refine ⟨fun A w9 hB h => kit.step_skip h (by kernel_rfl), ?_⟩
      refine ⟨fun A w9 hB h => kit.step_skip h (by kernel_rfl), ?_⟩
      refine ⟨fun A w9 hB h => step_pick h (by kernel_rfl) _ _ _ true rfl (by kernel_rfl) (by kernel_rfl), ?_⟩
      refine ⟨fun A w9 hB h => step_move h (by kernel_rfl) _ rfl (by kernel_rfl), ?_⟩
      refine ⟨fun A w9 hB h => kit.step_skip h (by kernel_rfl), ?_⟩
      refine ⟨fun A w9 hB h => kit.step_skip h (by kernel_rfl), ?_⟩
      refine ⟨fun A w9 hB h => step_pick h (by kernel_rfl) _ _ _ true rfl (by kernel_rfl) (by kernel_rfl), ?_⟩
      refine ⟨fun A w9 hB h => step_pick h (by kernel_rfl) _ _ _ true rfl (by kernel_rfl) (by kernel_rfl), ?_⟩
      refine ⟨fun A w9 hB h => step_move h (by kernel_rfl) _ rfl (by kernel_rfl), ?_⟩
      refine ⟨fun A w9 hB h => step_move_old h (by kernel_rfl) 19 rfl (by kernel_rfl) (by rfl), ?_⟩
      refine ⟨fun A w9 hB h => step_un h (by kernel_rfl) _ _ _ (.bool true) rfl (by kernel_rfl) (by kernel_rfl), ?_⟩
      refine ⟨fun A w9 hB h => step_move h (by kernel_rfl) _ rfl (by kernel_rfl), ?_⟩
      refine ⟨fun A w9 hB h => step_move_old h (by kernel_rfl) 11 rfl (by kernel_rfl) (by rfl), ?_⟩
      refine ⟨fun A w9 hB h => step_bin h (by kernel_rfl) _ _ _ _ _ (.int .i64 0) (.int .i64 0) rfl (by kernel_rfl) (by kernel_rfl) (fun W => by kernel_rfl) (fun W => by kernel_rfl), ?_⟩
      refine ⟨fun A w9 hB h => step_pick h (by kernel_rfl) _ _ _ false rfl (by kernel_rfl) (by kernel_rfl), ?_⟩
      refine ⟨fun A w9 hB h => step_pick h (by kernel_rfl) _ _ _ true rfl (by kernel_rfl) (by kernel_rfl), ?_⟩
      refine ⟨fun A w9 hB h => step_move h (by kernel_rfl) _ rfl (by kernel_rfl), ?_⟩
      refine ⟨fun A w9 hB h => step_call_con h (by kernel_rfl) _ _ [.slice none 0 0] rfl rfl (by kernel_rfl) (by kernel_rfl) (lof_any none 0 [] w9 (by simp) (Lib.hid (fun i hi => by simp at hi)) 0 0 0 0 0 0 (Lib.hid (by decide))), ?_⟩
      refine ⟨fun A w9 hB h => step_load h (by kernel_rfl) _ _ (.pointer (some ⟨w4.heap.size, 0, none⟩)) rfl (h.old 8 (by kernel_rfl) (by rfl)) (load5 (X8.out.below hB)), ?_⟩
      refine ⟨fun A w9 hB h => step_load h (by kernel_rfl) _ _ (.pointer (some ⟨w4.heap.size, 0, none⟩)) rfl (h.old 8 (by kernel_rfl) (by rfl)) (load5 (X8.out.below hB)), ?_⟩
      refine ⟨fun A w9 hB h => step_call_con h (by kernel_rfl) _ _ [.agg #[.int .i64 x0, .int .i64 x1, .int .i64 x2, .int .i64 x3, .int .i64 x4]] rfl rfl (by kernel_rfl) (by kernel_rfl) (lleast_any x0 x1 x2 x3 x4 w9 lv HLV.out), ?_⟩
      refine ⟨fun A w9 hB h => step_call_con h (by kernel_rfl) _ _ [.agg #[.int .i64 0, .int .i64 0, .int .i64 0, .int .i64 0, .int .i64 0], .agg #[.int .i64 x0, .int .i64 x1, .int .i64 x2, .int .i64 x3, .int .i64 x4], .int .i64 lv] rfl rfl (by kernel_rfl) (by kernel_rfl) ((lcompares_any 0 0 0 0 0 x0 x1 x2 x3 x4 w9 lv lv 0 rfl HL0).mono (fun e w8 q => by simpa using q)), ?_⟩
      refine ⟨fun A w9 hB h => step_pick h (by kernel_rfl) _ _ _ true rfl (by kernel_rfl) (by kernel_rfl), ?_⟩
      refine ⟨fun A w9 hB h => step_assign h (by kernel_rfl) _ rfl (by kernel_rfl), ?_⟩
      exact trivial
    case fin =>
      intro B w8 hB hsz hdf hold
      clear hold
      have B8 := Lib.hid (below_on B9.out (Nat.le_refl _) hB)
      have hs : B.tmps.size = 132 := hsz.trans (by rfl)
      clear hB hsz
      rename_i K hK
      refine hK _ _ ?_
      clear hK
      go_wp2
      exact bodyPost_ret (v := .bool true) (by simp [results, Tryd.results7, go_sem, hs]) rfl ⟨rfl, B8.out⟩
  · clear OC
    refine wp_region_last [.con (.bool true), .con (.bool true), .con (.int .i64 0), .con (.bool true), .con (.bool true), .con (.bool true), .con (.int .i64 0), .con (.bool true), .con (.bool true), .con (.bool true), .con (.int .i64 0), .con (.bool true), .con (.bool true), .con (.bool true), .con (.int .i64 0), .con (.bool true), .con (.bool true), .con (.bool true), .con (.int .i64 0), .con (.bool true), .con (.bool true), .con (.bool true), .con (.int .i64 0), .con (.int .i64 0), .con (.int .i64 0), .con (.bool true), .con (.bool true), .con (.bool true), .con (.int .i64 0), .con (.bool true), .con (.agg #[.int .i64 x0, .int .i64 x1, .int .i64 x2, .int .i64 x3, .int .i64 x4]), .con (.agg #[.int .i64 y0, .int .i64 y1, .int .i64 y2, .int .i64 y3, .int .i64 y4]), .con (.bool true), .con (.bool true), .con (.bool true), .con (.bool true), .con (.int .i64 0), .con (.bool false), .con (.bool false), .con (.int .i64 0), .con (.bool false), .con (.bool false), .con (.bool false), .con (.int .i64 0), .con (.bool true), .con (.bool true), .con (.bool true), .con (.bool true), .con (.int .i64 0), .con (.bool true), .con (.bool true), .con (undef), .con (undef), .con (.bool true), .con (.bool true), .con (undef), .con (undef), .con (.bool true), .con (.bool true), .con (.bool true), .con (.bool false), .con (.bool true), .con (.bool true), .con (undef), .con (undef), .con (.bool true), .con (.bool true), .con (.bool true), .con (.agg #[.int .i64 0, .int .i64 0, .int .i64 0, .int .i64 0, .int .i64 0]), .con (.agg #[.int .i64 x0, .int .i64 x1, .int .i64 x2, .int .i64 x3, .int .i64 x4]), .con (.agg #[.int .i64 x0, .int .i64 x1, .int .i64 x2, .int .i64 x3, .int .i64 x4]), .con (.int .i64 lv), .con (.bool true), .con (.bool true), .con (.bool true)] 6 74 (.bool true) (by kernel_rfl) (by kernel_rfl) (mkS_keeps (by kernel_rfl)) rfl rfl rfl ?steps ?fin
    case steps =>
      refine ⟨fun A w9 hB h => step_move_old h (by kernel_rfl) 7 rfl (by kernel_rfl) (by rfl), ?_⟩
      refine ⟨fun A w9 hB h => step_move h (by kernel_rfl) _ rfl (by kernel_rfl), ?_⟩
      refine ⟨fun A w9 hB h => step_move_old h (by kernel_rfl) 12 rfl (by kernel_rfl) (by rfl), ?_⟩
      refine ⟨fun A w9 hB h => step_bin h (by kernel_rfl) _ _ _ _ _ (.int .i64 0) (.int .i64 0) rfl (by kernel_rfl) (by kernel_rfl) (fun W => by kernel_rfl) (fun W => by kernel_rfl), ?_⟩
      refine ⟨fun A w9 hB h => step_pick h (by kernel_rfl) _ _ _ true rfl (by kernel_rfl) (by kernel_rfl), ?_⟩
      refine ⟨fun A w9 hB h => step_move h (by kernel_rfl) _ rfl (by kernel_rfl), ?_⟩
      refine ⟨fun A w9 hB h => step_move_old h (by kernel_rfl) 14 rfl (by kernel_rfl) (by rfl), ?_⟩
      refine ⟨fun A w9 hB h => step_bin h (by kernel_rfl) _ _ _ _ _ (.int .i64 0) (.int .i64 0) rfl (by kernel_rfl) (by kernel_rfl) (fun W => by kernel_rfl) (fun W => by kernel_rfl), ?_⟩
      refine ⟨fun A w9 hB h => step_pick h (by kernel_rfl) _ _ _ true rfl (by kernel_rfl) (by kernel_rfl), ?_⟩
      refine ⟨fun A w9 hB h => step_move h (by kernel_rfl) _ rfl (by kernel_rfl), ?_⟩
      refine ⟨fun A w9 hB h => step_move_old h (by kernel_rfl) 16 rfl (by kernel_rfl) (by rfl), ?_⟩
      refine ⟨fun A w9 hB h => step_bin h (by kernel_rfl) _ _ _ _ _ (.int .i64 0) (.int .i64 0) rfl (by kernel_rfl) (by kernel_rfl) (fun W => by kernel_rfl) (fun W => by kernel_rfl), ?_⟩
      refine ⟨fun A w9 hB h => step_pick h (by kernel_rfl) _ _ _ true rfl (by kernel_rfl) (by kernel_rfl), ?_⟩
      refine ⟨fun A w9 hB h => step_move h (by kernel_rfl) _ rfl (by kernel_rfl), ?_⟩
      refine ⟨fun A w9 hB h => step_move_old h (by kernel_rfl) 18 rfl (by kernel_rfl) (by rfl), ?_⟩
      refine ⟨fun A w9 hB h => step_bin h (by kernel_rfl) _ _ _ _ _ (.int .i64 0) (.int .i64 0) rfl (by kernel_rfl) (by kernel_rfl) (fun W => by kernel_rfl) (fun W => by kernel_rfl), ?_⟩
      refine ⟨fun A w9 hB h => step_pick h (by kernel_rfl) _ _ _ true rfl (by kernel_rfl) (by kernel_rfl), ?_⟩
      refine ⟨fun A w9 hB h => step_move h (by kernel_rfl) _ rfl (by kernel_rfl), ?_⟩
      refine ⟨fun A w9 hB h => step_move_old h (by kernel_rfl) 20 rfl (by kernel_rfl) (by rfl), ?_⟩
      refine ⟨fun A w9 hB h => step_bin h (by kernel_rfl) _ _ _ _ _ (.int .i64 0) (.int .i64 0) rfl (by kernel_rfl) (by kernel_rfl) (fun W => by kernel_rfl) (fun W => by kernel_rfl), ?_⟩
      refine ⟨fun A w9 hB h => step_pick h (by kernel_rfl) _ _ _ true rfl (by kernel_rfl) (by kernel_rfl), ?_⟩
      refine ⟨fun A w9 hB h => step_move h (by kernel_rfl) _ rfl (by kernel_rfl), ?_⟩
      refine ⟨fun A w9 hB h => step_move_old h (by kernel_rfl) 17 rfl (by kernel_rfl) (by rfl), ?_⟩
      refine ⟨fun A w9 hB h => step_move_old h (by kernel_rfl) 11 rfl (by kernel_rfl) (by rfl), ?_⟩
      refine ⟨fun A w9 hB h => step_un h (by kernel_rfl) _ _ _ (.int .i64 0) rfl (by kernel_rfl) (by kernel_rfl), ?_⟩
      refine ⟨fun A w9 hB h => step_bin h (by kernel_rfl) _ _ _ _ _ (.int .i64 0) (.int .i64 0) rfl (by kernel_rfl) (by kernel_rfl) (fun W => by kernel_rfl) (fun W => by kernel_rfl), ?_⟩
      refine ⟨fun A w9 hB h => step_pick h (by kernel_rfl) _ _ _ true rfl (by kernel_rfl) (by kernel_rfl), ?_⟩
      refine ⟨fun A w9 hB h => step_move h (by kernel_rfl) _ rfl (by kernel_rfl), ?_⟩
      refine ⟨fun A w9 hB h => step_move_old h (by kernel_rfl) 11 rfl (by kernel_rfl) (by rfl), ?_⟩
      refine ⟨fun A w9 hB h => step_bin h (by kernel_rfl) _ _ _ _ _ (.int .i64 0) (.int .i64 0) rfl (by kernel_rfl) (by kernel_rfl) (fun W => by kernel_rfl) (fun W => by kernel_rfl), ?_⟩
      refine ⟨fun A w9 hB h => step_load h (by kernel_rfl) _ _ (.pointer (some ⟨w4.heap.size, 0, none⟩)) rfl (h.old 8 (by kernel_rfl) (by rfl)) (load5 (X8.out.below hB)), ?_⟩
      refine ⟨fun A w9 hB h => step_load h (by kernel_rfl) _ _ (.pointer (some ⟨w4.heap.size + 1, 0, none⟩)) rfl (h.old 9 (by kernel_rfl) (by rfl)) (load5 (Y8.out.below hB)), ?_⟩
      refine ⟨fun A w9 hB h => step_bin h (by kernel_rfl) _ _ _ _ _ (.agg #[.int .i64 x0, .int .i64 x1, .int .i64 x2, .int .i64 x3, .int .i64 x4]) (.agg #[.int .i64 y0, .int .i64 y1, .int .i64 y2, .int .i64 y3, .int .i64 y4]) rfl (by kernel_rfl) (by kernel_rfl) (fun W => guard_look _ _ _ _ _ W) (fun W => zq W), ?_⟩
      refine ⟨fun A w9 hB h => step_bin h (by kernel_rfl) _ _ _ _ _ (.bool true) (.bool true) rfl (by kernel_rfl) (by kernel_rfl) (fun W => by kernel_rfl) (fun W => by kernel_rfl), ?_⟩
      refine ⟨fun A w9 hB h => step_pick h (by kernel_rfl) _ _ _ true rfl (by kernel_rfl) (by kernel_rfl), ?_⟩
      refine ⟨fun A w9 hB h => step_move h (by kernel_rfl) _ rfl (by kernel_rfl), ?_⟩
      refine ⟨fun A w9 hB h => step_move_old h (by kernel_rfl) 11 rfl (by kernel_rfl) (by rfl), ?_⟩
      refine ⟨fun A w9 hB h => step_bin h (by kernel_rfl) _ _ _ _ _ (.int .i64 0) (.int .i64 0) rfl (by kernel_rfl) (by kernel_rfl) (fun W => by kernel_rfl) (fun W => by kernel_rfl), ?_⟩
      refine ⟨fun A w9 hB h => step_move h (by kernel_rfl) _ rfl (by kernel_rfl), ?_⟩
      refine ⟨fun A w9 hB h => step_move_old h (by kernel_rfl) 13 rfl (by kernel_rfl) (by rfl), ?_⟩
      refine ⟨fun A w9 hB h => step_bin h (by kernel_rfl) _ _ _ _ _ (.int .i64 0) (.int .i64 0) rfl (by kernel_rfl) (by kernel_rfl) (fun W => by kernel_rfl) (fun W => by kernel_rfl), ?_⟩
      refine ⟨fun A w9 hB h => step_pick h (by kernel_rfl) _ _ _ false rfl (by kernel_rfl) (by kernel_rfl), ?_⟩
      refine ⟨fun A w9 hB h => step_move h (by kernel_rfl) _ rfl (by kernel_rfl), ?_⟩
      refine ⟨fun A w9 hB h => step_move_old h (by kernel_rfl) 15 rfl (by kernel_rfl) (by rfl), ?_⟩
      refine ⟨fun A w9 hB h => step_bin h (by kernel_rfl) _ _ _ _ _ (.int .i64 0) (.int .i64 0) rfl (by kernel_rfl) (by kernel_rfl) (fun W => by kernel_rfl) (fun W => by kernel_rfl), ?_⟩
      refine ⟨fun A w9 hB h => step_pick h (by kernel_rfl) _ _ _ false rfl (by kernel_rfl) (by kernel_rfl), ?_⟩
      refine ⟨fun A w9 hB h => step_pick h (by kernel_rfl) _ _ _ true rfl (by kernel_rfl) (by kernel_rfl), ?_⟩
      refine ⟨fun A w9 hB h => step_move h (by kernel_rfl) _ rfl (by kernel_rfl), ?_⟩
      refine ⟨fun A w9 hB h => step_move_old h (by kernel_rfl) 11 rfl (by kernel_rfl) (by rfl), ?_⟩
      refine ⟨fun A w9 hB h => step_bin h (by kernel_rfl) _ _ _ _ _ (.int .i64 0) (.int .i64 0) rfl (by kernel_rfl) (by kernel_rfl) (fun W => by kernel_rfl) (fun W => by kernel_rfl), ?_⟩
      refine ⟨fun A w9 hB h => step_move h (by kernel_rfl) _ rfl (by kernel_rfl), ?_⟩
      refine ⟨fun A w9 hB h => kit.step_skip h (by kernel_rfl), ?_⟩
      refine ⟨fun A w9 hB h => kit.step_skip h (by kernel_rfl), ?_⟩
      refine ⟨fun A w9 hB h => step_pick h (by kernel_rfl) _ _ _ true rfl (by kernel_rfl) (by kernel_rfl), ?_⟩
      refine ⟨fun A w9 hB h => step_move h (by kernel_rfl) _ rfl (by kernel_rfl), ?_⟩
      refine ⟨fun A w9 hB h => kit.step_skip h (by kernel_rfl), ?_⟩
      refine ⟨fun A w9 hB h => kit.step_skip h (by kernel_rfl), ?_⟩
      refine ⟨fun A w9 hB h => step_pick h (by kernel_rfl) _ _ _ true rfl (by kernel_rfl) (by kernel_rfl), ?_⟩
      refine ⟨fun A w9 hB h => step_pick h (by kernel_rfl) _ _ _ true rfl (by kernel_rfl) (by kernel_rfl), ?_⟩
      refine ⟨fun A w9 hB h => step_move h (by kernel_rfl) _ rfl (by kernel_rfl), ?_⟩
      refine ⟨fun A w9 hB h => step_move_old h (by kernel_rfl) 19 rfl (by kernel_rfl) (by rfl), ?_⟩
      refine ⟨fun A w9 hB h => step_un h (by kernel_rfl) _ _ _ (.bool false) rfl (by kernel_rfl) (by kernel_rfl), ?_⟩
      refine ⟨fun A w9 hB h => step_move h (by kernel_rfl) _ rfl (by kernel_rfl), ?_⟩
      refine ⟨fun A w9 hB h => kit.step_skip h (by kernel_rfl), ?_⟩
      refine ⟨fun A w9 hB h => kit.step_skip h (by kernel_rfl), ?_⟩
      refine ⟨fun A w9 hB h => step_pick h (by kernel_rfl) _ _ _ true rfl (by kernel_rfl) (by kernel_rfl), ?_⟩
      refine ⟨fun A w9 hB h => step_pick h (by kernel_rfl) _ _ _ true rfl (by kernel_rfl) (by kernel_rfl), ?_⟩
      refine ⟨fun A w9 hB h => step_move h (by kernel_rfl) _ rfl (by kernel_rfl), ?_⟩
      refine ⟨fun A w9 hB h => step_call_con h (by kernel_rfl) _ _ [.slice none 0 0] rfl rfl (by kernel_rfl) (by kernel_rfl) (lof_any none 0 [] w9 (by simp) (Lib.hid (fun i hi => by simp at hi)) 0 0 0 0 0 0 (Lib.hid (by decide))), ?_⟩
      refine ⟨fun A w9 hB h => step_load h (by kernel_rfl) _ _ (.pointer (some ⟨w4.heap.size, 0, none⟩)) rfl (h.old 8 (by kernel_rfl) (by rfl)) (load5 (X8.out.below hB)), ?_⟩
      refine ⟨fun A w9 hB h => step_load h (by kernel_rfl) _ _ (.pointer (some ⟨w4.heap.size, 0, none⟩)) rfl (h.old 8 (by kernel_rfl) (by rfl)) (load5 (X8.out.below hB)), ?_⟩
      refine ⟨fun A w9 hB h => step_call_con h (by kernel_rfl) _ _ [.agg #[.int .i64 x0, .int .i64 x1, .int .i64 x2, .int .i64 x3, .int .i64 x4]] rfl rfl (by kernel_rfl) (by kernel_rfl) (lleast_any x0 x1 x2 x3 x4 w9 lv HLV.out), ?_⟩
      refine ⟨fun A w9 hB h => step_call_con h (by kernel_rfl) _ _ [.agg #[.int .i64 0, .int .i64 0, .int .i64 0, .int .i64 0, .int .i64 0], .agg #[.int .i64 x0, .int .i64 x1, .int .i64 x2, .int .i64 x3, .int .i64 x4], .int .i64 lv] rfl rfl (by kernel_rfl) (by kernel_rfl) ((lcompares_any 0 0 0 0 0 x0 x1 x2 x3 x4 w9 lv lv 0 rfl HL0).mono (fun e w8 q => by simpa using q)), ?_⟩
      refine ⟨fun A w9 hB h => step_pick h (by kernel_rfl) _ _ _ true rfl (by kernel_rfl) (by kernel_rfl), ?_⟩
      refine ⟨fun A w9 hB h => step_assign h (by kernel_rfl) _ rfl (by kernel_rfl), ?_⟩
      exact trivial
    case fin =>
      intro B w8 hB hsz hdf hold
      clear hold
      have B8 := Lib.hid (below_on B9.out (Nat.le_refl _) hB)
      have hs : B.tmps.size = 132 := hsz.trans (by rfl)
      clear hB hsz
      rename_i K hK
      refine hK _ _ ?_
      clear hK
      go_wp2
      exact bodyPost_ret (v := .bool true) (by simp [results, Tryd.results7, go_sem, hs]) rfl ⟨rfl, B8.out⟩
  · clear OC
    refine wp_region_last [.con (.bool true), .con (.bool true), .con (.int .i64 0), .con (.bool true), .con (.bool true), .con (.bool true), .con (.int .i64 0), .con (.bool true), .con (.bool true), .con (.bool true), .con (.int .i64 0), .con (.bool true), .con (.bool true), .con (.bool true), .con (.int .i64 0), .con (.bool true), .con (.bool true), .con (.bool true), .con (.int .i64 0), .con (.bool true), .con (.bool true), .con (.bool true), .con (.int .i64 0), .con (.int .i64 0), .con (.int .i64 0), .con (.bool true), .con (.bool true), .con (.bool true), .con (.int .i64 0), .con (.bool true), .con (.agg #[.int .i64 x0, .int .i64 x1, .int .i64 x2, .int .i64 x3, .int .i64 x4]), .con (.agg #[.int .i64 y0, .int .i64 y1, .int .i64 y2, .int .i64 y3, .int .i64 y4]), .con (.bool true), .con (.bool true), .con (.bool true), .con (.bool true), .con (.int .i64 0), .con (.bool false), .con (.bool false), .con (.int .i64 1), .con (.bool true), .con (.bool true), .con (.bool true), .con (undef), .con (undef), .con (.bool true), .con (.bool true), .con (.bool true), .con (.int .i64 0), .con (.bool true), .con (.bool true), .con (undef), .con (undef), .con (.bool true), .con (.bool true), .con (undef), .con (undef), .con (.bool true), .con (.bool true), .con (.bool true), .con (.bool true), .con (.bool false), .con (.bool false), .con (.int .i64 0), .con (.bool true), .con (.bool true), .con (.bool true), .con (.bool true), .con (.agg #[.int .i64 0, .int .i64 0, .int .i64 0, .int .i64 0, .int .i64 0]), .con (.agg #[.int .i64 x0, .int .i64 x1, .int .i64 x2, .int .i64 x3, .int .i64 x4]), .con (.agg #[.int .i64 x0, .int .i64 x1, .int .i64 x2, .int .i64 x3, .int .i64 x4]), .con (.int .i64 lv), .con (.bool true), .con (.bool true), .con (.bool true)] 6 74 (.bool true) (by kernel_rfl) (by kernel_rfl) (mkS_keeps (by kernel_rfl)) rfl rfl rfl ?steps ?fin
    case steps =>
      refine ⟨fun A w9 hB h => step_move_old h (by kernel_rfl) 7 rfl (by kernel_rfl) (by rfl), ?_⟩
      refine ⟨fun A w9 hB h => step_move h (by kernel_rfl) _ rfl (by kernel_rfl), ?_⟩
      refine ⟨fun A w9 hB h => step_move_old h (by kernel_rfl) 12 rfl (by kernel_rfl) (by rfl), ?_⟩
      refine ⟨fun A w9 hB h => step_bin h (by kernel_rfl) _ _ _ _ _ (.int .i64 0) (.int .i64 0) rfl (by kernel_rfl) (by kernel_rfl) (fun W => by kernel_rfl) (fun W => by kernel_rfl), ?_⟩
      refine ⟨fun A w9 hB h => step_pick h (by kernel_rfl) _ _ _ true rfl (by kernel_rfl) (by kernel_rfl), ?_⟩
      refine ⟨fun A w9 hB h => step_move h (by kernel_rfl) _ rfl (by kernel_rfl), ?_⟩
      refine ⟨fun A w9 hB h => step_move_old h (by kernel_rfl) 14 rfl (by kernel_rfl) (by rfl), ?_⟩
      refine ⟨fun A w9 hB h => step_bin h (by kernel_rfl) _ _ _ _ _ (.int .i64 0) (.int .i64 0) rfl (by kernel_rfl) (by kernel_rfl) (fun W => by kernel_rfl) (fun W => by kernel_rfl), ?_⟩
      refine ⟨fun A w9 hB h => step_pick h (by kernel_rfl) _ _ _ true rfl (by kernel_rfl) (by kernel_rfl), ?_⟩
      refine ⟨fun A w9 hB h => step_move h (by kernel_rfl) _ rfl (by kernel_rfl), ?_⟩
      refine ⟨fun A w9 hB h => step_move_old h (by kernel_rfl) 16 rfl (by kernel_rfl) (by rfl), ?_⟩
      refine ⟨fun A w9 hB h => step_bin h (by kernel_rfl) _ _ _ _ _ (.int .i64 0) (.int .i64 0) rfl (by kernel_rfl) (by kernel_rfl) (fun W => by kernel_rfl) (fun W => by kernel_rfl), ?_⟩
      refine ⟨fun A w9 hB h => step_pick h (by kernel_rfl) _ _ _ true rfl (by kernel_rfl) (by kernel_rfl), ?_⟩
      refine ⟨fun A w9 hB h => step_move h (by kernel_rfl) _ rfl (by kernel_rfl), ?_⟩
      refine ⟨fun A w9 hB h => step_move_old h (by kernel_rfl) 18 rfl (by kernel_rfl) (by rfl), ?_⟩
      refine ⟨fun A w9 hB h => step_bin h (by kernel_rfl) _ _ _ _ _ (.int .i64 0) (.int .i64 0) rfl (by kernel_rfl) (by kernel_rfl) (fun W => by kernel_rfl) (fun W => by kernel_rfl), ?_⟩
      refine ⟨fun A w9 hB h => step_pick h (by kernel_rfl) _ _ _ true rfl (by kernel_rfl) (by kernel_rfl), ?_⟩
      refine ⟨fun A w9 hB h => step_move h (by kernel_rfl) _ rfl (by kernel_rfl), ?_⟩
      refine ⟨fun A w9 hB h => step_move_old h (by kernel_rfl) 20 rfl (by kernel_rfl) (by rfl), ?_⟩
      refine ⟨fun A w9 hB h => step_bin h (by kernel_rfl) _ _ _ _ _ (.int .i64 0) (.int .i64 0) rfl (by kernel_rfl) (by kernel_rfl) (fun W => by kernel_rfl) (fun W => by kernel_rfl), ?_⟩
      refine ⟨fun A w9 hB h => step_pick h (by kernel_rfl) _ _ _ true rfl (by kernel_rfl) (by kernel_rfl), ?_⟩
      refine ⟨fun A w9 hB h => step_move h (by kernel_rfl) _ rfl (by kernel_rfl), ?_⟩
      refine ⟨fun A w9 hB h => step_move_old h (by kernel_rfl) 17 rfl (by kernel_rfl) (by rfl), ?_⟩
      refine ⟨fun A w9 hB h => step_move_old h (by kernel_rfl) 11 rfl (by kernel_rfl) (by rfl), ?_⟩
      refine ⟨fun A w9 hB h => step_un h (by kernel_rfl) _ _ _ (.int .i64 0) rfl (by kernel_rfl) (by kernel_rfl), ?_⟩
      refine ⟨fun A w9 hB h => step_bin h (by kernel_rfl) _ _ _ _ _ (.int .i64 0) (.int .i64 0) rfl (by kernel_rfl) (by kernel_rfl) (fun W => by kernel_rfl) (fun W => by kernel_rfl), ?_⟩
      refine ⟨fun A w9 hB h => step_pick h (by kernel_rfl) _ _ _ true rfl (by kernel_rfl) (by kernel_rfl), ?_⟩
      refine ⟨fun A w9 hB h => step_move h (by kernel_rfl) _ rfl (by kernel_rfl), ?_⟩
      refine ⟨fun A w9 hB h => step_move_old h (by kernel_rfl) 11 rfl (by kernel_rfl) (by rfl), ?_⟩
      refine ⟨fun A w9 hB h => step_bin h (by kernel_rfl) _ _ _ _ _ (.int .i64 0) (.int .i64 0) rfl (by kernel_rfl) (by kernel_rfl) (fun W => by kernel_rfl) (fun W => by kernel_rfl), ?_⟩
      refine ⟨fun A w9 hB h => step_load h (by kernel_rfl) _ _ (.pointer (some ⟨w4.heap.size, 0, none⟩)) rfl (h.old 8 (by kernel_rfl) (by rfl)) (load5 (X8.out.below hB)), ?_⟩
      refine ⟨fun A w9 hB h => step_load h (by kernel_rfl) _ _ (.pointer (some ⟨w4.heap.size + 1, 0, none⟩)) rfl (h.old 9 (by kernel_rfl) (by rfl)) (load5 (Y8.out.below hB)), ?_⟩
      refine ⟨fun A w9 hB h => step_bin h (by kernel_rfl) _ _ _ _ _ (.agg #[.int .i64 x0, .int .i64 x1, .int .i64 x2, .int .i64 x3, .int .i64 x4]) (.agg #[.int .i64 y0, .int .i64 y1, .int .i64 y2, .int .i64 y3, .int .i64 y4]) rfl (by kernel_rfl) (by kernel_rfl) (fun W => guard_look _ _ _ _ _ W) (fun W => zq W), ?_⟩
      refine ⟨fun A w9 hB h => step_bin h (by kernel_rfl) _ _ _ _ _ (.bool true) (.bool true) rfl (by kernel_rfl) (by kernel_rfl) (fun W => by kernel_rfl) (fun W => by kernel_rfl), ?_⟩
      refine ⟨fun A w9 hB h => step_pick h (by kernel_rfl) _ _ _ true rfl (by kernel_rfl) (by kernel_rfl), ?_⟩
      refine ⟨fun A w9 hB h => step_move h (by kernel_rfl) _ rfl (by kernel_rfl), ?_⟩
      refine ⟨fun A w9 hB h => step_move_old h (by kernel_rfl) 11 rfl (by kernel_rfl) (by rfl), ?_⟩
      refine ⟨fun A w9 hB h => step_bin h (by kernel_rfl) _ _ _ _ _ (.int .i64 0) (.int .i64 0) rfl (by kernel_rfl) (by kernel_rfl) (fun W => by kernel_rfl) (fun W => by kernel_rfl), ?_⟩
      refine ⟨fun A w9 hB h => step_move h (by kernel_rfl) _ rfl (by kernel_rfl), ?_⟩
      refine ⟨fun A w9 hB h => step_move_old h (by kernel_rfl) 13 rfl (by kernel_rfl) (by rfl), ?_⟩
      refine ⟨fun A w9 hB h => step_bin h (by kernel_rfl) _ _ _ _ _ (.int .i64 1) (.int .i64 0) rfl (by kernel_rfl) (by kernel_rfl) (fun W => by kernel_rfl) (fun W => by kernel_rfl), ?_⟩
      refine ⟨fun A w9 hB h => step_pick h (by kernel_rfl) _ _ _ false rfl (by kernel_rfl) (by kernel_rfl), ?_⟩
      refine ⟨fun A w9 hB h => step_move h (by kernel_rfl) _ rfl (by kernel_rfl), ?_⟩
      refine ⟨fun A w9 hB h => kit.step_skip h (by kernel_rfl), ?_⟩
      refine ⟨fun A w9 hB h => kit.step_skip h (by kernel_rfl), ?_⟩
      refine ⟨fun A w9 hB h => step_pick h (by kernel_rfl) _ _ _ true rfl (by kernel_rfl) (by kernel_rfl), ?_⟩
      refine ⟨fun A w9 hB h => step_pick h (by kernel_rfl) _ _ _ true rfl (by kernel_rfl) (by kernel_rfl), ?_⟩
      refine ⟨fun A w9 hB h => step_move h (by kernel_rfl) _ rfl (by kernel_rfl), ?_⟩
      refine ⟨fun A w9 hB h => step_move_old h (by kernel_rfl) 11 rfl (by kernel_rfl) (by rfl), ?_⟩
      refine ⟨fun A w9 hB h => step_bin h (by kernel_rfl) _ _ _ _ _ (.int .i64 0) (.int .i64 0) rfl (by kernel_rfl) (by kernel_rfl) (fun W => by kernel_rfl) (fun W => by kernel_rfl), ?_⟩
      refine ⟨fun A w9 hB h => step_move h (by kernel_rfl) _ rfl (by kernel_rfl), ?_⟩
      refine ⟨fun A w9 hB h => kit.step_skip h (by kernel_rfl), ?_⟩
      refine ⟨fun A w9 hB h => kit.step_skip h (by kernel_rfl), ?_⟩
      refine ⟨fun A w9 hB h => step_pick h (by kernel_rfl) _ _ _ true rfl (by kernel_rfl) (by kernel_rfl), ?_⟩
      refine ⟨fun A w9 hB h => step_move h (by kernel_rfl) _ rfl (by kernel_rfl), ?_⟩
      refine ⟨fun A w9 hB h => kit.step_skip h (by kernel_rfl), ?_⟩
      refine ⟨fun A w9 hB h => kit.step_skip h (by kernel_rfl), ?_⟩
      refine ⟨fun A w9 hB h => step_pick h (by kernel_rfl) _ _ _ true rfl (by kernel_rfl) (by kernel_rfl), ?_⟩
      refine ⟨fun A w9 hB h => step_pick h (by kernel_rfl) _ _ _ true rfl (by kernel_rfl) (by kernel_rfl), ?_⟩
      refine ⟨fun A w9 hB h => step_move h (by kernel_rfl) _ rfl (by kernel_rfl), ?_⟩
      refine ⟨fun A w9 hB h => step_move_old h (by kernel_rfl) 19 rfl (by kernel_rfl) (by rfl), ?_⟩
      refine ⟨fun A w9 hB h => step_un h (by kernel_rfl) _ _ _ (.bool true) rfl (by kernel_rfl) (by kernel_rfl), ?_⟩
      refine ⟨fun A w9 hB h => step_move h (by kernel_rfl) _ rfl (by kernel_rfl), ?_⟩
      refine ⟨fun A w9 hB h => step_move_old h (by kernel_rfl) 11 rfl (by kernel_rfl) (by rfl), ?_⟩
      refine ⟨fun A w9 hB h => step_bin h (by kernel_rfl) _ _ _ _ _ (.int .i64 0) (.int .i64 0) rfl (by kernel_rfl) (by kernel_rfl) (fun W => by kernel_rfl) (fun W => by kernel_rfl), ?_⟩
      refine ⟨fun A w9 hB h => step_pick h (by kernel_rfl) _ _ _ false rfl (by kernel_rfl) (by kernel_rfl), ?_⟩
      refine ⟨fun A w9 hB h => step_pick h (by kernel_rfl) _ _ _ true rfl (by kernel_rfl) (by kernel_rfl), ?_⟩
      refine ⟨fun A w9 hB h => step_move h (by kernel_rfl) _ rfl (by kernel_rfl), ?_⟩
      refine ⟨fun A w9 hB h => step_call_con h (by kernel_rfl) _ _ [.slice none 0 0] rfl rfl (by kernel_rfl) (by kernel_rfl) (lof_any none 0 [] w9 (by simp) (Lib.hid (fun i hi => by simp at hi)) 0 0 0 0 0 0 (Lib.hid (by decide))), ?_⟩
      refine ⟨fun A w9 hB h => step_load h (by kernel_rfl) _ _ (.pointer (some ⟨w4.heap.size, 0, none⟩)) rfl (h.old 8 (by kernel_rfl) (by rfl)) (load5 (X8.out.below hB)), ?_⟩
      refine ⟨fun A w9 hB h => step_load h (by kernel_rfl) _ _ (.pointer (some ⟨w4.heap.size, 0, none⟩)) rfl (h.old 8 (by kernel_rfl) (by rfl)) (load5 (X8.out.below hB)), ?_⟩
      refine ⟨fun A w9 hB h => step_call_con h (by kernel_rfl) _ _ [.agg #[.int .i64 x0, .int .i64 x1, .int .i64 x2, .int .i64 x3, .int .i64 x4]] rfl rfl (by kernel_rfl) (by kernel_rfl) (lleast_any x0 x1 x2 x3 x4 w9 lv HLV.out), ?_⟩
      refine ⟨fun A w9 hB h => step_call_con h (by kernel_rfl) _ _ [.agg #[.int .i64 0, .int .i64 0, .int .i64 0, .int .i64 0, .int .i64 0], .agg #[.int .i64 x0, .int .i64 x1, .int .i64 x2, .int .i64 x3, .int .i64 x4], .int .i64 lv] rfl rfl (by kernel_rfl) (by kernel_rfl) ((lcompares_any 0 0 0 0 0 x0 x1 x2 x3 x4 w9 lv lv 0 rfl HL0).mono (fun e w8 q => by simpa using q)), ?_⟩
      refine ⟨fun A w9 hB h => step_pick h (by kernel_rfl) _ _ _ true rfl (by kernel_rfl) (by kernel_rfl), ?_⟩
      refine ⟨fun A w9 hB h => step_assign h (by kernel_rfl) _ rfl (by kernel_rfl), ?_⟩
      exact trivial
    case fin =>
      intro B w8 hB hsz hdf hold
      clear hold
      have B8 := Lib.hid (below_on B9.out (Nat.le_refl _) hB)
      have hs : B.tmps.size = 132 := hsz.trans (by rfl)
      clear hB hsz
      rename_i K hK
      refine hK _ _ ?_
      clear hK
      go_wp2
      exact bodyPost_ret (v := .bool true) (by simp [results, Tryd.results7, go_sem, hs]) rfl ⟨rfl, B8.out⟩
  · clear OC
    refine wp_region_last [.con (.bool true), .con (.bool true), .con (.int .i64 0), .con (.bool true), .con (.bool true), .con (.bool true), .con (.int .i64 0), .con (.bool true), .con (.bool true), .con (.bool true), .con (.int .i64 0), .con (.bool true), .con (.bool true), .con (.bool true), .con (.int .i64 0), .con (.bool true), .con (.bool true), .con (.bool true), .con (.int .i64 0), .con (.bool true), .con (.bool true), .con (.bool true), .con (.int .i64 0), .con (.int .i64 0), .con (.int .i64 0), .con (.bool true), .con (.bool true), .con (.bool true), .con (.int .i64 0), .con (.bool true), .con (.agg #[.int .i64 x0, .int .i64 x1, .int .i64 x2, .int .i64 x3, .int .i64 x4]), .con (.agg #[.int .i64 y0, .int .i64 y1, .int .i64 y2, .int .i64 y3, .int .i64 y4]), .con (.bool true), .con (.bool true), .con (.bool true), .con (.bool true), .con (.int .i64 0), .con (.bool false), .con (.bool false), .con (.int .i64 1), .con (.bool true), .con (.bool true), .con (.bool true), .con (undef), .con (undef), .con (.bool true), .con (.bool true), .con (.bool true), .con (.int .i64 0), .con (.bool true), .con (.bool true), .con (undef), .con (undef), .con (.bool true), .con (.bool true), .con (undef), .con (undef), .con (.bool true), .con (.bool true), .con (.bool true), .con (.bool false), .con (.bool true), .con (.bool true), .con (undef), .con (undef), .con (.bool true), .con (.bool true), .con (.bool true), .con (.agg #[.int .i64 0, .int .i64 0, .int .i64 0, .int .i64 0, .int .i64 0]), .con (.agg #[.int .i64 x0, .int .i64 x1, .int .i64 x2, .int .i64 x3, .int .i64 x4]), .con (.agg #[.int .i64 x0, .int .i64 x1, .int .i64 x2, .int .i64 x3, .int .i64 x4]), .con (.int .i64 lv), .con (.bool true), .con (.bool true), .con (.bool true)] 6 74 (.bool true) (by kernel_rfl) (by kernel_rfl) (mkS_keeps (by kernel_rfl)) rfl rfl rfl ?steps ?fin
    case steps =>
      refine ⟨fun A w9 hB h => step_move_old h (by kernel_rfl) 7 rfl (by kernel_rfl) (by rfl), ?_⟩
      refine ⟨fun A w9 hB h => step_move h (by kernel_rfl) _ rfl (by kernel_rfl), ?_⟩
      refine ⟨fun A w9 hB h => step_move_old h (by kernel_rfl) 12 rfl (by kernel_rfl) (by rfl), ?_⟩
      refine ⟨fun A w9 hB h => step_bin h (by kernel_rfl) _ _ _ _ _ (.int .i64 0) (.int .i64 0) rfl (by kernel_rfl) (by kernel_rfl) (fun W => by kernel_rfl) (fun W => by kernel_rfl), ?_⟩
      refine ⟨fun A w9 hB h => step_pick h (by kernel_rfl) _ _ _ true rfl (by kernel_rfl) (by kernel_rfl), ?_⟩
      refine ⟨fun A w9 hB h => step_move h (by kernel_rfl) _ rfl (by kernel_rfl), ?_⟩
      refine ⟨fun A w9 hB h => step_move_old h (by kernel_rfl) 14 rfl (by kernel_rfl) (by rfl), ?_⟩
      refine ⟨fun A w9 hB h => step_bin h (by kernel_rfl) _ _ _ _ _ (.int .i64 0) (.int .i64 0) rfl (by kernel_rfl) (by kernel_rfl) (fun W => by kernel_rfl) (fun W => by kernel_rfl), ?_⟩
      refine ⟨fun A w9 hB h => step_pick h (by kernel_rfl) _ _ _ true rfl (by kernel_rfl) (by kernel_rfl), ?_⟩
      refine ⟨fun A w9 hB h => step_move h (by kernel_rfl) _ rfl (by kernel_rfl), ?_⟩
      refine ⟨fun A w9 hB h => step_move_old h (by kernel_rfl) 16 rfl (by kernel_rfl) (by rfl), ?_⟩
      refine ⟨fun A w9 hB h => step_bin h (by kernel_rfl) _ _ _ _ _ (.int .i64 0) (.int .i64 0) rfl (by kernel_rfl) (by kernel_rfl) (fun W => by kernel_rfl) (fun W => by kernel_rfl), ?_⟩
      refine ⟨fun A w9 hB h => step_pick h (by kernel_rfl) _ _ _ true rfl (by kernel_rfl) (by kernel_rfl), ?_⟩
      refine ⟨fun A w9 hB h => step_move h (by kernel_rfl) _ rfl (by kernel_rfl), ?_⟩
      refine ⟨fun A w9 hB h => step_move_old h (by kernel_rfl) 18 rfl (by kernel_rfl) (by rfl), ?_⟩
      refine ⟨fun A w9 hB h => step_bin h (by kernel_rfl) _ _ _ _ _ (.int .i64 0) (.int .i64 0) rfl (by kernel_rfl) (by kernel_rfl) (fun W => by kernel_rfl) (fun W => by kernel_rfl), ?_⟩
      refine ⟨fun A w9 hB h => step_pick h (by kernel_rfl) _ _ _ true rfl (by kernel_rfl) (by kernel_rfl), ?_⟩
      refine ⟨fun A w9 hB h => step_move h (by kernel_rfl) _ rfl (by kernel_rfl), ?_⟩
      refine ⟨fun A w9 hB h => step_move_old h (by kernel_rfl) 20 rfl (by kernel_rfl) (by rfl), ?_⟩
      refine ⟨fun A w9 hB h => step_bin h (by kernel_rfl) _ _ _ _ _ (.int .i64 0) (.int .i64 0) rfl (by kernel_rfl) (by kernel_rfl) (fun W => by kernel_rfl) (fun W => by kernel_rfl), ?_⟩
      refine ⟨fun A w9 hB h => step_pick h (by kernel_rfl) _ _ _ true rfl (by kernel_rfl) (by kernel_rfl), ?_⟩
      refine ⟨fun A w9 hB h => step_move h (by kernel_rfl) _ rfl (by kernel_rfl), ?_⟩
      refine ⟨fun A w9 hB h => step_move_old h (by kernel_rfl) 17 rfl (by kernel_rfl) (by rfl), ?_⟩
      refine ⟨fun A w9 hB h => step_move_old h (by kernel_rfl) 11 rfl (by kernel_rfl) (by rfl), ?_⟩
      refine ⟨fun A w9 hB h => step_un h (by kernel_rfl) _ _ _ (.int .i64 0) rfl (by kernel_rfl) (by kernel_rfl), ?_⟩
      refine ⟨fun A w9 hB h => step_bin h (by kernel_rfl) _ _ _ _ _ (.int .i64 0) (.int .i64 0) rfl (by kernel_rfl) (by kernel_rfl) (fun W => by kernel_rfl) (fun W => by kernel_rfl), ?_⟩
      refine ⟨fun A w9 hB h => step_pick h (by kernel_rfl) _ _ _ true rfl (by kernel_rfl) (by kernel_rfl), ?_⟩
      refine ⟨fun A w9 hB h => step_move h (by kernel_rfl) _ rfl (by kernel_rfl), ?_⟩
      refine ⟨fun A w9 hB h => step_move_old h (by kernel_rfl) 11 rfl (by kernel_rfl) (by rfl), ?_⟩
      refine ⟨fun A w9 hB h => step_bin h (by kernel_rfl) _ _ _ _ _ (.int .i64 0) (.int .i64 0) rfl (by kernel_rfl) (by kernel_rfl) (fun W => by kernel_rfl) (fun W => by kernel_rfl), ?_⟩
      refine ⟨fun A w9 hB h => step_load h (by kernel_rfl) _ _ (.pointer (some ⟨w4.heap.size, 0, none⟩)) rfl (h.old 8 (by kernel_rfl) (by rfl)) (load5 (X8.out.below hB)), ?_⟩
      refine ⟨fun A w9 hB h => step_load h (by kernel_rfl) _ _ (.pointer (some ⟨w4.heap.size + 1, 0, none⟩)) rfl (h.old 9 (by kernel_rfl) (by rfl)) (load5 (Y8.out.below hB)), ?_⟩
      refine ⟨fun A w9 hB h => step_bin h (by kernel_rfl) _ _ _ _ _ (.agg #[.int .i64 x0, .int .i64 x1, .int .i64 x2, .int .i64 x3, .int .i64 x4]) (.agg #[.int .i64 y0, .int .i64 y1, .int .i64 y2, .int .i64 y3, .int .i64 y4]) rfl (by kernel_rfl) (by kernel_rfl) (fun W => guard_look _ _ _ _ _ W) (fun W => zq W), ?_⟩
      refine ⟨fun A w9 hB h => step_bin h (by kernel_rfl) _ _ _ _ _ (.bool true) (.bool true) rfl (by kernel_rfl) (by kernel_rfl) (fun W => by kernel_rfl) (fun W => by kernel_rfl), ?_⟩
      refine ⟨fun A w9 hB h => step_pick h (by kernel_rfl) _ _ _ true rfl (by kernel_rfl) (by kernel_rfl), ?_⟩
      refine ⟨fun A w9 hB h => step_move h (by kernel_rfl) _ rfl (by kernel_rfl), ?_⟩
      refine ⟨fun A w9 hB h => step_move_old h (by kernel_rfl) 11 rfl (by kernel_rfl) (by rfl), ?_⟩
      refine ⟨fun A w9 hB h => step_bin h (by kernel_rfl) _ _ _ _ _ (.int .i64 0) (.int .i64 0) rfl (by kernel_rfl) (by kernel_rfl) (fun W => by kernel_rfl) (fun W => by kernel_rfl), ?_⟩
      refine ⟨fun A w9 hB h => step_move h (by kernel_rfl) _ rfl (by kernel_rfl), ?_⟩
      refine ⟨fun A w9 hB h => step_move_old h (by kernel_rfl) 13 rfl (by kernel_rfl) (by rfl), ?_⟩
      refine ⟨fun A w9 hB h => step_bin h (by kernel_rfl) _ _ _ _ _ (.int .i64 1) (.int .i64 0) rfl (by kernel_rfl) (by kernel_rfl) (fun W => by kernel_rfl) (fun W => by kernel_rfl), ?_⟩
      refine ⟨fun A w9 hB h => step_pick h (by kernel_rfl) _ _ _ false rfl (by kernel_rfl) (by kernel_rfl), ?_⟩
      refine ⟨fun A w9 hB h => step_move h (by kernel_rfl) _ rfl (by kernel_rfl), ?_⟩
      refine ⟨fun A w9 hB h => kit.step_skip h (by kernel_rfl), ?_⟩
      refine ⟨fun A w9 hB h => kit.step_skip h (by kernel_rfl), ?_⟩
      refine ⟨fun A w9 hB h => step_pick h (by kernel_rfl) _ _ _ true rfl (by kernel_rfl) (by kernel_rfl), ?_⟩
      refine ⟨fun A w9 hB h => step_pick h (by kernel_rfl) _ _ _ true rfl (by kernel_rfl) (by kernel_rfl), ?_⟩
      refine ⟨fun A w9 hB h => step_move h (by kernel_rfl) _ rfl (by kernel_rfl), ?_⟩
      refine ⟨fun A w9 hB h => step_move_old h (by kernel_rfl) 11 rfl (by kernel_rfl) (by rfl), ?_⟩
      refine ⟨fun A w9 hB h => step_bin h (by kernel_rfl) _ _ _ _ _ (.int .i64 0) (.int .i64 0) rfl (by kernel_rfl) (by kernel_rfl) (fun W => by kernel_rfl) (fun W => by kernel_rfl), ?_⟩
      refine ⟨fun A w9 hB h => step_move h (by kernel_rfl) _ rfl (by kernel_rfl), ?_⟩
      refine ⟨fun A w9 hB h => kit.step_skip h (by kernel_rfl), ?_⟩
      refine ⟨fun A w9 hB h => kit.step_skip h (by kernel_rfl), ?_⟩
      refine ⟨fun A w9 hB h => step_pick h (by kernel_rfl) _ _ _ true rfl (by kernel_rfl) (by kernel_rfl), ?_⟩
      refine ⟨fun A w9 hB h => step_move h (by kernel_rfl) _ rfl (by kernel_rfl), ?_⟩
      refine ⟨fun A w9 hB h => kit.step_skip h (by kernel_rfl), ?_⟩
      refine ⟨fun A w9 hB h => kit.step_skip h (by kernel_rfl), ?_⟩
      refine ⟨fun A w9 hB h => step_pick h (by kernel_rfl) _ _ _ true rfl (by kernel_rfl) (by kernel_rfl), ?_⟩
      refine ⟨fun A w9 hB h => step_pick h (by kernel_rfl) _ _ _ true rfl (by kernel_rfl) (by kernel_rfl), ?_⟩
      refine ⟨fun A w9 hB h => step_move h (by kernel_rfl) _ rfl (by kernel_rfl), ?_⟩
      refine ⟨fun A w9 hB h => step_move_old h (by kernel_rfl) 19 rfl (by kernel_rfl) (by rfl), ?_⟩
      refine ⟨fun A w9 hB h => step_un h (by kernel_rfl) _ _ _ (.bool false) rfl (by kernel_rfl) (by kernel_rfl), ?_⟩
      refine ⟨fun A w9 hB h => step_move h (by kernel_rfl) _ rfl (by kernel_rfl), ?_⟩
      refine ⟨fun A w9 hB h => kit.step_skip h (by kernel_rfl), ?_⟩
      refine ⟨fun A w9 hB h => kit.step_skip h (by kernel_rfl), ?_⟩
      refine ⟨fun A w9 hB h => step_pick h (by kernel_rfl) _ _ _ true rfl (by kernel_rfl) (by kernel_rfl), ?_⟩
      refine ⟨fun A w9 hB h => step_pick h (by kernel_rfl) _ _ _ true rfl (by kernel_rfl) (by kernel_rfl), ?_⟩
      refine ⟨fun A w9 hB h => step_move h (by kernel_rfl) _ rfl (by kernel_rfl), ?_⟩
      refine ⟨fun A w9 hB h => step_call_con h (by kernel_rfl) _ _ [.slice none 0 0] rfl rfl (by kernel_rfl) (by kernel_rfl) (lof_any none 0 [] w9 (by simp) (Lib.hid (fun i hi => by simp at hi)) 0 0 0 0 0 0 (Lib.hid (by decide))), ?_⟩
      refine ⟨fun A w9 hB h => step_load h (by kernel_rfl) _ _ (.pointer (some ⟨w4.heap.size, 0, none⟩)) rfl (h.old 8 (by kernel_rfl) (by rfl)) (load5 (X8.out.below hB)), ?_⟩
      refine ⟨fun A w9 hB h => step_load h (by kernel_rfl) _ _ (.pointer (some ⟨w4.heap.size, 0, none⟩)) rfl (h.old 8 (by kernel_rfl) (by rfl)) (load5 (X8.out.below hB)), ?_⟩
      refine ⟨fun A w9 hB h => step_call_con h (by kernel_rfl) _ _ [.agg #[.int .i64 x0, .int .i64 x1, .int .i64 x2, .int .i64 x3, .int .i64 x4]] rfl rfl (by kernel_rfl) (by kernel_rfl) (lleast_any x0 x1 x2 x3 x4 w9 lv HLV.out), ?_⟩
      refine ⟨fun A w9 hB h => step_call_con h (by kernel_rfl) _ _ [.agg #[.int .i64 0, .int .i64 0, .int .i64 0, .int .i64 0, .int .i64 0], .agg #[.int .i64 x0, .int .i64 x1, .int .i64 x2, .int .i64 x3, .int .i64 x4], .int .i64 lv] rfl rfl (by kernel_rfl) (by kernel_rfl) ((lcompares_any 0 0 0 0 0 x0 x1 x2 x3 x4 w9 lv lv 0 rfl HL0).mono (fun e w8 q => by simpa using q)), ?_⟩
      refine ⟨fun A w9 hB h => step_pick h (by kernel_rfl) _ _ _ true rfl (by kernel_rfl) (by kernel_rfl), ?_⟩
      refine ⟨fun A w9 hB h => step_assign h (by kernel_rfl) _ rfl (by kernel_rfl), ?_⟩
      exact trivial
    case fin =>
      intro B w8 hB hsz hdf hold
      clear hold
      have B8 := Lib.hid (below_on B9.out (Nat.le_refl _) hB)
      have hs : B.tmps.size = 132 := hsz.trans (by rfl)
      clear hB hsz
      rename_i K hK
      refine hK _ _ ?_
      clear hK
      go_wp2
      exact bodyPost_ret (v := .bool true) (by simp [results, Tryd.results7, go_sem, hs]) rfl ⟨rfl, B8.out⟩
  · clear OC
    refine wp_region_last [.con (.bool true), .con (.bool true), .con (.int .i64 0), .con (.bool true), .con (.bool true), .con (.bool true), .con (.int .i64 0), .con (.bool true), .con (.bool true), .con (.bool true), .con (.int .i64 0), .con (.bool true), .con (.bool true), .con (.bool true), .con (.int .i64 0), .con (.bool true), .con (.bool true), .con (.bool true), .con (.int .i64 0), .con (.bool true), .con (.bool true), .con (.bool true), .con (.int .i64 (-1)), .con (.int .i64 1), .con (.int .i64 (-1)), .con (.bool true), .con (.bool true), .con (.bool true), .con (.int .i64 1), .con (.bool false), .con (.agg #[.int .i64 x0, .int .i64 x1, .int .i64 x2, .int .i64 x3, .int .i64 x4]), .con (.agg #[.int .i64 y0, .int .i64 y1, .int .i64 y2, .int .i64 y3, .int .i64 y4]), .con (.bool false), .con (.bool true), .con (.bool true), .con (.bool true), .con (.int .i64 1), .con (.bool true), .con (.bool true), .con (undef), .con (undef), .con (.bool true), .con (.bool true), .con (undef), .con (undef), .con (.bool true), .con (.bool true), .con (.bool true), .con (.int .i64 1), .con (.bool true), .con (.bool true), .con (undef), .con (undef), .con (.bool true), .con (.bool true), .con (undef), .con (undef), .con (.bool true), .con (.bool true), .con (.bool true), .con (.bool false), .con (.bool true), .con (.bool true), .con (undef), .con (undef), .con (.bool true), .con (.bool true), .con (.bool true), .con (.agg #[.int .i64 0, .int .i64 0, .int .i64 0, .int .i64 0, .int .i64 0]), .con (.agg #[.int .i64 x0, .int .i64 x1, .int .i64 x2, .int .i64 x3, .int .i64 x4]), .con (.agg #[.int .i64 x0, .int .i64 x1, .int .i64 x2, .int .i64 x3, .int .i64 x4]), .con (.int .i64 lv), .con (.bool true), .con (.bool true), .con (.bool true)] 6 74 (.bool true) (by kernel_rfl) (by kernel_rfl) (mkS_keeps (by kernel_rfl)) rfl rfl rfl ?steps ?fin
    case steps =>
      refine ⟨fun A w9 hB h => step_move_old h (by kernel_rfl) 7 rfl (by kernel_rfl) (by rfl), ?_⟩
      refine ⟨fun A w9 hB h => step_move h (by kernel_rfl) _ rfl (by kernel_rfl), ?_⟩
      refine ⟨fun A w9 hB h => step_move_old h (by kernel_rfl) 12 rfl (by kernel_rfl) (by rfl), ?_⟩
      refine ⟨fun A w9 hB h => step_bin h (by kernel_rfl) _ _ _ _ _ (.int .i64 0) (.int .i64 0) rfl (by kernel_rfl) (by kernel_rfl) (fun W => by kernel_rfl) (fun W => by kernel_rfl), ?_⟩
      refine ⟨fun A w9 hB h => step_pick h (by kernel_rfl) _ _ _ true rfl (by kernel_rfl) (by kernel_rfl), ?_⟩
      refine ⟨fun A w9 hB h => step_move h (by kernel_rfl) _ rfl (by kernel_rfl), ?_⟩
      refine ⟨fun A w9 hB h => step_move_old h (by kernel_rfl) 14 rfl (by kernel_rfl) (by rfl), ?_⟩
      refine ⟨fun A w9 hB h => step_bin h (by kernel_rfl) _ _ _ _ _ (.int .i64 0) (.int .i64 0) rfl (by kernel_rfl) (by kernel_rfl) (fun W => by kernel_rfl) (fun W => by kernel_rfl), ?_⟩
      refine ⟨fun A w9 hB h => step_pick h (by kernel_rfl) _ _ _ true rfl (by kernel_rfl) (by kernel_rfl), ?_⟩
      refine ⟨fun A w9 hB h => step_move h (by kernel_rfl) _ rfl (by kernel_rfl), ?_⟩
      refine ⟨fun A w9 hB h => step_move_old h (by kernel_rfl) 16 rfl (by kernel_rfl) (by rfl), ?_⟩
      refine ⟨fun A w9 hB h => step_bin h (by kernel_rfl) _ _ _ _ _ (.int .i64 0) (.int .i64 0) rfl (by kernel_rfl) (by kernel_rfl) (fun W => by kernel_rfl) (fun W => by kernel_rfl), ?_⟩
      refine ⟨fun A w9 hB h => step_pick h (by kernel_rfl) _ _ _ true rfl (by kernel_rfl) (by kernel_rfl), ?_⟩
      refine ⟨fun A w9 hB h => step_move h (by kernel_rfl) _ rfl (by kernel_rfl), ?_⟩
      refine ⟨fun A w9 hB h => step_move_old h (by kernel_rfl) 18 rfl (by kernel_rfl) (by rfl), ?_⟩
      refine ⟨fun A w9 hB h => step_bin h (by kernel_rfl) _ _ _ _ _ (.int .i64 0) (.int .i64 0) rfl (by kernel_rfl) (by kernel_rfl) (fun W => by kernel_rfl) (fun W => by kernel_rfl), ?_⟩
      refine ⟨fun A w9 hB h => step_pick h (by kernel_rfl) _ _ _ true rfl (by kernel_rfl) (by kernel_rfl), ?_⟩
      refine ⟨fun A w9 hB h => step_move h (by kernel_rfl) _ rfl (by kernel_rfl), ?_⟩
      refine ⟨fun A w9 hB h => step_move_old h (by kernel_rfl) 20 rfl (by kernel_rfl) (by rfl), ?_⟩
      refine ⟨fun A w9 hB h => step_bin h (by kernel_rfl) _ _ _ _ _ (.int .i64 0) (.int .i64 0) rfl (by kernel_rfl) (by kernel_rfl) (fun W => by kernel_rfl) (fun W => by kernel_rfl), ?_⟩
      refine ⟨fun A w9 hB h => step_pick h (by kernel_rfl) _ _ _ true rfl (by kernel_rfl) (by kernel_rfl), ?_⟩
      refine ⟨fun A w9 hB h => step_move h (by kernel_rfl) _ rfl (by kernel_rfl), ?_⟩
      refine ⟨fun A w9 hB h => step_move_old h (by kernel_rfl) 17 rfl (by kernel_rfl) (by rfl), ?_⟩
      refine ⟨fun A w9 hB h => step_move_old h (by kernel_rfl) 11 rfl (by kernel_rfl) (by rfl), ?_⟩
      refine ⟨fun A w9 hB h => step_un h (by kernel_rfl) _ _ _ (.int .i64 1) rfl (by kernel_rfl) (by kernel_rfl), ?_⟩
      refine ⟨fun A w9 hB h => step_bin h (by kernel_rfl) _ _ _ _ _ (.int .i64 (-1)) (.int .i64 (-1)) rfl (by kernel_rfl) (by kernel_rfl) (fun W => by kernel_rfl) (fun W => by kernel_rfl), ?_⟩
      refine ⟨fun A w9 hB h => step_pick h (by kernel_rfl) _ _ _ true rfl (by kernel_rfl) (by kernel_rfl), ?_⟩
      refine ⟨fun A w9 hB h => step_move h (by kernel_rfl) _ rfl (by kernel_rfl), ?_⟩
      refine ⟨fun A w9 hB h => step_move_old h (by kernel_rfl) 11 rfl (by kernel_rfl) (by rfl), ?_⟩
      refine ⟨fun A w9 hB h => step_bin h (by kernel_rfl) _ _ _ _ _ (.int .i64 1) (.int .i64 0) rfl (by kernel_rfl) (by kernel_rfl) (fun W => by kernel_rfl) (fun W => by kernel_rfl), ?_⟩
      refine ⟨fun A w9 hB h => step_load h (by kernel_rfl) _ _ (.pointer (some ⟨w4.heap.size, 0, none⟩)) rfl (h.old 8 (by kernel_rfl) (by rfl)) (load5 (X8.out.below hB)), ?_⟩
      refine ⟨fun A w9 hB h => step_load h (by kernel_rfl) _ _ (.pointer (some ⟨w4.heap.size + 1, 0, none⟩)) rfl (h.old 9 (by kernel_rfl) (by rfl)) (load5 (Y8.out.below hB)), ?_⟩
      refine ⟨fun A w9 hB h => step_bin h (by kernel_rfl) _ _ _ _ _ (.agg #[.int .i64 x0, .int .i64 x1, .int .i64 x2, .int .i64 x3, .int .i64 x4]) (.agg #[.int .i64 y0, .int .i64 y1, .int .i64 y2, .int .i64 y3, .int .i64 y4]) rfl (by kernel_rfl) (by kernel_rfl) (fun W => guard_look _ _ _ _ _ W) (fun W => zq W), ?_⟩
      refine ⟨fun A w9 hB h => step_bin h (by kernel_rfl) _ _ _ _ _ (.bool false) (.bool false) rfl (by kernel_rfl) (by kernel_rfl) (fun W => by kernel_rfl) (fun W => by kernel_rfl), ?_⟩
      refine ⟨fun A w9 hB h => step_pick h (by kernel_rfl) _ _ _ true rfl (by kernel_rfl) (by kernel_rfl), ?_⟩
      refine ⟨fun A w9 hB h => step_move h (by kernel_rfl) _ rfl (by kernel_rfl), ?_⟩
      refine ⟨fun A w9 hB h => step_move_old h (by kernel_rfl) 11 rfl (by kernel_rfl) (by rfl), ?_⟩
      refine ⟨fun A w9 hB h => step_bin h (by kernel_rfl) _ _ _ _ _ (.int .i64 1) (.int .i64 0) rfl (by kernel_rfl) (by kernel_rfl) (fun W => by kernel_rfl) (fun W => by kernel_rfl), ?_⟩
      refine ⟨fun A w9 hB h => step_move h (by kernel_rfl) _ rfl (by kernel_rfl), ?_⟩
      refine ⟨fun A w9 hB h => kit.step_skip h (by kernel_rfl), ?_⟩
      refine ⟨fun A w9 hB h => kit.step_skip h (by kernel_rfl), ?_⟩
      refine ⟨fun A w9 hB h => step_pick h (by kernel_rfl) _ _ _ true rfl (by kernel_rfl) (by kernel_rfl), ?_⟩
      refine ⟨fun A w9 hB h => step_move h (by kernel_rfl) _ rfl (by kernel_rfl), ?_⟩
      refine ⟨fun A w9 hB h => kit.step_skip h (by kernel_rfl), ?_⟩
      refine ⟨fun A w9 hB h => kit.step_skip h (by kernel_rfl), ?_⟩
      refine ⟨fun A w9 hB h => step_pick h (by kernel_rfl) _ _ _ true rfl (by kernel_rfl) (by kernel_rfl), ?_⟩
      refine ⟨fun A w9 hB h => step_pick h (by kernel_rfl) _ _ _ true rfl (by kernel_rfl) (by kernel_rfl), ?_⟩
      refine ⟨fun A w9 hB h => step_move h (by kernel_rfl) _ rfl (by kernel_rfl), ?_⟩
      refine ⟨fun A w9 hB h => step_move_old h (by kernel_rfl) 11 rfl (by kernel_rfl) (by rfl), ?_⟩
      refine ⟨fun A w9 hB h => step_bin h (by kernel_rfl) _ _ _ _ _ (.int .i64 1) (.int .i64 0) rfl (by kernel_rfl) (by kernel_rfl) (fun W => by kernel_rfl) (fun W => by kernel_rfl), ?_⟩
      refine ⟨fun A w9 hB h => step_move h (by kernel_rfl) _ rfl (by kernel_rfl), ?_⟩
      refine ⟨fun A w9 hB h => kit.step_skip h (by kernel_rfl), ?_⟩
      refine ⟨fun A w9 hB h => kit.step_skip h (by kernel_rfl), ?_⟩
      refine ⟨fun A w9 hB h => step_pick h (by kernel_rfl) _ _ _ true rfl (by kernel_rfl) (by kernel_rfl), ?_⟩
      refine ⟨fun A w9 hB h => step_move h (by kernel_rfl) _ rfl (by kernel_rfl), ?_⟩
      refine ⟨fun A w9 hB h => kit.step_skip h (by kernel_rfl), ?_⟩
      refine ⟨fun A w9 hB h => kit.step_skip h (by kernel_rfl), ?_⟩
      refine ⟨fun A w9 hB h => step_pick h (by kernel_rfl) _ _ _ true rfl (by kernel_rfl) (by kernel_rfl), ?_⟩
      refine ⟨fun A w9 hB h => step_pick h (by kernel_rfl) _ _ _ true rfl (by kernel_rfl) (by kernel_rfl), ?_⟩
      refine ⟨fun A w9 hB h => step_move h (by kernel_rfl) _ rfl (by kernel_rfl), ?_⟩
      refine ⟨fun A w9 hB h => step_move_old h (by kernel_rfl) 19 rfl (by kernel_rfl) (by rfl), ?_⟩
      refine ⟨fun A w9 hB h => step_un h (by kernel_rfl) _ _ _ (.bool false) rfl (by kernel_rfl) (by kernel_rfl), ?_⟩
      refine ⟨fun A w9 hB h => step_move h (by kernel_rfl) _ rfl (by kernel_rfl), ?_⟩
      refine ⟨fun A w9 hB h => kit.step_skip h (by kernel_rfl), ?_⟩
      refine ⟨fun A w9 hB h => kit.step_skip h (by kernel_rfl), ?_⟩
      refine ⟨fun A w9 hB h => step_pick h (by kernel_rfl) _ _ _ true rfl (by kernel_rfl) (by kernel_rfl), ?_⟩
      refine ⟨fun A w9 hB h => step_pick h (by kernel_rfl) _ _ _ true rfl (by kernel_rfl) (by kernel_rfl), ?_⟩
      refine ⟨fun A w9 hB h => step_move h (by kernel_rfl) _ rfl (by kernel_rfl), ?_⟩
      refine ⟨fun A w9 hB h => step_call_con h (by kernel_rfl) _ _ [.slice none 0 0] rfl rfl (by kernel_rfl) (by kernel_rfl) (lof_any none 0 [] w9 (by simp) (Lib.hid (fun i hi => by simp at hi)) 0 0 0 0 0 0 (Lib.hid (by decide))), ?_⟩
      refine ⟨fun A w9 hB h => step_load h (by kernel_rfl) _ _ (.pointer (some ⟨w4.heap.size, 0, none⟩)) rfl (h.old 8 (by kernel_rfl) (by rfl)) (load5 (X8.out.below hB)), ?_⟩
      refine ⟨fun A w9 hB h => step_load h (by kernel_rfl) _ _ (.pointer (some ⟨w4.heap.size, 0, none⟩)) rfl (h.old 8 (by kernel_rfl) (by rfl)) (load5 (X8.out.below hB)), ?_⟩
      refine ⟨fun A w9 hB h => step_call_con h (by kernel_rfl) _ _ [.agg #[.int .i64 x0, .int .i64 x1, .int .i64 x2, .int .i64 x3, .int .i64 x4]] rfl rfl (by kernel_rfl) (by kernel_rfl) (lleast_any x0 x1 x2 x3 x4 w9 lv HLV.out), ?_⟩
      refine ⟨fun A w9 hB h => step_call_con h (by kernel_rfl) _ _ [.agg #[.int .i64 0, .int .i64 0, .int .i64 0, .int .i64 0, .int .i64 0], .agg #[.int .i64 x0, .int .i64 x1, .int .i64 x2, .int .i64 x3, .int .i64 x4], .int .i64 lv] rfl rfl (by kernel_rfl) (by kernel_rfl) ((lcompares_any 0 0 0 0 0 x0 x1 x2 x3 x4 w9 lv lv 0 rfl HL0).mono (fun e w8 q => by simpa using q)), ?_⟩
      refine ⟨fun A w9 hB h => step_pick h (by kernel_rfl) _ _ _ true rfl (by kernel_rfl) (by kernel_rfl), ?_⟩
      refine ⟨fun A w9 hB h => step_assign h (by kernel_rfl) _ rfl (by kernel_rfl), ?_⟩
      exact trivial
    case fin =>
      intro B w8 hB hsz hdf hold
      clear hold
      have B8 := Lib.hid (below_on B9.out (Nat.le_refl _) hB)
      have hs : B.tmps.size = 132 := hsz.trans (by rfl)
      clear hB hsz
      rename_i K hK
      refine hK _ _ ?_
      clear hK
      go_wp2
      exact bodyPost_ret (v := .bool true) (by simp [results, Tryd.results7, go_sem, hs]) rfl ⟨rfl, B8.out⟩
  · clear OC
    refine wp_region_last [.con (.bool true), .con (.bool true), .con (.int .i64 0), .con (.bool true), .con (.bool true), .con (.bool true), .con (.int .i64 0), .con (.bool true), .con (.bool true), .con (.bool true), .con (.int .i64 0), .con (.bool true), .con (.bool true), .con (.bool true), .con (.int .i64 0), .con (.bool true), .con (.bool true), .con (.bool true), .con (.int .i64 0), .con (.bool true), .con (.bool true), .con (.bool true), .con (.int .i64 (-1)), .con (.int .i64 1), .con (.int .i64 (-1)), .con (.bool true), .con (.bool true), .con (.bool true), .con (.int .i64 1), .con (.bool false), .con (.agg #[.int .i64 x0, .int .i64 x1, .int .i64 x2, .int .i64 x3, .int .i64 x4]), .con (.agg #[.int .i64 y0, .int .i64 y1, .int .i64 y2, .int .i64 y3, .int .i64 y4]), .con (.bool false), .con (.bool true), .con (.bool true), .con (.bool true), .con (.int .i64 1), .con (.bool true), .con (.bool true), .con (undef), .con (undef), .con (.bool true), .con (.bool true), .con (undef), .con (undef), .con (.bool true), .con (.bool true), .con (.bool true), .con (.int .i64 1), .con (.bool true), .con (.bool true), .con (undef), .con (undef), .con (.bool true), .con (.bool true), .con (undef), .con (undef), .con (.bool true), .con (.bool true), .con (.bool true), .con (.bool false), .con (.bool true), .con (.bool true), .con (undef), .con (undef), .con (.bool true), .con (.bool true), .con (.bool true), .con (.agg #[.int .i64 0, .int .i64 0, .int .i64 0, .int .i64 0, .int .i64 0]), .con (.agg #[.int .i64 x0, .int .i64 x1, .int .i64 x2, .int .i64 x3, .int .i64 x4]), .con (.agg #[.int .i64 x0, .int .i64 x1, .int .i64 x2, .int .i64 x3, .int .i64 x4]), .con (.int .i64 lv), .con (.bool true), .con (.bool true), .con (.bool true)] 6 74 (.bool true) (by kernel_rfl) (by kernel_rfl) (mkS_keeps (by kernel_rfl)) rfl rfl rfl ?steps ?fin
    case steps =>
      refine ⟨fun A w9 hB h => step_move_old h (by kernel_rfl) 7 rfl (by kernel_rfl) (by rfl), ?_⟩
      refine ⟨fun A w9 hB h => step_move h (by kernel_rfl) _ rfl (by kernel_rfl), ?_⟩
      refine ⟨fun A w9 hB h => step_move_old h (by kernel_rfl) 12 rfl (by kernel_rfl) (by rfl), ?_⟩
      refine ⟨fun A w9 hB h => step_bin h (by kernel_rfl) _ _ _ _ _ (.int .i64 0) (.int .i64 0) rfl (by kernel_rfl) (by kernel_rfl) (fun W => by kernel_rfl) (fun W => by kernel_rfl), ?_⟩
      refine ⟨fun A w9 hB h => step_pick h (by kernel_rfl) _ _ _ true rfl (by kernel_rfl) (by kernel_rfl), ?_⟩
      refine ⟨fun A w9 hB h => step_move h (by kernel_rfl) _ rfl (by kernel_rfl), ?_⟩
      refine ⟨fun A w9 hB h => step_move_old h (by kernel_rfl) 14 rfl (by kernel_rfl) (by rfl), ?_⟩
      refine ⟨fun A w9 hB h => step_bin h (by kernel_rfl) _ _ _ _ _ (.int .i64 0) (.int .i64 0) rfl (by kernel_rfl) (by kernel_rfl) (fun W => by kernel_rfl) (fun W => by kernel_rfl), ?_⟩
      refine ⟨fun A w9 hB h => step_pick h (by kernel_rfl) _ _ _ true rfl (by kernel_rfl) (by kernel_rfl), ?_⟩
      refine ⟨fun A w9 hB h => step_move h (by kernel_rfl) _ rfl (by kernel_rfl), ?_⟩
      refine ⟨fun A w9 hB h => step_move_old h (by kernel_rfl) 16 rfl (by kernel_rfl) (by rfl), ?_⟩
      refine ⟨fun A w9 hB h => step_bin h (by kernel_rfl) _ _ _ _ _ (.int .i64 0) (.int .i64 0) rfl (by kernel_rfl) (by kernel_rfl) (fun W => by kernel_rfl) (fun W => by kernel_rfl), ?_⟩
      refine ⟨fun A w9 hB h => step_pick h (by kernel_rfl) _ _ _ true rfl (by kernel_rfl) (by kernel_rfl), ?_⟩
      refine ⟨fun A w9 hB h => step_move h (by kernel_rfl) _ rfl (by kernel_rfl), ?_⟩
      refine ⟨fun A w9 hB h => step_move_old h (by kernel_rfl) 18 rfl (by kernel_rfl) (by rfl), ?_⟩
      refine ⟨fun A w9 hB h => step_bin h (by kernel_rfl) _ _ _ _ _ (.int .i64 0) (.int .i64 0) rfl (by kernel_rfl) (by kernel_rfl) (fun W => by kernel_rfl) (fun W => by kernel_rfl), ?_⟩
      refine ⟨fun A w9 hB h => step_pick h (by kernel_rfl) _ _ _ true rfl (by kernel_rfl) (by kernel_rfl), ?_⟩
      refine ⟨fun A w9 hB h => step_move h (by kernel_rfl) _ rfl (by kernel_rfl), ?_⟩
      refine ⟨fun A w9 hB h => step_move_old h (by kernel_rfl) 20 rfl (by kernel_rfl) (by rfl), ?_⟩
      refine ⟨fun A w9 hB h => step_bin h (by kernel_rfl) _ _ _ _ _ (.int .i64 0) (.int .i64 0) rfl (by kernel_rfl) (by kernel_rfl) (fun W => by kernel_rfl) (fun W => by kernel_rfl), ?_⟩
      refine ⟨fun A w9 hB h => step_pick h (by kernel_rfl) _ _ _ true rfl (by kernel_rfl) (by kernel_rfl), ?_⟩
      refine ⟨fun A w9 hB h => step_move h (by kernel_rfl) _ rfl (by kernel_rfl), ?_⟩
      refine ⟨fun A w9 hB h => step_move_old h (by kernel_rfl) 17 rfl (by kernel_rfl) (by rfl), ?_⟩
      refine ⟨fun A w9 hB h => step_move_old h (by kernel_rfl) 11 rfl (by kernel_rfl) (by rfl), ?_⟩
      refine ⟨fun A w9 hB h => step_un h (by kernel_rfl) _ _ _ (.int .i64 1) rfl (by kernel_rfl) (by kernel_rfl), ?_⟩
      refine ⟨fun A w9 hB h => step_bin h (by kernel_rfl) _ _ _ _ _ (.int .i64 (-1)) (.int .i64 (-1)) rfl (by kernel_rfl) (by kernel_rfl) (fun W => by kernel_rfl) (fun W => by kernel_rfl), ?_⟩
      refine ⟨fun A w9 hB h => step_pick h (by kernel_rfl) _ _ _ true rfl (by kernel_rfl) (by kernel_rfl), ?_⟩
      refine ⟨fun A w9 hB h => step_move h (by kernel_rfl) _ rfl (by kernel_rfl), ?_⟩
      refine ⟨fun A w9 hB h => step_move_old h (by kernel_rfl) 11 rfl (by kernel_rfl) (by rfl), ?_⟩
      refine ⟨fun A w9 hB h => step_bin h (by kernel_rfl) _ _ _ _ _ (.int .i64 1) (.int .i64 0) rfl (by kernel_rfl) (by kernel_rfl) (fun W => by kernel_rfl) (fun W => by kernel_rfl), ?_⟩
      refine ⟨fun A w9 hB h => step_load h (by kernel_rfl) _ _ (.pointer (some ⟨w4.heap.size, 0, none⟩)) rfl (h.old 8 (by kernel_rfl) (by rfl)) (load5 (X8.out.below hB)), ?_⟩
      refine ⟨fun A w9 hB h => step_load h (by kernel_rfl) _ _ (.pointer (some ⟨w4.heap.size + 1, 0, none⟩)) rfl (h.old 9 (by kernel_rfl) (by rfl)) (load5 (Y8.out.below hB)), ?_⟩
      refine ⟨fun A w9 hB h => step_bin h (by kernel_rfl) _ _ _ _ _ (.agg #[.int .i64 x0, .int .i64 x1, .int .i64 x2, .int .i64 x3, .int .i64 x4]) (.agg #[.int .i64 y0, .int .i64 y1, .int .i64 y2, .int .i64 y3, .int .i64 y4]) rfl (by kernel_rfl) (by kernel_rfl) (fun W => guard_look _ _ _ _ _ W) (fun W => zq W), ?_⟩
      refine ⟨fun A w9 hB h => step_bin h (by kernel_rfl) _ _ _ _ _ (.bool false) (.bool false) rfl (by kernel_rfl) (by kernel_rfl) (fun W => by kernel_rfl) (fun W => by kernel_rfl), ?_⟩
      refine ⟨fun A w9 hB h => step_pick h (by kernel_rfl) _ _ _ true rfl (by kernel_rfl) (by kernel_rfl), ?_⟩
      refine ⟨fun A w9 hB h => step_move h (by kernel_rfl) _ rfl (by kernel_rfl), ?_⟩
      refine ⟨fun A w9 hB h => step_move_old h (by kernel_rfl) 11 rfl (by kernel_rfl) (by rfl), ?_⟩
      refine ⟨fun A w9 hB h => step_bin h (by kernel_rfl) _ _ _ _ _ (.int .i64 1) (.int .i64 0) rfl (by kernel_rfl) (by kernel_rfl) (fun W => by kernel_rfl) (fun W => by kernel_rfl), ?_⟩
      refine ⟨fun A w9 hB h => step_move h (by kernel_rfl) _ rfl (by kernel_rfl), ?_⟩
      refine ⟨fun A w9 hB h => kit.step_skip h (by kernel_rfl), ?_⟩
      refine ⟨fun A w9 hB h => kit.step_skip h (by kernel_rfl), ?_⟩
      refine ⟨fun A w9 hB h => step_pick h (by kernel_rfl) _ _ _ true rfl (by kernel_rfl) (by kernel_rfl), ?_⟩
      refine ⟨fun A w9 hB h => step_move h (by kernel_rfl) _ rfl (by kernel_rfl), ?_⟩
      refine ⟨fun A w9 hB h => kit.step_skip h (by kernel_rfl), ?_⟩
      refine ⟨fun A w9 hB h => kit.step_skip h (by kernel_rfl), ?_⟩
      refine ⟨fun A w9 hB h => step_pick h (by kernel_rfl) _ _ _ true rfl (by kernel_rfl) (by kernel_rfl), ?_⟩
      refine ⟨fun A w9 hB h => step_pick h (by kernel_rfl) _ _ _ true rfl (by kernel_rfl) (by kernel_rfl), ?_⟩
      refine ⟨fun A w9 hB h => step_move h (by kernel_rfl) _ rfl (by kernel_rfl), ?_⟩
      refine ⟨fun A w9 hB h => step_move_old h (by kernel_rfl) 11 rfl (by kernel_rfl) (by rfl), ?_⟩
      refine ⟨fun A w9 hB h => step_bin h (by kernel_rfl) _ _ _ _ _ (.int .i64 1) (.int .i64 0) rfl (by kernel_rfl) (by kernel_rfl) (fun W => by kernel_rfl) (fun W => by kernel_rfl), ?_⟩
      refine ⟨fun A w9 hB h => step_move h (by kernel_rfl) _ rfl (by kernel_rfl), ?_⟩
      refine ⟨fun A w9 hB h => kit.step_skip h (by kernel_rfl), ?_⟩
      refine ⟨fun A w9 hB h => kit.step_skip h (by kernel_rfl), ?_⟩
      refine ⟨fun A w9 hB h => step_pick h (by kernel_rfl) _ _ _ true rfl (by kernel_rfl) (by kernel_rfl), ?_⟩
      refine ⟨fun A w9 hB h => step_move h (by kernel_rfl) _ rfl (by kernel_rfl), ?_⟩
      refine ⟨fun A w9 hB h => kit.step_skip h (by kernel_rfl), ?_⟩
      refine ⟨fun A w9 hB h => kit.step_skip h (by kernel_rfl), ?_⟩
      refine ⟨fun A w9 hB h => step_pick h (by kernel_rfl) _ _ _ true rfl (by kernel_rfl) (by kernel_rfl), ?_⟩
      refine ⟨fun A w9 hB h => step_pick h (by kernel_rfl) _ _ _ true rfl (by kernel_rfl) (by kernel_rfl), ?_⟩
      refine ⟨fun A w9 hB h => step_move h (by kernel_rfl) _ rfl (by kernel_rfl), ?_⟩
      refine ⟨fun A w9 hB h => step_move_old h (by kernel_rfl) 19 rfl (by kernel_rfl) (by rfl), ?_⟩
      refine ⟨fun A w9 hB h => step_un h (by kernel_rfl) _ _ _ (.bool false) rfl (by kernel_rfl) (by kernel_rfl), ?_⟩
      refine ⟨fun A w9 hB h => step_move h (by kernel_rfl) _ rfl (by kernel_rfl), ?_⟩
      refine ⟨fun A w9 hB h => kit.step_skip h (by kernel_rfl), ?_⟩
      refine ⟨fun A w9 hB h => kit.step_skip h (by kernel_rfl), ?_⟩
      refine ⟨fun A w9 hB h => step_pick h (by kernel_rfl) _ _ _ true rfl (by kernel_rfl) (by kernel_rfl), ?_⟩
      refine ⟨fun A w9 hB h => step_pick h (by kernel_rfl) _ _ _ true rfl (by kernel_rfl) (by kernel_rfl), ?_⟩
      refine ⟨fun A w9 hB h => step_move h (by kernel_rfl) _ rfl (by kernel_rfl), ?_⟩
      refine ⟨fun A w9 hB h => step_call_con h (by kernel_rfl) _ _ [.slice none 0 0] rfl rfl (by kernel_rfl) (by kernel_rfl) (lof_any none 0 [] w9 (by simp) (Lib.hid (fun i hi => by simp at hi)) 0 0 0 0 0 0 (Lib.hid (by decide))), ?_⟩
      refine ⟨fun A w9 hB h => step_load h (by kernel_rfl) _ _ (.pointer (some ⟨w4.heap.size, 0, none⟩)) rfl (h.old 8 (by kernel_rfl) (by rfl)) (load5 (X8.out.below hB)), ?_⟩
      refine ⟨fun A w9 hB h => step_load h (by kernel_rfl) _ _ (.pointer (some ⟨w4.heap.size, 0, none⟩)) rfl (h.old 8 (by kernel_rfl) (by rfl)) (load5 (X8.out.below hB)), ?_⟩
      refine ⟨fun A w9 hB h => step_call_con h (by kernel_rfl) _ _ [.agg #[.int .i64 x0, .int .i64 x1, .int .i64 x2, .int .i64 x3, .int .i64 x4]] rfl rfl (by kernel_rfl) (by kernel_rfl) (lleast_any x0 x1 x2 x3 x4 w9 lv HLV.out), ?_⟩
      refine ⟨fun A w9 hB h => step_call_con h (by kernel_rfl) _ _ [.agg #[.int .i64 0, .int .i64 0, .int .i64 0, .int .i64 0, .int .i64 0], .agg #[.int .i64 x0, .int .i64 x1, .int .i64 x2, .int .i64 x3, .int .i64 x4], .int .i64 lv] rfl rfl (by kernel_rfl) (by kernel_rfl) ((lcompares_any 0 0 0 0 0 x0 x1 x2 x3 x4 w9 lv lv 0 rfl HL0).mono (fun e w8 q => by simpa using q)), ?_⟩
      refine ⟨fun A w9 hB h => step_pick h (by kernel_rfl) _ _ _ true rfl (by kernel_rfl) (by kernel_rfl), ?_⟩
      refine ⟨fun A w9 hB h => step_assign h (by kernel_rfl) _ rfl (by kernel_rfl), ?_⟩
      exact trivial
    case fin =>
      intro B w8 hB hsz hdf hold
      clear hold
      have B8 := Lib.hid (below_on B9.out (Nat.le_refl _) hB)
      have hs : B.tmps.size = 132 := hsz.trans (by rfl)
      clear hB hsz
      rename_i K hK
      refine hK _ _ ?_
      clear hK
      go_wp2
      exact bodyPost_ret (v := .bool true) (by simp [results, Tryd.results7, go_sem, hs]) rfl ⟨rfl, B8.out⟩
  · clear OC
    refine wp_region_last [.con (.bool true), .con (.bool true), .con (.int .i64 0), .con (.bool true), .con (.bool true), .con (.bool true), .con (.int .i64 0), .con (.bool true), .con (.bool true), .con (.bool true), .con (.int .i64 0), .con (.bool true), .con (.bool true), .con (.bool true), .con (.int .i64 0), .con (.bool true), .con (.bool true), .con (.bool true), .con (.int .i64 0), .con (.bool true), .con (.bool true), .con (.bool true), .con (.int .i64 (-1)), .con (.int .i64 1), .con (.int .i64 (-1)), .con (.bool true), .con (.bool true), .con (.bool true), .con (.int .i64 1), .con (.bool false), .con (.agg #[.int .i64 x0, .int .i64 x1, .int .i64 x2, .int .i64 x3, .int .i64 x4]), .con (.agg #[.int .i64 y0, .int .i64 y1, .int .i64 y2, .int .i64 y3, .int .i64 y4]), .con (.bool false), .con (.bool true), .con (.bool true), .con (.bool true), .con (.int .i64 1), .con (.bool true), .con (.bool true), .con (undef), .con (undef), .con (.bool true), .con (.bool true), .con (undef), .con (undef), .con (.bool true), .con (.bool true), .con (.bool true), .con (.int .i64 1), .con (.bool true), .con (.bool true), .con (undef), .con (undef), .con (.bool true), .con (.bool true), .con (undef), .con (undef), .con (.bool true), .con (.bool true), .con (.bool true), .con (.bool false), .con (.bool true), .con (.bool true), .con (undef), .con (undef), .con (.bool true), .con (.bool true), .con (.bool true), .con (.agg #[.int .i64 0, .int .i64 0, .int .i64 0, .int .i64 0, .int .i64 0]), .con (.agg #[.int .i64 x0, .int .i64 x1, .int .i64 x2, .int .i64 x3, .int .i64 x4]), .con (.agg #[.int .i64 x0, .int .i64 x1, .int .i64 x2, .int .i64 x3, .int .i64 x4]), .con (.int .i64 lv), .con (.bool true), .con (.bool true), .con (.bool true)] 6 74 (.bool true) (by kernel_rfl) (by kernel_rfl) (mkS_keeps (by kernel_rfl)) rfl rfl rfl ?steps ?fin
    case steps =>
      refine ⟨fun A w9 hB h => step_move_old h (by kernel_rfl) 7 rfl (by kernel_rfl) (by rfl), ?_⟩
      refine ⟨fun A w9 hB h => step_move h (by kernel_rfl) _ rfl (by kernel_rfl), ?_⟩
      refine ⟨fun A w9 hB h => step_move_old h (by kernel_rfl) 12 rfl (by kernel_rfl) (by rfl), ?_⟩
      refine ⟨fun A w9 hB h => step_bin h (by kernel_rfl) _ _ _ _ _ (.int .i64 0) (.int .i64 0) rfl (by kernel_rfl) (by kernel_rfl) (fun W => by kernel_rfl) (fun W => by kernel_rfl), ?_⟩
      refine ⟨fun A w9 hB h => step_pick h (by kernel_rfl) _ _ _ true rfl (by kernel_rfl) (by kernel_rfl), ?_⟩
      refine ⟨fun A w9 hB h => step_move h (by kernel_rfl) _ rfl (by kernel_rfl), ?_⟩
      refine ⟨fun A w9 hB h => step_move_old h (by kernel_rfl) 14 rfl (by kernel_rfl) (by rfl), ?_⟩
      refine ⟨fun A w9 hB h => step_bin h (by kernel_rfl) _ _ _ _ _ (.int .i64 0) (.int .i64 0) rfl (by kernel_rfl) (by kernel_rfl) (fun W => by kernel_rfl) (fun W => by kernel_rfl), ?_⟩
      refine ⟨fun A w9 hB h => step_pick h (by kernel_rfl) _ _ _ true rfl (by kernel_rfl) (by kernel_rfl), ?_⟩
      refine ⟨fun A w9 hB h => step_move h (by kernel_rfl) _ rfl (by kernel_rfl), ?_⟩
      refine ⟨fun A w9 hB h => step_move_old h (by kernel_rfl) 16 rfl (by kernel_rfl) (by rfl), ?_⟩
      refine ⟨fun A w9 hB h => step_bin h (by kernel_rfl) _ _ _ _ _ (.int .i64 0) (.int .i64 0) rfl (by kernel_rfl) (by kernel_rfl) (fun W => by kernel_rfl) (fun W => by kernel_rfl), ?_⟩
      refine ⟨fun A w9 hB h => step_pick h (by kernel_rfl) _ _ _ true rfl (by kernel_rfl) (by kernel_rfl), ?_⟩
      refine ⟨fun A w9 hB h => step_move h (by kernel_rfl) _ rfl (by kernel_rfl), ?_⟩
      refine ⟨fun A w9 hB h => step_move_old h (by kernel_rfl) 18 rfl (by kernel_rfl) (by rfl), ?_⟩
      refine ⟨fun A w9 hB h => step_bin h (by kernel_rfl) _ _ _ _ _ (.int .i64 0) (.int .i64 0) rfl (by kernel_rfl) (by kernel_rfl) (fun W => by kernel_rfl) (fun W => by kernel_rfl), ?_⟩
      refine ⟨fun A w9 hB h => step_pick h (by kernel_rfl) _ _ _ true rfl (by kernel_rfl) (by kernel_rfl), ?_⟩
      refine ⟨fun A w9 hB h => step_move h (by kernel_rfl) _ rfl (by kernel_rfl), ?_⟩
      refine ⟨fun A w9 hB h => step_move_old h (by kernel_rfl) 20 rfl (by kernel_rfl) (by rfl), ?_⟩
      refine ⟨fun A w9 hB h => step_bin h (by kernel_rfl) _ _ _ _ _ (.int .i64 0) (.int .i64 0) rfl (by kernel_rfl) (by kernel_rfl) (fun W => by kernel_rfl) (fun W => by kernel_rfl), ?_⟩
      refine ⟨fun A w9 hB h => step_pick h (by kernel_rfl) _ _ _ true rfl (by kernel_rfl) (by kernel_rfl), ?_⟩
      refine ⟨fun A w9 hB h => step_move h (by kernel_rfl) _ rfl (by kernel_rfl), ?_⟩
      refine ⟨fun A w9 hB h => step_move_old h (by kernel_rfl) 17 rfl (by kernel_rfl) (by rfl), ?_⟩
      refine ⟨fun A w9 hB h => step_move_old h (by kernel_rfl) 11 rfl (by kernel_rfl) (by rfl), ?_⟩
      refine ⟨fun A w9 hB h => step_un h (by kernel_rfl) _ _ _ (.int .i64 1) rfl (by kernel_rfl) (by kernel_rfl), ?_⟩
      refine ⟨fun A w9 hB h => step_bin h (by kernel_rfl) _ _ _ _ _ (.int .i64 (-1)) (.int .i64 (-1)) rfl (by kernel_rfl) (by kernel_rfl) (fun W => by kernel_rfl) (fun W => by kernel_rfl), ?_⟩
      refine ⟨fun A w9 hB h => step_pick h (by kernel_rfl) _ _ _ true rfl (by kernel_rfl) (by kernel_rfl), ?_⟩
      refine ⟨fun A w9 hB h => step_move h (by kernel_rfl) _ rfl (by kernel_rfl), ?_⟩
      refine ⟨fun A w9 hB h => step_move_old h (by kernel_rfl) 11 rfl (by kernel_rfl) (by rfl), ?_⟩
      refine ⟨fun A w9 hB h => step_bin h (by kernel_rfl) _ _ _ _ _ (.int .i64 1) (.int .i64 0) rfl (by kernel_rfl) (by kernel_rfl) (fun W => by kernel_rfl) (fun W => by kernel_rfl), ?_⟩
      refine ⟨fun A w9 hB h => step_load h (by kernel_rfl) _ _ (.pointer (some ⟨w4.heap.size, 0, none⟩)) rfl (h.old 8 (by kernel_rfl) (by rfl)) (load5 (X8.out.below hB)), ?_⟩
      refine ⟨fun A w9 hB h => step_load h (by kernel_rfl) _ _ (.pointer (some ⟨w4.heap.size + 1, 0, none⟩)) rfl (h.old 9 (by kernel_rfl) (by rfl)) (load5 (Y8.out.below hB)), ?_⟩
      refine ⟨fun A w9 hB h => step_bin h (by kernel_rfl) _ _ _ _ _ (.agg #[.int .i64 x0, .int .i64 x1, .int .i64 x2, .int .i64 x3, .int .i64 x4]) (.agg #[.int .i64 y0, .int .i64 y1, .int .i64 y2, .int .i64 y3, .int .i64 y4]) rfl (by kernel_rfl) (by kernel_rfl) (fun W => guard_look _ _ _ _ _ W) (fun W => zq W), ?_⟩
      refine ⟨fun A w9 hB h => step_bin h (by kernel_rfl) _ _ _ _ _ (.bool false) (.bool false) rfl (by kernel_rfl) (by kernel_rfl) (fun W => by kernel_rfl) (fun W => by kernel_rfl), ?_⟩
      refine ⟨fun A w9 hB h => step_pick h (by kernel_rfl) _ _ _ true rfl (by kernel_rfl) (by kernel_rfl), ?_⟩
      refine ⟨fun A w9 hB h => step_move h (by kernel_rfl) _ rfl (by kernel_rfl), ?_⟩
      refine ⟨fun A w9 hB h => step_move_old h (by kernel_rfl) 11 rfl (by kernel_rfl) (by rfl), ?_⟩
      refine ⟨fun A w9 hB h => step_bin h (by kernel_rfl) _ _ _ _ _ (.int .i64 1) (.int .i64 0) rfl (by kernel_rfl) (by kernel_rfl) (fun W => by kernel_rfl) (fun W => by kernel_rfl), ?_⟩
      refine ⟨fun A w9 hB h => step_move h (by kernel_rfl) _ rfl (by kernel_rfl), ?_⟩
      refine ⟨fun A w9 hB h => kit.step_skip h (by kernel_rfl), ?_⟩
      refine ⟨fun A w9 hB h => kit.step_skip h (by kernel_rfl), ?_⟩
      refine ⟨fun A w9 hB h => step_pick h (by kernel_rfl) _ _ _ true rfl (by kernel_rfl) (by kernel_rfl), ?_⟩
      refine ⟨fun A w9 hB h => step_move h (by kernel_rfl) _ rfl (by kernel_rfl), ?_⟩
      refine ⟨fun A w9 hB h => kit.step_skip h (by kernel_rfl), ?_⟩
      refine ⟨fun A w9 hB h => kit.step_skip h (by kernel_rfl), ?_⟩
      refine ⟨fun A w9 hB h => step_pick h (by kernel_rfl) _ _ _ true rfl (by kernel_rfl) (by kernel_rfl), ?_⟩
      refine ⟨fun A w9 hB h => step_pick h (by kernel_rfl) _ _ _ true rfl (by kernel_rfl) (by kernel_rfl), ?_⟩
      refine ⟨fun A w9 hB h => step_move h (by kernel_rfl) _ rfl (by kernel_rfl), ?_⟩
      refine ⟨fun A w9 hB h => step_move_old h (by kernel_rfl) 11 rfl (by kernel_rfl) (by rfl), ?_⟩
      refine ⟨fun A w9 hB h => step_bin h (by kernel_rfl) _ _ _ _ _ (.int .i64 1) (.int .i64 0) rfl (by kernel_rfl) (by kernel_rfl) (fun W => by kernel_rfl) (fun W => by kernel_rfl), ?_⟩
      refine ⟨fun A w9 hB h => step_move h (by kernel_rfl) _ rfl (by kernel_rfl), ?_⟩
      refine ⟨fun A w9 hB h => kit.step_skip h (by kernel_rfl), ?_⟩
      refine ⟨fun A w9 hB h => kit.step_skip h (by kernel_rfl), ?_⟩
      refine ⟨fun A w9 hB h => step_pick h (by kernel_rfl) _ _ _ true rfl (by kernel_rfl) (by kernel_rfl), ?_⟩
      refine ⟨fun A w9 hB h => step_move h (by kernel_rfl) _ rfl (by kernel_rfl), ?_⟩
      refine ⟨fun A w9 hB h => kit.step_skip h (by kernel_rfl), ?_⟩
      refine ⟨fun A w9 hB h => kit.step_skip h (by kernel_rfl), ?_⟩
      refine ⟨fun A w9 hB h => step_pick h (by kernel_rfl) _ _ _ true rfl (by kernel_rfl) (by kernel_rfl), ?_⟩
      refine ⟨fun A w9 hB h => step_pick h (by kernel_rfl) _ _ _ true rfl (by kernel_rfl) (by kernel_rfl), ?_⟩
      refine ⟨fun A w9 hB h => step_move h (by kernel_rfl) _ rfl (by kernel_rfl), ?_⟩
      refine ⟨fun A w9 hB h => step_move_old h (by kernel_rfl) 19 rfl (by kernel_rfl) (by rfl), ?_⟩
      refine ⟨fun A w9 hB h => step_un h (by kernel_rfl) _ _ _ (.bool false) rfl (by kernel_rfl) (by kernel_rfl), ?_⟩
      refine ⟨fun A w9 hB h => step_move h (by kernel_rfl) _ rfl (by kernel_rfl), ?_⟩
      refine ⟨fun A w9 hB h => kit.step_skip h (by kernel_rfl), ?_⟩
      refine ⟨fun A w9 hB h => kit.step_skip h (by kernel_rfl), ?_⟩
      refine ⟨fun A w9 hB h => step_pick h (by kernel_rfl) _ _ _ true rfl (by kernel_rfl) (by kernel_rfl), ?_⟩
      refine ⟨fun A w9 hB h => step_pick h (by kernel_rfl) _ _ _ true rfl (by kernel_rfl) (by kernel_rfl), ?_⟩
      refine ⟨fun A w9 hB h => step_move h (by kernel_rfl) _ rfl (by kernel_rfl), ?_⟩
      refine ⟨fun A w9 hB h => step_call_con h (by kernel_rfl) _ _ [.slice none 0 0] rfl rfl (by kernel_rfl) (by kernel_rfl) (lof_any none 0 [] w9 (by simp) (Lib.hid (fun i hi => by simp at hi)) 0 0 0 0 0 0 (Lib.hid (by decide))), ?_⟩
      refine ⟨fun A w9 hB h => step_load h (by kernel_rfl) _ _ (.pointer (some ⟨w4.heap.size, 0, none⟩)) rfl (h.old 8 (by kernel_rfl) (by rfl)) (load5 (X8.out.below hB)), ?_⟩
      refine ⟨fun A w9 hB h => step_load h (by kernel_rfl) _ _ (.pointer (some ⟨w4.heap.size, 0, none⟩)) rfl (h.old 8 (by kernel_rfl) (by rfl)) (load5 (X8.out.below hB)), ?_⟩
      refine ⟨fun A w9 hB h => step_call_con h (by kernel_rfl) _ _ [.agg #[.int .i64 x0, .int .i64 x1, .int .i64 x2, .int .i64 x3, .int .i64 x4]] rfl rfl (by kernel_rfl) (by kernel_rfl) (lleast_any x0 x1 x2 x3 x4 w9 lv HLV.out), ?_⟩
      refine ⟨fun A w9 hB h => step_call_con h (by kernel_rfl) _ _ [.agg #[.int .i64 0, .int .i64 0, .int .i64 0, .int .i64 0, .int .i64 0], .agg #[.int .i64 x0, .int .i64 x1, .int .i64 x2, .int .i64 x3, .int .i64 x4], .int .i64 lv] rfl rfl (by kernel_rfl) (by kernel_rfl) ((lcompares_any 0 0 0 0 0 x0 x1 x2 x3 x4 w9 lv lv 0 rfl HL0).mono (fun e w8 q => by simpa using q)), ?_⟩
      refine ⟨fun A w9 hB h => step_pick h (by kernel_rfl) _ _ _ true rfl (by kernel_rfl) (by kernel_rfl), ?_⟩
      refine ⟨fun A w9 hB h => step_assign h (by kernel_rfl) _ rfl (by kernel_rfl), ?_⟩
      exact trivial
    case fin =>
      intro B w8 hB hsz hdf hold
      clear hold
      have B8 := Lib.hid (below_on B9.out (Nat.le_refl _) hB)
      have hs : B.tmps.size = 132 := hsz.trans (by rfl)
      clear hB hsz
      rename_i K hK
      refine hK _ _ ?_
      clear hK
      go_wp2
      exact bodyPost_ret (v := .bool true) (by simp [results, Tryd.results7, go_sem, hs]) rfl ⟨rfl, B8.out⟩
  · clear OC
    refine wp_region_last [.con (.bool true), .con (.bool true), .con (.int .i64 0), .con (.bool true), .con (.bool true), .con (.bool true), .con (.int .i64 0), .con (.bool true), .con (.bool true), .con (.bool true), .con (.int .i64 0), .con (.bool true), .con (.bool true), .con (.bool true), .con (.int .i64 0), .con (.bool true), .con (.bool true), .con (.bool true), .con (.int .i64 0), .con (.bool true), .con (.bool true), .con (.bool true), .con (.int .i64 (-1)), .con (.int .i64 1), .con (.int .i64 (-1)), .con (.bool true), .con (.bool true), .con (.bool true), .con (.int .i64 1), .con (.bool false), .con (.agg #[.int .i64 x0, .int .i64 x1, .int .i64 x2, .int .i64 x3, .int .i64 x4]), .con (.agg #[.int .i64 y0, .int .i64 y1, .int .i64 y2, .int .i64 y3, .int .i64 y4]), .con (.bool false), .con (.bool true), .con (.bool true), .con (.bool true), .con (.int .i64 1), .con (.bool true), .con (.bool true), .con (undef), .con (undef), .con (.bool true), .con (.bool true), .con (undef), .con (undef), .con (.bool true), .con (.bool true), .con (.bool true), .con (.int .i64 1), .con (.bool true), .con (.bool true), .con (undef), .con (undef), .con (.bool true), .con (.bool true), .con (undef), .con (undef), .con (.bool true), .con (.bool true), .con (.bool true), .con (.bool false), .con (.bool true), .con (.bool true), .con (undef), .con (undef), .con (.bool true), .con (.bool true), .con (.bool true), .con (.agg #[.int .i64 0, .int .i64 0, .int .i64 0, .int .i64 0, .int .i64 0]), .con (.agg #[.int .i64 x0, .int .i64 x1, .int .i64 x2, .int .i64 x3, .int .i64 x4]), .con (.agg #[.int .i64 x0, .int .i64 x1, .int .i64 x2, .int .i64 x3, .int .i64 x4]), .con (.int .i64 lv), .con (.bool true), .con (.bool true), .con (.bool true)] 6 74 (.bool true) (by kernel_rfl) (by kernel_rfl) (mkS_keeps (by kernel_rfl)) rfl rfl rfl ?steps ?fin
    case steps =>
      refine ⟨fun A w9 hB h => step_move_old h (by kernel_rfl) 7 rfl (by kernel_rfl) (by rfl), ?_⟩
      refine ⟨fun A w9 hB h => step_move h (by kernel_rfl) _ rfl (by kernel_rfl), ?_⟩
      refine ⟨fun A w9 hB h => step_move_old h (by kernel_rfl) 12 rfl (by kernel_rfl) (by rfl), ?_⟩
      refine ⟨fun A w9 hB h => step_bin h (by kernel_rfl) _ _ _ _ _ (.int .i64 0) (.int .i64 0) rfl (by kernel_rfl) (by kernel_rfl) (fun W => by kernel_rfl) (fun W => by kernel_rfl), ?_⟩
      refine ⟨fun A w9 hB h => step_pick h (by kernel_rfl) _ _ _ true rfl (by kernel_rfl) (by kernel_rfl), ?_⟩
      refine ⟨fun A w9 hB h => step_move h (by kernel_rfl) _ rfl (by kernel_rfl), ?_⟩
      refine ⟨fun A w9 hB h => step_move_old h (by kernel_rfl) 14 rfl (by kernel_rfl) (by rfl), ?_⟩
      refine ⟨fun A w9 hB h => step_bin h (by kernel_rfl) _ _ _ _ _ (.int .i64 0) (.int .i64 0) rfl (by kernel_rfl) (by kernel_rfl) (fun W => by kernel_rfl) (fun W => by kernel_rfl), ?_⟩
      refine ⟨fun A w9 hB h => step_pick h (by kernel_rfl) _ _ _ true rfl (by kernel_rfl) (by kernel_rfl), ?_⟩
      refine ⟨fun A w9 hB h => step_move h (by kernel_rfl) _ rfl (by kernel_rfl), ?_⟩
      refine ⟨fun A w9 hB h => step_move_old h (by kernel_rfl) 16 rfl (by kernel_rfl) (by rfl), ?_⟩
      refine ⟨fun A w9 hB h => step_bin h (by kernel_rfl) _ _ _ _ _ (.int .i64 0) (.int .i64 0) rfl (by kernel_rfl) (by kernel_rfl) (fun W => by kernel_rfl) (fun W => by kernel_rfl), ?_⟩
      refine ⟨fun A w9 hB h => step_pick h (by kernel_rfl) _ _ _ true rfl (by kernel_rfl) (by kernel_rfl), ?_⟩
      refine ⟨fun A w9 hB h => step_move h (by kernel_rfl) _ rfl (by kernel_rfl), ?_⟩
      refine ⟨fun A w9 hB h => step_move_old h (by kernel_rfl) 18 rfl (by kernel_rfl) (by rfl), ?_⟩
      refine ⟨fun A w9 hB h => step_bin h (by kernel_rfl) _ _ _ _ _ (.int .i64 0) (.int .i64 0) rfl (by kernel_rfl) (by kernel_rfl) (fun W => by kernel_rfl) (fun W => by kernel_rfl), ?_⟩
      refine ⟨fun A w9 hB h => step_pick h (by kernel_rfl) _ _ _ true rfl (by kernel_rfl) (by kernel_rfl), ?_⟩
      refine ⟨fun A w9 hB h => step_move h (by kernel_rfl) _ rfl (by kernel_rfl), ?_⟩
      refine ⟨fun A w9 hB h => step_move_old h (by kernel_rfl) 20 rfl (by kernel_rfl) (by rfl), ?_⟩
      refine ⟨fun A w9 hB h => step_bin h (by kernel_rfl) _ _ _ _ _ (.int .i64 0) (.int .i64 0) rfl (by kernel_rfl) (by kernel_rfl) (fun W => by kernel_rfl) (fun W => by kernel_rfl), ?_⟩
      refine ⟨fun A w9 hB h => step_pick h (by kernel_rfl) _ _ _ true rfl (by kernel_rfl) (by kernel_rfl), ?_⟩
      refine ⟨fun A w9 hB h => step_move h (by kernel_rfl) _ rfl (by kernel_rfl), ?_⟩
      refine ⟨fun A w9 hB h => step_move_old h (by kernel_rfl) 17 rfl (by kernel_rfl) (by rfl), ?_⟩
      refine ⟨fun A w9 hB h => step_move_old h (by kernel_rfl) 11 rfl (by kernel_rfl) (by rfl), ?_⟩
      refine ⟨fun A w9 hB h => step_un h (by kernel_rfl) _ _ _ (.int .i64 1) rfl (by kernel_rfl) (by kernel_rfl), ?_⟩
      refine ⟨fun A w9 hB h => step_bin h (by kernel_rfl) _ _ _ _ _ (.int .i64 (-1)) (.int .i64 (-1)) rfl (by kernel_rfl) (by kernel_rfl) (fun W => by kernel_rfl) (fun W => by kernel_rfl), ?_⟩
      refine ⟨fun A w9 hB h => step_pick h (by kernel_rfl) _ _ _ true rfl (by kernel_rfl) (by kernel_rfl), ?_⟩
      refine ⟨fun A w9 hB h => step_move h (by kernel_rfl) _ rfl (by kernel_rfl), ?_⟩
      refine ⟨fun A w9 hB h => step_move_old h (by kernel_rfl) 11 rfl (by kernel_rfl) (by rfl), ?_⟩
      refine ⟨fun A w9 hB h => step_bin h (by kernel_rfl) _ _ _ _ _ (.int .i64 1) (.int .i64 0) rfl (by kernel_rfl) (by kernel_rfl) (fun W => by kernel_rfl) (fun W => by kernel_rfl), ?_⟩
      refine ⟨fun A w9 hB h => step_load h (by kernel_rfl) _ _ (.pointer (some ⟨w4.heap.size, 0, none⟩)) rfl (h.old 8 (by kernel_rfl) (by rfl)) (load5 (X8.out.below hB)), ?_⟩
      refine ⟨fun A w9 hB h => step_load h (by kernel_rfl) _ _ (.pointer (some ⟨w4.heap.size + 1, 0, none⟩)) rfl (h.old 9 (by kernel_rfl) (by rfl)) (load5 (Y8.out.below hB)), ?_⟩
      refine ⟨fun A w9 hB h => step_bin h (by kernel_rfl) _ _ _ _ _ (.agg #[.int .i64 x0, .int .i64 x1, .int .i64 x2, .int .i64 x3, .int .i64 x4]) (.agg #[.int .i64 y0, .int .i64 y1, .int .i64 y2, .int .i64 y3, .int .i64 y4]) rfl (by kernel_rfl) (by kernel_rfl) (fun W => guard_look _ _ _ _ _ W) (fun W => zq W), ?_⟩
      refine ⟨fun A w9 hB h => step_bin h (by kernel_rfl) _ _ _ _ _ (.bool false) (.bool false) rfl (by kernel_rfl) (by kernel_rfl) (fun W => by kernel_rfl) (fun W => by kernel_rfl), ?_⟩
      refine ⟨fun A w9 hB h => step_pick h (by kernel_rfl) _ _ _ true rfl (by kernel_rfl) (by kernel_rfl), ?_⟩
      refine ⟨fun A w9 hB h => step_move h (by kernel_rfl) _ rfl (by kernel_rfl), ?_⟩
      refine ⟨fun A w9 hB h => step_move_old h (by kernel_rfl) 11 rfl (by kernel_rfl) (by rfl), ?_⟩
      refine ⟨fun A w9 hB h => step_bin h (by kernel_rfl) _ _ _ _ _ (.int .i64 1) (.int .i64 0) rfl (by kernel_rfl) (by kernel_rfl) (fun W => by kernel_rfl) (fun W => by kernel_rfl), ?_⟩
      refine ⟨fun A w9 hB h => step_move h (by kernel_rfl) _ rfl (by kernel_rfl), ?_⟩
      refine ⟨fun A w9 hB h => kit.step_skip h (by kernel_rfl), ?_⟩
      refine ⟨fun A w9 hB h => kit.step_skip h (by kernel_rfl), ?_⟩
      refine ⟨fun A w9 hB h => step_pick h (by kernel_rfl) _ _ _ true rfl (by kernel_rfl) (by kernel_rfl), ?_⟩
      refine ⟨fun A w9 hB h => step_move h (by kernel_rfl) _ rfl (by kernel_rfl), ?_⟩
      refine ⟨fun A w9 hB h => kit.step_skip h (by kernel_rfl), ?_⟩
      refine ⟨fun A w9 hB h => kit.step_skip h (by kernel_rfl), ?_⟩
      refine ⟨fun A w9 hB h => step_pick h (by kernel_rfl) _ _ _ true rfl (by kernel_rfl) (by kernel_rfl), ?_⟩
      refine ⟨fun A w9 hB h => step_pick h (by kernel_rfl) _ _ _ true rfl (by kernel_rfl) (by kernel_rfl), ?_⟩
      refine ⟨fun A w9 hB h => step_move h (by kernel_rfl) _ rfl (by kernel_rfl), ?_⟩
      refine ⟨fun A w9 hB h => step_move_old h (by kernel_rfl) 11 rfl (by kernel_rfl) (by rfl), ?_⟩
      refine ⟨fun A w9 hB h => step_bin h (by kernel_rfl) _ _ _ _ _ (.int .i64 1) (.int .i64 0) rfl (by kernel_rfl) (by kernel_rfl) (fun W => by kernel_rfl) (fun W => by kernel_rfl), ?_⟩
      refine ⟨fun A w9 hB h => step_move h (by kernel_rfl) _ rfl (by kernel_rfl), ?_⟩
      refine ⟨fun A w9 hB h => kit.step_skip h (by kernel_rfl), ?_⟩
      refine ⟨fun A w9 hB h => kit.step_skip h (by kernel_rfl), ?_⟩
      refine ⟨fun A w9 hB h => step_pick h (by kernel_rfl) _ _ _ true rfl (by kernel_rfl) (by kernel_rfl), ?_⟩
      refine ⟨fun A w9 hB h => step_move h (by kernel_rfl) _ rfl (by kernel_rfl), ?_⟩
      refine ⟨fun A w9 hB h => kit.step_skip h (by kernel_rfl), ?_⟩
      refine ⟨fun A w9 hB h => kit.step_skip h (by kernel_rfl), ?_⟩
      refine ⟨fun A w9 hB h => step_pick h (by kernel_rfl) _ _ _ true rfl (by kernel_rfl) (by kernel_rfl), ?_⟩
      refine ⟨fun A w9 hB h => step_pick h (by kernel_rfl) _ _ _ true rfl (by kernel_rfl) (by kernel_rfl), ?_⟩
      refine ⟨fun A w9 hB h => step_move h (by kernel_rfl) _ rfl (by kernel_rfl), ?_⟩
      refine ⟨fun A w9 hB h => step_move_old h (by kernel_rfl) 19 rfl (by kernel_rfl) (by rfl), ?_⟩
      refine ⟨fun A w9 hB h => step_un h (by kernel_rfl) _ _ _ (.bool false) rfl (by kernel_rfl) (by kernel_rfl), ?_⟩
      refine ⟨fun A w9 hB h => step_move h (by kernel_rfl) _ rfl (by kernel_rfl), ?_⟩
      refine ⟨fun A w9 hB h => kit.step_skip h (by kernel_rfl), ?_⟩
      refine ⟨fun A w9 hB h => kit.step_skip h (by kernel_rfl), ?_⟩
      refine ⟨fun A w9 hB h => step_pick h (by kernel_rfl) _ _ _ true rfl (by kernel_rfl) (by kernel_rfl), ?_⟩
      refine ⟨fun A w9 hB h => step_pick h (by kernel_rfl) _ _ _ true rfl (by kernel_rfl) (by kernel_rfl), ?_⟩
      refine ⟨fun A w9 hB h => step_move h (by kernel_rfl) _ rfl (by kernel_rfl), ?_⟩
      refine ⟨fun A w9 hB h => step_call_con h (by kernel_rfl) _ _ [.slice none 0 0] rfl rfl (by kernel_rfl) (by kernel_rfl) (lof_any none 0 [] w9 (by simp) (Lib.hid (fun i hi => by simp at hi)) 0 0 0 0 0 0 (Lib.hid (by decide))), ?_⟩
      refine ⟨fun A w9 hB h => step_load h (by kernel_rfl) _ _ (.pointer (some ⟨w4.heap.size, 0, none⟩)) rfl (h.old 8 (by kernel_rfl) (by rfl)) (load5 (X8.out.below hB)), ?_⟩
      refine ⟨fun A w9 hB h => step_load h (by kernel_rfl) _ _ (.pointer (some ⟨w4.heap.size, 0, none⟩)) rfl (h.old 8 (by kernel_rfl) (by rfl)) (load5 (X8.out.below hB)), ?_⟩
      refine ⟨fun A w9 hB h => step_call_con h (by kernel_rfl) _ _ [.agg #[.int .i64 x0, .int .i64 x1, .int .i64 x2, .int .i64 x3, .int .i64 x4]] rfl rfl (by kernel_rfl) (by kernel_rfl) (lleast_any x0 x1 x2 x3 x4 w9 lv HLV.out), ?_⟩
      refine ⟨fun A w9 hB h => step_call_con h (by kernel_rfl) _ _ [.agg #[.int .i64 0, .int .i64 0, .int .i64 0, .int .i64 0, .int .i64 0], .agg #[.int .i64 x0, .int .i64 x1, .int .i64 x2, .int .i64 x3, .int .i64 x4], .int .i64 lv] rfl rfl (by kernel_rfl) (by kernel_rfl) ((lcompares_any 0 0 0 0 0 x0 x1 x2 x3 x4 w9 lv lv 0 rfl HL0).mono (fun e w8 q => by simpa using q)), ?_⟩
      refine ⟨fun A w9 hB h => step_pick h (by kernel_rfl) _ _ _ true rfl (by kernel_rfl) (by kernel_rfl), ?_⟩
      refine ⟨fun A w9 hB h => step_assign h (by kernel_rfl) _ rfl (by kernel_rfl), ?_⟩
      exact trivial
    case fin =>
      intro B w8 hB hsz hdf hold
      clear hold
      have B8 := Lib.hid (below_on B9.out (Nat.le_refl _) hB)
      have hs : B.tmps.size = 132 := hsz.trans (by rfl)
      clear hB hsz
      rename_i K hK
      refine hK _ _ ?_
      clear hK
      go_wp2
      exact bodyPost_ret (v := .bool true) (by simp [results, Tryd.results7, go_sem, hs]) rfl ⟨rfl, B8.out⟩
  · clear OC
    refine wp_region_last [.con (.bool true), .con (.bool true), .con (.int .i64 0), .con (.bool true), .con (.bool true), .con (.bool true), .con (.int .i64 0), .con (.bool true), .con (.bool true), .con (.bool true), .con (.int .i64 0), .con (.bool true), .con (.bool true), .con (.bool true), .con (.int .i64 0), .con (.bool true), .con (.bool true), .con (.bool true), .con (.int .i64 0), .con (.bool true), .con (.bool true), .con (.bool true), .con (.int .i64 (-1)), .con (.int .i64 1), .con (.int .i64 (-1)), .con (.bool true), .con (.bool true), .con (.bool true), .con (.int .i64 1), .con (.bool false), .con (.agg #[.int .i64 x0, .int .i64 x1, .int .i64 x2, .int .i64 x3, .int .i64 x4]), .con (.agg #[.int .i64 y0, .int .i64 y1, .int .i64 y2, .int .i64 y3, .int .i64 y4]), .con (.bool false), .con (.bool true), .con (.bool true), .con (.bool true), .con (.int .i64 1), .con (.bool true), .con (.bool true), .con (undef), .con (undef), .con (.bool true), .con (.bool true), .con (undef), .con (undef), .con (.bool true), .con (.bool true), .con (.bool true), .con (.int .i64 1), .con (.bool true), .con (.bool true), .con (undef), .con (undef), .con (.bool true), .con (.bool true), .con (undef), .con (undef), .con (.bool true), .con (.bool true), .con (.bool true), .con (.bool false), .con (.bool true), .con (.bool true), .con (undef), .con (undef), .con (.bool true), .con (.bool true), .con (.bool true), .con (.agg #[.int .i64 0, .int .i64 0, .int .i64 0, .int .i64 0, .int .i64 0]), .con (.agg #[.int .i64 x0, .int .i64 x1, .int .i64 x2, .int .i64 x3, .int .i64 x4]), .con (.agg #[.int .i64 x0, .int .i64 x1, .int .i64 x2, .int .i64 x3, .int .i64 x4]), .con (.int .i64 lv), .con (.bool true), .con (.bool true), .con (.bool true)] 6 74 (.bool true) (by kernel_rfl) (by kernel_rfl) (mkS_keeps (by kernel_rfl)) rfl rfl rfl ?steps ?fin
    case steps =>
      refine ⟨fun A w9 hB h => step_move_old h (by kernel_rfl) 7 rfl (by kernel_rfl) (by rfl), ?_⟩
      refine ⟨fun A w9 hB h => step_move h (by kernel_rfl) _ rfl (by kernel_rfl), ?_⟩
      refine ⟨fun A w9 hB h => step_move_old h (by kernel_rfl) 12 rfl (by kernel_rfl) (by rfl), ?_⟩
      refine ⟨fun A w9 hB h => step_bin h (by kernel_rfl) _ _ _ _ _ (.int .i64 0) (.int .i64 0) rfl (by kernel_rfl) (by kernel_rfl) (fun W => by kernel_rfl) (fun W => by kernel_rfl), ?_⟩
      refine ⟨fun A w9 hB h => step_pick h (by kernel_rfl) _ _ _ true rfl (by kernel_rfl) (by kernel_rfl), ?_⟩
      refine ⟨fun A w9 hB h => step_move h (by kernel_rfl) _ rfl (by kernel_rfl), ?_⟩
      refine ⟨fun A w9 hB h => step_move_old h (by kernel_rfl) 14 rfl (by kernel_rfl) (by rfl), ?_⟩
      refine ⟨fun A w9 hB h => step_bin h (by kernel_rfl) _ _ _ _ _ (.int .i64 0) (.int .i64 0) rfl (by kernel_rfl) (by kernel_rfl) (fun W => by kernel_rfl) (fun W => by kernel_rfl), ?_⟩
      refine ⟨fun A w9 hB h => step_pick h (by kernel_rfl) _ _ _ true rfl (by kernel_rfl) (by kernel_rfl), ?_⟩
      refine ⟨fun A w9 hB h => step_move h (by kernel_rfl) _ rfl (by kernel_rfl), ?_⟩
      refine ⟨fun A w9 hB h => step_move_old h (by kernel_rfl) 16 rfl (by kernel_rfl) (by rfl), ?_⟩
      refine ⟨fun A w9 hB h => step_bin h (by kernel_rfl) _ _ _ _ _ (.int .i64 0) (.int .i64 0) rfl (by kernel_rfl) (by kernel_rfl) (fun W => by kernel_rfl) (fun W => by kernel_rfl), ?_⟩
      refine ⟨fun A w9 hB h => step_pick h (by kernel_rfl) _ _ _ true rfl (by kernel_rfl) (by kernel_rfl), ?_⟩
      refine ⟨fun A w9 hB h => step_move h (by kernel_rfl) _ rfl (by kernel_rfl), ?_⟩
      refine ⟨fun A w9 hB h => step_move_old h (by kernel_rfl) 18 rfl (by kernel_rfl) (by rfl), ?_⟩
      refine ⟨fun A w9 hB h => step_bin h (by kernel_rfl) _ _ _ _ _ (.int .i64 0) (.int .i64 0) rfl (by kernel_rfl) (by kernel_rfl) (fun W => by kernel_rfl) (fun W => by kernel_rfl), ?_⟩
      refine ⟨fun A w9 hB h => step_pick h (by kernel_rfl) _ _ _ true rfl (by kernel_rfl) (by kernel_rfl), ?_⟩
      refine ⟨fun A w9 hB h => step_move h (by kernel_rfl) _ rfl (by kernel_rfl), ?_⟩
      refine ⟨fun A w9 hB h => step_move_old h (by kernel_rfl) 20 rfl (by kernel_rfl) (by rfl), ?_⟩
      refine ⟨fun A w9 hB h => step_bin h (by kernel_rfl) _ _ _ _ _ (.int .i64 0) (.int .i64 0) rfl (by kernel_rfl) (by kernel_rfl) (fun W => by kernel_rfl) (fun W => by kernel_rfl), ?_⟩
      refine ⟨fun A w9 hB h => step_pick h (by kernel_rfl) _ _ _ true rfl (by kernel_rfl) (by kernel_rfl), ?_⟩
      refine ⟨fun A w9 hB h => step_move h (by kernel_rfl) _ rfl (by kernel_rfl), ?_⟩
      refine ⟨fun A w9 hB h => step_move_old h (by kernel_rfl) 17 rfl (by kernel_rfl) (by rfl), ?_⟩
      refine ⟨fun A w9 hB h => step_move_old h (by kernel_rfl) 11 rfl (by kernel_rfl) (by rfl), ?_⟩
      refine ⟨fun A w9 hB h => step_un h (by kernel_rfl) _ _ _ (.int .i64 1) rfl (by kernel_rfl) (by kernel_rfl), ?_⟩
      refine ⟨fun A w9 hB h => step_bin h (by kernel_rfl) _ _ _ _ _ (.int .i64 (-1)) (.int .i64 (-1)) rfl (by kernel_rfl) (by kernel_rfl) (fun W => by kernel_rfl) (fun W => by kernel_rfl), ?_⟩
      refine ⟨fun A w9 hB h => step_pick h (by kernel_rfl) _ _ _ true rfl (by kernel_rfl) (by kernel_rfl), ?_⟩
      refine ⟨fun A w9 hB h => step_move h (by kernel_rfl) _ rfl (by kernel_rfl), ?_⟩
      refine ⟨fun A w9 hB h => step_move_old h (by kernel_rfl) 11 rfl (by kernel_rfl) (by rfl), ?_⟩
      refine ⟨fun A w9 hB h => step_bin h (by kernel_rfl) _ _ _ _ _ (.int .i64 1) (.int .i64 0) rfl (by kernel_rfl) (by kernel_rfl) (fun W => by kernel_rfl) (fun W => by kernel_rfl), ?_⟩
      refine ⟨fun A w9 hB h => step_load h (by kernel_rfl) _ _ (.pointer (some ⟨w4.heap.size, 0, none⟩)) rfl (h.old 8 (by kernel_rfl) (by rfl)) (load5 (X8.out.below hB)), ?_⟩
      refine ⟨fun A w9 hB h => step_load h (by kernel_rfl) _ _ (.pointer (some ⟨w4.heap.size + 1, 0, none⟩)) rfl (h.old 9 (by kernel_rfl) (by rfl)) (load5 (Y8.out.below hB)), ?_⟩
      refine ⟨fun A w9 hB h => step_bin h (by kernel_rfl) _ _ _ _ _ (.agg #[.int .i64 x0, .int .i64 x1, .int .i64 x2, .int .i64 x3, .int .i64 x4]) (.agg #[.int .i64 y0, .int .i64 y1, .int .i64 y2, .int .i64 y3, .int .i64 y4]) rfl (by kernel_rfl) (by kernel_rfl) (fun W => guard_look _ _ _ _ _ W) (fun W => zq W), ?_⟩
      refine ⟨fun A w9 hB h => step_bin h (by kernel_rfl) _ _ _ _ _ (.bool false) (.bool false) rfl (by kernel_rfl) (by kernel_rfl) (fun W => by kernel_rfl) (fun W => by kernel_rfl), ?_⟩
      refine ⟨fun A w9 hB h => step_pick h (by kernel_rfl) _ _ _ true rfl (by kernel_rfl) (by kernel_rfl), ?_⟩
      refine ⟨fun A w9 hB h => step_move h (by kernel_rfl) _ rfl (by kernel_rfl), ?_⟩
      refine ⟨fun A w9 hB h => step_move_old h (by kernel_rfl) 11 rfl (by kernel_rfl) (by rfl), ?_⟩
      refine ⟨fun A w9 hB h => step_bin h (by kernel_rfl) _ _ _ _ _ (.int .i64 1) (.int .i64 0) rfl (by kernel_rfl) (by kernel_rfl) (fun W => by kernel_rfl) (fun W => by kernel_rfl), ?_⟩
      refine ⟨fun A w9 hB h => step_move h (by kernel_rfl) _ rfl (by kernel_rfl), ?_⟩
      refine ⟨fun A w9 hB h => kit.step_skip h (by kernel_rfl), ?_⟩
      refine ⟨fun A w9 hB h => kit.step_skip h (by kernel_rfl), ?_⟩
      refine ⟨fun A w9 hB h => step_pick h (by kernel_rfl) _ _ _ true rfl (by kernel_rfl) (by kernel_rfl), ?_⟩
      refine ⟨fun A w9 hB h => step_move h (by kernel_rfl) _ rfl (by kernel_rfl), ?_⟩
      refine ⟨fun A w9 hB h => kit.step_skip h (by kernel_rfl), ?_⟩
      refine ⟨fun A w9 hB h => kit.step_skip h (by kernel_rfl), ?_⟩
      refine ⟨fun A w9 hB h => step_pick h (by kernel_rfl) _ _ _ true rfl (by kernel_rfl) (by kernel_rfl), ?_⟩
      refine ⟨fun A w9 hB h => step_pick h (by kernel_rfl) _ _ _ true rfl (by kernel_rfl) (by kernel_rfl), ?_⟩
      refine ⟨fun A w9 hB h => step_move h (by kernel_rfl) _ rfl (by kernel_rfl), ?_⟩
      refine ⟨fun A w9 hB h => step_move_old h (by kernel_rfl) 11 rfl (by kernel_rfl) (by rfl), ?_⟩
      refine ⟨fun A w9 hB h => step_bin h (by kernel_rfl) _ _ _ _ _ (.int .i64 1) (.int .i64 0) rfl (by kernel_rfl) (by kernel_rfl) (fun W => by kernel_rfl) (fun W => by kernel_rfl), ?_⟩
      refine ⟨fun A w9 hB h => step_move h (by kernel_rfl) _ rfl (by kernel_rfl), ?_⟩
      refine ⟨fun A w9 hB h => kit.step_skip h (by kernel_rfl), ?_⟩
      refine ⟨fun A w9 hB h => kit.step_skip h (by kernel_rfl), ?_⟩
      refine ⟨fun A w9 hB h => step_pick h (by kernel_rfl) _ _ _ true rfl (by kernel_rfl) (by kernel_rfl), ?_⟩
      refine ⟨fun A w9 hB h => step_move h (by kernel_rfl) _ rfl (by kernel_rfl), ?_⟩
      refine ⟨fun A w9 hB h => kit.step_skip h (by kernel_rfl), ?_⟩
      refine ⟨fun A w9 hB h => kit.step_skip h (by kernel_rfl), ?_⟩
      refine ⟨fun A w9 hB h => step_pick h (by kernel_rfl) _ _ _ true rfl (by kernel_rfl) (by kernel_rfl), ?_⟩
      refine ⟨fun A w9 hB h => step_pick h (by kernel_rfl) _ _ _ true rfl (by kernel_rfl) (by kernel_rfl), ?_⟩
      refine ⟨fun A w9 hB h => step_move h (by kernel_rfl) _ rfl (by kernel_rfl), ?_⟩
      refine ⟨fun A w9 hB h => step_move_old h (by kernel_rfl) 19 rfl (by kernel_rfl) (by rfl), ?_⟩
      refine ⟨fun A w9 hB h => step_un h (by kernel_rfl) _ _ _ (.bool false) rfl (by kernel_rfl) (by kernel_rfl), ?_⟩
      refine ⟨fun A w9 hB h => step_move h (by kernel_rfl) _ rfl (by kernel_rfl), ?_⟩
      refine ⟨fun A w9 hB h => kit.step_skip h (by kernel_rfl), ?_⟩
      refine ⟨fun A w9 hB h => kit.step_skip h (by kernel_rfl), ?_⟩
      refine ⟨fun A w9 hB h => step_pick h (by kernel_rfl) _ _ _ true rfl (by kernel_rfl) (by kernel_rfl), ?_⟩
      refine ⟨fun A w9 hB h => step_pick h (by kernel_rfl) _ _ _ true rfl (by kernel_rfl) (by kernel_rfl), ?_⟩
      refine ⟨fun A w9 hB h => step_move h (by kernel_rfl) _ rfl (by kernel_rfl), ?_⟩
      refine ⟨fun A w9 hB h => step_call_con h (by kernel_rfl) _ _ [.slice none 0 0] rfl rfl (by kernel_rfl) (by kernel_rfl) (lof_any none 0 [] w9 (by simp) (Lib.hid (fun i hi => by simp at hi)) 0 0 0 0 0 0 (Lib.hid (by decide))), ?_⟩
      refine ⟨fun A w9 hB h => step_load h (by kernel_rfl) _ _ (.pointer (some ⟨w4.heap.size, 0, none⟩)) rfl (h.old 8 (by kernel_rfl) (by rfl)) (load5 (X8.out.below hB)), ?_⟩
      refine ⟨fun A w9 hB h => step_load h (by kernel_rfl) _ _ (.pointer (some ⟨w4.heap.size, 0, none⟩)) rfl (h.old 8 (by kernel_rfl) (by rfl)) (load5 (X8.out.below hB)), ?_⟩
      refine ⟨fun A w9 hB h => step_call_con h (by kernel_rfl) _ _ [.agg #[.int .i64 x0, .int .i64 x1, .int .i64 x2, .int .i64 x3, .int .i64 x4]] rfl rfl (by kernel_rfl) (by kernel_rfl) (lleast_any x0 x1 x2 x3 x4 w9 lv HLV.out), ?_⟩
      refine ⟨fun A w9 hB h => step_call_con h (by kernel_rfl) _ _ [.agg #[.int .i64 0, .int .i64 0, .int .i64 0, .int .i64 0, .int .i64 0], .agg #[.int .i64 x0, .int .i64 x1, .int .i64 x2, .int .i64 x3, .int .i64 x4], .int .i64 lv] rfl rfl (by kernel_rfl) (by kernel_rfl) ((lcompares_any 0 0 0 0 0 x0 x1 x2 x3 x4 w9 lv lv 0 rfl HL0).mono (fun e w8 q => by simpa using q)), ?_⟩
      refine ⟨fun A w9 hB h => step_pick h (by kernel_rfl) _ _ _ true rfl (by kernel_rfl) (by kernel_rfl), ?_⟩
      refine ⟨fun A w9 hB h => step_assign h (by kernel_rfl) _ rfl (by kernel_rfl), ?_⟩
      exact trivial
    case fin =>
      intro B w8 hB hsz hdf hold
      clear hold
      have B8 := Lib.hid (below_on B9.out (Nat.le_refl _) hB)
      have hs : B.tmps.size = 132 := hsz.trans (by rfl)
      clear hB hsz
      rename_i K hK
      refine hK _ _ ?_
      clear hK
      go_wp2
      exact bodyPost_ret (v := .bool true) (by simp [results, Tryd.results7, go_sem, hs]) rfl ⟨rfl, B8.out⟩
end Go.Proofs.YtddackdghphcnaaDoor.s13
