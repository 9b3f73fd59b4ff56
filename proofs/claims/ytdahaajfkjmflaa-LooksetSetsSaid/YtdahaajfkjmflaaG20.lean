/-
  Layer 14: LooksetSets. Layer 13: looks that come in, opened. Layer 14: lists of looks that come in, opened to cells.
-/
import Derived.Test.YtdahaajfkjmflaaG19
import Derived.Test.YtdahaajfkjmflaaG15
import Derived.Test.YtdahaajfkjmflaaG17
import Derived.Test.YtdahaajfkjmflaaG02
import Derived.Lib.SmallJoins
import Derived.Deep.Slices
import Derived.Deep.Fields
import Derived.ChangeSame
import Derived.Laws.IdiomArrays
import Derived.ProofKit
namespace Go.Proofs.Ytdahaajfkjmflaa.s14
set_option linter.unusedVariables false
set_option linter.unusedSimpArgs false
open Go.RowKit
open kit

open s13

open Go.Shelf
set_option maxRecDepth 100000 in
set_option maxHeartbeats 6000000 in
theorem sets_law (t : Int) (a b : Option Addr) (n m ca cb : Nat) (la lb : List V5) (x0 x1 x2 x3 x4 : Int) (w : World) (hn : Hid (la.length = n)) (hm : Hid (lb.length = m)) (hca : n ≤ ca) (hcb : m ≤ cb) (ra : Hid (Reads5 w a la)) (rb : Hid (Reads5 w b lb)) :
    Calls Try.prog 3 #[.int .i64 t, .slice a n ca, .slice b m cb, .agg #[.int .i64 x0, .int .i64 x1, .int .i64 x2, .int .i64 x3, .int .i64 x4]] w fun e w' => e = .returned (.bool true) ∧ Below w.heap.size w w' := by
  by_cases h1 : n ≤ 60
  · by_cases h2 : m ≤ 60
    · skip
      obtain ⟨XO, NO, qO, hXO, hNO, PO, RO⟩ := of_pair t la n hn h1
      have PO := Lib.hid PO; have RO := Lib.hid RO; have hXO := Lib.hid hXO
      obtain ⟨XU, NU, qU, hXU, hNU, PU, RU⟩ := uni_pair t la lb n m hn hm h1 h2
      have PU := Lib.hid PU; have RU := Lib.hid RU; have hXU := Lib.hid hXU
      obtain ⟨XM, NM, qM, hXM, hNM, PM, RM⟩ := meet_pair t la lb n m hn hm h1 h2
      have PM := Lib.hid PM; have RM := Lib.hid RM; have hXM := Lib.hid hXM
      obtain ⟨XL, NL, qL, hXL, hNL, PL, RL⟩ := less_pair t la lb n m hn hm h1 h2
      have PL := Lib.hid PL; have RL := Lib.hid RL; have hXL := Lib.hid hXL
      obtain ⟨y0, y1, y2, y3, y4, qY, PY, RY⟩ := least_pair t la n hn h1
      obtain ⟨qZ, PZ, RZ⟩ := uni0_pair t
      have PY := Lib.hid PY; have RY := Lib.hid RY; have PZ := Lib.hid PZ; have RZ := Lib.hid RZ
      obtain ⟨qC, hqC⟩ : ∃ q, chkS t la = q := ⟨_, rfl⟩
      obtain ⟨⟨bH, qH⟩, hqH⟩ : ∃ q, hasE t la (x0, x1, x2, x3, x4) = q := ⟨_, rfl⟩
      obtain ⟨bS, hbS⟩ : ∃ q, decide (la = lb) = q := ⟨_, rfl⟩
      have hqC := Lib.hid hqC; have hqH := Lib.hid hqH; have hbS := Lib.hid hbS
      have g0 : ¬ ((n : Int) > 60) := by omega
      have d0 : decide ((n : Int) > 60) = false := decide_eq_false g0
      have g1 : ¬ ((m : Int) > 60) := by omega
      have d1 : decide ((m : Int) > 60) = false := decide_eq_false g1
      have ra1 := Lib.hid (ra.out.alloc (.cells #[.int .i64 x0, .int .i64 x1, .int .i64 x2, .int .i64 x3, .int .i64 x4] 25))
      have rb1 := Lib.hid (rb.out.alloc (.cells #[.int .i64 x0, .int .i64 x1, .int .i64 x2, .int .i64 x3, .int .i64 x4] 25))
      have B1 := Lib.hid ((Below.refl w.heap.size w).alloc (Nat.le_refl _) (.cells #[.int .i64 x0, .int .i64 x1, .int .i64 x2, .int .i64 x3, .int .i64 x4] 25))
      have X1 := Lib.hid (Box.new w 25 #[.int .i64 x0, .int .i64 x1, .int .i64 x2, .int .i64 x3, .int .i64 x4])
      go_enter Try.func3, Try.ntmps3
      go_wp2_with (fail)
      go_at_call 10
      refine (lown_any a n ca la _ hn (by omega) ra1).mono ?_
      rintro e w3 ⟨vh, rfl, hv, hB⟩
      obtain ⟨ph, ch, rfl, hch⟩ := row5_shape hv
      have Rh2 := Lib.hid (reads5_of_row hn.out hv)
      have ra2 := Lib.hid (ra1.out.below hB)
      have rb2 := Lib.hid (rb1.out.below hB)
      have X2 := Lib.hid (X1.out.below hB)
      have B2 := Lib.hid (below_then B1.out hB)
      clear hB
      clear hv
      go_wp2_with (fail)
      go_at_call 10
      refine (lown_any b m cb lb _ hm (by omega) rb2).mono ?_
      rintro e w4 ⟨vi, rfl, hv, hB⟩
      obtain ⟨pi, ci, rfl, hci⟩ := row5_shape hv
      have Ri3 := Lib.hid (reads5_of_row hm.out hv)
      have ra3 := Lib.hid (ra2.out.below hB)
      have rb3 := Lib.hid (rb2.out.below hB)
      have X3 := Lib.hid (X2.out.below hB)
      have Rh3 := Lib.hid (Rh2.out.below hB)
      have B3 := Lib.hid (below_then B2.out hB)
      clear hB
      clear hv
      go_wp2_with (fail)
      go_at_call 11
      refine (pset_any t ph n ch la _ hn (by omega) Rh3 qC hqC).mono ?_
      rintro e w5 ⟨rfl, hB⟩
      have ra4 := Lib.hid (ra3.out.below hB)
      have rb4 := Lib.hid (rb3.out.below hB)
      have X4 := Lib.hid (X3.out.below hB)
      have Rh4 := Lib.hid (Rh3.out.below hB)
      have Ri4 := Lib.hid (Ri3.out.below hB)
      have B4 := Lib.hid (below_then B3.out hB)
      clear hB
      go_wp2_with (fail)
      go_at_call 12
      refine (rset_any t a n ca la _ hn (by omega) ra4 qC hqC).mono ?_
      rintro e w6 ⟨rfl, hB⟩
      have ra5 := Lib.hid (ra4.out.below hB)
      have rb5 := Lib.hid (rb4.out.below hB)
      have X5 := Lib.hid (X4.out.below hB)
      have Rh5 := Lib.hid (Rh4.out.below hB)
      have Ri5 := Lib.hid (Ri4.out.below hB)
      have B5 := Lib.hid (below_then B4.out hB)
      clear hB
      go_wp2_with (fail)
      go_at_call 13
      refine (PO.out ph ch _ Rh5).mono ?_
      rintro e w7 ⟨pe, ce, rfl, re, hB⟩
      have Qe6 := Lib.hid re
      have ra6 := Lib.hid (ra5.out.below hB)
      have rb6 := Lib.hid (rb5.out.below hB)
      have X6 := Lib.hid (X5.out.below hB)
      have Rh6 := Lib.hid (Rh5.out.below hB)
      have Ri6 := Lib.hid (Ri5.out.below hB)
      have B6 := Lib.hid (below_then B5.out hB)
      clear hB
      clear re
      go_wp2_with (fail)
      go_at_call 14
      refine (RO.out a ca _ hca ra6).mono ?_
      rintro e w8 ⟨pf, cf, rfl, rf, hB⟩
      have Qf7 := Lib.hid rf
      have ra7 := Lib.hid (ra6.out.below hB)
      have rb7 := Lib.hid (rb6.out.below hB)
      have X7 := Lib.hid (X6.out.below hB)
      have Rh7 := Lib.hid (Rh6.out.below hB)
      have Ri7 := Lib.hid (Ri6.out.below hB)
      have Qe7 := Lib.hid (Qe6.out.below hB)
      have B7 := Lib.hid (below_then B6.out hB)
      clear hB
      clear rf
      go_wp2_with (fail)
      go_at_call 15
      refine (lsame_any pe pf NO NO ce cf XO XO _ hXO hXO (by omega) (by omega) Qe7 Qf7 true (Lib.hid (decide_eq_true rfl))).mono ?_
      rintro e w9 ⟨rfl, hB⟩
      have ra8 := Lib.hid (ra7.out.below hB)
      have rb8 := Lib.hid (rb7.out.below hB)
      have X8 := Lib.hid (X7.out.below hB)
      have Rh8 := Lib.hid (Rh7.out.below hB)
      have Ri8 := Lib.hid (Ri7.out.below hB)
      have Qe8 := Lib.hid (Qe7.out.below hB)
      have Qf8 := Lib.hid (Qf7.out.below hB)
      have B8 := Lib.hid (below_then B7.out hB)
      clear hB
      obtain ⟨z0, z1, z2, z3, z4⟩ := X8.out.cell5
      go_wp2_with (fail)
      go_at_call 16
      refine (phas_any t ph n ch la x0 x1 x2 x3 x4 _ hn (by omega) Rh8 bH qH hqH).mono ?_
      rintro e w10 ⟨rfl, hB⟩
      have ra9 := Lib.hid (ra8.out.below hB)
      have rb9 := Lib.hid (rb8.out.below hB)
      have X9 := Lib.hid (X8.out.below hB)
      have Rh9 := Lib.hid (Rh8.out.below hB)
      have Ri9 := Lib.hid (Ri8.out.below hB)
      have B9 := Lib.hid (below_then B8.out hB)
      clear hB
      clear z0 z1 z2 z3 z4
      obtain ⟨z0, z1, z2, z3, z4⟩ := X9.out.cell5
      go_wp2_with (fail)
      go_at_call 17
      refine (rhas_any t a n ca la x0 x1 x2 x3 x4 _ hn (by omega) ra9 bH qH hqH).mono ?_
      rintro e w11 ⟨rfl, hB⟩
      have ra10 := Lib.hid (ra9.out.below hB)
      have rb10 := Lib.hid (rb9.out.below hB)
      have X10 := Lib.hid (X9.out.below hB)
      have Rh10 := Lib.hid (Rh9.out.below hB)
      have Ri10 := Lib.hid (Ri9.out.below hB)
      have B10 := Lib.hid (below_then B9.out hB)
      clear hB
      clear z0 z1 z2 z3 z4
      go_wp2_with (fail)
      go_at_call 18
      refine (PU.out ph pi ch ci _ _ _ (Box.new _ _ _) hch hci (Lib.hid (Rh10.out.alloc _)) (Lib.hid (Ri10.out.alloc _))).mono ?_
      rintro e w12 ⟨pg, cg, rfl, rg, hB0⟩
      have hB := (made1 hB0).2
      have Qg11 := Lib.hid rg
      have ra11 := Lib.hid (ra10.out.below hB)
      have rb11 := Lib.hid (rb10.out.below hB)
      have Rh11 := Lib.hid (Rh10.out.below hB)
      have Ri11 := Lib.hid (Ri10.out.below hB)
      have B11 := Lib.hid (below_then B10.out hB)
      clear hB
      clear rg hB0
      go_wp2_with (fail)
      go_at_call 19
      refine (RU.out a b ca cb _ _ _ (Box.new _ _ _) hca hcb (Lib.hid (ra11.out.alloc _)) (Lib.hid (rb11.out.alloc _))).mono ?_
      rintro e w13 ⟨pj, cj, rfl, rj, hB0⟩
      have hB := (made1 hB0).2
      have Qj12 := Lib.hid rj
      have ra12 := Lib.hid (ra11.out.below hB)
      have rb12 := Lib.hid (rb11.out.below hB)
      have Rh12 := Lib.hid (Rh11.out.below hB)
      have Ri12 := Lib.hid (Ri11.out.below hB)
      have Qg12 := Lib.hid (Qg11.out.below hB)
      have B12 := Lib.hid (below_then B11.out hB)
      clear hB
      clear rj hB0
      go_wp2_with (fail)
      go_at_call 15
      refine (lsame_any pg pj NU NU cg cj XU XU _ hXU hXU (by omega) (by omega) Qg12 Qj12 true (Lib.hid (decide_eq_true rfl))).mono ?_
      rintro e w14 ⟨rfl, hB⟩
      have ra13 := Lib.hid (ra12.out.below hB)
      have rb13 := Lib.hid (rb12.out.below hB)
      have Rh13 := Lib.hid (Rh12.out.below hB)
      have Ri13 := Lib.hid (Ri12.out.below hB)
      have Qg13 := Lib.hid (Qg12.out.below hB)
      have Qj13 := Lib.hid (Qj12.out.below hB)
      have B13 := Lib.hid (below_then B12.out hB)
      clear hB
      go_wp2_with (fail)
      go_at_call 20
      refine (PM.out ph pi ch ci _ hch hci Rh13 Ri13).mono ?_
      rintro e w15 ⟨pk, ck, rfl, rk, hB⟩
      have Qk14 := Lib.hid rk
      have ra14 := Lib.hid (ra13.out.below hB)
      have rb14 := Lib.hid (rb13.out.below hB)
      have Rh14 := Lib.hid (Rh13.out.below hB)
      have Ri14 := Lib.hid (Ri13.out.below hB)
      have B14 := Lib.hid (below_then B13.out hB)
      clear hB
      clear rk
      go_wp2_with (fail)
      go_at_call 21
      refine (RM.out a b ca cb _ ra14 rb14).mono ?_
      rintro e w16 ⟨pl, cl, rfl, rl, hB⟩
      have Ql15 := Lib.hid rl
      have ra15 := Lib.hid (ra14.out.below hB)
      have rb15 := Lib.hid (rb14.out.below hB)
      have Rh15 := Lib.hid (Rh14.out.below hB)
      have Ri15 := Lib.hid (Ri14.out.below hB)
      have Qk15 := Lib.hid (Qk14.out.below hB)
      have B15 := Lib.hid (below_then B14.out hB)
      clear hB
      clear rl
      go_wp2_with (fail)
      go_at_call 15
      refine (lsame_any pk pl NM NM ck cl XM XM _ hXM hXM (by omega) (by omega) Qk15 Ql15 true (Lib.hid (decide_eq_true rfl))).mono ?_
      rintro e w17 ⟨rfl, hB⟩
      have ra16 := Lib.hid (ra15.out.below hB)
      have rb16 := Lib.hid (rb15.out.below hB)
      have Rh16 := Lib.hid (Rh15.out.below hB)
      have Ri16 := Lib.hid (Ri15.out.below hB)
      have Qk16 := Lib.hid (Qk15.out.below hB)
      have Ql16 := Lib.hid (Ql15.out.below hB)
      have B16 := Lib.hid (below_then B15.out hB)
      clear hB
      go_wp2_with (fail)
      go_at_call 22
      refine (PL.out ph pi ch ci _ hch hci Rh16 Ri16).mono ?_
      rintro e w18 ⟨po, co, rfl, ro, hB⟩
      have Qo17 := Lib.hid ro
      have ra17 := Lib.hid (ra16.out.below hB)
      have rb17 := Lib.hid (rb16.out.below hB)
      have Rh17 := Lib.hid (Rh16.out.below hB)
      have Ri17 := Lib.hid (Ri16.out.below hB)
      have B17 := Lib.hid (below_then B16.out hB)
      clear hB
      clear ro
      go_wp2_with (fail)
      go_at_call 23
      refine (RL.out a b ca cb _ ra17 rb17).mono ?_
      rintro e w19 ⟨pq, cq, rfl, rq, hB⟩
      have Qq18 := Lib.hid rq
      have ra18 := Lib.hid (ra17.out.below hB)
      have rb18 := Lib.hid (rb17.out.below hB)
      have Rh18 := Lib.hid (Rh17.out.below hB)
      have Ri18 := Lib.hid (Ri17.out.below hB)
      have Qo18 := Lib.hid (Qo17.out.below hB)
      have B18 := Lib.hid (below_then B17.out hB)
      clear hB
      clear rq
      go_wp2_with (fail)
      go_at_call 15
      refine (lsame_any po pq NL NL co cq XL XL _ hXL hXL (by omega) (by omega) Qo18 Qq18 true (Lib.hid (decide_eq_true rfl))).mono ?_
      rintro e w20 ⟨rfl, hB⟩
      have ra19 := Lib.hid (ra18.out.below hB)
      have rb19 := Lib.hid (rb18.out.below hB)
      have Rh19 := Lib.hid (Rh18.out.below hB)
      have Ri19 := Lib.hid (Ri18.out.below hB)
      have Qo19 := Lib.hid (Qo18.out.below hB)
      have Qq19 := Lib.hid (Qq18.out.below hB)
      have B19 := Lib.hid (below_then B18.out hB)
      clear hB
      go_wp2_with (fail)
      go_at_call 24
      refine (PY.out ph ch _ Rh19).mono ?_
      rintro e w21 ⟨rfl, hB⟩
      have ra20 := Lib.hid (ra19.out.below hB)
      have rb20 := Lib.hid (rb19.out.below hB)
      have Rh20 := Lib.hid (Rh19.out.below hB)
      have Ri20 := Lib.hid (Ri19.out.below hB)
      have B20 := Lib.hid (below_then B19.out hB)
      clear hB
      go_wp2_with (fail)
      go_at_call 25
      refine (RY.out a ca _ (Lib.hid (ra20.out.alloc _))).mono ?_
      rintro e w22 ⟨rfl, hB0⟩
      have Y21 := Lib.hid (made1 hB0).1
      have hB := (made1 hB0).2
      have ra21 := Lib.hid (ra20.out.below hB)
      have rb21 := Lib.hid (rb20.out.below hB)
      have Rh21 := Lib.hid (Rh20.out.below hB)
      have Ri21 := Lib.hid (Ri20.out.below hB)
      have B21 := Lib.hid (below_then B20.out hB)
      clear hB
      clear hB0
      go_wp2_with (fail)
      go_at_call 18
      refine (PZ.out _).mono ?_
      rintro e w23 ⟨pr, cr, rfl, rr, hB0⟩
      have Z22 := Lib.hid (made1 hB0).1
      have hB := (made1 hB0).2
      have Qr22 := Lib.hid rr
      have ra22 := Lib.hid (ra21.out.below hB)
      have rb22 := Lib.hid (rb21.out.below hB)
      have Rh22 := Lib.hid (Rh21.out.below hB)
      have Ri22 := Lib.hid (Ri21.out.below hB)
      have Y22 := Lib.hid (Y21.out.below hB)
      have B22 := Lib.hid (below_then B21.out hB)
      clear hB
      clear hB0 rr
      go_wp2_with (fail)
      go_at_call 19
      refine (RZ.out _).mono ?_
      rintro e w24 ⟨ps, cs, rfl, rs, hB⟩
      have Qs23 := Lib.hid rs
      have ra23 := Lib.hid (ra22.out.below hB)
      have rb23 := Lib.hid (rb22.out.below hB)
      have Rh23 := Lib.hid (Rh22.out.below hB)
      have Ri23 := Lib.hid (Ri22.out.below hB)
      have Y23 := Lib.hid (Y22.out.below hB)
      have Z23 := Lib.hid (Z22.out.below hB)
      have Qr23 := Lib.hid (Qr22.out.below hB)
      have B23 := Lib.hid (below_then B22.out hB)
      clear hB
      clear rs
      obtain ⟨z0, z1, z2, z3, z4⟩ := Y23.out.cell5
      obtain ⟨u0, u1, u2, u3, u4⟩ := Z23.out.cell5
      have zg := guard_look
      have zq := eql_yes y0 y1 y2 y3 y4
      go_wp2_with (fail)
      go_at_call 15
      refine (lsame_any pr ps 0 0 cr cs [] [] _ (Lib.hid rfl) (Lib.hid rfl) (by omega) (by omega) Qr23 Qs23 true (Lib.hid (decide_eq_true rfl))).mono ?_
      rintro e w25 ⟨rfl, hB⟩
      have ra24 := Lib.hid (ra23.out.below hB)
      have rb24 := Lib.hid (rb23.out.below hB)
      have Rh24 := Lib.hid (Rh23.out.below hB)
      have Ri24 := Lib.hid (Ri23.out.below hB)
      have Y24 := Lib.hid (Y23.out.below hB)
      have Z24 := Lib.hid (Z23.out.below hB)
      have Qr24 := Lib.hid (Qr23.out.below hB)
      have Qs24 := Lib.hid (Qs23.out.below hB)
      have B24 := Lib.hid (below_then B23.out hB)
      clear hB
      clear z0 z1 z2 z3 z4 u0 u1 u2 u3 u4 zg zq
      go_wp2_with (fail)
      go_at_call 26
      refine (psame_any ph pi n m ch ci la lb _ hn hm (by omega) (by omega) Rh24 Ri24 bS hbS).mono ?_
      rintro e w26 ⟨rfl, hB⟩
      have ra25 := Lib.hid (ra24.out.below hB)
      have rb25 := Lib.hid (rb24.out.below hB)
      have Rh25 := Lib.hid (Rh24.out.below hB)
      have Ri25 := Lib.hid (Ri24.out.below hB)
      have B25 := Lib.hid (below_then B24.out hB)
      clear hB
      go_wp2_with (fail)
      go_at_call 27
      refine (rsame_any a b n m ca cb la lb _ hn hm (by omega) (by omega) ra25 rb25 bS hbS).mono ?_
      rintro e w27 ⟨rfl, hB⟩
      have ra26 := Lib.hid (ra25.out.below hB)
      have rb26 := Lib.hid (rb25.out.below hB)
      have Rh26 := Lib.hid (Rh25.out.below hB)
      have Ri26 := Lib.hid (Ri25.out.below hB)
      have B26 := Lib.hid (below_then B25.out hB)
      clear hB
      go_wp2_with (fail)
      go_at_call 15
      refine (lsame_any ph a n n ch ca la la _ hn hn (by omega) (by omega) Rh26 ra26 true (Lib.hid (decide_eq_true rfl))).mono ?_
      rintro e w28 ⟨rfl, hB⟩
      have ra27 := Lib.hid (ra26.out.below hB)
      have rb27 := Lib.hid (rb26.out.below hB)
      have Rh27 := Lib.hid (Rh26.out.below hB)
      have Ri27 := Lib.hid (Ri26.out.below hB)
      have B27 := Lib.hid (below_then B26.out hB)
      clear hB
      go_wp2_with (fail)
      go_at_call 15
      refine (lsame_any pi b m m ci cb lb lb _ hm hm (by omega) (by omega) Ri27 rb27 true (Lib.hid (decide_eq_true rfl))).mono ?_
      rintro e w29 ⟨rfl, hB⟩
      have ra28 := Lib.hid (ra27.out.below hB)
      have rb28 := Lib.hid (rb27.out.below hB)
      have Rh28 := Lib.hid (Rh27.out.below hB)
      have Ri28 := Lib.hid (Ri27.out.below hB)
      have B28 := Lib.hid (below_then B27.out hB)
      clear hB
      go_wp2_with (fail)
      go_at_call 9
      refine (awake_any _).mono ?_
      rintro e w30 ⟨rfl, hB⟩
      have B29 := Lib.hid (below_then B28.out hB)
      clear hB
      go_wp2_with (fail)
      go_ret
      exact ⟨rfl, B29.out⟩
    · skip
      have g0 : ¬ ((n : Int) > 60) := by omega
      have d0 : decide ((n : Int) > 60) = false := decide_eq_false g0
      have g1 : (m : Int) > 60 := by omega
      have d1 : decide ((m : Int) > 60) = true := decide_eq_true g1
      clear hn hm hca hcb ra rb
      have B0 := Lib.hid ((Below.refl w.heap.size w).alloc (Nat.le_refl _) (.cells #[.int .i64 x0, .int .i64 x1, .int .i64 x2, .int .i64 x3, .int .i64 x4] 25))
      go_enter Try.func3, Try.ntmps3
      go_wp2_with (go_at_call 9; refine (awake_any _).mono ?_; rintro e w1 ⟨rfl, hB⟩; have B1 := Lib.hid (below_then B0.out hB); clear hB)
      go_ret
      exact ⟨rfl, B1.out⟩
  · skip
    have g0 : (n : Int) > 60 := by omega
    have d0 : decide ((n : Int) > 60) = true := decide_eq_true g0
    clear hn hm hca hcb ra rb
    have B0 := Lib.hid ((Below.refl w.heap.size w).alloc (Nat.le_refl _) (.cells #[.int .i64 x0, .int .i64 x1, .int .i64 x2, .int .i64 x3, .int .i64 x4] 25))
    go_enter Try.func3, Try.ntmps3
    go_wp2_with (go_at_call 9; refine (awake_any _).mono ?_; rintro e w1 ⟨rfl, hB⟩; have B1 := Lib.hid (below_then B0.out hB); clear hB)
    go_ret
    exact ⟨rfl, B1.out⟩
end Go.Proofs.Ytdahaajfkjmflaa.s14

namespace Go.Proofs.Ytdahaajfkjmflaa.s13
set_option linter.unusedVariables false
set_option linter.unusedSimpArgs false
open Go.RowKit
open kit

open Go.ChangeShapes Go.WideShapes Go.Deep
theorem array5 {cs : Array Value} (h : cs.size = 5) : ∃ c0 c1 c2 c3 c4, cs = #[c0, c1, c2, c3, c4] := by
  obtain ⟨l⟩ := cs
  match l, h with
  | [a, b, c, d, e], _ => exact ⟨a, b, c, d, e, rfl⟩
set_option maxRecDepth 100000 in
theorem open_look {H : Type} {enc : TypeId × Value → H} {w : World} {r : Reach} {b0 : Nat} {v : Value} {d : DataW H} {p : List MemPlace} (hv : Value.okWide Try.prog w r b0 25 v) (h : DataW.Trod enc Try.prog w 0 (fun _ => true) true 25 v d p) :
    ∃ (n a b c e : Int), v = .agg #[.int .i64 n, .int .i64 a, .int .i64 b, .int .i64 c, .int .i64 e] ∧ (Lit.int .i64 n).wf = true ∧ (Lit.int .i64 a).wf = true ∧ (Lit.int .i64 b).wf = true ∧ (Lit.int .i64 c).wf = true ∧ (Lit.int .i64 e).wf = true := by
  obtain ⟨cs, rfl, hsz⟩ := okWide_struct Try.underlying25 hv
  obtain ⟨c0, c1, c2, c3, c4, rfl⟩ := array5 (hsz.trans (by kernel_rfl))
  obtain ⟨fuel, hf⟩ := h
  obtain ⟨ys, n', hn', hy, hlen, hyl, hff⟩ := DataW.trod_struct Try.underlying25 hf
  match ys, hyl with
  | [y0, y1], _ =>
    have f0 : DataW.trod enc Try.prog w 0 (fun _ => true) true n' 3 [c0] = some y0 := hff 0 _ rfl
    have f1 : DataW.trod enc Try.prog w 0 (fun _ => true) true n' 23 [c1, c2, c3, c4] = some y1 := hff 1 _ rfl
    obtain ⟨z1, z2, z3, z4, n2, _, g1, g2, g3, g4⟩ := trod_array4 Try.underlying23 (by kernel_rfl) f1
    obtain ⟨n, e0, _, w0⟩ := DataW.trod_int Try.underlying3 f0
    obtain ⟨a, e1, _, w1⟩ := DataW.trod_int Try.underlying3 g1
    obtain ⟨b, e2, _, w2⟩ := DataW.trod_int Try.underlying3 g2
    obtain ⟨c, e3, _, w3⟩ := DataW.trod_int Try.underlying3 g3
    obtain ⟨e, e4, _, w4⟩ := DataW.trod_int Try.underlying3 g4
    simp at e0 e1 e2 e3 e4
    exact ⟨n, a, b, c, e, by rw [e0, e1, e2, e3, e4], w0, w1, w2, w3, w4⟩
end Go.Proofs.Ytdahaajfkjmflaa.s13

namespace Go.Proofs.Ytdahaajfkjmflaa.s14
set_option linter.unusedVariables false
set_option linter.unusedSimpArgs false
open Go.RowKit
open kit

open s13

open Go.ChangeShapes Go.WideShapes Go.Deep
set_option maxRecDepth 100000 in
theorem look_cells {H : Type} {enc : TypeId × Value → H} {w : World} {n : Nat} {cs' : List Value} {x : DataW H × List MemPlace} (hcl : cs'.length = 5) (h : DataW.trod enc Try.prog w 0 (fun _ => true) true n 25 cs' = some x) :
    ∃ y : V5, cs' = cells5 y := by
  obtain ⟨ys, n', hn', hy, hlen, hyl, hff⟩ := DataW.trod_struct Try.underlying25 h
  match cs', hcl with
  | [c0, c1, c2, c3, c4], _ =>
    match ys, hyl with
    | [y0, y1], _ =>
      have f0 : DataW.trod enc Try.prog w 0 (fun _ => true) true n' 3 [c0] = some y0 := hff 0 _ rfl
      have f1 : DataW.trod enc Try.prog w 0 (fun _ => true) true n' 23 [c1, c2, c3, c4] = some y1 := hff 1 _ rfl
      obtain ⟨z1, z2, z3, z4, n2, _, g1, g2, g3, g4⟩ := trod_array4 Try.underlying23 (by kernel_rfl) f1
      obtain ⟨n, e0, _, w0⟩ := DataW.trod_int Try.underlying3 f0
      obtain ⟨a, e1, _, w1⟩ := DataW.trod_int Try.underlying3 g1
      obtain ⟨b, e2, _, w2⟩ := DataW.trod_int Try.underlying3 g2
      obtain ⟨c, e3, _, w3⟩ := DataW.trod_int Try.underlying3 g3
      obtain ⟨e, e4, _, w4⟩ := DataW.trod_int Try.underlying3 g4
      simp at e0 e1 e2 e3 e4
      exact ⟨(n, a, b, c, e), by rw [e0, e1, e2, e3, e4]; rfl⟩
theorem open_looks {H : Type} {enc : TypeId × Value → H} {w : World} {fuel : Nat} {cs : List Value} {x : DataW H × List MemPlace} (h : DataW.trod enc Try.prog w 0 (fun _ => true) true fuel 22 cs = some x) :
    cs = [.slice none 0 0] ∨ ∃ (a : Addr) (len cap : Nat) (z : List V5), cs = [.slice (some a) len cap] ∧ len ≤ maxLen ∧ len ≤ cap ∧ z.length = len ∧ Reads5 w (some a) z := by
  rcases open_slice Try.underlying22 h with ⟨h0, _⟩ | ⟨a, len, cap, m, n, D, Pl, hcs, _, hl, hm, hmm, _, hi⟩
  · exact .inl h0
  · refine .inr ⟨a, len, cap, ?_⟩
    have hc5 : Try.prog.cellsOf 25 = 5 := by kernel_rfl
    rw [hc5] at hi
    have hmc : m = cap := by simpa using hmm
    have hcell : ∀ i, i < len → ∃ y : V5, w.cell? (a.add (i * 5)) = some (.int .i64 y.1) ∧ w.cell? (a.add (i * 5 + 1)) = some (.int .i64 y.2.1) ∧ w.cell? (a.add (i * 5 + 2)) = some (.int .i64 y.2.2.1) ∧ w.cell? (a.add (i * 5 + 3)) = some (.int .i64 y.2.2.2.1) ∧ w.cell? (a.add (i * 5 + 4)) = some (.int .i64 y.2.2.2.2) := fun i hil => by
      obtain ⟨cs', hc, ht'⟩ := hi i (by omega)
      obtain ⟨_, hcl, hat⟩ := World.cells?_some hc
      obtain ⟨y, rfl⟩ := look_cells hcl ht'
      have g0 := hat 0 (by omega)
      have g1 := hat 1 (by omega)
      have g2 := hat 2 (by omega)
      have g3 := hat 3 (by omega)
      have g4 := hat 4 (by omega)
      rw [add_add] at g0 g1 g2 g3 g4
      exact ⟨y, g0, g1, g2, g3, g4⟩
    have key : ∀ n, n ≤ len → ∃ z : List V5, z.length = n ∧ ∀ i, i < n → w.cell? (a.add (i * 5)) = some (.int .i64 (z[i]?.getD no5).1) ∧ w.cell? (a.add (i * 5 + 1)) = some (.int .i64 (z[i]?.getD no5).2.1) ∧ w.cell? (a.add (i * 5 + 2)) = some (.int .i64 (z[i]?.getD no5).2.2.1) ∧ w.cell? (a.add (i * 5 + 3)) = some (.int .i64 (z[i]?.getD no5).2.2.2.1) ∧ w.cell? (a.add (i * 5 + 4)) = some (.int .i64 (z[i]?.getD no5).2.2.2.2) := by
      intro n
      induction n with
      | zero => intro _; exact ⟨[], rfl, fun i hi => by omega⟩
      | succ n ih =>
        intro hn
        obtain ⟨z, hz, hall⟩ := ih (by omega)
        obtain ⟨y, hy⟩ := hcell n (by omega)
        refine ⟨z ++ [y], by simp [hz], fun i hi => ?_⟩
        by_cases e : i = n
        · subst e
          have : (z ++ [y])[i]?.getD no5 = y := by rw [List.getElem?_append_right (by omega), hz, Nat.sub_self]; rfl
          rw [this]; exact hy
        · rw [List.getElem?_append_left (by omega)]; exact hall i (by omega)
    obtain ⟨z, hz, hall⟩ := key len (Nat.le_refl _)
    refine ⟨z, hcs, by omega, by omega, hz, fun i hi => ?_⟩
    obtain ⟨b, off, spot⟩ := a
    have hspot : spot = none := by simpa [Addr.add] using World.cell?_spot (hall 0 (by omega)).1
    subst hspot
    obtain ⟨g0, g1, g2, g3, g4⟩ := hall i (by omega)
    rw [Go.WideShapes.add_plain] at g0 g1 g2 g3 g4
    exact ⟨b, off, rfl, cell_lt g0, g0, by rw [← Nat.add_assoc] at g1; exact g1, by rw [← Nat.add_assoc] at g2; exact g2, by rw [← Nat.add_assoc] at g3; exact g3, by rw [← Nat.add_assoc] at g4; exact g4⟩
end Go.Proofs.Ytdahaajfkjmflaa.s14
