/-
  Layer 14: LooksetParts. Layer 14: own; appending a row that may be empty. Layer 14: LooksetJoins.
-/
import Derived.Test.YtdahaajfkjmflaaG15
import Derived.Laws.OwnMore
namespace Go.Proofs.Ytdahaajfkjmflaa.s14
set_option linter.unusedVariables false
set_option linter.unusedSimpArgs false
open Go.RowKit
open kit

open s13

open Go.Shelf
set_option maxRecDepth 100000 in
set_option maxHeartbeats 10000000 in
theorem parts_law (p q r : Option Addr) (np nq nr cp cq cr : Nat) (lp lq lr : List Int) (k : Int) (w : World) (hlp : Hid (lp.length = np)) (hnp : np ≤ 9223372036854775807) (hbp : Hid (∀ z ∈ lp, -9223372036854775808 ≤ z ∧ z ≤ 9223372036854775807)) (Ip : Hid (ReadsI w p lp)) (hlq : Hid (lq.length = nq)) (hnq : nq ≤ 9223372036854775807) (hbq : Hid (∀ z ∈ lq, -9223372036854775808 ≤ z ∧ z ≤ 9223372036854775807)) (Iq : Hid (ReadsI w q lq)) (hlr : Hid (lr.length = nr)) (hnr : nr ≤ 9223372036854775807) (hbr : Hid (∀ z ∈ lr, -9223372036854775808 ≤ z ∧ z ≤ 9223372036854775807)) (Ir : Hid (ReadsI w r lr)) (k1 : -9223372036854775808 ≤ k) (k9 : k ≤ 9223372036854775807) :
    Calls Try.prog 7 #[.slice p np cp, .slice q nq cq, .slice r nr cr, .int .i64 k] w fun e w' => e = .returned (.bool true) ∧ Below w.heap.size w w' := by
  have B : Hid (Below w.heap.size w w) := Lib.hid (Below.refl _ _)
  obtain ⟨k2, hk2⟩ : ∃ r, k % 4 = r := ⟨_, rfl⟩
  have HK : ∀ W, Calls Try.prog 38 #[.int .i64 k, .int .i64 4] W fun e w' => e = .returned (.int .i64 k2) ∧ W = w' := fun W => by rw [← hk2]; exact mod_any k 4 k1 k9 (by omega) (by omega) W
  have HK := Lib.hid HK
  have b1 : 0 ≤ k2 ∧ k2 ≤ 3 := by omega
  obtain ⟨K, hK⟩ : ∃ K : Nat, 1 + k2 = (K : Int) := ⟨(1 + k2).toNat, by omega⟩
  have hK1 : 1 ≤ K := by omega
  have hK4 : K ≤ 4 := by omega
  obtain ⟨b11, b12⟩ := b1
  have SO : Hid (SetD [] 0) := Lib.hid setD_nil
  have QO : Hid (0 ≤ 0) := Lib.hid (Nat.le_refl _)
  clear hk2
  go_enter Try.func7, Try.ntmps7
  go_wp2_with (fail)
  go_at_call 5
  refine (known_any _).mono ?_
  rintro e w1 ⟨rfl, hB⟩
  have hC := hB
  replace Ip := Lib.hid (Ip.out.below hC)
  replace Iq := Lib.hid (Iq.out.below hC)
  replace Ir := Lib.hid (Ir.out.below hC)
  replace B := Lib.hid (below_then B.out hC)
  clear hB hC
  go_wp2_with (fail)
  go_at_call 37
  refine (lmade_any p np cp lp _ hlp hnp hbp Ip).mono ?_
  rintro e w2 ⟨pA, cA, NA, A, rfl, hl, h16, hc, ha, ho, hR, hB⟩
  have SA : Hid (SetD A NA) := Lib.hid ⟨ha, ho, hl⟩
  have RA := Lib.hid hR
  have QA := Lib.hid hc
  have MA := Lib.hid h16
  have hC := hB
  replace Ip := Lib.hid (Ip.out.below hC)
  replace Iq := Lib.hid (Iq.out.below hC)
  replace Ir := Lib.hid (Ir.out.below hC)
  replace B := Lib.hid (below_then B.out hC)
  clear hB hC
  clear hl h16 hc ha ho hR
  go_wp2_with (fail)
  go_at_call 37
  refine (lmade_any q nq cq lq _ hlq hnq hbq Iq).mono ?_
  rintro e w3 ⟨pD, cD, ND, D, rfl, hl, h16, hc, ha, ho, hR, hB⟩
  have SD : Hid (SetD D ND) := Lib.hid ⟨ha, ho, hl⟩
  have RD := Lib.hid hR
  have QD := Lib.hid hc
  have MD := Lib.hid h16
  have hC := hB
  replace RA := Lib.hid (RA.out.below hC)
  replace Iq := Lib.hid (Iq.out.below hC)
  replace Ir := Lib.hid (Ir.out.below hC)
  replace B := Lib.hid (below_then B.out hC)
  clear hB hC
  clear hl h16 hc ha ho hR
  go_wp2_with (fail)
  go_at_call 37
  refine (lmade_any r nr cr lr _ hlr hnr hbr Ir).mono ?_
  rintro e w4 ⟨pC, cC, NC, C, rfl, hl, h16, hc, ha, ho, hR, hB⟩
  have SC : Hid (SetD C NC) := Lib.hid ⟨ha, ho, hl⟩
  have RC := Lib.hid hR
  have QC := Lib.hid hc
  have MC := Lib.hid h16
  have hC := hB
  replace RA := Lib.hid (RA.out.below hC)
  replace RD := Lib.hid (RD.out.below hC)
  replace Ir := Lib.hid (Ir.out.below hC)
  replace B := Lib.hid (below_then B.out hC)
  clear hB hC
  clear hl h16 hc ha ho hR
  go_wp2_with (fail)
  go_at_call 38
  refine (HK.out _).mono ?_
  rintro e _ ⟨rfl, rfl⟩
  go_wp2_with (fail)
  go_at_call 32
  refine (cut_d K pA NA cA _ _ (by omega) (by omega) SA RA).mono ?_
  rintro e w5 ⟨pX, cX, NX, rfl, hS, hR, hB, hX⟩
  have SX := Lib.hid hS
  have RX := Lib.hid hR
  have QX := Lib.hid hX
  have hC := hB
  replace RA := Lib.hid (RA.out.below hC)
  replace RD := Lib.hid (RD.out.below hC)
  replace RC := Lib.hid (RC.out.below hC)
  replace B := Lib.hid (below_then B.out hC)
  clear hB hC
  clear hS hR hX
  go_wp2_with (fail)
  go_at_call 35
  refine (lx_0 _ _).mono ?_
  rintro e w6 ⟨rfl, hB⟩
  have hC := hB
  replace RA := Lib.hid (RA.out.below hC)
  replace RD := Lib.hid (RD.out.below hC)
  replace RC := Lib.hid (RC.out.below hC)
  replace RX := Lib.hid (RX.out.below hC)
  replace B := Lib.hid (below_then B.out hC)
  clear hB hC
  go_wp2_with (fail)
  go_at_call 34
  refine (lset_row _ 1 1 (([[]] : List (List Int)).map pad5) _ (reads5_block (Box.new _ _ _) rfl)).mono ?_
  rintro e w7 ⟨rfl, hR, hB⟩
  have RE := Lib.hid hR
  have hC := (made1 hB).2
  replace RA := Lib.hid (RA.out.below hC)
  replace RD := Lib.hid (RD.out.below hC)
  replace RC := Lib.hid (RC.out.below hC)
  replace RX := Lib.hid (RX.out.below hC)
  replace B := Lib.hid (below_then B.out hC)
  clear hB hC
  clear hR
  have SE : Hid (SetD [[]] 1) := Lib.hid setD_eps
  have QE : Hid (1 ≤ 1) := Lib.hid (Nat.le_refl _)
  go_wp2_with (fail)
  go_at_call 30
  refine (sum_d K _ pA 1 NA 1 cA _ _ _ (by omega) (by omega) SE SA (prod16 (by omega) SA.out.le) RE RA QE.out QA.out).mono ?_
  rintro e w8 ⟨pL, cL, NL, rfl, hS, hR, hB, hL⟩
  have SL := Lib.hid hS
  have RL := Lib.hid hR
  have QL := Lib.hid hL
  have hC := hB
  replace RA := Lib.hid (RA.out.below hC)
  replace RD := Lib.hid (RD.out.below hC)
  replace RC := Lib.hid (RC.out.below hC)
  replace RX := Lib.hid (RX.out.below hC)
  replace RE := Lib.hid (RE.out.below hC)
  replace B := Lib.hid (below_then B.out hC)
  clear hB hC
  clear hS hR hL
  go_wp2_with (fail)
  go_at_call 35
  refine (lx_0 _ _).mono ?_
  rintro e w9 ⟨rfl, hB⟩
  have hC := hB
  replace RA := Lib.hid (RA.out.below hC)
  replace RD := Lib.hid (RD.out.below hC)
  replace RC := Lib.hid (RC.out.below hC)
  replace RX := Lib.hid (RX.out.below hC)
  replace RE := Lib.hid (RE.out.below hC)
  replace RL := Lib.hid (RL.out.below hC)
  replace B := Lib.hid (below_then B.out hC)
  clear hB hC
  go_wp2_with (fail)
  go_at_call 34
  refine (lset_row _ 1 1 (([[]] : List (List Int)).map pad5) _ (reads5_block (Box.new _ _ _) rfl)).mono ?_
  rintro e w10 ⟨rfl, hR, hB⟩
  have RF := Lib.hid hR
  have hC := (made1 hB).2
  replace RA := Lib.hid (RA.out.below hC)
  replace RD := Lib.hid (RD.out.below hC)
  replace RC := Lib.hid (RC.out.below hC)
  replace RX := Lib.hid (RX.out.below hC)
  replace RE := Lib.hid (RE.out.below hC)
  replace RL := Lib.hid (RL.out.below hC)
  replace B := Lib.hid (below_then B.out hC)
  clear hB hC
  clear hR
  have SF : Hid (SetD [[]] 1) := Lib.hid setD_eps
  have QF : Hid (1 ≤ 1) := Lib.hid (Nat.le_refl _)
  go_wp2_with (fail)
  go_at_call 30
  refine (sum_d K pA _ NA 1 cA 1 _ _ _ (by omega) (by omega) SA SF (prod16 MA.out (by omega)) RA RF QA.out QF.out).mono ?_
  rintro e w11 ⟨pRt, cRt, NRt, rfl, hS, hR, hB, hRt⟩
  have SRt := Lib.hid hS
  have RRt := Lib.hid hR
  have QRt := Lib.hid hRt
  have hC := hB
  replace RA := Lib.hid (RA.out.below hC)
  replace RD := Lib.hid (RD.out.below hC)
  replace RC := Lib.hid (RC.out.below hC)
  replace RX := Lib.hid (RX.out.below hC)
  replace RE := Lib.hid (RE.out.below hC)
  replace RL := Lib.hid (RL.out.below hC)
  replace RF := Lib.hid (RF.out.below hC)
  replace B := Lib.hid (below_then B.out hC)
  clear hB hC
  clear hS hR hRt
  go_wp2_with (fail)
  go_at_call 30
  refine (sum_d K pA none NA 0 cA 0 _ _ _ (by omega) (by omega) SA SO (by omega) RA (Lib.hid (Reads5.nil _ _)) QA.out QO.out).mono ?_
  rintro e w12 ⟨pZ, cZ, NZ, rfl, hS, hR, hB, hZ⟩
  have SZ := Lib.hid hS
  have RZ := Lib.hid hR
  have QZ := Lib.hid hZ
  have hC := hB
  replace RA := Lib.hid (RA.out.below hC)
  replace RD := Lib.hid (RD.out.below hC)
  replace RC := Lib.hid (RC.out.below hC)
  replace RX := Lib.hid (RX.out.below hC)
  replace RE := Lib.hid (RE.out.below hC)
  replace RL := Lib.hid (RL.out.below hC)
  replace RF := Lib.hid (RF.out.below hC)
  replace RRt := Lib.hid (RRt.out.below hC)
  replace B := Lib.hid (below_then B.out hC)
  clear hB hC
  clear hS hR hZ
  obtain rfl : NZ = 0 := by have h1 := SZ.out.len; rw [sum_nil SA.out.asc] at h1; exact h1.symm
  go_wp2_with (fail)
  go_at_call 30
  refine (sum_d K pA pD NA ND cA cD _ _ _ (by omega) (by omega) SA SD (prod16 MA.out SD.out.le) RA RD QA.out QD.out).mono ?_
  rintro e w13 ⟨pAB, cAB, NAB, rfl, hS, hR, hB, hAB⟩
  have SAB := Lib.hid hS
  have RAB := Lib.hid hR
  have QAB := Lib.hid hAB
  have hC := hB
  replace RA := Lib.hid (RA.out.below hC)
  replace RD := Lib.hid (RD.out.below hC)
  replace RC := Lib.hid (RC.out.below hC)
  replace RX := Lib.hid (RX.out.below hC)
  replace RE := Lib.hid (RE.out.below hC)
  replace RL := Lib.hid (RL.out.below hC)
  replace RF := Lib.hid (RF.out.below hC)
  replace RRt := Lib.hid (RRt.out.below hC)
  replace RZ := Lib.hid (RZ.out.below hC)
  replace B := Lib.hid (below_then B.out hC)
  clear hB hC
  clear hS hR hAB
  go_wp2_with (fail)
  go_at_call 30
  refine (sum_d K pAB pC NAB NC cAB cC _ _ _ (by omega) (by omega) SAB SC (prod61 SAB.out.le (Nat.le_trans MC.out (by omega))) RAB RC QAB.out QC.out).mono ?_
  rintro e w14 ⟨pOne, cOne, NOne, rfl, hS, hR, hB, hOne⟩
  have SOne := Lib.hid hS
  have ROne := Lib.hid hR
  have QOne := Lib.hid hOne
  have hC := hB
  replace RA := Lib.hid (RA.out.below hC)
  replace RD := Lib.hid (RD.out.below hC)
  replace RC := Lib.hid (RC.out.below hC)
  replace RX := Lib.hid (RX.out.below hC)
  replace RE := Lib.hid (RE.out.below hC)
  replace RL := Lib.hid (RL.out.below hC)
  replace RF := Lib.hid (RF.out.below hC)
  replace RRt := Lib.hid (RRt.out.below hC)
  replace RZ := Lib.hid (RZ.out.below hC)
  replace RAB := Lib.hid (RAB.out.below hC)
  replace B := Lib.hid (below_then B.out hC)
  clear hB hC
  clear hS hR hOne
  go_wp2_with (fail)
  go_at_call 30
  refine (sum_d K pD pC ND NC cD cC _ _ _ (by omega) (by omega) SD SC (prod16 MD.out SC.out.le) RD RC QD.out QC.out).mono ?_
  rintro e w15 ⟨pBC, cBC, NBC, rfl, hS, hR, hB, hBC⟩
  have SBC := Lib.hid hS
  have RBC := Lib.hid hR
  have QBC := Lib.hid hBC
  have hC := hB
  replace RA := Lib.hid (RA.out.below hC)
  replace RD := Lib.hid (RD.out.below hC)
  replace RC := Lib.hid (RC.out.below hC)
  replace RX := Lib.hid (RX.out.below hC)
  replace RE := Lib.hid (RE.out.below hC)
  replace RL := Lib.hid (RL.out.below hC)
  replace RF := Lib.hid (RF.out.below hC)
  replace RRt := Lib.hid (RRt.out.below hC)
  replace RZ := Lib.hid (RZ.out.below hC)
  replace RAB := Lib.hid (RAB.out.below hC)
  replace ROne := Lib.hid (ROne.out.below hC)
  replace B := Lib.hid (below_then B.out hC)
  clear hB hC
  clear hS hR hBC
  go_wp2_with (fail)
  go_at_call 30
  refine (sum_d K pA pBC NA NBC cA cBC _ _ _ (by omega) (by omega) SA SBC (prod16 MA.out SBC.out.le) RA RBC QA.out QBC.out).mono ?_
  rintro e w16 ⟨pTwo, cTwo, NTwo, rfl, hS, hR, hB, hTwo⟩
  have STwo := Lib.hid hS
  have RTwo := Lib.hid hR
  have QTwo := Lib.hid hTwo
  have hC := hB
  replace RA := Lib.hid (RA.out.below hC)
  replace RD := Lib.hid (RD.out.below hC)
  replace RC := Lib.hid (RC.out.below hC)
  replace RX := Lib.hid (RX.out.below hC)
  replace RE := Lib.hid (RE.out.below hC)
  replace RL := Lib.hid (RL.out.below hC)
  replace RF := Lib.hid (RF.out.below hC)
  replace RRt := Lib.hid (RRt.out.below hC)
  replace RZ := Lib.hid (RZ.out.below hC)
  replace RAB := Lib.hid (RAB.out.below hC)
  replace ROne := Lib.hid (ROne.out.below hC)
  replace RBC := Lib.hid (RBC.out.below hC)
  replace B := Lib.hid (below_then B.out hC)
  clear hB hC
  clear hS hR hTwo
  go_wp2_with (fail)
  go_at_call 15
  refine (same_d pX pL NX NL cX cL _ _ _ SX SL RX RL (Lib.hid (cut_left SA.out.asc K))).mono ?_
  rintro e w17 ⟨rfl, hB⟩
  have hC := hB
  replace RA := Lib.hid (RA.out.below hC)
  replace RD := Lib.hid (RD.out.below hC)
  replace RC := Lib.hid (RC.out.below hC)
  replace RX := Lib.hid (RX.out.below hC)
  replace RE := Lib.hid (RE.out.below hC)
  replace RL := Lib.hid (RL.out.below hC)
  replace RF := Lib.hid (RF.out.below hC)
  replace RRt := Lib.hid (RRt.out.below hC)
  replace RZ := Lib.hid (RZ.out.below hC)
  replace RAB := Lib.hid (RAB.out.below hC)
  replace ROne := Lib.hid (ROne.out.below hC)
  replace RBC := Lib.hid (RBC.out.below hC)
  replace RTwo := Lib.hid (RTwo.out.below hC)
  replace B := Lib.hid (below_then B.out hC)
  clear hB hC
  go_wp2_with (fail)
  go_at_call 15
  refine (same_d pX pRt NX NRt cX cRt _ _ _ SX SRt RX RRt (Lib.hid (cut_right SA.out.asc K))).mono ?_
  rintro e w18 ⟨rfl, hB⟩
  have hC := hB
  replace RA := Lib.hid (RA.out.below hC)
  replace RD := Lib.hid (RD.out.below hC)
  replace RC := Lib.hid (RC.out.below hC)
  replace RX := Lib.hid (RX.out.below hC)
  replace RE := Lib.hid (RE.out.below hC)
  replace RL := Lib.hid (RL.out.below hC)
  replace RF := Lib.hid (RF.out.below hC)
  replace RRt := Lib.hid (RRt.out.below hC)
  replace RZ := Lib.hid (RZ.out.below hC)
  replace RAB := Lib.hid (RAB.out.below hC)
  replace ROne := Lib.hid (ROne.out.below hC)
  replace RBC := Lib.hid (RBC.out.below hC)
  replace RTwo := Lib.hid (RTwo.out.below hC)
  replace B := Lib.hid (below_then B.out hC)
  clear hB hC
  go_wp2_with (fail)
  go_at_call 15
  refine (same_d pOne pTwo NOne NTwo cOne cTwo _ _ _ SOne STwo ROne RTwo (Lib.hid (sum_assoc SA.out.asc SD.out.asc SC.out.asc K))).mono ?_
  rintro e w19 ⟨rfl, hB⟩
  have hC := hB
  replace RA := Lib.hid (RA.out.below hC)
  replace RD := Lib.hid (RD.out.below hC)
  replace RC := Lib.hid (RC.out.below hC)
  replace RX := Lib.hid (RX.out.below hC)
  replace RE := Lib.hid (RE.out.below hC)
  replace RL := Lib.hid (RL.out.below hC)
  replace RF := Lib.hid (RF.out.below hC)
  replace RRt := Lib.hid (RRt.out.below hC)
  replace RZ := Lib.hid (RZ.out.below hC)
  replace RAB := Lib.hid (RAB.out.below hC)
  replace ROne := Lib.hid (ROne.out.below hC)
  replace RBC := Lib.hid (RBC.out.below hC)
  replace RTwo := Lib.hid (RTwo.out.below hC)
  replace B := Lib.hid (below_then B.out hC)
  clear hB hC
  go_wp2_with (fail)
  go_at_call 18
  refine (uni2_d pD pC ND NC cD cC _ _ _ _ _ (Box.new _ _ _) SD SC (Lib.hid (RD.out.alloc _)) (Lib.hid (RC.out.alloc _)) QD.out QC.out).mono ?_
  rintro e w20 ⟨pU, cU, NU, rfl, hS, hR, hB, hU⟩
  have SU := Lib.hid hS
  have RU := Lib.hid hR
  have QU := Lib.hid hU
  have hC := (made1 hB).2
  replace RA := Lib.hid (RA.out.below hC)
  replace RD := Lib.hid (RD.out.below hC)
  replace RC := Lib.hid (RC.out.below hC)
  replace RX := Lib.hid (RX.out.below hC)
  replace RE := Lib.hid (RE.out.below hC)
  replace RL := Lib.hid (RL.out.below hC)
  replace RF := Lib.hid (RF.out.below hC)
  replace RRt := Lib.hid (RRt.out.below hC)
  replace RZ := Lib.hid (RZ.out.below hC)
  replace RAB := Lib.hid (RAB.out.below hC)
  replace ROne := Lib.hid (ROne.out.below hC)
  replace RBC := Lib.hid (RBC.out.below hC)
  replace RTwo := Lib.hid (RTwo.out.below hC)
  replace B := Lib.hid (below_then B.out hC)
  clear hB hC
  clear hS hR hU
  go_wp2_with (fail)
  go_at_call 30
  refine (sum_d K pA pU NA NU cA cU _ _ _ (by omega) (by omega) SA SU (prod16 MA.out SU.out.le) RA RU QA.out QU.out).mono ?_
  rintro e w21 ⟨pWh, cWh, NWh, rfl, hS, hR, hB, hWh⟩
  have SWh := Lib.hid hS
  have RWh := Lib.hid hR
  have QWh := Lib.hid hWh
  have hC := hB
  replace RA := Lib.hid (RA.out.below hC)
  replace RD := Lib.hid (RD.out.below hC)
  replace RC := Lib.hid (RC.out.below hC)
  replace RX := Lib.hid (RX.out.below hC)
  replace RE := Lib.hid (RE.out.below hC)
  replace RL := Lib.hid (RL.out.below hC)
  replace RF := Lib.hid (RF.out.below hC)
  replace RRt := Lib.hid (RRt.out.below hC)
  replace RZ := Lib.hid (RZ.out.below hC)
  replace RAB := Lib.hid (RAB.out.below hC)
  replace ROne := Lib.hid (ROne.out.below hC)
  replace RBC := Lib.hid (RBC.out.below hC)
  replace RTwo := Lib.hid (RTwo.out.below hC)
  replace RU := Lib.hid (RU.out.below hC)
  replace B := Lib.hid (below_then B.out hC)
  clear hB hC
  clear hS hR hWh
  go_wp2_with (fail)
  go_at_call 30
  refine (sum_d K pA pC NA NC cA cC _ _ _ (by omega) (by omega) SA SC (prod16 MA.out SC.out.le) RA RC QA.out QC.out).mono ?_
  rintro e w22 ⟨pAC, cAC, NAC, rfl, hS, hR, hB, hAC⟩
  have SAC := Lib.hid hS
  have RAC := Lib.hid hR
  have QAC := Lib.hid hAC
  have hC := hB
  replace RA := Lib.hid (RA.out.below hC)
  replace RD := Lib.hid (RD.out.below hC)
  replace RC := Lib.hid (RC.out.below hC)
  replace RX := Lib.hid (RX.out.below hC)
  replace RE := Lib.hid (RE.out.below hC)
  replace RL := Lib.hid (RL.out.below hC)
  replace RF := Lib.hid (RF.out.below hC)
  replace RRt := Lib.hid (RRt.out.below hC)
  replace RZ := Lib.hid (RZ.out.below hC)
  replace RAB := Lib.hid (RAB.out.below hC)
  replace ROne := Lib.hid (ROne.out.below hC)
  replace RBC := Lib.hid (RBC.out.below hC)
  replace RTwo := Lib.hid (RTwo.out.below hC)
  replace RU := Lib.hid (RU.out.below hC)
  replace RWh := Lib.hid (RWh.out.below hC)
  replace B := Lib.hid (below_then B.out hC)
  clear hB hC
  clear hS hR hAC
  go_wp2_with (fail)
  go_at_call 18
  refine (uni2_d pAB pAC NAB NAC cAB cAC _ _ _ _ _ (Box.new _ _ _) SAB SAC (Lib.hid (RAB.out.alloc _)) (Lib.hid (RAC.out.alloc _)) QAB.out QAC.out).mono ?_
  rintro e w23 ⟨pPa, cPa, NPa, rfl, hS, hR, hB, hPa⟩
  have SPa := Lib.hid hS
  have RPa := Lib.hid hR
  have QPa := Lib.hid hPa
  have hC := (made1 hB).2
  replace RA := Lib.hid (RA.out.below hC)
  replace RD := Lib.hid (RD.out.below hC)
  replace RC := Lib.hid (RC.out.below hC)
  replace RX := Lib.hid (RX.out.below hC)
  replace RE := Lib.hid (RE.out.below hC)
  replace RL := Lib.hid (RL.out.below hC)
  replace RF := Lib.hid (RF.out.below hC)
  replace RRt := Lib.hid (RRt.out.below hC)
  replace RZ := Lib.hid (RZ.out.below hC)
  replace RAB := Lib.hid (RAB.out.below hC)
  replace ROne := Lib.hid (ROne.out.below hC)
  replace RBC := Lib.hid (RBC.out.below hC)
  replace RTwo := Lib.hid (RTwo.out.below hC)
  replace RU := Lib.hid (RU.out.below hC)
  replace RWh := Lib.hid (RWh.out.below hC)
  replace RAC := Lib.hid (RAC.out.below hC)
  replace B := Lib.hid (below_then B.out hC)
  clear hB hC
  clear hS hR hPa
  go_wp2_with (fail)
  go_at_call 15
  refine (same_d pWh pPa NWh NPa cWh cPa _ _ _ SWh SPa RWh RPa (Lib.hid (sum_uni SA.out.asc SD.out.asc SC.out.asc K))).mono ?_
  rintro e w24 ⟨rfl, hB⟩
  have hC := hB
  replace RA := Lib.hid (RA.out.below hC)
  replace RD := Lib.hid (RD.out.below hC)
  replace RC := Lib.hid (RC.out.below hC)
  replace RX := Lib.hid (RX.out.below hC)
  replace RE := Lib.hid (RE.out.below hC)
  replace RL := Lib.hid (RL.out.below hC)
  replace RF := Lib.hid (RF.out.below hC)
  replace RRt := Lib.hid (RRt.out.below hC)
  replace RZ := Lib.hid (RZ.out.below hC)
  replace RAB := Lib.hid (RAB.out.below hC)
  replace ROne := Lib.hid (ROne.out.below hC)
  replace RBC := Lib.hid (RBC.out.below hC)
  replace RTwo := Lib.hid (RTwo.out.below hC)
  replace RU := Lib.hid (RU.out.below hC)
  replace RWh := Lib.hid (RWh.out.below hC)
  replace RAC := Lib.hid (RAC.out.below hC)
  replace RPa := Lib.hid (RPa.out.below hC)
  replace B := Lib.hid (below_then B.out hC)
  clear hB hC
  go_wp2
  go_ret
  exact ⟨rfl, B.out⟩
end Go.Proofs.Ytdahaajfkjmflaa.s14

namespace Go.Proofs.Ytdahaajfkjmflaa.s14
set_option linter.unusedVariables false
set_option linter.unusedSimpArgs false
open Go.RowKit
open kit

open s13

open Go.Shelf
theorem run_append_none5 {w : World} {base n c : Nat} {ty : TypeId} {v : Value} {xs : List Value} (hown : w.ownsRow base 25 5 v n xs) : (Builtin.append_ #[22, 22] ty #[v, .slice none 0 c]).run Try.prog w = .ok v w := by
  obtain ⟨i0, hi, hz0, hz1, hz2⟩ := info_parts info5
  have ht := Try.underlying22
  rcases hown.2 with ⟨rfl, rfl⟩ | ⟨g, cap, cur, rfl, _, _, hnc, _⟩
  · simp [Builtin.append_, run_underlying ht, sizeOf, typeInfo, hi, Builtin.lenOf, Builtin.firstCells]
  · simp [Builtin.append_, run_underlying ht, sizeOf, typeInfo, hi, Builtin.lenOf, Builtin.firstCells, hnc, storeCells]
theorem append_all5 {w : World} {ops : Array Oper} {rest : List Oper} {o : Oper} {a : Act} {Q : Exit → Act → World → Prop}
    (hg : o.guard = none) (s x : Operand) (hop : o.op = Op.call { callee := Callee.builtin Builtin.append, args := #[s, x], argTypes := #[22, 22] })
    (base : Nat) (v : Value) (k : Nat) (L1 : List V5) (hs : a.eval s = v) (hown : w.ownsRow base 25 5 v k (flat5 L1)) (src : Option Addr) (L2 : List V5) (n c : Nat) (hx : a.eval x = .slice src n c) (hn : L2.length = n) (hsrc : Reads5 w src L2)
    (hk : k + n ≤ 100000) (hb : base ≤ w.heap.size)
    (hK : ∀ v' w', w'.ownsRow base 25 5 v' (k + n) (flat5 (L1 ++ L2)) → Below base w w' → wpList Try.prog ops Q rest (a.put o.dst v') w') :
    wpList Try.prog ops Q (o :: rest) a w := by
  by_cases hp : 0 < n
  · exact append_in5 hg s x hop base v k L1 hs hown src L2 n c hx hn hp hsrc hk hb hK
  · obtain rfl : n = 0 := by omega
    obtain rfl : L2 = [] := List.length_eq_zero_iff.1 hn
    rcases src with _ | ad
    · refine wpList_plain hg fun K hK2 => ?_
      have hrun := run_append_none5 (ty := o.type) (c := c) hown
      unfold Oper.wp
      simp [execOp, hop, resolve, invoke, builtin, hs, hx, hrun, Result.andThen]
      exact hK2 _ _ (hK v w (by rw [List.append_nil]; exact hown) (Below.refl _ _))
    · obtain ⟨i0, hi, hz0, hz1, hz2⟩ := info_parts info5
      refine wpList_append_own w hg s x 22 hop base 25 i0 (.agg #[.int .i64 0, .int .i64 0, .int .i64 0, .int .i64 0, .int .i64 0]) 5 40 Try.underlying22 hi hz0 hz1 hz2 rfl (by decide) v k _ hs hown ad 0 c (flat5 []) hx rfl (fun j u h => by simp [flat5] at h) (fun u h => by simp [flat5] at h) (by unfold maxLen; omega) (by omega) hb fun v' w' h1 h2 _ => hK v' w' (by rw [flat5_app]; exact h1) (below_grown5 (Below.refl _ _) hown h2 hb)
theorem empty_row5 (w : World) (base : Nat) (hb : base ≤ w.heap.size) : (w.alloc (.cells #[] 25)).ownsRow base 25 5 (.slice (some ⟨w.heap.size, 0, none⟩) 0 0) 0 (flat5 []) :=
  ⟨rfl, .inr ⟨w.heap.size, 0, #[], rfl, hb, World.alloc_heap_new w _, by omega, by unfold maxLen; omega, rfl, rfl⟩⟩
set_option maxRecDepth 100000 in
set_option maxHeartbeats 2000000 in
theorem lown_any (a : Option Addr) (n c : Nat) (l : List V5) (w : World) (hl : Hid (l.length = n)) (hn : n ≤ 60000) (hr : Hid (Reads5 w a l)) :
    Calls Try.prog 10 #[.slice a n c] w fun e w' => ∃ v, e = .returned v ∧ w'.ownsRow w.heap.size 25 5 v n (flat5 l) ∧ Below w.heap.size w w' := by
  go_enter Try.func10, Try.ntmps10
  go_wp2_with (at_builtin; refine append_all5 rfl (.tmp 3) (.tmp 4) rfl w.heap.size _ 0 [] rfl (empty_row5 w _ (Nat.le_refl _)) _ l n c rfl hl.out (hr.out.alloc _) (by omega) (by simp) ?_; intro v3 w3 hv3 hB3; have O3 := Lib.hid hv3; have B3 := Lib.hid (((Below.refl w.heap.size w).alloc (Nat.le_refl _) (.cells #[] 25)).trans hB3); clear hv3 hB3)
  go_ret
  exact ⟨_, rfl, by have h := O3.out; rw [Nat.zero_add, List.nil_append] at h; exact h, B3.out⟩
theorem of_d (a : Option Addr) (n c : Nat) (L : List (List Int)) (w : World) (hl : Hid (L.length = n)) (hn : n ≤ 20000) (hL : Hid (∀ x ∈ L, okL 3 x)) (hr : Hid (Reads5 w a (L.map pad5))) : Calls Try.prog 13 #[.int .i64 3, .slice a n c] w (Ret5 w (setS L)) :=
  (pof_set 3 a n c L w (by omega) (by omega) hl hn hL hr _ _ (Lib.hid rfl) (Lib.hid rfl)).mono (fun e w' h => by
    obtain ⟨p, cp, e1, r1, b1, c1⟩ := h
    exact ⟨p, cp, _, e1, ⟨setS_asc L, setS_ok hL.out, rfl⟩, r1, b1, c1⟩)
end Go.Proofs.Ytdahaajfkjmflaa.s14

namespace Go.Proofs.Ytdahaajfkjmflaa.s14
set_option linter.unusedVariables false
set_option linter.unusedSimpArgs false
open Go.RowKit
open kit

open s13

open Go.Shelf
set_option maxRecDepth 100000 in
set_option maxHeartbeats 10000000 in
theorem joins_law (p q r : Option Addr) (np nq nr cp cq cr : Nat) (lp lq lr : List Int) (w : World) (hlp : Hid (lp.length = np)) (hnp : np ≤ 9223372036854775807) (hbp : Hid (∀ z ∈ lp, -9223372036854775808 ≤ z ∧ z ≤ 9223372036854775807)) (Ip : Hid (ReadsI w p lp)) (hlq : Hid (lq.length = nq)) (hnq : nq ≤ 9223372036854775807) (hbq : Hid (∀ z ∈ lq, -9223372036854775808 ≤ z ∧ z ≤ 9223372036854775807)) (Iq : Hid (ReadsI w q lq)) (hlr : Hid (lr.length = nr)) (hnr : nr ≤ 9223372036854775807) (hbr : Hid (∀ z ∈ lr, -9223372036854775808 ≤ z ∧ z ≤ 9223372036854775807)) (Ir : Hid (ReadsI w r lr)) :
    Calls Try.prog 6 #[.slice p np cp, .slice q nq cq, .slice r nr cr] w fun e w' => e = .returned (.bool true) ∧ Below w.heap.size w w' := by
  have B : Hid (Below w.heap.size w w) := Lib.hid (Below.refl _ _)
  go_enter Try.func6, Try.ntmps6
  go_wp2_with (fail)
  go_at_call 5
  refine (known_any _).mono ?_
  rintro e w1 ⟨rfl, hB⟩
  have hC := hB
  replace Ip := Lib.hid (Ip.out.below hC)
  replace Iq := Lib.hid (Iq.out.below hC)
  replace Ir := Lib.hid (Ir.out.below hC)
  replace B := Lib.hid (below_then B.out hC)
  clear hB hC
  go_wp2_with (fail)
  go_at_call 37
  refine (lmade_any p np cp lp _ hlp hnp hbp Ip).mono ?_
  rintro e w2 ⟨pA, cA, NA, A, rfl, hl, h16, hc, ha, ho, hR, hB⟩
  have SA : Hid (SetD A NA) := Lib.hid ⟨ha, ho, hl⟩
  have RA := Lib.hid hR
  have QA := Lib.hid hc
  have MA := Lib.hid h16
  have hC := hB
  replace Ip := Lib.hid (Ip.out.below hC)
  replace Iq := Lib.hid (Iq.out.below hC)
  replace Ir := Lib.hid (Ir.out.below hC)
  replace B := Lib.hid (below_then B.out hC)
  clear hB hC
  clear hl h16 hc ha ho hR
  go_wp2_with (fail)
  go_at_call 37
  refine (lmade_any q nq cq lq _ hlq hnq hbq Iq).mono ?_
  rintro e w3 ⟨pD, cD, ND, D, rfl, hl, h16, hc, ha, ho, hR, hB⟩
  have SD : Hid (SetD D ND) := Lib.hid ⟨ha, ho, hl⟩
  have RD := Lib.hid hR
  have QD := Lib.hid hc
  have MD := Lib.hid h16
  have hC := hB
  replace RA := Lib.hid (RA.out.below hC)
  replace Iq := Lib.hid (Iq.out.below hC)
  replace Ir := Lib.hid (Ir.out.below hC)
  replace B := Lib.hid (below_then B.out hC)
  clear hB hC
  clear hl h16 hc ha ho hR
  go_wp2_with (fail)
  go_at_call 37
  refine (lmade_any r nr cr lr _ hlr hnr hbr Ir).mono ?_
  rintro e w4 ⟨pC, cC, NC, C, rfl, hl, h16, hc, ha, ho, hR, hB⟩
  have SC : Hid (SetD C NC) := Lib.hid ⟨ha, ho, hl⟩
  have RC := Lib.hid hR
  have QC := Lib.hid hc
  have MC := Lib.hid h16
  have hC := hB
  replace RA := Lib.hid (RA.out.below hC)
  replace RD := Lib.hid (RD.out.below hC)
  replace Ir := Lib.hid (Ir.out.below hC)
  replace B := Lib.hid (below_then B.out hC)
  clear hB hC
  clear hl h16 hc ha ho hR
  go_wp2_with (fail)
  go_at_call 18
  refine (uni2_d pA pD NA ND cA cD _ _ _ _ _ (Box.new _ _ _) SA SD (Lib.hid (RA.out.alloc _)) (Lib.hid (RD.out.alloc _)) QA.out QD.out).mono ?_
  rintro e w5 ⟨pAB, cAB, NAB, rfl, hS, hR, hB, hAB⟩
  have SAB := Lib.hid hS
  have RAB := Lib.hid hR
  have QAB := Lib.hid hAB
  have hC := (made1 hB).2
  replace RA := Lib.hid (RA.out.below hC)
  replace RD := Lib.hid (RD.out.below hC)
  replace RC := Lib.hid (RC.out.below hC)
  replace B := Lib.hid (below_then B.out hC)
  clear hB hC
  clear hS hR hAB
  go_wp2_with (fail)
  go_at_call 18
  refine (uni2_d pD pA ND NA cD cA _ _ _ _ _ (Box.new _ _ _) SD SA (Lib.hid (RD.out.alloc _)) (Lib.hid (RA.out.alloc _)) QD.out QA.out).mono ?_
  rintro e w6 ⟨pBA, cBA, NBA, rfl, hS, hR, hB, hBA⟩
  have SBA := Lib.hid hS
  have RBA := Lib.hid hR
  have QBA := Lib.hid hBA
  have hC := (made1 hB).2
  replace RA := Lib.hid (RA.out.below hC)
  replace RD := Lib.hid (RD.out.below hC)
  replace RC := Lib.hid (RC.out.below hC)
  replace RAB := Lib.hid (RAB.out.below hC)
  replace B := Lib.hid (below_then B.out hC)
  clear hB hC
  clear hS hR hBA
  go_wp2_with (fail)
  go_at_call 18
  refine (uni2_d pAB pC NAB NC cAB cC _ _ _ _ _ (Box.new _ _ _) SAB SC (Lib.hid (RAB.out.alloc _)) (Lib.hid (RC.out.alloc _)) QAB.out QC.out).mono ?_
  rintro e w7 ⟨pABC, cABC, NABC, rfl, hS, hR, hB, hABC⟩
  have SABC := Lib.hid hS
  have RABC := Lib.hid hR
  have QABC := Lib.hid hABC
  have hC := (made1 hB).2
  replace RA := Lib.hid (RA.out.below hC)
  replace RD := Lib.hid (RD.out.below hC)
  replace RC := Lib.hid (RC.out.below hC)
  replace RAB := Lib.hid (RAB.out.below hC)
  replace RBA := Lib.hid (RBA.out.below hC)
  replace B := Lib.hid (below_then B.out hC)
  clear hB hC
  clear hS hR hABC
  go_wp2_with (fail)
  go_at_call 18
  refine (uni3_d pC pA pD NC NA ND cC cA cD _ _ _ _ _ _ (Box.new _ _ _) SC SA SD (Lib.hid (RC.out.alloc _)) (Lib.hid (RA.out.alloc _)) (Lib.hid (RD.out.alloc _)) QC.out QA.out QD.out).mono ?_
  rintro e w8 ⟨pAll, cAll, NAll, rfl, hS, hR, hB, hAll⟩
  have SAll := Lib.hid hS
  have RAll := Lib.hid hR
  have QAll := Lib.hid hAll
  have hC := (made1 hB).2
  replace RA := Lib.hid (RA.out.below hC)
  replace RD := Lib.hid (RD.out.below hC)
  replace RC := Lib.hid (RC.out.below hC)
  replace RAB := Lib.hid (RAB.out.below hC)
  replace RBA := Lib.hid (RBA.out.below hC)
  replace RABC := Lib.hid (RABC.out.below hC)
  replace B := Lib.hid (below_then B.out hC)
  clear hB hC
  clear hS hR hAll
  go_wp2_with (fail)
  go_at_call 20
  refine (meet_d pA pD NA ND cA cD _ _ _ SA SD RA RD QA.out QD.out).mono ?_
  rintro e w9 ⟨pM, cM, NM, rfl, hS, hR, hB, hM⟩
  have SM := Lib.hid hS
  have RM := Lib.hid hR
  have QM := Lib.hid hM
  have hC := hB
  replace RA := Lib.hid (RA.out.below hC)
  replace RD := Lib.hid (RD.out.below hC)
  replace RC := Lib.hid (RC.out.below hC)
  replace RAB := Lib.hid (RAB.out.below hC)
  replace RBA := Lib.hid (RBA.out.below hC)
  replace RABC := Lib.hid (RABC.out.below hC)
  replace RAll := Lib.hid (RAll.out.below hC)
  replace B := Lib.hid (below_then B.out hC)
  clear hB hC
  clear hS hR hM
  go_wp2_with (fail)
  go_at_call 20
  refine (meet_d pD pA ND NA cD cA _ _ _ SD SA RD RA QD.out QA.out).mono ?_
  rintro e w10 ⟨pMb, cMb, NMb, rfl, hS, hR, hB, hMb⟩
  have SMb := Lib.hid hS
  have RMb := Lib.hid hR
  have QMb := Lib.hid hMb
  have hC := hB
  replace RA := Lib.hid (RA.out.below hC)
  replace RD := Lib.hid (RD.out.below hC)
  replace RC := Lib.hid (RC.out.below hC)
  replace RAB := Lib.hid (RAB.out.below hC)
  replace RBA := Lib.hid (RBA.out.below hC)
  replace RABC := Lib.hid (RABC.out.below hC)
  replace RAll := Lib.hid (RAll.out.below hC)
  replace RM := Lib.hid (RM.out.below hC)
  replace B := Lib.hid (below_then B.out hC)
  clear hB hC
  clear hS hR hMb
  go_wp2_with (fail)
  go_at_call 22
  refine (less_d pA pD NA ND cA cD _ _ _ SA SD RA RD QA.out QD.out).mono ?_
  rintro e w11 ⟨pL, cL, NL, rfl, hS, hR, hB, hL⟩
  have SL := Lib.hid hS
  have RL := Lib.hid hR
  have QL := Lib.hid hL
  have hC := hB
  replace RA := Lib.hid (RA.out.below hC)
  replace RD := Lib.hid (RD.out.below hC)
  replace RC := Lib.hid (RC.out.below hC)
  replace RAB := Lib.hid (RAB.out.below hC)
  replace RBA := Lib.hid (RBA.out.below hC)
  replace RABC := Lib.hid (RABC.out.below hC)
  replace RAll := Lib.hid (RAll.out.below hC)
  replace RM := Lib.hid (RM.out.below hC)
  replace RMb := Lib.hid (RMb.out.below hC)
  replace B := Lib.hid (below_then B.out hC)
  clear hB hC
  clear hS hR hL
  go_wp2_with (fail)
  go_at_call 18
  refine (uni2_d pM pL NM NL cM cL _ _ _ _ _ (Box.new _ _ _) SM SL (Lib.hid (RM.out.alloc _)) (Lib.hid (RL.out.alloc _)) QM.out QL.out).mono ?_
  rintro e w12 ⟨pWh, cWh, NWh, rfl, hS, hR, hB, hWh⟩
  have SWh := Lib.hid hS
  have RWh := Lib.hid hR
  have QWh := Lib.hid hWh
  have hC := (made1 hB).2
  replace RA := Lib.hid (RA.out.below hC)
  replace RD := Lib.hid (RD.out.below hC)
  replace RC := Lib.hid (RC.out.below hC)
  replace RAB := Lib.hid (RAB.out.below hC)
  replace RBA := Lib.hid (RBA.out.below hC)
  replace RABC := Lib.hid (RABC.out.below hC)
  replace RAll := Lib.hid (RAll.out.below hC)
  replace RM := Lib.hid (RM.out.below hC)
  replace RMb := Lib.hid (RMb.out.below hC)
  replace RL := Lib.hid (RL.out.below hC)
  replace B := Lib.hid (below_then B.out hC)
  clear hB hC
  clear hS hR hWh
  go_wp2_with (fail)
  go_at_call 10
  refine (lown_any pD ND cD (D.map pad5) _ (mlen SD.out.hl) (by have := SD.out.le; omega) RD).mono ?_
  rintro e wa ⟨v1, rfl, hO1, hBa⟩
  have O1 := Lib.hid hO1
  have Ba := Lib.hid hBa
  have RAa := Lib.hid (RA.out.below hBa)
  have za := hBa.size
  clear hO1 hBa
  have na := SA.out.le
  have nd := SD.out.le
  have HLT : Hid ((D ++ (A ++ D)).length = ND + (NA + ND)) := Lib.hid (by rw [List.length_append, List.length_append, SD.out.len, SA.out.len])
  have HOKT : Hid (∀ x ∈ D ++ (A ++ D), okL 3 x) := Lib.hid (fun x hx => by
    rcases List.mem_append.1 hx with h | h
    · exact SD.out.ok x h
    · rcases List.mem_append.1 h with h | h
      · exact SA.out.ok x h
      · exact SD.out.ok x h)
  go_wp2_with (first
    | (go_at_call 10; refine (lown_any pA NA cA (A.map pad5) _ (mlen SA.out.hl) (by omega) RAa).mono ?_; rintro e wb ⟨v2, rfl, hO2, hBb⟩; have O2 := Lib.hid hO2; have Bb := Lib.hid hBb; have RDb := Lib.hid ((RD.out.below Ba.out).below hBb); have zb := hBb.size; clear hO2 hBb)
    | (at_builtin; refine append_all5 rfl (.tmp 117) (.tmp 118) rfl wa.heap.size _ NA (A.map pad5) rfl O2.out _ (D.map pad5) ND cD rfl (mlen SD.out.hl).out RDb.out (by omega) (by omega) ?_; intro v3 wc hv3 hB3; obtain ⟨p3, c3, e3, _⟩ := row5_shape hv3; subst e3; have R3 := Lib.hid (reads5_of_row (by rw [List.length_append, List.length_map, List.length_map, SA.out.len, SD.out.len]) hv3); have Bc := Lib.hid (Bb.out.trans hB3); have O1c := Lib.hid (own5_below O1.out Bc.out); have zc := Bc.out.size; clear hv3 hB3)
    | (at_builtin; refine append_all5 rfl (.tmp 115) (.tmp 119) rfl w12.heap.size _ ND (D.map pad5) rfl O1c.out _ (A.map pad5 ++ D.map pad5) (NA + ND) c3 rfl (by rw [List.length_append, List.length_map, List.length_map, SA.out.len, SD.out.len]) R3.out (by omega) (by omega) ?_; intro v4 wd hv4 hB4; obtain ⟨p4, c4, e4, _⟩ := row5_shape hv4; subst e4; have R4 := Lib.hid (reads5_of_row (by rw [List.length_append, List.length_append, List.length_map, List.length_map, SA.out.len, SD.out.len]) hv4); have Bd := Lib.hid ((Ba.out.trans (Bc.out.mono za)).trans hB4); clear hv4 hB4)
    | (go_at_call 13; refine (of_d p4 (ND + (NA + ND)) c4 (D ++ (A ++ D)) _ HLT (by omega) HOKT (Lib.hid (by rw [List.map_append, List.map_append]; exact R4.out))).mono ?_; rintro e we ⟨pTw, cTw, NTw, rfl, hS, hR, hB, hTw⟩; have STw := Lib.hid hS; have RTw := Lib.hid hR; have QTw := Lib.hid hTw; have Be := Lib.hid (below_then Bd.out hB); clear hS hR hB hTw)
    | (go_at_call 15; fail)
    | (go_at_call 11; fail))
  have hC := Be.out
  replace RA := Lib.hid (RA.out.below hC)
  replace RD := Lib.hid (RD.out.below hC)
  replace RC := Lib.hid (RC.out.below hC)
  replace RAB := Lib.hid (RAB.out.below hC)
  replace RBA := Lib.hid (RBA.out.below hC)
  replace RABC := Lib.hid (RABC.out.below hC)
  replace RAll := Lib.hid (RAll.out.below hC)
  replace RM := Lib.hid (RM.out.below hC)
  replace RMb := Lib.hid (RMb.out.below hC)
  replace RL := Lib.hid (RL.out.below hC)
  replace RWh := Lib.hid (RWh.out.below hC)
  replace B := Lib.hid (below_then B.out hC)
  clear hC
  have nm := SM.out.le
  have nl := SL.out.le
  have hsum : (NM : Int) + (NL : Int) = (NA : Int) := by have h1 := parts_len SA.out.asc SD.out.asc; rw [SM.out.len, SL.out.len, SA.out.len] at h1; omega
  go_at_call 15
  refine (same_d pAB pBA NAB NBA cAB cBA _ _ _ SAB SBA RAB RBA (Lib.hid (uni_comm SA.out.asc SD.out.asc))).mono ?_
  rintro e w14 ⟨rfl, hB⟩
  have hC := hB
  replace RA := Lib.hid (RA.out.below hC)
  replace RD := Lib.hid (RD.out.below hC)
  replace RC := Lib.hid (RC.out.below hC)
  replace RAB := Lib.hid (RAB.out.below hC)
  replace RBA := Lib.hid (RBA.out.below hC)
  replace RABC := Lib.hid (RABC.out.below hC)
  replace RAll := Lib.hid (RAll.out.below hC)
  replace RM := Lib.hid (RM.out.below hC)
  replace RMb := Lib.hid (RMb.out.below hC)
  replace RL := Lib.hid (RL.out.below hC)
  replace RWh := Lib.hid (RWh.out.below hC)
  replace RTw := Lib.hid (RTw.out.below hC)
  replace B := Lib.hid (below_then B.out hC)
  clear hB hC
  go_wp2_with (fail)
  go_at_call 15
  refine (same_d pABC pAll NABC NAll cABC cAll _ _ _ SABC SAll RABC RAll (Lib.hid (uni_assoc SA.out.asc SD.out.asc SC.out.asc))).mono ?_
  rintro e w15 ⟨rfl, hB⟩
  have hC := hB
  replace RA := Lib.hid (RA.out.below hC)
  replace RD := Lib.hid (RD.out.below hC)
  replace RC := Lib.hid (RC.out.below hC)
  replace RAB := Lib.hid (RAB.out.below hC)
  replace RBA := Lib.hid (RBA.out.below hC)
  replace RABC := Lib.hid (RABC.out.below hC)
  replace RAll := Lib.hid (RAll.out.below hC)
  replace RM := Lib.hid (RM.out.below hC)
  replace RMb := Lib.hid (RMb.out.below hC)
  replace RL := Lib.hid (RL.out.below hC)
  replace RWh := Lib.hid (RWh.out.below hC)
  replace RTw := Lib.hid (RTw.out.below hC)
  replace B := Lib.hid (below_then B.out hC)
  clear hB hC
  go_wp2_with (fail)
  go_at_call 15
  refine (same_d pM pMb NM NMb cM cMb _ _ _ SM SMb RM RMb (Lib.hid (meet_comm SA.out.asc SD.out.asc))).mono ?_
  rintro e w16 ⟨rfl, hB⟩
  have hC := hB
  replace RA := Lib.hid (RA.out.below hC)
  replace RD := Lib.hid (RD.out.below hC)
  replace RC := Lib.hid (RC.out.below hC)
  replace RAB := Lib.hid (RAB.out.below hC)
  replace RBA := Lib.hid (RBA.out.below hC)
  replace RABC := Lib.hid (RABC.out.below hC)
  replace RAll := Lib.hid (RAll.out.below hC)
  replace RM := Lib.hid (RM.out.below hC)
  replace RMb := Lib.hid (RMb.out.below hC)
  replace RL := Lib.hid (RL.out.below hC)
  replace RWh := Lib.hid (RWh.out.below hC)
  replace RTw := Lib.hid (RTw.out.below hC)
  replace B := Lib.hid (below_then B.out hC)
  clear hB hC
  go_wp2_with (fail)
  go_at_call 15
  refine (same_d pWh pA NWh NA cWh cA _ _ _ SWh SA RWh RA (Lib.hid (whole_eq SA.out.asc SD.out.asc))).mono ?_
  rintro e w17 ⟨rfl, hB⟩
  have hC := hB
  replace RA := Lib.hid (RA.out.below hC)
  replace RD := Lib.hid (RD.out.below hC)
  replace RC := Lib.hid (RC.out.below hC)
  replace RAB := Lib.hid (RAB.out.below hC)
  replace RBA := Lib.hid (RBA.out.below hC)
  replace RABC := Lib.hid (RABC.out.below hC)
  replace RAll := Lib.hid (RAll.out.below hC)
  replace RM := Lib.hid (RM.out.below hC)
  replace RMb := Lib.hid (RMb.out.below hC)
  replace RL := Lib.hid (RL.out.below hC)
  replace RWh := Lib.hid (RWh.out.below hC)
  replace RTw := Lib.hid (RTw.out.below hC)
  replace B := Lib.hid (below_then B.out hC)
  clear hB hC
  go_wp2_with (fail)
  go_at_call 15
  refine (same_d pTw pAB NTw NAB cTw cAB _ _ _ STw SAB RTw RAB (Lib.hid (twice_eq SA.out.asc SD.out.asc))).mono ?_
  rintro e w18 ⟨rfl, hB⟩
  have hC := hB
  replace RA := Lib.hid (RA.out.below hC)
  replace RD := Lib.hid (RD.out.below hC)
  replace RC := Lib.hid (RC.out.below hC)
  replace RAB := Lib.hid (RAB.out.below hC)
  replace RBA := Lib.hid (RBA.out.below hC)
  replace RABC := Lib.hid (RABC.out.below hC)
  replace RAll := Lib.hid (RAll.out.below hC)
  replace RM := Lib.hid (RM.out.below hC)
  replace RMb := Lib.hid (RMb.out.below hC)
  replace RL := Lib.hid (RL.out.below hC)
  replace RWh := Lib.hid (RWh.out.below hC)
  replace RTw := Lib.hid (RTw.out.below hC)
  replace B := Lib.hid (below_then B.out hC)
  clear hB hC
  go_wp2_with (fail)
  go_at_call 11
  refine (check_d pABC NABC cABC _ _ SABC RABC).mono ?_
  rintro e w19 ⟨rfl, hB⟩
  have hC := hB
  replace RA := Lib.hid (RA.out.below hC)
  replace RD := Lib.hid (RD.out.below hC)
  replace RC := Lib.hid (RC.out.below hC)
  replace RAB := Lib.hid (RAB.out.below hC)
  replace RBA := Lib.hid (RBA.out.below hC)
  replace RABC := Lib.hid (RABC.out.below hC)
  replace RAll := Lib.hid (RAll.out.below hC)
  replace RM := Lib.hid (RM.out.below hC)
  replace RMb := Lib.hid (RMb.out.below hC)
  replace RL := Lib.hid (RL.out.below hC)
  replace RWh := Lib.hid (RWh.out.below hC)
  replace RTw := Lib.hid (RTw.out.below hC)
  replace B := Lib.hid (below_then B.out hC)
  clear hB hC
  go_wp2
  go_ret
  exact ⟨rfl, B.out⟩
end Go.Proofs.Ytdahaajfkjmflaa.s14
