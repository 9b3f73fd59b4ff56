/-
  Layer 6: InternJoins's contract.
-/
import Derived.Test.YtndghjfgjkjbdaaS06ZK
namespace Go.Proofs.Ytndghjfgjkjbdaa.s06
set_option linter.unusedVariables false
set_option linter.unusedSimpArgs false
open Go.RowKit Go.WideMaps Go.Maps
open kit

set_option maxRecDepth 100000 in
set_option maxHeartbeats 8000000 in
theorem joins_law (aa ab ac : Option Addr) (ca cb cc : Nat) (na nb nc : List Int) (w : World) (hna : na.length ≤ 9223372036854775807) (hnb : nb.length ≤ 9223372036854775807) (hnc : nc.length ≤ 9223372036854775807) (hza : Hid (∀ z ∈ na, -9223372036854775808 ≤ z ∧ z ≤ 9223372036854775807)) (hzb : Hid (∀ z ∈ nb, -9223372036854775808 ≤ z ∧ z ≤ 9223372036854775807)) (hzc : Hid (∀ z ∈ nc, -9223372036854775808 ≤ z ∧ z ≤ 9223372036854775807)) (hra : Hid (ReadsI w aa na)) (hrb : Hid (ReadsI w ab nb)) (hrc : Hid (ReadsI w ac nc)) :
    Calls Try.prog 7 #[.slice aa na.length ca, .slice ab nb.length cb, .slice ac nc.length cc] w fun e w' => e = .returned (.bool true) ∧ Below w.heap.size w w' := by
  obtain ⟨X, hX⟩ : ∃ L, madeN na = L := ⟨_, rfl⟩
  obtain ⟨Y, hY⟩ : ∃ L, madeN nb = L := ⟨_, rfl⟩
  obtain ⟨Z, hZ⟩ : ∃ L, madeN nc = L := ⟨_, rfl⟩
  have mX := mk_made na
  have mY := mk_made nb
  have mZ := mk_made nc
  rw [hX] at mX
  rw [hY] at mY
  rw [hZ] at mZ
  obtain ⟨XY, hXY⟩ : ∃ L, putAll X Y = L := ⟨_, rfl⟩
  obtain ⟨YZ, hYZ⟩ : ∃ L, putAll Y Z = L := ⟨_, rfl⟩
  obtain ⟨O, hO⟩ : ∃ L, putAll XY Z = L := ⟨_, rfl⟩
  have mXY := mX.put mY
  have mYZ := mY.put mZ
  rw [hXY] at mXY
  rw [hYZ] at mYZ
  have hO2 : putAll X YZ = O := by rw [← hYZ, ← putAll_assoc, hXY, hO]
  have hpre : XY.take X.length = X := by rw [← hXY]; obtain ⟨r, hr⟩ := putAll_pre Y X; rw [← hr, List.take_left]
  have hle : X.length ≤ XY.length := by rw [← hXY]; exact (putAll_pre Y X).length_le
  have MX := Lib.hid mX
  have MY := Lib.hid mY
  have MZ := Lib.hid mZ
  have MXY := Lib.hid mXY
  have MYZ := Lib.hid mYZ
  have HX := Lib.hid hX
  have HY := Lib.hid hY
  have HZ := Lib.hid hZ
  have HXX := Lib.hid (putAll_self X)
  have HXY := Lib.hid hXY
  have HYZ := Lib.hid hYZ
  have HO := Lib.hid hO
  have HO2 := Lib.hid hO2
  have HPRE := Lib.hid hpre
  have lX := mX.len
  have lY := mY.len
  have lZ := mZ.len
  have lXY := mXY.len
  have HS : Hid (∀ k, k < X.length → (idxs X X)[k]?.getD 0 = (k : Int)) := Lib.hid fun k hk => idx_self mX k hk
  have HN : Hid (∀ k, k < Y.length → nameT XY ((idxs X Y)[k]?.getD 0) = (Y[k]?.getD ByteArray.empty, 0)) := Lib.hid fun k hk => by rw [← hXY]; exact idx_name mX mY k hk
  have LS := Lib.hid (idxs_len X X)
  have LM := Lib.hid (idxs_len Y X)
  have lO : O.length ≤ 20 := by rw [← hO]; exact (mXY.put mZ).len
  clear hX hY hZ mX mY mZ hXY hYZ hO mXY mYZ hO2 hpre
  have B_0 := Lib.hid (Below.refl w.heap.size w)
  go_enter Try.func7, Try.ntmps7
  go_wp2_with (first
    | (go_at_call 5; (refine (known_any _).mono ?_); rintro e w1 ⟨rfl, hB⟩; have B_1 := Lib.hid (below_then B_0.out hB); have RA_1 := Lib.hid (hra.out.below hB); have RB_1 := Lib.hid (hrb.out.below hB); have RC_1 := Lib.hid (hrc.out.below hB); clear B_0 hra hrb hrc hB)
    | (go_at_call 38; (refine (lmade_any aa ca na _ hna hza RA_1).mono ?_); rintro e w2 ⟨xX, kX, rfl, hR, hB⟩; rw [HX.out] at hR ⊢; have KK := (Below.refl w2.heap.size w2).alloc (Nat.le_refl _) (.cells #[.slice xX X.length kX] 24); have hB2 := hB.trans (KK.mono hB.size); clear RA_1; have B_2 := Lib.hid (below_then B_1.out hB2); have RB_2 := Lib.hid (RB_1.out.below hB2); have RC_2 := Lib.hid (RC_1.out.below hB2); have TX_2 := Lib.hid (Box.new w2 24 #[.slice xX X.length kX]); have UX_2 := Lib.hid (hR.below KK); clear B_1 RB_1 RC_1 hB hB2 KK; have cTX := TX_2.out.cell 0)
    | (go_at_call 38; (refine (lmade_any ab cb nb _ hnb hzb RB_2).mono ?_); rintro e w3 ⟨xY, kY, rfl, hR, hB⟩; clear cTX; rw [HY.out] at hR ⊢; have KK := (Below.refl w3.heap.size w3).alloc (Nat.le_refl _) (.cells #[.slice xY Y.length kY] 24); have hB2 := hB.trans (KK.mono hB.size); clear RB_2; have B_3 := Lib.hid (below_then B_2.out hB2); have RC_3 := Lib.hid (RC_2.out.below hB2); have TX_3 := Lib.hid (TX_2.out.below hB2); have UX_3 := Lib.hid (UX_2.out.below hB2); have TY_3 := Lib.hid (Box.new w3 24 #[.slice xY Y.length kY]); have UY_3 := Lib.hid (hR.below KK); clear B_2 RC_2 TX_2 UX_2 hB hB2 KK; have cTX := TX_3.out.cell 0; have cTY := TY_3.out.cell 0)
    | (go_at_call 38; (refine (lmade_any ac cc nc _ hnc hzc RC_3).mono ?_); rintro e w4 ⟨xZ, kZ, rfl, hR, hB⟩; clear cTX cTY; rw [HZ.out] at hR ⊢; have KK := (Below.refl w4.heap.size w4).alloc (Nat.le_refl _) (.cells #[.slice xZ Z.length kZ] 24); have hB2 := hB.trans (KK.mono hB.size); clear RC_3; have B_4 := Lib.hid (below_then B_3.out hB2); have TX_4 := Lib.hid (TX_3.out.below hB2); have UX_4 := Lib.hid (UX_3.out.below hB2); have TY_4 := Lib.hid (TY_3.out.below hB2); have UY_4 := Lib.hid (UY_3.out.below hB2); have TZ_4 := Lib.hid (Box.new w4 24 #[.slice xZ Z.length kZ]); have UZ_4 := Lib.hid (hR.below KK); clear B_3 TX_3 UX_3 TY_3 UY_3 hB hB2 KK; have cTX := TX_4.out.cell 0; have cTY := TY_4.out.cell 0; have cTZ := TZ_4.out.cell 0)
    | (go_at_call 26; (with_reducible refine (merge_w xX xX kX kX X X X _ MX MX HXX UX_4 UX_4).mono ?_); rintro e w5 ⟨xS, kS, iS, jS, rfl, hR, hkS, hI, hB⟩; clear cTX cTY cTZ; have KK := (Below.refl w5.heap.size w5).alloc (Nat.le_refl _) (.cells #[.slice xS X.length kS] 24); have hB2 := hB.trans (KK.mono hB.size); have B_5 := Lib.hid (below_then B_4.out hB2); have TX_5 := Lib.hid (TX_4.out.below hB2); have UX_5 := Lib.hid (UX_4.out.below hB2); have TY_5 := Lib.hid (TY_4.out.below hB2); have UY_5 := Lib.hid (UY_4.out.below hB2); have TZ_5 := Lib.hid (TZ_4.out.below hB2); have UZ_5 := Lib.hid (UZ_4.out.below hB2); have TS_5 := Lib.hid (Box.new w5 24 #[.slice xS X.length kS]); have US_5 := Lib.hid (hR.below KK); have IS_5 := Lib.hid (hI.below KK); clear B_4 TX_4 UX_4 TY_4 UY_4 TZ_4 UZ_4 hB hB2 KK; have cTX := TX_5.out.cell 0; have cTY := TY_5.out.cell 0; have cTZ := TZ_5.out.cell 0; have cTS := TS_5.out.cell 0)
    | (go_at_call 26; (with_reducible refine (merge_w xX xY kX kY X Y XY _ MX MY HXY UX_5 UY_5).mono ?_); rintro e w6 ⟨xXY, kXY, iXY, jXY, rfl, hR, hkXY, hI, hB⟩; clear cTX cTY cTZ cTS; have KK := (Below.refl w6.heap.size w6).alloc (Nat.le_refl _) (.cells #[.slice xXY XY.length kXY] 24); have hB2 := hB.trans (KK.mono hB.size); have B_6 := Lib.hid (below_then B_5.out hB2); have TX_6 := Lib.hid (TX_5.out.below hB2); have UX_6 := Lib.hid (UX_5.out.below hB2); have TY_6 := Lib.hid (TY_5.out.below hB2); have UY_6 := Lib.hid (UY_5.out.below hB2); have TZ_6 := Lib.hid (TZ_5.out.below hB2); have UZ_6 := Lib.hid (UZ_5.out.below hB2); have TS_6 := Lib.hid (TS_5.out.below hB2); have US_6 := Lib.hid (US_5.out.below hB2); have IS_6 := Lib.hid (IS_5.out.below hB2); have TXY_6 := Lib.hid (Box.new w6 24 #[.slice xXY XY.length kXY]); have UXY_6 := Lib.hid (hR.below KK); have IXY_6 := Lib.hid (hI.below KK); clear B_5 TX_5 UX_5 TY_5 UY_5 TZ_5 UZ_5 TS_5 US_5 IS_5 hB hB2 KK; have cTX := TX_6.out.cell 0; have cTY := TY_6.out.cell 0; have cTZ := TZ_6.out.cell 0; have cTS := TS_6.out.cell 0; have cTXY := TXY_6.out.cell 0)
    | (go_at_call 26; (with_reducible refine (merge_w xXY xZ kXY kZ XY Z O _ MXY MZ HO UXY_6 UZ_6).mono ?_); rintro e w7 ⟨xO, kO, iO, jO, rfl, hR, hkO, hI, hB⟩; clear cTX cTY cTZ cTS cTXY; have KK := (Below.refl w7.heap.size w7).alloc (Nat.le_refl _) (.cells #[.slice xO O.length kO] 24); have hB2 := hB.trans (KK.mono hB.size); have B_7 := Lib.hid (below_then B_6.out hB2); have TX_7 := Lib.hid (TX_6.out.below hB2); have UX_7 := Lib.hid (UX_6.out.below hB2); have TY_7 := Lib.hid (TY_6.out.below hB2); have UY_7 := Lib.hid (UY_6.out.below hB2); have TZ_7 := Lib.hid (TZ_6.out.below hB2); have UZ_7 := Lib.hid (UZ_6.out.below hB2); have TS_7 := Lib.hid (TS_6.out.below hB2); have US_7 := Lib.hid (US_6.out.below hB2); have IS_7 := Lib.hid (IS_6.out.below hB2); have TXY_7 := Lib.hid (TXY_6.out.below hB2); have UXY_7 := Lib.hid (UXY_6.out.below hB2); have IXY_7 := Lib.hid (IXY_6.out.below hB2); have TO_7 := Lib.hid (Box.new w7 24 #[.slice xO O.length kO]); have UO_7 := Lib.hid (hR.below KK); clear B_6 TX_6 UX_6 TY_6 UY_6 TZ_6 UZ_6 TS_6 US_6 IS_6 TXY_6 UXY_6 IXY_6 hB hB2 KK; have cTX := TX_7.out.cell 0; have cTY := TY_7.out.cell 0; have cTZ := TZ_7.out.cell 0; have cTS := TS_7.out.cell 0; have cTXY := TXY_7.out.cell 0; have cTO := TO_7.out.cell 0)
    | (go_at_call 26; (with_reducible refine (merge_w xY xZ kY kZ Y Z YZ _ MY MZ HYZ UY_7 UZ_7).mono ?_); rintro e w8 ⟨xYZ, kYZ, iYZ, jYZ, rfl, hR, hkYZ, hI, hB⟩; clear cTX cTY cTZ cTS cTXY cTO; have KK := (Below.refl w8.heap.size w8).alloc (Nat.le_refl _) (.cells #[.slice xYZ YZ.length kYZ] 24); have hB2 := hB.trans (KK.mono hB.size); have B_8 := Lib.hid (below_then B_7.out hB2); have TX_8 := Lib.hid (TX_7.out.below hB2); have UX_8 := Lib.hid (UX_7.out.below hB2); have TY_8 := Lib.hid (TY_7.out.below hB2); have UY_8 := Lib.hid (UY_7.out.below hB2); have TZ_8 := Lib.hid (TZ_7.out.below hB2); have UZ_8 := Lib.hid (UZ_7.out.below hB2); have TS_8 := Lib.hid (TS_7.out.below hB2); have US_8 := Lib.hid (US_7.out.below hB2); have IS_8 := Lib.hid (IS_7.out.below hB2); have TXY_8 := Lib.hid (TXY_7.out.below hB2); have UXY_8 := Lib.hid (UXY_7.out.below hB2); have IXY_8 := Lib.hid (IXY_7.out.below hB2); have TO_8 := Lib.hid (TO_7.out.below hB2); have UO_8 := Lib.hid (UO_7.out.below hB2); have TYZ_8 := Lib.hid (Box.new w8 24 #[.slice xYZ YZ.length kYZ]); have UYZ_8 := Lib.hid (hR.below KK); clear B_7 TX_7 UX_7 TY_7 UY_7 TZ_7 UZ_7 TS_7 US_7 IS_7 TXY_7 UXY_7 IXY_7 TO_7 UO_7 hB hB2 KK; have cTX := TX_8.out.cell 0; have cTY := TY_8.out.cell 0; have cTZ := TZ_8.out.cell 0; have cTS := TS_8.out.cell 0; have cTXY := TXY_8.out.cell 0; have cTO := TO_8.out.cell 0; have cTYZ := TYZ_8.out.cell 0)
    | (go_at_call 26; (with_reducible refine (merge_w xX xYZ kX kYZ X YZ O _ MX MYZ HO2 UX_8 UYZ_8).mono ?_); rintro e w9 ⟨xP, kP, iP, jP, rfl, hR, hkP, hI, hB⟩; clear cTX cTY cTZ cTS cTXY cTO cTYZ; have KK := (Below.refl w9.heap.size w9).alloc (Nat.le_refl _) (.cells #[.slice xP O.length kP] 24); have hB2 := hB.trans (KK.mono hB.size); have B_9 := Lib.hid (below_then B_8.out hB2); have TX_9 := Lib.hid (TX_8.out.below hB2); have UX_9 := Lib.hid (UX_8.out.below hB2); have TY_9 := Lib.hid (TY_8.out.below hB2); have UY_9 := Lib.hid (UY_8.out.below hB2); have TZ_9 := Lib.hid (TZ_8.out.below hB2); have UZ_9 := Lib.hid (UZ_8.out.below hB2); have TS_9 := Lib.hid (TS_8.out.below hB2); have US_9 := Lib.hid (US_8.out.below hB2); have IS_9 := Lib.hid (IS_8.out.below hB2); have TXY_9 := Lib.hid (TXY_8.out.below hB2); have UXY_9 := Lib.hid (UXY_8.out.below hB2); have IXY_9 := Lib.hid (IXY_8.out.below hB2); have TO_9 := Lib.hid (TO_8.out.below hB2); have UO_9 := Lib.hid (UO_8.out.below hB2); have TYZ_9 := Lib.hid (TYZ_8.out.below hB2); have UYZ_9 := Lib.hid (UYZ_8.out.below hB2); have TP_9 := Lib.hid (Box.new w9 24 #[.slice xP O.length kP]); have UP_9 := Lib.hid (hR.below KK); clear B_8 TX_8 UX_8 TY_8 UY_8 TZ_8 UZ_8 TS_8 US_8 IS_8 TXY_8 UXY_8 IXY_8 TO_8 UO_8 TYZ_8 UYZ_8 hB hB2 KK; have cTX := TX_9.out.cell 0; have cTY := TY_9.out.cell 0; have cTZ := TZ_9.out.cell 0; have cTS := TS_9.out.cell 0; have cTXY := TXY_9.out.cell 0; have cTO := TO_9.out.cell 0; have cTYZ := TYZ_9.out.cell 0; have cTP := TP_9.out.cell 0))
  generalize hw10 : (w9.alloc (.cells #[.slice xP O.length kP] 24)) = w10 at *
  clear cTX cTY cTZ cTS cTXY cTO cTYZ cTP
  have zX : ∀ p : Later w10, p.W.cell? ⟨w2.heap.size, 0, none⟩ = some (.slice xX X.length kX) := fun p => p.cell (TX_9.out.cell 0) TX_9.out.lt
  have zY : ∀ p : Later w10, p.W.cell? ⟨w3.heap.size, 0, none⟩ = some (.slice xY Y.length kY) := fun p => p.cell (TY_9.out.cell 0) TY_9.out.lt
  have zS : ∀ p : Later w10, p.W.cell? ⟨w5.heap.size, 0, none⟩ = some (.slice xS X.length kS) := fun p => p.cell (TS_9.out.cell 0) TS_9.out.lt
  have zXY : ∀ p : Later w10, p.W.cell? ⟨w6.heap.size, 0, none⟩ = some (.slice xXY XY.length kXY) := fun p => p.cell (TXY_9.out.cell 0) TXY_9.out.lt
  have zO : ∀ p : Later w10, p.W.cell? ⟨w7.heap.size, 0, none⟩ = some (.slice xO O.length kO) := fun p => p.cell (TO_9.out.cell 0) TO_9.out.lt
  have zP : ∀ p : Later w10, p.W.cell? ⟨w9.heap.size, 0, none⟩ = some (.slice xP O.length kP) := fun p => p.cell (TP_9.out.cell 0) TP_9.out.lt
  have RP : Hid (ReadsS w10 xXY X) := Lib.hid (by have := Reads.take UXY_9.out X.length; rw [HPRE.out] at this; exact this)
  have hlt : decide ((XY.length : Int) < (X.length : Int)) = false := decide_eq_false (by omega)
  have hlt2 : decide (XY.length < X.length) = false := decide_eq_false (by omega)
  have hlt3 : ¬ (XY.length : Int) < (X.length : Int) := by omega
  have hlt4 : ¬ XY.length < X.length := by omega
  have hcap : (X.length : Int) ≤ (kXY : Int) := by omega
  simp only [List.append_eq, List.cons_append, List.nil_append]
  refine wp_region_later (by kernel_rfl) (by kernel_rfl) ?_
  repeat (go_big_quiet_step ((go_at_call 16; first
    | with_reducible exact calls_later (lequal_any xS xX kS kX X _ (by omega) (Lib.hid (US_9.out.below (Later.h _))) (Lib.hid (UX_9.out.below (Later.h _))))
    | with_reducible exact calls_later (lequal_any xO xP kO kP O _ (by omega) (Lib.hid (UO_9.out.below (Later.h _))) (Lib.hid (UP_9.out.below (Later.h _))))
    | with_reducible exact calls_later (lequal_any xXY xX kXY kX X _ (by omega) (Lib.hid (RP.out.below (Later.h _))) (Lib.hid (UX_9.out.below (Later.h _)))))))
  refine wpQuiet_nil ?_
  rintro w11 ⟨p5, rfl⟩
  have TXY1 := Lib.hid (TXY_9.out.below p5.h)
  have UXY1 := Lib.hid (UXY_9.out.below p5.h)
  have TY1 := Lib.hid (TY_9.out.below p5.h)
  have UY1 := Lib.hid (UY_9.out.below p5.h)
  have IS1 := Lib.hid (IS_9.out.below p5.h)
  have IXY1 := Lib.hid (IXY_9.out.below p5.h)
  have B11 := Lib.hid (below_then B_9.out p5.h)
  clear zX zY zS zXY zO zP
  generalize p5.W = w12 at *
  have HSM := Lib.hid (u_small MXY.out.sub)
  have HSY := Lib.hid (u_small MY.out.sub)
  go_wp2
  go_loop [29] (fun i => ∃ k : Nat, k ≤ X.length ∧ i = .int .i64 k) (fun i => X.length - (intOf i).toNat)
  case atStart => exact ⟨0, by omega, rfl⟩
  case round =>
    obtain ⟨k, hk, rfl⟩ := hrel
    by_cases hkl : k < X.length
    · obtain ⟨bq, off, rfl, hb, hcl⟩ := IS1.out k (by rw [LS.out]; exact hkl)
      rw [HS.out k hkl] at hcl
      go_wp2
      go_round
      case rel => exact ⟨k + 1, by omega, by go_num⟩
      case measure => simp [intOf]; omega
    · go_wp2
      go_loopw [30] (fun i wr => ∃ k : Nat, k ≤ Y.length ∧ i = .int .i64 k ∧ Hid (Box wr 24 w6.heap.size #[.slice xXY XY.length kXY]) ∧ Hid (ReadsS wr xXY XY) ∧ Hid (Box wr 24 w3.heap.size #[.slice xY Y.length kY]) ∧ Hid (ReadsS wr xY Y) ∧ Hid (ReadsI wr iXY (idxs X Y)) ∧ Hid (Below w.heap.size w wr)) (fun i _ => Y.length - (intOf i).toNat)
      case atStart => exact ⟨0, by omega, rfl, TXY1, UXY1, TY1, UY1, IXY1, B11⟩
      case round =>
        obtain ⟨k, hk, rfl, T1, U1, T2, U2, I2, B⟩ := hrel
        obtain ⟨B, hw⟩ : Hid (Below w.heap.size w wr) ∧ True := ⟨B, trivial⟩
        by_cases hkl : k < Y.length
        · have hname := HN.out k hkl
          obtain ⟨bi, offi, rfl, hbi, hci⟩ := I2.out k (by rw [LM.out]; exact hkl)
          obtain ⟨by_, offy, rfl, hby, hcy⟩ := U2.out k hkl
          generalize (idxs X Y)[k]?.getD 0 = v at hname hci
          generalize Y[k]?.getD ByteArray.empty = y at hname hcy
          have HNM := Lib.hid hname
          clear hname
          have z0 : ∀ p : Later wr, p.W.cell? ⟨w6.heap.size, 0, none⟩ = some (.slice xXY XY.length kXY) := fun p => p.cell (T1.out.cell 0) T1.out.lt
          have z1 : ∀ p : Later wr, p.W.cell? ⟨bi, offi + k, none⟩ = some (.int .i64 v) := fun p => p.cell hci hbi
          go_wp2
          refine wp_region_later (by kernel_rfl) (by kernel_rfl) ?_
          repeat (go_big_quiet_step ((go_at_call 23; exact calls_later (pname_any xXY kXY XY v y 0 _ (by omega) HSM (Lib.hid (U1.out.below (Later.h _))) HNM))))
          refine wpQuiet_nil ?_
          rintro w' ⟨q5, rfl⟩
          have T3 := Lib.hid (T1.out.below q5.h)
          have U3 := Lib.hid (U1.out.below q5.h)
          have T4 := Lib.hid (T2.out.below q5.h)
          have U4 := Lib.hid (U2.out.below q5.h)
          have I4 := Lib.hid (I2.out.below q5.h)
          have B4 := Lib.hid (below_then B.out q5.h)
          have hcy4 : q5.W.cell? ⟨by_, offy + k, none⟩ = some (.string y) := q5.cell hcy hby
          clear z0 z1 hcy hci
          generalize q5.W = w13 at T3 U3 T4 U4 I4 B4 hcy4 ⊢
          have t0 := T4.out.cell 0
          go_wp2
          go_roundw
          case rel => exact ⟨k + 1, by omega, by go_num, T3, U3, T4, U4, I4, B4⟩
          case measure => simp [intOf]; omega
        · go_wp2
          go_ret
          exact ⟨rfl, B.out⟩
end Go.Proofs.Ytndghjfgjkjbdaa.s06
