/-
  Layer 6: InternMerges's contract.
-/
import Derived.Test.YtndghjfgjkjbdaaS06ZS
namespace Go.Proofs.Ytndghjfgjkjbdaa.s06
set_option linter.unusedVariables false
set_option linter.unusedSimpArgs false
open Go.RowKit Go.WideMaps Go.Maps
open kit

set_option maxRecDepth 100000 in
set_option maxHeartbeats 8000000 in
theorem merges_main (a a2 a3 : Option Addr) (cap cap2 cap3 : Nat) (l m : List ByteArray) (ks : List Int) (w : World) (hl : l.length ≤ 40) (hm : m.length ≤ 40) (hk : ks.length ≤ 40) (hT : Hid (Tb w l a cap)) (hT2 : Hid (Tb w m a2 cap2)) (hI : Hid (Ti w ks a3 cap3)) (HL : Hid (lightB l = true)) (HM : Hid (lightB m = true)) :
    Calls Try.prog 4 #[.agg #[.slice a l.length cap], .agg #[.slice a2 m.length cap2], .slice a3 ks.length cap3] w fun e w' => e = .returned (.bool true) ∧ Below w.heap.size w w' := by
  have K2 := below2 w (.cells #[.slice a l.length cap] 24) (.cells #[.slice a2 m.length cap2] 24)
  have S0 : Hid (MI w _ a cap l a2 cap2 m a3 cap3 ks) := Lib.hid ⟨(Box.new w 24 #[.slice a l.length cap]).alloc (.cells #[.slice a2 m.length cap2] 24), Box.new2 w (.cells #[.slice a l.length cap] 24) 24 #[.slice a2 m.length cap2], hT.out.below K2, hT2.out.below K2, hI.out.below K2, K2⟩
  have HS1 := Lib.hid hT.out.small
  have HS2 := Lib.hid hT2.out.small
  clear K2
  have l9 : l.length ≤ 9223372036854775807 := by omega
  have m9 : m.length ≤ 9223372036854775807 := by omega
  have k9 : ((ks.length : Int) > 40) = False := by simp; omega
  go_enter Try.func4, Try.ntmps4
  go_upto_region 3 with (first
    | (go_at_call 9; (with_reducible refine (light_any a cap l true _ l9 HS1 (Lib.hid S0.out.A.reads) HL).mono ?_); rintro e w1 ⟨rfl, hB⟩; have S1 := Lib.hid (S0.out.below hB); clear hB S0; have c0 := S1.out.Q.cell 0)
    | (go_at_call 9; (with_reducible refine (light_any a2 cap2 m true _ m9 HS2 (Lib.hid S1.out.M.reads) HM).mono ?_); rintro e w2 ⟨rfl, hB⟩; have S2 := Lib.hid (S1.out.below hB); clear hB S1 c0; have c0 := S2.out.P.cell 0; have c1 := S2.out.Q.cell 0))
  go_cut [7, 8, 9] from 30 to 111 (fun s7 s8 s9 wx => ∃ (bh bk : Nat) (a1 : Option Addr) (k1 : Nat) (a4 : Option Addr) (k4 : Nat) (a5 : Option Addr) (k5 : Nat), s7 = .pointer (some ⟨bh, 0, none⟩) ∧ s8 = .pointer (some ⟨bk, 0, none⟩) ∧ s9 = .slice a5 ks.length k5 ∧ Hid (MS w wx bh bk a cap l a2 cap2 m a3 cap3 ks a1 k1 a4 k4 a5))
  case first =>
    have HD := Lib.hid (MI.below ((Below.refl w2.heap.size w2).drew) S2.out)
    have g0 := MI.held HD.out
    have q2 := S2.out.Q.lt
    go_region_held3 (fun w' => w'.cell? ⟨w.heap.size, 0, none⟩ = some (.slice a l.length cap) ∧ w'.cell? ⟨w.heap.size + 1, 0, none⟩ = some (.slice a2 m.length cap2))
      (repeat' (first
        | with_reducible exact g0
        | with_reducible exact MI.held S2.out
        | with_reducible exact MI.held S3.out
        | with_reducible refine held_drew ?_
        | with_reducible exact MI.held S4.out
        | with_reducible exact MI.held S5.out
        | with_reducible refine held_alloc ?_
        | with_reducible refine held_set ?_ (by omega) (by omega)))
      (first
        | (go_at_call 11; (with_reducible refine (lown_any a cap l _ (by omega) (Lib.hid (by first | with_reducible exact HD.out.A.src | with_reducible exact (S2.out.alloc _).drew.A.src | with_reducible exact ((S2.out.alloc _).alloc _).drew.A.src))).mono ?_); rintro e w3 ⟨a1, k1, rfl, hR, hB⟩; have S3 := Lib.hid (MI.below hB (by first | with_reducible exact HD.out | with_reducible exact (S2.out.alloc _).drew | with_reducible exact ((S2.out.alloc _).alloc _).drew)); have R3 := Lib.hid hR; have q3 := S3.out.Q.lt; have z3 := hB.size; (try simp at z3); (first | (with_reducible have A1 := Lib.hid (Box.below (Box.drewB (Box.alloc (Box.new w2 24 #[.slice none 0 0]) (.cells #[.slice none 0 0] 24))) hB); with_reducible have B1 := Lib.hid (Box.below (Box.drewB (Box.new2 w2 (.cells #[.slice none 0 0] 24) 24 #[.slice none 0 0])) hB)) | (with_reducible have A1 := Lib.hid (Box.below (Box.drewB (Box.new w2 24 #[.slice none 0 0])) hB)) | skip); clear hR hB HD)
        | (go_at_call 11; (with_reducible refine (lown_any a2 cap2 m _ (by omega) (Lib.hid (by first | with_reducible exact S3.out.M.src | with_reducible exact (S3.out.alloc _).M.src | with_reducible exact ((S3.out.alloc _).alloc _).M.src))).mono ?_); rintro e w4 ⟨a4, k4, rfl, hR, hB⟩; have S4 := Lib.hid (MI.below hB (by first | with_reducible exact S3.out | with_reducible exact (S3.out.alloc _) | with_reducible exact ((S3.out.alloc _).alloc _))); have R4 := Lib.hid hR; have q4 := S4.out.Q.lt; have z4 := hB.size; (try simp at z4); have R34 := Lib.hid (Reads.below (by first | with_reducible exact R3.out | with_reducible exact Reads.alloc R3.out _ | with_reducible exact Reads.alloc (Reads.alloc R3.out _) _) hB); (first | (with_reducible have C1 := Lib.hid (Box.below A1.out hB)) | (with_reducible have C1 := Lib.hid (Box.below (Box.alloc A1.out _) hB)) | (with_reducible have C1 := Lib.hid (Box.below (Box.alloc (Box.alloc A1.out _) _) hB)) | skip); (first | (with_reducible have D1 := Lib.hid (Box.below B1.out hB)) | (with_reducible have D1 := Lib.hid (Box.below (Box.alloc B1.out _) hB)) | (with_reducible have D1 := Lib.hid (Box.below (Box.alloc (Box.alloc B1.out _) _) hB)) | skip); (first | (with_reducible have A2 := Lib.hid (Box.below (Box.alloc (Box.new _ 24 #[.slice none 0 0]) (.cells #[.slice none 0 0] 24)) hB); with_reducible have B2 := Lib.hid (Box.below (Box.new2 _ (.cells #[.slice none 0 0] 24) 24 #[.slice none 0 0]) hB)) | (with_reducible have A2 := Lib.hid (Box.below (Box.new _ 24 #[.slice none 0 0]) hB)) | skip); clear hR hB S3)
        | (go_at_call 25; (with_reducible refine (own_ints a3 cap3 ks _ (by omega) (by first | with_reducible exact S4.out.I.src | with_reducible exact (S4.out.alloc _).I.src | with_reducible exact ((S4.out.alloc _).alloc _).I.src)).mono ?_); rintro e w5 ⟨a5, k5, rfl, hR, hB⟩; have S5 := Lib.hid (MI.below hB (by first | with_reducible exact S4.out | with_reducible exact (S4.out.alloc _) | with_reducible exact ((S4.out.alloc _).alloc _))); have R5 := Lib.hid hR; have R35 := Lib.hid (Reads.below (by first | with_reducible exact R34.out | with_reducible exact Reads.alloc R34.out _ | with_reducible exact Reads.alloc (Reads.alloc R34.out _) _) hB); have R45 := Lib.hid (Reads.below (by first | with_reducible exact R4.out | with_reducible exact Reads.alloc R4.out _ | with_reducible exact Reads.alloc (Reads.alloc R4.out _) _) hB); have MB5 : Hid (MB w _ a cap l a2 cap2 m a3 cap3 ks a1 a4 a5) := Lib.hid ⟨S5.out, R35.out, R45.out, R5.out⟩; have q5 := S5.out.Q.lt; have z5 := hB.size; (try simp at z5); (first | (with_reducible have E1 := Lib.hid (Box.below C1.out hB)) | (with_reducible have E1 := Lib.hid (Box.below (Box.alloc C1.out _) hB)) | (with_reducible have E1 := Lib.hid (Box.below (Box.alloc (Box.alloc C1.out _) _) hB)) | skip); (first | (with_reducible have F1 := Lib.hid (Box.below D1.out hB)) | (with_reducible have F1 := Lib.hid (Box.below (Box.alloc D1.out _) hB)) | (with_reducible have F1 := Lib.hid (Box.below (Box.alloc (Box.alloc D1.out _) _) hB)) | skip); (first | (with_reducible have E2 := Lib.hid (Box.below A2.out hB)) | (with_reducible have E2 := Lib.hid (Box.below (Box.alloc A2.out _) hB)) | (with_reducible have E2 := Lib.hid (Box.below (Box.alloc (Box.alloc A2.out _) _) hB)) | skip); (first | (with_reducible have F2 := Lib.hid (Box.below B2.out hB)) | (with_reducible have F2 := Lib.hid (Box.below (Box.alloc B2.out _) hB)) | (with_reducible have F2 := Lib.hid (Box.below (Box.alloc (Box.alloc B2.out _) _) hB)) | skip); (first | (with_reducible have A3 := Lib.hid (Box.below (Box.alloc (Box.new _ 24 #[.slice none 0 0]) (.cells #[.slice none 0 0] 24)) hB); with_reducible have B3 := Lib.hid (Box.below (Box.new2 _ (.cells #[.slice none 0 0] 24) 24 #[.slice none 0 0]) hB)) | (with_reducible have A3 := Lib.hid (Box.below (Box.new _ 24 #[.slice none 0 0]) hB)) | skip); (first | (have U := E1; have V := F1) | (have U := E1; have V := E2) | (have U := E1; have V := A3) | (have U := E2; have V := F2) | (have U := E2; have V := A3) | (have U := A3; have V := B3) | (have U := E1) | (have U := E2) | (have U := A3) | skip); (first | (have u0 := U.out.cell 0; have u1 := U.out.free 0; have u2 := U.out.lt; (try simp at u0); (try simp at u1); (try simp at u2)) | skip); (first | (have v0 := V.out.cell 0; have v1 := V.out.free 0; have v2 := V.out.lt; (try simp at v0); (try simp at v1); (try simp at v2)) | skip); (try have n0 : w2.heap.size ≠ w3.heap.size := by omega); (try have m0 : w3.heap.size ≠ w2.heap.size := by omega); (try have n1 : w2.heap.size ≠ w4.heap.size := by omega); (try have m1 : w4.heap.size ≠ w2.heap.size := by omega); (try have n2 : w3.heap.size ≠ w4.heap.size := by omega); (try have m2 : w4.heap.size ≠ w3.heap.size := by omega); (try have n3 : w2.heap.size ≠ w5.heap.size := by omega); (try have m3 : w5.heap.size ≠ w2.heap.size := by omega); (try have n4 : w3.heap.size ≠ w5.heap.size := by omega); (try have m4 : w5.heap.size ≠ w3.heap.size := by omega); (try have n5 : w4.heap.size ≠ w5.heap.size := by omega); (try have m5 : w5.heap.size ≠ w4.heap.size := by omega); clear hR hB S4))
    all_goals
      go_wp2_with fail
      go_meet
      first
        | (with_reducible exact ⟨_, _, a1, k1, a4, k4, a5, k5, rfl, rfl, rfl, Lib.hid (fin_nn MB5.out)⟩)
        | (with_reducible exact ⟨_, _, a1, k1, a4, k4, a5, k5, rfl, rfl, rfl, Lib.hid (fin_nm MB5.out)⟩)
        | (with_reducible exact ⟨_, _, a1, k1, a4, k4, a5, k5, rfl, rfl, rfl, Lib.hid (fin_on MB5.out U.out (by omega))⟩)
        | (with_reducible exact ⟨_, _, a1, k1, a4, k4, a5, k5, rfl, rfl, rfl, Lib.hid (fin_no MB5.out U.out (by omega))⟩)
        | (with_reducible exact ⟨_, _, a1, k1, a4, k4, a5, k5, rfl, rfl, rfl, Lib.hid (fin_oo MB5.out U.out V.out (by omega) (by omega) (by omega))⟩)
        | (with_reducible exact ⟨_, _, a1, k1, a4, k4, a5, k5, rfl, rfl, rfl, Lib.hid (fin_oo MB5.out V.out U.out (by omega) (by omega) (by omega))⟩)
  case rest =>
    obtain ⟨bh, bk, a1, k1, a4, k4, a5, k5, rfl, rfl, rfl, S3⟩ := hcut
    have c0 := S3.out.H.cell 0
    have c1 := S3.out.K.cell 0
    obtain ⟨⟨lr, LL, er⟩, hmg⟩ : ∃ r, mergeT l m = r := ⟨_, rfl⟩
    obtain ⟨⟨lk, ek⟩, hkp⟩ : ∃ r, keepT l ks = r := ⟨_, rfl⟩
    obtain ⟨rs, hrs⟩ : ∃ r, eqB l m = r := ⟨_, rfl⟩
    have HMG := Lib.hid hmg
    have HKP := Lib.hid hkp
    have HRS := Lib.hid hrs
    have ks9 : ks.length ≤ 9223372036854775807 := by omega
    clear hmg hkp hrs
    go_upto_region 10 with (first
      | (go_at_call 26; (with_reducible refine (pmerge_any a1 a4 k1 k4 l m lr LL er _ l9 HS1 (Lib.hid S3.out.M.RH) m9 HS2 (Lib.hid S3.out.M.RK) HMG).mono ?_); rintro e w6 ⟨V1, V, Bo, B2, rfl, _, _, hT6, hV, hB⟩; obtain ⟨x1, j1, rfl⟩ := tab_shape hT6; have lx := hT6.max; have ly := row_max hV; obtain ⟨y1, i1, rfl, hy⟩ := row_readsI hV; have KK := (Below.refl w6.heap.size w6).alloc (Nat.le_refl _) (.cells #[.slice x1 lr.length j1] 24); have hB2 := hB.trans (KK.mono hB.size); have S4 := Lib.hid (S3.out.below hB2); have X4 := Lib.hid (Box.new w6 24 #[.slice x1 lr.length j1]); have RX4 := Lib.hid (hT6.reads.below KK); have RL4 := Lib.hid (hy.below KK); have hx1 := Nat.lt_of_lt_of_le S3.out.H.lt hB.size; have hx2 := Nat.lt_of_lt_of_le S3.out.K.lt hB.size; clear hB hB2 KK hT6 hV hy c0 c1 S3; have c0 := S4.out.M.S.P.cell 0; have c1 := S4.out.M.S.Q.cell 0)
      | (go_at_call 27; (with_reducible refine (rmerge_any a a2 cap cap2 l m lr LL er _ l9 m9 (Lib.hid S4.out.M.S.A) (Lib.hid S4.out.M.S.M) HMG).mono ?_); rintro e w7 ⟨V1, V, Bo, B2, rfl, _, _, hT7, hV, hB⟩; obtain ⟨x2, j2, rfl⟩ := tab_shape hT7; obtain ⟨y2, i2, rfl, hy⟩ := row_readsI hV; have KK := (Below.refl w7.heap.size w7).alloc (Nat.le_refl _) (.cells #[.slice x2 lr.length j2] 24); have hB2 := hB.trans (KK.mono hB.size); have S5 : Hid (MX w (w7.alloc (.cells #[.slice x2 lr.length j2] 24)) bh bk a cap l a2 cap2 m a3 cap3 ks a1 k1 a4 k4 a5 w6.heap.size w7.heap.size x1 j1 lr x2 j2 lr) := Lib.hid ⟨S4.out.below hB2, X4.out.below hB2, Box.new _ _ _, RX4.out.below hB2, hT7.reads.below KK, hx1, hx2, Nat.lt_of_lt_of_le X4.out.lt hB.size⟩; have RL5 := Lib.hid (RL4.out.below hB2); have RM5 := Lib.hid (hy.below KK); clear hB hB2 KK hT7 hV hy c0 c1 S4 X4 RX4 RL4; have c0 := S5.out.X.cell 0; have c1 := S5.out.Y.cell 0)
      | (go_at_call 16; (with_reducible refine (lequal_any x1 x2 j1 j2 lr _ lx (Lib.hid S5.out.RX) (Lib.hid S5.out.RY)).mono ?_); rintro e w8 ⟨rfl, hB⟩; have S6 := Lib.hid (S5.out.below hB); have RL6 := Lib.hid (RL5.out.below hB); have RM6 := Lib.hid (RM5.out.below hB); clear hB S5 RL5 RM5 c0 c1)
      | (go_at_call 28; (with_reducible refine (same_intsB y1 y2 i1 i2 LL _ ly RL6 RM6).mono ?_); rintro e w9 ⟨rfl, hB⟩; have S7 := Lib.hid (S6.out.below hB); clear hB S6 RL6 RM6; have c0 := S7.out.S.H.cell 0)
      | (go_at_call 29; (with_reducible refine (pkeep_any a1 a5 k1 _ l ks lk ek _ l9 HS1 (Lib.hid S7.out.S.M.RH) ks9 (Lib.hid S7.out.S.M.RW) HKP).mono ?_); rintro e w10 ⟨V, Bo, rfl, _, hT8, hB⟩; obtain ⟨x3, j3, rfl⟩ := tab_shape hT8; have lz := hT8.max; have Q := S7.out.below hB; have g1 := Q.X.free 0; have g2 := Q.X.lt; have g3 := Q.X.cell 0; have S8 := Lib.hid (Q.setX (zk := j3) hT8.reads); clear hB hT8 Q S7 c0; have c0 := S8.out.S.M.S.P.cell 0)
      | (go_at_call 30; clear g1 g2 g3; (with_reducible refine (rkeep_any a a3 cap cap3 l ks lk ek _ l9 (by omega) (Lib.hid S8.out.S.M.S.A) (Lib.hid S8.out.S.M.S.I.reads) HKP).mono ?_); rintro e w11 ⟨V, Bo, rfl, _, hT9, hB⟩; obtain ⟨x4, j4, rfl⟩ := tab_shape hT9; have Q := S8.out.below hB; have g1 := Q.Y.free 0; have g2 := Q.Y.lt; have g3 := Q.Y.cell 0; have S9 := Lib.hid (Q.setY (zk := j4) hT9.reads); clear hB hT9 Q S8 c0))
    clear g1 g2 g3
    generalize w11.setCell ⟨w7.heap.size, 0, none⟩ (.slice x4 lk.length j4) = wz at S9 ⊢
    have zP : ∀ p : Later wz, p.W.cell? ⟨w.heap.size, 0, none⟩ = some (.slice a l.length cap) := fun p => p.cell (S9.out.S.M.S.P.cell 0) S9.out.S.M.S.P.lt
    have zQ : ∀ p : Later wz, p.W.cell? ⟨w.heap.size + 1, 0, none⟩ = some (.slice a2 m.length cap2) := fun p => p.cell (S9.out.S.M.S.Q.cell 0) S9.out.S.M.S.Q.lt
    have zH : ∀ p : Later wz, p.W.cell? ⟨bh, 0, none⟩ = some (.slice a1 l.length k1) := fun p => p.cell (S9.out.S.H.cell 0) S9.out.S.H.lt
    have zK : ∀ p : Later wz, p.W.cell? ⟨bk, 0, none⟩ = some (.slice a4 m.length k4) := fun p => p.cell (S9.out.S.K.cell 0) S9.out.S.K.lt
    have zX : ∀ p : Later wz, p.W.cell? ⟨w6.heap.size, 0, none⟩ = some (.slice x3 lk.length j3) := fun p => p.cell (S9.out.X.cell 0) S9.out.X.lt
    have zY : ∀ p : Later wz, p.W.cell? ⟨w7.heap.size, 0, none⟩ = some (.slice x4 lk.length j4) := fun p => p.cell (S9.out.Y.cell 0) S9.out.Y.lt
    have HRA := Lib.hid S9.out.S.M.S.A.reads
    have HRB := Lib.hid S9.out.S.M.S.M.reads
    have HRI := Lib.hid S9.out.S.M.S.I.reads
    have HRH := Lib.hid S9.out.S.M.RH
    have HRK := Lib.hid S9.out.S.M.RK
    have HRW := Lib.hid S9.out.S.M.RW
    have HRX := Lib.hid S9.out.RX
    have HRY := Lib.hid S9.out.RY
    have B9 := Lib.hid S9.out.S.M.S.B
    clear S9
    refine wp_region_later (by kernel_rfl) (by kernel_rfl) ?_
    repeat (go_big_quiet_step ((first
      | (go_at_call 16; first
        | with_reducible exact calls_later (lequal_any x3 x4 j3 j4 lk _ lz (Lib.hid (HRX.out.below (Later.h _))) (Lib.hid (HRY.out.below (Later.h _))))
        | with_reducible exact calls_later (lequal_any a1 a k1 cap l _ l9 (Lib.hid (HRH.out.below (Later.h _))) (Lib.hid (HRA.out.below (Later.h _))))
        | with_reducible exact calls_later (lequal_any a4 a2 k4 cap2 m _ m9 (Lib.hid (HRK.out.below (Later.h _))) (Lib.hid (HRB.out.below (Later.h _)))))
      | (go_at_call 31; with_reducible exact calls_later (psame_any a1 a4 k1 k4 l m rs _ l9 m9 (Lib.hid (HRH.out.below (Later.h _))) (Lib.hid (HRK.out.below (Later.h _))) HRS))
      | (go_at_call 32; with_reducible exact calls_later (rsame_any a a2 cap cap2 l m rs _ l9 m9 (Lib.hid (HRA.out.below (Later.h _))) (Lib.hid (HRB.out.below (Later.h _))) HRS))
      | (go_at_call 28; with_reducible exact calls_later (same_intsB a5 a3 k5 cap3 ks _ ks9 (Lib.hid (HRW.out.below (Later.h _))) (Lib.hid (HRI.out.below (Later.h _)))))
      | (go_at_call 10; with_reducible exact calls_later (awake_any _)))))
    refine wpQuiet_nil ?_
    rintro w12 ⟨p5, rfl⟩
    have B10 := Lib.hid (below_then B9.out p5.h)
    go_wp2
    go_ret
    exact ⟨rfl, B10.out⟩
end Go.Proofs.Ytndghjfgjkjbdaa.s06
