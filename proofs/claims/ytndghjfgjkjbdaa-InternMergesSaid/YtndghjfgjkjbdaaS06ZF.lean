/-
  Layer 6: InternNames's contract.
-/
import Derived.Test.YtndghjfgjkjbdaaS06ZE
namespace Go.Proofs.Ytndghjfgjkjbdaa.s06
set_option linter.unusedVariables false
set_option linter.unusedSimpArgs false
open Go.RowKit Go.WideMaps Go.Maps
open kit

theorem putT_len (l : List ByteArray) (s : ByteArray) (o : Bool) : (putT l s o).1.length ≤ l.length + 1 := by
  unfold putT
  split
  · split
    · split
      · split <;> simp
      · split <;> simp
    · simp
  · simp
theorem TabO.reads {l : List ByteArray} {B k : Nat} {a : Option Addr} {w : World} (h : TabO l B (.agg #[.slice a l.length k]) w) : ReadsS w a l := by
  obtain ⟨v, e, hr⟩ := h
  simp only [Value.agg.injEq] at e
  have e2 : v = .slice a l.length k := by
    have := congrArg (fun x => x[0]?) e
    simpa using this.symm
  subst e2
  exact reads_of_row rfl hr
/-- two tables of one's own beside two that stay -/
structure NSt (w W : World) (bh ba bb : Nat) (a : Option Addr) (cap : Nat) (a1 : Option Addr) (k1 : Nat) (l : List ByteArray) (a2 : Option Addr) (k2 : Nat) (la : List ByteArray) (a3 : Option Addr) (k3 : Nat) (lb : List ByteArray) : Prop where
  P : Box W 24 w.heap.size #[.slice a l.length cap]
  H : Box W 24 bh #[.slice a1 l.length k1]
  A : Box W 24 ba #[.slice a2 la.length k2]
  C : Box W 24 bb #[.slice a3 lb.length k3]
  RT : ReadsS W a l
  RH : ReadsS W a1 l
  RA : ReadsS W a2 la
  RC : ReadsS W a3 lb
  B : Below w.heap.size w W
  h1 : w.heap.size < bh
  h2 : bh < ba
  h3 : ba < bb
theorem NSt.below {w W W1 : World} {bh ba bb : Nat} {a : Option Addr} {cap : Nat} {a1 : Option Addr} {k1 : Nat} {l : List ByteArray} {a2 : Option Addr} {k2 : Nat} {la : List ByteArray} {a3 : Option Addr} {k3 : Nat} {lb : List ByteArray} (h : NSt w W bh ba bb a cap a1 k1 l a2 k2 la a3 k3 lb) (hB : Below W.heap.size W W1) : NSt w W1 bh ba bb a cap a1 k1 l a2 k2 la a3 k3 lb :=
  ⟨h.P.below hB, h.H.below hB, h.A.below hB, h.C.below hB, h.RT.below hB, h.RH.below hB, h.RA.below hB, h.RC.below hB, below_then h.B hB, h.h1, h.h2, h.h3⟩
theorem NSt.setA {w W : World} {bh ba bb : Nat} {a : Option Addr} {cap : Nat} {a1 : Option Addr} {k1 : Nat} {l : List ByteArray} {a2 : Option Addr} {k2 : Nat} {la : List ByteArray} {a3 : Option Addr} {k3 : Nat} {lb : List ByteArray} (h : NSt w W bh ba bb a cap a1 k1 l a2 k2 la a3 k3 lb) {a4 : Option Addr} {k4 : Nat} {lc : List ByteArray} (hR : ReadsS W a4 lc) : NSt w (W.setCell ⟨ba, 0, none⟩ (.slice a4 lc.length k4)) bh ba bb a cap a1 k1 l a4 k4 lc a3 k3 lb := by
  have h1 := h.h1
  have h2 := h.h2
  have h3 := h.h3
  exact ⟨h.P.other (by omega) _, h.H.other (by omega) _, h.A.set 0 (by simp) _, h.C.other (by omega) _, reads_box_set h.RT h.A _, reads_box_set h.RH h.A _, reads_box_set hR h.A _, reads_box_set h.RC h.A _, h.B.setCell (p := ⟨ba, 0, none⟩) (by simp; omega) _, h1, h2, h3⟩
theorem NSt.setC {w W : World} {bh ba bb : Nat} {a : Option Addr} {cap : Nat} {a1 : Option Addr} {k1 : Nat} {l : List ByteArray} {a2 : Option Addr} {k2 : Nat} {la : List ByteArray} {a3 : Option Addr} {k3 : Nat} {lb : List ByteArray} (h : NSt w W bh ba bb a cap a1 k1 l a2 k2 la a3 k3 lb) {a4 : Option Addr} {k4 : Nat} {lc : List ByteArray} (hR : ReadsS W a4 lc) : NSt w (W.setCell ⟨bb, 0, none⟩ (.slice a4 lc.length k4)) bh ba bb a cap a1 k1 l a2 k2 la a4 k4 lc := by
  have h1 := h.h1
  have h2 := h.h2
  have h3 := h.h3
  exact ⟨h.P.other (by omega) _, h.H.other (by omega) _, h.A.other (by omega) _, h.C.set 0 (by simp) _, reads_box_set h.RT h.C _, reads_box_set h.RH h.C _, reads_box_set h.RA h.C _, reads_box_set hR h.C _, h.B.setCell (p := ⟨bb, 0, none⟩) (by simp; omega) _, h1, h2, h3⟩
set_option maxRecDepth 100000 in
set_option maxHeartbeats 4000000 in
theorem names_main (a : Option Addr) (cap : Nat) (l : List ByteArray) (s : ByteArray) (n : Int) (w : World) (hl : l.length ≤ 40) (hT : Hid (Tb w l a cap)) (HL : Hid (lightB l = true)) (hs : s.size ≤ 30) :
    Calls Try.prog 3 #[.agg #[.slice a l.length cap], .string s, .int .i64 n] w fun e w' => e = .returned (.bool true) ∧ Below w.heap.size w w' := by
  have KK := (Below.refl w.heap.size w).alloc (Nat.le_refl _) (.cells #[.slice a l.length cap] 24)
  have P0 := Lib.hid (Box.new w 24 #[.slice a l.length cap])
  have B0 := Lib.hid KK
  have T0 := Lib.hid (hT.out.below KK)
  have HSM := Lib.hid hT.out.small
  clear KK
  obtain ⟨⟨e1, p1⟩, hc⟩ : ∃ r, chkT l = r := ⟨_, rfl⟩
  have hok : okT l = e1 := by unfold okT; rw [hc]
  have HC := Lib.hid hc
  have HOK := Lib.hid hok
  obtain ⟨lo, hlo⟩ : ∃ lo, (if e1 = 0 then l else []) = lo := ⟨_, rfl⟩
  have HLO := Lib.hid hlo
  obtain ⟨⟨l1, n1, x1⟩, h1⟩ : ∃ r, putT l s false = r := ⟨_, rfl⟩
  obtain ⟨⟨l2, n2, x2⟩, h2⟩ : ∃ r, putT l s true = r := ⟨_, rfl⟩
  obtain ⟨⟨n3, x3⟩, h3⟩ : ∃ r, findT l s = r := ⟨_, rfl⟩
  obtain ⟨⟨y4, x4⟩, h4⟩ : ∃ r, nameT l n = r := ⟨_, rfl⟩
  have hl1 : l1.length ≤ 9223372036854775807 ∧ l2.length ≤ 9223372036854775807 ∧ lo.length ≤ 9223372036854775807 := by
    refine ⟨?_, ?_, ?_⟩
    · have := putT_len l s false; rw [h1] at this; simp only at this; omega
    · have := putT_len l s true; rw [h2] at this; simp only at this; omega
    · rw [← hlo]; split
      · omega
      · simp
  obtain ⟨hl1, hl2, hlo2⟩ := hl1
  have H1 := Lib.hid h1
  have H2 := Lib.hid h2
  have H3 := Lib.hid h3
  have H4 := Lib.hid h4
  have hc1 := hT.out.hcap
  have hsz : s.size ≤ 9223372036854775807 := by omega
  clear hc hok hlo h1 h2 h3 h4
  go_enter Try.func3, Try.ntmps3
  go_wp2_with (first
    | (go_at_call 9; (refine (light_any a cap l true _ (by omega) HSM (Lib.hid T0.out.reads) HL).mono ?_); rintro e w1 ⟨rfl, hB⟩; have P1 := Lib.hid (P0.out.below hB); have B1 := Lib.hid (below_then B0.out hB); have T1 := Lib.hid (T0.out.below hB); clear hB P0 B0 T0; have c0 := P1.out.cell 0)
    | (go_at_call 11; (refine (lown_any a cap l _ (by omega) (Lib.hid T1.out.src)).mono ?_); rintro e w2 ⟨a1, k1, rfl, hR, hB⟩; have KK := (Below.refl w2.heap.size w2).alloc (Nat.le_refl _) (.cells #[.slice a1 l.length k1] 24); have hB2 := hB.trans (KK.mono hB.size); have P2 := Lib.hid (P1.out.below hB2); have H20 := Lib.hid (Box.new w2 24 #[.slice a1 l.length k1]); have R2 := Lib.hid (hR.below KK); have T2 := Lib.hid (T1.out.below hB2); have B2 := Lib.hid (below_then B1.out hB2); have hh := Nat.lt_of_lt_of_le P1.out.lt hB.size; clear hB KK hB2 hR c0 P1 B1 T1; have c0 := P2.out.cell 0; have d0 := H20.out.cell 0)
    | (go_at_call 12; (refine (checkp_any a1 k1 l e1 p1 _ (by omega) HSM R2 HC).mono ?_); rintro e w3 ⟨rfl, hB⟩; have P3 := Lib.hid (P2.out.below hB); have H30 := Lib.hid (H20.out.below hB); have R3 := Lib.hid (R2.out.below hB); have T3 := Lib.hid (T2.out.below hB); have B3 := Lib.hid (below_then B2.out hB); clear hB c0 d0 P2 H20 R2 T2 B2; have c0 := P3.out.cell 0; have d0 := H30.out.cell 0)
    | (go_at_call 13; (refine (checkt_any a cap l e1 p1 _ hc1 (by omega) HSM (Lib.hid T3.out.reads) HC).mono ?_); rintro e w4 ⟨rfl, hB⟩; have P4 := Lib.hid (P3.out.below hB); have H40 := Lib.hid (H30.out.below hB); have R4 := Lib.hid (R3.out.below hB); have T4 := Lib.hid (T3.out.below hB); have B4 := Lib.hid (below_then B3.out hB); clear hB c0 d0 P3 H30 R3 T3 B3; have c0 := P4.out.cell 0; have d0 := H40.out.cell 0)
    | (go_at_call 14; (refine (ofp_any a1 k1 l e1 p1 _ (by omega) HSM R4 HC).mono ?_); rintro e w5 ⟨V, Bo, rfl, hbo, hV, hB⟩; rw [HLO.out] at hV; obtain ⟨a2, k2, rfl⟩ := tab_shape hV; have KK := (Below.refl w5.heap.size w5).alloc (Nat.le_refl _) (.cells #[.slice a2 lo.length k2] 24); have hB2 := hB.trans (KK.mono hB.size); have P5 := Lib.hid (P4.out.below hB2); have H50 := Lib.hid (H40.out.below hB2); have R5 := Lib.hid (R4.out.below hB2); have T5 := Lib.hid (T4.out.below hB2); have B5 := Lib.hid (below_then B4.out hB2); have A5 := Lib.hid (Box.new w5 24 #[.slice a2 lo.length k2]); have RA5 := Lib.hid (hV.reads.below KK); have hh2 := Nat.lt_of_lt_of_le H40.out.lt hB.size; clear hB KK hB2 hV hbo c0 d0 P4 H40 R4 T4 B4; have c0 := P5.out.cell 0; have d0 := H50.out.cell 0; have e0 := A5.out.cell 0)
    | (go_at_call 15; (refine (rof_any a cap l e1 _ (by omega) T5 HOK).mono ?_); rintro e w6 ⟨V, Bo, rfl, hbo, hV, hB⟩; rw [HLO.out] at hV; obtain ⟨a3, k3, rfl⟩ := tab_shape hV; have KK := (Below.refl w6.heap.size w6).alloc (Nat.le_refl _) (.cells #[.slice a3 lo.length k3] 24); have hB2 := hB.trans (KK.mono hB.size); have S6 : Hid (NSt w (w6.alloc (.cells #[.slice a3 lo.length k3] 24)) w2.heap.size w5.heap.size w6.heap.size a cap a1 k1 l a2 k2 lo a3 k3 lo) := Lib.hid ⟨P5.out.below hB2, H50.out.below hB2, A5.out.below hB2, Box.new _ _ _, T5.out.reads.below hB2, R5.out.below hB2, RA5.out.below hB2, hV.reads.below KK, below_then B5.out hB2, hh, hh2, Nat.lt_of_lt_of_le A5.out.lt hB.size⟩; clear hB KK hB2 hV hbo c0 d0 e0 P5 H50 R5 T5 B5 A5 RA5; obtain ⟨c0, d0, e0, f0⟩ : _ ∧ _ ∧ _ ∧ _ := ⟨S6.out.P.cell 0, S6.out.H.cell 0, S6.out.A.cell 0, S6.out.C.cell 0⟩)
    | (go_at_call 16; (refine (lequal_any a2 a3 k2 k3 lo _ (by omega) (Lib.hid S6.out.RA) (Lib.hid S6.out.RC)).mono ?_); rintro e w7 ⟨rfl, hB⟩; have S7 := Lib.hid (S6.out.below hB); clear hB c0 d0 e0 f0 S6; obtain ⟨c0, d0, e0, f0⟩ : _ ∧ _ ∧ _ ∧ _ := ⟨S7.out.P.cell 0, S7.out.H.cell 0, S7.out.A.cell 0, S7.out.C.cell 0⟩)
    | (go_at_call 17; (refine (pintern_any a1 k1 l s l1 n1 x1 _ (by omega) HSM hsz (Lib.hid S7.out.RH) H1).mono ?_); rintro e w8 ⟨V, Bo, rfl, hbo, hV, hB⟩; obtain ⟨a4, k4, rfl⟩ := tab_shape hV; have Q := S7.out.below hB; have g1 := Q.A.free 0; have g2 := Q.A.lt; have g3 := Q.A.cell 0; have S8 := Lib.hid (Q.setA (k4 := k4) hV.reads); clear hB hV hbo c0 d0 e0 f0 S7 Q; obtain ⟨c0, d0, e0, f0⟩ : _ ∧ _ ∧ _ ∧ _ := ⟨S8.out.P.cell 0, S8.out.H.cell 0, S8.out.A.cell 0, S8.out.C.cell 0⟩)
    | (go_at_call 18; (refine (rintern_any a cap l s l1 n1 x1 _ (by omega) hsz (Lib.hid ⟨S8.out.RT, hT.out.hcap, hT.out.hnil, hT.out.small⟩) H1).mono ?_); rintro e w9 ⟨V, Bo, rfl, hbo, hV, hB⟩; clear g1 g2 g3; obtain ⟨a5, k5, rfl⟩ := tab_shape hV; have Q := S8.out.below hB; have g1 := Q.C.free 0; have g2 := Q.C.lt; have g3 := Q.C.cell 0; have S9 := Lib.hid (Q.setC (k4 := k5) hV.reads); clear hB hV hbo c0 d0 e0 f0 S8 Q; obtain ⟨c0, d0, e0, f0⟩ : _ ∧ _ ∧ _ ∧ _ := ⟨S9.out.P.cell 0, S9.out.H.cell 0, S9.out.A.cell 0, S9.out.C.cell 0⟩)
    | (go_at_call 16; (refine (lequal_any a4 a5 k4 k5 l1 _ (by omega) (Lib.hid S9.out.RA) (Lib.hid S9.out.RC)).mono ?_); rintro e w10 ⟨rfl, hB⟩; have S10 := Lib.hid (S9.out.below hB); clear hB c0 d0 e0 f0 S9; obtain ⟨c0, d0, e0, f0⟩ : _ ∧ _ ∧ _ ∧ _ := ⟨S10.out.P.cell 0, S10.out.H.cell 0, S10.out.A.cell 0, S10.out.C.cell 0⟩)
    | (go_at_call 19; (refine (padd_any a1 k1 l s l2 n2 x2 _ (by omega) HSM hsz (Lib.hid S10.out.RH) H2).mono ?_); rintro e w11 ⟨V, Bo, rfl, hbo, hV, hB⟩; clear g1 g2 g3; obtain ⟨a6, k6, rfl⟩ := tab_shape hV; have Q := S10.out.below hB; have g1 := Q.A.free 0; have g2 := Q.A.lt; have g3 := Q.A.cell 0; have S11 := Lib.hid (Q.setA (k4 := k6) hV.reads); clear hB hV hbo c0 d0 e0 f0 S10 Q; obtain ⟨c0, d0, e0, f0⟩ : _ ∧ _ ∧ _ ∧ _ := ⟨S11.out.P.cell 0, S11.out.H.cell 0, S11.out.A.cell 0, S11.out.C.cell 0⟩)
    | (go_at_call 20; (refine (radd_any a cap l s l2 n2 x2 _ (by omega) hsz (Lib.hid ⟨S11.out.RT, hT.out.hcap, hT.out.hnil, hT.out.small⟩) H2).mono ?_); rintro e w12 ⟨V, Bo, rfl, hbo, hV, hB⟩; clear g1 g2 g3; obtain ⟨a7, k7, rfl⟩ := tab_shape hV; have Q := S11.out.below hB; have g1 := Q.C.free 0; have g2 := Q.C.lt; have g3 := Q.C.cell 0; have S12 := Lib.hid (Q.setC (k4 := k7) hV.reads); clear hB hV hbo c0 d0 e0 f0 S11 Q; obtain ⟨c0, d0, e0, f0⟩ : _ ∧ _ ∧ _ ∧ _ := ⟨S12.out.P.cell 0, S12.out.H.cell 0, S12.out.A.cell 0, S12.out.C.cell 0⟩)
    | (go_at_call 16; (refine (lequal_any a6 a7 k6 k7 l2 _ (by omega) (Lib.hid S12.out.RA) (Lib.hid S12.out.RC)).mono ?_); rintro e w13 ⟨rfl, hB⟩; have S13 := Lib.hid (S12.out.below hB); clear hB c0 d0 e0 f0 S12; obtain ⟨c0, d0, e0, f0⟩ : _ ∧ _ ∧ _ ∧ _ := ⟨S13.out.P.cell 0, S13.out.H.cell 0, S13.out.A.cell 0, S13.out.C.cell 0⟩)
    | (go_at_call 21; (refine (pfind_any a1 k1 l s n3 x3 _ (by omega) HSM hsz (Lib.hid S13.out.RH) H3).mono ?_); rintro e w14 ⟨rfl, hB⟩; have S14 := Lib.hid (S13.out.below hB); clear hB c0 d0 e0 f0 S13; obtain ⟨c0, d0, e0, f0⟩ : _ ∧ _ ∧ _ ∧ _ := ⟨S14.out.P.cell 0, S14.out.H.cell 0, S14.out.A.cell 0, S14.out.C.cell 0⟩)
    | (go_at_call 22; (refine (find6_any a cap l s n3 x3 _ hc1 (by omega) HSM hsz (Lib.hid S14.out.RT) H3).mono ?_); rintro e w15 ⟨rfl, hB⟩; have S15 := Lib.hid (S14.out.below hB); clear hB c0 d0 e0 f0 S14; obtain ⟨c0, d0, e0, f0⟩ : _ ∧ _ ∧ _ ∧ _ := ⟨S15.out.P.cell 0, S15.out.H.cell 0, S15.out.A.cell 0, S15.out.C.cell 0⟩)
    | (go_at_call 23; (refine (pname_any a1 k1 l n y4 x4 _ (by omega) HSM (Lib.hid S15.out.RH) H4).mono ?_); rintro e w16 ⟨rfl, hB⟩; have S16 := Lib.hid (S15.out.below hB); clear hB c0 d0 e0 f0 S15; obtain ⟨c0, d0, e0, f0⟩ : _ ∧ _ ∧ _ ∧ _ := ⟨S16.out.P.cell 0, S16.out.H.cell 0, S16.out.A.cell 0, S16.out.C.cell 0⟩)
    | (go_at_call 24; (refine (name6_any a cap l n y4 x4 _ hc1 (by omega) HSM (Lib.hid S16.out.RT) H4).mono ?_); rintro e w17 ⟨rfl, hB⟩; have S17 := Lib.hid (S16.out.below hB); clear hB c0 d0 e0 f0 S16; obtain ⟨c0, d0, e0, f0⟩ : _ ∧ _ ∧ _ ∧ _ := ⟨S17.out.P.cell 0, S17.out.H.cell 0, S17.out.A.cell 0, S17.out.C.cell 0⟩)
    | (go_at_call 16; (refine (lequal_any a1 a k1 cap l _ (by omega) (Lib.hid S17.out.RH) (Lib.hid S17.out.RT)).mono ?_); rintro e w18 ⟨rfl, hB⟩; have S18 := Lib.hid (S17.out.below hB); clear hB c0 d0 e0 f0 S17; obtain ⟨c0, d0, e0, f0⟩ : _ ∧ _ ∧ _ ∧ _ := ⟨S18.out.P.cell 0, S18.out.H.cell 0, S18.out.A.cell 0, S18.out.C.cell 0⟩)
    | (go_at_call 10; (refine (awake_any _).mono ?_); rintro e w19 ⟨rfl, hB⟩; have B19 := Lib.hid (below_then S18.out.B hB); clear hB))
  go_ret
  exact ⟨rfl, B19.out⟩
set_option maxRecDepth 100000 in
set_option maxHeartbeats 2000000 in
theorem names_any (a : Option Addr) (cap : Nat) (l : List ByteArray) (s : ByteArray) (n : Int) (w : World) (hl : l.length ≤ 9223372036854775807) (hs : s.size ≤ 9223372036854775807) (hT : Hid (Tb w l a cap)) :
    Calls Try.prog 3 #[.agg #[.slice a l.length cap], .string s, .int .i64 n] w fun e w' => e = .returned (.bool true) ∧ Below w.heap.size w w' := by
  have KK := (Below.refl w.heap.size w).alloc (Nat.le_refl _) (.cells #[.slice a l.length cap] 24)
  have B0 := Lib.hid KK
  have T0 := Lib.hid (hT.out.below KK)
  have HSM := Lib.hid hT.out.small
  clear KK
  cases hlt : lightB l
  · have HL := Lib.hid hlt
    clear hlt
    go_enter Try.func3, Try.ntmps3
    go_wp2_with (first
      | (go_at_call 9; (refine (light_any a cap l false _ hl HSM (Lib.hid T0.out.reads) HL).mono ?_); rintro e w1 ⟨rfl, hB⟩; have B1 := Lib.hid (below_then B0.out hB); clear hB)
      | (go_at_call 10; (refine (awake_any _).mono ?_); rintro e w2 ⟨rfl, hB⟩; have B2 := Lib.hid (below_then B1.out hB); clear hB))
    go_ret
    exact ⟨rfl, B2.out⟩
  · have HL := Lib.hid hlt
    by_cases h30 : s.size ≤ 30
    · exact names_main a cap l s n w (light_mem hlt).1 hT HL h30
    · clear hlt
      go_enter Try.func3, Try.ntmps3
      go_wp2_with (first
        | (go_at_call 9; (refine (light_any a cap l true _ hl HSM (Lib.hid T0.out.reads) HL).mono ?_); rintro e w1 ⟨rfl, hB⟩; have B1 := Lib.hid (below_then B0.out hB); clear hB)
        | (go_at_call 10; (refine (awake_any _).mono ?_); rintro e w2 ⟨rfl, hB⟩; have B2 := Lib.hid (below_then B1.out hB); clear hB))
      go_ret
      exact ⟨rfl, B2.out⟩
end Go.Proofs.Ytndghjfgjkjbdaa.s06
