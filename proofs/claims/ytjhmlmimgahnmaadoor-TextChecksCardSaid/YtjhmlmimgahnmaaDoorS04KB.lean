/-
  Layer 4: the law TextChecks: the whole way.
-/
import Derived.Test.YtjhmlmimgahnmaaDoorS04K
namespace Go.Proofs.YtjhmlmimgahnmaaDoor.s04
set_option linter.unusedVariables false
set_option linter.unusedSimpArgs false
open Go.RowKit
open kit

set_option maxRecDepth 100000 in
set_option maxHeartbeats 700000 in
theorem checks_main (kd at' least most : Int) (tx s : ByteArray) (a b : Option Addr) (ca cb : Nat) (l k : List Li) (w : World) (ht : Tab w) (hs : s.size ≤ 9223372036854775807) (htx : tx.size ≤ 9223372036854775807) (hl : l.length ≤ 9223372036854775807) (hk : k.length ≤ 9223372036854775807) (ra : ReadsL w a l) (rb : ReadsL w b k) (hnil : a = none → ca = 0) (h1 : tx.size ≤ 100) (h2 : s.size ≤ 100) (hla : lightB l = true) (hlb : lightB k = true) :
    Calls Tryd.prog 3 #[.agg #[.int .i64 kd, .string tx, .int .i64 at'], .int .i64 least, .int .i64 most, .string s, .slice a l.length ca, .slice b k.length cb] w fun e w' => e = .returned (.bool true) ∧ Below w.heap.size w w' := by
  have HB := Lib.hid ((Below.refl w.heap.size w).alloc (Nat.le_refl _) (.cells #[.int .i64 kd, .string tx, .int .i64 at'] 23))
  have HX := Lib.hid (Box.new w 23 #[.int .i64 kd, .string tx, .int .i64 at'])
  have HT := Lib.hid (ht.alloc (.cells #[.int .i64 kd, .string tx, .int .i64 at'] 23))
  have HRA := Lib.hid (ra.alloc (.cells #[.int .i64 kd, .string tx, .int .i64 at'] 23))
  have HRB := Lib.hid (rb.alloc (.cells #[.int .i64 kd, .string tx, .int .i64 at'] 23))
  have HNIL := Lib.hid hnil
  have HRA0 := Lib.hid ra
  have HRB0 := Lib.hid rb
  clear ht ra rb hnil
  have HL := Lib.hid hla
  have HK := Lib.hid hlb
  have dl := of_decide_eq_true hla
  have dk := of_decide_eq_true hlb
  have l100 : l.length ≤ 100 := dl.1
  have k100 : k.length ≤ 100 := dk.1
  have HZ : Hid (∀ x ∈ l, x.2.1.size ≤ 1000) := Lib.hid fun x hx => by
    obtain ⟨i, hi, rfl⟩ := List.getElem_of_mem hx
    exact Nat.le_trans (dl.2 i hi) (by omega)
  clear hla hlb dl dk
  have t100 : tx.size ≤ 100000 := by omega
  have t900 : tx.size ≤ 9223372036854775806 := by omega
  have l1000 : l.length ≤ 1000 := by omega
  have l10 : l.length ≤ 1000000 := by omega
  have k10 : k.length ≤ 1000000 := by omega
  have l105 : l.length ≤ 100000 := by omega
  obtain ⟨n, c, HN⟩ : ∃ n c, Hid (numR kd tx at' least most = (n, c)) := ⟨_, _, Lib.hid rfl⟩
  obtain ⟨ck, HC⟩ : ∃ ck, Hid (checkR kd tx at' = ck) := ⟨_, Lib.hid rfl⟩
  obtain ⟨b1, HI1⟩ : ∃ b1, Hid (isB kd kd tx s = b1) := ⟨_, Lib.hid rfl⟩
  obtain ⟨b2, HI2⟩ : ∃ b2, Hid (isB kd least tx tx = b2) := ⟨_, Lib.hid rfl⟩
  obtain ⟨ts, te, HTX⟩ : ∃ ts te, Hid (textR l = (ts, te)) := ⟨_, _, Lib.hid rfl⟩
  obtain ⟨sm, HSM⟩ : ∃ sm, Hid (decide (l.map kt = k.map kt) = sm) := ⟨_, Lib.hid rfl⟩
  have n1 : ((ck : Int) != (ck : Int)) = false := bne_self_eq_false _
  have n2 : (n != n) = false := bne_self_eq_false _
  have n3 : ((c : Int) != (c : Int)) = false := bne_self_eq_false _
  have n4 : (b1 != b1) = false := bne_self_eq_false _
  have n5 : (b2 != b2) = false := bne_self_eq_false _
  go_enter Tryd.func3, Tryd.ntmps3
  go_wp2_with (first
    | (go_at_call 5; (with_reducible refine (light_any a ca l _ hl HRA.out true HL).mono ?_); rintro e w1 ⟨rfl, B1⟩; have HB1 := Lib.hid (below_then HB.out B1); have HRB1 := Lib.hid (HRB.out.below B1); have HRA1 := Lib.hid (HRA.out.below B1); have HX1 := Lib.hid (HX.out.below B1); have HT1 := Lib.hid (HT.out.below B1); clear B1 HRA HRB HX HT HB)
    | (go_at_call 5; (with_reducible refine (light_any b cb k _ hk HRB1.out true HK).mono ?_); rintro e w2 ⟨rfl, B2⟩; have HB2 := Lib.hid (below_then HB1.out B2); have HRB2 := Lib.hid (HRB1.out.below B2); have HRA2 := Lib.hid (HRA1.out.below B2); have HX2 := Lib.hid (HX1.out.below B2); have HT2 := Lib.hid (HT1.out.below B2); obtain ⟨x0, x1, x2⟩ := HX2.out.cell3; have lx := HX2.out.lt; clear B2 HRA1 HRB1 HX1 HT1 HB1)
    | (go_at_call 7; (with_reducible refine (number_any kd at' least most tx _ t100 HT2.out n c HN).mono ?_); rintro e w3 ⟨rfl, B3⟩; have HB3 := Lib.hid (below_then HB2.out B3); have HRB3 := Lib.hid (HRB2.out.below B3); have HRA3 := Lib.hid (HRA2.out.below B3); have HX3 := Lib.hid (HX2.out.below B3); obtain ⟨y0, y1, y2⟩ := HX3.out.cell3; have ly := HX3.out.lt; clear B3 HRA2 HRB2 HX2 HT2 HB2)
    | (go_at_call 8; (with_reducible refine (rnumber_any kd at' least most tx _ t100 n c HN).mono ?_); rintro e w4 ⟨rfl, B4⟩; have HB4 := Lib.hid (below_then HB3.out B4); have HRB4 := Lib.hid (HRB3.out.below B4); have HRA4 := Lib.hid (HRA3.out.below B4); have HX4 := Lib.hid (HX3.out.below B4); clear B4 HRA3 HRB3 HX3 HB3))
  have z0 : ∀ p : Later w4, p.W.cell? ⟨w.heap.size, 0, none⟩ = some (.int .i64 kd) := fun p => p.cell HX4.out.cell3.1 HX4.out.lt
  have z1 : ∀ p : Later w4, p.W.cell? ⟨w.heap.size, 1, none⟩ = some (.string tx) := fun p => p.cell HX4.out.cell3.2.1 HX4.out.lt
  have z2 : ∀ p : Later w4, p.W.cell? ⟨w.heap.size, 2, none⟩ = some (.int .i64 at') := fun p => p.cell HX4.out.cell3.2.2 HX4.out.lt
  clear x0 x1 x2 y0 y1 y2 lx ly
  refine wp_region_later (by kernel_rfl) (by kernel_rfl) ?_
  repeat (go_big_quiet_step ((first
    | (go_at_call 9; exact calls_later (check_any kd at' tx _ t900 ck HC))
    | (go_at_call 10; exact calls_later (rcheck_any kd at' tx _ t900 ck HC))
    | (go_at_call 11; with_reducible (first | exact calls_later (is_any kd kd at' tx s _ b1 HI1) | exact calls_later (is_any kd least at' tx tx _ b2 HI2)))
    | (go_at_call 12; with_reducible (first | exact calls_later (ris_any kd kd at' tx s _ b1 HI1) | exact calls_later (ris_any kd least at' tx tx _ b2 HI2))))))
  refine wpQuiet_nil ?_
  intro _ hw'
  obtain ⟨p5, hw''⟩ := hw'
  subst hw''
  have HB5 := Lib.hid (below_then HB4.out p5.h)
  have HRA5 := Lib.hid (HRA4.out.below p5.h)
  have HRB5 := Lib.hid (HRB4.out.below p5.h)
  clear z0 z1 z2 HB4 HRA4 HRB4 HX4
  generalize p5.W = w5 at HB5 HRA5 HRB5 ⊢
  go_wp2_with (first
    | (at_builtin; refine append_own rfl (.tmp 95) (.tmp 96) rfl w.heap.size _ rfl (empty_row3 23 w5 w.heap.size HB5.out.size) a l ca rfl (HRA5.out.alloc _) HNIL.out l105 (by have := HB5.out.size; simp; omega) ?_; intro a6 c6 w6 R6 G6; have HO6 := Lib.hid R6; have HB6 := Lib.hid ((HB5.out.alloc HB5.out.size (.cells #[] 23)).trans G6); clear R6 G6 HB5 HRA5 HRB5)
    | (go_at_call 13; (with_reducible refine (text_any a6 c6 l _ l1000 HZ.out HO6.out ts te HTX).mono ?_); rintro e w7 ⟨rfl, B7⟩; have HO7 := Lib.hid (HO6.out.below B7); have HB7 := Lib.hid (below_then HB6.out B7); clear B7 HO6 HB6)
    | (go_at_call 14; have RR := HRA0.out.below HB7.out; (with_reducible refine (rtext_any a ca l _ l1000 HZ.out RR ts te HTX).mono ?_); clear RR; rintro e w8 ⟨rfl, B8⟩; have HO8 := Lib.hid (HO7.out.below B8); have HB8 := Lib.hid (below_then HB7.out B8); clear B8 HO7 HB7)
    | (go_at_call 15; have RR := HRB0.out.below HB8.out; (with_reducible refine (same_any a6 b c6 cb l k _ l10 k10 HO8.out RR sm HSM).mono ?_); clear RR; rintro e w9 ⟨rfl, B9⟩; have HO9 := Lib.hid (HO8.out.below B9); have HB9 := Lib.hid (below_then HB8.out B9); clear B9 HO8 HB8)
    | (go_at_call 16; have RR := HRB0.out.below HB9.out; have RS := HRA0.out.below HB9.out; (with_reducible refine (rsame_any a b ca cb l k _ l10 k10 RS RR sm HSM).mono ?_); clear RR RS; rintro e w10 ⟨rfl, B10⟩; have HO10 := Lib.hid (HO9.out.below B10); have HB10 := Lib.hid (below_then HB9.out B10); clear B10 HO9 HB9)
    | (go_at_call 17; have RR := HRA0.out.below HB10.out; (with_reducible refine (same_list a6 a c6 ca l _ l10 HO10.out RR).mono ?_); clear RR; rintro e w11 ⟨rfl, m11, rfl⟩; have HB11 := Lib.hid (below_drewN HB10.out m11); clear HO10 HB10)
    | (go_at_call 6; refine (awake_any _).mono ?_; rintro e w12 ⟨rfl, B12⟩; have HB12 := Lib.hid (below_then HB11.out B12)))
  go_ret
  exact ⟨rfl, HB12.out⟩
end Go.Proofs.YtjhmlmimgahnmaaDoor.s04
