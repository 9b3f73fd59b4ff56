/-
  TextJoins: the lexemes of two texts, the first of which ends with a line feed, are those of both; no condition.
-/
import Derived.Test.YtjhmlmimgahnmaaRows
import Derived.Test.YtjhmlmimgahnmaaS04R
import Derived.Test.YtjhmlmimgahnmaaS04T
import Derived.WalkKit
import Derived.ProofKit
import Derived.OpenShut
import Derived.ShutString
import Derived.SliceStrings
import Derived.ChangeOld
import Derived.Below
namespace Go.Proofs.Ytjhmlmimgahnmaa.textJoins
open Go.ChangeShapes Go.WideShapes Go.ChangeAt Go.RowKit
open kit s04
open Go.ChangeMaps (open_string shut_string)
set_option linter.unusedVariables false
set_option linter.unusedSimpArgs false

theorem own : ownKnob Try.prog.godebug = none := by kernel_rfl
theorem laidOut : laidOutB Try.prog = true := by kernel_rfl

set_option maxRecDepth 100000 in
set_option maxHeartbeats 2000000 in
theorem walk (a0 : ByteArray) (a1 : ByteArray) (w : World) (w0 : a0.size ≤ maxLen) (w1 : a1.size ≤ maxLen) :
    Calls Try.prog 6 #[.string a0, .string a1] w fun e w' => e = .returned (.bool true) ∧ Below w.heap.size w w' := by
  unfold maxLen at w0 w1
  by_cases hb0 : 200 < a0.size
  · go_enter Try.func6, Try.ntmps6
    go_wp2_with (go_at_call 7; refine (awake_any _).mono ?_; rintro e w9 ⟨rfl, hB9⟩)
    go_ret
    exact ⟨rfl, hB9⟩
  by_cases hb1 : 200 < a1.size
  · have h0 : a0.size ≤ 200 := by omega
    clear hb0
    go_enter Try.func6, Try.ntmps6
    go_wp2_with (go_at_call 7; refine (awake_any _).mono ?_; rintro e w9 ⟨rfl, hB9⟩)
    go_ret
    exact ⟨rfl, hB9⟩
  have g0 : a0.size ≤ 200 := by omega
  have g1 : a1.size ≤ 200 := by omega
  clear hb0 hb1 w0 w1
  have hus : (a0 ++ ⟨#[10]⟩ : ByteArray).size = a0.size + 1 := by simp; rfl
  have hvs : (a0 ++ ⟨#[10]⟩ ++ a1 : ByteArray).size = a0.size + 1 + a1.size := by rw [ByteArray.size_append, hus]
  have hT : Two (a0 ++ ⟨#[10]⟩) a1 (a0 ++ ⟨#[10]⟩ ++ a1) := ⟨by simp, by simp⟩
  have u5 : (a0 ++ ⟨#[10]⟩ : ByteArray).size ≤ 100000 := by omega
  have t5 : a1.size ≤ 100000 := by omega
  have v5 : (a0 ++ ⟨#[10]⟩ ++ a1 : ByteArray).size ≤ 100000 := by omega
  obtain ⟨La, ea, pa, HA⟩ : ∃ L e p, Hid (lexR (a0 ++ ⟨#[10]⟩) = (L, e, p)) := ⟨_, _, _, Lib.hid rfl⟩
  obtain ⟨Lb, eb, pb, HB⟩ : ∃ L e p, Hid (lexR a1 = (L, e, p)) := ⟨_, _, _, Lib.hid rfl⟩
  obtain ⟨x1, x2, x3⟩ := hT.lex (by omega) HA.out HB.out
  have la := lexR_len HA.out
  have lb := lexR_len HB.out
  have la6 : La.length ≤ 1000 := by omega
  have lb6 : Lb.length ≤ 1000 := by omega
  have HU := Lib.hid hus
  have HV := Lib.hid hvs
  have q1 : a0.size + (⟨#[10]⟩ : ByteArray).size ≤ 9223372036854775807 := by show _ + 1 ≤ _; omega
  have q2 : (a0 ++ ⟨#[10]⟩ : ByteArray).size + a1.size ≤ 9223372036854775807 := by omega
  clear hus hvs la lb hT
  by_cases hea : ea = 0
  · subst hea
    by_cases heb : eb = 0
    · subst heb
      have HC0 := x3 rfl rfl
      obtain ⟨U, hU⟩ : ∃ U, U = (a0 ++ ⟨#[10]⟩ : ByteArray).size := ⟨_, rfl⟩
      rw [← hU] at HC0
      have HC1 := Lib.hid hU
      obtain ⟨L3, hL3⟩ : ∃ L3, L3 = La ++ Lb.map (shL U) := ⟨_, rfl⟩
      rw [← hL3] at HC0
      have HC := Lib.hid HC0
      have HL3 := Lib.hid hL3
      have hlen3 : L3.length = La.length + Lb.length := by rw [hL3]; simp
      have HN3 := Lib.hid hlen3
      have n3 : ((L3.length : Int) != (La.length : Int) + (Lb.length : Int)) = false := by rw [bne_eq_false_iff_eq, hlen3]; push_cast; rfl
      have U8 : U ≤ 1000 := by rw [hU, HU.out]; omega
      have lt3 : La.length ≤ L3.length := by omega
      have HPl := Lib.hid (lexR_places HB.out)
      have HU2 : Hid ((U : Int) = (a0.size : Int) + 1) := Lib.hid (by rw [hU, HU.out]; push_cast; rfl)
      have la7 : La.length ≤ 1000000 := by omega
      clear x1 x2 x3 HC0 hU hL3 hlen3
      go_enter Try.func6, Try.ntmps6
      go_wp2_with (first
      | (go_at_call 8; (with_reducible refine (plex_any (a0 ++ ⟨#[10]⟩) _ u5 La 0 pa HA).mono ?_); rintro e w1 ⟨b1, c1, rfl, hc1, R1, B1⟩; have HR1 := Lib.hid (R1.alloc (.cells #[.int .i64 (0 : Int), .int .i64 (pa : Int)] 26)); have HF1 := Lib.hid (Box.new w1 26 #[.int .i64 (0 : Int), .int .i64 (pa : Int)]); have HB1 := Lib.hid (B1.alloc B1.size (.cells #[.int .i64 (0 : Int), .int .i64 (pa : Int)] 26)); clear B1 R1)
      | (go_at_call 8; (with_reducible refine (plex_any a1 _ t5 Lb 0 pb HB).mono ?_); rintro e w2 ⟨b2, c2, rfl, hc2, R2, B2⟩; have HR2 := Lib.hid ((HR1.out.below B2).alloc (.cells #[.int .i64 (0 : Int), .int .i64 (pb : Int)] 26)); have HS2 := Lib.hid (R2.alloc (.cells #[.int .i64 (0 : Int), .int .i64 (pb : Int)] 26)); have HF2 := Lib.hid ((HF1.out.below B2).alloc (.cells #[.int .i64 (0 : Int), .int .i64 (pb : Int)] 26)); have HG2 := Lib.hid (Box.new w2 26 #[.int .i64 (0 : Int), .int .i64 (pb : Int)]); have HB2 := Lib.hid ((below_then HB1.out B2).alloc (below_then HB1.out B2).size (.cells #[.int .i64 (0 : Int), .int .i64 (pb : Int)] 26)); clear B2 R2 HF1 HB1 HR1)
      | (go_at_call 8; (with_reducible refine (plex_any (a0 ++ ⟨#[10]⟩ ++ a1) _ v5 L3 0 0 HC).mono ?_); rintro e w3 ⟨b3, c3, rfl, hc3, R3, B3⟩; have HR3 := Lib.hid ((HR2.out.below B3).alloc (.cells #[.int .i64 (0 : Int), .int .i64 (0 : Int)] 26)); have HS3 := Lib.hid ((HS2.out.below B3).alloc (.cells #[.int .i64 (0 : Int), .int .i64 (0 : Int)] 26)); have HT3 := Lib.hid (R3.alloc (.cells #[.int .i64 (0 : Int), .int .i64 (0 : Int)] 26)); have HF3 := Lib.hid (HF2.out.below B3); have HG3 := Lib.hid (HG2.out.below B3); have HB3 := Lib.hid ((below_then HB2.out B3).alloc (below_then HB2.out B3).size (.cells #[.int .i64 (0 : Int), .int .i64 (0 : Int)] 26)); have l13 := HF3.out.lt; have l23 := HG3.out.lt; have lc3 : La.length ≤ c3 := Nat.le_trans lt3 hc3; clear B3 R3 HF2 HG2 HB2 HR2 HS2; obtain ⟨x0, x1⟩ := HF3.out.cell2; obtain ⟨y0, y1⟩ := HG3.out.cell2)
      | (go_at_call 10; refine (same_list b3 b1 c3 c1 La _ la7 (ReadsL.left (by rw [← HL3.out]; exact HT3.out)) HR3.out).mono ?_; rintro e w4 ⟨rfl, n4, rfl⟩; have HS4 : Hid (ReadsL ((w3.alloc (.cells #[.int .i64 (0 : Int), .int .i64 (0 : Int)] 26)).drewN n4) b2 Lb) := Lib.hid HS3.out; have HT4 : Hid (ReadsL ((w3.alloc (.cells #[.int .i64 (0 : Int), .int .i64 (0 : Int)] 26)).drewN n4) b3 L3) := Lib.hid HT3.out; have HB4 := Lib.hid (below_drewN HB3.out n4); generalize (w3.alloc (.cells #[.int .i64 (0 : Int), .int .i64 (0 : Int)] 26)).drewN n4 = W4 at HS4 HT4 HB4 ⊢; clear HS3 HT3 HR3 HB3 HF3 HG3 x0 x1 y0 y1)
      | (go_at_call 7; refine (awake_any _).mono ?_; rintro e w9 ⟨rfl, hB9⟩))
      go_loopw [11] (fun i wr => ∃ j : Nat, i = .int .i64 j ∧ j ≤ Lb.length ∧ Hid (ReadsL wr b2 Lb) ∧ Hid (ReadsL wr b3 L3) ∧ Hid (Below w.heap.size w wr)) (fun i _ => Lb.length - (intOf i).toNat)
      case atStart => exact ⟨0, rfl, by omega, HS4, HT4, HB4⟩
      case round =>
        obtain ⟨j, rfl, hj, HS, HR, HX⟩ := hrel
        by_cases hlt : j < Lb.length
        · obtain ⟨d2, o2, hb2, hl2, h20, h21, h22⟩ := HS.out j hlt
          have h3l : La.length + j < L3.length := by rw [HN3.out]; omega
          obtain ⟨d3, o3, hb3, hl3, h30, h31, h32⟩ := HR.out (La.length + j) h3l
          have hv : L3[La.length + j]? = some (shL U (Lb[j]?.getD noLi)) := by
            rw [HL3.out, List.getElem?_append_right (by omega), show La.length + j - La.length = j by omega, List.getElem?_map, List.getElem?_eq_getElem hlt]; rfl
          rw [hv] at h30 h31 h32
          have hpl : 0 ≤ (Lb[j]?.getD noLi).2.2 ∧ (Lb[j]?.getD noLi).2.2 ≤ (a1.size : Int) := by
            rw [List.getElem?_eq_getElem hlt]; exact HPl.out _ (List.getElem_mem hlt)
          generalize Lb[j]?.getD noLi = y at h20 h21 h22 h30 h31 h32 hpl
          obtain ⟨kd, tx, pl⟩ := y
          obtain ⟨p0, p1⟩ := hpl
          simp only at p0 p1
          subst hb2 hb3
          replace h30 : wr.cell? ⟨d3, o3 + (La.length + j) * 3, none⟩ = some (.int .i64 kd) := h30
          replace h31 : wr.cell? ⟨d3, o3 + (La.length + j) * 3 + 1, none⟩ = some (.string tx) := h31
          replace h32 : wr.cell? ⟨d3, o3 + (La.length + j) * 3 + 2, none⟩ = some (.int .i64 (pl + ((a0.size : Int) + 1))) := by rw [← HU2.out]; exact h32
          clear hv
          go_wp2_with fail
          have s1 : IntKind.i64.wrap ((La.length : Int) + (j : Int)) = (La.length : Int) + (j : Int) := IntWalk.i64_in _ (by omega)
          have s2 : (0 : Int) ≤ (La.length : Int) + (j : Int) := by omega
          have s3 : ((La.length : Int) + (j : Int)).toNat = La.length + j := by omega
          have s4 : (La.length : Int) + (j : Int) < (L3.length : Int) := by omega
          have HS5 := Lib.hid (HS.out.alloc (.cells #[.int .i64 kd, .string tx, .int .i64 (pl + ((a0.size : Int) + 1))] 31))
          have HR5 := Lib.hid (HR.out.alloc (.cells #[.int .i64 kd, .string tx, .int .i64 (pl + ((a0.size : Int) + 1))] 31))
          have HX5 := Lib.hid (HX.out.alloc HX.out.size (.cells #[.int .i64 kd, .string tx, .int .i64 (pl + ((a0.size : Int) + 1))] 31))
          go_quiet (fail)
          clear s1 s2 s3 s4
          go_wp2
          go_roundw
          case rel => exact ⟨j + 1, by go_num, by omega, Lib.hid (HS5.out.drewN _), Lib.hid (HR5.out.drewN _), Lib.hid (below_drewN HX5.out _)⟩
          case measure => simp [intOf]; omega
        · go_wp2_with (go_at_call 7; refine (awake_any _).mono ?_; rintro e w9 ⟨rfl, hB9⟩)
          go_ret
          exact ⟨rfl, below_then HX.out hB9⟩
    · have HC0 := x2 rfl heb
      have t1 : ((eb : Int) != 0) = true := by rw [bne_iff_ne]; omega
      obtain ⟨p3, hp3⟩ : ∃ p3, p3 = (a0 ++ ⟨#[10]⟩ : ByteArray).size + pb := ⟨_, rfl⟩
      rw [← hp3] at HC0
      have HC := Lib.hid HC0
      have r1 := lexR_fault (by omega) HB.out
      have e3 : ((p3 : Int) == (pb : Int) + ((a0 ++ ⟨#[10]⟩ : ByteArray).size : Int)) = true := by rw [beq_iff_eq, hp3]; push_cast; omega
      have e4 : ((p3 : Int) == (pb : Int) + ((a0.size : Int) + 1)) = true := by rw [beq_iff_eq, hp3, HU.out]; push_cast; omega
      have HP : Hid ((p3 : Int) = (pb : Int) + ((a0.size : Int) + 1)) := Lib.hid (by rw [hp3, HU.out]; push_cast; omega)
      clear x1 x2 x3 heb HC0 hp3
      go_enter Try.func6, Try.ntmps6
      go_wp2_with (first
      | (go_at_call 8; (with_reducible refine (plex_any (a0 ++ ⟨#[10]⟩) _ u5 La 0 pa HA).mono ?_); rintro e w1 ⟨b1, c1, rfl, hc1, R1, B1⟩; have HR1 := Lib.hid (R1.alloc (.cells #[.int .i64 (0 : Int), .int .i64 (pa : Int)] 26)); have HF1 := Lib.hid (Box.new w1 26 #[.int .i64 (0 : Int), .int .i64 (pa : Int)]); have HB1 := Lib.hid (B1.alloc B1.size (.cells #[.int .i64 (0 : Int), .int .i64 (pa : Int)] 26)); clear B1 R1)
      | (go_at_call 8; (with_reducible refine (plex_any a1 _ t5 Lb eb pb HB).mono ?_); rintro e w2 ⟨b2, c2, rfl, hc2, R2, B2⟩; have HR2 := Lib.hid ((HR1.out.below B2).alloc (.cells #[.int .i64 (eb : Int), .int .i64 (pb : Int)] 26)); have HS2 := Lib.hid (R2.alloc (.cells #[.int .i64 (eb : Int), .int .i64 (pb : Int)] 26)); have HF2 := Lib.hid ((HF1.out.below B2).alloc (.cells #[.int .i64 (eb : Int), .int .i64 (pb : Int)] 26)); have HG2 := Lib.hid (Box.new w2 26 #[.int .i64 (eb : Int), .int .i64 (pb : Int)]); have HB2 := Lib.hid ((below_then HB1.out B2).alloc (below_then HB1.out B2).size (.cells #[.int .i64 (eb : Int), .int .i64 (pb : Int)] 26)); clear B2 R2 HF1 HB1 HR1)
      | (go_at_call 8; (with_reducible refine (plex_any (a0 ++ ⟨#[10]⟩ ++ a1) _ v5 [] eb p3 HC).mono ?_); rintro e w3 ⟨b3, c3, rfl, hc3, R3, B3⟩; have HR3 := Lib.hid ((HR2.out.below B3).alloc (.cells #[.int .i64 (eb : Int), .int .i64 (p3 : Int)] 26)); have HS3 := Lib.hid ((HS2.out.below B3).alloc (.cells #[.int .i64 (eb : Int), .int .i64 (p3 : Int)] 26)); have HT3 := Lib.hid (R3.alloc (.cells #[.int .i64 (eb : Int), .int .i64 (p3 : Int)] 26)); have HF3 := Lib.hid (HF2.out.below B3); have HG3 := Lib.hid (HG2.out.below B3); have HB3 := Lib.hid ((below_then HB2.out B3).alloc (below_then HB2.out B3).size (.cells #[.int .i64 (eb : Int), .int .i64 (p3 : Int)] 26)); have l13 := HF3.out.lt; have l23 := HG3.out.lt; clear B3 R3 HF2 HG2 HB2 HR2 HS2; obtain ⟨x0, x1⟩ := HF3.out.cell2; obtain ⟨y0, y1⟩ := HG3.out.cell2)
      | (go_at_call 7; refine (awake_any _).mono ?_; rintro e w9 ⟨rfl, hB9⟩))
      go_ret
      exact ⟨rfl, below_then HB3.out hB9⟩
  · have HC := Lib.hid (x1 hea)
    have t0 : ((ea : Int) != 0) = true := by rw [bne_iff_ne]; omega
    clear x1 x2 x3 hea
    go_enter Try.func6, Try.ntmps6
    go_wp2_with (first
      | (go_at_call 8; (with_reducible refine (plex_any (a0 ++ ⟨#[10]⟩) _ u5 La ea pa HA).mono ?_); rintro e w1 ⟨b1, c1, rfl, hc1, R1, B1⟩; have HR1 := Lib.hid (R1.alloc (.cells #[.int .i64 (ea : Int), .int .i64 (pa : Int)] 26)); have HF1 := Lib.hid (Box.new w1 26 #[.int .i64 (ea : Int), .int .i64 (pa : Int)]); have HB1 := Lib.hid (B1.alloc B1.size (.cells #[.int .i64 (ea : Int), .int .i64 (pa : Int)] 26)); clear B1 R1)
      | (go_at_call 8; (with_reducible refine (plex_any a1 _ t5 Lb eb pb HB).mono ?_); rintro e w2 ⟨b2, c2, rfl, hc2, R2, B2⟩; have HR2 := Lib.hid ((HR1.out.below B2).alloc (.cells #[.int .i64 (eb : Int), .int .i64 (pb : Int)] 26)); have HS2 := Lib.hid (R2.alloc (.cells #[.int .i64 (eb : Int), .int .i64 (pb : Int)] 26)); have HF2 := Lib.hid ((HF1.out.below B2).alloc (.cells #[.int .i64 (eb : Int), .int .i64 (pb : Int)] 26)); have HG2 := Lib.hid (Box.new w2 26 #[.int .i64 (eb : Int), .int .i64 (pb : Int)]); have HB2 := Lib.hid ((below_then HB1.out B2).alloc (below_then HB1.out B2).size (.cells #[.int .i64 (eb : Int), .int .i64 (pb : Int)] 26)); clear B2 R2 HF1 HB1 HR1)
      | (go_at_call 8; (with_reducible refine (plex_any (a0 ++ ⟨#[10]⟩ ++ a1) _ v5 [] ea pa HC).mono ?_); rintro e w3 ⟨b3, c3, rfl, hc3, R3, B3⟩; have HR3 := Lib.hid ((HR2.out.below B3).alloc (.cells #[.int .i64 (ea : Int), .int .i64 (pa : Int)] 26)); have HS3 := Lib.hid ((HS2.out.below B3).alloc (.cells #[.int .i64 (ea : Int), .int .i64 (pa : Int)] 26)); have HT3 := Lib.hid (R3.alloc (.cells #[.int .i64 (ea : Int), .int .i64 (pa : Int)] 26)); have HF3 := Lib.hid (HF2.out.below B3); have HG3 := Lib.hid (HG2.out.below B3); have HB3 := Lib.hid ((below_then HB2.out B3).alloc (below_then HB2.out B3).size (.cells #[.int .i64 (ea : Int), .int .i64 (pa : Int)] 26)); have l13 := HF3.out.lt; have l23 := HG3.out.lt; clear B3 R3 HF2 HG2 HB2 HR2 HS2; obtain ⟨x0, x1⟩ := HF3.out.cell2; obtain ⟨y0, y1⟩ := HG3.out.cell2)
      | (go_at_call 7; refine (awake_any _).mono ?_; rintro e w9 ⟨rfl, hB9⟩))
    go_ret
    exact ⟨rfl, below_then HB3.out hB9⟩

set_option maxRecDepth 100000 in
theorem lifted (os : Os) (started : os.Started) (H : Type) (enc : TypeId × Value → H) :
    ReturnsInHanded {} Try.checked os 6 .any (Rows.textJoinsSpec.pre6 enc Try.prog Try.f6 Rows.textJoinsRow.domain false) (Rows.textJoinsSpec.post enc Try.prog Try.f6 false true false false) := by
  refine returnsInHanded_of_change (C := Try.checked) own started (by kernel_rfl) Try.func6
    (ChangeSpec.witness6 (enc := enc) (C := Try.checked) false ⟨#[], #[.string ByteArray.empty, .string ByteArray.empty], []⟩ 8 (by kernel_rfl) (by kernel_rfl) (by kernel_rfl) (by kernel_rfl)) ?_
  intro W base args ds gs before hval0 hW hcnd _
  have hval : ∀ (j : Nat) t v, Try.f6.params[j]? = some t → args[j]? = some v → Value.okWide Try.prog W .any base t v := hval0
  have hW' := hW
  obtain ⟨p, q, hA0, hV, rfl, hfz, hnd⟩ := hW
  have hA : DataW.TrodAll enc Try.prog W 0 (fun _ => true) true Try.f6.params.toList args.toList ds p := hA0
  rw [Try.params6] at hA hval
  obtain ⟨v0, vs0, d0, ds0, p0, q0, hargs, rfl, rfl, h0, r0⟩ := trodAll_cons hA
  obtain ⟨v1, vs1, d1, ds1, p1, q1, rfl, rfl, rfl, h1, r1⟩ := trodAll_cons r0
  obtain ⟨rfl, rfl, rfl⟩ := trodAll_nil r1
  obtain rfl : args = #[v0, v1] := by cases args; simp_all
  obtain ⟨rfl, rfl⟩ := trodVars_none hV
  have k0 := h0
  have lt0 : ∀ x ∈ p0, x.block < W.heap.size := by obtain ⟨m, hm⟩ := k0; exact DataW.trod_lt m _ _ _ hm
  have k1 := h1
  have lt1 : ∀ x ∈ p1, x.block < W.heap.size := by obtain ⟨m, hm⟩ := k1; exact DataW.trod_lt m _ _ _ hm
  obtain ⟨a0, rfl, rfl, rfl, w0⟩ := open_string Try.underlying9 (hval 0 9 v0 rfl rfl) h0
  obtain ⟨a1, rfl, rfl, rfl, w1⟩ := open_string Try.underlying9 (hval 1 9 v1 rfl rfl) h1
  clear hA0 hval0
  refine (walk a0 a1 W w0 w1).mono fun e W' ⟨he, bel⟩ => ?_
  subst he
  exact ⟨_, rfl, _, _, _, [], _, [], hW', trodAll_mk1 (shut_bool Try.underlying4 _), trodAll_cons_mk (Below.trod laidOut (by kernel_rfl) (of_decide_eq_true (by kernel_rfl)) k0 bel lt0) (trodAll_cons_mk (Below.trod laidOut (by kernel_rfl) (of_decide_eq_true (by kernel_rfl)) k1 bel lt1) trodAll_mk0), rfl, bel.frame _, fun h => by cases h⟩

theorem over : Rows.textJoinsRow.holds Try.pinned (OpenSpec.ofChange Rows.textJoinsSpec) :=
  OpenClaim.holds_of_wide 6 Try.f6 rfl rfl rfl rfl rfl rfl rfl ⟨rfl, rfl, rfl, rfl, rfl⟩ rfl rfl rfl rfl rfl (by kernel_rfl) Try.func6 (by kernel_rfl)
    (of_decide_eq_true (by kernel_rfl)) (by unfold Func.isWrapper; first | (rw [if_pos (by decide +kernel)]; kernel_rfl) | (rw [if_neg (by decide +kernel)]; exact ⟨rfl, rfl⟩))
    (fun os started H enc _ => lifted os started H enc)

/-- THE STATEMENT -/
theorem proved : Rows.TextJoinsSaid := over
#print axioms proved
end Go.Proofs.Ytjhmlmimgahnmaa.textJoins
