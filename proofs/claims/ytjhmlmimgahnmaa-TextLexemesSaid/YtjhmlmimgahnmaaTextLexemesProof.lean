/-
  TextLexemes: for every text and every number the program's Lexemes and Next answer as the reference's do; no condition.
-/
import Derived.Test.YtjhmlmimgahnmaaRows
import Derived.Test.YtjhmlmimgahnmaaS04Q
import Derived.WalkKit
import Derived.ProofKit
import Derived.OpenShut
import Derived.ShutString
import Derived.SliceStrings
import Derived.ChangeOld
import Derived.Below
namespace Go.Proofs.Ytjhmlmimgahnmaa.textLexemes
open Go.ChangeShapes Go.WideShapes Go.ChangeAt Go.RowKit
open kit s04
open Go.ChangeMaps (open_string shut_string)
set_option linter.unusedVariables false
set_option linter.unusedSimpArgs false

theorem own : ownKnob Try.prog.godebug = none := by kernel_rfl
theorem laidOut : laidOutB Try.prog = true := by kernel_rfl

set_option maxRecDepth 100000 in
set_option maxHeartbeats 2000000 in
theorem walk (a0 : ByteArray) (a1 : Int) (w : World) (w0 : a0.size ≤ maxLen) (w1 : (Lit.int .i64 a1).wf = true) :
    Calls Try.prog 3 #[.string a0, .int .i64 a1] w fun e w' => e = .returned (.bool true) ∧ Below w.heap.size w w' := by
  obtain ⟨i1, i2⟩ := bounds_i64 w1
  unfold maxLen at w0
  clear w0 w1
  by_cases hbig : 2010 < a0.size ∨ (500 < a0.size ∧ a0.size ≤ 1990)
  · have t2 : (500 : Int) < (a0.size : Int) := by omega
    by_cases h1 : a0.size ≤ 1990
    · have t3 : ((a0.size : Int) ≤ 1990) := by omega
      clear hbig
      go_enter Try.func3, Try.ntmps3
      go_wp2_with (go_at_call 7; refine (awake_any _).mono ?_; rintro e w9 ⟨rfl, hB9⟩)
      go_ret
      exact ⟨rfl, hB9⟩
    · have t3 : ¬ ((a0.size : Int) ≤ 1990) := by omega
      have t4 : (2010 : Int) < (a0.size : Int) := by omega
      clear hbig
      go_enter Try.func3, Try.ntmps3
      go_wp2_with (go_at_call 7; refine (awake_any _).mono ?_; rintro e w9 ⟨rfl, hB9⟩)
      go_ret
      exact ⟨rfl, hB9⟩
  · have hsz : a0.size ≤ 100000 := by omega
    have t1 : ¬ ((500 : Int) < (a0.size : Int) ∧ (a0.size : Int) ≤ 1990) := by omega
    have t2 : ¬ (2010 : Int) < (a0.size : Int) := by omega
    obtain ⟨L, er, p, HL⟩ : ∃ L er p, Hid (lexR a0 = (L, er, p)) := ⟨_, _, _, Lib.hid rfl⟩
    obtain ⟨⟨kd, tx, pl⟩, m, e1, p1, HN⟩ : ∃ x n e a, Hid (nextR a0 a1 = (x, n, e, a)) := ⟨_, _, _, _, Lib.hid rfl⟩
    have hlen := lexR_len HL.out
    have hl6 : L.length ≤ 1000000 := by omega
    have HT := Lib.hid hbig
    have hor : ((a0.size : Int) ≤ 500) ∨ ((500 : Int) < (a0.size : Int) ∧ ¬ (a0.size : Int) ≤ 1990) := by omega
    clear hbig t1 hlen
    rcases hor with t1 | ⟨t1, t3⟩
    all_goals
      go_enter Try.func3, Try.ntmps3
      go_wp2_with (first
        | (go_at_call 8; refine (plex_any a0 _ hsz L er p HL).mono ?_; rintro e w1 ⟨b1, c1, rfl, R1, B1⟩; have HF1 := Lib.hid (Box.new w1 26 #[.int .i64 (er : Int), .int .i64 (p : Int)]); have HR1 := Lib.hid (R1.alloc (.cells #[.int .i64 (er : Int), .int .i64 (p : Int)] 26)); have hw1 : w.heap.size ≤ w1.heap.size := B1.size; have HB1 := Lib.hid (B1.alloc B1.size (.cells #[.int .i64 (er : Int), .int .i64 (p : Int)] 26)); clear B1 R1)
        | (go_at_call 9; refine (rlex_any a0 _ hsz L er p HL).mono ?_; rintro e w2 ⟨b2, c2, rfl, R2, B2⟩; have HR2 := Lib.hid (R2.alloc (.cells #[.int .i64 (er : Int), .int .i64 (p : Int)] 26)); have HR3 := Lib.hid ((HR1.out.below B2).alloc (.cells #[.int .i64 (er : Int), .int .i64 (p : Int)] 26)); have HF2 := Lib.hid ((HF1.out.below B2).alloc (.cells #[.int .i64 (er : Int), .int .i64 (p : Int)] 26)); have HG2 := Lib.hid (Box.new w2 26 #[.int .i64 (er : Int), .int .i64 (p : Int)]); have HB2 := Lib.hid ((below_then HB1.out B2).alloc (below_then HB1.out B2).size (.cells #[.int .i64 (er : Int), .int .i64 (p : Int)] 26)); have hlt2 : w1.heap.size < w2.heap.size := Nat.lt_of_lt_of_le (by simp) B2.size; have hw2 : w.heap.size ≤ w2.heap.size := (by omega); clear R2 B2 HR1 HF1 HB1)
        | (go_at_call 10; refine (same_list b1 b2 c1 c2 L _ hl6 HR3.out HR2.out).mono ?_; rintro e w3 ⟨rfl, n3, rfl⟩; have HB3 := Lib.hid (below_drewN HB2.out n3); have HF3 : Hid (Box ((w2.alloc (.cells #[.int .i64 (er : Int), .int .i64 (p : Int)] 26)).drewN n3) 26 w1.heap.size #[.int .i64 (er : Int), .int .i64 (p : Int)]) := Lib.hid HF2.out; have HG3 : Hid (Box ((w2.alloc (.cells #[.int .i64 (er : Int), .int .i64 (p : Int)] 26)).drewN n3) 26 w2.heap.size #[.int .i64 (er : Int), .int .i64 (p : Int)]) := Lib.hid HG2.out; generalize (w2.alloc (.cells #[.int .i64 (er : Int), .int .i64 (p : Int)] 26)).drewN n3 = W3 at HB3 HF3 HG3 ⊢; obtain ⟨x0, x1⟩ := HF3.out.cell2; obtain ⟨y0, y1⟩ := HG3.out.cell2; clear HR3 HR2 HB2 HF2 HG2)
        | (go_at_call 11; refine (pnext_any a0 a1 _ i1 i2 (by omega) (kd, tx, pl) m e1 p1 HN).mono ?_; rintro e w4 ⟨rfl, B4⟩; have HF4 := Lib.hid (HF3.out.below B4); have HG4 := Lib.hid (HG3.out.below B4); have HB4 := Lib.hid (below_then HB3.out B4); have hlt4 : w2.heap.size < w4.heap.size := HG4.out.lt; have hlt14 : w1.heap.size < w4.heap.size := HF4.out.lt; have HF5 := Lib.hid (((HF4.out.set 0 (by simp) (.int .i64 (e1 : Int))).set 1 (by simp) (.int .i64 (p1 : Int))).alloc (.cells #[.int .i64 (kd : Int), .string tx, .int .i64 (pl : Int)] 31)); have HG5 := Lib.hid (((HG4.out.other (b' := w1.heap.size) (i := 0) (by omega) (.int .i64 (e1 : Int))).other (b' := w1.heap.size) (i := 1) (by omega) (.int .i64 (p1 : Int))).alloc (.cells #[.int .i64 (kd : Int), .string tx, .int .i64 (pl : Int)] 31)); have HX5 : Hid (Box (((w4.setCell ⟨w1.heap.size, 0, none⟩ (.int .i64 (e1 : Int))).setCell ⟨w1.heap.size, 1, none⟩ (.int .i64 (p1 : Int))).alloc (.cells #[.int .i64 (kd : Int), .string tx, .int .i64 (pl : Int)] 31)) 31 w4.heap.size #[.int .i64 (kd : Int), .string tx, .int .i64 (pl : Int)]) := Lib.hid (by have h := Box.new ((w4.setCell ⟨w1.heap.size, 0, none⟩ (.int .i64 (e1 : Int))).setCell ⟨w1.heap.size, 1, none⟩ (.int .i64 (p1 : Int))) 31 #[.int .i64 (kd : Int), .string tx, .int .i64 (pl : Int)]; simpa using h); clear x0 x1 y0 y1 B4 HB3 HF3 HG3; obtain ⟨x0, x1⟩ := HF4.out.cell2; obtain ⟨f0, f1⟩ := HF4.out.free2)
        | (go_at_call 12; refine (next_any a0 a1 _ i1 i2 (by omega) (kd, tx, pl) m e1 p1 HN).mono ?_; rintro e w5 ⟨rfl, B5⟩; have HF6 := Lib.hid (HF5.out.below B5); have HG6 := Lib.hid (HG5.out.below B5); have HX6 := Lib.hid (HX5.out.below B5); have hlt5 : w2.heap.size < w5.heap.size := HG6.out.lt; have hlt15 : w1.heap.size < w5.heap.size := HF6.out.lt; have hlt25 : w4.heap.size < w5.heap.size := HX6.out.lt; have HB5 := Lib.hid (below_then (((HB4.out.setCell (p := ⟨w1.heap.size, 0, none⟩) hw1 (.int .i64 (e1 : Int))).setCell (p := ⟨w1.heap.size, 1, none⟩) hw1 (.int .i64 (p1 : Int))).alloc (by simp; omega) (.cells #[.int .i64 (kd : Int), .string tx, .int .i64 (pl : Int)] 31)) B5); clear x0 x1 f0 f1 B5 HF4 HG4 HF5 HG5 HX5; obtain ⟨x0, x1⟩ := HG6.out.cell2; obtain ⟨f0, f1⟩ := HG6.out.free2; obtain ⟨z0, z1⟩ := HF6.out.cell2; obtain ⟨l0, l1, l2⟩ := HX6.out.cell3)
        | (go_at_call 7; refine (awake_any _).mono ?_; rintro e w9 ⟨rfl, hB9⟩))
      go_ret
      exact ⟨rfl, below_then (((HB5.out.setCell (p := ⟨w2.heap.size, 0, none⟩) hw2 (.int .i64 (e1 : Int))).setCell (p := ⟨w2.heap.size, 1, none⟩) hw2 (.int .i64 (p1 : Int))).alloc (by simp; omega) (.cells #[.int .i64 (kd : Int), .string tx, .int .i64 (pl : Int)] 31)) hB9⟩

set_option maxRecDepth 100000 in
theorem lifted (os : Os) (started : os.Started) (H : Type) (enc : TypeId × Value → H) :
    ReturnsInHanded {} Try.checked os 3 .any (Rows.textLexemesSpec.pre6 enc Try.prog Try.f3 Rows.textLexemesRow.domain false) (Rows.textLexemesSpec.post enc Try.prog Try.f3 false true false false) := by
  refine returnsInHanded_of_change (C := Try.checked) own started (by kernel_rfl) Try.func3
    (ChangeSpec.witness6 (enc := enc) (C := Try.checked) false ⟨#[], #[.string ByteArray.empty, .int .i64 0], []⟩ 8 (by kernel_rfl) (by kernel_rfl) (by kernel_rfl) (by kernel_rfl)) ?_
  intro W base args ds gs before hval0 hW hcnd _
  have hval : ∀ (j : Nat) t v, Try.f3.params[j]? = some t → args[j]? = some v → Value.okWide Try.prog W .any base t v := hval0
  have hW' := hW
  obtain ⟨p, q, hA0, hV, rfl, hfz, hnd⟩ := hW
  have hA : DataW.TrodAll enc Try.prog W 0 (fun _ => true) true Try.f3.params.toList args.toList ds p := hA0
  rw [Try.params3] at hA hval
  obtain ⟨v0, vs0, d0, ds0, p0, q0, hargs, rfl, rfl, h0, r0⟩ := trodAll_cons hA
  obtain ⟨v1, vs1, d1, ds1, p1, q1, rfl, rfl, rfl, h1, r1⟩ := trodAll_cons r0
  obtain ⟨rfl, rfl, rfl⟩ := trodAll_nil r1
  obtain rfl : args = #[v0, v1] := by cases args; simp_all
  obtain ⟨rfl, rfl⟩ := trodVars_none hV
  have k0 := h0
  have lt0 : ∀ x ∈ p0, x.block < W.heap.size := by obtain ⟨m, hm⟩ := k0; exact DataW.trod_lt m _ _ _ hm
  have k1 := h1
  have lt1 : ∀ x ∈ p1, x.block < W.heap.size := by obtain ⟨m, hm⟩ := k1; exact DataW.trod_lt m _ _ _ hm
  obtain ⟨a0, rfl, rfl, rfl, w0⟩ := open_string Try.underlying9 (hval 0 9 v0 rfl rfl) h0
  obtain ⟨a1, rfl, rfl, rfl, w1⟩ := open_int Try.underlying3 (hval 1 3 v1 rfl rfl) h1
  clear hA0 hval0
  refine (walk a0 a1 W w0 w1).mono fun e W' ⟨he, bel⟩ => ?_
  subst he
  exact ⟨_, rfl, _, _, _, [], _, [], hW', trodAll_mk1 (shut_bool Try.underlying4 _), trodAll_cons_mk (Below.trod laidOut (by kernel_rfl) (of_decide_eq_true (by kernel_rfl)) k0 bel lt0) (trodAll_cons_mk (Below.trod laidOut (by kernel_rfl) (of_decide_eq_true (by kernel_rfl)) k1 bel lt1) trodAll_mk0), rfl, bel.frame _, fun h => by cases h⟩

theorem over : Rows.textLexemesRow.holds Try.pinned (OpenSpec.ofChange Rows.textLexemesSpec) :=
  OpenClaim.holds_of_wide 3 Try.f3 rfl rfl rfl rfl rfl rfl rfl ⟨rfl, rfl, rfl, rfl, rfl⟩ rfl rfl rfl rfl rfl (by kernel_rfl) Try.func3 (by kernel_rfl)
    (of_decide_eq_true (by kernel_rfl)) (by unfold Func.isWrapper; first | (rw [if_pos (by decide +kernel)]; kernel_rfl) | (rw [if_neg (by decide +kernel)]; exact ⟨rfl, rfl⟩))
    (fun os started H enc _ => lifted os started H enc)

/-- THE STATEMENT -/
theorem proved : Rows.TextLexemesSaid := over
#print axioms proved
end Go.Proofs.Ytjhmlmimgahnmaa.textLexemes
