/-
  Proved: for every input, VarintReads returns true and leaves its arguments as they were. No condition.
-/
import Derived.Test.YtjobmgnabfnhbaaRows
import Derived.Test.YtjobmgnabfnhbaaBoxes
import Derived.WalkKit
import Derived.ProofKit
import Derived.OpenShut
import Derived.ShutString
import Derived.Below
namespace Go.Proofs.Ytjobmgnabfnhbaa.varintReads
open Go.ChangeShapes Go.WideShapes Go.ChangeAt Go.RowKit
open Go.ChangeMaps (open_string shut_string)
set_option linter.unusedVariables false      -- a walk need not use every 'w<i>' (that an integer argument fits its kind)

theorem own : ownKnob Try.prog.godebug = none := by kernel_rfl

theorem walk (a0 : ByteArray) (a1 : Int) (a2 : Int) (w0 : a0.size ≤ maxLen) (w1 : (Lit.int .i64 a1).wf = true) (w2 : (Lit.int .u64 a2).wf = true) (w : World) :
    Calls Try.prog 3 #[.string a0, .int .i64 a1, .int .u64 a2] w fun e w' => e = .returned (.bool true) ∧ Below w.heap.size w w' := by
  have hb := Go.bounds_i64 w1
  have hu := Go.bounds_u64 w2
  unfold maxLen at w0
  by_cases hl : 60 < a0.size
  · clear w1 w2
    go_enter Try.func3, Try.ntmps3
    go_wp2_with (go_at_call 10; refine (awake_any _).mono ?_; rintro e w9 ⟨rfl, hB9⟩)
    go_ret
    exact ⟨rfl, hB9⟩
  · obtain ⟨n1, x1, e1, p1, H1⟩ : ∃ n x e p, Hid (rd a0 a1 = (n, x, e, p)) := ⟨_, _, _, _, Lib.hid rfl⟩
    obtain ⟨n2, e2, p2, H2⟩ : ∃ n e p, Hid (prs a0 = (n, e, p)) := ⟨_, _, _, Lib.hid rfl⟩
    obtain ⟨n3, x3, e3, p3, H3⟩ : ∃ n x e p, Hid (bnd a0 a1 a2 = (n, x, e, p)) := ⟨_, _, _, _, Lib.hid rfl⟩
    clear w1 w2
    go_enter Try.func3, Try.ntmps3
    go_wp2_with (first
      | (go_at_call 11; refine (read_any a0 a1 (by omega) (by omega) (by omega) n1 x1 e1 p1 H1 _).mono ?_; rintro e w1 ⟨rfl, hB1⟩)
      | (go_at_call 12; refine (readr_any a0 a1 (by omega) (by omega) (by omega) n1 x1 e1 p1 H1 _).mono ?_; rintro e w2 ⟨rfl, hB2⟩; have A2 := (Box2.new w1 (.int .i64 e1) (.int .i64 p1)).below hB2; obtain ⟨cA0, cA1⟩ := A2.cells; obtain ⟨fA0, fA1⟩ := A2.frees; have lA := A2.lt)
      | (go_at_call 13; refine (parse_any a0 (by omega) n2 e2 p2 H2 _).mono ?_; rintro e w3 ⟨rfl, hB3⟩; clear cA0 cA1 fA0 fA1; have A3 := (A2.alloc (.cells #[.int .i64 e1, .int .i64 p1] 26)).below hB3; have B3 := (Box2.new w2 (.int .i64 e1) (.int .i64 p1)).below hB3; obtain ⟨cA0, cA1⟩ := A3.cells; obtain ⟨fA0, fA1⟩ := A3.frees; obtain ⟨cB0, cB1⟩ := B3.cells; obtain ⟨fB0, fB1⟩ := B3.frees; have hne : w1.heap.size ≠ w2.heap.size := by omega)
      | (go_at_call 14; refine (parser_any a0 (by omega) n2 e2 p2 H2 _).mono ?_; rintro e w4 ⟨rfl, hB4⟩; clear cA0 cA1 fA0 fA1 cB0 cB1 fB0 fB1; have A4 := (A3.set (.int .i64 e2) (.int .i64 p2)).below hB4; have B4 := (B3.other hne.symm (.int .i64 e2) (.int .i64 p2)).below hB4; obtain ⟨cA0, cA1⟩ := A4.cells; obtain ⟨fA0, fA1⟩ := A4.frees; obtain ⟨cB0, cB1⟩ := B4.cells; obtain ⟨fB0, fB1⟩ := B4.frees)
      | (go_at_call 15; refine (bound_any a0 a1 a2 (by omega) (by omega) (by omega) n3 x3 e3 p3 H3 _).mono ?_; rintro e w5 ⟨rfl, hB5⟩; clear cA0 cA1 fA0 fA1 cB0 cB1 fB0 fB1; have A5 := (A4.other hne (.int .i64 e2) (.int .i64 p2)).below hB5; have B5 := (B4.set (.int .i64 e2) (.int .i64 p2)).below hB5; obtain ⟨cA0, cA1⟩ := A5.cells; obtain ⟨fA0, fA1⟩ := A5.frees; obtain ⟨cB0, cB1⟩ := B5.cells; obtain ⟨fB0, fB1⟩ := B5.frees)
      | (go_at_call 16; refine (boundr_any a0 a1 a2 (by omega) (by omega) (by omega) n3 x3 e3 p3 H3 _).mono ?_; rintro e w6 ⟨rfl, hB6⟩; clear cA0 cA1 fA0 fA1 cB0 cB1 fB0 fB1; have A6 := (A5.set (.int .i64 e3) (.int .i64 p3)).below hB6; have B6 := (B5.other hne.symm (.int .i64 e3) (.int .i64 p3)).below hB6; obtain ⟨cA0, cA1⟩ := A6.cells; obtain ⟨fA0, fA1⟩ := A6.frees; obtain ⟨cB0, cB1⟩ := B6.cells; obtain ⟨fB0, fB1⟩ := B6.frees)
      | (go_at_call 10; refine (awake_any _).mono ?_; rintro e w9 ⟨rfl, hB9⟩))
    go_ret
    have z1 := hB1.size
    have z2 : w.heap.size ≤ w2.heap.size := by omega
    have k2 := below_on (hB1.alloc z1 _) (Nat.le_refl _) hB2
    have k3 := below_on (k2.alloc z2 _) (Nat.le_refl _) hB3
    have k4 := below_on (below_set k3 _ z1 _ _) (Nat.le_refl _) hB4
    have k5 := below_on (below_set k4 _ z2 _ _) (Nat.le_refl _) hB5
    have k6 := below_on (below_set k5 _ z1 _ _) (Nat.le_refl _) hB6
    exact ⟨rfl, below_on (below_set k6 _ z2 _ _) (Nat.le_refl _) hB9⟩

set_option maxRecDepth 100000 in
theorem lifted (os : Os) (started : os.Started) (H : Type) (enc : TypeId × Value → H) :
    ReturnsInHanded {} Try.checked os 3 .any (Rows.varintReadsSpec.pre6 enc Try.prog Try.f3 Rows.varintReadsRow.domain false) (Rows.varintReadsSpec.post enc Try.prog Try.f3 false true false false) := by
  refine returnsInHanded_of_change (C := Try.checked) own started (by kernel_rfl) Try.func3
    (ChangeSpec.witness6 (enc := enc) (C := Try.checked) false ⟨#[], #[.string ByteArray.empty, .int .i64 0, .int .u64 0], []⟩ 8 (by kernel_rfl) (by kernel_rfl) (by kernel_rfl) (by kernel_rfl)) ?_
  intro W base args ds gs before hval0 hW hcnd _
  have hval : ∀ (j : Nat) t v, Try.f3.params[j]? = some t → args[j]? = some v → Value.okWide Try.prog W .any base t v := hval0
  have hW' := hW
  obtain ⟨p, q, hA0, hV, rfl, hfz, hnd⟩ := hW
  have hA : DataW.TrodAll enc Try.prog W 0 (fun _ => true) true Try.f3.params.toList args.toList ds p := hA0
  rw [Try.params3] at hA hval
  obtain ⟨v0, vs0, d0, ds0, p0, q0, hargs, rfl, rfl, h0, r0⟩ := trodAll_cons hA
  obtain ⟨v1, vs1, d1, ds1, p1, q1, rfl, rfl, rfl, h1, r1⟩ := trodAll_cons r0
  obtain ⟨v2, vs2, d2, ds2, p2, q2, rfl, rfl, rfl, h2, r2⟩ := trodAll_cons r1
  obtain ⟨rfl, rfl, rfl⟩ := trodAll_nil r2
  obtain rfl : args = #[v0, v1, v2] := by cases args; simp_all
  obtain ⟨rfl, rfl⟩ := trodVars_none hV
  obtain ⟨a0, rfl, rfl, rfl, w0⟩ := open_string Try.underlying9 (hval 0 9 v0 rfl rfl) h0
  obtain ⟨a1, rfl, rfl, rfl, w1⟩ := open_int Try.underlying3 (hval 1 3 v1 rfl rfl) h1
  obtain ⟨a2, rfl, rfl, rfl, w2⟩ := open_int Try.underlying22 (hval 2 22 v2 rfl rfl) h2
  clear hA0 hval0
  simp only [List.append_nil] at hW'
  refine (walk a0 a1 a2 w0 w1 w2 W).mono fun e W' ⟨he, hg⟩ => ?_
  subst he
  exact ⟨_, rfl, _, _, _, [], [], [], hW', (trodAll_cons_mk (shut_bool Try.underlying4 _) trodAll_mk0), (trodAll_cons_mk (shut_string Try.underlying9 w0) (trodAll_cons_mk (shut_int Try.underlying3 w1) (trodAll_cons_mk (shut_int Try.underlying22 w2) trodAll_mk0))), rfl, hg.frame _, fun h => by cases h⟩

theorem over : Rows.varintReadsRow.holds Try.pinned (OpenSpec.ofChange Rows.varintReadsSpec) :=
  OpenClaim.holds_of_wide 3 Try.f3 rfl rfl rfl rfl rfl rfl rfl ⟨rfl, rfl, rfl, rfl, rfl⟩ rfl rfl rfl rfl rfl (by kernel_rfl) Try.func3 (by kernel_rfl)
    (of_decide_eq_true (by kernel_rfl)) (by unfold Func.isWrapper; first | (rw [if_pos (by decide +kernel)]; kernel_rfl) | (rw [if_neg (by decide +kernel)]; exact ⟨rfl, rfl⟩))
    (fun os started H enc _ => lifted os started H enc)

/-- ████ THE STATEMENT ████ -/
theorem proved : Rows.VarintReadsSaid :=
  over
#print axioms proved
end Go.Proofs.Ytjobmgnabfnhbaa.varintReads
