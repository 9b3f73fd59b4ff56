/-
  Proved: for every input, VarintSigns returns true and leaves its arguments as they were. No condition.
-/
import Derived.Test.YtjobmgnabfnhbaaRows
import Derived.Test.YtjobmgnabfnhbaaWalksM
import Derived.WalkKit
import Derived.ProofKit
import Derived.OpenShut
import Derived.ShutString
import Derived.Below
namespace Go.Proofs.Ytjobmgnabfnhbaa.varintSigns
open Go.ChangeShapes Go.WideShapes Go.ChangeAt Go.RowKit
open Go.ChangeMaps (open_string shut_string)
set_option linter.unusedVariables false      -- a walk need not use every 'w<i>' (that an integer argument fits its kind)

theorem own : ownKnob Try.prog.godebug = none := by kernel_rfl

theorem walk (a0 : Int) (a1 : Int) (w0 : (Lit.int .i64 a0).wf = true) (w1 : (Lit.int .i64 a1).wf = true) (w : World) :
    Calls Try.prog 9 #[.int .i64 a0, .int .i64 a1] w fun e w' => e = .returned (.bool true) ∧ Below w.heap.size w w' := by
  obtain ⟨a1l, a1h⟩ := Go.bounds_i64 w0
  obtain ⟨a2l, a2h⟩ := Go.bounds_i64 w1
  clear w0 w1
  obtain ⟨x1, x2⟩ := zg_bounds a0 a1l a1h
  obtain ⟨y1, y2⟩ := zg_bounds a1 a2l a2h
  obtain ⟨u1, u2⟩ := wrap_bounds a1
  have ha := zg_half a0
  have hb := zg_half a1
  have hab : a0 = a1 ∨ ((zg a0 == zg a1) = false ∧ (a0 == a1) = false) := by
    by_cases h : a0 = a1
    · exact .inl h
    · exact .inr ⟨zg_inj h, by simpa using h⟩
  have hng : ((zg a0 % 2 == 1) = true ∧ decide (a0 < 0) = true) ∨ ((zg a0 % 2 == 1) = false ∧ decide (a0 < 0) = false) := by
    by_cases h : a0 < 0
    · exact .inl ⟨zg_odd h, by simpa using h⟩
    · exact .inr ⟨zg_even h, by simpa using h⟩
  have hxy : zg a1 < zg a0 ∨ (¬ zg a1 < zg a0 ∧ (digs (zg a0)).length ≤ (digs (zg a1)).length) := by
    by_cases h : zg a1 < zg a0
    · exact .inl h
    · exact .inr ⟨h, digs_mono x1 (by omega) y2⟩
  rcases hab with rfl | ⟨hab1, hab2⟩ <;> rcases hng with ⟨hng1, hng2⟩ | ⟨hng1, hng2⟩ <;> rcases hxy with hxy | ⟨hxy, hlen⟩
  all_goals
    go_enter Try.func9, Try.ntmps9
    go_wp2_with (first
      | (go_at_call 6; refine (known_any _).mono ?_; rintro e w1 ⟨rfl, hB1⟩)
      | (go_at_call 21; (with_reducible refine (zig_uz _ (by omega) (by omega) _).mono ?_); rintro e w2 ⟨rfl, rfl⟩)
      | (go_at_call 21; refine (zig_any _ (by omega) (by omega) _).mono ?_; rintro e w3 ⟨rfl, rfl⟩)
      | (go_at_call 23; (with_reducible refine (unz_zg _ (by omega) (by omega) _).mono ?_); rintro e w4 ⟨rfl, rfl⟩)
      | (go_at_call 23; refine (unz_any _ (by omega) (by omega) _).mono ?_; rintro e w5 ⟨rfl, rfl⟩)
      | (go_at_call 19; refine (size_any _ (by omega) (by omega) _).mono ?_; rintro e w6 ⟨rfl, rfl⟩)
      | (go_at_call 31; refine (mag_any _ (by omega) (by omega) _).mono ?_; rintro e w7 ⟨rfl, rfl⟩))
    first | (exfalso; omega) | (go_ret; exact ⟨rfl, hB1⟩)

set_option maxRecDepth 100000 in
theorem lifted (os : Os) (started : os.Started) (H : Type) (enc : TypeId × Value → H) :
    ReturnsInHanded {} Try.checked os 9 .any (Rows.varintSignsSpec.pre6 enc Try.prog Try.f9 Rows.varintSignsRow.domain false) (Rows.varintSignsSpec.post enc Try.prog Try.f9 false true false false) := by
  refine returnsInHanded_of_change (C := Try.checked) own started (by kernel_rfl) Try.func9
    (ChangeSpec.witness6 (enc := enc) (C := Try.checked) false ⟨#[], #[.int .i64 0, .int .i64 0], []⟩ 8 (by kernel_rfl) (by kernel_rfl) (by kernel_rfl) (by kernel_rfl)) ?_
  intro W base args ds gs before hval0 hW hcnd _
  have hval : ∀ (j : Nat) t v, Try.f9.params[j]? = some t → args[j]? = some v → Value.okWide Try.prog W .any base t v := hval0
  have hW' := hW
  obtain ⟨p, q, hA0, hV, rfl, hfz, hnd⟩ := hW
  have hA : DataW.TrodAll enc Try.prog W 0 (fun _ => true) true Try.f9.params.toList args.toList ds p := hA0
  rw [Try.params9] at hA hval
  obtain ⟨v0, vs0, d0, ds0, p0, q0, hargs, rfl, rfl, h0, r0⟩ := trodAll_cons hA
  obtain ⟨v1, vs1, d1, ds1, p1, q1, rfl, rfl, rfl, h1, r1⟩ := trodAll_cons r0
  obtain ⟨rfl, rfl, rfl⟩ := trodAll_nil r1
  obtain rfl : args = #[v0, v1] := by cases args; simp_all
  obtain ⟨rfl, rfl⟩ := trodVars_none hV
  obtain ⟨a0, rfl, rfl, rfl, w0⟩ := open_int Try.underlying2 (hval 0 2 v0 rfl rfl) h0
  obtain ⟨a1, rfl, rfl, rfl, w1⟩ := open_int Try.underlying2 (hval 1 2 v1 rfl rfl) h1
  clear hA0 hval0
  simp only [List.append_nil] at hW'
  refine (walk a0 a1 w0 w1 W).mono fun e W' ⟨he, hg⟩ => ?_
  subst he
  exact ⟨_, rfl, _, _, _, [], [], [], hW', (trodAll_cons_mk (shut_bool Try.underlying4 _) trodAll_mk0), (trodAll_cons_mk (shut_int Try.underlying2 w0) (trodAll_cons_mk (shut_int Try.underlying2 w1) trodAll_mk0)), rfl, hg.frame _, fun h => by cases h⟩

theorem over : Rows.varintSignsRow.holds Try.pinned (OpenSpec.ofChange Rows.varintSignsSpec) :=
  OpenClaim.holds_of_wide 9 Try.f9 rfl rfl rfl rfl rfl rfl rfl ⟨rfl, rfl, rfl, rfl, rfl⟩ rfl rfl rfl rfl rfl (by kernel_rfl) Try.func9 (by kernel_rfl)
    (of_decide_eq_true (by kernel_rfl)) (by unfold Func.isWrapper; first | (rw [if_pos (by decide +kernel)]; kernel_rfl) | (rw [if_neg (by decide +kernel)]; exact ⟨rfl, rfl⟩))
    (fun os started H enc _ => lifted os started H enc)

/-- ████ THE STATEMENT ████ -/
theorem proved : Rows.VarintSignsSaid :=
  over
#print axioms proved
end Go.Proofs.Ytjobmgnabfnhbaa.varintSigns
