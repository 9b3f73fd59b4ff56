/-
  CodecBegins: the reader of a string is the reference's, whatever the string and however often it is repeated; no condition.
-/
import Derived.Test.YtkepnjnindolbaaRows
import Derived.Test.YtkepnjnindolbaaS05ZB
import Derived.Test.YtkepnjnindolbaaS05T
import Derived.WalkKit
import Derived.ProofKit
import Derived.OpenShut
import Derived.ShutString
import Derived.SliceStrings
import Derived.ChangeOld
import Derived.Below
import Derived.Lib.SmallJoins
namespace Go.Proofs.Ytkepnjnindolbaa.codecBegins
open Go.ChangeShapes Go.WideShapes Go.ChangeAt Go.RowKit
open kit s05
open Go.ChangeMaps (open_string shut_string)
set_option linter.unusedVariables false
set_option linter.unusedSimpArgs false

theorem own : ownKnob Try.prog.godebug = none := by kernel_rfl
theorem laidOut : laidOutB Try.prog = true := by kernel_rfl

set_option maxRecDepth 100000 in
set_option maxHeartbeats 2000000 in
theorem walk (a0 : ByteArray) (a1 : Int) (w : World) (w0 : a0.size ≤ maxLen) (w1 : (Lit.int .i64 a1).wf = true) :
    Calls Try.prog 4 #[.string a0, .int .i64 a1] w fun e w' => e = .returned (.bool true) ∧ Below w.heap.size w w' := by
  obtain ⟨i1, i2⟩ := bounds_i64 w1
  unfold maxLen at w0
  clear w1
  by_cases hbig : 30 < a0.size ∨ a1 < 0 ∨ 700 < a1
  · have hcase : 30 < a0.size ∨ (¬ 30 < a0.size ∧ a1 < 0) ∨ (¬ 30 < a0.size ∧ ¬ a1 < 0 ∧ 700 < a1) := by omega
    clear hbig
    rcases hcase with h1 | ⟨h1, h2⟩ | ⟨h1, h2, h3⟩
    all_goals
      go_enter Try.func4, Try.ntmps4
      go_wp2_with (go_at_call 9; refine (awake_any _).mono ?_; rintro e w9 ⟨rfl, hB9⟩)
      go_ret
      exact ⟨rfl, hB9⟩
  · have h1 : ¬ 30 < a0.size := by omega
    have h2 : ¬ a1 < 0 := by omega
    have h3 : ¬ 700 < a1 := by omega
    obtain ⟨m, rfl⟩ := Int.eq_ofNat_of_zero_le (show 0 ≤ a1 by omega)
    have hm : m ≤ 700 := by omega
    clear hbig i1 i2
    go_enter Try.func4, Try.ntmps4
    go_wp2
    go_loopw [5, 6] (fun q i wr => ∃ (k : Nat) (L : ByteArray), k ≤ m ∧ i = .int .i64 k ∧ q = .string L ∧ L.size ≤ 30 * k ∧ wr = w) (fun _ i _ => m - (intOf i).toNat)
    case atStart => exact ⟨0, ⟨#[]⟩, by omega, rfl, rfl, by decide, rfl⟩
    case round =>
      obtain ⟨k, L, hk, rfl, rfl, hL, rfl⟩ := hrel
      by_cases hlt : k < m
      · have hsum : L.size + a0.size ≤ 9223372036854775807 := by omega
        go_wp2
        go_roundw
        case rel => exact ⟨k + 1, L ++ a0, by omega, by go_num, rfl, by rw [ByteArray.size_append]; omega, trivial⟩
        case measure => simp [intOf]; omega
      · obtain ⟨s', p', e', o', hc⟩ : ∃ s' p' e' o', cnt L 0 0 0 = (s', p', e', o') := ⟨_, _, _, _, rfl⟩
        have HC := Lib.hid hc
        clear hc
        go_wp2_with (first
          | (go_at_call 25; refine (pread_any L (by omega) s' p' e' o' HC _).mono ?_; rintro e w1 ⟨rfl, hB⟩; have B1 := Lib.hid hB; clear hB)
          | (go_at_call 26; refine (rread_any L (by omega) s' p' e' o' HC _).mono ?_; rintro e w2 ⟨rfl, hB⟩; have B2 := Lib.hid (below_then B1.out hB); clear hB)
          | (go_at_call 9; refine (awake_any _).mono ?_; rintro e w9 ⟨rfl, hB9⟩; have B9 := Lib.hid (below_then B2.out hB9); clear hB9))
        go_ret
        exact ⟨rfl, B9.out⟩

set_option maxRecDepth 100000 in
theorem lifted (os : Os) (started : os.Started) (H : Type) (enc : TypeId × Value → H) :
    ReturnsInHanded {} Try.checked os 4 .any (Rows.codecBeginsSpec.pre6 enc Try.prog Try.f4 Rows.codecBeginsRow.domain false) (Rows.codecBeginsSpec.post enc Try.prog Try.f4 false true false false) := by
  refine returnsInHanded_of_change (C := Try.checked) own started (by kernel_rfl) Try.func4
    (ChangeSpec.witness6 (enc := enc) (C := Try.checked) false ⟨#[], #[.string ByteArray.empty, .int .i64 0], []⟩ 8 (by kernel_rfl) (by kernel_rfl) (by kernel_rfl) (by kernel_rfl)) ?_
  intro W base args ds gs before hval0 hW hcnd _
  have hval : ∀ (j : Nat) t v, Try.f4.params[j]? = some t → args[j]? = some v → Value.okWide Try.prog W .any base t v := hval0
  have hW' := hW
  obtain ⟨p, q, hA0, hV, rfl, hfz, hnd⟩ := hW
  have hA : DataW.TrodAll enc Try.prog W 0 (fun _ => true) true Try.f4.params.toList args.toList ds p := hA0
  rw [Try.params4] at hA hval
  obtain ⟨v0, vs0, d0, ds0, p0, q0, hargs, rfl, rfl, h0, r0⟩ := trodAll_cons hA
  obtain ⟨v1, vs1, d1, ds1, p1, q1, rfl, rfl, rfl, h1, r1⟩ := trodAll_cons r0
  obtain ⟨rfl, rfl, rfl⟩ := trodAll_nil r1
  obtain rfl : args = #[v0, v1] := by cases args; simp_all
  obtain ⟨rfl, rfl⟩ := trodVars_none hV
  have k0 := h0
  have lt0 : ∀ x ∈ p0, x.block < W.heap.size := by obtain ⟨m, hm⟩ := k0; exact DataW.trod_lt m _ _ _ hm
  have k1 := h1
  have lt1 : ∀ x ∈ p1, x.block < W.heap.size := by obtain ⟨m, hm⟩ := k1; exact DataW.trod_lt m _ _ _ hm
  obtain ⟨a0, rfl, rfl, rfl, w0⟩ := open_string Try.underlying9 (hval 0 9 v0 rfl rfl) h0
  obtain ⟨a1, rfl, rfl, rfl, w1⟩ := open_int Try.underlying3 (hval 1 3 v1 rfl rfl) h1
  clear hA0 hval0
  refine (walk a0 a1 W w0 w1).mono fun e W' ⟨he, bel⟩ => ?_
  subst he
  exact ⟨_, rfl, _, _, _, [], _, [], hW', trodAll_mk1 (shut_bool Try.underlying4 _), trodAll_cons_mk (Below.trod laidOut (by kernel_rfl) (of_decide_eq_true (by kernel_rfl)) k0 bel lt0) (trodAll_cons_mk (Below.trod laidOut (by kernel_rfl) (of_decide_eq_true (by kernel_rfl)) k1 bel lt1) trodAll_mk0), rfl, bel.frame _, fun h => by cases h⟩

theorem over : Rows.codecBeginsRow.holds Try.pinned (OpenSpec.ofChange Rows.codecBeginsSpec) :=
  OpenClaim.holds_of_wide 4 Try.f4 rfl rfl rfl rfl rfl rfl rfl ⟨rfl, rfl, rfl, rfl, rfl⟩ rfl rfl rfl rfl rfl (by kernel_rfl) Try.func4 (by kernel_rfl)
    (of_decide_eq_true (by kernel_rfl)) (by unfold Func.isWrapper; first | (rw [if_pos (by decide +kernel)]; kernel_rfl) | (rw [if_neg (by decide +kernel)]; exact ⟨rfl, rfl⟩))
    (fun os started H enc _ => lifted os started H enc)

/-- THE STATEMENT -/
theorem proved : Rows.CodecBeginsSaid := over
#print axioms proved
end Go.Proofs.Ytkepnjnindolbaa.codecBegins
