/-
  LooksetSets returns true for any number, any two lists of looks and any look. No condition.
-/
import Derived.Test.YtdahaajfkjmflaaRows
import Derived.Test.YtdahaajfkjmflaaG20
import Derived.WalkKit
import Derived.ProofKit
import Derived.OpenShut
import Derived.ShutString
import Derived.SliceStrings
import Derived.ChangeOld
import Derived.Below
import Derived.Lib.SmallJoins
namespace Go.Proofs.Ytdahaajfkjmflaa.looksetSets
open Go.ChangeShapes Go.WideShapes Go.ChangeAt Go.RowKit
open kit s13 s14
open Go.ChangeMaps (open_string shut_string)
set_option linter.unusedVariables false
set_option linter.unusedSimpArgs false

theorem own : ownKnob Try.prog.godebug = none := by kernel_rfl
theorem laidOut : laidOutB Try.prog = true := by kernel_rfl

set_option maxRecDepth 100000 in
set_option maxHeartbeats 2000000 in
theorem walk (a0 : Int) (a1 : Option Addr) (cap1 : Nat) (z1 : List s13.V5) (a2 : Option Addr) (cap2 : Nat) (z2 : List s13.V5) (x3_0 x3_1 x3_2 x3_3 x3_4 : Int) (w : World) (w0 : (Lit.int .i64 a0).wf = true) (w1 : z1.length ≤ maxLen) (cp1 : z1.length ≤ cap1) (rd1 : s13.Reads5 w a1 z1) (w2 : z2.length ≤ maxLen) (cp2 : z2.length ≤ cap2) (rd2 : s13.Reads5 w a2 z2) (wx3_0 : (Lit.int .i64 x3_0).wf = true) (wx3_1 : (Lit.int .i64 x3_1).wf = true) (wx3_2 : (Lit.int .i64 x3_2).wf = true) (wx3_3 : (Lit.int .i64 x3_3).wf = true) (wx3_4 : (Lit.int .i64 x3_4).wf = true) :
    Calls Try.prog 3 #[.int .i64 a0, .slice a1 z1.length cap1, .slice a2 z2.length cap2, .agg #[.int .i64 x3_0, .int .i64 x3_1, .int .i64 x3_2, .int .i64 x3_3, .int .i64 x3_4]] w fun e w' => e = .returned (.bool true) ∧ Below w.heap.size w w' := by
  exact s14.sets_law a0 a1 a2 z1.length z2.length cap1 cap2 z1 z2 x3_0 x3_1 x3_2 x3_3 x3_4 w (Lib.hid rfl) (Lib.hid rfl) cp1 cp2 (Lib.hid rd1) (Lib.hid rd2)

set_option maxRecDepth 100000 in
theorem lifted (os : Os) (started : os.Started) (H : Type) (enc : TypeId × Value → H) :
    ReturnsInHanded {} Try.checked os 3 .any (Rows.looksetSetsSpec.pre6 enc Try.prog Try.f3 Rows.looksetSetsRow.domain false) (Rows.looksetSetsSpec.post enc Try.prog Try.f3 false true false false) := by
  refine returnsInHanded_of_change (C := Try.checked) own started (by kernel_rfl) Try.func3
    (ChangeSpec.witness6 (enc := enc) (C := Try.checked) false ⟨#[], #[.int .i64 0, .slice none 0 0, .slice none 0 0, .agg #[.int .i64 0, .int .i64 0, .int .i64 0, .int .i64 0, .int .i64 0]], []⟩ 8 (by kernel_rfl) (by kernel_rfl) (by kernel_rfl) (by kernel_rfl)) ?_
  intro W base args ds gs before hval0 hW hcnd _
  have hval : ∀ (j : Nat) t v, Try.f3.params[j]? = some t → args[j]? = some v → Value.okWide Try.prog W .any base t v := hval0
  have hW' := hW
  obtain ⟨p, q, hA0, hV, rfl, hfz, hnd⟩ := hW
  have hA : DataW.TrodAll enc Try.prog W 0 (fun _ => true) true Try.f3.params.toList args.toList ds p := hA0
  rw [Try.params3] at hA hval
  obtain ⟨v0, vs0, d0, ds0, p0, q0, hargs, rfl, rfl, h0, r0⟩ := trodAll_cons hA
  obtain ⟨v1, vs1, d1, ds1, p1, q1, rfl, rfl, rfl, h1, r1⟩ := trodAll_cons r0
  obtain ⟨v2, vs2, d2, ds2, p2, q2, rfl, rfl, rfl, h2, r2⟩ := trodAll_cons r1
  obtain ⟨v3, vs3, d3, ds3, p3, q3, rfl, rfl, rfl, h3, r3⟩ := trodAll_cons r2
  obtain ⟨rfl, rfl, rfl⟩ := trodAll_nil r3
  obtain rfl : args = #[v0, v1, v2, v3] := by cases args; simp_all
  obtain ⟨rfl, rfl⟩ := trodVars_none hV
  have k0 := h0
  have lt0 : ∀ x ∈ p0, x.block < W.heap.size := by obtain ⟨m, hm⟩ := k0; exact DataW.trod_lt m _ _ _ hm
  have k1 := h1
  have lt1 : ∀ x ∈ p1, x.block < W.heap.size := by obtain ⟨m, hm⟩ := k1; exact DataW.trod_lt m _ _ _ hm
  have k2 := h2
  have lt2 : ∀ x ∈ p2, x.block < W.heap.size := by obtain ⟨m, hm⟩ := k2; exact DataW.trod_lt m _ _ _ hm
  have k3 := h3
  have lt3 : ∀ x ∈ p3, x.block < W.heap.size := by obtain ⟨m, hm⟩ := k3; exact DataW.trod_lt m _ _ _ hm
  obtain ⟨a0, rfl, rfl, rfl, w0⟩ := open_int Try.underlying3 (hval 0 3 v0 rfl rfl) h0
  obtain ⟨a1, len1, cap1, rfl⟩ := okWide_slice Try.underlying22 (hval 1 22 v1 rfl rfl)
  obtain ⟨z1, rfl, w1, cp1, rd1⟩ : ∃ z : List s13.V5, z.length = len1 ∧ z.length ≤ maxLen ∧ z.length ≤ cap1 ∧ s13.Reads5 W a1 z := by
    obtain ⟨fuel, hf⟩ := h1
    rcases s14.open_looks hf with hcs | ⟨x, l, c, zs, hcs, hm, hc, hz, hr⟩
    · simp [Value.cells] at hcs
      obtain ⟨rfl, rfl, rfl⟩ := hcs
      exact ⟨[], rfl, Nat.zero_le _, Nat.zero_le _, s13.Reads5.nil _ _⟩
    · simp [Value.cells] at hcs
      obtain ⟨rfl, rfl, rfl⟩ := hcs
      exact ⟨zs, hz, by omega, by omega, hr⟩
  obtain ⟨a2, len2, cap2, rfl⟩ := okWide_slice Try.underlying22 (hval 2 22 v2 rfl rfl)
  obtain ⟨z2, rfl, w2, cp2, rd2⟩ : ∃ z : List s13.V5, z.length = len2 ∧ z.length ≤ maxLen ∧ z.length ≤ cap2 ∧ s13.Reads5 W a2 z := by
    obtain ⟨fuel, hf⟩ := h2
    rcases s14.open_looks hf with hcs | ⟨x, l, c, zs, hcs, hm, hc, hz, hr⟩
    · simp [Value.cells] at hcs
      obtain ⟨rfl, rfl, rfl⟩ := hcs
      exact ⟨[], rfl, Nat.zero_le _, Nat.zero_le _, s13.Reads5.nil _ _⟩
    · simp [Value.cells] at hcs
      obtain ⟨rfl, rfl, rfl⟩ := hcs
      exact ⟨zs, hz, by omega, by omega, hr⟩
  obtain ⟨x3_0, x3_1, x3_2, x3_3, x3_4, rfl, wx3_0, wx3_1, wx3_2, wx3_3, wx3_4⟩ := s13.open_look (hval 3 25 v3 rfl rfl) h3
  clear hA0 hval0
  refine (walk a0 a1 cap1 z1 a2 cap2 z2 x3_0 x3_1 x3_2 x3_3 x3_4 W w0 w1 cp1 rd1 w2 cp2 rd2 wx3_0 wx3_1 wx3_2 wx3_3 wx3_4).mono fun e W' ⟨he, bel⟩ => ?_
  subst he
  exact ⟨_, rfl, _, _, _, [], _, [], hW', trodAll_mk1 (shut_bool Try.underlying4 _), trodAll_cons_mk (Below.trod laidOut (by kernel_rfl) (of_decide_eq_true (by kernel_rfl)) k0 bel lt0) (trodAll_cons_mk (Below.trod laidOut (by kernel_rfl) (of_decide_eq_true (by kernel_rfl)) k1 bel lt1) (trodAll_cons_mk (Below.trod laidOut (by kernel_rfl) (of_decide_eq_true (by kernel_rfl)) k2 bel lt2) (trodAll_cons_mk (Below.trod laidOut (by kernel_rfl) (of_decide_eq_true (by kernel_rfl)) k3 bel lt3) trodAll_mk0))), rfl, bel.frame _, fun h => by cases h⟩

theorem over : Rows.looksetSetsRow.holds Try.pinned (OpenSpec.ofChange Rows.looksetSetsSpec) :=
  OpenClaim.holds_of_wide 3 Try.f3 rfl rfl rfl rfl rfl rfl rfl ⟨rfl, rfl, rfl, rfl, rfl⟩ rfl rfl rfl rfl rfl (by kernel_rfl) Try.func3 (by kernel_rfl)
    (of_decide_eq_true (by kernel_rfl)) (by unfold Func.isWrapper; first | (rw [if_pos (by decide +kernel)]; kernel_rfl) | (rw [if_neg (by decide +kernel)]; exact ⟨rfl, rfl⟩))
    (fun os started H enc _ => lifted os started H enc)

/-- THE STATEMENT -/
theorem proved : Rows.LooksetSetsSaid := over
#print axioms proved
end Go.Proofs.Ytdahaajfkjmflaa.looksetSets
