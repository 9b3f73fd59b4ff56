/-
  Arithmetic and contracts for VarintSigns.
-/
import Derived.Test.YtjobmgnabfnhbaaWalksL
namespace Go.Proofs.Ytjobmgnabfnhbaa
set_option linter.unusedVariables false
open Go.RowKit

theorem zg_bounds (a : Int) (h1 : -9223372036854775808 ≤ a) (h2 : a ≤ 9223372036854775807) : 0 ≤ zg a ∧ zg a ≤ 18446744073709551615 := by
  unfold zg; split <;> omega
theorem uz_bounds (a : Int) (h1 : 0 ≤ a) (h2 : a ≤ 18446744073709551615) : -9223372036854775808 ≤ uz a ∧ uz a ≤ 9223372036854775807 := by
  unfold uz; split <;> omega
theorem uz_zg (a : Int) : uz (zg a) = a := by
  unfold uz zg; split <;> split <;> omega
theorem zg_uz (u : Int) (h : 0 ≤ u) : zg (uz u) = u := by
  unfold uz zg; split <;> split <;> omega
theorem zg_half (a : Int) : zg a / 2 = mag a := by
  unfold zg mag; split <;> omega
theorem zg_inj {a b : Int} (h : a ≠ b) : (zg a == zg b) = false := by
  rw [beq_eq_false_iff_ne]
  intro e
  have := congrArg uz e
  rw [uz_zg, uz_zg] at this
  exact h this
theorem zg_odd {a : Int} (h : a < 0) : (zg a % 2 == 1) = true := by
  rw [beq_iff_eq]; unfold zg; rw [if_pos h]; omega
theorem zg_even {a : Int} (h : ¬ a < 0) : (zg a % 2 == 1) = false := by
  rw [beq_eq_false_iff_ne]; unfold zg; rw [if_neg h]; omega
theorem digs_mono {x y : Int} (h0 : 0 ≤ x) (h : x ≤ y) (hy : y ≤ 18446744073709551615) : (digs x).length ≤ (digs y).length := by
  have hp := digs_pos y
  obtain ⟨k, hk⟩ : ∃ k, (digs y).length = k + 1 := ⟨(digs y).length - 1, by omega⟩
  rw [hk]
  refine digs_len_le k x ?_
  by_cases hxk : x < 128 ^ (k + 1)
  · exact hxk
  · have := digs_len_gt (k + 1) y (by omega)
    omega
theorem unz_zg (a : Int) (h1 : -9223372036854775808 ≤ a) (h2 : a ≤ 9223372036854775807) (w : World) : Calls Try.prog 23 #[.int .u64 (zg a)] w fun e w' => e = .returned (.int .i64 a) ∧ w = w' :=
  (unz_any (zg a) (zg_bounds a h1 h2).1 (zg_bounds a h1 h2).2 w).mono fun e w' h => by rw [uz_zg] at h; exact h
theorem zig_uz (u : Int) (h1 : 0 ≤ u) (h2 : u ≤ 18446744073709551615) (w : World) : Calls Try.prog 21 #[.int .i64 (uz u)] w fun e w' => e = .returned (.int .u64 u) ∧ w = w' :=
  (zig_any (uz u) (uz_bounds u h1 h2).1 (uz_bounds u h1 h2).2 w).mono fun e w' h => by rw [zg_uz u h1] at h; exact h
theorem wrap_bounds (b : Int) : 0 ≤ IntKind.u64.wrap b ∧ IntKind.u64.wrap b ≤ 18446744073709551615 := by
  simp only [IntKind.wrap, IntKind.signed, IntKind.bits, Bool.false_and, Bool.false_eq_true, if_false]
  omega
end Go.Proofs.Ytjobmgnabfnhbaa
