/-
  stenotypekit over lists of numbers: OwnInts, SameInts.
-/
import Derived.Test.YtddackdghphcnaaDoorKit
namespace Go.Proofs.YtddackdghphcnaaDoor.kit
set_option linter.unusedVariables false
set_option linter.unusedSimpArgs false
open Go.RowKit

theorem info3 : (Tryd.prog.info? 3).map (fun i => (i.zero, i.size, i.bytes)) = some (some (.int .i64 0), 1, 8) := by kernel_rfl
theorem own_ints (a : Option Addr) (c : Nat) (zs : List Int) (w : World) (hn : zs.length ≤ 100000) (hs : Src w a c (zs.map (Value.int .i64))) :
    Calls Tryd.prog 11 #[.slice a zs.length c] w (OwnOf (Value.int .i64) 0 w zs) := by
  go_enter Tryd.func11, Tryd.ntmps11
  go_wp2_with (at_builtin; refine append_in Tryd.underlying22 info3 rfl (by omega) rfl (.tmp 3) (.tmp 4) rfl w.heap.size _ 0 [] rfl (empty_row 3 w _ (Nat.le_refl _)) a (zs.map (Value.int .i64)) zs.length c rfl (by simp) (hs.alloc _) (by simp [Value.oneCell']) (by omega) (by simp) ?_; intro v1 wA hv1 hBA; simp only [Nat.zero_add, List.nil_append] at hv1; obtain ⟨a1, k1, rfl⟩ := row_shape hv1)
  go_ret
  exact ⟨a1, k1, rfl, reads_of_row rfl hv1, ((Below.refl _ w).alloc (Nat.le_refl _) _).trans hBA⟩
set_option maxRecDepth 100000 in
theorem same_ints (a b : Option Addr) (ca cb : Nat) (zs : List Int) (w : World) (hn : zs.length ≤ 9223372036854775807) (ra : ReadsI w a zs) (rb : ReadsI w b zs) :
    Calls Tryd.prog 20 #[.slice a zs.length ca, .slice b zs.length cb] w fun e w' => e = .returned (.bool true) ∧ ∃ n, w' = w.drewN n := by
  go_enter Tryd.func20, Tryd.ntmps20
  go_wp2
  go_loopw [5] (fun i wr => ∃ k n : Nat, k ≤ zs.length ∧ i = .int .i64 k ∧ wr = w.drewN n) (fun i _ => zs.length - (intOf i).toNat)
  case atStart => exact ⟨0, 0, by omega, rfl, rfl⟩
  case round =>
    obtain ⟨k, n, hk, rfl, rfl⟩ := hrel
    by_cases hlt : k < zs.length
    · obtain ⟨c1, o1, rfl, _, h1⟩ := ra k hlt
      obtain ⟨c2, o2, rfl, _, h2⟩ := rb k hlt
      generalize zs[k]?.getD 0 = y at h1 h2
      go_wp2
      go_quiet (fail)
      go_wp2
      go_roundw
      case rel => exact ⟨k + 1, _, by omega, by go_num, rfl⟩
      case measure => simp [intOf]; omega
    · go_wp2
      go_ret
      exact ⟨rfl, _, rfl⟩
end Go.Proofs.YtddackdghphcnaaDoor.kit
