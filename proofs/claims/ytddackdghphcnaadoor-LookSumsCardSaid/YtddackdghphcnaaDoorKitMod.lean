/-
  stenotypekit.Mod.
-/
import Derived.Test.YtddackdghphcnaaDoorKit
namespace Go.Proofs.YtddackdghphcnaaDoor.kit
set_option linter.unusedVariables false
set_option linter.unusedSimpArgs false
open Go.RowKit

theorem tmod_fix (n m : Int) (hm : 0 < m) : (if n.tmod m < 0 then n.tmod m + m else n.tmod m) = n % m := by
  have h1 := Int.tmod_eq_emod (a := n) (b := m)
  have h2 := Int.emod_nonneg n (by omega : m ≠ 0)
  have h3 := Int.emod_lt_of_pos n hm
  rw [h1]
  have ha : (m.natAbs : Int) = m := by omega
  split <;> split <;> omega
theorem mod_any (n m : Int) (h1 : -9223372036854775808 ≤ n) (h2 : n ≤ 9223372036854775807) (m1 : 1 ≤ m) (m2 : m ≤ 2000000000) (w : World) :
    Calls Tryd.prog 45 #[.int .i64 n, .int .i64 m] w fun e w' => e = .returned (.int .i64 (n % m)) ∧ w = w' := by
  have H := Lib.hid (tmod_fix n m (by omega))
  go_enter Tryd.func45, Tryd.ntmps45
  have hlo : -m ≤ n.tmod m := by
    have := H.out
    have h2 := Int.emod_nonneg n (by omega : m ≠ 0)
    split at this <;> omega
  go_wp2
  · have hl : n.tmod m < 0 := by assumption
    go_ret
    exact ⟨ret_int (by rw [← H.out, if_pos hl]), rfl⟩
  · have hl : 0 ≤ n.tmod m := by assumption
    go_ret
    exact ⟨ret_int (by rw [← H.out, if_neg (by omega)]), rfl⟩
end Go.Proofs.YtddackdghphcnaaDoor.kit
