/-
  Layer 3: awake.
-/
import Derived.Test.YtabcggmmdjeobaaDoorS03PD
namespace Go.Proofs.YtabcggmmdjeobaaDoor.s03
set_option linter.unusedVariables false
set_option linter.unusedSimpArgs false
open Go.RowKit
open kit

theorem make_12 : makeR 12 true = (⟨#[78, 49, 50]⟩, 0) := by decide +kernel
theorem word_1a : wordR (⟨#[49, 97]⟩ : ByteArray).data.toList = 3 := by decide +kernel
theorem small_a : kindB 97 122 (⟨#[97]⟩ : ByteArray).data.toList = true := by decide +kernel
theorem small_A : kindB 97 122 (⟨#[65]⟩ : ByteArray).data.toList = false := by decide +kernel
set_option maxRecDepth 100000 in
theorem awake_any (w : World) : Calls Tryd.prog 23 #[] w fun e w' => e = .returned (.bool true) ∧ Below w.heap.size w w' := by
  go_enter Tryd.func23, Tryd.ntmps23
  go_wp2_with (first
    | (go_at_call 21; (with_reducible refine (make_any _ _ _ _ _ (by decide) (by decide) (Or.inl (by decide)) (Lib.hid make_12)).mono ?_); rintro e w1 ⟨rfl, hB1⟩)
    | (go_at_call 11; (with_reducible refine (word_any _ _ (by decide)).mono ?_); rintro e w2 ⟨rfl, hB2⟩; have K2 := below_then hB1 hB2; rw [word_1a])
    | (go_at_call 14; (with_reducible refine (small_any ⟨#[97]⟩ _ (by decide)).mono ?_); rintro e w3 ⟨rfl, hB3⟩; have K3 := below_then K2 hB3; rw [small_a])
    | (go_at_call 14; (with_reducible refine (small_any ⟨#[65]⟩ _ (by decide)).mono ?_); rintro e w4 ⟨rfl, hB4⟩; have K4 := below_then K3 hB4; rw [small_A]))
  go_ret
  exact ⟨rfl, K4⟩
end Go.Proofs.YtabcggmmdjeobaaDoor.s03
