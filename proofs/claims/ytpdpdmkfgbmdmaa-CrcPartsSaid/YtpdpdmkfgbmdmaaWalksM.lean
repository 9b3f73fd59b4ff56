/-
  The contracts of opens, awake and CrcKnown: the chapter's examples.
-/
import Derived.Test.YtpdpdmkfgbmdmaaWalksL
namespace Go.Proofs.Ytpdpdmkfgbmdmaa
set_option linter.unusedSimpArgs false
set_option linter.unusedVariables false
open Go.RowKit
open crcs (W)

theorem opens_any (s x : ByteArray) (er : Int) (w : World) (hs : s.size ≤ 9223372036854775807) (H : Hid (openR s = (x, er))) :
    Calls Try.prog 33 #[.string s] w fun e w' => e = .returned (.int .i64 er) ∧ Below w.heap.size w w' := by
  go_enter Try.func33, Try.ntmps33
  go_wp2_with (go_at_call 25; refine (open_any s x er _ hs H).mono ?_; rintro e w1 ⟨rfl, hB1⟩)
  go_ret
  exact ⟨rfl, hB1⟩

theorem e_seal_ab : sealR ⟨#[97, 98]⟩ = (⟨#[97, 98, 109, 72, 131, 158]⟩, 0) := by decide +kernel
theorem e_open_ab : openR ⟨#[97, 98, 109, 72, 131, 158]⟩ = (⟨#[97, 98]⟩, 0) := by decide +kernel
theorem e_open_abcd : openR ⟨#[97, 98, 99, 100]⟩ = (⟨#[]⟩, 13) := by decide +kernel
theorem e_of_9 : wi (crcOf [49, 50, 51, 52, 53, 54, 55, 56, 57]) = 3421780262 := by decide +kernel
theorem e_of_0 : wi (crcOf []) = 0 := by decide +kernel
theorem seal_ab (w : World) : Calls Try.prog 23 #[.string ⟨#[97, 98]⟩] w fun e w' => e = .returned (.tuple #[.string ⟨#[97, 98, 109, 72, 131, 158]⟩, .int .i64 0]) ∧ Below w.heap.size w w' := Seal_any _ _ _ w (by decide) (Lib.hid e_seal_ab)
theorem open_ab (w : World) : Calls Try.prog 25 #[.string ⟨#[97, 98, 109, 72, 131, 158]⟩] w fun e w' => e = .returned (.tuple #[.string ⟨#[97, 98]⟩, .int .i64 0]) ∧ Below w.heap.size w w' := open_any _ _ _ w (by decide) (Lib.hid e_open_ab)
theorem opens_abcd (w : World) : Calls Try.prog 33 #[.string ⟨#[97, 98, 99, 100]⟩] w fun e w' => e = .returned (.int .i64 13) ∧ Below w.heap.size w w' := opens_any _ _ _ w (by decide) (Lib.hid e_open_abcd)
theorem of_0 (w : World) : Calls Try.prog 16 #[.slice none 0 0] w fun e w' => e = .returned (.int .u32 0) ∧ Below w.heap.size w w' :=
  (of_any none 0 [] w (by simp) (fun _ h => by cases h) (Reads.nil _ _)).mono fun e w' ⟨h, hB⟩ => ⟨by rw [show cat [] = [] from rfl, e_of_0] at h; exact h, hB⟩
theorem of_9 (W0 : World) : Calls Try.prog 16 #[.slice (some ⟨W0.heap.size, 0, none⟩) 1 1] (W0.alloc (.cells #[.string ⟨#[49, 50, 51, 52, 53, 54, 55, 56, 57]⟩] 9)) fun e w' => e = .returned (.int .u32 3421780262) ∧ Below W0.heap.size W0 w' :=
  (of_one ⟨#[49, 50, 51, 52, 53, 54, 55, 56, 57]⟩ W0 _ rfl (by decide)).mono fun e w' ⟨h, hB⟩ => ⟨by rw [show (⟨#[49, 50, 51, 52, 53, 54, 55, 56, 57]⟩ : ByteArray).data.toList = [49, 50, 51, 52, 53, 54, 55, 56, 57] from rfl, e_of_9] at h; exact h, hB⟩
set_option maxRecDepth 100000 in
theorem awake_any (w : World) : Calls Try.prog 10 #[] w fun e w' => e = .returned (.bool true) ∧ Below w.heap.size w w' := by
  go_enter Try.func10, Try.ntmps10
  go_wp2_with (first
    | (go_at_call 23; (with_reducible refine (seal_ab _).mono ?_); rintro e w1 ⟨rfl, hB1⟩)
    | (go_at_call 25; (with_reducible refine (open_ab _).mono ?_); rintro e w2 ⟨rfl, hB2⟩)
    | (go_at_call 16; (with_reducible refine (of_0 _).mono ?_); rintro e w3 ⟨rfl, hB3⟩)
    | (go_at_call 16; (with_reducible refine (of_9 _).mono ?_); rintro e w4 ⟨rfl, hB4⟩)
    | (go_at_call 33; (with_reducible refine (opens_abcd _).mono ?_); rintro e w5 ⟨rfl, hB5⟩))
  go_ret
  exact ⟨rfl, below_then (below_then (below_then (below_then hB1 hB2) hB3) hB4) hB5⟩
end Go.Proofs.Ytpdpdmkfgbmdmaa
