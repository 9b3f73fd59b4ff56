/-
  The contracts of the eight steps: the program's entry, the reference's eight.
-/
import Derived.Test.YtpdpdmkfgbmdmaaRows
import Derived.Test.YtpdpdmkfgbmdmaaWords
import Derived.WalkKit
import Derived.WalkSpells
import Derived.WalkLawsBesides
import Derived.Lib.Hide
namespace Go.Proofs.Ytpdpdmkfgbmdmaa
set_option linter.unusedSimpArgs false
set_option linter.unusedVariables false
open Go.RowKit
open crcs (W)

theorem ret_int {k : IntKind} {a b : Int} (h : a = b) : Ending.returned (.int k a) = .returned (.int k b) := by rw [h]

theorem eight_any (c : W) (w : World) :
    Calls Try.prog 38 #[.int .u32 (wi c)] w fun e w' => e = .returned (.int .u32 (wi (crcs.iter 8 c))) ∧ w = w' := by
  have hc0 := wi_lo c
  have hc1 := wi_hi c
  go_enter Try.func38, Try.ntmps38
  go_wp2
  go_loop [0, 3] (fun x i => ∃ k : Nat, k ≤ 8 ∧ i = .int .i64 k ∧ x = .int .u32 (wi (crcs.iter k c))) (fun _ i => 8 - (intOf i).toNat)
  case atStart => exact ⟨0, by omega, rfl, rfl⟩
  case round =>
    obtain ⟨k, hk, rfl, rfl⟩ := hrel
    by_cases hlt : k < 8
    · have hs := Lib.hid (iter_succ k c)
      generalize crcs.iter k c = d at hs
      have hd0 := wi_lo d
      have hd1 := wi_hi d
      by_cases hb : d.getLsbD 0 = true
      · have ht := odd_true hb
        have hv := Lib.hid (st_odd hb)
        clear hb
        go_wp2
        go_round
        case rel => exact ⟨k + 1, by omega, by go_num, by rw [hv.out, hs.out]⟩
        case measure => simp [intOf]; omega
      · have hb : d.getLsbD 0 = false := by simpa using hb
        have ht := odd_false hb
        have hv := Lib.hid (st_even hb)
        clear hb
        go_wp2
        go_round
        case rel => exact ⟨k + 1, by omega, by go_num, by rw [hv.out, hs.out]⟩
        case measure => simp [intOf]; omega
    · obtain rfl : k = 8 := by omega
      go_wp2
      go_ret
      exact ⟨rfl, rfl⟩

theorem entry_any (b : UInt8) (w : World) :
    Calls Try.prog 39 #[.int .u8 (b.toNat : Int)] w fun e w' => e = .returned (.int .u32 (wi (crcs.iter 8 (crcs.w8 b)))) ∧ w = w' := by
  have hb0 : (0 : Int) ≤ (b.toNat : Int) := by omega
  have hb1 : (b.toNat : Int) ≤ 255 := by have := b.toNat_lt; omega
  have H := Lib.hid (byte_w b)
  generalize (b.toNat : Int) = y at hb0 hb1 H
  go_enter Try.func39, Try.ntmps39
  go_wp2
  go_loop [3, 7] (fun x i => ∃ k : Nat, k ≤ 8 ∧ i = .int .i64 k ∧ x = .int .u32 (wi (crcs.iter k (crcs.w8 b)))) (fun _ i => 8 - (intOf i).toNat)
  case atStart => exact ⟨0, by omega, rfl, by rw [H.out]; rfl⟩
  case round =>
    obtain ⟨k, hk, rfl, rfl⟩ := hrel
    by_cases hlt : k < 8
    · have hs := Lib.hid (iter_succ k (crcs.w8 b))
      generalize crcs.iter k (crcs.w8 b) = d at hs
      have hd0 := wi_lo d
      have hd1 := wi_hi d
      by_cases hb : d.getLsbD 0 = true
      · have ht := odd_true hb
        have hv := Lib.hid (st_odd hb)
        clear hb
        go_wp2
        go_round
        case rel => exact ⟨k + 1, by omega, by go_num, by rw [hv.out, hs.out]⟩
        case measure => simp [intOf]; omega
      · have hb : d.getLsbD 0 = false := by simpa using hb
        have ht := odd_false hb
        have hv := Lib.hid (st_even hb)
        clear hb
        go_wp2
        go_round
        case rel => exact ⟨k + 1, by omega, by go_num, by rw [hv.out, hs.out]⟩
        case measure => simp [intOf]; omega
    · obtain rfl : k = 8 := by omega
      go_wp2
      go_ret
      exact ⟨rfl, rfl⟩
end Go.Proofs.Ytpdpdmkfgbmdmaa
