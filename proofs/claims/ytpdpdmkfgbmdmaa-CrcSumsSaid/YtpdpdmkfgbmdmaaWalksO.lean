/-
  The contract of CrcSums.
-/
import Derived.Test.YtpdpdmkfgbmdmaaWalksM
import Derived.Deep.RegionHeld3
namespace Go.Proofs.Ytpdpdmkfgbmdmaa
set_option linter.unusedSimpArgs false
set_option linter.unusedVariables false
open Go.RowKit
open crcs (W)

theorem tabR_bounds {i n er : Int} (h : tabR i = (n, er)) : 0 ≤ n ∧ n ≤ 4294967295 := by
  unfold tabR at h
  split at h
  · cases h; omega
  · cases h; exact ⟨wi_lo _, wi_hi _⟩

set_option maxRecDepth 100000 in
set_option maxHeartbeats 1000000 in
theorem sums_any (c : W) (a : Option Addr) (cap : Nat) (ss : List ByteArray) (i : Int) (w : World) (hn : ss.length ≤ 6) (h200 : shortB ss 200 = true) (i1 : -9223372036854775808 ≤ i) (i2 : i ≤ 9223372036854775807) (hr : ReadsS w a ss) (hs : Src w a cap (ss.map Value.string)) :
    Calls Try.prog 3 #[.int .u32 (wi c), .slice a ss.length cap, .int .i64 i] w fun e w' => e = .returned (.bool true) ∧ Below w.heap.size w w' := by
  have HS := Lib.hid hs
  have HR := Lib.hid hr
  have HM := Lib.hid (short_mem h200)
  have HM' : Hid (∀ s ∈ ss, s.size ≤ 9223372036854775807) := Lib.hid fun s hs => by have := HM.out s hs; omega
  obtain ⟨n, er, HT⟩ : ∃ n er, Hid (tabR i = (n, er)) := ⟨_, _, Lib.hid rfl⟩
  clear hs hr
  go_enter Try.func3, Try.ntmps3
  go_wp2_with (go_at_call 9; refine (short_any a cap 200 ss _ (by omega) (by omega) HM'.out HR.out).mono ?_; rintro e w1 ⟨rfl, rfl⟩)
  clear h200
  go_loopw [7] (fun i wr => ∃ k : Nat, k ≤ ss.length ∧ i = .int .i64 k ∧ Below w.heap.size w wr) (fun i _ => ss.length - (intOf i).toNat)
  case atStart => exact ⟨0, by omega, rfl, Below.refl _ _⟩
  case round =>
    obtain ⟨k, hk, rfl, hB⟩ := hrel
    by_cases hlt : k < ss.length
    · obtain ⟨b, off, rfl, hb, hc⟩ := (HR.out.below hB) k hlt
      have hx := HM'.out _ (mem_getS ss k hlt)
      generalize ss[k]?.getD ByteArray.empty = s at hc hx
      go_wp2
      go_region_held3 (fun w' => w'.cell? ⟨b, off + k, none⟩ = some (.string s) ∧ Below wr.heap.size wr w')
        (first | exact And.intro hc (Below.refl wr.heap.size wr).drew | (go_split_ands; exact ⟨(hB1.cell (p := ⟨b, off + k, none⟩) (cell_lt (by assumption))).trans (by assumption), below_then (by first | assumption | exact (Below.refl _ _).drew) hB1⟩))
        (first
          | (go_at_call 11; refine (add_any c s _ hx).mono ?_; rintro e w1 ⟨rfl, hB1⟩)
          | (go_at_call 12; refine (addr_any c s _ hx).mono ?_; rintro e w1 ⟨rfl, rfl⟩))
      all_goals
        go_wp2
        go_roundw
        case rel => exact ⟨k + 1, by omega, by go_num, below_then hB (by first | exact below_drew_in hB1 | assumption)⟩
        case measure => simp [intOf]; omega
    · clear hk
      go_wp2_with (first
        | (go_at_call 13; refine (own_texts a cap ss _ (by omega) (HS.out.below hB)).mono ?_; rintro e w1 ⟨ah, ch, rfl, hh, hB1⟩; have K1 := below_then hB hB1)
        | (go_at_call 14; refine (table_any i n er i1 i2 HT _).mono ?_; rintro e w2 ⟨rfl, rfl⟩)
        | (go_at_call 15; refine (tabler_any i n er i1 i2 HT _).mono ?_; rintro e w2 ⟨rfl, rfl⟩)
        | (go_at_call 16; refine (of_any ah ch ss _ (by omega) HM'.out hh).mono ?_; rintro e w2 ⟨rfl, hB2⟩; have K2 := below_then K1 hB2)
        | (go_at_call 17; refine (ofr_any a cap ss _ (by omega) HM'.out (HR.out.below K2)).mono ?_; rintro e w3 ⟨rfl, rfl⟩)
        | (go_at_call 18; refine (same_texts ah a ch cap ss _ (by omega) (hh.below hB2) (HR.out.below K2)).mono ?_; rintro e w3 ⟨rfl, nq, rfl⟩; have K3 := below_drewN K2 nq)
        | (go_at_call 19; refine (end_any _ _).mono ?_; rintro e w4 ⟨rfl, rfl⟩)
        | (go_at_call 20; refine (endr_any _ _).mono ?_; rintro e w4 ⟨rfl, rfl⟩)
        | (go_at_call 21; refine (start_any _).mono ?_; rintro e w4 ⟨rfl, rfl⟩)
        | (go_at_call 22; refine (startr_any _).mono ?_; rintro e w4 ⟨rfl, rfl⟩)
        | (go_at_call 10; refine (awake_any _).mono ?_; rintro e w5 ⟨rfl, hB5⟩; have K5 := below_then K3 hB5))
      go_ret
      exact ⟨rfl, K5⟩
end Go.Proofs.Ytpdpdmkfgbmdmaa
