/-
  The contract of the program's table.
-/
import Derived.Test.YtpdpdmkfgbmdmaaWalksA
import Derived.Below
import Derived.Outline
import Derived.RegionTactic
import Derived.RangeFuncRecord
import Derived.WalkMore
import Derived.RangeFuncNested
import Derived.RangeFuncBound
import Derived.RangeFuncCalls
import Derived.RangeFuncLeaves
import Derived.RangeFuncBox
import Derived.Shelf.Abstract
import Derived.Shelf.RegionOpen
import Derived.OwnWalkIn
import Derived.TacticsInMore
import Derived.LoopNIn
import Derived.LoopIn
import Derived.Maps.AppendAt
import Derived.OpenShut
import Derived.Deep.QuietTactic
import Derived.BigQuiet
namespace Go.Proofs.Ytpdpdmkfgbmdmaa
set_option linter.unusedSimpArgs false
set_option linter.unusedVariables false
open Go.RowKit
open crcs (W)

/-- the table at first -/
def zeros : Array Value := Array.replicate 256 (.int .u32 0)
theorem zero62 (w : World) : (zeroValue 62).run Try.prog w = .ok (.agg zeros) w := by kernel_rfl
def tab (i : Nat) : Int := wi (crcs.iter 8 (crcs.w8 (UInt8.ofNat i)))
/-- the table, its first k numbers made -/
def Part (w : World) (b k : Nat) : Prop := ∃ cs : Array Value, w.heap[b]? = some (.cells cs 62 (0, 0)) ∧ (∀ i, i < k → cs[i]? = some (.int .u32 (tab i))) ∧ ∀ i, i < 256 → ∃ x : Int, cs[i]? = some (.int .u32 x)
theorem Part.cell {w : World} {b k : Nat} (h : Part w b k) (i : Nat) (hi : i < 256) : ∃ x : Int, w.cell? ⟨b, i, none⟩ = some (.int .u32 x) := by
  obtain ⟨cs, hb, _, h2⟩ := h
  obtain ⟨x, hx⟩ := h2 i hi
  refine ⟨x, ?_⟩
  unfold World.cell?
  rw [hb]
  simpa using hx
theorem Part.free {w : World} {b k : Nat} (h : Part w b k) (i : Nat) : w.frozen? ⟨b, i, none⟩ = false := by
  obtain ⟨cs, hb, _, h2⟩ := h
  unfold World.frozen?
  rw [hb]
  simp
theorem Part.lt {w : World} {b k : Nat} (h : Part w b k) : b < w.heap.size := by
  obtain ⟨cs, hb, _⟩ := h
  exact (Array.getElem?_eq_some_iff.1 hb).1
theorem Part.zero (w : World) : Part (w.alloc (.cells zeros 62)) w.heap.size 0 := by
  refine ⟨zeros, World.alloc_heap_new w _, fun i hi => by omega, fun i hi => ⟨0, ?_⟩⟩
  unfold zeros
  simp [Array.getElem?_replicate, hi]
theorem Part.set {w : World} {b k : Nat} (h : Part w b k) (hk : k < 256) : Part (w.setCell ⟨b, k, none⟩ (.int .u32 (tab k))) b (k + 1) := by
  obtain ⟨cs, hb, h1, h2⟩ := h
  obtain ⟨hlt, hv⟩ := Array.getElem?_eq_some_iff.1 hb
  have hsz : k < cs.size := by
    obtain ⟨x, hx⟩ := h2 k hk
    exact (Array.getElem?_eq_some_iff.1 hx).1
  refine ⟨cs.setIfInBounds k (.int .u32 (tab k)), ?_, fun i hi => ?_, fun i hi => ?_⟩
  · show (w.heap.modify b _)[b]? = _
    rw [Array.getElem?_eq_getElem (by rw [Array.size_modify]; exact hlt), Array.getElem_modify_self, hv]
    simp
  · rw [Array.getElem?_setIfInBounds]
    by_cases e : k = i
    · subst e; simp [hsz]
    · rw [if_neg e]; exact h1 i (by omega)
  · rw [Array.getElem?_setIfInBounds]
    by_cases e : k = i
    · subst e; exact ⟨tab k, by simp [hsz]⟩
    · rw [if_neg e]; exact h2 i hi
/-- the table -/
def Tab (w : World) (b : Nat) : Prop := Part w b 256
theorem Tab.at {w : World} {b : Nat} (h : Tab w b) (x : UInt8) : w.cell? ⟨b, x.toNat, none⟩ = some (.int .u32 (wi (crcs.iter 8 (crcs.w8 x)))) := by
  obtain ⟨cs, hb, h1, _⟩ := h
  have := h1 x.toNat x.toNat_lt
  unfold World.cell?
  rw [hb]
  simpa [tab] using this
theorem Part.below {w w1 : World} {b k : Nat} (h : Part w b k) (hB : Below w.heap.size w w1) : Part w1 b k := by
  have hl := h.lt
  obtain ⟨cs, hb, h1⟩ := h
  exact ⟨cs, (hB.block b hl).trans hb, h1⟩

theorem entry_nat (k : Nat) (h : k < 256) (w : World) :
    Calls Try.prog 39 #[.int .u8 (k : Int)] w fun e w' => e = .returned (.int .u32 (tab k)) ∧ w = w' := by
  have := entry_any (UInt8.ofNat k) w
  rwa [UInt8.toNat_ofNat', Nat.mod_eq_of_lt h] at this
set_option maxRecDepth 100000 in
theorem newTable_any (w : World) :
    Calls Try.prog 36 #[] w fun e w' => e = .returned (.pointer (some ⟨w.heap.size, 0, none⟩)) ∧ Tab w' w.heap.size ∧ Below w.heap.size w w' := by
  have hz := zero62
  go_enter Try.func36, Try.ntmps36
  go_wp2
  go_loopw [2, 3] (fun _ i wr => ∃ k : Nat, k ≤ 256 ∧ i = .int .i64 k ∧ Part wr w.heap.size k ∧ Below w.heap.size w wr) (fun _ i _ => 256 - (intOf i).toNat)
  case atStart => exact ⟨0, by omega, rfl, Part.zero w, (Below.refl _ _).alloc (Nat.le_refl _) _⟩
  case round =>
    obtain ⟨k, hk, rfl, hP, hB⟩ := hrel
    by_cases hlt : k < 256
    · obtain ⟨x, hx⟩ := hP.cell k hlt
      have hf := hP.free k
      have hs := Lib.hid (hP.set hlt)
      have hBz := hB.size
      go_wp2_with (go_at_call 39; refine (entry_nat k hlt _).mono ?_; rintro e w1 ⟨rfl, rfl⟩)
      go_roundw
      case rel => exact ⟨k + 1, by omega, by go_num, hs.out, hB.setCell (p := ⟨w.heap.size, k, none⟩) (Nat.le_refl _) _⟩
      case measure => simp [intOf]; omega
    · obtain rfl : k = 256 := by omega
      go_wp2
      go_ret
      exact ⟨rfl, hP, hB⟩
end Go.Proofs.Ytpdpdmkfgbmdmaa
