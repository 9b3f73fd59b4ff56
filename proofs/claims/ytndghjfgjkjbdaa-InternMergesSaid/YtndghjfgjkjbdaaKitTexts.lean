/-
  stenotypekit over lists of strings: OwnTexts, SameTexts, Short.
-/
import Derived.Test.YtndghjfgjkjbdaaKit
namespace Go.Proofs.Ytndghjfgjkjbdaa.kit
set_option linter.unusedVariables false
set_option linter.unusedSimpArgs false
open Go.RowKit

theorem info9 : (Try.prog.info? 9).map (fun i => (i.zero, i.size, i.bytes)) = some (some (.string ⟨#[]⟩), 1, 16) := by kernel_rfl

theorem own_texts (a : Option Addr) (c : Nat) (ss : List ByteArray) (w : World) (hn : ss.length ≤ 100000) (hs : Src w a c (ss.map Value.string)) :
    Calls Try.prog 41 #[.slice a ss.length c] w (OwnOf Value.string ByteArray.empty w ss) := by
  go_enter Try.func41, Try.ntmps41
  go_wp2_with (at_builtin; refine append_in Try.underlying22 info9 rfl (by omega) rfl (.tmp 3) (.tmp 4) rfl w.heap.size _ 0 [] rfl (empty_row 9 w _ (Nat.le_refl _)) a (ss.map Value.string) ss.length c rfl (by simp) (hs.alloc _) (by simp [Value.oneCell']) (by omega) (by simp) ?_; intro v1 wA hv1 hBA; simp only [Nat.zero_add, List.nil_append] at hv1; obtain ⟨a1, k1, rfl⟩ := row_shape hv1)
  go_ret
  exact ⟨a1, k1, rfl, reads_of_row rfl hv1, ((Below.refl _ w).alloc (Nat.le_refl _) _).trans hBA⟩

set_option maxRecDepth 100000 in
theorem same_texts (a b : Option Addr) (ca cb : Nat) (zs : List ByteArray) (w : World) (hn : zs.length ≤ 9223372036854775807) (ra : ReadsS w a zs) (rb : ReadsS w b zs) :
    Calls Try.prog 36 #[.slice a zs.length ca, .slice b zs.length cb] w fun e w' => e = .returned (.bool true) ∧ ∃ n, w' = w.drewN n := by
  go_enter Try.func36, Try.ntmps36
  go_wp2
  go_loopw [5] (fun i wr => ∃ k n : Nat, k ≤ zs.length ∧ i = .int .i64 k ∧ wr = w.drewN n) (fun i _ => zs.length - (intOf i).toNat)
  case atStart => exact ⟨0, 0, by omega, rfl, rfl⟩
  case round =>
    obtain ⟨k, n, hk, rfl, rfl⟩ := hrel
    by_cases hlt : k < zs.length
    · obtain ⟨c1, o1, rfl, _, h1⟩ := ra k hlt
      obtain ⟨c2, o2, rfl, _, h2⟩ := rb k hlt
      generalize zs[k]?.getD ByteArray.empty = y at h1 h2
      go_wp2
      go_quiet (fail)
      go_wp2
      go_roundw
      case rel => exact ⟨k + 1, _, by omega, by go_num, rfl⟩
      case measure => simp [intOf]; omega
    · go_wp2
      go_ret
      exact ⟨rfl, _, rfl⟩

/-- Short's answer -/
def shortB (ss : List ByteArray) (m : Nat) : Bool := ss.all fun s => decide (s.size ≤ m)
theorem short_yes {ss : List ByteArray} {m : Nat} (h : ∀ i, i < ss.length → (ss[i]?.getD ByteArray.empty).size ≤ m) : shortB ss m = true := by
  unfold shortB
  rw [List.all_eq_true]
  intro s hs
  obtain ⟨i, hi, rfl⟩ := List.getElem_of_mem hs
  have := h i hi
  rw [List.getElem?_eq_getElem hi] at this
  simpa using this
theorem short_no {ss : List ByteArray} {m i : Nat} (hi : i < ss.length) (h : m < (ss[i]?.getD ByteArray.empty).size) : shortB ss m = false := by
  unfold shortB
  rw [List.all_eq_false]
  refine ⟨ss[i], List.getElem_mem hi, ?_⟩
  rw [List.getElem?_eq_getElem hi] at h
  simp at h
  simp
  omega
theorem short_mem {ss : List ByteArray} {m : Nat} (h : shortB ss m = true) : ∀ s ∈ ss, s.size ≤ m := by
  intro s hs
  have := List.all_eq_true.1 h s hs
  simpa using this
set_option maxRecDepth 100000 in
theorem short_any (a : Option Addr) (cap m : Nat) (ss : List ByteArray) (w : World) (hn : ss.length ≤ 9223372036854775807) (hm : m ≤ 1000000) (hz : ∀ s ∈ ss, s.size ≤ 9223372036854775807) (hr : ReadsS w a ss) :
    Calls Try.prog 40 #[.slice a ss.length cap, .int .i64 m] w fun e w' => e = .returned (.bool (shortB ss m)) ∧ w = w' := by
  have HZ := Lib.hid hz
  clear hz
  go_enter Try.func40, Try.ntmps40
  go_wp2
  go_loop [5] (fun i => ∃ k : Nat, k ≤ ss.length ∧ i = .int .i64 k ∧ ∀ j, j < k → (ss[j]?.getD ByteArray.empty).size ≤ m) (fun i => ss.length - (intOf i).toNat)
  case atStart => exact ⟨0, by omega, rfl, fun j hj => by omega⟩
  case round =>
    obtain ⟨k, hk, rfl, hall⟩ := hrel
    have HA := Lib.hid hall
    clear hall
    by_cases hlt : k < ss.length
    · obtain ⟨b, off, rfl, hb, hc⟩ := hr k hlt
      have hx := HZ.out _ (mem_getS ss k hlt)
      obtain ⟨s, hs⟩ : ∃ s, s = ss[k]?.getD ByteArray.empty := ⟨_, rfl⟩
      rw [← hs] at hc hx
      have HS := Lib.hid hs
      clear hs
      by_cases hbig : m < s.size
      · go_wp2
        go_ret
        exact ⟨ret_bool (short_no hlt (by rw [← HS.out]; exact hbig)).symm, rfl⟩
      · go_wp2
        go_round
        case rel => exact ⟨k + 1, by omega, by go_num, fun j hj => by
          by_cases e : j = k
          · subst e; rw [← HS.out]; omega
          · exact HA.out j (by omega)⟩
        case measure => simp [intOf]; omega
    · have : k = ss.length := by omega
      go_wp2
      go_ret
      exact ⟨ret_bool (short_yes fun j hj => HA.out j (by omega)).symm, rfl⟩
end Go.Proofs.Ytndghjfgjkjbdaa.kit
