/-
  Layer 3: the calls of the chapter's examples.
-/
import Derived.Test.YtabcggmmdjeobaaDoorS03T
import Derived.Test.YtabcggmmdjeobaaDoorS03N
import Derived.Test.YtabcggmmdjeobaaDoorS03R
namespace Go.Proofs.YtabcggmmdjeobaaDoor.s03
set_option linter.unusedVariables false
set_option linter.unusedSimpArgs false
open Go.RowKit
open kit

theorem lit_reads (w : World) (l : List ByteArray) (cs : Array Value) (t : TypeId) (h : cs = (l.map Value.string).toArray) : ReadsS (w.alloc (.cells cs t)) (some ⟨w.heap.size, 0, none⟩) l := fun i hi => by
  subst h
  refine ⟨w.heap.size, 0, rfl, by simp, ?_⟩
  simp [hi]
theorem twice_n (a : Option Addr) (n cap : Nat) (ss : List ByteArray) (i er : Int) (b : Bool) (w : World) (hl : ss.length = n) (hn : n ≤ 9223372036854775807) (hcap : n ≤ cap) (hr : ReadsS w a ss) (H : Hid (twiceR ss = (i, b, er))) :
    Calls Tryd.prog 20 #[.slice a n cap] w fun e w' => e = .returned (.tuple #[.int .i64 i, .bool b, .int .i64 er]) ∧ Below w.heap.size w w' := by
  subst hl
  exact twice_any a cap ss i er b w hn hcap hr H
theorem same_k (a b : Option Addr) (ca cb n : Nat) (zs : List ByteArray) (w : World) (hl : zs.length = n) (hn : zs.length ≤ 9223372036854775807) (ra : ReadsS w a zs) (rb : ReadsS w b zs) :
    Calls Tryd.prog 19 #[.slice a n ca, .slice b n cb] w fun e w' => e = .returned (.bool true) ∧ Below w.heap.size w w' :=
  (same_n a b ca cb n zs w hl hn ra rb).mono fun e w' h => ⟨h.1, by obtain ⟨k, hk⟩ := h.2; subst hk; exact below_drewN (Below.refl _ _) k⟩
theorem k1 (w : World) : Calls Tryd.prog 11 #[.string ⟨#[97]⟩] w fun e w' => e = .returned (.int .i64 0) ∧ Below w.heap.size w w' := word_is ⟨#[97]⟩ 0 w (by decide) (Lib.hid (by decide +kernel))
theorem k2 (w : World) : Calls Tryd.prog 11 #[.string ⟨#[65, 98, 99, 95, 49]⟩] w fun e w' => e = .returned (.int .i64 0) ∧ Below w.heap.size w w' := word_is ⟨#[65, 98, 99, 95, 49]⟩ 0 w (by decide) (Lib.hid (by decide +kernel))
theorem k3 (w : World) : Calls Tryd.prog 11 #[.string ⟨#[]⟩] w fun e w' => e = .returned (.int .i64 5) ∧ Below w.heap.size w w' := word_is ⟨#[]⟩ 5 w (by decide) (Lib.hid (by decide +kernel))
theorem k4 (w : World) : Calls Tryd.prog 11 #[.string ⟨#[95, 97]⟩] w fun e w' => e = .returned (.int .i64 3) ∧ Below w.heap.size w w' := word_is ⟨#[95, 97]⟩ 3 w (by decide) (Lib.hid (by decide +kernel))
theorem k5 (w : World) : Calls Tryd.prog 11 #[.string ⟨#[97, 45, 98]⟩] w fun e w' => e = .returned (.int .i64 3) ∧ Below w.heap.size w w' := word_is ⟨#[97, 45, 98]⟩ 3 w (by decide) (Lib.hid (by decide +kernel))
theorem k6 (w : World) : Calls Tryd.prog 11 #[.string ⟨#[97, 98, 99, 100, 101, 102, 103, 104, 105, 106, 107, 108, 109]⟩] w fun e w' => e = .returned (.int .i64 4) ∧ Below w.heap.size w w' := word_is ⟨#[97, 98, 99, 100, 101, 102, 103, 104, 105, 106, 107, 108, 109]⟩ 4 w (by decide) (Lib.hid (by decide +kernel))
theorem k7 (w : World) : Calls Tryd.prog 12 #[.string ⟨#[116, 111, 107, 101, 110]⟩] w fun e w' => e = .returned (.int .i64 12) ∧ Below w.heap.size w w' := check_is ⟨#[116, 111, 107, 101, 110]⟩ 12 w (by decide) (Lib.hid (by decide +kernel))
theorem k8 (w : World) : Calls Tryd.prog 12 #[.string ⟨#[116, 111, 107, 101, 110, 115]⟩] w fun e w' => e = .returned (.int .i64 0) ∧ Below w.heap.size w w' := check_is ⟨#[116, 111, 107, 101, 110, 115]⟩ 0 w (by decide) (Lib.hid (by decide +kernel))
theorem k9 (w : World) : Calls Tryd.prog 12 #[.string ⟨#[83, 116, 97, 114, 116]⟩] w fun e w' => e = .returned (.int .i64 0) ∧ Below w.heap.size w w' := check_is ⟨#[83, 116, 97, 114, 116]⟩ 0 w (by decide) (Lib.hid (by decide +kernel))
theorem k10 (w : World) : Calls Tryd.prog 13 #[.string ⟨#[115, 116, 97, 114, 116]⟩] w fun e w' => e = .returned (.bool true) ∧ Below w.heap.size w w' := by
  have h := lang_any ⟨#[115, 116, 97, 114, 116]⟩ w
  have e : langB (⟨#[115, 116, 97, 114, 116]⟩ : ByteArray).toList = true := by rw [ByteArray.toList_eq]; decide +kernel
  rw [e] at h
  exact h
theorem k11 (w : World) : Calls Tryd.prog 13 #[.string ⟨#[83, 116, 97, 114, 116]⟩] w fun e w' => e = .returned (.bool false) ∧ Below w.heap.size w w' := by
  have h := lang_any ⟨#[83, 116, 97, 114, 116]⟩ w
  have e : langB (⟨#[83, 116, 97, 114, 116]⟩ : ByteArray).toList = false := by rw [ByteArray.toList_eq]; decide +kernel
  rw [e] at h
  exact h
theorem k12 (w : World) : Calls Tryd.prog 14 #[.string ⟨#[116, 111, 107, 101, 110]⟩] w fun e w' => e = .returned (.bool false) ∧ Below w.heap.size w w' := small_is ⟨#[116, 111, 107, 101, 110]⟩ false w (by decide) (Lib.hid (by decide +kernel))
theorem k13 (w : World) : Calls Tryd.prog 15 #[.string ⟨#[65]⟩] w fun e w' => e = .returned (.bool true) ∧ Below w.heap.size w w' := capital_is ⟨#[65]⟩ true w (by decide) (Lib.hid (by decide +kernel))
theorem k14 (w : World) : Calls Tryd.prog 15 #[.string ⟨#[49]⟩] w fun e w' => e = .returned (.bool false) ∧ Below w.heap.size w w' := capital_is ⟨#[49]⟩ false w (by decide) (Lib.hid (by decide +kernel))
theorem k15 (w : World) : Calls Tryd.prog 16 #[.string ⟨#[97]⟩, .string ⟨#[98]⟩] w fun e w' => e = .returned (.int .i64 (-1)) ∧ Below w.heap.size w w' := cmp_is ⟨#[97]⟩ ⟨#[98]⟩ (-1) w (by decide) (by decide) (Lib.hid (by decide +kernel))
theorem k16 (w : World) : Calls Tryd.prog 16 #[.string ⟨#[97, 98]⟩, .string ⟨#[97]⟩] w fun e w' => e = .returned (.int .i64 (1)) ∧ Below w.heap.size w w' := cmp_is ⟨#[97, 98]⟩ ⟨#[97]⟩ (1) w (by decide) (by decide) (Lib.hid (by decide +kernel))
theorem k17 (w : World) : Calls Tryd.prog 16 #[.string ⟨#[65]⟩, .string ⟨#[97]⟩] w fun e w' => e = .returned (.int .i64 (-1)) ∧ Below w.heap.size w w' := cmp_is ⟨#[65]⟩ ⟨#[97]⟩ (-1) w (by decide) (by decide) (Lib.hid (by decide +kernel))
theorem k18 (w : World) : Calls Tryd.prog 16 #[.string ⟨#[97]⟩, .string ⟨#[97]⟩] w fun e w' => e = .returned (.int .i64 (0)) ∧ Below w.heap.size w w' := cmp_is ⟨#[97]⟩ ⟨#[97]⟩ (0) w (by decide) (by decide) (Lib.hid (by decide +kernel))
def ls : List ByteArray := [⟨#[97]⟩, ⟨#[97]⟩, ⟨#[97, 98]⟩, ⟨#[98]⟩]
theorem sorted_ls : SortR [⟨#[98]⟩, ⟨#[97]⟩, ⟨#[97, 98]⟩, ⟨#[97]⟩] ls 0 := .inr ⟨by decide, ⟨by decide +kernel, by
  unfold ls
  simp only [List.pairwise_cons, List.mem_cons, List.not_mem_nil, or_false, List.Pairwise.nil, and_true, false_implies, implies_true]
  refine ⟨?_, ?_, ?_⟩
  · rintro x (rfl | rfl | rfl) <;> (unfold le; decide +kernel)
  · rintro x (rfl | rfl) <;> (unfold le; decide +kernel)
  · rintro x rfl; unfold le; decide +kernel⟩, rfl⟩
theorem sorted_k (a : Option Addr) (c : Nat) (w : World) (hr : ReadsS w a [⟨#[98]⟩, ⟨#[97]⟩, ⟨#[97, 98]⟩, ⟨#[97]⟩]) : Calls Tryd.prog 17 #[.slice a 4 c] w fun e w' => ∃ aa ca, e = .returned (.tuple #[.slice aa 4 ca, .int .i64 0]) ∧ ReadsS w' aa ls ∧ Below w.heap.size w w' :=
  (sorted_n a c 4 [⟨#[98]⟩, ⟨#[97]⟩, ⟨#[97, 98]⟩, ⟨#[97]⟩] ls 0 w rfl (by decide) hr (Lib.hid sorted_ls)).mono fun e w' ⟨aa, ca, he, ra, _, hB⟩ => ⟨aa, ca, he, ra, hB⟩
theorem find_ba : findR [⟨#[98]⟩, ⟨#[97]⟩] ⟨#[97]⟩ = (1, 0) := by decide +kernel
theorem find_bac : findR [⟨#[98]⟩, ⟨#[97]⟩] ⟨#[99]⟩ = (0, 7) := by decide +kernel
theorem twice_abab : twiceR [⟨#[97]⟩, ⟨#[98]⟩, ⟨#[97]⟩, ⟨#[98]⟩] = (2, true, 0) := by decide +kernel
theorem twice_ab : twiceR [⟨#[97]⟩, ⟨#[98]⟩] = (0, false, 0) := by decide +kernel
theorem make_0 : makeR 0 false = (⟨#[116, 48]⟩, 0) := by decide +kernel
theorem make_big : makeR 10000 false = (⟨#[]⟩, 2) := by decide +kernel
theorem make_neg : makeR (-1) true = (⟨#[]⟩, 2) := by decide +kernel
theorem fresh_1 : FreshR [⟨#[116, 48]⟩, ⟨#[116, 49]⟩] false ⟨#[116, 50]⟩ 0 := .inr ⟨by decide, rfl, 2, by decide, by decide +kernel, fun h => absurd (mem_idx_lt h) (by decide +kernel), fun j hj => by rcases (by omega : j = 0 ∨ j = 1) with rfl | rfl <;> exact idx_lt_mem (by decide +kernel)⟩
theorem fresh_2 : FreshR [⟨#[116, 49]⟩] false ⟨#[116, 48]⟩ 0 := .inr ⟨by decide, rfl, 0, by decide, by decide +kernel, fun h => absurd (mem_idx_lt h) (by decide +kernel), fun j hj => absurd hj (by omega)⟩
theorem fresh_3 : FreshR [⟨#[116, 48]⟩] true ⟨#[78, 48]⟩ 0 := .inr ⟨by decide, rfl, 0, by decide, by decide +kernel, fun h => absurd (mem_idx_lt h) (by decide +kernel), fun j hj => absurd hj (by omega)⟩
end Go.Proofs.YtabcggmmdjeobaaDoor.s03
