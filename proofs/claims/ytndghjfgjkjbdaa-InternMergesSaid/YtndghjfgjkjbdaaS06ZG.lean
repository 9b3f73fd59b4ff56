/-
  Layer 6: InternKnown's contract.
-/
import Derived.Test.YtndghjfgjkjbdaaS06ZF
import Derived.Test.YtndghjfgjkjbdaaKitInts
namespace Go.Proofs.Ytndghjfgjkjbdaa.s06
set_option linter.unusedVariables false
set_option linter.unusedSimpArgs false
open Go.RowKit Go.WideMaps Go.Maps
open kit

theorem reads_blockI {w : World} {g : Nat} {xs : Array Value} {t : TypeId} (h : Box w t g xs) (l : List Int) (hx : xs.toList = l.map (Value.int .i64)) : ReadsI w (some ⟨g, 0, none⟩) l := by
  intro i hi
  refine ⟨g, 0, rfl, h.lt, ?_⟩
  rw [h.cell, show 0 + i = i by omega, ← Array.getElem?_toList, hx, List.getElem?_map, List.getElem?_eq_getElem hi]
  rfl
def exM : List ByteArray := [⟨#[99, 49]⟩, ⟨#[120]⟩, ⟨#[97]⟩]
def exG : List ByteArray := [⟨#[97]⟩, ⟨#[66]⟩, ⟨#[99, 49]⟩, ⟨#[120]⟩]
def exK : List ByteArray := [⟨#[99, 49]⟩, ⟨#[97]⟩]
def exA : List ByteArray := [⟨#[97]⟩, ⟨#[97]⟩]
def exZ : List ByteArray := List.replicate 33 ⟨#[]⟩
theorem small_of {l : List ByteArray} (h : (l.all fun x => decide (x.size ≤ 100)) = true) : ∀ x ∈ l, x.size ≤ 9223372036854775807 := by
  intro x hx
  have := List.all_eq_true.1 h x hx
  simp at this
  omega
theorem kA : putT shownL ⟨#[97]⟩ false = (shownL, 0, 0) := by kernel_rfl
theorem kA2 : putT shownL ⟨#[97]⟩ true = ([], 0, 8) := by kernel_rfl
theorem kN2 : nameT shownL 2 = (⟨#[99, 49]⟩, 0) := by kernel_rfl
theorem kN3 : nameT shownL 3 = (⟨#[]⟩, 2) := by kernel_rfl
theorem kN1 : nameT shownL (-1) = (⟨#[]⟩, 2) := by kernel_rfl
theorem kM : mergeT shownL exM = (exG, [2, 3, 0], 0) := by kernel_rfl
theorem kK : keepT shownL [2, 0] = (exK, 0) := by kernel_rfl
theorem kK0 : keepT shownL [0, 0] = ([], 8) := by kernel_rfl
theorem kK3 : keepT shownL [3] = ([], 2) := by kernel_rfl
theorem kO : chkT exA = (8, 1) := by kernel_rfl
theorem kC : chkT exZ = (6, 0) := by kernel_rfl
theorem kF : findT shownL ⟨#[]⟩ = (0, 5) := by kernel_rfl
theorem kE : s03.checkR (⟨#[]⟩ : ByteArray).data.toList = 5 := by kernel_rfl
theorem row_readsI {L : List Int} {B : Nat} {V : Value} {W : World} (h : RowN L B V W) : ∃ a k, V = .slice a L.length k ∧ ReadsI W a L := by
  obtain ⟨a, k, rfl⟩ := row_shape h
  exact ⟨a, k, rfl, reads_of_row rfl h⟩
theorem intern_a (a : Option Addr) (cap : Nat) (w : World) (hr : Hid (ReadsS w a shownL)) :
    Calls Try.prog 17 #[.agg #[.slice a 3 cap], .string ⟨#[97]⟩] w (TabN shownL 3 0 0 w) :=
  (pintern_shown a cap ⟨#[97]⟩ shownL 0 0 w (by decide) hr (Lib.hid kA)).mono fun e w' h => tabN_of rfl h
theorem add_a (a : Option Addr) (cap : Nat) (w : World) (hr : Hid (ReadsS w a shownL)) :
    Calls Try.prog 19 #[.agg #[.slice a 3 cap], .string ⟨#[97]⟩] w (TabN [] 0 0 8 w) :=
  (padd_shown a cap ⟨#[97]⟩ [] 0 8 w (by decide) hr (Lib.hid kA2)).mono fun e w' h => tabN_of rfl h
theorem merge_k (a a2 : Option Addr) (cap cap2 : Nat) (w : World) (hr : Hid (ReadsS w a shownL)) (hr2 : Hid (ReadsS w a2 exM)) :
    Calls Try.prog 26 #[.agg #[.slice a 3 cap], .agg #[.slice a2 3 cap2]] w fun e w' => ∃ a4 k4 a5 k5, e = .returned (.tuple #[.agg #[.slice a4 4 k4], .slice a5 3 k5, .int .i64 0]) ∧ ReadsS w' a4 exG ∧ ReadsI w' a5 [2, 3, 0] ∧ Below w.heap.size w w' :=
  (pmerge_any a a2 cap cap2 shownL exM exG [2, 3, 0] 0 w (by decide) (Lib.hid shown_small) hr (by decide) (Lib.hid (small_of (by kernel_rfl))) hr2 (Lib.hid kM)).mono fun e w' h => by
    obtain ⟨V1, V, B, B2, rfl, _, _, hT, hV, hB⟩ := h
    obtain ⟨a4, k4, rfl⟩ := tab_shape hT
    obtain ⟨a5, k5, rfl, hR⟩ := row_readsI hV
    exact ⟨a4, k4, a5, k5, rfl, hT.reads, hR, hB⟩
theorem keep_k (a a2 : Option Addr) (cap cap2 : Nat) (w : World) (hr : Hid (ReadsS w a shownL)) (hr2 : Hid (ReadsI w a2 [2, 0])) :
    Calls Try.prog 29 #[.agg #[.slice a 3 cap], .slice a2 2 cap2] w fun e w' => ∃ a4 k4, e = .returned (.tuple #[.agg #[.slice a4 2 k4], .int .i64 0]) ∧ ReadsS w' a4 exK ∧ Below w.heap.size w w' :=
  (pkeep_any a a2 cap cap2 shownL [2, 0] exK 0 w (by decide) (Lib.hid shown_small) hr (by decide) hr2 (Lib.hid kK)).mono fun e w' h => by
    obtain ⟨V, B, rfl, _, hT, hB⟩ := h
    obtain ⟨a4, k4, rfl⟩ := tab_shape hT
    exact ⟨a4, k4, rfl, hT.reads, hB⟩
theorem of_k (a : Option Addr) (cap : Nat) (w : World) (hr : Hid (ReadsS w a exA)) :
    Calls Try.prog 14 #[.slice a 2 cap] w fun e w' => ∃ a4 k4, e = .returned (.tuple #[.agg #[.slice a4 0 k4], .int .i64 8]) ∧ Below w.heap.size w w' :=
  (ofp_any a cap exA 8 1 w (by decide) (Lib.hid (small_of (by kernel_rfl))) hr (Lib.hid kO)).mono fun e w' h => by
    obtain ⟨V, B, rfl, _, hT, hB⟩ := h
    rw [if_neg (show ¬ (8 : Int) = 0 by decide)] at hT
    obtain ⟨a4, k4, rfl⟩ := tab_shape hT
    exact ⟨a4, k4, rfl, hB⟩
theorem check_k (a : Option Addr) (cap : Nat) (w : World) (hr : Hid (ReadsS w a exZ)) :
    Calls Try.prog 12 #[.agg #[.slice a 33 cap]] w fun e w' => e = .returned (.tuple #[.int .i64 6, .int .i64 0]) ∧ Below w.heap.size w w' :=
  checkp_any a cap exZ 6 0 w (by decide) (Lib.hid (small_of (by kernel_rfl))) hr (Lib.hid kC)
theorem same_tn (L : List ByteArray) (n : Nat) (hn : L.length = n) (h9 : n ≤ 100) (a b : Option Addr) (ca cb : Nat) (w : World) (ra : ReadsS w a L) (rb : ReadsS w b L) :
    Calls Try.prog 36 #[.slice a n ca, .slice b n cb] w fun e w' => e = .returned (.bool true) ∧ Below w.heap.size w w' := by
  subst hn
  exact (same_texts a b ca cb L w (by omega) ra rb).mono fun e w' h => ⟨h.1, by obtain ⟨k, hk⟩ := h.2; subst hk; exact below_drewN (Below.refl _ _) k⟩
theorem same_in (L : List Int) (n : Nat) (hn : L.length = n) (h9 : n ≤ 100) (a b : Option Addr) (ca cb : Nat) (w : World) (ra : ReadsI w a L) (rb : ReadsI w b L) :
    Calls Try.prog 28 #[.slice a n ca, .slice b n cb] w fun e w' => e = .returned (.bool true) ∧ Below w.heap.size w w' := by
  subst hn
  exact (same_ints a b ca cb L w (by omega) ra rb).mono fun e w' h => ⟨h.1, by obtain ⟨k, hk⟩ := h.2; subst hk; exact below_drewN (Below.refl _ _) k⟩
theorem equal3 (a b : Option Addr) (ca cb : Nat) (w : World) (ra : Hid (ReadsS w a shownL)) (rb : Hid (ReadsS w b shownL)) :
    Calls Try.prog 16 #[.agg #[.slice a 3 ca], .agg #[.slice b 3 cb]] w fun e w' => e = .returned (.bool true) ∧ Below w.heap.size w w' :=
  lequal_any a b ca cb shownL w (by decide) ra rb
set_option maxRecDepth 100000 in
set_option maxHeartbeats 1000000 in
theorem keeps_any (a : Option Addr) (cap : Nat) (ks : List Int) (lk : List ByteArray) (er : Int) (w : World) (hm : ks.length ≤ 100) (hr : Hid (ReadsI w a ks)) (H : Hid (keepT shownL ks = (lk, er))) : Calls Try.prog 37 #[.slice a ks.length cap] w fun e w' => e = .returned (.int .i64 er) ∧ Below w.heap.size w w' := by
  go_enter Try.func37, Try.ntmps37
  go_wp2_with (first
    | (go_at_call 33; refine (shown_any _).mono ?_; rintro e w2 ⟨a1, k1, rfl, hR, hB⟩; have R2 := Lib.hid hR; have I2 := Lib.hid (hr.out.below hB); have B2 := Lib.hid hB; clear hR hB)
    | (go_at_call 29; refine (pkeep_any a1 a k1 cap shownL ks lk er _ (by decide) (Lib.hid shown_small) R2 (by omega) I2 H).mono ?_; rintro e w3 ⟨V, Bo, rfl, _, hT, hB⟩; obtain ⟨a4, k4, rfl⟩ := tab_shape hT; have B3 := Lib.hid (below_then B2.out hB); clear hT hB))
  go_ret
  exact ⟨rfl, B3.out.alloc B3.out.size _⟩
theorem keeps2 (a : Option Addr) (cap : Nat) (w : World) (hr : Hid (ReadsI w a [0, 0])) : Calls Try.prog 37 #[.slice a 2 cap] w fun e w' => e = .returned (.int .i64 8) ∧ Below w.heap.size w w' :=
  keeps_any a cap [0, 0] [] 8 w (by decide) hr (Lib.hid kK0)
theorem keeps1 (a : Option Addr) (cap : Nat) (w : World) (hr : Hid (ReadsI w a [3])) : Calls Try.prog 37 #[.slice a 1 cap] w fun e w' => e = .returned (.int .i64 2) ∧ Below w.heap.size w w' :=
  keeps_any a cap [3] [] 2 w (by decide) hr (Lib.hid kK3)
theorem sameG (a b : Option Addr) (ca cb : Nat) (w : World) (ra : Hid (ReadsS w a exG)) (rb : Hid (ReadsS w b exG)) : Calls Try.prog 36 #[.slice a 4 ca, .slice b 4 cb] w fun e w' => e = .returned (.bool true) ∧ Below w.heap.size w w' := same_tn exG 4 rfl (by decide) a b ca cb w ra.out rb.out
theorem sameK (a b : Option Addr) (ca cb : Nat) (w : World) (ra : Hid (ReadsS w a exK)) (rb : Hid (ReadsS w b exK)) : Calls Try.prog 36 #[.slice a 2 ca, .slice b 2 cb] w fun e w' => e = .returned (.bool true) ∧ Below w.heap.size w w' := same_tn exK 2 rfl (by decide) a b ca cb w ra.out rb.out
theorem sameI (a b : Option Addr) (ca cb : Nat) (w : World) (ra : Hid (ReadsI w a [2, 3, 0])) (rb : Hid (ReadsI w b [2, 3, 0])) : Calls Try.prog 28 #[.slice a 3 ca, .slice b 3 cb] w fun e w' => e = .returned (.bool true) ∧ Below w.heap.size w w' := same_in [2, 3, 0] 3 rfl (by decide) a b ca cb w ra.out rb.out
end Go.Proofs.Ytndghjfgjkjbdaa.s06
