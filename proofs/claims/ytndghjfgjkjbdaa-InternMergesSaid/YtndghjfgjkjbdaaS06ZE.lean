/-
  Layer 6: the laws' awake.
-/
import Derived.Test.YtndghjfgjkjbdaaS06ZD
namespace Go.Proofs.Ytndghjfgjkjbdaa.s06
set_option linter.unusedVariables false
set_option linter.unusedSimpArgs false
open Go.RowKit Go.WideMaps Go.Maps
open kit

/-- a table of n names, in new memory -/
def TabN (L : List ByteArray) (n : Nat) (i er : Int) (w : World) (e : Ending) (w' : World) : Prop :=
  ∃ a k, e = .returned (.tuple #[.agg #[.slice a n k], .int .i64 i, .int .i64 er]) ∧ ReadsS w' a L ∧ Below w.heap.size w w'
theorem tabN_of {L : List ByteArray} {n : Nat} (hn : L.length = n) {i er : Int} {w w' : World} {e : Ending} (h : PutOf L i er w e w') : TabN L n i er w e w' := by
  obtain ⟨V, B, rfl, hb, hT, hB⟩ := h
  obtain ⟨a, k, rfl⟩ := tab_shape hT
  subst hn
  obtain ⟨v, e, hr⟩ := hT
  simp only [Value.agg.injEq] at e
  have e2 : v = .slice a L.length k := by
    have := congrArg (fun x => x[0]?) e
    simpa using this.symm
  subst e2
  exact ⟨a, k, rfl, reads_of_row rfl hr, hB⟩
theorem intern_d (a : Option Addr) (cap : Nat) (w : World) (hr : Hid (ReadsS w a shownL)) :
    Calls Try.prog 17 #[.agg #[.slice a 3 cap], .string ⟨#[100]⟩] w (TabN shownL4 4 3 0 w) :=
  (pintern_shown a cap ⟨#[100]⟩ shownL4 3 0 w (by decide) hr (Lib.hid iD)).mono fun e w' h => tabN_of rfl h
theorem same4 (a b : Option Addr) (ca cb : Nat) (w : World) (ra : ReadsS w a shownL4) (rb : ReadsS w b shownL4) :
    Calls Try.prog 36 #[.slice a 4 ca, .slice b 4 cb] w fun e w' => e = .returned (.bool true) ∧ Below w.heap.size w w' :=
  (same_texts a b ca cb shownL4 w (by decide) ra rb).mono fun e w' h => ⟨h.1, by obtain ⟨k, hk⟩ := h.2; subst hk; exact below_drewN (Below.refl _ _) k⟩
set_option maxRecDepth 100000 in
set_option maxHeartbeats 2000000 in
theorem awake_any (w : World) : Calls Try.prog 10 #[] w fun e w' => e = .returned (.bool true) ∧ Below w.heap.size w w' := by
  have B0 := Lib.hid (Below.refl w.heap.size w)
  go_enter Try.func10, Try.ntmps10
  go_wp2_with (first
    | (go_at_call 33; refine (shown_any _).mono ?_; rintro e w1 ⟨a1, k1, rfl, hR, hB⟩; have R1 := Lib.hid hR; have B1 := Lib.hid (below_then B0.out hB); clear hR hB B0)
    | (go_at_call 21; refine (pfind_shown a1 k1 ⟨#[66]⟩ 1 0 _ (by decide) R1 (Lib.hid fB)).mono ?_; rintro e w2 ⟨rfl, hB⟩; have B2 := Lib.hid (below_then B1.out hB); clear hB B1 R1)
    | (go_at_call 33; refine (shown_any _).mono ?_; rintro e w3 ⟨a3, k3, rfl, hR, hB⟩; have R3 := Lib.hid hR; have B3 := Lib.hid (below_then B2.out hB); clear hR hB B2)
    | (go_at_call 17; refine (intern_d a3 k3 _ R3).mono ?_; rintro e w4 ⟨a4, k4, rfl, hR, hB⟩; have KK := (Below.refl w4.heap.size w4).alloc (Nat.le_refl _) (.cells #[.slice a4 4 k4] 24); have R4 := Lib.hid (hR.below KK); have X4 := Lib.hid (Box.new w4 24 #[.slice a4 4 k4]); have B4 := Lib.hid (below_then (below_then B3.out hB) KK); clear hR hB KK B3 R3)
    | (go_at_call 34; refine (finds_any ⟨#[100]⟩ 0 7 _ (by decide) (Lib.hid fD)).mono ?_; rintro e w5 ⟨rfl, hB⟩; have KK := (Below.refl w5.heap.size w5).alloc (Nat.le_refl _) (.cells #[.string ⟨#[97]⟩, .string ⟨#[66]⟩, .string ⟨#[99, 49]⟩, .string ⟨#[100]⟩] 9); have R5 := Lib.hid ((R4.out.below hB).below KK); have X5 := Lib.hid (X4.out.below hB); have L5 := Lib.hid (reads_block (Box.new w5 9 #[.string ⟨#[97]⟩, .string ⟨#[66]⟩, .string ⟨#[99, 49]⟩, .string ⟨#[100]⟩]) shownL4 rfl); have B5 := Lib.hid (below_then (below_then B4.out hB) KK); clear hB KK B4 R4 X4; have c0 := X5.out.cell 0; have lc := X5.out.lt)
    | (go_at_call 36; refine (same4 a4 _ k4 _ _ R5.out L5.out).mono ?_; rintro e w6 ⟨rfl, hB⟩; have B6 := Lib.hid (below_then B5.out hB); clear hB))
  go_ret
  exact ⟨rfl, B6.out⟩
end Go.Proofs.Ytndghjfgjkjbdaa.s06
