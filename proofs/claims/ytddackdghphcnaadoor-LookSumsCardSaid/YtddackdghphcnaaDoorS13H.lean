/-
  Layer 13: the program's List (slices.Clone).
-/
import Derived.Test.YtddackdghphcnaaDoorS13G
import Derived.Test.YtddackdghphcnaaDoorKitInts
namespace Go.Proofs.YtddackdghphcnaaDoor.s13
set_option linter.unusedVariables false
set_option linter.unusedSimpArgs false
open Go.RowKit
open kit

set_option maxRecDepth 100000 in
set_option maxHeartbeats 1000000 in
theorem clone_any (x : Addr) (n cp : Nat) (zs : List Int) (w : World) (hn : zs.length = n) (hn4 : n ≤ 1000) (hr : ReadsI w (some x) zs) (hx : x.spot = none) : Calls Tryd.prog 47 #[.slice (some x) n cp] w fun e w' => ∃ a' c', e = .returned (.slice a' n c') ∧ ReadsI w' a' zs ∧ Below w.heap.size w w' := by
  have hs : Src w (some x) cp (zs.map (Value.int .i64)) := by
    refine .inr ⟨x, rfl, fun j u hu => ?_⟩
    rw [List.getElem?_map] at hu
    have hj : j < zs.length := by
      rcases Nat.lt_or_ge j zs.length with h | h
      · exact h
      · rw [List.getElem?_eq_none h] at hu; cases hu
    obtain ⟨b, off, e, _, hc⟩ := hr j hj
    cases e
    rw [Go.WideShapes.add_plain, hc]
    rw [List.getElem?_eq_getElem hj] at hu ⊢
    simpa using hu
  have HS := Lib.hid (hs.alloc (.cells #[] 3))
  have HN := Lib.hid hn
  have hq : ∀ W, (binOp .eql 22 (.slice (some x) n cp) (.slice none 0 0)).run Tryd.prog W = .ok (.bool false) W := fun W => Lib.run_eql_slice_nil W _ _ _ _ _ _ _ Tryd.underlying22
  clear hn hs hr
  go_enter Tryd.func47, Tryd.ntmps47
  go_wp2_with (at_builtin; refine append_in Tryd.underlying22 info3 rfl (by omega) rfl (.tmp 5) (.tmp 6) rfl w.heap.size _ 0 [] rfl (empty_row 3 w _ (Nat.le_refl _)) (some x) (zs.map (Value.int .i64)) n cp rfl (by simp [HN.out]) HS.out (by simp [Value.oneCell']) (by omega) (by simp) ?_; intro v1 wA hv1 hBA; simp only [Nat.zero_add, List.nil_append] at hv1; obtain ⟨a1, k1, rfl⟩ := row_shape hv1)
  go_ret
  exact ⟨a1, k1, rfl, reads_of_row HN.out hv1, ((Below.refl _ w).alloc (Nat.le_refl _) _).trans hBA⟩
set_option maxRecDepth 100000 in
set_option maxHeartbeats 2000000 in
theorem plist_bad (n a b c d r : Int) (w : World) (HR : Hid (chkP n a b c d 8 = r)) (hr : (r != 0) = true) : Calls Tryd.prog 14 #[.agg #[.int .i64 n, .int .i64 a, .int .i64 b, .int .i64 c, .int .i64 d]] w fun e w' => e = .returned (.tuple #[.slice none 0 0, .int .i64 r]) ∧ Below w.heap.size w w' := by
  go_enter Tryd.func14, Tryd.ntmps14
  go_wp2_with (go_at_call 46; refine (checkall_one n a b c d r _ _ (new2 _ _ _ _) HR).mono ?_; rintro e w1 ⟨rfl, hB⟩; obtain ⟨X1, _, hB1⟩ := made2 hB; have B1 := Lib.hid hB1; clear hB hB1 X1)
  go_ret2
  exact ⟨rfl, B1.out⟩
theorem reads_places {w : World} {g : Nat} {x : Value} {a b c d : Int} {l : List Int} {n : Int} (X : Box w 25 g #[x, .int .i64 a, .int .i64 b, .int .i64 c, .int .i64 d]) (hl : l.length ≤ 4) (hp : pad5 l = (n, a, b, c, d)) : ReadsI w (some ⟨g, 1, none⟩) l := fun i hi =>
  ⟨g, 1, rfl, X.lt, by rw [X.place i (by omega), pad5_pl hl hp]⟩
set_option maxRecDepth 100000 in
set_option maxHeartbeats 2000000 in
theorem plist_ok (l : List Int) (N : Nat) (a b c d : Int) (w : World) (HR : Hid (chkP N a b c d 8 = 0)) (hN : N ≤ 4) (HL : Hid (l.length = N)) (HP : Hid (pad5 l = ((N : Int), a, b, c, d))) :
    Calls Tryd.prog 14 #[.agg #[.int .i64 N, .int .i64 a, .int .i64 b, .int .i64 c, .int .i64 d]] w fun e w' => ∃ a' c', e = .returned (.tuple #[.slice a' N c', .int .i64 0]) ∧ ReadsI w' a' l ∧ Below w.heap.size w w' := by
  have n1 : (0 : Int) ≤ N := by omega
  have n2 : (N : Int) ≤ 4 := by omega
  go_enter Tryd.func14, Tryd.ntmps14
  go_wp2_with (first
    | (go_at_call 46; refine (checkall_one N a b c d 0 _ _ (new2 _ _ _ _) HR).mono ?_; rintro e w1 ⟨rfl, hB⟩; obtain ⟨X1, _, hB1⟩ := made2 hB; have B1 := Lib.hid hB1; have R1 := Lib.hid (reads_places X1 (by have := HL.out; omega) HP.out); clear hB hB1; have x0 := X1.cell 0; simp at x0; clear X1)
    | (go_at_call 47; refine (clone_any _ N _ l _ HL.out (by omega) R1.out rfl).mono ?_; rintro e w2 ⟨a2, c2, rfl, hR2, hB⟩; have B2 := Lib.hid (below_on B1.out (Nat.le_refl _) hB); have R2 := Lib.hid hR2; clear hB hR2))
  go_ret2
  exact ⟨a2, c2, rfl, R2.out, B2.out⟩
end Go.Proofs.YtddackdghphcnaaDoor.s13
