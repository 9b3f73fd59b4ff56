/-
  The contract of VarintLists.
-/
import Derived.Test.YtjobmgnabfnhbaaWalksN
namespace Go.Proofs.Ytjobmgnabfnhbaa
set_option linter.unusedVariables false
open Go.RowKit

theorem cells_after {w : World} {x : Addr} {xs : List Value} (h : ∀ j u, xs[j]? = some u → w.cell? (x.add j) = some u) (o : Obj) : ∀ j u, xs[j]? = some u → (w.alloc o).cell? (x.add j) = some u := by
  intro j u hu
  have hc := h j u hu
  have hb : (x.add j).block < w.heap.size := by
    rcases Nat.lt_or_ge (x.add j).block w.heap.size with hlt | hge
    · exact hlt
    · have : w.heap[(x.add j).block]? = none := Array.getElem?_eq_none hge
      simp [World.cell?, this] at hc
  exact (((Below.refl w.heap.size w).alloc (Nat.le_refl _) o).cell hb).trans hc
theorem reads_nil (w : World) (a : Option Addr) : Reads64 w a [] := fun i hi => by simp at hi

set_option maxRecDepth 100000 in
set_option maxHeartbeats 2000000 in
theorem lists_some (x : Addr) (cap0 : Nat) (zs : List Int) (s : ByteArray) (m : Int) (w : World) (hn : zs.length ≤ 40) (hs : s.size ≤ 200) (hz : ∀ z ∈ zs, 0 ≤ z ∧ z ≤ 18446744073709551615) (hr : Reads64 w (some x) zs) (hc : ∀ j u, (zs.map (Value.int .u64))[j]? = some u → w.cell? (x.add j) = some u) (m1 : -9223372036854775808 ≤ m) (m2 : m ≤ 9223372036854775807) :
    Calls Try.prog 5 #[.slice (some x) zs.length cap0, .string s, .int .i64 m] w fun e w' => e = .returned (.bool true) ∧ Below w.heap.size w w' := by
  have HC := Lib.hid (cells_after hc)
  have HZ := Lib.hid hz
  have HR := Lib.hid hr
  clear hc hz hr
  obtain ⟨i0, hi, hz0, hz1, hz2⟩ := info_parts info22
  obtain ⟨L, er, p, HL⟩ : ∃ L er p, Hid (rlist s m = (L, er, p)) := ⟨_, _, _, Lib.hid rfl⟩
  have hLn := rlist_len s m HL.out
  go_enter Try.func5, Try.ntmps5
  go_wp2_with (first
    | (at_builtin; refine wpList_append_own _ rfl _ _ 38 rfl w.heap.size 22 i0 (.int .u64 0) 1 8 Try.underlying38 hi hz0 hz1 hz2 rfl (by decide) _ _ _ rfl (empty_row w _ (Nat.le_refl _)) x zs.length cap0 (zs.map (Value.int .u64)) rfl (by simp) (HC.out _) (by simp [Value.oneCell']) (by unfold maxLen; omega) (by omega) (by simp) ?_; intro v' wA hown' hgrow _; simp only [Nat.zero_add, List.nil_append] at hown'; obtain ⟨ai, ki, rfl⟩ := row_shape hown')
    | (go_at_call 25; refine (rlist_any s m (by omega) L er p HL _).mono ?_; rintro e w1 ⟨v1, rfl, hr1, hB1⟩; obtain ⟨b1, k1, rfl⟩ := row_shape hr1; have q1 := reads_of_row rfl hr1; have hBA := below_grown ((Below.refl w.heap.size w).alloc (Nat.le_refl _) (.cells #[] 22)) (empty_row w w.heap.size (Nat.le_refl _)) hgrow (by simp); have ri := reads_of_row rfl hown'; have rl := HR.out.below hBA; have ri1 := ri.below hB1; have rl1 := rl.below hB1)
    | (go_at_call 26; refine (rlistr_any s m (by omega) L er p HL _).mono ?_; rintro e w2 ⟨v2, rfl, hr2, hB2⟩; obtain ⟨b2, k2, rfl⟩ := row_shape hr2; have q2 := reads_of_row rfl hr2; have p2 := (q1.alloc _).below hB2; have X2 := (Box2.new w1 (.int .i64 er) (.int .i64 p)).below hB2; have ri2 := (ri1.alloc _).below hB2; have rl2 := (rl1.alloc _).below hB2)
    | (go_at_call 27; refine (list_any ai ki zs _ (by omega) HZ.out (ri2.alloc _)).mono ?_; rintro e w3 ⟨rfl, hB3⟩; have q3 := (q2.alloc _).below hB3; have p3 := (p2.alloc _).below hB3; have X3 := (X2.alloc _).below hB3; have Y3 := (Box2.new w2 (.int .i64 er) (.int .i64 p)).below hB3; have ri3 := (ri2.alloc _).below hB3; have rl3 := (rl2.alloc _).below hB3)
    | (go_at_call 28; refine (listr_any (some x) cap0 zs _ (by omega) HZ.out rl3).mono ?_; rintro e w4 ⟨rfl, hB4⟩; have q4 := q3.below hB4; have p4 := p3.below hB4; have X4 := X3.below hB4; have Y4 := Y3.below hB4; have ri4 := ri3.below hB4; have rl4 := rl3.below hB4; obtain ⟨cx0, cx1⟩ := X4.cells; obtain ⟨cy0, cy1⟩ := Y4.cells)
    | (go_at_call 10; refine (awake_any _).mono ?_; rintro e w9 ⟨rfl, hB9⟩))
  have hB : Below w.heap.size w w4 := below_then (below_then (below_alloc_then (below_alloc_then (below_then hBA hB1) hB2) hB3) (Below.refl _ _)) hB4
  clear cx0 cx1 cy0 cy1 X2 X3 X4 Y3 Y4 q1 q2 q3 p2 p3 ri1 ri2 ri3 rl1 rl2 rl3 hr1 hr2
  go_loopw [12] (fun i wr => ∃ k : Nat, k ≤ L.length ∧ i = .int .i64 k ∧ Reads64 wr b1 L ∧ Reads64 wr b2 L ∧ Reads64 wr ai zs ∧ Reads64 wr (some x) zs ∧ Below w.heap.size w wr) (fun i _ => L.length - (intOf i).toNat)
  case atStart => exact ⟨0, by omega, rfl, p4, q4, ri4, rl4, hB⟩
  case round =>
    obtain ⟨k, hk, rfl, g1, g2, g3, g4, hBr⟩ := hrel
    by_cases hlt : k < L.length
    · obtain ⟨c1, o1, rfl, _, h1⟩ := g1 k hlt
      obtain ⟨c2, o2, rfl, _, h2⟩ := g2 k hlt
      generalize L[k]?.getD 0 = y at h1 h2
      go_wp2
      go_quiet (fail)
      go_wp2
      go_roundw
      case rel => exact ⟨k + 1, by omega, by go_num, g1, g2, g3, g4, below_drewN hBr _⟩
      case measure => simp [intOf]; omega
    · obtain ⟨wo, rfl⟩ : ∃ wo : World, wo = wr := ⟨_, rfl⟩
      clear g1 g2 hk
      go_wp2
      go_loopw [13] (fun i wr => ∃ k : Nat, k ≤ zs.length ∧ i = .int .i64 k ∧ Reads64 wr ai zs ∧ Reads64 wr (some x) zs ∧ Below w.heap.size w wr) (fun i _ => zs.length - (intOf i).toNat)
      case atStart => exact ⟨0, by omega, rfl, g3, g4, hBr⟩
      case round =>
        obtain ⟨j, hj, rfl, f1, f2, hBj⟩ := hrel
        by_cases hlt2 : j < zs.length
        · obtain ⟨c3, o3, rfl, _, h3⟩ := f1 j hlt2
          obtain ⟨c4, o4, e4, _, h4⟩ := f2 j hlt2
          obtain rfl := Option.some.inj e4
          generalize zs[j]?.getD 0 = y at h3 h4
          go_wp2
          go_quiet (fail)
          go_wp2
          go_roundw
          case rel => exact ⟨j + 1, by omega, by go_num, f1, f2, below_drewN hBj _⟩
          case measure => simp [intOf]; omega
        · go_wp2_with (go_at_call 10; refine (awake_any _).mono ?_; rintro e w9 ⟨rfl, hB9⟩)
          go_ret
          exact ⟨rfl, below_then hBj hB9⟩

set_option maxRecDepth 100000 in
set_option maxHeartbeats 2000000 in
theorem lists_none (s : ByteArray) (m : Int) (w : World) (hs : s.size ≤ 200) (m1 : -9223372036854775808 ≤ m) (m2 : m ≤ 9223372036854775807) :
    Calls Try.prog 5 #[.slice none 0 0, .string s, .int .i64 m] w fun e w' => e = .returned (.bool true) ∧ Below w.heap.size w w' := by
  obtain ⟨i0, hi, hz0, hz1, hz2⟩ := info_parts info22
  obtain ⟨L, er, p, HL⟩ : ∃ L er p, Hid (rlist s m = (L, er, p)) := ⟨_, _, _, Lib.hid rfl⟩
  have hLn := rlist_len s m HL.out
  go_enter Try.func5, Try.ntmps5
  go_wp2_with (first
    | (at_builtin; refine wpList_append_own_none rfl _ _ 38 rfl w.heap.size 22 i0 1 Try.underlying38 hi _ 0 [] rfl (empty_row w _ (Nat.le_refl _)) rfl ?_)
    | (go_at_call 25; refine (rlist_any s m (by omega) L er p HL _).mono ?_; rintro e w1 ⟨v1, rfl, hr1, hB1⟩; obtain ⟨b1, k1, rfl⟩ := row_shape hr1; have q1 := reads_of_row rfl hr1; have hBA := (Below.refl w.heap.size w).alloc (Nat.le_refl _) (.cells #[] 22); have ri1 := reads_nil w1 (some ⟨w.heap.size, 0, none⟩); have rl1 := reads_nil w1 none)
    | (go_at_call 26; refine (rlistr_any s m (by omega) L er p HL _).mono ?_; rintro e w2 ⟨v2, rfl, hr2, hB2⟩; obtain ⟨b2, k2, rfl⟩ := row_shape hr2; have q2 := reads_of_row rfl hr2; have p2 := (q1.alloc _).below hB2; have X2 := (Box2.new w1 (.int .i64 er) (.int .i64 p)).below hB2; have ri2 := reads_nil w2 (some ⟨w.heap.size, 0, none⟩); have rl2 := reads_nil w2 none)
    | (go_at_call 27; refine (list_any (some ⟨w.heap.size, 0, none⟩) 0 [] _ (by simp) (by simp) (ri2.alloc _)).mono ?_; rintro e w3 ⟨rfl, hB3⟩; have q3 := (q2.alloc _).below hB3; have p3 := (p2.alloc _).below hB3; have X3 := (X2.alloc _).below hB3; have Y3 := (Box2.new w2 (.int .i64 er) (.int .i64 p)).below hB3; have ri3 := reads_nil w3 (some ⟨w.heap.size, 0, none⟩); have rl3 := reads_nil w3 none)
    | (go_at_call 28; refine (listr_any none 0 [] _ (by simp) (by simp) rl3).mono ?_; rintro e w4 ⟨rfl, hB4⟩; have q4 := q3.below hB4; have p4 := p3.below hB4; have X4 := X3.below hB4; have Y4 := Y3.below hB4; have ri4 := reads_nil w4 (some ⟨w.heap.size, 0, none⟩); have rl4 := reads_nil w4 none; obtain ⟨cx0, cx1⟩ := X4.cells; obtain ⟨cy0, cy1⟩ := Y4.cells)
    | (go_at_call 10; refine (awake_any _).mono ?_; rintro e w9 ⟨rfl, hB9⟩))
  have hB : Below w.heap.size w w4 := below_then (below_then (below_alloc_then (below_alloc_then (below_then hBA hB1) hB2) hB3) (Below.refl _ _)) hB4
  clear cx0 cx1 cy0 cy1 X2 X3 X4 Y3 Y4 q1 q2 q3 p2 p3 ri1 ri2 ri3 rl1 rl2 rl3 hr1 hr2
  go_loopw [12] (fun i wr => ∃ k : Nat, k ≤ L.length ∧ i = .int .i64 k ∧ Reads64 wr b1 L ∧ Reads64 wr b2 L ∧ Reads64 wr (some ⟨w.heap.size, 0, none⟩) [] ∧ Reads64 wr none [] ∧ Below w.heap.size w wr) (fun i _ => L.length - (intOf i).toNat)
  case atStart => exact ⟨0, by omega, rfl, p4, q4, ri4, rl4, hB⟩
  case round =>
    obtain ⟨k, hk, rfl, g1, g2, g3, g4, hBr⟩ := hrel
    by_cases hlt : k < L.length
    · obtain ⟨c1, o1, rfl, _, h1⟩ := g1 k hlt
      obtain ⟨c2, o2, rfl, _, h2⟩ := g2 k hlt
      generalize L[k]?.getD 0 = y at h1 h2
      go_wp2
      go_quiet (fail)
      go_wp2
      go_roundw
      case rel => exact ⟨k + 1, by omega, by go_num, g1, g2, g3, g4, below_drewN hBr _⟩
      case measure => simp [intOf]; omega
    · obtain ⟨wo, rfl⟩ : ∃ wo : World, wo = wr := ⟨_, rfl⟩
      clear g1 g2 hk
      go_wp2
      go_loopw [13] (fun i wr => ∃ k : Nat, k ≤ (0 : Nat) ∧ i = .int .i64 k ∧ Reads64 wr (some ⟨w.heap.size, 0, none⟩) [] ∧ Reads64 wr none [] ∧ Below w.heap.size w wr) (fun i _ => (0 : Nat) - (intOf i).toNat)
      case atStart => exact ⟨0, by omega, rfl, g3, g4, hBr⟩
      case round =>
        obtain ⟨j, hj, rfl, f1, f2, hBj⟩ := hrel
        by_cases hlt2 : j < (0 : Nat)
        · exact absurd hlt2 (by omega)
        · go_wp2_with (go_at_call 10; refine (awake_any _).mono ?_; rintro e w9 ⟨rfl, hB9⟩)
          go_ret
          exact ⟨rfl, below_then hBj hB9⟩
end Go.Proofs.Ytjobmgnabfnhbaa
