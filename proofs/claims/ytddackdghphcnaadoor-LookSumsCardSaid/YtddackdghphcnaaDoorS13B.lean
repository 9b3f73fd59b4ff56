/-
  Layer 13: the program's Check.
-/
import Derived.Test.YtddackdghphcnaaDoorS13E
import Derived.Test.YtddackdghphcnaaDoorKitQuiet
namespace Go.Proofs.YtddackdghphcnaaDoor.s13
set_option linter.unusedVariables false
set_option linter.unusedSimpArgs false
open Go.RowKit
open kit

theorem later_cells {W : World} {t : TypeId} {g : Nat} {x0 x1 x2 x3 x4 : Value} (X : Box W t g #[x0, x1, x2, x3, x4]) (p : Later W) : p.W.cell? ⟨g, 0, none⟩ = some x0 ∧ p.W.cell? ⟨g, 1, none⟩ = some x1 ∧ p.W.cell? ⟨g, 2, none⟩ = some x2 ∧ p.W.cell? ⟨g, 3, none⟩ = some x3 ∧ p.W.cell? ⟨g, 4, none⟩ = some x4 :=
  (X.below p.h).cell5
theorem lkS (n a b c d : Int) (w : World) : (Instr.field 25 (.agg #[.int .i64 n, .int .i64 a, .int .i64 b, .int .i64 c, .int .i64 d]) 1).run Tryd.prog w = .ok (.agg #[.int .i64 a, .int .i64 b, .int .i64 c, .int .i64 d]) w := by kernel_rfl
set_option maxRecDepth 100000 in
set_option maxHeartbeats 1000000 in
theorem check_terms (n a b c d t : Int) (w : World) (h : t < 1 ∨ 8 < t) : Calls Tryd.prog 18 #[.agg #[.int .i64 n, .int .i64 a, .int .i64 b, .int .i64 c, .int .i64 d], .int .i64 t] w fun e w' => e = .returned (.int .i64 2) ∧ Below w.heap.size w w' := by
  go_enter Tryd.func18, Tryd.ntmps18
  go_wp2_with (go_at_call 50; refine (isterms_no t _ h).mono ?_; rintro e w1 ⟨rfl, rfl⟩)
  go_ret
  exact ⟨rfl, (Below.refl _ _).alloc (Nat.le_refl _) _⟩
set_option maxRecDepth 100000 in
set_option maxHeartbeats 1000000 in
theorem check_length (n a b c d t : Int) (w : World) (h1 : 1 ≤ t) (h2 : t ≤ 8) (h : n < 0 ∨ 4 < n) : Calls Tryd.prog 18 #[.agg #[.int .i64 n, .int .i64 a, .int .i64 b, .int .i64 c, .int .i64 d], .int .i64 t] w fun e w' => e = .returned (.int .i64 3) ∧ Below w.heap.size w w' := by
  go_enter Tryd.func18, Tryd.ntmps18
  go_wp2_with (go_at_call 50; refine (isterms_yes t _ h1 h2).mono ?_; rintro e w1 ⟨rfl, rfl⟩)
  have X := Box.new w 25 #[.int .i64 n, .int .i64 a, .int .i64 b, .int .i64 c, .int .i64 d]
  have B := Lib.hid ((Below.refl w.heap.size w).alloc (Nat.le_refl _) (.cells #[.int .i64 n, .int .i64 a, .int .i64 b, .int .i64 c, .int .i64 d] 25))
  generalize w.alloc (.cells #[.int .i64 n, .int .i64 a, .int .i64 b, .int .i64 c, .int .i64 d] 25) = W at X B ⊢
  have z0 : ∀ p : Later W, p.W.cell? ⟨w.heap.size, 0, none⟩ = some (.int .i64 n) := fun p => (later_cells X p).1
  clear X
  refine wp_region_later (by kernel_rfl) (by kernel_rfl) ?_
  repeat (go_big_quiet_step ((go_at_call 51; exact calls_same (islen_no n _ h))))
  refine wpQuiet_nil ?_
  rintro w5 ⟨p5, rfl⟩
  have B5 := Lib.hid (below_on B.out (Nat.le_refl _) p5.h)
  generalize p5.W = w6 at B5 ⊢
  go_wp2
  go_ret
  exact ⟨rfl, B5.out⟩
theorem cutP_self (N : Nat) (a b c d : Int) : ∃ a' b' c' d', cutP N N a b c d = (N, a', b', c', d') ∧ a' = (if 0 < N then a else 0) ∧ b' = (if 1 < N then b else 0) ∧ c' = (if 2 < N then c else 0) ∧ d' = (if 3 < N then d else 0) := by
  unfold cutP; rw [Nat.min_self]; exact ⟨_, _, _, _, rfl, rfl, rfl, rfl, rfl⟩
set_option maxRecDepth 100000 in
set_option maxHeartbeats 2000000 in
theorem check_form (N : Nat) (a b c d a' b' c' d' t : Int) (w : World) (h1 : 1 ≤ t) (h2 : t ≤ 8) (hN : N ≤ 4) (H : Hid (cutP N N a b c d = (N, a', b', c', d'))) (hne : ¬ (a' = a ∧ b' = b ∧ c' = c ∧ d' = d)) : Calls Tryd.prog 18 #[.agg #[.int .i64 N, .int .i64 a, .int .i64 b, .int .i64 c, .int .i64 d], .int .i64 t] w fun e w' => e = .returned (.int .i64 3) ∧ Below w.heap.size w w' := by
  have n1 : (0 : Int) ≤ N := by omega
  have n2 : (N : Int) ≤ 4 := by omega
  go_enter Tryd.func18, Tryd.ntmps18
  go_wp2_with (go_at_call 50; refine (isterms_yes t _ h1 h2).mono ?_; rintro e w1 ⟨rfl, rfl⟩)
  have X := Box.new w 25 #[.int .i64 N, .int .i64 a, .int .i64 b, .int .i64 c, .int .i64 d]
  have B := Lib.hid ((Below.refl w.heap.size w).alloc (Nat.le_refl _) (.cells #[.int .i64 N, .int .i64 a, .int .i64 b, .int .i64 c, .int .i64 d] 25))
  generalize w.alloc (.cells #[.int .i64 N, .int .i64 a, .int .i64 b, .int .i64 c, .int .i64 d] 25) = W at X B ⊢
  have z := fun p : Later W => later_cells X p
  have z0 := fun p : Later W => (z p).1
  have z1 := fun p : Later W => (z p).2.1
  have z2 := fun p : Later W => (z p).2.2.1
  have z3 := fun p : Later W => (z p).2.2.2.1
  have z4 := fun p : Later W => (z p).2.2.2.2
  have zs := lkS N a' b' c' d'
  have hq : decide (a' = a ∧ b' = b ∧ c' = c ∧ d' = d) = false := decide_eq_false hne
  have zq : ∀ W, (binOp .neq 23 (.agg #[.int .i64 a', .int .i64 b', .int .i64 c', .int .i64 d']) (.agg #[.int .i64 a, .int .i64 b, .int .i64 c, .int .i64 d])).run Tryd.prog W = .ok (.bool true) W := fun W => by rw [neq_arr, hq]; rfl
  have zg := guard_arr
  clear hq hne
  clear z X
  refine wp_region_later (by kernel_rfl) (by kernel_rfl) ?_
  repeat (go_big_quiet_step ((first | (go_at_call 51; exact calls_same (islen_yes N _ n1 n2)) | (go_at_call 52; exact calls_later (cut_any N N a b c d _ (by omega) N a' b' c' d' H)))))
  refine wpQuiet_nil ?_
  rintro w5 ⟨p5, rfl⟩
  have B5 := Lib.hid (below_on B.out (Nat.le_refl _) p5.h)
  generalize p5.W = w6 at B5 ⊢
  go_wp2
  go_ret
  exact ⟨rfl, B5.out⟩
set_option maxRecDepth 100000 in
set_option maxHeartbeats 2000000 in
theorem check_places (N : Nat) (a b c d t r : Int) (w : World) (h1 : 1 ≤ t) (h2 : t ≤ 8) (hN : N ≤ 4) (H : Hid (cutP N N a b c d = (N, a, b, c, d)))
    (hbad : Hid (∀ i, i < N → (pl a b c d i < 0 ∨ t ≤ pl a b c d i) → r = 14)) (hok : Hid ((∀ i, i < N → 0 ≤ pl a b c d i ∧ pl a b c d i < t) → r = 0)) : Calls Tryd.prog 18 #[.agg #[.int .i64 N, .int .i64 a, .int .i64 b, .int .i64 c, .int .i64 d], .int .i64 t] w fun e w' => e = .returned (.int .i64 r) ∧ Below w.heap.size w w' := by
  have n1 : (0 : Int) ≤ N := by omega
  have n2 : (N : Int) ≤ 4 := by omega
  go_enter Tryd.func18, Tryd.ntmps18
  go_wp2_with (go_at_call 50; refine (isterms_yes t _ h1 h2).mono ?_; rintro e w1 ⟨rfl, rfl⟩)
  have X := Box.new w 25 #[.int .i64 N, .int .i64 a, .int .i64 b, .int .i64 c, .int .i64 d]
  have B := Lib.hid ((Below.refl w.heap.size w).alloc (Nat.le_refl _) (.cells #[.int .i64 N, .int .i64 a, .int .i64 b, .int .i64 c, .int .i64 d] 25))
  generalize w.alloc (.cells #[.int .i64 N, .int .i64 a, .int .i64 b, .int .i64 c, .int .i64 d] 25) = W at X B ⊢
  have z := fun p : Later W => later_cells X p
  have z0 := fun p : Later W => (z p).1
  have z1 := fun p : Later W => (z p).2.1
  have z2 := fun p : Later W => (z p).2.2.1
  have z3 := fun p : Later W => (z p).2.2.2.1
  have z4 := fun p : Later W => (z p).2.2.2.2
  have zs := lkS N a b c d
  have zq : ∀ W, (binOp .neq 23 (.agg #[.int .i64 a, .int .i64 b, .int .i64 c, .int .i64 d]) (.agg #[.int .i64 a, .int .i64 b, .int .i64 c, .int .i64 d])).run Tryd.prog W = .ok (.bool false) W := fun W => by rw [neq_arr]; simp
  have zg := guard_arr
  have HX := Lib.hid X
  clear z X
  refine wp_region_later (by kernel_rfl) (by kernel_rfl) ?_
  repeat (go_big_quiet_step ((first | (go_at_call 51; exact calls_same (islen_yes N _ n1 n2)) | (go_at_call 52; exact calls_later (cut_any N N a b c d _ (by omega) N a b c d H)))))
  refine wpQuiet_nil ?_
  rintro w5 ⟨p5, rfl⟩
  have B5 := Lib.hid (below_on B.out (Nat.le_refl _) p5.h)
  have X5 := HX.out.below p5.h
  clear z0 z1 z2 z3 z4 zs zq zg HX
  generalize p5.W = w6 at B5 X5 ⊢
  have y0 := (X5.cell 0)
  simp at y0
  have yp := Lib.hid X5.place
  clear X5
  go_wp2
  go_loop [29] (fun i => ∃ k : Nat, i = .int .i64 k ∧ k ≤ N ∧ Hid (∀ j, j < k → 0 ≤ pl a b c d j ∧ pl a b c d j < t)) (fun i => N - (intOf i).toNat)
  case atStart => exact ⟨0, rfl, by omega, Lib.hid (fun j hj => by omega)⟩
  case round =>
    obtain ⟨k, rfl, hk, HK⟩ := hrel
    by_cases hlt : k < N
    · have hk4 : k < 4 := by omega
      have hc := yp.out k hk4
      have hbk := Lib.hid (hbad.out k hlt)
      have hs := Lib.hid (fun h : 0 ≤ pl a b c d k ∧ pl a b c d k < t => (fun j (hj : j < k + 1) => if e : j = k then e ▸ h else HK.out j (by omega) : ∀ j, j < k + 1 → 0 ≤ pl a b c d j ∧ pl a b c d j < t))
      generalize pl a b c d k = x at hc hbk hs
      by_cases hx : x < 0
      · go_wp2
        go_ret
        exact ⟨ret_int (hbk.out (.inl hx)).symm, B5.out⟩
      · have hx0 : 0 ≤ x := by omega
        clear hx
        by_cases hx : t ≤ x
        · go_wp2
          go_ret
          exact ⟨ret_int (hbk.out (.inr hx)).symm, B5.out⟩
        · have hx1 : x < t := by omega
          have hx2 : decide (t ≤ x) = false := decide_eq_false hx
          clear hx
          go_wp2
          go_round
          case rel => exact ⟨k + 1, by go_num, by omega, Lib.hid (hs.out ⟨hx0, hx1⟩)⟩
          case measure => simp [intOf]; omega
    · obtain rfl : k = N := by omega
      go_wp2
      go_ret
      exact ⟨ret_int (hok.out HK.out).symm, B5.out⟩
end Go.Proofs.YtddackdghphcnaaDoor.s13
