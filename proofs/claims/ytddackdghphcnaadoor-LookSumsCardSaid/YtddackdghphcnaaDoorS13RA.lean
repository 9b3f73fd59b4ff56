/-
  Layer 13: the reference's Check, both.
-/
import Derived.Test.YtddackdghphcnaaDoorS13C
namespace Go.Proofs.YtddackdghphcnaaDoor.s13
set_option linter.unusedVariables false
set_option linter.unusedSimpArgs false
open Go.RowKit
open kit

theorem chkP_form {N : Nat} {a b c d t : Int} (t1 : 1 ≤ t) (t2 : t ≤ 8) (hN : N ≤ 4) (i : Nat) (h1 : N ≤ i) (h2 : i < 4) (h : pl a b c d i ≠ 0) : chkP N a b c d t = 3 := by
  unfold chkP
  rw [if_neg (by omega), if_neg (by omega)]
  refine if_pos ?_
  have hm : i = 0 ∨ i = 1 ∨ i = 2 ∨ i = 3 := by omega
  rcases hm with rfl | rfl | rfl | rfl
  · exact .inl ⟨by omega, h⟩
  · exact .inr (.inl ⟨by omega, h⟩)
  · exact .inr (.inr (.inl ⟨by omega, h⟩))
  · exact .inr (.inr (.inr ⟨by omega, h⟩))
theorem pl_zero {N : Nat} {a b c d : Int} (h : ∀ i, N ≤ i → i < 4 → pl a b c d i = 0) : (N ≤ 0 → a = 0) ∧ (N ≤ 1 → b = 0) ∧ (N ≤ 2 → c = 0) ∧ (N ≤ 3 → d = 0) :=
  ⟨fun k => h 0 k (by omega), fun k => h 1 k (by omega), fun k => h 2 k (by omega), fun k => h 3 k (by omega)⟩
theorem chkP_sym {N : Nat} {a b c d t : Int} (t1 : 1 ≤ t) (t2 : t ≤ 8) (hN : N ≤ 4) (hz : ∀ i, N ≤ i → i < 4 → pl a b c d i = 0) (i : Nat) (h1 : i < N) (h : pl a b c d i < 0 ∨ t ≤ pl a b c d i) : chkP N a b c d t = 14 := by
  obtain ⟨z0, z1, z2, z3⟩ := pl_zero hz
  unfold chkP
  rw [if_neg (by omega), if_neg (by omega), if_neg (by omega)]
  refine if_pos ?_
  have hm : i = 0 ∨ i = 1 ∨ i = 2 ∨ i = 3 := by omega
  rcases hm with rfl | rfl | rfl | rfl
  · exact .inl ⟨by omega, h⟩
  · exact .inr (.inl ⟨by omega, h⟩)
  · exact .inr (.inr (.inl ⟨by omega, h⟩))
  · exact .inr (.inr (.inr ⟨by omega, h⟩))
theorem chkP_fine {N : Nat} {a b c d t : Int} (t1 : 1 ≤ t) (t2 : t ≤ 8) (hN : N ≤ 4) (hz : ∀ i, N ≤ i → i < 4 → pl a b c d i = 0) (h : ∀ i, i < N → 0 ≤ pl a b c d i ∧ pl a b c d i < t) : chkP N a b c d t = 0 := by
  obtain ⟨z0, z1, z2, z3⟩ := pl_zero hz
  obtain ⟨k1, k2, k3, k4⟩ := pl_lt h
  unfold chkP
  rw [if_neg (by omega), if_neg (by omega), if_neg (by omega), if_neg (by omega)]
set_option maxRecDepth 100000 in
set_option maxHeartbeats 2000000 in
theorem rcheck_any (n a b c d t r : Int) (w : World) (H : Hid (chkP n a b c d t = r)) : Calls Tryd.prog 19 #[.agg #[.int .i64 n, .int .i64 a, .int .i64 b, .int .i64 c, .int .i64 d], .int .i64 t] w fun e w' => e = .returned (.int .i64 r) ∧ Below w.heap.size w w' := by
  have h := H.out
  unfold chkP at h
  have B := Lib.hid ((Below.refl w.heap.size w).alloc (Nat.le_refl _) (.cells #[.int .i64 n, .int .i64 a, .int .i64 b, .int .i64 c, .int .i64 d] 25))
  by_cases ht : t < 1 ∨ 8 < t
  · rw [if_pos ht] at h; subst h
    by_cases h1 : t < 1
    · clear ht
      go_enter Tryd.func19, Tryd.ntmps19
      go_wp2
      go_ret
      exact ⟨rfl, B.out⟩
    · have h2 : 8 < t := by omega
      have h3 : decide (t < 1) = false := decide_eq_false h1
      clear ht h1
      go_enter Tryd.func19, Tryd.ntmps19
      go_wp2
      go_ret
      exact ⟨rfl, B.out⟩
  · rw [if_neg ht] at h
    have t1 : 1 ≤ t := by omega
    have t2 : t ≤ 8 := by omega
    have t3 : decide (t < 1) = false := decide_eq_false (by omega)
    have t4 : decide (8 < t) = false := decide_eq_false (by omega)
    clear ht
    by_cases hn : n < 0 ∨ 4 < n
    · rw [if_pos hn] at h; subst h
      by_cases h1 : n < 0
      · clear hn
        go_enter Tryd.func19, Tryd.ntmps19
        go_wp2
        go_ret
        exact ⟨rfl, B.out⟩
      · have h2 : 4 < n := by omega
        have h3 : decide (n < 0) = false := decide_eq_false h1
        clear hn h1
        go_enter Tryd.func19, Tryd.ntmps19
        go_wp2
        go_ret
        exact ⟨rfl, B.out⟩
    · rw [if_neg hn] at h
      obtain ⟨N, rfl⟩ : ∃ N : Nat, n = N := ⟨n.toNat, by omega⟩
      have hN : N ≤ 4 := by omega
      have n1 : (0 : Int) ≤ N := by omega
      have n2 : (N : Int) ≤ 4 := by omega
      have n3 : decide ((N : Int) < 0) = false := decide_eq_false (by omega)
      have n4 : decide (4 < (N : Int)) = false := decide_eq_false (by omega)
      clear hn
      have X := Box.new w 25 #[.int .i64 N, .int .i64 a, .int .i64 b, .int .i64 c, .int .i64 d]
      have YP := Lib.hid X.place
      clear h
      generalize hW : w.alloc (.cells #[.int .i64 N, .int .i64 a, .int .i64 b, .int .i64 c, .int .i64 d] 25) = W at X YP B
      have HW := Lib.hid hW
      have HX := Lib.hid X
      clear X hW
      go_enter Tryd.func19, Tryd.ntmps19
      go_wp2
      rw [HW.out]
      clear HW
      have c0 := HX.out.cell 0
      simp at c0
      go_loop [5] (fun i => ∃ k : Nat, i = .int .i64 k ∧ N ≤ k ∧ k ≤ 4 ∧ Hid (∀ j, N ≤ j → j < k → pl a b c d j = 0)) (fun i => 4 - (intOf i).toNat)
      case atStart => exact ⟨N, rfl, by omega, hN, Lib.hid (fun j h1 h2 => by omega)⟩
      case round =>
        obtain ⟨k, rfl, hk1, hk2, HK⟩ := hrel
        by_cases hlt : k < 4
        · have hc := YP.out k hlt
          have hf := Lib.hid (fun h => chkP_form (a := a) (b := b) (c := c) (d := d) t1 t2 hN k hk1 hlt h)
          have hs := Lib.hid (fun h : pl a b c d k = 0 => (fun j (h1 : N ≤ j) (h2 : j < k + 1) => if e : j = k then e ▸ h else HK.out j h1 (by omega) : ∀ j, N ≤ j → j < k + 1 → pl a b c d j = 0))
          generalize pl a b c d k = x at hc hf hs
          by_cases hx : x = 0
          · have HXX := Lib.hid (hs.out hx)
            subst hx
            go_wp2
            go_round
            case rel => exact ⟨k + 1, by go_num, by omega, by omega, HXX⟩
            case measure => simp [intOf]; omega
          · have HF := Lib.hid ((H.out.symm.trans (hf.out hx)).symm)
            have hx2 : (x != 0) = true := by simpa using hx
            clear hx
            go_wp2
            go_ret
            exact ⟨ret_int HF.out, B.out⟩
        · obtain rfl : k = 4 := by omega
          have HZ : Hid (∀ j, N ≤ j → j < 4 → pl a b c d j = 0) := HK
          clear HK hlt
          go_wp2
          go_loop [6] (fun i => ∃ k : Nat, i = .int .i64 k ∧ k ≤ N ∧ Hid (∀ j, j < k → 0 ≤ pl a b c d j ∧ pl a b c d j < t)) (fun i => N - (intOf i).toNat)
          case atStart => exact ⟨0, rfl, by omega, Lib.hid (fun j hj => by omega)⟩
          case round =>
            obtain ⟨k, rfl, hk, HK⟩ := hrel
            by_cases hlt : k < N
            · have hk4 : k < 4 := by omega
              have hc := YP.out k hk4
              have hbk := Lib.hid (fun h => H.out.symm.trans (chkP_sym (a := a) (b := b) (c := c) (d := d) t1 t2 hN HZ.out k hlt h))
              have hs := Lib.hid (fun h : 0 ≤ pl a b c d k ∧ pl a b c d k < t => (fun j (hj : j < k + 1) => if e : j = k then e ▸ h else HK.out j (by omega) : ∀ j, j < k + 1 → 0 ≤ pl a b c d j ∧ pl a b c d j < t))
              generalize pl a b c d k = x at hc hbk hs
              by_cases hx : x < 0
              · go_wp2
                go_ret
                exact ⟨ret_int (hbk.out (.inl hx)).symm, B.out⟩
              · have hx0 : decide (x < 0) = false := decide_eq_false hx
                have hxx : 0 ≤ x := by omega
                clear hx
                by_cases hx : t ≤ x
                · go_wp2
                  go_ret
                  exact ⟨ret_int (hbk.out (.inr hx)).symm, B.out⟩
                · have hx1 : x < t := by omega
                  have hx2 : decide (t ≤ x) = false := decide_eq_false hx
                  clear hx
                  go_wp2
                  go_round
                  case rel => exact ⟨k + 1, by go_num, by omega, Lib.hid (hs.out ⟨hxx, hx1⟩)⟩
                  case measure => simp [intOf]; omega
            · obtain rfl : k = N := by omega
              have HF := Lib.hid ((H.out.symm.trans (chkP_fine t1 t2 hN HZ.out HK.out)).symm)
              go_wp2
              go_ret
              exact ⟨ret_int HF.out, B.out⟩
/-- the error of two looks -/
def bothP (n a b c d n' a' b' c' d' : Int) : Int := if chkP n a b c d 8 = 0 then chkP n' a' b' c' d' 8 else chkP n a b c d 8
set_option maxRecDepth 100000 in
set_option maxHeartbeats 2000000 in
theorem rboth_any (n a b c d n' a' b' c' d' r : Int) (w : World) (H : Hid (bothP n a b c d n' a' b' c' d' = r)) : Calls Tryd.prog 53 #[.agg #[.int .i64 n, .int .i64 a, .int .i64 b, .int .i64 c, .int .i64 d], .agg #[.int .i64 n', .int .i64 a', .int .i64 b', .int .i64 c', .int .i64 d']] w fun e w' => e = .returned (.int .i64 r) ∧ Below w.heap.size w w' := by
  have h := H.out
  unfold bothP at h
  have X := (Box.new w 25 #[.int .i64 n, .int .i64 a, .int .i64 b, .int .i64 c, .int .i64 d]).alloc (.cells #[.int .i64 n', .int .i64 a', .int .i64 b', .int .i64 c', .int .i64 d'] 25)
  have Y := Box.new (w.alloc (.cells #[.int .i64 n, .int .i64 a, .int .i64 b, .int .i64 c, .int .i64 d] 25)) 25 #[.int .i64 n', .int .i64 a', .int .i64 b', .int .i64 c', .int .i64 d']
  rw [show (w.alloc (.cells #[.int .i64 n, .int .i64 a, .int .i64 b, .int .i64 c, .int .i64 d] 25)).heap.size = w.heap.size + 1 from Array.size_push ..] at Y
  have B := Lib.hid (((Below.refl w.heap.size w).alloc (Nat.le_refl _) (.cells #[.int .i64 n, .int .i64 a, .int .i64 b, .int .i64 c, .int .i64 d] 25)).alloc (by simp) (.cells #[.int .i64 n', .int .i64 a', .int .i64 b', .int .i64 c', .int .i64 d'] 25))
  generalize hW : (w.alloc (.cells #[.int .i64 n, .int .i64 a, .int .i64 b, .int .i64 c, .int .i64 d] 25)).alloc (.cells #[.int .i64 n', .int .i64 a', .int .i64 b', .int .i64 c', .int .i64 d'] 25) = W at X Y B
  have HW := Lib.hid hW
  have HY := Lib.hid Y
  obtain ⟨x0, x1, x2, x3, x4⟩ := X.cell5
  clear X Y hW
  by_cases hz : chkP n a b c d 8 = 0
  · rw [if_pos hz] at h
    have HZ := Lib.hid hz
    have HR := Lib.hid h
    clear hz h
    go_enter Tryd.func53, Tryd.ntmps53
    go_wp2_with (first
      | (go_at_call 19; rw [HW.out]; refine (rcheck_any n a b c d 8 0 _ HZ).mono ?_; rintro e w1 ⟨rfl, hB⟩; have B1 := Lib.hid (below_on B.out (Nat.le_refl _) hB); obtain ⟨y0, y1, y2, y3, y4⟩ := (HY.out.below hB).cell5; clear hB HW HZ x0 x1 x2 x3 x4)
      | (go_at_call 19; refine (rcheck_any n' a' b' c' d' 8 r _ HR).mono ?_; rintro e w2 ⟨rfl, hB⟩; have B2 := Lib.hid (below_on B1.out (Nat.le_refl _) hB); clear hB))
    go_ret
    exact ⟨rfl, B2.out⟩
  · rw [if_neg hz] at h
    have HR := Lib.hid h
    have hr0 : (r == 0) = false := by rw [h] at hz; simpa using hz
    clear hz h
    go_enter Tryd.func53, Tryd.ntmps53
    go_wp2_with (go_at_call 19; rw [HW.out]; refine (rcheck_any n a b c d 8 r _ HR).mono ?_; rintro e w1 ⟨rfl, hB⟩; have B1 := Lib.hid (below_on B.out (Nat.le_refl _) hB); clear hB HW x0 x1 x2 x3 x4)
    go_ret
    exact ⟨rfl, B1.out⟩
end Go.Proofs.YtddackdghphcnaaDoor.s13
