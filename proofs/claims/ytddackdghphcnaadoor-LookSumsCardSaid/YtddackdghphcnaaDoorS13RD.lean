/-
  Layer 13: the reference's Join, Cut, Order, Compare, Begins.
-/
import Derived.Test.YtddackdghphcnaaDoorS13RC
import Derived.Test.YtddackdghphcnaaDoorS13J
import Derived.Test.YtddackdghphcnaaDoorKitLater
namespace Go.Proofs.YtddackdghphcnaaDoor.s13
set_option linter.unusedVariables false
set_option linter.unusedSimpArgs false
open Go.RowKit
open kit

set_option maxRecDepth 100000 in
set_option maxHeartbeats 2000000 in
theorem rjoin_any (k n a b c d n' a' b' c' d' : Int) (w : World) (y : V5) (r : Int) (H : Hid (joinE k (n, a, b, c, d) (n', a', b', c', d') = (y, r))) : Calls Tryd.prog 22 #[.int .i64 k, .agg #[.int .i64 n, .int .i64 a, .int .i64 b, .int .i64 c, .int .i64 d], .agg #[.int .i64 n', .int .i64 a', .int .i64 b', .int .i64 c', .int .i64 d']] w fun e w' => e = .returned (LE y r) ∧ Below w.heap.size w w' := by
  have h := H.out
  unfold joinE at h
  simp only at h
  by_cases hc : bothP n a b c d n' a' b' c' d' = 0
  · rw [if_neg (by simpa using hc)] at h
    have HC := Lib.hid hc
    by_cases hk : k < 1 ∨ 4 < k
    · rw [if_pos hk] at h; cases h
      clear hc H
      by_cases h1 : k < 1
      · clear hk
        go_enter Tryd.func22, Tryd.ntmps22
        go_wp2_with (go_at_call 53; refine (rboth_any n a b c d n' a' b' c' d' 0 _ HC).mono ?_; rintro e w1 ⟨rfl, hB⟩; obtain ⟨X1, Y1, Z1, hB1⟩ := made3 hB; have B1 := Lib.hid hB1; have Z1 := Lib.hid Z1; clear hB hB1 X1 Y1; obtain ⟨v0, v1, v2, v3, v4⟩ := Z1.out.cell5; obtain ⟨g0, g1, g2, g3, g4⟩ := Z1.out.free5)
        obtain ⟨z0, z1, z2, z3, z4⟩ := (Z1.out.put5 (.int .i64 0) (.int .i64 0) (.int .i64 0) (.int .i64 0) (.int .i64 0)).cell5
        exact bodyPost_ret (v := .tuple #[.agg #[.int .i64 0, .int .i64 0, .int .i64 0, .int .i64 0, .int .i64 0], .int .i64 2]) (by simp [results, Tryd.results22, go_sem, z0, z1, z2, z3, z4]) rfl ⟨rfl, below_put5 B1.out (by omega) _ _ _ _ _⟩
      · have h2 : 4 < k := by omega
        have h3 : decide (k < 1) = false := decide_eq_false h1
        clear hk h1
        go_enter Tryd.func22, Tryd.ntmps22
        go_wp2_with (go_at_call 53; refine (rboth_any n a b c d n' a' b' c' d' 0 _ HC).mono ?_; rintro e w1 ⟨rfl, hB⟩; obtain ⟨X1, Y1, Z1, hB1⟩ := made3 hB; have B1 := Lib.hid hB1; have Z1 := Lib.hid Z1; clear hB hB1 X1 Y1; obtain ⟨v0, v1, v2, v3, v4⟩ := Z1.out.cell5; obtain ⟨g0, g1, g2, g3, g4⟩ := Z1.out.free5)
        obtain ⟨z0, z1, z2, z3, z4⟩ := (Z1.out.put5 (.int .i64 0) (.int .i64 0) (.int .i64 0) (.int .i64 0) (.int .i64 0)).cell5
        exact bodyPost_ret (v := .tuple #[.agg #[.int .i64 0, .int .i64 0, .int .i64 0, .int .i64 0, .int .i64 0], .int .i64 2]) (by simp [results, Tryd.results22, go_sem, z0, z1, z2, z3, z4]) rfl ⟨rfl, below_put5 B1.out (by omega) _ _ _ _ _⟩
    · rw [if_neg hk] at h; cases h
      obtain ⟨h1, h2⟩ := both_yes hc
      obtain ⟨N, hN, hN4, hl, hp⟩ := lst_nat h1
      obtain ⟨M, hM, hM4, hm, hq⟩ := lst_nat h2
      obtain ⟨K, rfl⟩ : ∃ K : Nat, k = K := ⟨k.toNat, by omega⟩
      have k1 : (1 : Int) ≤ K := by omega
      have k2 : (K : Int) ≤ 4 := by omega
      have k3 : K ≤ 4 := by omega
      have k4 : decide ((K : Int) < 1) = false := decide_eq_false (by omega)
      have k5 : decide (4 < (K : Int)) = false := decide_eq_false (by omega)
      rw [Int.toNat_natCast]
      subst hN hM
      have HL := Lib.hid hl
      have HM := Lib.hid hm
      have HP := Lib.hid hp
      have HQ := Lib.hid hq
      generalize lst ((N : Int), a, b, c, d) = l at HL HP ⊢
      generalize lst ((M : Int), a', b', c', d') = m at HM HQ ⊢
      obtain ⟨⟨y0, y1, y2, y3, y4⟩, hy⟩ : ∃ y, pad5 ((l ++ m).take K) = y := ⟨_, rfl⟩
      rw [hy]
      have HY := Lib.hid hy
      clear hl hm hp hq h1 h2 hc hk H hy
      go_enter Tryd.func22, Tryd.ntmps22
      go_wp2_with (first
        | (go_at_call 53; refine (rboth_any N a b c d M a' b' c' d' 0 _ HC).mono ?_; rintro e w1 ⟨rfl, hB⟩; obtain ⟨X1, Y1, Z1, hB1⟩ := made3 hB; have B1 := Lib.hid hB1; have Z1 := Lib.hid Z1; obtain ⟨x0, x1, x2, x3, x4⟩ := X1.cell5; obtain ⟨u0, u1, u2, u3, u4⟩ := Y1.cell5; clear hB hB1 X1 Y1)
        | (go_at_call 54; refine (rplus_any l m K N M a b c d a' b' c' d' _ k3 hN4 hM4 HL HM HP HQ y0 y1 y2 y3 y4 HY).mono ?_; rintro e w2 ⟨rfl, hB⟩; have B2 := Lib.hid (below_on B1.out (Nat.le_refl _) hB); have Z2 := Lib.hid (Z1.out.below hB); clear hB; obtain ⟨v0, v1, v2, v3, v4⟩ := Z2.out.cell5; obtain ⟨g0, g1, g2, g3, g4⟩ := Z2.out.free5))
      obtain ⟨z0, z1, z2, z3, z4⟩ := (Z2.out.put5 (.int .i64 y0) (.int .i64 y1) (.int .i64 y2) (.int .i64 y3) (.int .i64 y4)).cell5
      exact bodyPost_ret (v := .tuple #[.agg #[.int .i64 y0, .int .i64 y1, .int .i64 y2, .int .i64 y3, .int .i64 y4], .int .i64 0]) (by simp [results, Tryd.results22, go_sem, z0, z1, z2, z3, z4]) rfl ⟨rfl, below_put5 B2.out (by omega) _ _ _ _ _⟩
  · rw [if_pos hc] at h; cases h
    have hr : (bothP n a b c d n' a' b' c' d' != 0) = true := by simpa using hc
    have hr2 : (bothP n a b c d n' a' b' c' d' == 0) = false := by simpa using hc
    obtain ⟨r, hq⟩ : ∃ r, bothP n a b c d n' a' b' c' d' = r := ⟨_, rfl⟩
    rw [hq] at hr hr2 ⊢
    have HR := Lib.hid hq
    clear hc hq H
    go_enter Tryd.func22, Tryd.ntmps22
    go_wp2_with (go_at_call 53; refine (rboth_any n a b c d n' a' b' c' d' r _ HR).mono ?_; rintro e w1 ⟨rfl, hB⟩; obtain ⟨X1, Y1, Z1, hB1⟩ := made3 hB; have B1 := Lib.hid hB1; have Z1 := Lib.hid Z1; clear hB hB1 X1 Y1; obtain ⟨v0, v1, v2, v3, v4⟩ := Z1.out.cell5; obtain ⟨g0, g1, g2, g3, g4⟩ := Z1.out.free5)
    obtain ⟨z0, z1, z2, z3, z4⟩ := (Z1.out.put5 (.int .i64 0) (.int .i64 0) (.int .i64 0) (.int .i64 0) (.int .i64 0)).cell5
    exact bodyPost_ret (v := .tuple #[.agg #[.int .i64 0, .int .i64 0, .int .i64 0, .int .i64 0, .int .i64 0], .int .i64 r]) (by simp [results, Tryd.results22, go_sem, z0, z1, z2, z3, z4]) rfl ⟨rfl, below_put5 B1.out (by omega) _ _ _ _ _⟩
set_option maxRecDepth 100000 in
set_option maxHeartbeats 2000000 in
theorem rcut_any (n a b c d k : Int) (w : World) (y : V5) (r : Int) (H : Hid (cutE (n, a, b, c, d) k = (y, r))) : Calls Tryd.prog 24 #[.agg #[.int .i64 n, .int .i64 a, .int .i64 b, .int .i64 c, .int .i64 d], .int .i64 k] w fun e w' => e = .returned (LE y r) ∧ Below w.heap.size w w' := by
  have h := H.out
  unfold cutE at h
  simp only at h
  by_cases hc : chkP n a b c d 8 = 0
  · rw [if_neg (by simpa using hc)] at h
    have HC := Lib.hid hc
    by_cases hk : k < 0 ∨ 4 < k
    · rw [if_pos hk] at h; cases h
      clear hc H
      by_cases h1 : k < 0
      · clear hk
        go_enter Tryd.func24, Tryd.ntmps24
        go_wp2_with (go_at_call 19; refine (rcheck_any n a b c d 8 0 _ HC).mono ?_; rintro e w1 ⟨rfl, hB⟩; obtain ⟨X1, Z1, hB1⟩ := made2 hB; have B1 := Lib.hid hB1; have Z1 := Lib.hid Z1; clear hB hB1 X1; obtain ⟨v0, v1, v2, v3, v4⟩ := Z1.out.cell5; obtain ⟨g0, g1, g2, g3, g4⟩ := Z1.out.free5)
        obtain ⟨z0, z1, z2, z3, z4⟩ := (Z1.out.put5 (.int .i64 0) (.int .i64 0) (.int .i64 0) (.int .i64 0) (.int .i64 0)).cell5
        exact bodyPost_ret (v := .tuple #[.agg #[.int .i64 0, .int .i64 0, .int .i64 0, .int .i64 0, .int .i64 0], .int .i64 2]) (by simp [results, Tryd.results24, go_sem, z0, z1, z2, z3, z4]) rfl ⟨rfl, below_put5 B1.out (by omega) _ _ _ _ _⟩
      · have h2 : 4 < k := by omega
        have h3 : decide (k < 0) = false := decide_eq_false h1
        clear hk h1
        go_enter Tryd.func24, Tryd.ntmps24
        go_wp2_with (go_at_call 19; refine (rcheck_any n a b c d 8 0 _ HC).mono ?_; rintro e w1 ⟨rfl, hB⟩; obtain ⟨X1, Z1, hB1⟩ := made2 hB; have B1 := Lib.hid hB1; have Z1 := Lib.hid Z1; clear hB hB1 X1; obtain ⟨v0, v1, v2, v3, v4⟩ := Z1.out.cell5; obtain ⟨g0, g1, g2, g3, g4⟩ := Z1.out.free5)
        obtain ⟨z0, z1, z2, z3, z4⟩ := (Z1.out.put5 (.int .i64 0) (.int .i64 0) (.int .i64 0) (.int .i64 0) (.int .i64 0)).cell5
        exact bodyPost_ret (v := .tuple #[.agg #[.int .i64 0, .int .i64 0, .int .i64 0, .int .i64 0, .int .i64 0], .int .i64 2]) (by simp [results, Tryd.results24, go_sem, z0, z1, z2, z3, z4]) rfl ⟨rfl, below_put5 B1.out (by omega) _ _ _ _ _⟩
    · rw [if_neg hk] at h; cases h
      obtain ⟨N, hN, hN4, hl, hp⟩ := lst_nat hc
      obtain ⟨K, rfl⟩ : ∃ K : Nat, k = K := ⟨k.toNat, by omega⟩
      have k1 : (0 : Int) ≤ K := by omega
      have k2 : (K : Int) ≤ 4 := by omega
      have k3 : K ≤ 4 := by omega
      have k4 : decide ((K : Int) < 0) = false := decide_eq_false (by omega)
      have k5 : decide (4 < (K : Int)) = false := decide_eq_false (by omega)
      rw [Int.toNat_natCast]
      subst hN
      have HL := Lib.hid hl
      have HP := Lib.hid hp
      generalize lst ((N : Int), a, b, c, d) = l at HL HP ⊢
      obtain ⟨⟨y0, y1, y2, y3, y4⟩, hy⟩ : ∃ y, pad5 (l.take K) = y := ⟨_, rfl⟩
      rw [hy]
      have HY : Hid (pad5 ((l ++ []).take K) = (y0, y1, y2, y3, y4)) := Lib.hid (by rw [List.append_nil]; exact hy)
      clear hl hp hc hk H hy
      go_enter Tryd.func24, Tryd.ntmps24
      go_wp2_with (first
        | (go_at_call 19; refine (rcheck_any N a b c d 8 0 _ HC).mono ?_; rintro e w1 ⟨rfl, hB⟩; obtain ⟨X1, Z1, hB1⟩ := made2 hB; have B1 := Lib.hid hB1; have Z1 := Lib.hid Z1; obtain ⟨x0, x1, x2, x3, x4⟩ := X1.cell5; clear hB hB1 X1)
        | (go_at_call 54; refine (rplus_any l [] K N 0 a b c d 0 0 0 0 _ k3 hN4 (by omega) HL (Lib.hid rfl) HP (Lib.hid rfl) y0 y1 y2 y3 y4 HY).mono ?_; rintro e w2 ⟨rfl, hB⟩; have B2 := Lib.hid (below_on B1.out (Nat.le_refl _) hB); have Z2 := Lib.hid (Z1.out.below hB); clear hB; obtain ⟨v0, v1, v2, v3, v4⟩ := Z2.out.cell5; obtain ⟨g0, g1, g2, g3, g4⟩ := Z2.out.free5))
      obtain ⟨z0, z1, z2, z3, z4⟩ := (Z2.out.put5 (.int .i64 y0) (.int .i64 y1) (.int .i64 y2) (.int .i64 y3) (.int .i64 y4)).cell5
      exact bodyPost_ret (v := .tuple #[.agg #[.int .i64 y0, .int .i64 y1, .int .i64 y2, .int .i64 y3, .int .i64 y4], .int .i64 0]) (by simp [results, Tryd.results24, go_sem, z0, z1, z2, z3, z4]) rfl ⟨rfl, below_put5 B2.out (by omega) _ _ _ _ _⟩
  · rw [if_pos hc] at h; cases h
    have hr : (chkP n a b c d 8 != 0) = true := by simpa using hc
    have hr2 : (chkP n a b c d 8 == 0) = false := by simpa using hc
    obtain ⟨r, hq⟩ : ∃ r, chkP n a b c d 8 = r := ⟨_, rfl⟩
    rw [hq] at hr hr2 ⊢
    have HR := Lib.hid hq
    clear hc hq H
    go_enter Tryd.func24, Tryd.ntmps24
    go_wp2_with (go_at_call 19; refine (rcheck_any n a b c d 8 r _ HR).mono ?_; rintro e w1 ⟨rfl, hB⟩; obtain ⟨X1, Z1, hB1⟩ := made2 hB; have B1 := Lib.hid hB1; have Z1 := Lib.hid Z1; clear hB hB1 X1; obtain ⟨v0, v1, v2, v3, v4⟩ := Z1.out.cell5; obtain ⟨g0, g1, g2, g3, g4⟩ := Z1.out.free5)
    obtain ⟨z0, z1, z2, z3, z4⟩ := (Z1.out.put5 (.int .i64 0) (.int .i64 0) (.int .i64 0) (.int .i64 0) (.int .i64 0)).cell5
    exact bodyPost_ret (v := .tuple #[.agg #[.int .i64 0, .int .i64 0, .int .i64 0, .int .i64 0, .int .i64 0], .int .i64 r]) (by simp [results, Tryd.results24, go_sem, z0, z1, z2, z3, z4]) rfl ⟨rfl, below_put5 B1.out (by omega) _ _ _ _ _⟩
set_option maxRecDepth 100000 in
set_option maxHeartbeats 2000000 in
theorem rorder_any (l m : List Int) (N M : Nat) (a b c d a' b' c' d' r : Int) (w : World) (hN : N ≤ 4) (hM : M ≤ 4) (HL : Hid (l.length = N)) (HM : Hid (m.length = M)) (HP : Hid (pad5 l = ((N : Int), a, b, c, d))) (HQ : Hid (pad5 m = ((M : Int), a', b', c', d'))) (HR : Hid (cmpL l m = r)) :
    Calls Tryd.prog 57 #[.agg #[.int .i64 N, .int .i64 a, .int .i64 b, .int .i64 c, .int .i64 d], .agg #[.int .i64 M, .int .i64 a', .int .i64 b', .int .i64 c', .int .i64 d']] w fun e w' => e = .returned (.int .i64 r) ∧ Below w.heap.size w w' := by
  have n2 : (N : Int) ≤ 4 := by omega
  have m2 : (M : Int) ≤ 4 := by omega
  have X0 := Lib.hid ((Box.new w 25 #[.int .i64 N, .int .i64 a, .int .i64 b, .int .i64 c, .int .i64 d]).alloc (.cells #[.int .i64 M, .int .i64 a', .int .i64 b', .int .i64 c', .int .i64 d'] 25))
  have Y0 := Lib.hid (new2 w (.cells #[.int .i64 N, .int .i64 a, .int .i64 b, .int .i64 c, .int .i64 d] 25) 25 #[.int .i64 M, .int .i64 a', .int .i64 b', .int .i64 c', .int .i64 d'])
  have B0 : Hid (Below w.heap.size w ((w.alloc (.cells #[.int .i64 N, .int .i64 a, .int .i64 b, .int .i64 c, .int .i64 d] 25)).alloc (.cells #[.int .i64 M, .int .i64 a', .int .i64 b', .int .i64 c', .int .i64 d'] 25))) := Lib.hid (((Below.refl w.heap.size w).alloc (Nat.le_refl _) _).alloc (by simp) _)
  go_enter Tryd.func57, Tryd.ntmps57
  go_wp2
  generalize (w.alloc (.cells #[.int .i64 N, .int .i64 a, .int .i64 b, .int .i64 c, .int .i64 d] 25)).alloc (.cells #[.int .i64 M, .int .i64 a', .int .i64 b', .int .i64 c', .int .i64 d'] 25) = W at X0 Y0 B0 ⊢
  go_loopw [5] (fun i wr => ∃ j n : Nat, i = .int .i64 j ∧ j ≤ N ∧ j ≤ M ∧ Hid (cmpL (l.drop j) (m.drop j) = r) ∧ wr = W.drewN n) (fun i _ => N - (intOf i).toNat)
  case atStart => exact ⟨0, 0, rfl, by omega, by omega, HR, rfl⟩
  case round =>
    obtain ⟨j, n, rfl, hj, hjm, HK, rfl⟩ := hrel
    have x0 := X0.out.cell 0
    have y0 := Y0.out.cell 0
    simp at x0 y0
    by_cases hlt : j < N ∧ j < M
    · obtain ⟨hl1, hl2⟩ := hlt
      have hjl : j < l.length := by have := HL.out; omega
      have hjm2 : j < m.length := by have := HM.out; omega
      have j4 : j < 4 := by omega
      have xk := X0.out.place j j4
      have yk := Y0.out.place j j4
      have e1 := pad5_pl (l := l) (by have := HL.out; omega) HP.out j
      have e2 := pad5_pl (l := m) (by have := HM.out; omega) HQ.out j
      have hh := HK.out
      have hd : l.drop j = l[j]?.getD 0 :: l.drop (j + 1) := by rw [List.getElem?_eq_getElem hjl]; exact List.drop_eq_getElem_cons hjl
      have he : m.drop j = m[j]?.getD 0 :: m.drop (j + 1) := by rw [List.getElem?_eq_getElem hjm2]; exact List.drop_eq_getElem_cons hjm2
      rw [hd, he, ← e1, ← e2, cmpL_cons] at hh
      generalize pl a b c d j = x at xk hh
      generalize pl a' b' c' d' j = y at yk hh
      clear hd he e1 e2 HK
      by_cases h1 : x < y
      · rw [if_pos h1] at hh
        have HH := Lib.hid hh
        have hne : (x != y) = true := by simp; omega
        clear hh
        go_wp2
        go_quiet (fail)
        go_wp2
        go_quiet (fail)
        go_wp2
        go_ret
        exact ⟨ret_int HH.out, below_drewN (below_drewN (below_drewN B0.out _) _) _⟩
      · rw [if_neg h1] at hh
        have hd1 : decide (x < y) = false := decide_eq_false h1
        by_cases h2 : y < x
        · rw [if_pos h2] at hh
          have HH := Lib.hid hh
          have hne : (x != y) = true := by simp; omega
          clear hh h1
          go_wp2
          go_quiet (fail)
          go_wp2
          go_quiet (fail)
          go_wp2
          go_ret
          exact ⟨ret_int HH.out, below_drewN (below_drewN (below_drewN B0.out _) _) _⟩
        · rw [if_neg h2] at hh
          have HH := Lib.hid hh
          obtain rfl : x = y := by omega
          clear hh h1 h2 hd1
          go_wp2
          go_quiet (fail)
          go_wp2
          go_roundw
          case rel => exact ⟨j + 1, _, by go_num, by omega, by omega, HH, rfl⟩
          case measure => simp [intOf]; omega
    · have hh := HK.out
      have hL := HL.out
      have hM2 := HM.out
      by_cases hjN : j = N
      · subst hjN
        rw [List.drop_of_length_le (by omega)] at hh
        by_cases hjM : j = M
        · subst hjM
          rw [List.drop_of_length_le (by omega)] at hh
          have HH : Hid ((0 : Int) = r) := Lib.hid hh
          clear hlt hh hL hM2 hjm
          go_wp2
          go_ret
          exact ⟨ret_int HH.out, below_drewN B0.out _⟩
        · have hlt2 : j < M := by omega
          have hd : m.drop j = m[j]'(by omega) :: m.drop (j + 1) := List.drop_eq_getElem_cons (by omega)
          rw [hd] at hh
          have HH : Hid ((-1 : Int) = r) := Lib.hid hh
          clear hlt hh hL hM2 hd hjM
          go_wp2
          go_ret
          exact ⟨ret_int HH.out, below_drewN B0.out _⟩
      · have hjM : j = M := by omega
        subst hjM
        rw [List.drop_of_length_le (l := m) (by omega)] at hh
        have hlt2 : j < N := by omega
        have hd : l.drop j = l[j]'(by omega) :: l.drop (j + 1) := List.drop_eq_getElem_cons (by omega)
        rw [hd] at hh
        have HH : Hid ((1 : Int) = r) := Lib.hid hh
        have t1 : decide (N < j) = false := decide_eq_false (by omega)
        clear hlt hh hL hM2 hd hjN
        go_wp2
        go_ret
        exact ⟨ret_int HH.out, below_drewN B0.out _⟩
end Go.Proofs.YtddackdghphcnaaDoor.s13
