/-
  Layer 13: the program's Join.
-/
import Derived.Test.YtddackdghphcnaaDoorS13G
import Derived.Test.YtddackdghphcnaaDoorS13H
import Derived.BigRegion
namespace Go.Proofs.YtddackdghphcnaaDoor.s13
set_option linter.unusedVariables false
set_option linter.unusedSimpArgs false
open Go.RowKit
open kit

theorem chkTwo (n a b c d n' a' b' c' d' : Int) : (if chkP n a b c d 8 = 0 then chkP n' a' b' c' d' 8 else chkP n a b c d 8) = bothP n a b c d n' a' b' c' d' := rfl
set_option maxRecDepth 100000 in
set_option maxHeartbeats 2000000 in
theorem pjoin_bad (k n a b c d n' a' b' c' d' r : Int) (w : World) (HR : Hid (bothP n a b c d n' a' b' c' d' = r)) (hr : (r != 0) = true) : Calls Tryd.prog 21 #[.int .i64 k, .agg #[.int .i64 n, .int .i64 a, .int .i64 b, .int .i64 c, .int .i64 d], .agg #[.int .i64 n', .int .i64 a', .int .i64 b', .int .i64 c', .int .i64 d']] w fun e w' => e = .returned (LE no5 r) ∧ Below w.heap.size w w' := by
  go_enter Tryd.func21, Tryd.ntmps21
  go_wp2_with (go_at_call 46; refine (checkall_two n a b c d n' a' b' c' d' r _ _ (new4 _ _ _ _ _ _) HR).mono ?_; rintro e w1 ⟨rfl, hB⟩; obtain ⟨X1, Y1, Z1, hB1⟩ := made4 hB; have B1 := Lib.hid hB1; have Z1 := Lib.hid Z1; clear hB hB1 X1 Y1; obtain ⟨v0, v1, v2, v3, v4⟩ := Z1.out.cell5; obtain ⟨g0, g1, g2, g3, g4⟩ := Z1.out.free5)
  obtain ⟨z0, z1, z2, z3, z4⟩ := (Z1.out.put5 (.int .i64 0) (.int .i64 0) (.int .i64 0) (.int .i64 0) (.int .i64 0)).cell5
  exact bodyPost_ret (v := .tuple #[.agg #[.int .i64 0, .int .i64 0, .int .i64 0, .int .i64 0, .int .i64 0], .int .i64 r]) (by simp [results, Tryd.results21, go_sem, z0, z1, z2, z3, z4]) rfl ⟨rfl, below_put5 B1.out (by omega) _ _ _ _ _⟩
set_option maxRecDepth 100000 in
set_option maxHeartbeats 2000000 in
theorem pjoin_range (k n a b c d n' a' b' c' d' : Int) (w : World) (HR : Hid (bothP n a b c d n' a' b' c' d' = 0)) (hk : k < 1 ∨ 4 < k) : Calls Tryd.prog 21 #[.int .i64 k, .agg #[.int .i64 n, .int .i64 a, .int .i64 b, .int .i64 c, .int .i64 d], .agg #[.int .i64 n', .int .i64 a', .int .i64 b', .int .i64 c', .int .i64 d']] w fun e w' => e = .returned (LE no5 2) ∧ Below w.heap.size w w' := by
  by_cases h1 : k < 1
  · clear hk
    go_enter Tryd.func21, Tryd.ntmps21
    go_wp2_with (go_at_call 46; refine (checkall_two n a b c d n' a' b' c' d' 0 _ _ (new4 _ _ _ _ _ _) HR).mono ?_; rintro e w1 ⟨rfl, hB⟩; obtain ⟨X1, Y1, Z1, hB1⟩ := made4 hB; have B1 := Lib.hid hB1; have Z1 := Lib.hid Z1; clear hB hB1 X1 Y1; obtain ⟨v0, v1, v2, v3, v4⟩ := Z1.out.cell5; obtain ⟨g0, g1, g2, g3, g4⟩ := Z1.out.free5)
    obtain ⟨z0, z1, z2, z3, z4⟩ := (Z1.out.put5 (.int .i64 0) (.int .i64 0) (.int .i64 0) (.int .i64 0) (.int .i64 0)).cell5
    exact bodyPost_ret (v := .tuple #[.agg #[.int .i64 0, .int .i64 0, .int .i64 0, .int .i64 0, .int .i64 0], .int .i64 2]) (by simp [results, Tryd.results21, go_sem, z0, z1, z2, z3, z4]) rfl ⟨rfl, below_put5 B1.out (by omega) _ _ _ _ _⟩
  · have h2 : 4 < k := by omega
    have h3 : decide (k < 1) = false := decide_eq_false h1
    clear hk h1
    go_enter Tryd.func21, Tryd.ntmps21
    go_wp2_with (go_at_call 46; refine (checkall_two n a b c d n' a' b' c' d' 0 _ _ (new4 _ _ _ _ _ _) HR).mono ?_; rintro e w1 ⟨rfl, hB⟩; obtain ⟨X1, Y1, Z1, hB1⟩ := made4 hB; have B1 := Lib.hid hB1; have Z1 := Lib.hid Z1; clear hB hB1 X1 Y1; obtain ⟨v0, v1, v2, v3, v4⟩ := Z1.out.cell5; obtain ⟨g0, g1, g2, g3, g4⟩ := Z1.out.free5)
    obtain ⟨z0, z1, z2, z3, z4⟩ := (Z1.out.put5 (.int .i64 0) (.int .i64 0) (.int .i64 0) (.int .i64 0) (.int .i64 0)).cell5
    exact bodyPost_ret (v := .tuple #[.agg #[.int .i64 0, .int .i64 0, .int .i64 0, .int .i64 0, .int .i64 0], .int .i64 2]) (by simp [results, Tryd.results21, go_sem, z0, z1, z2, z3, z4]) rfl ⟨rfl, below_put5 B1.out (by omega) _ _ _ _ _⟩
/-- two looks, the second one laid behind the first, up to k -/
theorem join_places {l m : List Int} {k : Nat} (hk : k ≤ 4) {f : Nat → Int} (hf : ∀ i, f i = (l.take k)[i]?.getD 0) (zs : List Int) (hz : zs = m.take (k - min l.length k)) : ∀ i, over f (min l.length k) zs i = ((l ++ m).take k)[i]?.getD 0 := by
  intro i
  subst hz
  unfold over
  rw [hf]
  have h1 : ∀ (q : List Int) j, q[j]?.getD 0 = if h : j < q.length then q[j] else 0 := fun q j => by
    by_cases h : j < q.length
    · rw [dif_pos h, List.getElem?_eq_getElem h]; rfl
    · rw [dif_neg h, List.getElem?_eq_none (by omega)]; rfl
  by_cases hlk : l.length ≤ k
  · rw [Nat.min_eq_left hlk]
    by_cases hi : l.length ≤ i ∧ i < l.length + (m.take (k - l.length)).length
    · rw [if_pos hi]
      rw [List.length_take] at hi
      rw [List.getElem?_take, if_pos (by omega), List.getElem?_take, if_pos (by omega), List.getElem?_append_right (by omega)]
    · rw [if_neg hi]
      rw [List.length_take] at hi
      rw [List.getElem?_take, List.getElem?_take]
      by_cases hik : i < k
      · rw [if_pos hik, if_pos hik]
        by_cases h2 : i < l.length
        · rw [List.getElem?_append_left h2]
        · rw [List.getElem?_append_right (by omega), List.getElem?_eq_none (by omega), List.getElem?_eq_none (by omega)]
      · rw [if_neg hik, if_neg hik]
  · rw [Nat.min_eq_right (by omega), Nat.sub_self, List.take_zero, if_neg (by simp only [List.length_nil]; omega)]
    rw [List.getElem?_take, List.getElem?_take]
    by_cases hik : i < k
    · rw [if_pos hik, if_pos hik, List.getElem?_append_left (by omega)]
    · rw [if_neg hik, if_neg hik]
set_option maxRecDepth 100000 in
set_option maxHeartbeats 2000000 in
theorem pjoin_ok (l m : List Int) (k N M : Nat) (a b c d a' b' c' d' : Int) (w : World) (HR : Hid (bothP N a b c d M a' b' c' d' = 0)) (k1 : 1 ≤ k) (k2 : k ≤ 4) (hN : N ≤ 4) (hM : M ≤ 4) (HL : Hid (l.length = N)) (HM : Hid (m.length = M)) (HP : Hid (pad5 l = ((N : Int), a, b, c, d))) (HQ : Hid (pad5 m = ((M : Int), a', b', c', d')))
    (y0 y1 y2 y3 y4 : Int) (HY : Hid (pad5 ((l ++ m).take k) = (y0, y1, y2, y3, y4))) :
    Calls Tryd.prog 21 #[.int .i64 k, .agg #[.int .i64 N, .int .i64 a, .int .i64 b, .int .i64 c, .int .i64 d], .agg #[.int .i64 M, .int .i64 a', .int .i64 b', .int .i64 c', .int .i64 d']] w fun e w' => e = .returned (LE (y0, y1, y2, y3, y4) 0) ∧ Below w.heap.size w w' := by
  have i1 : (1 : Int) ≤ k := by omega
  have i2 : (k : Int) ≤ 4 := by omega
  have i3 : decide ((k : Int) < 1) = false := decide_eq_false (by omega)
  have i4 : decide (4 < (k : Int)) = false := decide_eq_false (by omega)
  have hcut := cutP_look (l := l) (by have := HL.out; omega) (pad5_of HP.out) k
  obtain ⟨⟨q, c0, c1, c2, c3⟩, hq⟩ : ∃ u, cutP N k a b c d = u := ⟨_, rfl⟩
  have HC := Lib.hid hq
  rw [hq] at hcut
  have hq' : q = min N k := by have := congrArg Prod.fst hq; simpa [cutP] using this.symm
  have hqk : q ≤ k := by omega
  have HCut := Lib.hid hcut
  have HQ1 := Lib.hid hq'
  clear hcut hq hq'
  go_enter Tryd.func21, Tryd.ntmps21
  go_wp2_with (first
    | (go_at_call 46; refine (checkall_two N a b c d M a' b' c' d' 0 _ _ (new4 _ _ _ _ _ _) HR).mono ?_; rintro e w1 ⟨rfl, hB⟩; obtain ⟨X1, Y1, Z1, hB1⟩ := made4 hB; have B1 := Lib.hid hB1; have Y1 := Lib.hid Y1; have Z1 := Lib.hid Z1; obtain ⟨x0, x1, x2, x3, x4⟩ := X1.cell5; clear hB hB1 X1)
    | (go_at_call 52; refine (cut_any N k a b c d _ (by omega) q c0 c1 c2 c3 HC).mono ?_; rintro e w2 ⟨rfl, hB⟩; have B2 := Lib.hid (below_on B1.out (Nat.le_refl _) hB); have Y2 := Lib.hid (Y1.out.below hB); have Z2 := Lib.hid (Z1.out.below hB); clear hB x0 x1 x2 x3 x4))
  have G0 := (Box.new w2 25 #[.int .i64 q, .int .i64 c0, .int .i64 c1, .int .i64 c2, .int .i64 c3]).drew
  have RY : ReadsI (w2.alloc (.cells #[.int .i64 q, .int .i64 c0, .int .i64 c1, .int .i64 c2, .int .i64 c3] 25)).drew (some ⟨w.heap.size + 1, 1, none⟩) (m.take (k - q)) := fun i hi => by
    have hY := (Y2.out.alloc (.cells #[.int .i64 q, .int .i64 c0, .int .i64 c1, .int .i64 c2, .int .i64 c3] 25)).drew
    rw [List.length_take] at hi
    have hml := HM.out
    refine ⟨w.heap.size + 1, 1, rfl, hY.lt, ?_⟩
    rw [hY.place i (by omega), pad5_pl (by omega) HQ.out, List.getElem?_take, if_pos (by omega)]
  have hzl : (m.take (k - q)).length = min (k - q) M := by rw [List.length_take, HM.out]
  obtain ⟨W, hcl, GW, hO, hBW, hsz⟩ := copy_box (f := pl c0 c1 c2 c3) G0 q (k - q) (4 - q) (some (if 4 = q then ⟨w2.heap.size, 1, none⟩ else ⟨w2.heap.size, 1 + q, none⟩)) (some ⟨w.heap.size + 1, 1, none⟩) M 4 (m.take (k - q)) (by rw [hzl]; exact Nat.min_comm _ _) (by rw [hzl]; omega) RY (by
    by_cases h4 : 4 = q
    · exact .inl (by omega)
    · rw [if_neg h4]; exact .inr rfl)
  have hg : w.heap.size + 1 + 1 < w2.heap.size := Z2.out.lt
  have ZW := Lib.hid (hO _ _ _ (by omega) ((Z2.out.alloc (.cells #[.int .i64 q, .int .i64 c0, .int .i64 c1, .int .i64 c2, .int .i64 c3] 25)).drew))
  have YW := Lib.hid (hO _ _ _ (by omega) ((Y2.out.alloc (.cells #[.int .i64 q, .int .i64 c0, .int .i64 c1, .int .i64 c2, .int .i64 c3] 25)).drew))
  have BW := Lib.hid (hBW w.heap.size w (by omega) (B2.out.alloc B2.out.size (.cells #[.int .i64 q, .int .i64 c0, .int .i64 c1, .int .i64 c2, .int .i64 c3] 25)).drew)
  obtain ⟨L, hL⟩ : ∃ L, (m.take (k - q)).length = L := ⟨_, rfl⟩
  rw [hL] at hcl hzl
  have HZL := Lib.hid hzl
  have hL4 : L ≤ 4 := by omega
  have GH := Lib.hid GW
  have jq0 : (0 : Int) ≤ q := by omega
  have jq1 : (q : Int) ≤ k := by omega
  have jM0 : (0 : Int) ≤ M := by omega
  have jM4 : (M : Int) ≤ 4 := by omega
  have jL : (L : Int) ≤ 4 := by omega
  have e0 : (w2.alloc (.cells #[.int .i64 q, .int .i64 c0, .int .i64 c1, .int .i64 c2, .int .i64 c3] 25)).drew.cell? ⟨w2.heap.size, 0, none⟩ = some (.int .i64 q) := G0.cell 0
  have e1 : (w2.alloc (.cells #[.int .i64 q, .int .i64 c0, .int .i64 c1, .int .i64 c2, .int .i64 c3] 25)).drew.cell? ⟨w.heap.size + 1, 0, none⟩ = some (.int .i64 M) := ((Y2.out.alloc (.cells #[.int .i64 q, .int .i64 c0, .int .i64 c1, .int .i64 c2, .int .i64 c3] 25)).drew).cell 0
  have e2 : W.cell? ⟨w2.heap.size, 0, none⟩ = some (.int .i64 q) := GW.cell 0
  have e3 : W.cell? ⟨w.heap.size + 1, 0, none⟩ = some (.int .i64 M) := YW.out.cell 0
  have e4 : W.frozen? ⟨w2.heap.size, 0, none⟩ = false := GW.free 0
  clear G0 RY hO hBW hsz GW hL hzl Y1 Z1 Y2 Z2 B1 B2
  generalize hW0 : w2.alloc (.cells #[.int .i64 q, .int .i64 c0, .int .i64 c1, .int .i64 c2, .int .i64 c3] 25) = W0 at hcl e0 e1 ⊢
  clear hW0
  go_region
  have hj := join_places (l := l) (m := m) k2 (f := pl c0 c1 c2 c3) (fun i => by
    have hlt : (l.take k).length ≤ 4 := by rw [List.length_take]; omega
    have e := HCut.out
    simp only [pad, Prod.mk.injEq] at e
    obtain ⟨e0, e1, e2, e3, e4⟩ := e
    exact pad5_pl (l := l.take k) (n := ((l.take k).length : Int)) hlt (by simp only [pad5]; rw [e1, e2, e3, e4]) i) (m.take (k - q)) (by rw [HL.out, HQ1.out])
  rw [HL.out, ← HQ1.out] at hj
  have hy := HY.out
  simp only [pad5, Prod.mk.injEq] at hy
  obtain ⟨t0, t1, t2, t3, t4⟩ := hy
  have GN := GH.out
  rw [hj 0, hj 1, hj 2, hj 3, t1, t2, t3, t4] at GN
  have t5 : (q : Int) + L = y0 := by
    rw [← t0, List.length_take, List.length_append, HL.out, HM.out]
    have := HZL.out
    have := HQ1.out
    omega
  have HT := Lib.hid t5
  have G2 := GN.set 0 (by simp) (.int .i64 (q + L))
  have Z3 := Lib.hid (ZW.out.other (b' := w2.heap.size) (i := 0) (by omega) (.int .i64 (q + L)))
  have B3 := Lib.hid (BW.out.setCell (p := ⟨w2.heap.size, 0, none⟩) (show w.heap.size ≤ w2.heap.size by omega) (.int .i64 (q + L)))
  clear hj t0 t1 t2 t3 t4 t5 GN GH ZW YW BW e0 e1 e2 e3 e4 hcl
  generalize W.setCell ⟨w2.heap.size, 0, none⟩ (.int .i64 (q + L)) = W5 at G2 Z3 B3 ⊢
  obtain ⟨x0, x1, x2, x3, x4⟩ := G2.cell5
  obtain ⟨v0, v1, v2, v3, v4⟩ := Z3.out.cell5
  obtain ⟨g0, g1, g2, g3, g4⟩ := Z3.out.free5
  clear G2
  generalize (if 4 = q then (⟨w2.heap.size, 1, none⟩ : Addr) else ⟨w2.heap.size, 1 + q, none⟩) = ad
  go_wp2
  obtain ⟨z0, z1, z2, z3, z4⟩ := (Z3.out.put5 (.int .i64 (q + L)) (.int .i64 y1) (.int .i64 y2) (.int .i64 y3) (.int .i64 y4)).cell5
  exact bodyPost_ret (v := .tuple #[.agg #[.int .i64 (q + L), .int .i64 y1, .int .i64 y2, .int .i64 y3, .int .i64 y4], .int .i64 0]) (by simp [results, Tryd.results21, go_sem, z0, z1, z2, z3, z4]) rfl ⟨by rw [HT.out], below_put5 B3.out (by omega) _ _ _ _ _⟩
end Go.Proofs.YtddackdghphcnaaDoor.s13
