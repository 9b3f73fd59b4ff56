/-
  Layer 13: the program's List (slices.Clone). Layer 13: the program's Join. Layer 13: what the functions say, of looks by their cells. Layer 13: the reference's Plus.
-/
import Derived.Test.YtddackdghphcnaaDoorG04
import Derived.BigRegion
import Derived.Test.YtddackdghphcnaaDoorG03
namespace Go.Proofs.YtddackdghphcnaaDoor.s13
set_option linter.unusedVariables false
set_option linter.unusedSimpArgs false
open Go.RowKit
open kit

set_option maxRecDepth 100000 in
set_option maxHeartbeats 1000000 in
theorem clone_any (x : Addr) (n cp : Nat) (zs : List Int) (w : World) (hn : zs.length = n) (hn4 : n ≤ 1000) (hr : ReadsI w (some x) zs) (hx : x.spot = none) : Calls Tryd.prog 47 #[.slice (some x) n cp] w fun e w' => ∃ a' c', e = .returned (.slice a' n c') ∧ ReadsI w' a' zs ∧ Below w.heap.size w w' := by
  have hs : Src w (some x) cp (zs.map (Value.int .i64)) := by
    refine .inr ⟨x, rfl, fun j u hu => ?_⟩
    rw [List.getElem?_map] at hu
    have hj : j < zs.length := by
      rcases Nat.lt_or_ge j zs.length with h | h
      · exact h
      · rw [List.getElem?_eq_none h] at hu; cases hu
    obtain ⟨b, off, e, _, hc⟩ := hr j hj
    cases e
    rw [Go.WideShapes.add_plain, hc]
    rw [List.getElem?_eq_getElem hj] at hu ⊢
    simpa using hu
  have HS := Lib.hid (hs.alloc (.cells #[] 3))
  have HN := Lib.hid hn
  have hq : ∀ W, (binOp .eql 22 (.slice (some x) n cp) (.slice none 0 0)).run Tryd.prog W = .ok (.bool false) W := fun W => Lib.run_eql_slice_nil W _ _ _ _ _ _ _ Tryd.underlying22
  clear hn hs hr
  go_enter Tryd.func47, Tryd.ntmps47
  go_wp2_with (at_builtin; refine append_in Tryd.underlying22 info3 rfl (by omega) rfl (.tmp 5) (.tmp 6) rfl w.heap.size _ 0 [] rfl (empty_row 3 w _ (Nat.le_refl _)) (some x) (zs.map (Value.int .i64)) n cp rfl (by simp [HN.out]) HS.out (by simp [Value.oneCell']) (by omega) (by simp) ?_; intro v1 wA hv1 hBA; simp only [Nat.zero_add, List.nil_append] at hv1; obtain ⟨a1, k1, rfl⟩ := row_shape hv1)
  go_ret
  exact ⟨a1, k1, rfl, reads_of_row HN.out hv1, ((Below.refl _ w).alloc (Nat.le_refl _) _).trans hBA⟩
set_option maxRecDepth 100000 in
set_option maxHeartbeats 2000000 in
theorem plist_bad (n a b c d r : Int) (w : World) (HR : Hid (chkP n a b c d 8 = r)) (hr : (r != 0) = true) : Calls Tryd.prog 14 #[.agg #[.int .i64 n, .int .i64 a, .int .i64 b, .int .i64 c, .int .i64 d]] w fun e w' => e = .returned (.tuple #[.slice none 0 0, .int .i64 r]) ∧ Below w.heap.size w w' := by
  go_enter Tryd.func14, Tryd.ntmps14
  go_wp2_with (go_at_call 46; refine (checkall_one n a b c d r _ _ (new2 _ _ _ _) HR).mono ?_; rintro e w1 ⟨rfl, hB⟩; obtain ⟨X1, _, hB1⟩ := made2 hB; have B1 := Lib.hid hB1; clear hB hB1 X1)
  go_ret2
  exact ⟨rfl, B1.out⟩
theorem reads_places {w : World} {g : Nat} {x : Value} {a b c d : Int} {l : List Int} {n : Int} (X : Box w 25 g #[x, .int .i64 a, .int .i64 b, .int .i64 c, .int .i64 d]) (hl : l.length ≤ 4) (hp : pad5 l = (n, a, b, c, d)) : ReadsI w (some ⟨g, 1, none⟩) l := fun i hi =>
  ⟨g, 1, rfl, X.lt, by rw [X.place i (by omega), pad5_pl hl hp]⟩
set_option maxRecDepth 100000 in
set_option maxHeartbeats 2000000 in
theorem plist_ok (l : List Int) (N : Nat) (a b c d : Int) (w : World) (HR : Hid (chkP N a b c d 8 = 0)) (hN : N ≤ 4) (HL : Hid (l.length = N)) (HP : Hid (pad5 l = ((N : Int), a, b, c, d))) :
    Calls Tryd.prog 14 #[.agg #[.int .i64 N, .int .i64 a, .int .i64 b, .int .i64 c, .int .i64 d]] w fun e w' => ∃ a' c', e = .returned (.tuple #[.slice a' N c', .int .i64 0]) ∧ ReadsI w' a' l ∧ Below w.heap.size w w' := by
  have n1 : (0 : Int) ≤ N := by omega
  have n2 : (N : Int) ≤ 4 := by omega
  go_enter Tryd.func14, Tryd.ntmps14
  go_wp2_with (first
    | (go_at_call 46; refine (checkall_one N a b c d 0 _ _ (new2 _ _ _ _) HR).mono ?_; rintro e w1 ⟨rfl, hB⟩; obtain ⟨X1, _, hB1⟩ := made2 hB; have B1 := Lib.hid hB1; have R1 := Lib.hid (reads_places X1 (by have := HL.out; omega) HP.out); clear hB hB1; have x0 := X1.cell 0; simp at x0; clear X1)
    | (go_at_call 47; refine (clone_any _ N _ l _ HL.out (by omega) R1.out rfl).mono ?_; rintro e w2 ⟨a2, c2, rfl, hR2, hB⟩; have B2 := Lib.hid (below_on B1.out (Nat.le_refl _) hB); have R2 := Lib.hid hR2; clear hB hR2))
  go_ret2
  exact ⟨a2, c2, rfl, R2.out, B2.out⟩
end Go.Proofs.YtddackdghphcnaaDoor.s13

namespace Go.Proofs.YtddackdghphcnaaDoor.s13
set_option linter.unusedVariables false
set_option linter.unusedSimpArgs false
open Go.RowKit
open kit

theorem chkTwo (n a b c d n' a' b' c' d' : Int) : (if chkP n a b c d 8 = 0 then chkP n' a' b' c' d' 8 else chkP n a b c d 8) = bothP n a b c d n' a' b' c' d' := rfl
set_option maxRecDepth 100000 in
set_option maxHeartbeats 2000000 in
theorem pjoin_bad (k n a b c d n' a' b' c' d' r : Int) (w : World) (HR : Hid (bothP n a b c d n' a' b' c' d' = r)) (hr : (r != 0) = true) : Calls Tryd.prog 21 #[.int .i64 k, .agg #[.int .i64 n, .int .i64 a, .int .i64 b, .int .i64 c, .int .i64 d], .agg #[.int .i64 n', .int .i64 a', .int .i64 b', .int .i64 c', .int .i64 d']] w fun e w' => e = .returned (LE no5 r) ∧ Below w.heap.size w w' := by
  go_enter Tryd.func21, Tryd.ntmps21
  go_wp2_with (go_at_call 46; refine (checkall_two n a b c d n' a' b' c' d' r _ _ (new4 _ _ _ _ _ _) HR).mono ?_; rintro e w1 ⟨rfl, hB⟩; obtain ⟨X1, Y1, Z1, hB1⟩ := made4 hB; have B1 := Lib.hid hB1; have Z1 := Lib.hid Z1; clear hB hB1 X1 Y1; obtain ⟨v0, v1, v2, v3, v4⟩ := Z1.out.cell5; obtain ⟨g0, g1, g2, g3, g4⟩ := Z1.out.free5)
  obtain ⟨z0, z1, z2, z3, z4⟩ := (Z1.out.put5 (.int .i64 0) (.int .i64 0) (.int .i64 0) (.int .i64 0) (.int .i64 0)).cell5
  exact bodyPost_ret (v := .tuple #[.agg #[.int .i64 0, .int .i64 0, .int .i64 0, .int .i64 0, .int .i64 0], .int .i64 r]) (by simp [results, Tryd.results21, go_sem, z0, z1, z2, z3, z4]) rfl ⟨rfl, below_put5 B1.out (by omega) _ _ _ _ _⟩
set_option maxRecDepth 100000 in
set_option maxHeartbeats 2000000 in
theorem pjoin_range (k n a b c d n' a' b' c' d' : Int) (w : World) (HR : Hid (bothP n a b c d n' a' b' c' d' = 0)) (hk : k < 1 ∨ 4 < k) : Calls Tryd.prog 21 #[.int .i64 k, .agg #[.int .i64 n, .int .i64 a, .int .i64 b, .int .i64 c, .int .i64 d], .agg #[.int .i64 n', .int .i64 a', .int .i64 b', .int .i64 c', .int .i64 d']] w fun e w' => e = .returned (LE no5 2) ∧ Below w.heap.size w w' := by
  by_cases h1 : k < 1
  · clear hk
    go_enter Tryd.func21, Tryd.ntmps21
    go_wp2_with (go_at_call 46; refine (checkall_two n a b c d n' a' b' c' d' 0 _ _ (new4 _ _ _ _ _ _) HR).mono ?_; rintro e w1 ⟨rfl, hB⟩; obtain ⟨X1, Y1, Z1, hB1⟩ := made4 hB; have B1 := Lib.hid hB1; have Z1 := Lib.hid Z1; clear hB hB1 X1 Y1; obtain ⟨v0, v1, v2, v3, v4⟩ := Z1.out.cell5; obtain ⟨g0, g1, g2, g3, g4⟩ := Z1.out.free5)
    obtain ⟨z0, z1, z2, z3, z4⟩ := (Z1.out.put5 (.int .i64 0) (.int .i64 0) (.int .i64 0) (.int .i64 0) (.int .i64 0)).cell5
    exact bodyPost_ret (v := .tuple #[.agg #[.int .i64 0, .int .i64 0, .int .i64 0, .int .i64 0, .int .i64 0], .int .i64 2]) (by simp [results, Tryd.results21, go_sem, z0, z1, z2, z3, z4]) rfl ⟨rfl, below_put5 B1.out (by omega) _ _ _ _ _⟩
  · have h2 : 4 < k := by omega
    have h3 : decide (k < 1) = false := decide_eq_false h1
    clear hk h1
    go_enter Tryd.func21, Tryd.ntmps21
    go_wp2_with (go_at_call 46; refine (checkall_two n a b c d n' a' b' c' d' 0 _ _ (new4 _ _ _ _ _ _) HR).mono ?_; rintro e w1 ⟨rfl, hB⟩; obtain ⟨X1, Y1, Z1, hB1⟩ := made4 hB; have B1 := Lib.hid hB1; have Z1 := Lib.hid Z1; clear hB hB1 X1 Y1; obtain ⟨v0, v1, v2, v3, v4⟩ := Z1.out.cell5; obtain ⟨g0, g1, g2, g3, g4⟩ := Z1.out.free5)
    obtain ⟨z0, z1, z2, z3, z4⟩ := (Z1.out.put5 (.int .i64 0) (.int .i64 0) (.int .i64 0) (.int .i64 0) (.int .i64 0)).cell5
    exact bodyPost_ret (v := .tuple #[.agg #[.int .i64 0, .int .i64 0, .int .i64 0, .int .i64 0, .int .i64 0], .int .i64 2]) (by simp [results, Tryd.results21, go_sem, z0, z1, z2, z3, z4]) rfl ⟨rfl, below_put5 B1.out (by omega) _ _ _ _ _⟩
/-- two looks, the second one laid behind the first, up to k -/
theorem join_places {l m : List Int} {k : Nat} (hk : k ≤ 4) {f : Nat → Int} (hf : ∀ i, f i = (l.take k)[i]?.getD 0) (zs : List Int) (hz : zs = m.take (k - min l.length k)) : ∀ i, over f (min l.length k) zs i = ((l ++ m).take k)[i]?.getD 0 := by
  intro i
  subst hz
  unfold over
  rw [hf]
  have h1 : ∀ (q : List Int) j, q[j]?.getD 0 = if h : j < q.length then q[j] else 0 := fun q j => by
    by_cases h : j < q.length
    · rw [dif_pos h, List.getElem?_eq_getElem h]; rfl
    · rw [dif_neg h, List.getElem?_eq_none (by omega)]; rfl
  by_cases hlk : l.length ≤ k
  · rw [Nat.min_eq_left hlk]
    by_cases hi : l.length ≤ i ∧ i < l.length + (m.take (k - l.length)).length
    · rw [if_pos hi]
      rw [List.length_take] at hi
      rw [List.getElem?_take, if_pos (by omega), List.getElem?_take, if_pos (by omega), List.getElem?_append_right (by omega)]
    · rw [if_neg hi]
      rw [List.length_take] at hi
      rw [List.getElem?_take, List.getElem?_take]
      by_cases hik : i < k
      · rw [if_pos hik, if_pos hik]
        by_cases h2 : i < l.length
        · rw [List.getElem?_append_left h2]
        · rw [List.getElem?_append_right (by omega), List.getElem?_eq_none (by omega), List.getElem?_eq_none (by omega)]
      · rw [if_neg hik, if_neg hik]
  · rw [Nat.min_eq_right (by omega), Nat.sub_self, List.take_zero, if_neg (by simp only [List.length_nil]; omega)]
    rw [List.getElem?_take, List.getElem?_take]
    by_cases hik : i < k
    · rw [if_pos hik, if_pos hik, List.getElem?_append_left (by omega)]
    · rw [if_neg hik, if_neg hik]
set_option maxRecDepth 100000 in
set_option maxHeartbeats 2000000 in
theorem pjoin_ok (l m : List Int) (k N M : Nat) (a b c d a' b' c' d' : Int) (w : World) (HR : Hid (bothP N a b c d M a' b' c' d' = 0)) (k1 : 1 ≤ k) (k2 : k ≤ 4) (hN : N ≤ 4) (hM : M ≤ 4) (HL : Hid (l.length = N)) (HM : Hid (m.length = M)) (HP : Hid (pad5 l = ((N : Int), a, b, c, d))) (HQ : Hid (pad5 m = ((M : Int), a', b', c', d')))
    (y0 y1 y2 y3 y4 : Int) (HY : Hid (pad5 ((l ++ m).take k) = (y0, y1, y2, y3, y4))) :
    Calls Tryd.prog 21 #[.int .i64 k, .agg #[.int .i64 N, .int .i64 a, .int .i64 b, .int .i64 c, .int .i64 d], .agg #[.int .i64 M, .int .i64 a', .int .i64 b', .int .i64 c', .int .i64 d']] w fun e w' => e = .returned (LE (y0, y1, y2, y3, y4) 0) ∧ Below w.heap.size w w' := by
  have i1 : (1 : Int) ≤ k := by omega
  have i2 : (k : Int) ≤ 4 := by omega
  have i3 : decide ((k : Int) < 1) = false := decide_eq_false (by omega)
  have i4 : decide (4 < (k : Int)) = false := decide_eq_false (by omega)
  have hcut := cutP_look (l := l) (by have := HL.out; omega) (pad5_of HP.out) k
  obtain ⟨⟨q, c0, c1, c2, c3⟩, hq⟩ : ∃ u, cutP N k a b c d = u := ⟨_, rfl⟩
  have HC := Lib.hid hq
  rw [hq] at hcut
  have hq' : q = min N k := by have := congrArg Prod.fst hq; simpa [cutP] using this.symm
  have hqk : q ≤ k := by omega
  have HCut := Lib.hid hcut
  have HQ1 := Lib.hid hq'
  clear hcut hq hq'
  go_enter Tryd.func21, Tryd.ntmps21
  go_wp2_with (first
    | (go_at_call 46; refine (checkall_two N a b c d M a' b' c' d' 0 _ _ (new4 _ _ _ _ _ _) HR).mono ?_; rintro e w1 ⟨rfl, hB⟩; obtain ⟨X1, Y1, Z1, hB1⟩ := made4 hB; have B1 := Lib.hid hB1; have Y1 := Lib.hid Y1; have Z1 := Lib.hid Z1; obtain ⟨x0, x1, x2, x3, x4⟩ := X1.cell5; clear hB hB1 X1)
    | (go_at_call 52; refine (cut_any N k a b c d _ (by omega) q c0 c1 c2 c3 HC).mono ?_; rintro e w2 ⟨rfl, hB⟩; have B2 := Lib.hid (below_on B1.out (Nat.le_refl _) hB); have Y2 := Lib.hid (Y1.out.below hB); have Z2 := Lib.hid (Z1.out.below hB); clear hB x0 x1 x2 x3 x4))
  have G0 := (Box.new w2 25 #[.int .i64 q, .int .i64 c0, .int .i64 c1, .int .i64 c2, .int .i64 c3]).drew
  have RY : ReadsI (w2.alloc (.cells #[.int .i64 q, .int .i64 c0, .int .i64 c1, .int .i64 c2, .int .i64 c3] 25)).drew (some ⟨w.heap.size + 1, 1, none⟩) (m.take (k - q)) := fun i hi => by
    have hY := (Y2.out.alloc (.cells #[.int .i64 q, .int .i64 c0, .int .i64 c1, .int .i64 c2, .int .i64 c3] 25)).drew
    rw [List.length_take] at hi
    have hml := HM.out
    refine ⟨w.heap.size + 1, 1, rfl, hY.lt, ?_⟩
    rw [hY.place i (by omega), pad5_pl (by omega) HQ.out, List.getElem?_take, if_pos (by omega)]
  have hzl : (m.take (k - q)).length = min (k - q) M := by rw [List.length_take, HM.out]
  obtain ⟨W, hcl, GW, hO, hBW, hsz⟩ := copy_box (f := pl c0 c1 c2 c3) G0 q (k - q) (4 - q) (some (if 4 = q then ⟨w2.heap.size, 1, none⟩ else ⟨w2.heap.size, 1 + q, none⟩)) (some ⟨w.heap.size + 1, 1, none⟩) M 4 (m.take (k - q)) (by rw [hzl]; exact Nat.min_comm _ _) (by rw [hzl]; omega) RY (by
    by_cases h4 : 4 = q
    · exact .inl (by omega)
    · rw [if_neg h4]; exact .inr rfl)
  have hg : w.heap.size + 1 + 1 < w2.heap.size := Z2.out.lt
  have ZW := Lib.hid (hO _ _ _ (by omega) ((Z2.out.alloc (.cells #[.int .i64 q, .int .i64 c0, .int .i64 c1, .int .i64 c2, .int .i64 c3] 25)).drew))
  have YW := Lib.hid (hO _ _ _ (by omega) ((Y2.out.alloc (.cells #[.int .i64 q, .int .i64 c0, .int .i64 c1, .int .i64 c2, .int .i64 c3] 25)).drew))
  have BW := Lib.hid (hBW w.heap.size w (by omega) (B2.out.alloc B2.out.size (.cells #[.int .i64 q, .int .i64 c0, .int .i64 c1, .int .i64 c2, .int .i64 c3] 25)).drew)
  obtain ⟨L, hL⟩ : ∃ L, (m.take (k - q)).length = L := ⟨_, rfl⟩
  rw [hL] at hcl hzl
  have HZL := Lib.hid hzl
  have hL4 : L ≤ 4 := by omega
  have GH := Lib.hid GW
  have jq0 : (0 : Int) ≤ q := by omega
  have jq1 : (q : Int) ≤ k := by omega
  have jM0 : (0 : Int) ≤ M := by omega
  have jM4 : (M : Int) ≤ 4 := by omega
  have jL : (L : Int) ≤ 4 := by omega
  have e0 : (w2.alloc (.cells #[.int .i64 q, .int .i64 c0, .int .i64 c1, .int .i64 c2, .int .i64 c3] 25)).drew.cell? ⟨w2.heap.size, 0, none⟩ = some (.int .i64 q) := G0.cell 0
  have e1 : (w2.alloc (.cells #[.int .i64 q, .int .i64 c0, .int .i64 c1, .int .i64 c2, .int .i64 c3] 25)).drew.cell? ⟨w.heap.size + 1, 0, none⟩ = some (.int .i64 M) := ((Y2.out.alloc (.cells #[.int .i64 q, .int .i64 c0, .int .i64 c1, .int .i64 c2, .int .i64 c3] 25)).drew).cell 0
  have e2 : W.cell? ⟨w2.heap.size, 0, none⟩ = some (.int .i64 q) := GW.cell 0
  have e3 : W.cell? ⟨w.heap.size + 1, 0, none⟩ = some (.int .i64 M) := YW.out.cell 0
  have e4 : W.frozen? ⟨w2.heap.size, 0, none⟩ = false := GW.free 0
  clear G0 RY hO hBW hsz GW hL hzl Y1 Z1 Y2 Z2 B1 B2
  generalize hW0 : w2.alloc (.cells #[.int .i64 q, .int .i64 c0, .int .i64 c1, .int .i64 c2, .int .i64 c3] 25) = W0 at hcl e0 e1 ⊢
  clear hW0
  go_region
  have hj := join_places (l := l) (m := m) k2 (f := pl c0 c1 c2 c3) (fun i => by
    have hlt : (l.take k).length ≤ 4 := by rw [List.length_take]; omega
    have e := HCut.out
    simp only [pad, Prod.mk.injEq] at e
    obtain ⟨e0, e1, e2, e3, e4⟩ := e
    exact pad5_pl (l := l.take k) (n := ((l.take k).length : Int)) hlt (by simp only [pad5]; rw [e1, e2, e3, e4]) i) (m.take (k - q)) (by rw [HL.out, HQ1.out])
  rw [HL.out, ← HQ1.out] at hj
  have hy := HY.out
  simp only [pad5, Prod.mk.injEq] at hy
  obtain ⟨t0, t1, t2, t3, t4⟩ := hy
  have GN := GH.out
  rw [hj 0, hj 1, hj 2, hj 3, t1, t2, t3, t4] at GN
  have t5 : (q : Int) + L = y0 := by
    rw [← t0, List.length_take, List.length_append, HL.out, HM.out]
    have := HZL.out
    have := HQ1.out
    omega
  have HT := Lib.hid t5
  have G2 := GN.set 0 (by simp) (.int .i64 (q + L))
  have Z3 := Lib.hid (ZW.out.other (b' := w2.heap.size) (i := 0) (by omega) (.int .i64 (q + L)))
  have B3 := Lib.hid (BW.out.setCell (p := ⟨w2.heap.size, 0, none⟩) (show w.heap.size ≤ w2.heap.size by omega) (.int .i64 (q + L)))
  clear hj t0 t1 t2 t3 t4 t5 GN GH ZW YW BW e0 e1 e2 e3 e4 hcl
  generalize W.setCell ⟨w2.heap.size, 0, none⟩ (.int .i64 (q + L)) = W5 at G2 Z3 B3 ⊢
  obtain ⟨x0, x1, x2, x3, x4⟩ := G2.cell5
  obtain ⟨v0, v1, v2, v3, v4⟩ := Z3.out.cell5
  obtain ⟨g0, g1, g2, g3, g4⟩ := Z3.out.free5
  clear G2
  generalize (if 4 = q then (⟨w2.heap.size, 1, none⟩ : Addr) else ⟨w2.heap.size, 1 + q, none⟩) = ad
  go_wp2
  obtain ⟨z0, z1, z2, z3, z4⟩ := (Z3.out.put5 (.int .i64 (q + L)) (.int .i64 y1) (.int .i64 y2) (.int .i64 y3) (.int .i64 y4)).cell5
  exact bodyPost_ret (v := .tuple #[.agg #[.int .i64 (q + L), .int .i64 y1, .int .i64 y2, .int .i64 y3, .int .i64 y4], .int .i64 0]) (by simp [results, Tryd.results21, go_sem, z0, z1, z2, z3, z4]) rfl ⟨by rw [HT.out], below_put5 B3.out (by omega) _ _ _ _ _⟩
end Go.Proofs.YtddackdghphcnaaDoor.s13

namespace Go.Proofs.YtddackdghphcnaaDoor.s13
set_option linter.unusedVariables false
set_option linter.unusedSimpArgs false
open Go.RowKit
open kit

/-- a look's terminals -/
def lst (x : V5) : List Int := [x.2.1, x.2.2.1, x.2.2.2.1, x.2.2.2.2].take x.1.toNat
theorem lst_pad {l : List Int} (hl : l.length ≤ 4) : lst (pad5 l) = l := by
  match l, hl with
  | [], _ => rfl
  | [a], _ => rfl
  | [a, b], _ => rfl
  | [a, b, c], _ => rfl
  | [a, b, c, d], _ => rfl
theorem lst_ok {n a b c d t : Int} (h : chkP n a b c d t = 0) : okL t (lst (n, a, b, c, d)) ∧ pad5 (lst (n, a, b, c, d)) = (n, a, b, c, d) ∧ ((lst (n, a, b, c, d)).length : Int) = n := by
  obtain ⟨l, h1, h2⟩ := pad5_look h
  rw [← h2, lst_pad h1.1]
  refine ⟨h1, rfl, ?_⟩
  simp only [pad5, Prod.mk.injEq] at h2
  exact h2.1
theorem lst_nat {n a b c d : Int} (h : chkP n a b c d 8 = 0) : ∃ N : Nat, n = N ∧ N ≤ 4 ∧ (lst (n, a, b, c, d)).length = N ∧ pad5 (lst (n, a, b, c, d)) = ((N : Int), a, b, c, d) := by
  obtain ⟨h1, h2, h3⟩ := lst_ok h
  have := h1.1
  exact ⟨(lst (n, a, b, c, d)).length, h3.symm, this, rfl, by rw [h3]; exact h2⟩
def cutE (x : V5) (k : Int) : V5 × Int := if chkP x.1 x.2.1 x.2.2.1 x.2.2.2.1 x.2.2.2.2 8 ≠ 0 then (no5, chkP x.1 x.2.1 x.2.2.1 x.2.2.2.1 x.2.2.2.2 8) else if k < 0 ∨ 4 < k then (no5, 2) else (pad5 ((lst x).take k.toNat), 0)
theorem pcut_any (n a b c d k : Int) (w : World) (y : V5) (r : Int) (H : Hid (cutE (n, a, b, c, d) k = (y, r))) : Calls Tryd.prog 23 #[.agg #[.int .i64 n, .int .i64 a, .int .i64 b, .int .i64 c, .int .i64 d], .int .i64 k] w fun e w' => e = .returned (LE y r) ∧ Below w.heap.size w w' := by
  have h := H.out
  unfold cutE at h
  simp only at h
  by_cases hc : chkP n a b c d 8 = 0
  · rw [if_neg (by simpa using hc)] at h
    by_cases hk : k < 0 ∨ 4 < k
    · rw [if_pos hk] at h; cases h
      exact pcut_range n a b c d k w (Lib.hid hc) hk
    · rw [if_neg hk] at h; cases h
      obtain ⟨N, hN, hN4, hl, hp⟩ := lst_nat hc
      obtain ⟨K, rfl⟩ : ∃ K : Nat, k = K := ⟨k.toNat, by omega⟩
      have e := cutP_look (l := lst (n, a, b, c, d)) (by omega) (pad5_of hp) K
      rw [Int.toNat_natCast]
      have hq : pad5 ((lst (n, a, b, c, d)).take K) = (((cutP N K a b c d).1 : Int), (cutP N K a b c d).2) := by rw [e]; rfl
      rw [hq]
      subst hN
      exact pcut_ok N K a b c d w (Lib.hid hc) hN4 (by omega) _ _ _ _ _ (Lib.hid rfl)
  · rw [if_pos hc] at h; cases h
    exact pcut_bad n a b c d k _ w (Lib.hid rfl) (by simpa using hc)
def joinE (k : Int) (x y : V5) : V5 × Int := if bothP x.1 x.2.1 x.2.2.1 x.2.2.2.1 x.2.2.2.2 y.1 y.2.1 y.2.2.1 y.2.2.2.1 y.2.2.2.2 ≠ 0 then (no5, bothP x.1 x.2.1 x.2.2.1 x.2.2.2.1 x.2.2.2.2 y.1 y.2.1 y.2.2.1 y.2.2.2.1 y.2.2.2.2) else if k < 1 ∨ 4 < k then (no5, 2) else (pad5 ((lst x ++ lst y).take k.toNat), 0)
theorem both_yes {n a b c d n' a' b' c' d' : Int} (h : bothP n a b c d n' a' b' c' d' = 0) : chkP n a b c d 8 = 0 ∧ chkP n' a' b' c' d' 8 = 0 := by
  unfold bothP at h
  by_cases h1 : chkP n a b c d 8 = 0
  · rw [if_pos h1] at h; exact ⟨h1, h⟩
  · rw [if_neg h1] at h; exact absurd h h1
theorem pjoin_any (k n a b c d n' a' b' c' d' : Int) (w : World) (y : V5) (r : Int) (H : Hid (joinE k (n, a, b, c, d) (n', a', b', c', d') = (y, r))) : Calls Tryd.prog 21 #[.int .i64 k, .agg #[.int .i64 n, .int .i64 a, .int .i64 b, .int .i64 c, .int .i64 d], .agg #[.int .i64 n', .int .i64 a', .int .i64 b', .int .i64 c', .int .i64 d']] w fun e w' => e = .returned (LE y r) ∧ Below w.heap.size w w' := by
  have h := H.out
  unfold joinE at h
  simp only at h
  by_cases hc : bothP n a b c d n' a' b' c' d' = 0
  · rw [if_neg (by simpa using hc)] at h
    by_cases hk : k < 1 ∨ 4 < k
    · rw [if_pos hk] at h; cases h
      exact pjoin_range k n a b c d n' a' b' c' d' w (Lib.hid hc) hk
    · rw [if_neg hk] at h; cases h
      obtain ⟨h1, h2⟩ := both_yes hc
      obtain ⟨N, hN, hN4, hl, hp⟩ := lst_nat h1
      obtain ⟨M, hM, hM4, hm, hq⟩ := lst_nat h2
      obtain ⟨K, rfl⟩ : ∃ K : Nat, k = K := ⟨k.toNat, by omega⟩
      rw [Int.toNat_natCast]
      subst hN hM
      exact pjoin_ok _ _ K N M a b c d a' b' c' d' w (Lib.hid hc) (by omega) (by omega) hN4 hM4 (Lib.hid hl) (Lib.hid hm) (Lib.hid hp) (Lib.hid hq) _ _ _ _ _ (Lib.hid rfl)
  · rw [if_pos hc] at h; cases h
    exact pjoin_bad k n a b c d n' a' b' c' d' _ w (Lib.hid rfl) (by simpa using hc)
end Go.Proofs.YtddackdghphcnaaDoor.s13

namespace Go.Proofs.YtddackdghphcnaaDoor.s13
set_option linter.unusedVariables false
set_option linter.unusedSimpArgs false
open Go.RowKit
open kit

theorem upd_snoc {f : Nat → Int} {s : List Int} {n : Nat} (hn : s.length = n) (hf : ∀ j, f j = s[j]?.getD 0) (z : Int) : ∀ j, upd f n z j = (s ++ [z])[j]?.getD 0 := by
  intro j
  unfold upd
  subst hn
  by_cases e : j = s.length
  · subst e; rw [if_pos rfl, List.getElem?_append_right (Nat.le_refl _), Nat.sub_self]; rfl
  · rw [if_neg e, hf]
    by_cases h : j < s.length
    · rw [List.getElem?_append_left h]
    · rw [List.getElem?_eq_none (by omega), List.getElem?_eq_none (by simp; omega)]
/-- the sum's variable -/
def SumBox (w : World) (g : Nat) (s : List Int) : Prop := ∃ f : Nat → Int, (∀ j, f j = s[j]?.getD 0) ∧ Box w 25 g #[.int .i64 s.length, .int .i64 (f 0), .int .i64 (f 1), .int .i64 (f 2), .int .i64 (f 3)]
set_option maxRecDepth 100000 in
set_option maxHeartbeats 4000000 in
theorem rplus_any (l m : List Int) (k N M : Nat) (a b c d a' b' c' d' : Int) (w : World) (hk : k ≤ 4) (hN : N ≤ 4) (hM : M ≤ 4) (HL : Hid (l.length = N)) (HM : Hid (m.length = M)) (HP : Hid (pad5 l = ((N : Int), a, b, c, d))) (HQ : Hid (pad5 m = ((M : Int), a', b', c', d')))
    (y0 y1 y2 y3 y4 : Int) (HY : Hid (pad5 ((l ++ m).take k) = (y0, y1, y2, y3, y4))) :
    Calls Tryd.prog 54 #[.int .i64 k, .agg #[.int .i64 N, .int .i64 a, .int .i64 b, .int .i64 c, .int .i64 d], .agg #[.int .i64 M, .int .i64 a', .int .i64 b', .int .i64 c', .int .i64 d']] w fun e w' => e = .returned (.agg #[.int .i64 y0, .int .i64 y1, .int .i64 y2, .int .i64 y3, .int .i64 y4]) ∧ Below w.heap.size w w' := by
  have i2 : (k : Int) ≤ 4 := by omega
  have n2 : (N : Int) ≤ 4 := by omega
  have m2 : (M : Int) ≤ 4 := by omega
  have X0 := Lib.hid (((Box.new w 25 #[.int .i64 N, .int .i64 a, .int .i64 b, .int .i64 c, .int .i64 d]).alloc (.cells #[.int .i64 M, .int .i64 a', .int .i64 b', .int .i64 c', .int .i64 d'] 25)).alloc (.cells #[.int .i64 0, .int .i64 0, .int .i64 0, .int .i64 0, .int .i64 0] 25) |>.alloc (.cells #[.int .i64 0, .int .i64 0, .int .i64 0, .int .i64 0, .int .i64 0] 25))
  have Y0 := Lib.hid (((new2 w (.cells #[.int .i64 N, .int .i64 a, .int .i64 b, .int .i64 c, .int .i64 d] 25) 25 #[.int .i64 M, .int .i64 a', .int .i64 b', .int .i64 c', .int .i64 d']).alloc (.cells #[.int .i64 0, .int .i64 0, .int .i64 0, .int .i64 0, .int .i64 0] 25)).alloc (.cells #[.int .i64 0, .int .i64 0, .int .i64 0, .int .i64 0, .int .i64 0] 25))
  have R0 := Lib.hid ((new3 w (.cells #[.int .i64 N, .int .i64 a, .int .i64 b, .int .i64 c, .int .i64 d] 25) (.cells #[.int .i64 M, .int .i64 a', .int .i64 b', .int .i64 c', .int .i64 d'] 25) 25 #[.int .i64 0, .int .i64 0, .int .i64 0, .int .i64 0, .int .i64 0]).alloc (.cells #[.int .i64 0, .int .i64 0, .int .i64 0, .int .i64 0, .int .i64 0] 25))
  have S0 := Lib.hid (new4 w (.cells #[.int .i64 N, .int .i64 a, .int .i64 b, .int .i64 c, .int .i64 d] 25) (.cells #[.int .i64 M, .int .i64 a', .int .i64 b', .int .i64 c', .int .i64 d'] 25) (.cells #[.int .i64 0, .int .i64 0, .int .i64 0, .int .i64 0, .int .i64 0] 25) 25 #[.int .i64 0, .int .i64 0, .int .i64 0, .int .i64 0, .int .i64 0])
  have B0 : Hid (Below w.heap.size w ((((w.alloc (.cells #[.int .i64 N, .int .i64 a, .int .i64 b, .int .i64 c, .int .i64 d] 25)).alloc (.cells #[.int .i64 M, .int .i64 a', .int .i64 b', .int .i64 c', .int .i64 d'] 25)).alloc (.cells #[.int .i64 0, .int .i64 0, .int .i64 0, .int .i64 0, .int .i64 0] 25)).alloc (.cells #[.int .i64 0, .int .i64 0, .int .i64 0, .int .i64 0, .int .i64 0] 25))) := Lib.hid (((((Below.refl w.heap.size w).alloc (Nat.le_refl _) _).alloc (by simp) _).alloc (by simp; omega) _).alloc (by simp; omega) _)
  go_enter Tryd.func54, Tryd.ntmps54
  go_wp2
  go_loopw [8] (fun i wr => ∃ (j : Nat) (f : Nat → Int), i = .int .i64 j ∧ j ≤ N ∧ j ≤ k ∧ Hid (∀ i, f i = (l.take j)[i]?.getD 0) ∧ Hid (Box wr 25 (w.heap.size + 1 + 1 + 1) #[.int .i64 j, .int .i64 (f 0), .int .i64 (f 1), .int .i64 (f 2), .int .i64 (f 3)]) ∧ Hid (Box wr 25 w.heap.size #[.int .i64 N, .int .i64 a, .int .i64 b, .int .i64 c, .int .i64 d]) ∧ Hid (Box wr 25 (w.heap.size + 1) #[.int .i64 M, .int .i64 a', .int .i64 b', .int .i64 c', .int .i64 d']) ∧ Hid (Box wr 25 (w.heap.size + 1 + 1) #[.int .i64 0, .int .i64 0, .int .i64 0, .int .i64 0, .int .i64 0]) ∧ Hid (Below w.heap.size w wr)) (fun i _ => N - (intOf i).toNat)
  case atStart => exact ⟨0, fun _ => 0, rfl, by omega, by omega, Lib.hid (fun i => by simp), S0, X0, Y0, R0, B0⟩
  case round =>
    obtain ⟨j, f, rfl, hj, hjk, HF, HS, HX, HYB, HRB, HB⟩ := hrel
    have s0 := HS.out.cell 0
    have x0 := HX.out.cell 0
    have y0' := HYB.out.cell 0
    have sf0 := HS.out.free 0
    simp at s0 x0 y0'
    by_cases hlt : j < N ∧ j < k
    · obtain ⟨hl1, hl2⟩ := hlt
      have j4 : j < 4 := by omega
      have xk := HX.out.place j j4
      have sk : wr.cell? ⟨w.heap.size + 1 + 1 + 1, 1 + j, none⟩ = some (.int .i64 (pl (f 0) (f 1) (f 2) (f 3) j)) := HS.out.place j j4
      have sf := HS.out.free (1 + j)
      have hz := Lib.hid (pad5_pl (l := l) (by have := HL.out; omega) HP.out j)
      have hF2 : Hid (∀ i, upd f j (pl a b c d j) i = (l.take (j + 1))[i]?.getD 0) := Lib.hid (by
        have hjl : j < l.length := by have := HL.out; omega
        rw [List.take_succ_eq_append_getElem hjl]
        have e : pl a b c d j = l[j] := by rw [hz.out, List.getElem?_eq_getElem hjl]; rfl
        rw [e]
        exact upd_snoc (by rw [List.length_take]; omega) HF.out _)
      generalize pl a b c d j = z at xk hF2 hz
      have S2 := Lib.hid ((b5_set HS.out j j4 z).set 0 (by simp) (.int .i64 (j + 1 : Nat)))
      have X2 := Lib.hid ((HX.out.other (b' := w.heap.size + 1 + 1 + 1) (i := 1 + j) (by omega) (.int .i64 z)).other (b' := w.heap.size + 1 + 1 + 1) (i := 0) (by omega) (.int .i64 (j + 1 : Nat)))
      have Y2 := Lib.hid ((HYB.out.other (b' := w.heap.size + 1 + 1 + 1) (i := 1 + j) (by omega) (.int .i64 z)).other (b' := w.heap.size + 1 + 1 + 1) (i := 0) (by omega) (.int .i64 (j + 1 : Nat)))
      have R2 := Lib.hid ((HRB.out.other (b' := w.heap.size + 1 + 1 + 1) (i := 1 + j) (by omega) (.int .i64 z)).other (b' := w.heap.size + 1 + 1 + 1) (i := 0) (by omega) (.int .i64 (j + 1 : Nat)))
      have B2 := Lib.hid ((HB.out.drew.setCell (p := ⟨w.heap.size + 1 + 1 + 1, 1 + j, none⟩) (by simp; omega) (.int .i64 z)).setCell (p := ⟨w.heap.size + 1 + 1 + 1, 0, none⟩) (by simp; omega) (.int .i64 (j + 1 : Nat)))
      go_wp2
      go_region
      go_wp2
      go_roundw
      case rel => exact ⟨j + 1, upd f j z, by go_num, by omega, by omega, hF2, S2, X2, Y2, R2, B2⟩
      case measure => simp [intOf]; omega
    · have hq : j = min N k := by omega
      have hs2 : Hid (∀ i, f i = (l.take j ++ m.take 0)[i]?.getD 0) := Lib.hid (by simpa using HF.out)
      have hor : (¬ (j : Int) < N) ∨ ((j : Int) < N ∧ decide (j < k) = false) := by
        by_cases h1 : j < N
        · exact .inr ⟨by omega, decide_eq_false (by omega)⟩
        · exact .inl (by omega)
      have HQQ := Lib.hid hq
      clear hlt hq
      rcases hor with t1 | ⟨t1, t2⟩
      all_goals
        go_wp2
        clear s0 x0 y0' sf0
        go_loopw [9] (fun i wx => ∃ (j2 : Nat) (f2 : Nat → Int), i = .int .i64 j2 ∧ j2 ≤ M ∧ j + j2 ≤ k ∧ Hid (∀ i, f2 i = (l.take j ++ m.take j2)[i]?.getD 0) ∧ Hid (Box wx 25 (w.heap.size + 1 + 1 + 1) #[.int .i64 (j + j2 : Nat), .int .i64 (f2 0), .int .i64 (f2 1), .int .i64 (f2 2), .int .i64 (f2 3)]) ∧ Hid (Box wx 25 (w.heap.size + 1) #[.int .i64 M, .int .i64 a', .int .i64 b', .int .i64 c', .int .i64 d']) ∧ Hid (Box wx 25 (w.heap.size + 1 + 1) #[.int .i64 0, .int .i64 0, .int .i64 0, .int .i64 0, .int .i64 0]) ∧ Hid (Below w.heap.size w wx)) (fun i _ => M - (intOf i).toNat)
        case atStart => exact ⟨0, f, rfl, by omega, by omega, hs2, HS, HYB, HRB, HB⟩
        case round =>
          obtain ⟨j2, f2, rfl, hj2, hjk2, HF2, HS2, HY2, HR2, HB2⟩ := hrel
          have s0 := HS2.out.cell 0
          have y0' := HY2.out.cell 0
          have sf0 := HS2.out.free 0
          simp at s0 y0'
          by_cases hlt2 : j2 < M ∧ j + j2 < k
          · obtain ⟨hl1, hl2⟩ := hlt2
            have j4 : j2 < 4 := by omega
            have jj4 : j + j2 < 4 := by omega
            have yk := HY2.out.place j2 j4
            have sk : wr.cell? ⟨w.heap.size + 1 + 1 + 1, 1 + (j + j2), none⟩ = some (.int .i64 (pl (f2 0) (f2 1) (f2 2) (f2 3) (j + j2))) := HS2.out.place (j + j2) jj4
            have sf := HS2.out.free (1 + (j + j2))
            have hz := Lib.hid (pad5_pl (l := m) (by have := HM.out; omega) HQ.out j2)
            have hF2 : Hid (∀ i, upd f2 (j + j2) (pl a' b' c' d' j2) i = (l.take j ++ m.take (j2 + 1))[i]?.getD 0) := Lib.hid (by
              have hjl : j2 < m.length := by have := HM.out; omega
              rw [List.take_succ_eq_append_getElem hjl, ← List.append_assoc]
              have e : pl a' b' c' d' j2 = m[j2] := by rw [hz.out, List.getElem?_eq_getElem hjl]; rfl
              rw [e]
              have hll := HL.out
              exact upd_snoc (by rw [List.length_append, List.length_take, List.length_take]; omega) HF2.out _)
            generalize pl a' b' c' d' j2 = z at yk hF2 hz
            have S3 := Lib.hid ((b5_set HS2.out (j + j2) jj4 z).set 0 (by simp) (.int .i64 (j + (j2 + 1) : Nat)))
            have Y3 := Lib.hid ((HY2.out.other (b' := w.heap.size + 1 + 1 + 1) (i := 1 + (j + j2)) (by omega) (.int .i64 z)).other (b' := w.heap.size + 1 + 1 + 1) (i := 0) (by omega) (.int .i64 (j + (j2 + 1) : Nat)))
            have R3 := Lib.hid ((HR2.out.other (b' := w.heap.size + 1 + 1 + 1) (i := 1 + (j + j2)) (by omega) (.int .i64 z)).other (b' := w.heap.size + 1 + 1 + 1) (i := 0) (by omega) (.int .i64 (j + (j2 + 1) : Nat)))
            have B3 := Lib.hid ((HB2.out.drew.setCell (p := ⟨w.heap.size + 1 + 1 + 1, 1 + (j + j2), none⟩) (by simp; omega) (.int .i64 z)).setCell (p := ⟨w.heap.size + 1 + 1 + 1, 0, none⟩) (by simp; omega) (.int .i64 (j + (j2 + 1) : Nat)))
            go_wp2
            go_region
            go_wp2
            go_roundw
            case rel => exact ⟨j2 + 1, upd f2 (j + j2) z, by go_num, by omega, by omega, hF2, S3, Y3, R3, B3⟩
            case measure => simp [intOf]; omega
          · have hor2 : (¬ (j2 : Int) < M) ∨ ((j2 : Int) < M ∧ decide ((j : Int) + (j2 : Int) < (k : Int)) = false) := by
              by_cases h1 : j2 < M
              · exact .inr ⟨by omega, decide_eq_false (by omega)⟩
              · exact .inl (by omega)
            have hfin : l.take j ++ m.take j2 = (l ++ m).take k := by
              have e1 := HL.out
              have e2 := HM.out
              have e3 := HQQ.out
              rw [List.take_append]
              by_cases h1 : N ≤ k
              · have : j = N := by omega
                rw [List.take_of_length_le (l := l) (i := j) (by omega), List.take_of_length_le (l := l) (i := k) (by omega)]
                congr 1
                by_cases h2 : j2 < M
                · congr 1; omega
                · rw [List.take_of_length_le (by omega), List.take_of_length_le (by omega)]
              · have h3 : j = k := by omega
                have h4 : j2 = 0 := by omega
                rw [h3, h4, show k - l.length = 0 by omega]
            have hy := HY.out
            rw [← hfin] at hy
            simp only [pad5, Prod.mk.injEq] at hy
            obtain ⟨p0, p1, p2, p3, p4⟩ := hy
            have p5 : (j : Int) + (j2 : Int) = y0 := by
              rw [← p0, List.length_append, List.length_take, List.length_take, HL.out, HM.out]
              have := HQQ.out
              omega
            have SN := HS2.out
            rw [HF2.out 0, HF2.out 1, HF2.out 2, HF2.out 3, p1, p2, p3, p4] at SN
            obtain ⟨q0, q1, q2, q3, q4⟩ := SN.cell5
            obtain ⟨v0, v1, v2, v3, v4⟩ := HR2.out.cell5
            obtain ⟨g0, g1, g2, g3, g4⟩ := HR2.out.free5
            have P5 := Lib.hid p5
            clear hfin p0 p1 p2 p3 p4 p5 SN hlt2
            rcases hor2 with t3 | ⟨t3, t4⟩
            all_goals
              go_wp2
              obtain ⟨z0, z1, z2, z3, z4⟩ := (HR2.out.put5 (.int .i64 ((j : Int) + (j2 : Int))) (.int .i64 y1) (.int .i64 y2) (.int .i64 y3) (.int .i64 y4)).cell5
              exact bodyPost_ret (v := .agg #[.int .i64 ((j : Int) + (j2 : Int)), .int .i64 y1, .int .i64 y2, .int .i64 y3, .int .i64 y4]) (by simp [results, Tryd.results54, go_sem, z0, z1, z2, z3, z4]) rfl ⟨by rw [P5.out], below_put5 HB2.out (by omega) _ _ _ _ _⟩
end Go.Proofs.YtddackdghphcnaaDoor.s13
