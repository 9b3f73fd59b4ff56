/-
  The contract of look.Check with the count of draws. The contract of look.checkAll with the count of draws. The contract of look.Compare with the count of draws. Layer 14: a map's keys collected in a list. Layer 14: slices.SortFunc at looks that are right. Which functions of this program are those of the library of which the shelf speaks: 73. Layer 14: sorting a row of looks; SortedFunc over a map's keys.
-/
import Derived.Test.YtdahaajfkjmflaaG10
import Derived.Maps.OwnIn
import Derived.Shelf.SlSortCmp.WholeK
import Derived.Lib.QuietBelow
import Derived.Test.YtdahaajfkjmflaaRows
namespace Go.Proofs.Ytdahaajfkjmflaa.s14
set_option linter.unusedVariables false
set_option linter.unusedSimpArgs false
set_option linter.unnecessarySimpa false
open Go.RowKit
open kit s13

theorem later_cellsD {W : World} {t : TypeId} {g : Nat} {x0 x1 x2 x3 x4 : Value} (X : Box W t g #[x0, x1, x2, x3, x4]) (p : LaterD W) : p.W.cell? ⟨g, 0, none⟩ = some x0 ∧ p.W.cell? ⟨g, 1, none⟩ = some x1 ∧ p.W.cell? ⟨g, 2, none⟩ = some x2 ∧ p.W.cell? ⟨g, 3, none⟩ = some x3 ∧ p.W.cell? ⟨g, 4, none⟩ = some x4 :=
  (X.below p.h).cell5
set_option maxRecDepth 100000 in
set_option maxHeartbeats 1000000 in
theorem check_termsD (n a b c d t : Int) (w : World) (h : t < 1 ∨ 8 < t) : Calls Try.prog 41 #[.agg #[.int .i64 n, .int .i64 a, .int .i64 b, .int .i64 c, .int .i64 d], .int .i64 t] w fun e w' => e = .returned (.int .i64 2) ∧ BelowD w.heap.size w w' := by
  go_enter Try.func41, Try.ntmps41
  go_wp2_with (go_at_call 67; refine (s13.isterms_no t _ h).mono ?_; rintro e w1 ⟨rfl, rfl⟩)
  go_ret
  exact ⟨rfl, (BelowD.refl _ _).alloc (Nat.le_refl _) _⟩
set_option maxRecDepth 100000 in
set_option maxHeartbeats 1000000 in
theorem check_lengthD (n a b c d t : Int) (w : World) (h1 : 1 ≤ t) (h2 : t ≤ 8) (h : n < 0 ∨ 4 < n) : Calls Try.prog 41 #[.agg #[.int .i64 n, .int .i64 a, .int .i64 b, .int .i64 c, .int .i64 d], .int .i64 t] w fun e w' => e = .returned (.int .i64 3) ∧ BelowD w.heap.size w w' := by
  go_enter Try.func41, Try.ntmps41
  go_wp2_with (go_at_call 67; refine (s13.isterms_yes t _ h1 h2).mono ?_; rintro e w1 ⟨rfl, rfl⟩)
  have X := Box.new w 25 #[.int .i64 n, .int .i64 a, .int .i64 b, .int .i64 c, .int .i64 d]
  have B := Lib.hid ((BelowD.refl w.heap.size w).alloc (Nat.le_refl _) (.cells #[.int .i64 n, .int .i64 a, .int .i64 b, .int .i64 c, .int .i64 d] 25))
  generalize w.alloc (.cells #[.int .i64 n, .int .i64 a, .int .i64 b, .int .i64 c, .int .i64 d] 25) = W at X B ⊢
  have z0 : ∀ p : LaterD W, p.W.cell? ⟨w.heap.size, 0, none⟩ = some (.int .i64 n) := fun p => (later_cellsD X p).1
  clear X
  refine wp_region_laterD (by kernel_rfl) (by kernel_rfl) ?_
  repeat (go_big_quiet_step ((go_at_call 68; exact calls_sameD (s13.islen_no n _ h))))
  refine wpQuiet_nil ?_
  rintro w5 ⟨p5, rfl⟩
  have B5 := Lib.hid (below_onD B.out (Nat.le_refl _) p5.h)
  generalize p5.W = w6 at B5 ⊢
  go_wp2
  go_ret
  exact ⟨rfl, B5.out⟩
set_option maxRecDepth 100000 in
set_option maxHeartbeats 2000000 in
theorem check_formD (N : Nat) (a b c d a' b' c' d' t : Int) (w : World) (h1 : 1 ≤ t) (h2 : t ≤ 8) (hN : N ≤ 4) (H : Hid (cutP N N a b c d = (N, a', b', c', d'))) (hne : ¬ (a' = a ∧ b' = b ∧ c' = c ∧ d' = d)) : Calls Try.prog 41 #[.agg #[.int .i64 N, .int .i64 a, .int .i64 b, .int .i64 c, .int .i64 d], .int .i64 t] w fun e w' => e = .returned (.int .i64 3) ∧ BelowD w.heap.size w w' := by
  have n1 : (0 : Int) ≤ N := by omega
  have n2 : (N : Int) ≤ 4 := by omega
  go_enter Try.func41, Try.ntmps41
  go_wp2_with (go_at_call 67; refine (s13.isterms_yes t _ h1 h2).mono ?_; rintro e w1 ⟨rfl, rfl⟩)
  have X := Box.new w 25 #[.int .i64 N, .int .i64 a, .int .i64 b, .int .i64 c, .int .i64 d]
  have B := Lib.hid ((BelowD.refl w.heap.size w).alloc (Nat.le_refl _) (.cells #[.int .i64 N, .int .i64 a, .int .i64 b, .int .i64 c, .int .i64 d] 25))
  generalize w.alloc (.cells #[.int .i64 N, .int .i64 a, .int .i64 b, .int .i64 c, .int .i64 d] 25) = W at X B ⊢
  have z := fun p : LaterD W => later_cellsD X p
  have z0 := fun p : LaterD W => (z p).1
  have z1 := fun p : LaterD W => (z p).2.1
  have z2 := fun p : LaterD W => (z p).2.2.1
  have z3 := fun p : LaterD W => (z p).2.2.2.1
  have z4 := fun p : LaterD W => (z p).2.2.2.2
  have zs := lkS N a' b' c' d'
  have hq : decide (a' = a ∧ b' = b ∧ c' = c ∧ d' = d) = false := decide_eq_false hne
  have zq : ∀ W, (binOp .neq 23 (.agg #[.int .i64 a', .int .i64 b', .int .i64 c', .int .i64 d']) (.agg #[.int .i64 a, .int .i64 b, .int .i64 c, .int .i64 d])).run Try.prog W = .ok (.bool true) W := fun W => by rw [neq_arr, hq]; rfl
  have zg := guard_arr
  clear hq hne
  clear z X
  refine wp_region_laterD (by kernel_rfl) (by kernel_rfl) ?_
  repeat (go_big_quiet_step ((first | (go_at_call 68; exact calls_sameD (s13.islen_yes N _ n1 n2)) | (go_at_call 69; exact calls_laterD (cut_anyD N N a b c d _ (by omega) N a' b' c' d' H)))))
  refine wpQuiet_nil ?_
  rintro w5 ⟨p5, rfl⟩
  have B5 := Lib.hid (below_onD B.out (Nat.le_refl _) p5.h)
  generalize p5.W = w6 at B5 ⊢
  go_wp2
  go_ret
  exact ⟨rfl, B5.out⟩
set_option maxRecDepth 100000 in
set_option maxHeartbeats 2000000 in
theorem check_placesD (N : Nat) (a b c d t r : Int) (w : World) (h1 : 1 ≤ t) (h2 : t ≤ 8) (hN : N ≤ 4) (H : Hid (cutP N N a b c d = (N, a, b, c, d)))
    (hbad : Hid (∀ i, i < N → (pl a b c d i < 0 ∨ t ≤ pl a b c d i) → r = 14)) (hok : Hid ((∀ i, i < N → 0 ≤ pl a b c d i ∧ pl a b c d i < t) → r = 0)) : Calls Try.prog 41 #[.agg #[.int .i64 N, .int .i64 a, .int .i64 b, .int .i64 c, .int .i64 d], .int .i64 t] w fun e w' => e = .returned (.int .i64 r) ∧ BelowD w.heap.size w w' := by
  have n1 : (0 : Int) ≤ N := by omega
  have n2 : (N : Int) ≤ 4 := by omega
  go_enter Try.func41, Try.ntmps41
  go_wp2_with (go_at_call 67; refine (s13.isterms_yes t _ h1 h2).mono ?_; rintro e w1 ⟨rfl, rfl⟩)
  have X := Box.new w 25 #[.int .i64 N, .int .i64 a, .int .i64 b, .int .i64 c, .int .i64 d]
  have B := Lib.hid ((BelowD.refl w.heap.size w).alloc (Nat.le_refl _) (.cells #[.int .i64 N, .int .i64 a, .int .i64 b, .int .i64 c, .int .i64 d] 25))
  generalize w.alloc (.cells #[.int .i64 N, .int .i64 a, .int .i64 b, .int .i64 c, .int .i64 d] 25) = W at X B ⊢
  have z := fun p : LaterD W => later_cellsD X p
  have z0 := fun p : LaterD W => (z p).1
  have z1 := fun p : LaterD W => (z p).2.1
  have z2 := fun p : LaterD W => (z p).2.2.1
  have z3 := fun p : LaterD W => (z p).2.2.2.1
  have z4 := fun p : LaterD W => (z p).2.2.2.2
  have zs := lkS N a b c d
  have zq : ∀ W, (binOp .neq 23 (.agg #[.int .i64 a, .int .i64 b, .int .i64 c, .int .i64 d]) (.agg #[.int .i64 a, .int .i64 b, .int .i64 c, .int .i64 d])).run Try.prog W = .ok (.bool false) W := fun W => by rw [neq_arr]; simp
  have zg := guard_arr
  have HX := Lib.hid X
  clear z X
  refine wp_region_laterD (by kernel_rfl) (by kernel_rfl) ?_
  repeat (go_big_quiet_step ((first | (go_at_call 68; exact calls_sameD (s13.islen_yes N _ n1 n2)) | (go_at_call 69; exact calls_laterD (cut_anyD N N a b c d _ (by omega) N a b c d H)))))
  refine wpQuiet_nil ?_
  rintro w5 ⟨p5, rfl⟩
  have B5 := Lib.hid (below_onD B.out (Nat.le_refl _) p5.h)
  have X5 := HX.out.below p5.h.b
  clear z0 z1 z2 z3 z4 zs zq zg HX
  generalize p5.W = w6 at B5 X5 ⊢
  have y0 := (X5.cell 0)
  simp at y0
  have yp := Lib.hid X5.place
  clear X5
  go_wp2
  go_loop [29] (fun i => ∃ k : Nat, i = .int .i64 k ∧ k ≤ N ∧ Hid (∀ j, j < k → 0 ≤ pl a b c d j ∧ pl a b c d j < t)) (fun i => N - (intOf i).toNat)
  case atStart => exact ⟨0, rfl, by omega, Lib.hid (fun j hj => by omega)⟩
  case round =>
    obtain ⟨k, rfl, hk, HK⟩ := hrel
    by_cases hlt : k < N
    · have hk4 : k < 4 := by omega
      have hc := yp.out k hk4
      have hbk := Lib.hid (hbad.out k hlt)
      have hs := Lib.hid (fun h : 0 ≤ pl a b c d k ∧ pl a b c d k < t => (fun j (hj : j < k + 1) => if e : j = k then e ▸ h else HK.out j (by omega) : ∀ j, j < k + 1 → 0 ≤ pl a b c d j ∧ pl a b c d j < t))
      generalize pl a b c d k = x at hc hbk hs
      by_cases hx : x < 0
      · go_wp2
        go_ret
        exact ⟨ret_int (hbk.out (.inl hx)).symm, B5.out⟩
      · have hx0 : 0 ≤ x := by omega
        clear hx
        by_cases hx : t ≤ x
        · go_wp2
          go_ret
          exact ⟨ret_int (hbk.out (.inr hx)).symm, B5.out⟩
        · have hx1 : x < t := by omega
          have hx2 : decide (t ≤ x) = false := decide_eq_false hx
          clear hx
          go_wp2
          go_round
          case rel => exact ⟨k + 1, by go_num, by omega, Lib.hid (hs.out ⟨hx0, hx1⟩)⟩
          case measure => simp [intOf]; omega
    · obtain rfl : k = N := by omega
      go_wp2
      go_ret
      exact ⟨ret_int (hok.out HK.out).symm, B5.out⟩
end Go.Proofs.Ytdahaajfkjmflaa.s14

namespace Go.Proofs.Ytdahaajfkjmflaa.s14
set_option linter.unusedVariables false
set_option linter.unusedSimpArgs false
set_option linter.unnecessarySimpa false
open Go.RowKit
open kit s13

theorem pcheck_anyD (n a b c d t r : Int) (w : World) (H : Hid (chkP n a b c d t = r)) : Calls Try.prog 41 #[.agg #[.int .i64 n, .int .i64 a, .int .i64 b, .int .i64 c, .int .i64 d], .int .i64 t] w fun e w' => e = .returned (.int .i64 r) ∧ BelowD w.heap.size w w' := by
  have h := H.out
  unfold chkP at h
  by_cases ht : t < 1 ∨ 8 < t
  · rw [if_pos ht] at h; subst h
    exact check_termsD n a b c d t w ht
  · rw [if_neg ht] at h
    by_cases hn : n < 0 ∨ 4 < n
    · rw [if_pos hn] at h; subst h
      exact check_lengthD n a b c d t w (by omega) (by omega) hn
    · rw [if_neg hn] at h
      obtain ⟨N, rfl⟩ : ∃ N : Nat, n = N := ⟨n.toNat, by omega⟩
      by_cases hf : ((N : Int) ≤ 0 ∧ a ≠ 0) ∨ ((N : Int) ≤ 1 ∧ b ≠ 0) ∨ ((N : Int) ≤ 2 ∧ c ≠ 0) ∨ ((N : Int) ≤ 3 ∧ d ≠ 0)
      · rw [if_pos hf] at h; subst h
        obtain ⟨a', b', c', d', e, e1, e2, e3, e4⟩ := cutP_self N a b c d
        refine check_formD N a b c d a' b' c' d' t w (by omega) (by omega) (by omega) (Lib.hid e) ?_
        rintro ⟨f1, f2, f3, f4⟩
        subst f1 f2 f3 f4
        rcases hf with ⟨k, hk⟩ | ⟨k, hk⟩ | ⟨k, hk⟩ | ⟨k, hk⟩
        · rw [if_neg (by omega)] at e1; exact hk e1
        · rw [if_neg (by omega)] at e2; exact hk e2
        · rw [if_neg (by omega)] at e3; exact hk e3
        · rw [if_neg (by omega)] at e4; exact hk e4
      · rw [if_neg hf] at h
        have e : cutP N N a b c d = (N, a, b, c, d) := by
          obtain ⟨a', b', c', d', e, e1, e2, e3, e4⟩ := cutP_self N a b c d
          rw [e]
          have g1 : a' = a := by by_cases k : 0 < N <;> simp [k] at e1 <;> omega
          have g2 : b' = b := by by_cases k : 1 < N <;> simp [k] at e2 <;> omega
          have g3 : c' = c := by by_cases k : 2 < N <;> simp [k] at e3 <;> omega
          have g4 : d' = d := by by_cases k : 3 < N <;> simp [k] at e4 <;> omega
          rw [g1, g2, g3, g4]
        refine check_placesD N a b c d t r w (by omega) (by omega) (by omega) (Lib.hid e) (Lib.hid fun i hi hb => ?_) (Lib.hid fun hk => ?_)
        · rw [← h]
          refine if_pos ?_
          have hm : i = 0 ∨ i = 1 ∨ i = 2 ∨ i = 3 := by omega
          rcases hm with rfl | rfl | rfl | rfl
          · exact .inl ⟨by omega, hb⟩
          · exact .inr (.inl ⟨by omega, hb⟩)
          · exact .inr (.inr (.inl ⟨by omega, hb⟩))
          · exact .inr (.inr (.inr ⟨by omega, hb⟩))
        · obtain ⟨k1, k2, k3, k4⟩ := pl_lt hk
          rw [← h]
          exact if_neg (by omega)
set_option maxRecDepth 100000 in
set_option maxHeartbeats 2000000 in
theorem checkall_anyD (a : Option Addr) (cp : Nat) (l : List V5) (w : World) (hl : l.length ≤ 1000) (r : Int) (hr : Hid (Reads5 w a l)) (H : Hid (chkAll l = r)) : Calls Try.prog 81 #[.slice a l.length cp] w fun e w' => e = .returned (.int .i64 r) ∧ BelowD w.heap.size w w' := by
  go_enter Try.func81, Try.ntmps81
  go_wp2
  go_loopw [8] (fun i wr => ∃ k : Nat, i = .int .i64 k ∧ k ≤ l.length ∧ Hid (chkAll (l.drop k) = r) ∧ Hid (BelowD w.heap.size w wr)) (fun i _ => l.length - (intOf i).toNat)
  case atStart => exact ⟨0, rfl, by omega, H, Lib.hid (BelowD.refl _ _)⟩
  case round =>
    obtain ⟨k, rfl, hk, HK, HB⟩ := hrel
    by_cases hlt : k < l.length
    · obtain ⟨b, off, rfl, hb, c0, c1, c2, c3, c4⟩ := (hr.out.below HB.out.b) k hlt
      have hd : l.drop k = (l[k]?.getD no5) :: l.drop (k + 1) := by rw [List.getElem?_eq_getElem hlt]; exact List.drop_eq_getElem_cons hlt
      have HD := HK.out
      rw [hd] at HD
      have HBs := HB.out.size
      generalize l[k]?.getD no5 = x at c0 c1 c2 c3 c4 HD
      obtain ⟨n, x0, x1, x2, x3⟩ := x
      simp only at c0 c1 c2 c3 c4
      unfold chkAll at HD
      simp only at HD
      clear hd
      by_cases hz : chkP n x0 x1 x2 x3 8 = 0
      · rw [if_pos hz] at HD
        have HZ := Lib.hid hz
        have HD2 := Lib.hid HD
        clear hz HD
        go_wp2_with (go_at_call 41; refine (pcheck_anyD n x0 x1 x2 x3 8 0 _ HZ).mono ?_; rintro e w1 ⟨rfl, hB⟩; have B1 := Lib.hid (below_onD (HB.out.alloc HBs (.cells #[.int .i64 n, .int .i64 x0, .int .i64 x1, .int .i64 x2, .int .i64 x3] 25)) (Nat.le_refl _) hB); clear hB)
        go_roundw
        case rel => exact ⟨k + 1, by go_num, by omega, HD2, B1⟩
        case measure => simp [intOf]; omega
      · rw [if_neg hz] at HD
        have hz2 : (r != 0) = true := by rw [HD] at hz; simpa using hz
        have HZ := Lib.hid HD
        clear hz HD
        go_wp2_with (go_at_call 41; refine (pcheck_anyD n x0 x1 x2 x3 8 r _ HZ).mono ?_; rintro e w1 ⟨rfl, hB⟩; have B1 := Lib.hid (below_onD (HB.out.alloc HBs (.cells #[.int .i64 n, .int .i64 x0, .int .i64 x1, .int .i64 x2, .int .i64 x3] 25)) (Nat.le_refl _) hB); clear hB)
        go_ret
        exact ⟨rfl, B1.out⟩
    · obtain rfl : k = l.length := by omega
      have h0 := HK.out
      rw [List.drop_length] at h0
      have H0 := Lib.hid h0
      clear h0
      go_wp2
      go_ret
      exact ⟨ret_int H0.out, HB.out⟩
/-- one look, in a row of its own -/
theorem checkall_oneD (n a b c d r : Int) (g : Nat) (w : World) (X : Box w 25 g #[.int .i64 n, .int .i64 a, .int .i64 b, .int .i64 c, .int .i64 d]) (H : Hid (chkP n a b c d 8 = r)) : Calls Try.prog 81 #[.slice (some ⟨g, 0, none⟩) 1 1] w fun e w' => e = .returned (.int .i64 r) ∧ BelowD w.heap.size w w' :=
  checkall_anyD _ 1 [(n, a, b, c, d)] w (by simp) r (Lib.hid (reads5_block X rfl)) (Lib.hid (by
    unfold chkAll
    by_cases h : chkP n a b c d 8 = 0
    · rw [if_pos h]; unfold chkAll; rw [← H.out, h]
    · rw [if_neg h]; exact H.out))
/-- two looks -/
theorem checkall_twoD (n a b c d n' a' b' c' d' r : Int) (g : Nat) (w : World) (X : w.heap[g]? = some (.cells #[.int .i64 n, .int .i64 a, .int .i64 b, .int .i64 c, .int .i64 d, .int .i64 n', .int .i64 a', .int .i64 b', .int .i64 c', .int .i64 d'] 25 (0, 0)))
    (H : Hid ((if chkP n a b c d 8 = 0 then chkP n' a' b' c' d' 8 else chkP n a b c d 8) = r)) : Calls Try.prog 81 #[.slice (some ⟨g, 0, none⟩) 2 2] w fun e w' => e = .returned (.int .i64 r) ∧ BelowD w.heap.size w w' :=
  checkall_anyD _ 2 [(n, a, b, c, d), (n', a', b', c', d')] w (by simp) r (Lib.hid (reads5_block X rfl)) (Lib.hid (by
    have h9 := H.out
    unfold chkAll
    by_cases h : chkP n a b c d 8 = 0
    · rw [if_pos h] at h9 ⊢
      unfold chkAll
      by_cases k : chkP n' a' b' c' d' 8 = 0
      · rw [if_pos k]; unfold chkAll; rw [← h9, k]
      · rw [if_neg k]; exact h9
    · rw [if_neg h] at h9 ⊢; exact h9))
/-- what a block that was made before a call holds behind it -/
theorem made1D {w w1 : World} {t : TypeId} {xs : Array Value} (hB : BelowD (w.alloc (.cells xs t)).heap.size (w.alloc (.cells xs t)) w1) : Box w1 t w.heap.size xs ∧ BelowD w.heap.size w w1 :=
  ⟨(Box.new w t xs).below hB.b, below_onD ((BelowD.refl w.heap.size w).alloc (Nat.le_refl _) _) (Nat.le_refl _) hB⟩
theorem made2D {w w1 : World} {t t' : TypeId} {xs ys : Array Value} (hB : BelowD ((w.alloc (.cells xs t)).alloc (.cells ys t')).heap.size ((w.alloc (.cells xs t)).alloc (.cells ys t')) w1) : Box w1 t w.heap.size xs ∧ Box w1 t' (w.heap.size + 1) ys ∧ BelowD w.heap.size w w1 := by
  have Y := Box.new (w.alloc (.cells xs t)) t' ys
  rw [show (w.alloc (.cells xs t)).heap.size = w.heap.size + 1 from Array.size_push ..] at Y
  exact ⟨((Box.new w t xs).alloc _).below hB.b, Y.below hB.b, below_onD (((BelowD.refl w.heap.size w).alloc (Nat.le_refl _) _).alloc (by simp) _) (Nat.le_refl _) hB⟩
theorem made3D {w w1 : World} {t t' t'' : TypeId} {xs ys zs : Array Value} (hB : BelowD (((w.alloc (.cells xs t)).alloc (.cells ys t')).alloc (.cells zs t'')).heap.size (((w.alloc (.cells xs t)).alloc (.cells ys t')).alloc (.cells zs t'')) w1) :
    Box w1 t w.heap.size xs ∧ Box w1 t' (w.heap.size + 1) ys ∧ Box w1 t'' (w.heap.size + 1 + 1) zs ∧ BelowD w.heap.size w w1 := by
  have Y := Box.new (w.alloc (.cells xs t)) t' ys
  rw [show (w.alloc (.cells xs t)).heap.size = w.heap.size + 1 from Array.size_push ..] at Y
  have Z := Box.new ((w.alloc (.cells xs t)).alloc (.cells ys t')) t'' zs
  rw [show ((w.alloc (.cells xs t)).alloc (.cells ys t')).heap.size = w.heap.size + 1 + 1 by rw [show ((w.alloc (.cells xs t)).alloc (.cells ys t')).heap.size = (w.alloc (.cells xs t)).heap.size + 1 from Array.size_push ..]; rw [show (w.alloc (.cells xs t)).heap.size = w.heap.size + 1 from Array.size_push ..]] at Z
  exact ⟨(((Box.new w t xs).alloc _).alloc _).below hB.b, (Y.alloc _).below hB.b, Z.below hB.b, below_onD ((((BelowD.refl w.heap.size w).alloc (Nat.le_refl _) _).alloc (by simp) _).alloc (by simp; omega) _) (Nat.le_refl _) hB⟩
end Go.Proofs.Ytdahaajfkjmflaa.s14

namespace Go.Proofs.Ytdahaajfkjmflaa.s14
set_option linter.unusedVariables false
set_option linter.unusedSimpArgs false
set_option linter.unnecessarySimpa false
open Go.RowKit
open kit s13

set_option maxRecDepth 100000 in
set_option maxHeartbeats 2000000 in
theorem pcompare_badD (n a b c d n' a' b' c' d' r : Int) (w : World) (HR : Hid (bothP n a b c d n' a' b' c' d' = r)) (hr : (r != 0) = true) : Calls Try.prog 70 #[.agg #[.int .i64 n, .int .i64 a, .int .i64 b, .int .i64 c, .int .i64 d], .agg #[.int .i64 n', .int .i64 a', .int .i64 b', .int .i64 c', .int .i64 d']] w fun e w' => e = .returned (.tuple #[.int .i64 0, .int .i64 r]) ∧ BelowD w.heap.size w w' := by
  go_enter Try.func70, Try.ntmps70
  go_wp2_with (go_at_call 81; refine (checkall_twoD n a b c d n' a' b' c' d' r _ _ (new3 _ _ _ _ _) HR).mono ?_; rintro e w1 ⟨rfl, hB⟩; obtain ⟨X1, Y1, Z1, hB1⟩ := made3D hB; have B1 := Lib.hid hB1; clear hB hB1 X1 Y1 Z1)
  go_ret2
  exact ⟨rfl, B1.out⟩
set_option maxRecDepth 100000 in
set_option maxHeartbeats 2000000 in
theorem pcompare_sameD (N M : Nat) (a b c d : Int) (w : World) (HR : Hid (bothP N a b c d M a b c d = 0)) : Calls Try.prog 70 #[.agg #[.int .i64 N, .int .i64 a, .int .i64 b, .int .i64 c, .int .i64 d], .agg #[.int .i64 M, .int .i64 a, .int .i64 b, .int .i64 c, .int .i64 d]] w fun e w' => e = .returned (.tuple #[.int .i64 (lenC N M), .int .i64 0]) ∧ BelowD w.heap.size w w' := by
  have zq : ∀ W, (binOp .eql 23 (.agg #[.int .i64 a, .int .i64 b, .int .i64 c, .int .i64 d]) (.agg #[.int .i64 a, .int .i64 b, .int .i64 c, .int .i64 d])).run Try.prog W = .ok (.bool true) W := fun W => by rw [eql_arr]; simp
  have zg := guard_arr
  have HL : Hid ((if (N : Int) < M then (-1 : Int) else if (M : Int) < N then 1 else 0) = lenC N M) := Lib.hid (by
    unfold lenC
    by_cases h1 : N < M
    · rw [if_pos h1, if_pos (by omega)]
    · rw [if_neg h1, if_neg (by omega)]
      by_cases h2 : M < N
      · rw [if_pos h2, if_pos (by omega)]
      · rw [if_neg h2, if_neg (by omega)])
  go_enter Try.func70, Try.ntmps70
  go_wp2_with (first
    | (go_at_call 81; refine (checkall_twoD N a b c d M a b c d 0 _ _ (new3 _ _ _ _ _) HR).mono ?_; rintro e w1 ⟨rfl, hB⟩; obtain ⟨X1, Y1, Z1, hB1⟩ := made3D hB; have B1 := Lib.hid hB1; obtain ⟨x0, x1, x2, x3, x4⟩ := X1.cell5; obtain ⟨y0, y1, y2, y3, y4⟩ := Y1.cell5; clear hB hB1 X1 Y1 Z1)
    | (go_at_call 83; refine (ccompare_any N M _).mono ?_; rintro e w2 ⟨rfl, rfl⟩; rw [HL.out]))
  go_ret2
  exact ⟨rfl, B1.out⟩
set_option maxRecDepth 100000 in
set_option maxHeartbeats 2000000 in
theorem pcompare_otherD (N M : Nat) (a b c d a' b' c' d' r : Int) (w : World) (HR : Hid (bothP N a b c d M a' b' c' d' = 0)) (hne : ¬ (a = a' ∧ b = b' ∧ c = c' ∧ d = d')) (HC : Hid (cmpL [a, b, c, d] [a', b', c', d'] = r)) : Calls Try.prog 70 #[.agg #[.int .i64 N, .int .i64 a, .int .i64 b, .int .i64 c, .int .i64 d], .agg #[.int .i64 M, .int .i64 a', .int .i64 b', .int .i64 c', .int .i64 d']] w fun e w' => e = .returned (.tuple #[.int .i64 r, .int .i64 0]) ∧ BelowD w.heap.size w w' := by
  have hq : decide (a = a' ∧ b = b' ∧ c = c' ∧ d = d') = false := decide_eq_false hne
  have zq : ∀ W, (binOp .eql 23 (.agg #[.int .i64 a, .int .i64 b, .int .i64 c, .int .i64 d]) (.agg #[.int .i64 a', .int .i64 b', .int .i64 c', .int .i64 d'])).run Try.prog W = .ok (.bool false) W := fun W => by rw [eql_arr, hq]
  have zg := guard_arr
  clear hq hne
  go_enter Try.func70, Try.ntmps70
  go_wp2_with (go_at_call 81; refine (checkall_twoD N a b c d M a' b' c' d' 0 _ _ (new3 _ _ _ _ _) HR).mono ?_; rintro e w1 ⟨rfl, hB⟩; obtain ⟨X1, Y1, Z1, hB1⟩ := made3D hB; have B1 := Lib.hid hB1; obtain ⟨x0, x1, x2, x3, x4⟩ := X1.cell5; obtain ⟨y0, y1, y2, y3, y4⟩ := Y1.cell5; have X1 := Lib.hid X1; have Y1 := Lib.hid Y1; clear hB hB1 Z1)
  have RX : ∀ n, ReadsI (w1.drewN n) (some ⟨w.heap.size, 1, none⟩) [a, b, c, d] := fun n i hi => ⟨w.heap.size, 1, rfl, (X1.out.drewN n).lt, by
    have hi4 : i < 4 := hi
    rw [(X1.out.drewN n).place i hi4]
    have hm : i = 0 ∨ i = 1 ∨ i = 2 ∨ i = 3 := by omega
    rcases hm with rfl | rfl | rfl | rfl <;> rfl⟩
  have RY : ∀ n, ReadsI (w1.drewN n) (some ⟨w.heap.size + 1, 1, none⟩) [a', b', c', d'] := fun n i hi => ⟨w.heap.size + 1, 1, rfl, (Y1.out.drewN n).lt, by
    have hi4 : i < 4 := hi
    rw [(Y1.out.drewN n).place i hi4]
    have hm : i = 0 ∨ i = 1 ∨ i = 2 ∨ i = 3 := by omega
    rcases hm with rfl | rfl | rfl | rfl <;> rfl⟩
  have RXH := Lib.hid RX
  have RYH := Lib.hid RY
  clear RX RY zq zg x0 x1 x2 x3 x4 y0 y1 y2 y3 y4
  go_quiet ((go_at_call 84; exact Calls.quiet_of_same ((slcompare_any _ _ 4 4 4 [a, b, c, d] [a', b', c', d'] r _ (by omega) (Lib.hid rfl) (Lib.hid rfl) (Lib.hid (RXH.out _)) (Lib.hid (RYH.out _)) HC).mono fun e w' h => ⟨h.1, h.2.symm⟩)))
  go_wp2
  go_ret2
  exact ⟨rfl, below_drewND B1.out _⟩
theorem pcompare_anyD (n a b c d n' a' b' c' d' : Int) (w : World) (v r : Int) (H : Hid (cmpE (n, a, b, c, d) (n', a', b', c', d') = (v, r))) : Calls Try.prog 70 #[.agg #[.int .i64 n, .int .i64 a, .int .i64 b, .int .i64 c, .int .i64 d], .agg #[.int .i64 n', .int .i64 a', .int .i64 b', .int .i64 c', .int .i64 d']] w fun e w' => e = .returned (.tuple #[.int .i64 v, .int .i64 r]) ∧ BelowD w.heap.size w w' := by
  have h := H.out
  unfold cmpE at h
  simp only at h
  by_cases hc : bothP n a b c d n' a' b' c' d' = 0
  · rw [if_neg (by simpa using hc)] at h
    cases h
    obtain ⟨h1, h2⟩ := both_yes hc
    obtain ⟨k1, _, _⟩ := lst_ok h1
    obtain ⟨k2, _, _⟩ := lst_ok h2
    obtain ⟨N, hN, hN4, hl, hp⟩ := lst_nat h1
    obtain ⟨M, hM, hM4, hm, hq⟩ := lst_nat h2
    subst hN hM
    have e := cmpL_padded (lst ((N : Int), a, b, c, d)) (lst ((M : Int), a', b', c', d')) (4 - N) (4 - M) (by omega) (fun x hx => (k1.2 x hx).1) (fun x hx => (k2.2 x hx).1)
    have e1 := pad_list (by omega) hp
    have e2 := pad_list (by omega) hq
    rw [hl] at e1
    rw [hm] at e2
    rw [← e1, ← e2, hl, hm] at e
    rw [e]
    by_cases hs : a = a' ∧ b = b' ∧ c = c' ∧ d = d'
    · obtain ⟨rfl, rfl, rfl, rfl⟩ := hs
      rw [if_pos rfl]
      exact pcompare_sameD N M a b c d w (Lib.hid hc)
    · rw [if_neg (by simpa using hs)]
      exact pcompare_otherD N M a b c d a' b' c' d' _ w (Lib.hid hc) hs (Lib.hid rfl)
  · rw [if_pos hc] at h; cases h
    exact pcompare_badD n a b c d n' a' b' c' d' _ w (Lib.hid rfl) (by simpa using hc)

set_option maxRecDepth 100000 in
set_option maxHeartbeats 1000000 in
theorem pcmpD_anyD (n a b c d n' a' b' c' d' v : Int) (w : World) (H : Hid (cmpE (n, a, b, c, d) (n', a', b', c', d') = (v, 0))) : Calls Try.prog 42 #[.agg #[.int .i64 n, .int .i64 a, .int .i64 b, .int .i64 c, .int .i64 d], .agg #[.int .i64 n', .int .i64 a', .int .i64 b', .int .i64 c', .int .i64 d']] w fun e w' => e = .returned (.int .i64 v) ∧ BelowD w.heap.size w w' := by
  go_enter Try.func42, Try.ntmps42
  go_wp2_with (go_at_call 70; refine (pcompare_anyD n a b c d n' a' b' c' d' _ v 0 H).mono ?_; rintro e w1 ⟨rfl, hB⟩; have B1 := Lib.hid (made2D hB).2.2; clear hB)
  go_ret
  exact ⟨rfl, B1.out⟩
end Go.Proofs.Ytdahaajfkjmflaa.s14

namespace Go.Proofs.Ytdahaajfkjmflaa.s14
set_option linter.unusedVariables false
set_option linter.unusedSimpArgs false
open Go.RowKit
open kit

open s13

open Go.Shelf
attribute [local go_sem] Oper.semAt_some
theorem abz_len {J : List V5 → (Nat → Prop) → World → Prop} (h : AbZ J) (n : Nat) : AbZ (fun (s : List V5) Z W => J s Z W ∧ s.length ≤ n) :=
  { size := fun s Z W h0 => h.size s Z W h0.1
    grown := fun s Z W W' h0 hg => ⟨h.grown s Z W W' h0.1 hg, h0.2⟩
    claim := fun s Z W o h0 => ⟨h.claim s Z W o h0.1, h0.2⟩
    turn := fun s Z W W' r h0 hr hg => ⟨h.turn s Z W W' r h0.1 hr hg, h0.2⟩
    less := fun s Z Z' W h0 hz => ⟨h.less s Z Z' W h0.1 hz, h0.2⟩ }
def celV (x : V5) : Array Value := #[.int .i64 x.1, .int .i64 x.2.1, .int .i64 x.2.2.1, .int .i64 x.2.2.2.1, .int .i64 x.2.2.2.2]
set_option maxRecDepth 100000 in
set_option maxHeartbeats 6000000 in
theorem appendseq_any (bm b nn B : Nat) (w : World) (hB : B ≤ w.heap.size) (L : List V5) (hL : ∀ y ∈ L, inV y) (D0 : DataW Unit) (hD : KeySet D0 L) (hX : Box w 60 bm #[.map (some b)]) (hown : w.ownsMap Try.prog 25 (plainElem Try.prog 4) b nn D0) (zm : B ≤ bm) (zb : B ≤ b) (hnn : nn ≤ 20000) :
    Calls Try.prog 87 #[.slice none 0 0, .func (.func 74) #[] #[.pointer (some ⟨bm, 0, none⟩)]] w fun e w' => ∃ v ss, e = .returned v ∧ (ss.Nodup ∧ ∀ y, y ∈ ss ↔ y ∈ L) ∧ w'.ownsRow w.heap.size 25 5 v ss.length (flat5 ss) ∧ Below B w w' ∧ ss.length ≤ nn := by
  obtain ⟨i0, hi, hz0, hz1, hz2⟩ := info_parts info5
  refine (callsIn_wide (n := 6)).1 ?_
  refine callsIn_of_wp_marks Try.func87 rfl trivial ?_ rfl
  simp only [Try.ntmps87, List.size_toArray, List.length_cons, List.length_nil, Nat.reduceAdd, Nat.reduceSub, Array.replicate_succ, Array.replicate_zero, List.push_toArray, List.append_toArray, List.nil_append, List.cons_append]
  gi_wp2
  obtain ⟨W0, hW0⟩ : ∃ W0, w.alloc (.cells #[.slice none 0 0] 22) = W0 := ⟨_, rfl⟩
  have hsz : W0.heap.size = w.heap.size + 1 := by rw [← hW0]; simp
  have X0 : Box W0 60 bm #[.map (some b)] := by rw [← hW0]; exact hX.alloc _
  have M0 : W0.ownsMap Try.prog 25 (plainElem Try.prog 4) b nn D0 := by rw [← hW0]; exact hown.alloc _
  have V0 : Box W0 22 w.heap.size #[.slice none 0 0] := by rw [← hW0]; exact Box.new w _ _
  have Bw : Below B w W0 := by rw [← hW0]; exact (Below.refl _ _).alloc hB _
  have lx := hX.lt
  have lb := hown.lt
  rw [hW0]
  clear hW0 hX hown
  have hI0 : CollV B w.heap.size w ([] : List V5) (fun r => r = bm ∨ r = b) W0 := ⟨⟨_, V0, World.ownsRow_nil _ _ _ _, fun r _ e => by cases e⟩, Bw, by omega, fun r hr => by rcases hr with rfl | rfl <;> exact ⟨by assumption, by omega, by omega⟩⟩
  refine wpIn_rangeFunc_ownZ (F := Fence.wide) rfl (by omega) (gf := 74) (lb := #[.pointer (some ⟨bm, 0, none⟩)]) rfl trivial (enters_of Try.func74 (by kernel_rfl) rfl)
    (encs := encV) (Z0 := fun r => r = bm ∨ r = b) (S := fun ss => ss.Nodup ∧ ∀ y, y ∈ ss ↔ y ∈ L) (Sp := fun _ => True) (N := nn)
    (R := fun W' => Box W' 60 bm #[.map (some b)] ∧ W'.ownsMap Try.prog 25 (plainElem Try.prog 4) b nn D0)
    (fun l' J' Jx' W' hR' hJ' hJx' hY' h0' => keys1_any Fence.wide _ trivial rfl rfl l' bm b nn L hL D0 hD J' Jx' _ hJ' hJx' (.inl rfl) (.inr rfl) _ hY' W' hR'.1 hR'.2 h0')
    (fun o o' => ⟨(X0.alloc o).alloc o', (M0.alloc o).alloc o'⟩) (fun x => rfl) (fun r hr => by omega)
    (fun (s : List V5) Z W' => CollV B w.heap.size w s Z W' ∧ s.length ≤ nn) (fun _ _ _ _ => False) (abz_len (collV_ab (fun s => s) B _ w hB) _) (fun _ => abz_false)
    (fun s Z W' k' o o' h hk' ho hc => ⟨collV_put o' (by omega) ho hc hB h.1, h.2⟩) (fun _ _ _ _ _ _ _ h _ _ _ => h)
    (fun o o' => ⟨(collV_ab (fun s : List V5 => s) B _ w hB).alloc _ ((collV_ab (fun s : List V5 => s) B _ w hB).alloc _ hI0), Nat.zero_le _⟩)
    (fun x a' W' => ∃ b5, Box W' 25 b5 (celV x) ∧ a' = { tmps := #[.slice none 0 0, .func (.func 74) #[] #[.pointer (some ⟨bm, 0, none⟩)], .pointer (some ⟨w.heap.size, 0, none⟩), undef, .slice none 0 0, .pointer (some ⟨b5, 0, none⟩), .func (.func 74) #[] #[.pointer (some ⟨bm, 0, none⟩)], aggV x, undef, undef, undef, undef, undef], defers := [] })
    ?hAx ?assign ?body ?done ?stop
  case hAx =>
    rintro x a' W' k' o o' ⟨b7, hb7, rfl⟩ hk hc
    refine ⟨b7, ?_, rfl⟩
    have hne : b7 ≠ k' := by
      rintro rfl
      have h2 : W'.heap[b7]? = _ := hb7
      rw [hk] at h2
      cases h2
      cases hc
    exact (World.putObj_heap_other hne).trans hb7
  case assign =>
    rintro l1 pre ⟨v0, v1, v2, v3, v4⟩ Z Wc K hi1 hlt1 hK
    have hlts : ∀ r, (Z r ∨ r = W0.heap.size ∨ r = W0.heap.size + 1) → r < Wc.heap.size := fun r hr => by
      rcases hr with hr | rfl | rfl
      · exact (hi1.1.2.2.2 r hr).2.2
      · omega
      · omega
    simp only [encV]
    clear hsz
    gi_wp2
    exact hK _ _ (fun r hr => Below.heap_alloc Wc _ r (hlts r hr)) ((abz_len (collV_ab (fun s : List V5 => s) B _ w hB) _).alloc _ hi1) ⟨Wc.heap.size, Box.new Wc _ _, rfl⟩
  case body =>
    rintro l1 pre ⟨v0, v1, v2, v3, v4⟩ a' Z Wc ⟨⟨⟨v, h1, h2, h3⟩, h4, h5, h6⟩, hpn⟩ ⟨b5, hb5, rfl⟩ hz hne hlt2 hnc hln
    simp only [celV] at hb5
    simp only [aggV]
    obtain ⟨c0, c1, c2, c3, c4⟩ := hb5.cell5
    have lb5 := hb5.lt
    have cv := h1.cell 0
    simp at cv
    clear hsz
    have hsrc : ∀ (i : Nat) (u : Value), (cells5 (v0, v1, v2, v3, v4))[i]? = some u → (Wc.alloc (.cells #[.int .i64 v0, .int .i64 v1, .int .i64 v2, .int .i64 v3, .int .i64 v4] 25)).cell? ((⟨Wc.heap.size, 0, none⟩ : Addr).add i) = some u := fun i u hu => by
      rw [Go.WideShapes.add_plain, Nat.zero_add, (Box.new Wc 25 #[.int .i64 v0, .int .i64 v1, .int .i64 v2, .int .i64 v3, .int .i64 v4]).cell i]
      simpa [cells5] using hu
    have hpl : (pre.length + 1) * 40 ≤ 140737488355328 := by omega
    have hpm : pre.length + 1 ≤ maxLen := by unfold maxLen; omega
    gi_wp2_with (gi_at_builtin; go_loud (refine wpListIn_append_own_at _ rfl (.tmp 8) (.tmp 10) 22 rfl w.heap.size 25 i0 (.agg #[.int .i64 0, .int .i64 0, .int .i64 0, .int .i64 0, .int .i64 0]) 5 40 Try.underlying22 hi hz0 hz1 hz2 rfl (by decide) v pre.length _ rfl (h2.alloc _) ⟨Wc.heap.size, 0, none⟩ 1 1 (cells5 (v0, v1, v2, v3, v4)) rfl rfl hsrc (by simp [cells5, Value.oneCell']) hpm hpl (by simp; omega) ?_); intro v' w1 hown' hgrow _ hblk; obtain ⟨g', cap', rfl⟩ := ownsRow_succ hown'; obtain ⟨hv1, hv2, hr2, hk2, hb2⟩ := Boxed.appended h1 (by decide) h2 h5 (Nat.le_refl _) hown' hgrow; have hc1 := hv1.cell; have hf1 := hv1.frozen)
    have hkeep : ∀ r, r < Wc.heap.size → v.ownBlock ≠ some r → r ≠ w.heap.size → (w1.setCell ⟨w.heap.size, 0, none⟩ (.slice (some ⟨g', 0, none⟩) (pre.length + 1) cap')).heap[r]? = Wc.heap[r]? := fun r hr ho hb =>
      (Below.heap_setCell _ _ _ _ hb).trans ((grown_keep hgrow (by simp; omega) (fun e => ho e.symm)).trans (Below.heap_alloc Wc _ r hr))
    have hncr : ∀ r, r = W0.heap.size ∨ r = W0.heap.size + 1 → r < Wc.heap.size ∧ v.ownBlock ≠ some r ∧ r ≠ w.heap.size := fun r hr => by
      obtain ⟨o, ho, hc⟩ := hnc r hr
      refine ⟨(Array.getElem?_eq_some_iff.1 ho).1, fun e => ?_, fun e => ?_⟩
      · obtain ⟨_, cs, t', z, h⟩ := own_lt h2 e
        rw [ho] at h; cases h; cases hc
      · have h : Wc.heap[w.heap.size]? = _ := h1
        rw [← e, ho] at h; cases h; cases hc
    refine ⟨fun r hr => ?_, ⟨⟨_, hv2, ?_, fun r hr e => ?_⟩, h4.trans (hb2.mono hB), ?_, fun r hr => ⟨(h6 r hr).1, (h6 r hr).2.1, ?_⟩⟩, ?_⟩
    · rcases hr with hr | hr
      · exact hkeep r (h6 r hr).2.2 (h3 r hr) (h6 r hr).2.1
      · obtain ⟨e1, e2, e3⟩ := hncr r hr
        exact hkeep r e1 e2 e3
    · rw [List.length_append, flat5_app, flat5_one]
      exact hr2
    · rcases hblk with hb | hb
      · exact h3 r hr (hb ▸ e)
      · rw [hb] at e
        have e2 := (h6 r hr).2.2
        simp at e
        omega
    · exact Nat.le_trans h5 hb2.size
    · exact Nat.lt_of_lt_of_le (h6 r hr).2.2 hb2.size
    · rw [List.length_append, List.length_singleton]; omega
  case done =>
    rintro xs W8 hxs ⟨⟨⟨v, h1, h2, h3⟩, h4, h5, h6⟩, hxn⟩ hK8
    have cv := h1.cell 0
    simp at cv
    have hne : v.ownBlock ≠ some W0.heap.size := fun e => by
      obtain ⟨_, cs, t', z, h⟩ := own_lt h2 e
      rw [hK8] at h; cases h
    have HSZ := Lib.hid hsz
    clear hsz
    gi_wp2
    refine leaves_marksG (G := fun W' => W'.ownsRow w.heap.size 25 5 v xs.length (flat5 xs) ∧ Below B w W' ∧ w.heap.size ≤ W'.heap.size) (fun w => results_tmp rfl _ _ _) (fun w' hw => ⟨v, rfl, xs, ⟨hxs.1, fun a b c d e => hxs.2 (a, b, c, d, e)⟩, hw.1, hw.2.1, hxn⟩) [W0.heap.size] W8 (by simp) (fun q hq => by obtain rfl := List.mem_singleton.1 hq; exact hK8) (fun W' q o' hq h => by
      obtain rfl := List.mem_singleton.1 hq
      exact ⟨h.1.kept (grownBy_putObj' W' _ o') (.inr hne), h.2.1.grown (grownBy_putObj' W' _ o') (Nat.le_trans hB h.2.2) (fun j e => by cases e; have := HSZ.out; omega), Nat.le_trans h.2.2 (grownBy_putObj' W' W0.heap.size o').size⟩) ⟨h2, h4, h5⟩
  case stop =>
    rintro c pre W8 _ h _
    exact h.elim
set_option maxRecDepth 100000 in
set_option maxHeartbeats 2000000 in
theorem collect_any (bm b nn B : Nat) (w : World) (hB : B ≤ w.heap.size) (L : List V5) (hL : Hid (∀ y ∈ L, inV y)) (D0 : DataW Unit) (hD : Hid (KeySet D0 L)) (hX : Hid (Box w 60 bm #[.map (some b)])) (hown : Hid (w.ownsMap Try.prog 25 (plainElem Try.prog 4) b nn D0)) (zm : B ≤ bm) (zb : B ≤ b) (hnn : nn ≤ 20000) :
    Calls Try.prog 72 #[.func (.func 74) #[] #[.pointer (some ⟨bm, 0, none⟩)]] w fun e w' => ∃ v ss, e = .returned v ∧ (ss.Nodup ∧ ∀ y, y ∈ ss ↔ y ∈ L) ∧ w'.ownsRow w.heap.size 25 5 v ss.length (flat5 ss) ∧ Below B w w' ∧ ss.length ≤ nn := by
  go_enter Try.func72, Try.ntmps72
  go_wp2_with (go_at_call 87; refine (appendseq_any bm b nn B _ hB L hL.out D0 hD.out hX.out hown.out zm zb hnn).mono ?_; rintro e w1 ⟨v, ss, rfl, hs, hR, hB1, hn⟩; have HS := Lib.hid hs; have HR := Lib.hid hR; have HB1 := Lib.hid hB1; clear hs hR hB1)
  go_ret
  exact ⟨v, ss, rfl, HS.out, HR.out, HB1.out, hn⟩
end Go.Proofs.Ytdahaajfkjmflaa.s14

namespace Go.Proofs.Ytdahaajfkjmflaa.s14
set_option linter.unusedVariables false
set_option linter.unusedSimpArgs false
open Go.RowKit
open kit

open s13

open Go.Shelf Go.Sort
theorem grown_of_belowD {w w' : World} (h : BelowD w.heap.size w w') : ∃ q os', w' = grow (w.drewN q) os' := by
  obtain ⟨p, hp⟩ := regrown_of_below h.b
  have hd := h.d
  refine ⟨p.d - w.drawn, p.os, ?_⟩
  have e : w'.drawn = p.d := by rw [hp]; rfl
  rw [hp]
  have : redrawn w p.d = w.drewN (p.d - w.drawn) := by
    unfold redrawn World.drewN
    rw [show w.drawn + (p.d - w.drawn) = p.d by omega]
  rw [this]
abbrev L8 := { l : List Int // okL 8 l }
instance : Inhabited L8 := ⟨⟨[], okL_nil 8⟩⟩
def enc8 (x : L8) : List Value := cells5 (pad5 x.1)
theorem enc8_len (x : L8) : (enc8 x).length = 5 := rfl
theorem enc8_one (x : L8) : ∀ v ∈ enc8 x, v.oneCell' = true := fun v hv => by
  simp only [enc8, cells5, List.mem_cons, List.not_mem_nil, or_false] at hv
  rcases hv with rfl | rfl | rfl | rfl | rfl <;> rfl
def cf8 (x y : L8) : Int := cmpL x.1 y.1
theorem swo8 : SWO (Go.Proofs.ltOf cf8) where
  irrefl := fun x => by unfold Go.Proofs.ltOf cf8; rw [cmpL_self]; rfl
  trans := fun x y z h1 h2 => by
    unfold Go.Proofs.ltOf cf8 at *
    simp only [decide_eq_true_eq] at *
    exact cmpL_strict _ _ _ h1 (by omega)
  ntrans := fun x y z h1 h2 => by
    unfold Go.Proofs.ltOf cf8 at *
    simp only [decide_eq_false_iff_not] at *
    have a1 := cmpL_neg x.1 y.1
    have a2 := cmpL_neg y.1 z.1
    have a3 := cmpL_neg x.1 z.1
    have := cmpL_trans z.1 y.1 x.1 (by omega) (by omega)
    omega
theorem cmplays8 (blk off size : Nat) (w : World) : Go.Proofs.CmpLays Try.prog 42 #[] enc8 5 cf8 blk off size w := by
  intro m os dk hd x y
  obtain ⟨⟨x0, x1, x2, x3, x4⟩, hx⟩ : ∃ v, pad5 x.1 = v := ⟨_, rfl⟩
  obtain ⟨⟨y0, y1, y2, y3, y4⟩, hy⟩ : ∃ v, pad5 y.1 = v := ⟨_, rfl⟩
  have e : (#[.agg (enc8 x).toArray, .agg (enc8 y).toArray] ++ #[] : Array Value) = #[.agg #[.int .i64 x0, .int .i64 x1, .int .i64 x2, .int .i64 x3, .int .i64 x4], .agg #[.int .i64 y0, .int .i64 y1, .int .i64 y2, .int .i64 y3, .int .i64 y4]] := by
    unfold enc8; rw [hx, hy]; rfl
  rw [e]
  refine (pcmpD_anyD x0 x1 x2 x3 x4 y0 y1 y2 y3 y4 (cf8 x y) _ (Lib.hid (cmpE_ok x.2 y.2 hx hy))).mono ?_
  rintro e' w' ⟨rfl, hB⟩
  exact ⟨rfl, grown_of_belowD hB⟩
end Go.Proofs.Ytdahaajfkjmflaa.s14

namespace Go.Proofs.Ytdahaajfkjmflaa.lay
open Go.Shelf
def lay73_ren : Go.Shelf.Ren := ⟨fun | 6 => 73 | 15 => 89 | 14 => 88 | 28 => 100 | 29 => 101 | 20 => 92 | 21 => 93 | 22 => 94 | 23 => 95 | 24 => 96 | 25 => 97 | 26 => 98 | 27 => 99 | 46 => 102 | 47 => 103 | 48 => 104 | 49 => 105 | 50 => 106 | 57 => 107 | n => n, fun | 22 => 22 | 24 => 25 | 25 => 58 | 3 => 3 | 39 => 96 | 0 => 0 | 53 => 106 | 55 => 108 | 4 => 4 | 46 => 99 | 45 => 98 | 50 => 103 | 5 => 5 | 9 => 9 | 66 => 109 | 70 => 113 | 76 => 115 | 77 => 116 | n => n, fun | n => n⟩
theorem lay73 : Go.Proofs.SlLaysF0.n6 Try.prog lay73_ren := {
  mixed := by kernel_rfl
  f6 := ⟨Try.f73.name, by decide, Try.func73.trans (congrArg some (by kernel_rfl))⟩
  f14 := ⟨Try.f88.name, by decide, Try.func88.trans (congrArg some (by kernel_rfl))⟩
  f15 := Try.func89.trans (congrArg some (by kernel_rfl))
  f20 := ⟨Try.f92.name, by decide, Try.func92.trans (congrArg some (by kernel_rfl))⟩
  f21 := ⟨Try.f93.name, by decide, Try.func93.trans (congrArg some (by kernel_rfl))⟩
  f22 := ⟨Try.f94.name, by decide, Try.func94.trans (congrArg some (by kernel_rfl))⟩
  f23 := ⟨Try.f95.name, by decide, Try.func95.trans (congrArg some (by kernel_rfl))⟩
  f24 := ⟨Try.f96.name, by decide, Try.func96.trans (congrArg some (by kernel_rfl))⟩
  f25 := ⟨Try.f97.name, by decide, Try.func97.trans (congrArg some (by kernel_rfl))⟩
  f26 := ⟨Try.f98.name, by decide, Try.func98.trans (congrArg some (by kernel_rfl))⟩
  f27 := ⟨Try.f99.name, by decide, Try.func99.trans (congrArg some (by kernel_rfl))⟩
  f28 := Try.func100.trans (congrArg some (by kernel_rfl))
  f29 := Try.func101.trans (congrArg some (by kernel_rfl))
  f46 := ⟨Try.f102.name, by decide, Try.func102.trans (congrArg some (by kernel_rfl))⟩
  f47 := Try.func103.trans (congrArg some (by kernel_rfl))
  f48 := Try.func104.trans (congrArg some (by kernel_rfl))
  f49 := ⟨Try.f105.name, by decide, Try.func105.trans (congrArg some (by kernel_rfl))⟩
  f50 := ⟨Try.f106.name, by decide, Try.func106.trans (congrArg some (by kernel_rfl))⟩
  f57 := ⟨Try.f107.name, by decide, Try.func107.trans (congrArg some (by kernel_rfl))⟩
  t0 := Try.underlying0
  a0 := Try.isAgg0
  z0 := Try.sizeOf0
  v0 := Try.zeroValue0
  t3 := Try.underlying3
  a3 := Try.isAgg3
  z3 := Try.sizeOf3
  v3 := Try.zeroValue3
  t4 := Try.underlying4
  a4 := Try.isAgg4
  z4 := Try.sizeOf4
  v4 := Try.zeroValue4
  t5 := Try.underlying5
  a5 := Try.isAgg5
  z5 := Try.sizeOf5
  v5 := Try.zeroValue5
  t9 := Try.underlying9
  a9 := Try.isAgg9
  z9 := Try.sizeOf9
  v9 := Try.zeroValue9
  t22 := Try.underlying22
  a22 := Try.isAgg22
  z22 := Try.sizeOf22
  v22 := Try.zeroValue22
  t25 := Try.underlying58
  a25 := Try.isAgg58
  z25 := Try.sizeOf58
  v25 := Try.zeroValue58
  t39 := Try.underlying96
  a39 := Try.isAgg96
  z39 := Try.sizeOf96
  v39 := Try.zeroValue96
  t45 := Try.underlying98
  a45 := Try.isAgg98
  z45 := Try.sizeOf98
  v45 := Try.zeroValue98
  t46 := Try.underlying99
  a46 := Try.isAgg99
  z46 := Try.sizeOf99
  v46 := Try.zeroValue99
  t50 := Try.underlying103
  a50 := Try.isAgg103
  z50 := Try.sizeOf103
  v50 := Try.zeroValue103
  t53 := Try.underlying106
  a53 := Try.isAgg106
  z53 := Try.sizeOf106
  v53 := Try.zeroValue106
  t55 := Try.underlying108
  a55 := Try.isAgg108
  z55 := Try.sizeOf108
  v55 := Try.zeroValue108
  t66 := Try.underlying109
  a66 := Try.isAgg109
  z66 := Try.sizeOf109
  v66 := Try.zeroValue109
  t70 := Try.underlying113
  a70 := Try.isAgg113
  z70 := Try.sizeOf113
  v70 := Try.zeroValue113
  t76 := Try.underlying115
  a76 := Try.isAgg115
  z76 := Try.sizeOf115
  v76 := Try.zeroValue115
  t77 := Try.underlying116
  a77 := Try.isAgg116
  z77 := Try.sizeOf116
  v77 := Try.zeroValue116 }
end Go.Proofs.Ytdahaajfkjmflaa.lay

namespace Go.Proofs.Ytdahaajfkjmflaa.s14
set_option linter.unusedVariables false
set_option linter.unusedSimpArgs false
open Go.RowKit
open kit

open s13

open Go.Shelf Go.Sort
theorem kl_e (x : L8) : enc8 x = cells5 (pad5 x.1) := rfl
def arr8 (L : List (List Int)) (h : ∀ x ∈ L, okL 8 x) : Array L8 := (L.pmap Subtype.mk h).toArray
theorem arr8_size (L : List (List Int)) (h : ∀ x ∈ L, okL 8 x) : (arr8 L h).size = L.length := by simp [arr8]
theorem arr8_at (L : List (List Int)) (h : ∀ x ∈ L, okL 8 x) (i : Nat) (hi : i < L.length) : ((arr8 L h)[i]!).1 = L[i]?.getD [] := by
  have hs : i < (arr8 L h).size := by rw [arr8_size]; exact hi
  rw [getElem!_pos _ i hs, List.getElem?_eq_getElem hi]
  simp [arr8]
theorem arr8_map (L : List (List Int)) (h : ∀ x ∈ L, okL 8 x) : (arr8 L h).toList.map Subtype.val = L := by
  unfold arr8
  rw [List.map_pmap]
  simp
theorem holds8 {w : World} {g : Nat} {L : List (List Int)} (h : ∀ x ∈ L, okL 8 x) (hr : Row5 w g (L.map pad5)) : HoldsK enc8 5 w g 0 (arr8 L h) := by
  intro j hj
  rw [size_flatK, arr8_size] at hj
  rw [get_flatK _ _ _ _ (by rw [arr8_size]; exact hj), kl_e, arr8_at L h (j / 5) (by omega), Nat.zero_add]
  obtain ⟨h1, h2⟩ := hr.cell j (by rw [flat5_len, List.length_map]; exact hj)
  refine ⟨?_, h2⟩
  rw [h1]
  have hf := flat5_at (L.map pad5) (j / 5) (by rw [List.length_map]; omega) (j % 5) (Nat.mod_lt _ (by omega))
  rw [show j / 5 * 5 + j % 5 = j by omega, map_getD (by omega)] at hf
  rw [hf]
  have h5 : j % 5 < (cells5 (pad5 (L[j / 5]?.getD []))).length := Nat.mod_lt _ (by omega)
  rw [List.getElem?_eq_getElem h5, getElem!_pos (cells5 (pad5 (L[j / 5]?.getD []))) _ h5]
  rfl
theorem reads_holds8 {w : World} {g : Nat} {d : Array L8} (hg : g < w.heap.size) (h : HoldsK enc8 5 w g 0 d) : Reads5 w (some ⟨g, 0, none⟩) ((d.toList.map Subtype.val).map pad5) := by
  intro i hi
  have hi2 : i < d.size := by simpa using hi
  refine ⟨g, 0, rfl, hg, ?_⟩
  have e : ((d.toList.map Subtype.val).map pad5)[i]?.getD no5 = pad5 (d[i]!).1 := by
    rw [List.getElem?_map, List.getElem?_map, Array.getElem?_toList, Array.getElem?_eq_getElem hi2, getElem!_pos d i hi2]; rfl
  rw [e]
  have c : ∀ k, k < 5 → w.cell? ⟨g, 0 + i * 5 + k, none⟩ = some (enc8 d[i]!)[k]! := fun k hk => (h.cell hi2 hk).1
  exact ⟨c 0 (by omega), c 1 (by omega), c 2 (by omega), c 3 (by omega), c 4 (by omega)⟩
theorem below_sortK {w : World} {g off n B : Nat} {d : Array L8} {os : Array Obj} (hB : B ≤ g) (hw : B ≤ w.heap.size) : Below B w (sortWorldK enc8 5 w g off n d os) := by
  refine ⟨rfl, rfl, rfl, ?_, fun k hk => ?_⟩
  · simp [sortWorldK, grow, putRowK, putRow, mapBlock, ahead]
  · have hk2 : k < w.heap.size := by omega
    have hk3 : ¬ g = k := by omega
    unfold sortWorldK grow putRowK putRow mapBlock
    show ((Array.modify w.heap g _) ++ os)[k]? = _
    rw [Array.getElem?_append_left (by rw [Array.size_modify]; exact hk2), Array.getElem?_modify, if_neg hk3]
theorem up_of_sorted {d : Array L8} (h : SortedIn (ltOf cf8) 0 d.size d) : Up (d.toList.map Subtype.val) := by
  refine List.pairwise_map.2 (List.pairwise_iff_getElem.2 fun i j hi hj hij => ?_)
  have hi2 : i < d.size := by simpa using hi
  have hj2 : j < d.size := by simpa using hj
  have := h i j (Nat.zero_le _) hij hj2
  rw [getElem!_pos d i hi2, getElem!_pos d j hj2] at this
  unfold ltOf cf8 at this
  simp only [decide_eq_false_iff_not] at this
  have a1 := cmpL_neg (d.toList[i]).1 (d.toList[j]).1
  simp only [Array.getElem_toList] at a1 ⊢
  omega
set_option maxRecDepth 100000 in
set_option maxHeartbeats 2000000 in
theorem sort_any (L : List (List Int)) (g cap n : Nat) (w : World) (hn : Hid (L.length = n)) (hsz : n ≤ 100000) (hL : Hid (∀ x ∈ L, okL 8 x)) (hrow : Hid (Row5 w g (L.map pad5))) :
    Calls Try.prog 73 #[.slice (some ⟨g, 0, none⟩) n cap, .func (.func 42) #[] #[]] w fun e w' => e = .returned (.tuple #[]) ∧ ∃ L', L'.Perm L ∧ Up L' ∧ Reads5 w' (some ⟨g, 0, none⟩) (L'.map pad5) ∧ ∀ B, B ≤ g → B ≤ w.heap.size → Below B w w' := by
  have hsize := arr8_size L hL.out
  have h := AnyQ.slices_SortFunc lay.lay73 5 (fun w => by kernel_rfl) (fun w => by kernel_rfl) enc8 enc8_len enc8_one cf8 swo8 42 #[] g 0 cap (arr8 L hL.out) w (enters_of Try.func42 (by kernel_rfl) rfl) (cmplays8 _ _ _ _) (holds8 hL.out hrow.out) hrow.out.lt (by rw [hsize, hn.out]; omega)
  change Calls Try.prog 73 _ _ _ at h
  rw [hsize, hn.out] at h
  refine h.mono ?_
  rintro e w' ⟨rfl, d', m, os, hp, hs, rfl⟩
  have hds : d'.size = (arr8 L hL.out).size := hp.1
  refine ⟨rfl, d'.toList.map Subtype.val, ?_, up_of_sorted (by rw [hds, hsize, hn.out]; exact hs), ?_, fun B hB hw => below_sortK hB hw⟩
  · have h3 := hp.2.2
    rw [show (d'.extract 0 n).toList = d'.toList by rw [Array.extract_eq_self_of_le (by rw [hds, hsize, hn.out]; exact Nat.le_refl _)]] at h3
    rw [show ((arr8 L hL.out).extract 0 n).toList = (arr8 L hL.out).toList by rw [Array.extract_eq_self_of_le (by rw [hsize, hn.out]; exact Nat.le_refl _)]] at h3
    have h4 := h3.map Subtype.val
    rwa [arr8_map] at h4
  · exact reads_holds8 (lt_sortWorldK enc8 5 w g 0 m d' os hrow.out.lt) (holdsK_sortWorldK enc8 5 w g 0 m (arr8 L hL.out) d' os hrow.out.lt (holds8 hL.out hrow.out) hds)
end Go.Proofs.Ytdahaajfkjmflaa.s14
