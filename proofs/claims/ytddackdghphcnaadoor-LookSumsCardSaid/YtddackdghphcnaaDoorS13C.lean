/-
  Layer 13: the program's Check at every look; checkAll.
-/
import Derived.Test.YtddackdghphcnaaDoorS13B
import Derived.Test.YtddackdghphcnaaDoorS13L
namespace Go.Proofs.YtddackdghphcnaaDoor.s13
set_option linter.unusedVariables false
set_option linter.unusedSimpArgs false
open Go.RowKit
open kit

theorem pl_lt {a b c d t : Int} {N : Nat} (h : ∀ i, i < N → 0 ≤ pl a b c d i ∧ pl a b c d i < t) : (0 < N → 0 ≤ a ∧ a < t) ∧ (1 < N → 0 ≤ b ∧ b < t) ∧ (2 < N → 0 ≤ c ∧ c < t) ∧ (3 < N → 0 ≤ d ∧ d < t) :=
  ⟨fun k => h 0 k, fun k => h 1 k, fun k => h 2 k, fun k => h 3 k⟩
theorem pcheck_any (n a b c d t r : Int) (w : World) (H : Hid (chkP n a b c d t = r)) : Calls Tryd.prog 18 #[.agg #[.int .i64 n, .int .i64 a, .int .i64 b, .int .i64 c, .int .i64 d], .int .i64 t] w fun e w' => e = .returned (.int .i64 r) ∧ Below w.heap.size w w' := by
  have h := H.out
  unfold chkP at h
  by_cases ht : t < 1 ∨ 8 < t
  · rw [if_pos ht] at h; subst h
    exact check_terms n a b c d t w ht
  · rw [if_neg ht] at h
    by_cases hn : n < 0 ∨ 4 < n
    · rw [if_pos hn] at h; subst h
      exact check_length n a b c d t w (by omega) (by omega) hn
    · rw [if_neg hn] at h
      obtain ⟨N, rfl⟩ : ∃ N : Nat, n = N := ⟨n.toNat, by omega⟩
      by_cases hf : ((N : Int) ≤ 0 ∧ a ≠ 0) ∨ ((N : Int) ≤ 1 ∧ b ≠ 0) ∨ ((N : Int) ≤ 2 ∧ c ≠ 0) ∨ ((N : Int) ≤ 3 ∧ d ≠ 0)
      · rw [if_pos hf] at h; subst h
        obtain ⟨a', b', c', d', e, e1, e2, e3, e4⟩ := cutP_self N a b c d
        refine check_form N a b c d a' b' c' d' t w (by omega) (by omega) (by omega) (Lib.hid e) ?_
        rintro ⟨f1, f2, f3, f4⟩
        subst f1 f2 f3 f4
        rcases hf with ⟨k, hk⟩ | ⟨k, hk⟩ | ⟨k, hk⟩ | ⟨k, hk⟩
        · rw [if_neg (by omega)] at e1; exact hk e1
        · rw [if_neg (by omega)] at e2; exact hk e2
        · rw [if_neg (by omega)] at e3; exact hk e3
        · rw [if_neg (by omega)] at e4; exact hk e4
      · rw [if_neg hf] at h
        have e : cutP N N a b c d = (N, a, b, c, d) := by
          obtain ⟨a', b', c', d', e, e1, e2, e3, e4⟩ := cutP_self N a b c d
          rw [e]
          have g1 : a' = a := by by_cases k : 0 < N <;> simp [k] at e1 <;> omega
          have g2 : b' = b := by by_cases k : 1 < N <;> simp [k] at e2 <;> omega
          have g3 : c' = c := by by_cases k : 2 < N <;> simp [k] at e3 <;> omega
          have g4 : d' = d := by by_cases k : 3 < N <;> simp [k] at e4 <;> omega
          rw [g1, g2, g3, g4]
        refine check_places N a b c d t r w (by omega) (by omega) (by omega) (Lib.hid e) (Lib.hid fun i hi hb => ?_) (Lib.hid fun hk => ?_)
        · rw [← h]
          refine if_pos ?_
          have hm : i = 0 ∨ i = 1 ∨ i = 2 ∨ i = 3 := by omega
          rcases hm with rfl | rfl | rfl | rfl
          · exact .inl ⟨by omega, hb⟩
          · exact .inr (.inl ⟨by omega, hb⟩)
          · exact .inr (.inr (.inl ⟨by omega, hb⟩))
          · exact .inr (.inr (.inr ⟨by omega, hb⟩))
        · obtain ⟨k1, k2, k3, k4⟩ := pl_lt hk
          rw [← h]
          exact if_neg (by omega)
/-- what checkAll says: the first error -/
def chkAll : List V5 → Int
  | [] => 0
  | x :: l => if chkP x.1 x.2.1 x.2.2.1 x.2.2.2.1 x.2.2.2.2 8 = 0 then chkAll l else chkP x.1 x.2.1 x.2.2.1 x.2.2.2.1 x.2.2.2.2 8
set_option maxRecDepth 100000 in
set_option maxHeartbeats 2000000 in
theorem checkall_any (a : Option Addr) (cp : Nat) (l : List V5) (w : World) (hl : l.length ≤ 1000) (r : Int) (hr : Hid (Reads5 w a l)) (H : Hid (chkAll l = r)) : Calls Tryd.prog 46 #[.slice a l.length cp] w fun e w' => e = .returned (.int .i64 r) ∧ Below w.heap.size w w' := by
  go_enter Tryd.func46, Tryd.ntmps46
  go_wp2
  go_loopw [8] (fun i wr => ∃ k : Nat, i = .int .i64 k ∧ k ≤ l.length ∧ Hid (chkAll (l.drop k) = r) ∧ Hid (Below w.heap.size w wr)) (fun i _ => l.length - (intOf i).toNat)
  case atStart => exact ⟨0, rfl, by omega, H, Lib.hid (Below.refl _ _)⟩
  case round =>
    obtain ⟨k, rfl, hk, HK, HB⟩ := hrel
    by_cases hlt : k < l.length
    · obtain ⟨b, off, rfl, hb, c0, c1, c2, c3, c4⟩ := (hr.out.below HB.out) k hlt
      have hd : l.drop k = (l[k]?.getD no5) :: l.drop (k + 1) := by rw [List.getElem?_eq_getElem hlt]; exact List.drop_eq_getElem_cons hlt
      have HD := HK.out
      rw [hd] at HD
      have HBs := HB.out.size
      generalize l[k]?.getD no5 = x at c0 c1 c2 c3 c4 HD
      obtain ⟨n, x0, x1, x2, x3⟩ := x
      simp only at c0 c1 c2 c3 c4
      unfold chkAll at HD
      simp only at HD
      clear hd
      by_cases hz : chkP n x0 x1 x2 x3 8 = 0
      · rw [if_pos hz] at HD
        have HZ := Lib.hid hz
        have HD2 := Lib.hid HD
        clear hz HD
        go_wp2_with (go_at_call 18; refine (pcheck_any n x0 x1 x2 x3 8 0 _ HZ).mono ?_; rintro e w1 ⟨rfl, hB⟩; have B1 := Lib.hid (below_on (HB.out.alloc HBs (.cells #[.int .i64 n, .int .i64 x0, .int .i64 x1, .int .i64 x2, .int .i64 x3] 25)) (Nat.le_refl _) hB); clear hB)
        go_roundw
        case rel => exact ⟨k + 1, by go_num, by omega, HD2, B1⟩
        case measure => simp [intOf]; omega
      · rw [if_neg hz] at HD
        have hz2 : (r != 0) = true := by rw [HD] at hz; simpa using hz
        have HZ := Lib.hid HD
        clear hz HD
        go_wp2_with (go_at_call 18; refine (pcheck_any n x0 x1 x2 x3 8 r _ HZ).mono ?_; rintro e w1 ⟨rfl, hB⟩; have B1 := Lib.hid (below_on (HB.out.alloc HBs (.cells #[.int .i64 n, .int .i64 x0, .int .i64 x1, .int .i64 x2, .int .i64 x3] 25)) (Nat.le_refl _) hB); clear hB)
        go_ret
        exact ⟨rfl, B1.out⟩
    · obtain rfl : k = l.length := by omega
      have h0 := HK.out
      rw [List.drop_length] at h0
      have H0 := Lib.hid h0
      clear h0
      go_wp2
      go_ret
      exact ⟨ret_int H0.out, HB.out⟩
/-- one look, in a row of its own -/
theorem checkall_one (n a b c d r : Int) (g : Nat) (w : World) (X : Box w 25 g #[.int .i64 n, .int .i64 a, .int .i64 b, .int .i64 c, .int .i64 d]) (H : Hid (chkP n a b c d 8 = r)) : Calls Tryd.prog 46 #[.slice (some ⟨g, 0, none⟩) 1 1] w fun e w' => e = .returned (.int .i64 r) ∧ Below w.heap.size w w' :=
  checkall_any _ 1 [(n, a, b, c, d)] w (by simp) r (Lib.hid (reads5_block X rfl)) (Lib.hid (by
    unfold chkAll
    by_cases h : chkP n a b c d 8 = 0
    · rw [if_pos h]; unfold chkAll; rw [← H.out, h]
    · rw [if_neg h]; exact H.out))
/-- two looks -/
theorem checkall_two (n a b c d n' a' b' c' d' r : Int) (g : Nat) (w : World) (X : w.heap[g]? = some (.cells #[.int .i64 n, .int .i64 a, .int .i64 b, .int .i64 c, .int .i64 d, .int .i64 n', .int .i64 a', .int .i64 b', .int .i64 c', .int .i64 d'] 25 (0, 0)))
    (H : Hid ((if chkP n a b c d 8 = 0 then chkP n' a' b' c' d' 8 else chkP n a b c d 8) = r)) : Calls Tryd.prog 46 #[.slice (some ⟨g, 0, none⟩) 2 2] w fun e w' => e = .returned (.int .i64 r) ∧ Below w.heap.size w w' :=
  checkall_any _ 2 [(n, a, b, c, d), (n', a', b', c', d')] w (by simp) r (Lib.hid (reads5_block X rfl)) (Lib.hid (by
    have h9 := H.out
    unfold chkAll
    by_cases h : chkP n a b c d 8 = 0
    · rw [if_pos h] at h9 ⊢
      unfold chkAll
      by_cases k : chkP n' a' b' c' d' 8 = 0
      · rw [if_pos k]; unfold chkAll; rw [← h9, k]
      · rw [if_neg k]; exact h9
    · rw [if_neg h] at h9 ⊢; exact h9))
end Go.Proofs.YtddackdghphcnaaDoor.s13
