/-
  Layer 13: the program's Number and Numbered, whole.
-/
import Derived.Test.YtddackdghphcnaaDoorS13W
import Derived.Test.YtddackdghphcnaaDoorS13RC
import Derived.Test.YtddackdghphcnaaDoorS13F
import Derived.BigRegion
namespace Go.Proofs.YtddackdghphcnaaDoor.s13
set_option linter.unusedVariables false
set_option linter.unusedSimpArgs false
set_option linter.unnecessarySimpa false
open Go.RowKit
open kit

theorem pnumber_any (n a b c d t : Int) (w : World) (hT : Hid (Tab w)) (v r : Int) (H : Hid (numE (n, a, b, c, d) t = (v, r))) : Calls Tryd.prog 31 #[.agg #[.int .i64 n, .int .i64 a, .int .i64 b, .int .i64 c, .int .i64 d], .int .i64 t] w fun e w' => e = .returned (.tuple #[.int .i64 v, .int .i64 r]) ∧ Below w.heap.size w w' := by
  have h := H.out
  unfold numE at h
  simp only at h
  by_cases hc : chkP n a b c d t = 0
  · rw [if_neg (by simpa using hc)] at h; cases h
    obtain ⟨h1, h2, h3⟩ := lst_ok hc
    obtain ⟨t1, t2, _⟩ := chkP_yes hc
    have := h1.1
    obtain ⟨N, hN⟩ : ∃ N : Nat, n = N := ⟨(lst (n, a, b, c, d)).length, h3.symm⟩
    subst hN
    exact pnumber_ok (lst (N, a, b, c, d)) N a b c d t _ w hT (Lib.hid hc) t1 t2 (by omega) (Lib.hid (by omega)) (Lib.hid h2) (Lib.hid h1) (Lib.hid rfl)
  · rw [if_pos hc] at h; cases h
    exact pnumber_bad n a b c d t _ w (Lib.hid rfl) (by simpa using hc)
/-- the look of a number, and the error -/
def decE (n t : Int) : V5 × Int := if t < 1 ∨ 8 < t then (no5, 2) else if n < 0 then (no5, 2) else if cnt t 4 ≤ n then (no5, 2) else (pad5 (decL t 4 n), 0)
set_option maxRecDepth 100000 in
set_option maxHeartbeats 2000000 in
theorem pnumbered_terms (n t : Int) (w : World) (h : t < 1 ∨ 8 < t) : Calls Tryd.prog 33 #[.int .i64 n, .int .i64 t] w fun e w' => e = .returned (LE no5 2) ∧ Below w.heap.size w w' := by
  have X0 := Lib.hid (Box.new w 25 #[.int .i64 0, .int .i64 0, .int .i64 0, .int .i64 0, .int .i64 0])
  go_enter Tryd.func33, Tryd.ntmps33
  go_wp2_with (go_at_call 50; refine (isterms_no t _ h).mono ?_; rintro e w1 ⟨rfl, rfl⟩)
  obtain ⟨z0, z1, z2, z3, z4⟩ := X0.out.cell5
  exact bodyPost_ret (v := .tuple #[.agg #[.int .i64 0, .int .i64 0, .int .i64 0, .int .i64 0, .int .i64 0], .int .i64 2]) (by simp [results, Tryd.results33, go_sem, z0, z1, z2, z3, z4]) rfl ⟨rfl, (Below.refl _ _).alloc (Nat.le_refl _) _⟩
set_option maxRecDepth 100000 in
set_option maxHeartbeats 2000000 in
theorem pnumbered_neg (n t : Int) (w : World) (h1 : 1 ≤ t) (h2 : t ≤ 8) (h : n < 0) : Calls Tryd.prog 33 #[.int .i64 n, .int .i64 t] w fun e w' => e = .returned (LE no5 2) ∧ Below w.heap.size w w' := by
  have X0 := Lib.hid (Box.new w 25 #[.int .i64 0, .int .i64 0, .int .i64 0, .int .i64 0, .int .i64 0])
  go_enter Tryd.func33, Tryd.ntmps33
  go_wp2_with (go_at_call 50; refine (isterms_yes t _ h1 h2).mono ?_; rintro e w1 ⟨rfl, rfl⟩)
  obtain ⟨z0, z1, z2, z3, z4⟩ := X0.out.cell5
  exact bodyPost_ret (v := .tuple #[.agg #[.int .i64 0, .int .i64 0, .int .i64 0, .int .i64 0, .int .i64 0], .int .i64 2]) (by simp [results, Tryd.results33, go_sem, z0, z1, z2, z3, z4]) rfl ⟨rfl, (Below.refl _ _).alloc (Nat.le_refl _) _⟩
set_option maxRecDepth 100000 in
set_option maxHeartbeats 2000000 in
theorem pnumbered_big (n t c : Int) (w : World) (hT : Hid (Tab w)) (h1 : 1 ≤ t) (h2 : t ≤ 8) (h0 : 0 ≤ n) (HC : Hid (cnt t 4 = c)) (h : c ≤ n) : Calls Tryd.prog 33 #[.int .i64 n, .int .i64 t] w fun e w' => e = .returned (LE no5 2) ∧ Below w.heap.size w w' := by
  have X0 := Lib.hid (Box.new w 25 #[.int .i64 0, .int .i64 0, .int .i64 0, .int .i64 0, .int .i64 0])
  have T0 := Lib.hid (hT.out.below ((Below.refl w.heap.size w).alloc (Nat.le_refl _) (.cells #[.int .i64 0, .int .i64 0, .int .i64 0, .int .i64 0, .int .i64 0] 25)))
  have hn : decide (n < 0) = false := decide_eq_false (by omega)
  have hg : decide (c ≤ n) = true := decide_eq_true h
  go_enter Tryd.func33, Tryd.ntmps33
  go_wp2_with (first
    | (go_at_call 50; refine (isterms_yes t _ h1 h2).mono ?_; rintro e w1 ⟨rfl, rfl⟩)
    | (go_at_call 59; refine (count_any t 4 c _ T0 h1 h2 (by omega) HC).mono ?_; rintro e w2 ⟨rfl, rfl⟩))
  obtain ⟨z0, z1, z2, z3, z4⟩ := X0.out.cell5
  exact bodyPost_ret (v := .tuple #[.agg #[.int .i64 0, .int .i64 0, .int .i64 0, .int .i64 0, .int .i64 0], .int .i64 2]) (by simp [results, Tryd.results33, go_sem, z0, z1, z2, z3, z4]) rfl ⟨rfl, (Below.refl _ _).alloc (Nat.le_refl _) _⟩
set_option maxRecDepth 100000 in
set_option maxHeartbeats 4000000 in
theorem pnumbered_ok (n t c : Int) (w : World) (hT : Hid (Tab w)) (h1 : 1 ≤ t) (h2 : t ≤ 8) (h0 : 0 ≤ n) (HC : Hid (cnt t 4 = c)) (h : n < c) (y0 y1 y2 y3 y4 : Int) (HY : Hid (pad5 (decL t 4 n) = (y0, y1, y2, y3, y4))) : Calls Tryd.prog 33 #[.int .i64 n, .int .i64 t] w fun e w' => e = .returned (LE (y0, y1, y2, y3, y4) 0) ∧ Below w.heap.size w w' := by
  have R0 := Lib.hid ((Box.new w 25 #[.int .i64 0, .int .i64 0, .int .i64 0, .int .i64 0, .int .i64 0]).alloc (.cells #[.int .i64 0, .int .i64 0, .int .i64 0, .int .i64 0, .int .i64 0] 25))
  have S0 := Lib.hid (new2 w (.cells #[.int .i64 0, .int .i64 0, .int .i64 0, .int .i64 0, .int .i64 0] 25) 25 #[.int .i64 0, .int .i64 0, .int .i64 0, .int .i64 0, .int .i64 0])
  have T0 := Lib.hid (hT.out.below ((Below.refl w.heap.size w).alloc (Nat.le_refl _) (.cells #[.int .i64 0, .int .i64 0, .int .i64 0, .int .i64 0, .int .i64 0] 25)))
  have B0 : Hid (Below w.heap.size w ((w.alloc (.cells #[.int .i64 0, .int .i64 0, .int .i64 0, .int .i64 0, .int .i64 0] 25)).alloc (.cells #[.int .i64 0, .int .i64 0, .int .i64 0, .int .i64 0, .int .i64 0] 25))) := Lib.hid (((Below.refl _ w).alloc (Nat.le_refl _) _).alloc (by simp) _)
  have T1 := Lib.hid (hT.out.below B0.out)
  have hn : decide (n < 0) = false := decide_eq_false (by omega)
  have hg : decide (c ≤ n) = false := decide_eq_false (by omega)
  have HB : Hid (c ≤ 4681) := Lib.hid (by have := (cnt_le t h1 h2 4 (by omega)).2; rw [HC.out] at this; exact this)
  have hnc : Hid (n < cnt t (4 - 0)) := Lib.hid (by rw [Nat.sub_zero, HC.out]; exact h)
  go_enter Tryd.func33, Tryd.ntmps33
  go_wp2_with (first
    | (go_at_call 50; refine (isterms_yes t _ h1 h2).mono ?_; rintro e w1 ⟨rfl, rfl⟩)
    | (go_at_call 59; refine (count_any t 4 c _ T0 h1 h2 (by omega) HC).mono ?_; rintro e w2 ⟨rfl, rfl⟩))
  clear hn hg h
  go_loopw [0, 7] (fun v q wr => ∃ (j : Nat) (m : Int) (p : List Int) (f : Nat → Int), v = .int .i64 m ∧ j ≤ 4 ∧ 0 ≤ m ∧ Hid (m < cnt t (4 - j)) ∧ Hid (p.length = j) ∧ Hid (decL t 4 n = p ++ decL t (4 - j) m) ∧ Hid (∀ i, f i = p[i]?.getD 0) ∧ Hid (Box wr 25 (w.heap.size + 1) #[.int .i64 j, .int .i64 (f 0), .int .i64 (f 1), .int .i64 (f 2), .int .i64 (f 3)]) ∧ Hid (Box wr 25 w.heap.size #[.int .i64 0, .int .i64 0, .int .i64 0, .int .i64 0, .int .i64 0]) ∧ Hid (Tab wr) ∧ Hid (Below w.heap.size w wr)) (fun v _ _ => (intOf v).toNat)
  case atStart => exact ⟨0, n, [], fun _ => 0, rfl, by omega, h0, hnc, Lib.hid rfl, Lib.hid rfl, Lib.hid (fun i => by simp), S0, R0, T1, B0⟩
  case round =>
    obtain ⟨j, m, p, f, rfl, hj, m0, HM, HPL, HD, HF, HS, HR, HT, HBw⟩ := hrel
    have s0 := HS.out.cell 0
    have sf0 := HS.out.free 0
    simp at s0
    by_cases hlt : 0 < m
    · have hj4 : j < 4 := by
        rcases Nat.lt_or_ge j 4 with h | h
        · exact h
        · exfalso
          have e : 4 - j = 0 := by omega
          have := HM.out
          rw [e] at this
          simp only [cnt] at this
          omega
      have hm := HM.out
      have hd := HD.out
      rw [show 4 - j = (3 - j) + 1 by omega] at hm hd
      have hds : decL t (3 - j + 1) m = (m - 1) / cnt t (3 - j) :: decL t (3 - j) ((m - 1) % cnt t (3 - j)) := by rw [decL, if_neg (show ¬ m ≤ 0 by omega)]
      rw [hds] at hd
      rw [cnt] at hm
      have hcb := cnt_le t h1 h2 (3 - j) (by omega)
      obtain ⟨cc, hcq⟩ : ∃ cc, cnt t (3 - j) = cc := ⟨_, rfl⟩
      rw [hcq] at hm hd hcb
      obtain ⟨c1, c2⟩ := hcb
      obtain ⟨q, hq⟩ : ∃ q, (m - 1) / cc = q := ⟨_, rfl⟩
      obtain ⟨r, hr⟩ : ∃ r, (m - 1) % cc = r := ⟨_, rfl⟩
      have q0 : 0 ≤ q := by rw [← hq]; exact Int.ediv_nonneg (by omega) (by omega)
      have hmc : m ≤ 4681 := by
        have h3 := (cnt_le t h1 h2 (3 - j + 1) (by omega)).2
        rw [cnt, hcq] at h3
        omega
      have q1 : q ≤ 4681 := by
        rw [← hq]
        exact Int.le_trans (Int.ediv_le_self _ (by omega)) (by omega)
      have r0 : 0 ≤ r := by rw [← hr]; exact Int.emod_nonneg _ (by omega)
      have r1 : r < cc := by rw [← hr]; exact Int.emod_lt_of_pos _ (by omega)
      have r2 : r < m := by
        have e1 := Int.emod_add_mul_ediv (m - 1) cc
        have e2 : 0 ≤ cc * q := Int.mul_nonneg (by omega) q0
        rw [hq, hr] at e1
        omega
      have hq2 : (m - 1).tdiv cc = q := by rw [Int.tdiv_eq_ediv_of_nonneg (by omega), hq]
      have hr2 : (m - 1).tmod cc = r := by rw [Int.tmod_eq_emod_of_nonneg (by omega), hr]
      rw [hq, hr] at hd
      have HM2 : Hid (r < cnt t (4 - (j + 1))) := Lib.hid (by rw [show 4 - (j + 1) = 3 - j by omega, hcq]; exact r1)
      have HD2 : Hid (decL t 4 n = (p ++ [q]) ++ decL t (4 - (j + 1)) r) := Lib.hid (by rw [show 4 - (j + 1) = 3 - j by omega, hd, List.append_assoc]; rfl)
      have HL2 : Hid ((p ++ [q]).length = j + 1) := Lib.hid (by rw [List.length_append, HPL.out]; rfl)
      have HF2 : Hid (∀ i, upd f j q i = (p ++ [q])[i]?.getD 0) := Lib.hid (upd_snoc HPL.out HF.out q)
      have sk : wr.cell? ⟨w.heap.size + 1, 1 + j, none⟩ = some (.int .i64 (pl (f 0) (f 1) (f 2) (f 3) j)) := HS.out.place j hj4
      have sf := HS.out.free (1 + j)
      have S2 := Lib.hid ((b5_set HS.out j hj4 q).set 0 (by simp) (.int .i64 (j + 1 : Nat)))
      have R2 := Lib.hid ((HR.out.other (b' := w.heap.size + 1) (i := 1 + j) (by omega) (.int .i64 q)).other (b' := w.heap.size + 1) (i := 0) (by omega) (.int .i64 (j + 1 : Nat)))
      have B2 := Lib.hid ((HBw.out.drew.setCell (p := ⟨w.heap.size + 1, 1 + j, none⟩) (by simp) (.int .i64 q)).setCell (p := ⟨w.heap.size + 1, 0, none⟩) (by simp) (.int .i64 (j + 1 : Nat)))
      have T2 := Lib.hid (hT.out.below B2.out)
      have HCQ := Lib.hid hcq
      have hsub : (3 : Int) - j = ((3 - j : Nat) : Int) := by omega
      have hcc0 : ¬ cc = 0 := by omega
      clear hm hd hcq hq hr hds
      go_wp2_with (go_at_call 59; (try rw [hsub]); refine (count_any t (3 - j) cc _ HT h1 h2 (by omega) HCQ).mono ?_; rintro e w2 ⟨rfl, rfl⟩)
      go_region
      go_wp2
      go_roundw
      case rel => exact ⟨j + 1, r, p ++ [q], upd f j q, by go_num, by omega, r0, HM2, HL2, HD2, HF2, S2, R2, T2, B2⟩
      case measure => simp [intOf]; omega
    · obtain rfl : m = 0 := by omega
      have e0 : ∀ k, decL t k 0 = [] := fun k => by cases k <;> simp [decL]
      have hy := HY.out
      rw [HD.out, e0, List.append_nil] at hy
      simp only [pad5, Prod.mk.injEq] at hy
      obtain ⟨p0, p1, p2, p3, p4⟩ := hy
      have SN := HS.out
      rw [HF.out 0, HF.out 1, HF.out 2, HF.out 3, p1, p2, p3, p4, ← HPL.out, p0] at SN
      obtain ⟨q0, q1, q2, q3, q4⟩ := SN.cell5
      obtain ⟨v0, v1, v2, v3, v4⟩ := HR.out.cell5
      obtain ⟨g0, g1, g2, g3, g4⟩ := HR.out.free5
      clear p0 p1 p2 p3 p4 SN hlt s0
      go_wp2
      obtain ⟨z0, z1, z2, z3, z4⟩ := (HR.out.put5 (.int .i64 y0) (.int .i64 y1) (.int .i64 y2) (.int .i64 y3) (.int .i64 y4)).cell5
      exact bodyPost_ret (v := .tuple #[.agg #[.int .i64 y0, .int .i64 y1, .int .i64 y2, .int .i64 y3, .int .i64 y4], .int .i64 0]) (by simp [results, Tryd.results33, go_sem, z0, z1, z2, z3, z4]) rfl ⟨rfl, below_put5 HBw.out (by omega) _ _ _ _ _⟩
theorem pnumbered_any (n t : Int) (w : World) (hT : Hid (Tab w)) (y : V5) (r : Int) (H : Hid (decE n t = (y, r))) : Calls Tryd.prog 33 #[.int .i64 n, .int .i64 t] w fun e w' => e = .returned (LE y r) ∧ Below w.heap.size w w' := by
  have h := H.out
  unfold decE at h
  by_cases ht : t < 1 ∨ 8 < t
  · rw [if_pos ht] at h; cases h
    exact pnumbered_terms n t w ht
  · rw [if_neg ht] at h
    by_cases hn : n < 0
    · rw [if_pos hn] at h; cases h
      exact pnumbered_neg n t w (by omega) (by omega) hn
    · rw [if_neg hn] at h
      by_cases hc : cnt t 4 ≤ n
      · rw [if_pos hc] at h; cases h
        exact pnumbered_big n t _ w hT (by omega) (by omega) (by omega) (Lib.hid rfl) hc
      · rw [if_neg hc] at h; cases h
        exact pnumbered_ok n t _ w hT (by omega) (by omega) (by omega) (Lib.hid rfl) (by omega) _ _ _ _ _ (Lib.hid rfl)
end Go.Proofs.YtddackdghphcnaaDoor.s13
