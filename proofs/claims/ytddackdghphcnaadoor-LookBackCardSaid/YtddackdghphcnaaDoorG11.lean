/-
  Layer 13: the program's count and Number. Layer 13: the program's Number and Numbered, whole. stenotypekit.Mod. Layer 13: the laws' begins, parses, numbered, least, made.
-/
import Derived.Test.YtddackdghphcnaaDoorG10
import Derived.Test.YtddackdghphcnaaDoorG05
import Derived.Test.YtddackdghphcnaaDoorG04
import Derived.BigRegion
import Derived.Test.YtddackdghphcnaaDoorG01
import Derived.Test.YtddackdghphcnaaDoorG09
import Derived.Test.YtddackdghphcnaaDoorG07
namespace Go.Proofs.YtddackdghphcnaaDoor.s13
set_option linter.unusedVariables false
set_option linter.unusedSimpArgs false
set_option linter.unnecessarySimpa false
open Go.RowKit
open kit

theorem cnt_le (t : Int) (h1 : 1 ≤ t) (h2 : t ≤ 8) (k : Nat) (hk : k ≤ 4) : 1 ≤ cnt t k ∧ cnt t k ≤ 4681 := by
  have ht : t = 1 ∨ t = 2 ∨ t = 3 ∨ t = 4 ∨ t = 5 ∨ t = 6 ∨ t = 7 ∨ t = 8 := by omega
  have hkk : k = 0 ∨ k = 1 ∨ k = 2 ∨ k = 3 ∨ k = 4 := by omega
  rcases ht with rfl | rfl | rfl | rfl | rfl | rfl | rfl | rfl <;> rcases hkk with rfl | rfl | rfl | rfl | rfl <;> decide
set_option maxRecDepth 100000 in
set_option maxHeartbeats 2000000 in
theorem count_any (t : Int) (k : Nat) (r : Int) (w : World) (hT : Hid (Tab w)) (h1 : 1 ≤ t) (h2 : t ≤ 8) (hk : k ≤ 4) (HR : Hid (cnt t k = r)) : Calls Tryd.prog 59 #[.int .i64 t, .int .i64 k] w fun e w' => e = .returned (.int .i64 r) ∧ w' = w := by
  go_enter Tryd.func59, Tryd.ntmps59
  go_wp2
  go_loopw [5, 7] (fun v i wr => ∃ (j : Nat) (m : Int), i = .int .i64 j ∧ j ≤ k ∧ v = .int .i64 m ∧ 1 ≤ m ∧ m ≤ 4681 ∧ Hid (cnt t j = m) ∧ wr = w) (fun _ i _ => k - (intOf i).toNat)
  case atStart => exact ⟨0, 1, rfl, by omega, rfl, by omega, by omega, Lib.hid rfl, rfl⟩
  case round =>
    obtain ⟨j, m, rfl, hj, rfl, m1, m2, HM, rfl⟩ := hrel
    by_cases hlt : j < k
    · have hb := cnt_le t h1 h2 (j + 1) (by omega)
      simp only [cnt, HM.out] at hb
      have HN : Hid (cnt t (j + 1) = 1 + m * t) := Lib.hid (by simp only [cnt, HM.out])
      obtain ⟨p, hp⟩ : ∃ p, m * t = p := ⟨_, rfl⟩
      rw [hp] at hb HN
      obtain ⟨b1, b2⟩ := hb
      have HP := Lib.hid hp
      clear hp
      go_wp2_with (go_at_call 68; refine (times_any m t _ hT.out h1 h2 (by omega) (by omega)).mono ?_; rintro e w1 ⟨rfl, rfl⟩; rw [HP.out])
      go_roundw
      case rel => exact ⟨j + 1, 1 + p, by go_num, by omega, by go_num, by omega, by omega, HN, trivial⟩
      case measure => simp [intOf]; omega
    · obtain rfl : j = k := by omega
      have HE := Lib.hid (HM.out.symm.trans HR.out)
      go_wp2
      go_ret
      exact ⟨by rw [HE.out]; rfl, rfl⟩
theorem numL_drop (t : Int) (l : List Int) (i : Nat) (k : Nat) (hi : i < l.length) : numL t (k + 1) (l.drop i) = 1 + l[i]?.getD 0 * cnt t k + numL t k (l.drop (i + 1)) := by
  rw [List.drop_eq_getElem_cons hi, List.getElem?_eq_getElem hi]
  rfl
/-- the number of a look, and the error -/
def numE (x : V5) (t : Int) : Int × Int := if chkP x.1 x.2.1 x.2.2.1 x.2.2.2.1 x.2.2.2.2 t ≠ 0 then (0, chkP x.1 x.2.1 x.2.2.1 x.2.2.2.1 x.2.2.2.2 t) else (numL t 4 (lst x), 0)
set_option maxRecDepth 100000 in
set_option maxHeartbeats 2000000 in
theorem pnumber_bad (n a b c d t r : Int) (w : World) (HR : Hid (chkP n a b c d t = r)) (hr : (r != 0) = true) : Calls Tryd.prog 31 #[.agg #[.int .i64 n, .int .i64 a, .int .i64 b, .int .i64 c, .int .i64 d], .int .i64 t] w fun e w' => e = .returned (.tuple #[.int .i64 0, .int .i64 r]) ∧ Below w.heap.size w w' := by
  go_enter Tryd.func31, Tryd.ntmps31
  go_wp2_with (go_at_call 18; refine (pcheck_any n a b c d t r _ HR).mono ?_; rintro e w1 ⟨rfl, hB⟩; have B1 := Lib.hid (made1 hB).2; clear hB)
  go_ret2
  exact ⟨rfl, B1.out⟩
set_option maxRecDepth 100000 in
set_option maxHeartbeats 4000000 in
theorem pnumber_ok (l : List Int) (N : Nat) (a b c d t r : Int) (w : World) (hT : Hid (Tab w)) (HR : Hid (chkP N a b c d t = 0)) (h1 : 1 ≤ t) (h2 : t ≤ 8) (hN : N ≤ 4) (HL : Hid (l.length = N)) (HP : Hid (pad5 l = ((N : Int), a, b, c, d))) (HK : Hid (okL t l)) (HE : Hid (numL t 4 l = r)) :
    Calls Tryd.prog 31 #[.agg #[.int .i64 N, .int .i64 a, .int .i64 b, .int .i64 c, .int .i64 d], .int .i64 t] w fun e w' => e = .returned (.tuple #[.int .i64 r, .int .i64 0]) ∧ Below w.heap.size w w' := by
  have n1 : (0 : Int) ≤ N := by omega
  have n2 : (N : Int) ≤ 4 := by omega
  have hcb : Hid (0 ≤ r ∧ r < 4681) := Lib.hid (by
    obtain ⟨e1, e2⟩ := numL_range t h1 4 l (by have := HL.out; omega) HK.out.2
    have := (cnt_le t h1 h2 4 (by omega)).2
    rw [HE.out] at e1 e2
    omega)
  go_enter Tryd.func31, Tryd.ntmps31
  go_wp2_with (go_at_call 18; refine (pcheck_any N a b c d t 0 _ HR).mono ?_; rintro e w1 ⟨rfl, hB⟩; have B1 := Lib.hid (made1 hB).2; have X1 := Lib.hid (made1 hB).1; clear hB; have x0 := X1.out.cell 0; simp at x0)
  go_loopw [7, 8, 9, 21] (fun v p q i wr => ∃ (j : Nat) (m : Int), i = .int .i64 j ∧ j ≤ N ∧ v = .int .i64 m ∧ 0 ≤ m ∧ Hid (m + numL t (4 - j) (l.drop j) = r) ∧ Hid (Box wr 25 w.heap.size #[.int .i64 N, .int .i64 a, .int .i64 b, .int .i64 c, .int .i64 d]) ∧ Hid (Tab wr) ∧ Hid (Below w.heap.size w wr)) (fun _ _ _ i _ => N - (intOf i).toNat)
  case atStart => exact ⟨0, 0, rfl, by omega, rfl, by omega, Lib.hid (by simpa using HE.out), X1, Lib.hid (hT.out.below B1.out), B1⟩
  case round =>
    obtain ⟨j, m, rfl, hj, rfl, m1, HM, HX, HT, HB⟩ := hrel
    by_cases hlt : j < N
    · have hj4 : j < 4 := by omega
      have xk := HX.out.place j hj4
      have hp := pad5_pl (l := l) (by have := HL.out; omega) HP.out j
      have hz := okL_at HK.out j (by have := HL.out; omega)
      rw [← hp] at hz
      obtain ⟨z0, z1⟩ := hz
      have hn := HM.out
      rw [show 4 - j = (3 - j) + 1 by omega, numL_drop t l j (3 - j) (by have := HL.out; omega), ← hp] at hn
      have hcc := cnt_le t h1 h2 (3 - j) (by omega)
      obtain ⟨g1, _⟩ := numL_range t h1 (3 - j) (l.drop (j + 1)) (by rw [List.length_drop]; have := HL.out; omega) (fun x hx => HK.out.2 x (List.mem_of_mem_drop hx))
      generalize pl a b c d j = z at xk hp z0 z1 hn
      obtain ⟨cc, hcq⟩ : ∃ cc, cnt t (3 - j) = cc := ⟨_, rfl⟩
      rw [hcq] at hn hcc
      obtain ⟨p, hpq⟩ : ∃ p, z * cc = p := ⟨_, rfl⟩
      have p0 : 0 ≤ p := by rw [← hpq]; exact Int.mul_nonneg z0 (by omega)
      rw [hpq] at hn
      have HC := Lib.hid hcq
      have HPQ := Lib.hid hpq
      obtain ⟨c1, c2⟩ := hcc
      have hq : m + (1 + p) ≤ 4681 := by have := hcb.out; omega
      have HN : Hid (m + (1 + p) + numL t (4 - (j + 1)) (l.drop (j + 1)) = r) := Lib.hid (by rw [show 4 - (j + 1) = 3 - j by omega]; omega)
      have hsub : (3 : Int) - j = ((3 - j : Nat) : Int) := by omega
      clear hn g1 hcq hp
      go_wp2_with (go_at_call 59; (try rw [hsub]); refine (count_any t (3 - j) cc _ HT h1 h2 (by omega) HC).mono ?_; rintro e w2 ⟨rfl, rfl⟩)
      go_roundw
      case rel => exact ⟨j + 1, m + (1 + p), by go_num, by omega, by go_num, by omega, HN, HX, HT, HB⟩
      case measure => simp [intOf]; omega
    · obtain rfl : j = N := by omega
      have HF : Hid (m = r) := Lib.hid (by
        have := HM.out
        rw [List.drop_of_length_le (by have := HL.out; omega)] at this
        have e : ∀ k, numL t k [] = 0 := fun k => by cases k <;> rfl
        rw [e] at this; omega)
      go_wp2
      go_ret2
      exact ⟨by rw [HF.out]; rfl, HB.out⟩
end Go.Proofs.YtddackdghphcnaaDoor.s13

namespace Go.Proofs.YtddackdghphcnaaDoor.s13
set_option linter.unusedVariables false
set_option linter.unusedSimpArgs false
set_option linter.unnecessarySimpa false
open Go.RowKit
open kit

theorem pnumber_any (n a b c d t : Int) (w : World) (hT : Hid (Tab w)) (v r : Int) (H : Hid (numE (n, a, b, c, d) t = (v, r))) : Calls Tryd.prog 31 #[.agg #[.int .i64 n, .int .i64 a, .int .i64 b, .int .i64 c, .int .i64 d], .int .i64 t] w fun e w' => e = .returned (.tuple #[.int .i64 v, .int .i64 r]) ∧ Below w.heap.size w w' := by
  have h := H.out
  unfold numE at h
  simp only at h
  by_cases hc : chkP n a b c d t = 0
  · rw [if_neg (by simpa using hc)] at h; cases h
    obtain ⟨h1, h2, h3⟩ := lst_ok hc
    obtain ⟨t1, t2, _⟩ := chkP_yes hc
    have := h1.1
    obtain ⟨N, hN⟩ : ∃ N : Nat, n = N := ⟨(lst (n, a, b, c, d)).length, h3.symm⟩
    subst hN
    exact pnumber_ok (lst (N, a, b, c, d)) N a b c d t _ w hT (Lib.hid hc) t1 t2 (by omega) (Lib.hid (by omega)) (Lib.hid h2) (Lib.hid h1) (Lib.hid rfl)
  · rw [if_pos hc] at h; cases h
    exact pnumber_bad n a b c d t _ w (Lib.hid rfl) (by simpa using hc)
/-- the look of a number, and the error -/
def decE (n t : Int) : V5 × Int := if t < 1 ∨ 8 < t then (no5, 2) else if n < 0 then (no5, 2) else if cnt t 4 ≤ n then (no5, 2) else (pad5 (decL t 4 n), 0)
set_option maxRecDepth 100000 in
set_option maxHeartbeats 2000000 in
theorem pnumbered_terms (n t : Int) (w : World) (h : t < 1 ∨ 8 < t) : Calls Tryd.prog 33 #[.int .i64 n, .int .i64 t] w fun e w' => e = .returned (LE no5 2) ∧ Below w.heap.size w w' := by
  have X0 := Lib.hid (Box.new w 25 #[.int .i64 0, .int .i64 0, .int .i64 0, .int .i64 0, .int .i64 0])
  go_enter Tryd.func33, Tryd.ntmps33
  go_wp2_with (go_at_call 50; refine (isterms_no t _ h).mono ?_; rintro e w1 ⟨rfl, rfl⟩)
  obtain ⟨z0, z1, z2, z3, z4⟩ := X0.out.cell5
  exact bodyPost_ret (v := .tuple #[.agg #[.int .i64 0, .int .i64 0, .int .i64 0, .int .i64 0, .int .i64 0], .int .i64 2]) (by simp [results, Tryd.results33, go_sem, z0, z1, z2, z3, z4]) rfl ⟨rfl, (Below.refl _ _).alloc (Nat.le_refl _) _⟩
set_option maxRecDepth 100000 in
set_option maxHeartbeats 2000000 in
theorem pnumbered_neg (n t : Int) (w : World) (h1 : 1 ≤ t) (h2 : t ≤ 8) (h : n < 0) : Calls Tryd.prog 33 #[.int .i64 n, .int .i64 t] w fun e w' => e = .returned (LE no5 2) ∧ Below w.heap.size w w' := by
  have X0 := Lib.hid (Box.new w 25 #[.int .i64 0, .int .i64 0, .int .i64 0, .int .i64 0, .int .i64 0])
  go_enter Tryd.func33, Tryd.ntmps33
  go_wp2_with (go_at_call 50; refine (isterms_yes t _ h1 h2).mono ?_; rintro e w1 ⟨rfl, rfl⟩)
  obtain ⟨z0, z1, z2, z3, z4⟩ := X0.out.cell5
  exact bodyPost_ret (v := .tuple #[.agg #[.int .i64 0, .int .i64 0, .int .i64 0, .int .i64 0, .int .i64 0], .int .i64 2]) (by simp [results, Tryd.results33, go_sem, z0, z1, z2, z3, z4]) rfl ⟨rfl, (Below.refl _ _).alloc (Nat.le_refl _) _⟩
set_option maxRecDepth 100000 in
set_option maxHeartbeats 2000000 in
theorem pnumbered_big (n t c : Int) (w : World) (hT : Hid (Tab w)) (h1 : 1 ≤ t) (h2 : t ≤ 8) (h0 : 0 ≤ n) (HC : Hid (cnt t 4 = c)) (h : c ≤ n) : Calls Tryd.prog 33 #[.int .i64 n, .int .i64 t] w fun e w' => e = .returned (LE no5 2) ∧ Below w.heap.size w w' := by
  have X0 := Lib.hid (Box.new w 25 #[.int .i64 0, .int .i64 0, .int .i64 0, .int .i64 0, .int .i64 0])
  have T0 := Lib.hid (hT.out.below ((Below.refl w.heap.size w).alloc (Nat.le_refl _) (.cells #[.int .i64 0, .int .i64 0, .int .i64 0, .int .i64 0, .int .i64 0] 25)))
  have hn : decide (n < 0) = false := decide_eq_false (by omega)
  have hg : decide (c ≤ n) = true := decide_eq_true h
  go_enter Tryd.func33, Tryd.ntmps33
  go_wp2_with (first
    | (go_at_call 50; refine (isterms_yes t _ h1 h2).mono ?_; rintro e w1 ⟨rfl, rfl⟩)
    | (go_at_call 59; refine (count_any t 4 c _ T0 h1 h2 (by omega) HC).mono ?_; rintro e w2 ⟨rfl, rfl⟩))
  obtain ⟨z0, z1, z2, z3, z4⟩ := X0.out.cell5
  exact bodyPost_ret (v := .tuple #[.agg #[.int .i64 0, .int .i64 0, .int .i64 0, .int .i64 0, .int .i64 0], .int .i64 2]) (by simp [results, Tryd.results33, go_sem, z0, z1, z2, z3, z4]) rfl ⟨rfl, (Below.refl _ _).alloc (Nat.le_refl _) _⟩
set_option maxRecDepth 100000 in
set_option maxHeartbeats 4000000 in
theorem pnumbered_ok (n t c : Int) (w : World) (hT : Hid (Tab w)) (h1 : 1 ≤ t) (h2 : t ≤ 8) (h0 : 0 ≤ n) (HC : Hid (cnt t 4 = c)) (h : n < c) (y0 y1 y2 y3 y4 : Int) (HY : Hid (pad5 (decL t 4 n) = (y0, y1, y2, y3, y4))) : Calls Tryd.prog 33 #[.int .i64 n, .int .i64 t] w fun e w' => e = .returned (LE (y0, y1, y2, y3, y4) 0) ∧ Below w.heap.size w w' := by
  have R0 := Lib.hid ((Box.new w 25 #[.int .i64 0, .int .i64 0, .int .i64 0, .int .i64 0, .int .i64 0]).alloc (.cells #[.int .i64 0, .int .i64 0, .int .i64 0, .int .i64 0, .int .i64 0] 25))
  have S0 := Lib.hid (new2 w (.cells #[.int .i64 0, .int .i64 0, .int .i64 0, .int .i64 0, .int .i64 0] 25) 25 #[.int .i64 0, .int .i64 0, .int .i64 0, .int .i64 0, .int .i64 0])
  have T0 := Lib.hid (hT.out.below ((Below.refl w.heap.size w).alloc (Nat.le_refl _) (.cells #[.int .i64 0, .int .i64 0, .int .i64 0, .int .i64 0, .int .i64 0] 25)))
  have B0 : Hid (Below w.heap.size w ((w.alloc (.cells #[.int .i64 0, .int .i64 0, .int .i64 0, .int .i64 0, .int .i64 0] 25)).alloc (.cells #[.int .i64 0, .int .i64 0, .int .i64 0, .int .i64 0, .int .i64 0] 25))) := Lib.hid (((Below.refl _ w).alloc (Nat.le_refl _) _).alloc (by simp) _)
  have T1 := Lib.hid (hT.out.below B0.out)
  have hn : decide (n < 0) = false := decide_eq_false (by omega)
  have hg : decide (c ≤ n) = false := decide_eq_false (by omega)
  have HB : Hid (c ≤ 4681) := Lib.hid (by have := (cnt_le t h1 h2 4 (by omega)).2; rw [HC.out] at this; exact this)
  have hnc : Hid (n < cnt t (4 - 0)) := Lib.hid (by rw [Nat.sub_zero, HC.out]; exact h)
  go_enter Tryd.func33, Tryd.ntmps33
  go_wp2_with (first
    | (go_at_call 50; refine (isterms_yes t _ h1 h2).mono ?_; rintro e w1 ⟨rfl, rfl⟩)
    | (go_at_call 59; refine (count_any t 4 c _ T0 h1 h2 (by omega) HC).mono ?_; rintro e w2 ⟨rfl, rfl⟩))
  clear hn hg h
  go_loopw [0, 7] (fun v q wr => ∃ (j : Nat) (m : Int) (p : List Int) (f : Nat → Int), v = .int .i64 m ∧ j ≤ 4 ∧ 0 ≤ m ∧ Hid (m < cnt t (4 - j)) ∧ Hid (p.length = j) ∧ Hid (decL t 4 n = p ++ decL t (4 - j) m) ∧ Hid (∀ i, f i = p[i]?.getD 0) ∧ Hid (Box wr 25 (w.heap.size + 1) #[.int .i64 j, .int .i64 (f 0), .int .i64 (f 1), .int .i64 (f 2), .int .i64 (f 3)]) ∧ Hid (Box wr 25 w.heap.size #[.int .i64 0, .int .i64 0, .int .i64 0, .int .i64 0, .int .i64 0]) ∧ Hid (Tab wr) ∧ Hid (Below w.heap.size w wr)) (fun v _ _ => (intOf v).toNat)
  case atStart => exact ⟨0, n, [], fun _ => 0, rfl, by omega, h0, hnc, Lib.hid rfl, Lib.hid rfl, Lib.hid (fun i => by simp), S0, R0, T1, B0⟩
  case round =>
    obtain ⟨j, m, p, f, rfl, hj, m0, HM, HPL, HD, HF, HS, HR, HT, HBw⟩ := hrel
    have s0 := HS.out.cell 0
    have sf0 := HS.out.free 0
    simp at s0
    by_cases hlt : 0 < m
    · have hj4 : j < 4 := by
        rcases Nat.lt_or_ge j 4 with h | h
        · exact h
        · exfalso
          have e : 4 - j = 0 := by omega
          have := HM.out
          rw [e] at this
          simp only [cnt] at this
          omega
      have hm := HM.out
      have hd := HD.out
      rw [show 4 - j = (3 - j) + 1 by omega] at hm hd
      have hds : decL t (3 - j + 1) m = (m - 1) / cnt t (3 - j) :: decL t (3 - j) ((m - 1) % cnt t (3 - j)) := by rw [decL, if_neg (show ¬ m ≤ 0 by omega)]
      rw [hds] at hd
      rw [cnt] at hm
      have hcb := cnt_le t h1 h2 (3 - j) (by omega)
      obtain ⟨cc, hcq⟩ : ∃ cc, cnt t (3 - j) = cc := ⟨_, rfl⟩
      rw [hcq] at hm hd hcb
      obtain ⟨c1, c2⟩ := hcb
      obtain ⟨q, hq⟩ : ∃ q, (m - 1) / cc = q := ⟨_, rfl⟩
      obtain ⟨r, hr⟩ : ∃ r, (m - 1) % cc = r := ⟨_, rfl⟩
      have q0 : 0 ≤ q := by rw [← hq]; exact Int.ediv_nonneg (by omega) (by omega)
      have hmc : m ≤ 4681 := by
        have h3 := (cnt_le t h1 h2 (3 - j + 1) (by omega)).2
        rw [cnt, hcq] at h3
        omega
      have q1 : q ≤ 4681 := by
        rw [← hq]
        exact Int.le_trans (Int.ediv_le_self _ (by omega)) (by omega)
      have r0 : 0 ≤ r := by rw [← hr]; exact Int.emod_nonneg _ (by omega)
      have r1 : r < cc := by rw [← hr]; exact Int.emod_lt_of_pos _ (by omega)
      have r2 : r < m := by
        have e1 := Int.emod_add_mul_ediv (m - 1) cc
        have e2 : 0 ≤ cc * q := Int.mul_nonneg (by omega) q0
        rw [hq, hr] at e1
        omega
      have hq2 : (m - 1).tdiv cc = q := by rw [Int.tdiv_eq_ediv_of_nonneg (by omega), hq]
      have hr2 : (m - 1).tmod cc = r := by rw [Int.tmod_eq_emod_of_nonneg (by omega), hr]
      rw [hq, hr] at hd
      have HM2 : Hid (r < cnt t (4 - (j + 1))) := Lib.hid (by rw [show 4 - (j + 1) = 3 - j by omega, hcq]; exact r1)
      have HD2 : Hid (decL t 4 n = (p ++ [q]) ++ decL t (4 - (j + 1)) r) := Lib.hid (by rw [show 4 - (j + 1) = 3 - j by omega, hd, List.append_assoc]; rfl)
      have HL2 : Hid ((p ++ [q]).length = j + 1) := Lib.hid (by rw [List.length_append, HPL.out]; rfl)
      have HF2 : Hid (∀ i, upd f j q i = (p ++ [q])[i]?.getD 0) := Lib.hid (upd_snoc HPL.out HF.out q)
      have sk : wr.cell? ⟨w.heap.size + 1, 1 + j, none⟩ = some (.int .i64 (pl (f 0) (f 1) (f 2) (f 3) j)) := HS.out.place j hj4
      have sf := HS.out.free (1 + j)
      have S2 := Lib.hid ((b5_set HS.out j hj4 q).set 0 (by simp) (.int .i64 (j + 1 : Nat)))
      have R2 := Lib.hid ((HR.out.other (b' := w.heap.size + 1) (i := 1 + j) (by omega) (.int .i64 q)).other (b' := w.heap.size + 1) (i := 0) (by omega) (.int .i64 (j + 1 : Nat)))
      have B2 := Lib.hid ((HBw.out.drew.setCell (p := ⟨w.heap.size + 1, 1 + j, none⟩) (by simp) (.int .i64 q)).setCell (p := ⟨w.heap.size + 1, 0, none⟩) (by simp) (.int .i64 (j + 1 : Nat)))
      have T2 := Lib.hid (hT.out.below B2.out)
      have HCQ := Lib.hid hcq
      have hsub : (3 : Int) - j = ((3 - j : Nat) : Int) := by omega
      have hcc0 : ¬ cc = 0 := by omega
      clear hm hd hcq hq hr hds
      go_wp2_with (go_at_call 59; (try rw [hsub]); refine (count_any t (3 - j) cc _ HT h1 h2 (by omega) HCQ).mono ?_; rintro e w2 ⟨rfl, rfl⟩)
      go_region
      go_wp2
      go_roundw
      case rel => exact ⟨j + 1, r, p ++ [q], upd f j q, by go_num, by omega, r0, HM2, HL2, HD2, HF2, S2, R2, T2, B2⟩
      case measure => simp [intOf]; omega
    · obtain rfl : m = 0 := by omega
      have e0 : ∀ k, decL t k 0 = [] := fun k => by cases k <;> simp [decL]
      have hy := HY.out
      rw [HD.out, e0, List.append_nil] at hy
      simp only [pad5, Prod.mk.injEq] at hy
      obtain ⟨p0, p1, p2, p3, p4⟩ := hy
      have SN := HS.out
      rw [HF.out 0, HF.out 1, HF.out 2, HF.out 3, p1, p2, p3, p4, ← HPL.out, p0] at SN
      obtain ⟨q0, q1, q2, q3, q4⟩ := SN.cell5
      obtain ⟨v0, v1, v2, v3, v4⟩ := HR.out.cell5
      obtain ⟨g0, g1, g2, g3, g4⟩ := HR.out.free5
      clear p0 p1 p2 p3 p4 SN hlt s0
      go_wp2
      obtain ⟨z0, z1, z2, z3, z4⟩ := (HR.out.put5 (.int .i64 y0) (.int .i64 y1) (.int .i64 y2) (.int .i64 y3) (.int .i64 y4)).cell5
      exact bodyPost_ret (v := .tuple #[.agg #[.int .i64 y0, .int .i64 y1, .int .i64 y2, .int .i64 y3, .int .i64 y4], .int .i64 0]) (by simp [results, Tryd.results33, go_sem, z0, z1, z2, z3, z4]) rfl ⟨rfl, below_put5 HBw.out (by omega) _ _ _ _ _⟩
theorem pnumbered_any (n t : Int) (w : World) (hT : Hid (Tab w)) (y : V5) (r : Int) (H : Hid (decE n t = (y, r))) : Calls Tryd.prog 33 #[.int .i64 n, .int .i64 t] w fun e w' => e = .returned (LE y r) ∧ Below w.heap.size w w' := by
  have h := H.out
  unfold decE at h
  by_cases ht : t < 1 ∨ 8 < t
  · rw [if_pos ht] at h; cases h
    exact pnumbered_terms n t w ht
  · rw [if_neg ht] at h
    by_cases hn : n < 0
    · rw [if_pos hn] at h; cases h
      exact pnumbered_neg n t w (by omega) (by omega) hn
    · rw [if_neg hn] at h
      by_cases hc : cnt t 4 ≤ n
      · rw [if_pos hc] at h; cases h
        exact pnumbered_big n t _ w hT (by omega) (by omega) (by omega) (Lib.hid rfl) hc
      · rw [if_neg hc] at h; cases h
        exact pnumbered_ok n t _ w hT (by omega) (by omega) (by omega) (Lib.hid rfl) (by omega) _ _ _ _ _ (Lib.hid rfl)
end Go.Proofs.YtddackdghphcnaaDoor.s13

namespace Go.Proofs.YtddackdghphcnaaDoor.kit
set_option linter.unusedVariables false
set_option linter.unusedSimpArgs false
open Go.RowKit

theorem tmod_fix (n m : Int) (hm : 0 < m) : (if n.tmod m < 0 then n.tmod m + m else n.tmod m) = n % m := by
  have h1 := Int.tmod_eq_emod (a := n) (b := m)
  have h2 := Int.emod_nonneg n (by omega : m ≠ 0)
  have h3 := Int.emod_lt_of_pos n hm
  rw [h1]
  have ha : (m.natAbs : Int) = m := by omega
  split <;> split <;> omega
theorem mod_any (n m : Int) (h1 : -9223372036854775808 ≤ n) (h2 : n ≤ 9223372036854775807) (m1 : 1 ≤ m) (m2 : m ≤ 2000000000) (w : World) :
    Calls Tryd.prog 45 #[.int .i64 n, .int .i64 m] w fun e w' => e = .returned (.int .i64 (n % m)) ∧ w = w' := by
  have H := Lib.hid (tmod_fix n m (by omega))
  go_enter Tryd.func45, Tryd.ntmps45
  have hlo : -m ≤ n.tmod m := by
    have := H.out
    have h2 := Int.emod_nonneg n (by omega : m ≠ 0)
    split at this <;> omega
  go_wp2
  · have hl : n.tmod m < 0 := by assumption
    go_ret
    exact ⟨ret_int (by rw [← H.out, if_pos hl]), rfl⟩
  · have hl : 0 ≤ n.tmod m := by assumption
    go_ret
    exact ⟨ret_int (by rw [← H.out, if_neg (by omega)]), rfl⟩
end Go.Proofs.YtddackdghphcnaaDoor.kit

namespace Go.Proofs.YtddackdghphcnaaDoor.s13
set_option linter.unusedVariables false
set_option linter.unusedSimpArgs false
open Go.RowKit
open kit

set_option maxRecDepth 100000 in
set_option maxHeartbeats 2000000 in
theorem lbegins_any (n a b c d n' a' b' c' d' : Int) (w : World) (v x : Bool) (r : Int) (hr : r = 0) (H : Hid (begE (n, a, b, c, d) (n', a', b', c', d') = (v, r))) (y : Bool) (hy : (v == x) = y) :
    Calls Tryd.prog 39 #[.agg #[.int .i64 n, .int .i64 a, .int .i64 b, .int .i64 c, .int .i64 d], .agg #[.int .i64 n', .int .i64 a', .int .i64 b', .int .i64 c', .int .i64 d'], .bool x] w fun e w' => e = .returned (.bool y) ∧ Below w.heap.size w w' := by
  subst hr
  subst hy
  go_enter Tryd.func39, Tryd.ntmps39
  go_wp2_with (go_at_call 27; refine (pbegins_any n a b c d n' a' b' c' d' _ v 0 H).mono ?_; rintro e w1 ⟨rfl, hB⟩; obtain ⟨X1, Y1, hB1⟩ := made2 hB; have B1 := Lib.hid hB1; clear hB hB1 X1 Y1)
  go_ret
  exact ⟨rfl, B1.out⟩
set_option maxRecDepth 100000 in
set_option maxHeartbeats 2000000 in
theorem lnumbered_any (n a b c d t x : Int) (w : World) (hT : Hid (Tab w)) (v r : Int) (hr : r = 0) (H : Hid (numE (n, a, b, c, d) t = (v, r))) (y : Bool) (hy : decide (v = x) = y) :
    Calls Tryd.prog 41 #[.agg #[.int .i64 n, .int .i64 a, .int .i64 b, .int .i64 c, .int .i64 d], .int .i64 t, .int .i64 x] w fun e w' => e = .returned (.bool y) ∧ Below w.heap.size w w' := by
  subst hr
  subst hy
  have T0 := Lib.hid (hT.out.below ((Below.refl w.heap.size w).alloc (Nat.le_refl _) (.cells #[.int .i64 n, .int .i64 a, .int .i64 b, .int .i64 c, .int .i64 d] 25)))
  go_enter Tryd.func41, Tryd.ntmps41
  go_wp2_with (go_at_call 31; refine (pnumber_any n a b c d t _ T0 v 0 H).mono ?_; rintro e w1 ⟨rfl, hB⟩; have B1 := Lib.hid (made1 hB).2; clear hB)
  go_ret
  exact ⟨rfl, B1.out⟩
set_option maxRecDepth 100000 in
set_option maxHeartbeats 2000000 in
theorem lparses_any (s : ByteArray) (x : Int) (w : World) (hs : s.size ≤ 1000) (y0 y1 y2 y3 y4 r : Int) (H : Hid (parseE s = ((y0, y1, y2, y3, y4), r))) (hr : r = x) (hy : r = 0 ∨ (y0 = 0 ∧ y1 = 0 ∧ y2 = 0 ∧ y3 = 0 ∧ y4 = 0)) :
    Calls Tryd.prog 40 #[.string s, .int .i64 x] w fun e w' => e = .returned (.bool true) ∧ Below w.heap.size w w' := by
  subst hr
  have zq : ∀ W, (binOp .eql 25 (.agg #[.int .i64 y0, .int .i64 y1, .int .i64 y2, .int .i64 y3, .int .i64 y4]) (.agg #[.int .i64 0, .int .i64 0, .int .i64 0, .int .i64 0, .int .i64 0])).run Tryd.prog W = .ok (.bool (decide (y0 = 0 ∧ y1 = 0 ∧ y2 = 0 ∧ y3 = 0 ∧ y4 = 0))) W := fun W => eql_look ..
  have zg := guard_look
  by_cases h0 : r = 0
  · subst h0
    clear hy zq
    go_enter Tryd.func40, Tryd.ntmps40
    go_wp2_with (go_at_call 29; refine (pparse_any s _ hs _ 0 H).mono ?_; rintro e w1 ⟨rfl, hB⟩; have B1 := Lib.hid hB; clear hB)
    go_ret
    exact ⟨rfl, B1.out.alloc B1.out.size _⟩
  · have hy2 := hy.resolve_left h0
    rw [decide_eq_true hy2] at zq
    have hne : decide (r = 0) = false := decide_eq_false h0
    clear hy h0 hy2
    go_enter Tryd.func40, Tryd.ntmps40
    go_wp2_with (go_at_call 29; refine (pparse_any s _ hs _ r H).mono ?_; rintro e w1 ⟨rfl, hB⟩; have B1 := Lib.hid hB; clear hB)
    all_goals go_ret
    all_goals exact ⟨rfl, B1.out.alloc B1.out.size _⟩
set_option maxRecDepth 100000 in
set_option maxHeartbeats 2000000 in
theorem lleast_any (n a b c d : Int) (w : World) (y : Int) (hy : (if n = 0 then 0 else -1) = y) : Calls Tryd.prog 44 #[.agg #[.int .i64 n, .int .i64 a, .int .i64 b, .int .i64 c, .int .i64 d]] w fun e w' => e = .returned (.int .i64 y) ∧ Below w.heap.size w w' := by
  by_cases h : n = 0
  · subst h
    rw [if_pos rfl] at hy
    subst hy
    go_enter Tryd.func44, Tryd.ntmps44
    go_wp2
    go_ret
    exact ⟨rfl, (Below.refl _ _).alloc (Nat.le_refl _) _⟩
  · rw [if_neg h] at hy
    subst hy
    go_enter Tryd.func44, Tryd.ntmps44
    go_wp2
    go_ret
    exact ⟨rfl, (Below.refl _ _).alloc (Nat.le_refl _) _⟩
set_option maxRecDepth 100000 in
set_option maxHeartbeats 6000000 in
theorem lmade_any (n : Int) (w : World) (h1 : -9223372036854775808 ≤ n) (h2 : n ≤ 9223372036854775807) : Calls Tryd.prog 42 #[.int .i64 n] w fun e w' => ∃ (l : List Int) (y0 y1 y2 y3 y4 : Int), okL 3 l ∧ pad5 l = (y0, y1, y2, y3, y4) ∧ e = .returned (.agg #[.int .i64 y0, .int .i64 y1, .int .i64 y2, .int .i64 y3, .int .i64 y4]) ∧ Below w.heap.size w w' := by
  obtain ⟨m, hm⟩ : ∃ m : Nat, n % 1073741824 = m := ⟨(n % 1073741824).toNat, by have := Int.emod_nonneg n (show (1073741824 : Int) ≠ 0 by decide); omega⟩
  have hmb : m < 1073741824 := by have := Int.emod_lt_of_pos n (show (0 : Int) < 1073741824 by decide); omega
  obtain ⟨q, hq⟩ : ∃ q : Nat, m % 5 = q := ⟨_, rfl⟩
  have hq4 : q ≤ 4 := by omega
  have hrem : (m : Int).tmod 5 = q := by rw [Int.tmod_eq_emod_of_nonneg (by omega)]; omega
  have HM := Lib.hid hm
  have X0 := Lib.hid (Box.new w 25 #[.int .i64 0, .int .i64 0, .int .i64 0, .int .i64 0, .int .i64 0])
  clear hm hq
  go_enter Tryd.func42, Tryd.ntmps42
  have HMO := fun W => mod_any n 1073741824 h1 h2 (by omega) (by omega) W
  rw [HM.out] at HMO
  go_wp2_with (go_at_call 45; refine (HMO _).mono ?_; rintro e w1 ⟨rfl, rfl⟩)
  go_loopw [4, 5] (fun v i wr => ∃ (k : Nat) (zs : List Int), i = .int .i64 k ∧ k ≤ q ∧ Hid (zs.length = k) ∧ Hid (∀ z ∈ zs, 0 ≤ z ∧ z < 3) ∧ Hid (wr.ownsRow (w.heap.size + 1) 3 1 v k (zs.map (Value.int .i64))) ∧ Hid (Box wr 25 w.heap.size #[.int .i64 0, .int .i64 0, .int .i64 0, .int .i64 0, .int .i64 0]) ∧ Hid (Below w.heap.size w wr)) (fun _ i _ => q - (intOf i).toNat)
  case atStart => exact ⟨0, [], rfl, by omega, Lib.hid rfl, Lib.hid (fun z hz => by cases hz), Lib.hid (World.ownsRow_nil _ _ _ _), X0, Lib.hid ((Below.refl _ _).alloc (Nat.le_refl _) _)⟩
  case round =>
    obtain ⟨k, zs, rfl, hk, HL, HZ, HRow, HX, HB⟩ := hrel
    by_cases hlt : k < q
    · have hXlt := HX.out.lt
      have hk4 : k = 0 ∨ k = 1 ∨ k = 2 ∨ k = 3 := by omega
      rcases hk4 with rfl | rfl | rfl | rfl
      · have z0 : 0 ≤ ((m : Int) / 8 % 3) := by omega
        have z1 : ((m : Int) / 8 % 3) < 3 := by omega
        have HZ2 : Hid (∀ z ∈ zs ++ [((m : Int) / 8 % 3)], 0 ≤ z ∧ z < 3) := Lib.hid (fun z hz => by
          rcases List.mem_append.1 hz with h | h
          · exact HZ.out z h
          · obtain rfl := List.mem_singleton.1 h; exact ⟨z0, z1⟩)
        clear z0 z1
        go_wp2_with (at_builtin; refine append_in Tryd.underlying22 info3 rfl (by omega) rfl (.tmp 14) (.tmp 22) rfl (w.heap.size + 1) _ 0 _ rfl (row_alloc HRow.out _) (some ⟨wr.heap.size, 0, none⟩) [.int .i64 ((m : Int) / 8 % 3)] 1 1 rfl rfl (src_one wr _ _) (by simp [Value.oneCell']) (by omega) (by simp; omega) ?_; intro v1 wA hv1 hBA; have R1 := Lib.hid hv1; have XA := Lib.hid ((HX.out.alloc (.cells #[.int .i64 ((m : Int) / 8 % 3)] 3)).under (by omega) hBA); have BA := Lib.hid ((HB.out.alloc HB.out.size (.cells #[.int .i64 ((m : Int) / 8 % 3)] 3)).trans (hBA.mono (by omega))); clear hv1 hBA)
        go_roundw
        case rel => exact ⟨1, zs ++ [((m : Int) / 8 % 3)], by go_num, by omega, Lib.hid (by rw [List.length_append, HL.out]; rfl), HZ2, Lib.hid (by rw [List.map_append]; exact R1.out), XA, BA⟩
        case measure => simp [intOf]; omega
      · have z0 : 0 ≤ ((m : Int) / 32 % 3) := by omega
        have z1 : ((m : Int) / 32 % 3) < 3 := by omega
        have HZ2 : Hid (∀ z ∈ zs ++ [((m : Int) / 32 % 3)], 0 ≤ z ∧ z < 3) := Lib.hid (fun z hz => by
          rcases List.mem_append.1 hz with h | h
          · exact HZ.out z h
          · obtain rfl := List.mem_singleton.1 h; exact ⟨z0, z1⟩)
        clear z0 z1
        go_wp2_with (at_builtin; refine append_in Tryd.underlying22 info3 rfl (by omega) rfl (.tmp 14) (.tmp 22) rfl (w.heap.size + 1) _ 1 _ rfl (row_alloc HRow.out _) (some ⟨wr.heap.size, 0, none⟩) [.int .i64 ((m : Int) / 32 % 3)] 1 1 rfl rfl (src_one wr _ _) (by simp [Value.oneCell']) (by omega) (by simp; omega) ?_; intro v1 wA hv1 hBA; have R1 := Lib.hid hv1; have XA := Lib.hid ((HX.out.alloc (.cells #[.int .i64 ((m : Int) / 32 % 3)] 3)).under (by omega) hBA); have BA := Lib.hid ((HB.out.alloc HB.out.size (.cells #[.int .i64 ((m : Int) / 32 % 3)] 3)).trans (hBA.mono (by omega))); clear hv1 hBA)
        go_roundw
        case rel => exact ⟨2, zs ++ [((m : Int) / 32 % 3)], by go_num, by omega, Lib.hid (by rw [List.length_append, HL.out]; rfl), HZ2, Lib.hid (by rw [List.map_append]; exact R1.out), XA, BA⟩
        case measure => simp [intOf]; omega
      · have z0 : 0 ≤ ((m : Int) / 128 % 3) := by omega
        have z1 : ((m : Int) / 128 % 3) < 3 := by omega
        have HZ2 : Hid (∀ z ∈ zs ++ [((m : Int) / 128 % 3)], 0 ≤ z ∧ z < 3) := Lib.hid (fun z hz => by
          rcases List.mem_append.1 hz with h | h
          · exact HZ.out z h
          · obtain rfl := List.mem_singleton.1 h; exact ⟨z0, z1⟩)
        clear z0 z1
        go_wp2_with (at_builtin; refine append_in Tryd.underlying22 info3 rfl (by omega) rfl (.tmp 14) (.tmp 22) rfl (w.heap.size + 1) _ 2 _ rfl (row_alloc HRow.out _) (some ⟨wr.heap.size, 0, none⟩) [.int .i64 ((m : Int) / 128 % 3)] 1 1 rfl rfl (src_one wr _ _) (by simp [Value.oneCell']) (by omega) (by simp; omega) ?_; intro v1 wA hv1 hBA; have R1 := Lib.hid hv1; have XA := Lib.hid ((HX.out.alloc (.cells #[.int .i64 ((m : Int) / 128 % 3)] 3)).under (by omega) hBA); have BA := Lib.hid ((HB.out.alloc HB.out.size (.cells #[.int .i64 ((m : Int) / 128 % 3)] 3)).trans (hBA.mono (by omega))); clear hv1 hBA)
        go_roundw
        case rel => exact ⟨3, zs ++ [((m : Int) / 128 % 3)], by go_num, by omega, Lib.hid (by rw [List.length_append, HL.out]; rfl), HZ2, Lib.hid (by rw [List.map_append]; exact R1.out), XA, BA⟩
        case measure => simp [intOf]; omega
      · have z0 : 0 ≤ ((m : Int) / 512 % 3) := by omega
        have z1 : ((m : Int) / 512 % 3) < 3 := by omega
        have HZ2 : Hid (∀ z ∈ zs ++ [((m : Int) / 512 % 3)], 0 ≤ z ∧ z < 3) := Lib.hid (fun z hz => by
          rcases List.mem_append.1 hz with h | h
          · exact HZ.out z h
          · obtain rfl := List.mem_singleton.1 h; exact ⟨z0, z1⟩)
        clear z0 z1
        go_wp2_with (at_builtin; refine append_in Tryd.underlying22 info3 rfl (by omega) rfl (.tmp 14) (.tmp 22) rfl (w.heap.size + 1) _ 3 _ rfl (row_alloc HRow.out _) (some ⟨wr.heap.size, 0, none⟩) [.int .i64 ((m : Int) / 512 % 3)] 1 1 rfl rfl (src_one wr _ _) (by simp [Value.oneCell']) (by omega) (by simp; omega) ?_; intro v1 wA hv1 hBA; have R1 := Lib.hid hv1; have XA := Lib.hid ((HX.out.alloc (.cells #[.int .i64 ((m : Int) / 512 % 3)] 3)).under (by omega) hBA); have BA := Lib.hid ((HB.out.alloc HB.out.size (.cells #[.int .i64 ((m : Int) / 512 % 3)] 3)).trans (hBA.mono (by omega))); clear hv1 hBA)
        go_roundw
        case rel => exact ⟨4, zs ++ [((m : Int) / 512 % 3)], by go_num, by omega, Lib.hid (by rw [List.length_append, HL.out]; rfl), HZ2, Lib.hid (by rw [List.map_append]; exact R1.out), XA, BA⟩
        case measure => simp [intOf]; omega
    · obtain rfl : k = q := by omega
      obtain ⟨a1, c1, rfl⟩ := row_shape HRow.out
      have hrow := HRow.out
      have hR : Hid (ReadsI wr a1 zs) := Lib.hid (reads_of_row HL.out hrow)
      obtain ⟨⟨y0, y1, y2, y3, y4⟩, hy⟩ : ∃ y, pad5 zs = y := ⟨_, rfl⟩
      have HO : Hid (ofP zs = ((y0, y1, y2, y3, y4), 0)) := Lib.hid (by
        unfold ofP
        rw [if_neg (by have := HL.out; omega), if_pos (fun x hx => by have := HZ.out x hx; omega), hy])
      have HY := Lib.hid hy
      have hlo := Lib.hid (lof_any a1 c1 zs wr (by have := HL.out; omega) hR y0 y1 y2 y3 y4 0 HO)
      rw [HL.out] at hlo
      have HOK : Hid (okL 3 zs) := Lib.hid ⟨by have := HL.out; omega, HZ.out⟩
      clear hrow hy
      go_wp2_with (go_at_call 37; refine (hlo.out).mono ?_; rintro e w3 ⟨rfl, hB⟩; have B3 := Lib.hid (below_then HB.out hB); have X3 := Lib.hid (HX.out.below hB); clear hB; obtain ⟨v0, v1, v2, v3, v4⟩ := X3.out.cell5; obtain ⟨g0, g1, g2, g3, g4⟩ := X3.out.free5)
      obtain ⟨z0, z1, z2, z3, z4⟩ := (X3.out.put5 (.int .i64 y0) (.int .i64 y1) (.int .i64 y2) (.int .i64 y3) (.int .i64 y4)).cell5
      exact bodyPost_ret (v := .agg #[.int .i64 y0, .int .i64 y1, .int .i64 y2, .int .i64 y3, .int .i64 y4]) (by simp [results, Tryd.results42, go_sem, z0, z1, z2, z3, z4]) rfl ⟨zs, y0, y1, y2, y3, y4, HOK.out, HY.out, rfl, below_put5 B3.out (by omega) _ _ _ _ _⟩
end Go.Proofs.YtddackdghphcnaaDoor.s13
