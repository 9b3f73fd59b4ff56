/-
  Layer 13: the program's count and Number.
-/
import Derived.Test.YtddackdghphcnaaDoorS13V
import Derived.Test.YtddackdghphcnaaDoorS13D
namespace Go.Proofs.YtddackdghphcnaaDoor.s13
set_option linter.unusedVariables false
set_option linter.unusedSimpArgs false
set_option linter.unnecessarySimpa false
open Go.RowKit
open kit

theorem cnt_le (t : Int) (h1 : 1 ≤ t) (h2 : t ≤ 8) (k : Nat) (hk : k ≤ 4) : 1 ≤ cnt t k ∧ cnt t k ≤ 4681 := by
  have ht : t = 1 ∨ t = 2 ∨ t = 3 ∨ t = 4 ∨ t = 5 ∨ t = 6 ∨ t = 7 ∨ t = 8 := by omega
  have hkk : k = 0 ∨ k = 1 ∨ k = 2 ∨ k = 3 ∨ k = 4 := by omega
  rcases ht with rfl | rfl | rfl | rfl | rfl | rfl | rfl | rfl <;> rcases hkk with rfl | rfl | rfl | rfl | rfl <;> decide
set_option maxRecDepth 100000 in
set_option maxHeartbeats 2000000 in
theorem count_any (t : Int) (k : Nat) (r : Int) (w : World) (hT : Hid (Tab w)) (h1 : 1 ≤ t) (h2 : t ≤ 8) (hk : k ≤ 4) (HR : Hid (cnt t k = r)) : Calls Tryd.prog 59 #[.int .i64 t, .int .i64 k] w fun e w' => e = .returned (.int .i64 r) ∧ w' = w := by
  go_enter Tryd.func59, Tryd.ntmps59
  go_wp2
  go_loopw [5, 7] (fun v i wr => ∃ (j : Nat) (m : Int), i = .int .i64 j ∧ j ≤ k ∧ v = .int .i64 m ∧ 1 ≤ m ∧ m ≤ 4681 ∧ Hid (cnt t j = m) ∧ wr = w) (fun _ i _ => k - (intOf i).toNat)
  case atStart => exact ⟨0, 1, rfl, by omega, rfl, by omega, by omega, Lib.hid rfl, rfl⟩
  case round =>
    obtain ⟨j, m, rfl, hj, rfl, m1, m2, HM, rfl⟩ := hrel
    by_cases hlt : j < k
    · have hb := cnt_le t h1 h2 (j + 1) (by omega)
      simp only [cnt, HM.out] at hb
      have HN : Hid (cnt t (j + 1) = 1 + m * t) := Lib.hid (by simp only [cnt, HM.out])
      obtain ⟨p, hp⟩ : ∃ p, m * t = p := ⟨_, rfl⟩
      rw [hp] at hb HN
      obtain ⟨b1, b2⟩ := hb
      have HP := Lib.hid hp
      clear hp
      go_wp2_with (go_at_call 68; refine (times_any m t _ hT.out h1 h2 (by omega) (by omega)).mono ?_; rintro e w1 ⟨rfl, rfl⟩; rw [HP.out])
      go_roundw
      case rel => exact ⟨j + 1, 1 + p, by go_num, by omega, by go_num, by omega, by omega, HN, trivial⟩
      case measure => simp [intOf]; omega
    · obtain rfl : j = k := by omega
      have HE := Lib.hid (HM.out.symm.trans HR.out)
      go_wp2
      go_ret
      exact ⟨by rw [HE.out]; rfl, rfl⟩
theorem numL_drop (t : Int) (l : List Int) (i : Nat) (k : Nat) (hi : i < l.length) : numL t (k + 1) (l.drop i) = 1 + l[i]?.getD 0 * cnt t k + numL t k (l.drop (i + 1)) := by
  rw [List.drop_eq_getElem_cons hi, List.getElem?_eq_getElem hi]
  rfl
/-- the number of a look, and the error -/
def numE (x : V5) (t : Int) : Int × Int := if chkP x.1 x.2.1 x.2.2.1 x.2.2.2.1 x.2.2.2.2 t ≠ 0 then (0, chkP x.1 x.2.1 x.2.2.1 x.2.2.2.1 x.2.2.2.2 t) else (numL t 4 (lst x), 0)
set_option maxRecDepth 100000 in
set_option maxHeartbeats 2000000 in
theorem pnumber_bad (n a b c d t r : Int) (w : World) (HR : Hid (chkP n a b c d t = r)) (hr : (r != 0) = true) : Calls Tryd.prog 31 #[.agg #[.int .i64 n, .int .i64 a, .int .i64 b, .int .i64 c, .int .i64 d], .int .i64 t] w fun e w' => e = .returned (.tuple #[.int .i64 0, .int .i64 r]) ∧ Below w.heap.size w w' := by
  go_enter Tryd.func31, Tryd.ntmps31
  go_wp2_with (go_at_call 18; refine (pcheck_any n a b c d t r _ HR).mono ?_; rintro e w1 ⟨rfl, hB⟩; have B1 := Lib.hid (made1 hB).2; clear hB)
  go_ret2
  exact ⟨rfl, B1.out⟩
set_option maxRecDepth 100000 in
set_option maxHeartbeats 4000000 in
theorem pnumber_ok (l : List Int) (N : Nat) (a b c d t r : Int) (w : World) (hT : Hid (Tab w)) (HR : Hid (chkP N a b c d t = 0)) (h1 : 1 ≤ t) (h2 : t ≤ 8) (hN : N ≤ 4) (HL : Hid (l.length = N)) (HP : Hid (pad5 l = ((N : Int), a, b, c, d))) (HK : Hid (okL t l)) (HE : Hid (numL t 4 l = r)) :
    Calls Tryd.prog 31 #[.agg #[.int .i64 N, .int .i64 a, .int .i64 b, .int .i64 c, .int .i64 d], .int .i64 t] w fun e w' => e = .returned (.tuple #[.int .i64 r, .int .i64 0]) ∧ Below w.heap.size w w' := by
  have n1 : (0 : Int) ≤ N := by omega
  have n2 : (N : Int) ≤ 4 := by omega
  have hcb : Hid (0 ≤ r ∧ r < 4681) := Lib.hid (by
    obtain ⟨e1, e2⟩ := numL_range t h1 4 l (by have := HL.out; omega) HK.out.2
    have := (cnt_le t h1 h2 4 (by omega)).2
    rw [HE.out] at e1 e2
    omega)
  go_enter Tryd.func31, Tryd.ntmps31
  go_wp2_with (go_at_call 18; refine (pcheck_any N a b c d t 0 _ HR).mono ?_; rintro e w1 ⟨rfl, hB⟩; have B1 := Lib.hid (made1 hB).2; have X1 := Lib.hid (made1 hB).1; clear hB; have x0 := X1.out.cell 0; simp at x0)
  go_loopw [7, 8, 9, 21] (fun v p q i wr => ∃ (j : Nat) (m : Int), i = .int .i64 j ∧ j ≤ N ∧ v = .int .i64 m ∧ 0 ≤ m ∧ Hid (m + numL t (4 - j) (l.drop j) = r) ∧ Hid (Box wr 25 w.heap.size #[.int .i64 N, .int .i64 a, .int .i64 b, .int .i64 c, .int .i64 d]) ∧ Hid (Tab wr) ∧ Hid (Below w.heap.size w wr)) (fun _ _ _ i _ => N - (intOf i).toNat)
  case atStart => exact ⟨0, 0, rfl, by omega, rfl, by omega, Lib.hid (by simpa using HE.out), X1, Lib.hid (hT.out.below B1.out), B1⟩
  case round =>
    obtain ⟨j, m, rfl, hj, rfl, m1, HM, HX, HT, HB⟩ := hrel
    by_cases hlt : j < N
    · have hj4 : j < 4 := by omega
      have xk := HX.out.place j hj4
      have hp := pad5_pl (l := l) (by have := HL.out; omega) HP.out j
      have hz := okL_at HK.out j (by have := HL.out; omega)
      rw [← hp] at hz
      obtain ⟨z0, z1⟩ := hz
      have hn := HM.out
      rw [show 4 - j = (3 - j) + 1 by omega, numL_drop t l j (3 - j) (by have := HL.out; omega), ← hp] at hn
      have hcc := cnt_le t h1 h2 (3 - j) (by omega)
      obtain ⟨g1, _⟩ := numL_range t h1 (3 - j) (l.drop (j + 1)) (by rw [List.length_drop]; have := HL.out; omega) (fun x hx => HK.out.2 x (List.mem_of_mem_drop hx))
      generalize pl a b c d j = z at xk hp z0 z1 hn
      obtain ⟨cc, hcq⟩ : ∃ cc, cnt t (3 - j) = cc := ⟨_, rfl⟩
      rw [hcq] at hn hcc
      obtain ⟨p, hpq⟩ : ∃ p, z * cc = p := ⟨_, rfl⟩
      have p0 : 0 ≤ p := by rw [← hpq]; exact Int.mul_nonneg z0 (by omega)
      rw [hpq] at hn
      have HC := Lib.hid hcq
      have HPQ := Lib.hid hpq
      obtain ⟨c1, c2⟩ := hcc
      have hq : m + (1 + p) ≤ 4681 := by have := hcb.out; omega
      have HN : Hid (m + (1 + p) + numL t (4 - (j + 1)) (l.drop (j + 1)) = r) := Lib.hid (by rw [show 4 - (j + 1) = 3 - j by omega]; omega)
      have hsub : (3 : Int) - j = ((3 - j : Nat) : Int) := by omega
      clear hn g1 hcq hp
      go_wp2_with (go_at_call 59; (try rw [hsub]); refine (count_any t (3 - j) cc _ HT h1 h2 (by omega) HC).mono ?_; rintro e w2 ⟨rfl, rfl⟩)
      go_roundw
      case rel => exact ⟨j + 1, m + (1 + p), by go_num, by omega, by go_num, by omega, HN, HX, HT, HB⟩
      case measure => simp [intOf]; omega
    · obtain rfl : j = N := by omega
      have HF : Hid (m = r) := Lib.hid (by
        have := HM.out
        rw [List.drop_of_length_le (by have := HL.out; omega)] at this
        have e : ∀ k, numL t k [] = 0 := fun k => by cases k <;> rfl
        rw [e] at this; omega)
      go_wp2
      go_ret2
      exact ⟨by rw [HF.out]; rfl, HB.out⟩
end Go.Proofs.YtddackdghphcnaaDoor.s13
