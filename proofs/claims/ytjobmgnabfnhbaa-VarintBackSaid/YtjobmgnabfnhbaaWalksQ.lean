/-
  The contract of VarintBack.
-/
import Derived.Test.YtjobmgnabfnhbaaWalksP
namespace Go.Proofs.Ytjobmgnabfnhbaa
set_option linter.unusedVariables false
open Go.RowKit

theorem prs_back (n : Int) (h0 : 0 ≤ n) (h1 : n ≤ 18446744073709551615) : prs (strOfNums (digs n)) = (n, 0, 0) := by
  have h := rd_mid (s := strOfNums (digs n)) (l1 := []) (l2 := []) (n := n) (by rw [str_list]; simp) h0 h1
  have hr : rd (strOfNums (digs n)) 0 = (n, 0 + ((digs n).length : Int), 0, 0) := h
  unfold prs
  rw [hr, if_pos rfl, if_neg (by rw [strOfNums_size]; simp)]
theorem rd_concat (s t : ByteArray) (n : Int) (h0 : 0 ≤ n) (h1 : n ≤ 18446744073709551615) : rd (s ++ strOfNums (digs n) ++ t) s.size = (n, (s.size : Int) + (digs n).length, 0, 0) := by
  have h := rd_mid (s := s ++ strOfNums (digs n) ++ t) (l1 := s.data.toList) (l2 := t.data.toList) (n := n) (by simp [ByteArray.data_append, strOfNums_data, bys]) h0 h1
  have e : s.data.toList.length = s.size := by simp
  rw [e] at h
  exact h
theorem rd_zero {s : ByteArray} : rd s 0 = rdl s.data.toList 0 0 0 := by
  unfold rd
  rw [if_neg (by omega)]
  simp
theorem prs_cut (n : Int) (h0 : 0 ≤ n) (h1 : n ≤ 18446744073709551615) (j : Nat) (hj : j < (digs n).length) : prs ((strOfNums (digs n)).extract 0 j) = (0, 5, (j : Int)) := by
  have hl : ((strOfNums (digs n)).extract 0 j).data.toList = (bys (digs n)).take j := by
    rw [ByteArray.data_extract, ← str_list]
    simp
  have h := rdl_cut n.toNat n j 0 0 0 rfl h0 (by omega) (by simpa using h1) (by omega) hj
  have hr : rd ((strOfNums (digs n)).extract 0 j) 0 = (0, 0, 5, (j : Int)) := by
    rw [rd_zero, hl, h]; simp
  unfold prs
  rw [hr, if_neg (by simp)]
theorem prs_only {s : ByteArray} {k p : Int} (h : prs s = (k, 0, p)) : p = 0 ∧ 0 ≤ k ∧ k ≤ 18446744073709551615 ∧ strOfNums (digs k) = s := by
  obtain ⟨n, nx, er, q, hr⟩ : ∃ n nx er q, rd s 0 = (n, nx, er, q) := ⟨_, _, _, _, rfl⟩
  obtain ⟨b1, b2⟩ := rd_bounds s 0 hr
  unfold prs at h
  rw [hr] at h
  simp only [] at h
  by_cases he : er = 0
  · subst he
    rw [if_pos rfl] at h
    by_cases hl : nx < s.size
    · rw [if_pos hl] at h; cases h
    · rw [if_neg hl] at h
      cases h
      obtain ⟨c1, c2, _, c4, c5, _⟩ := b1 rfl
      rw [rd_zero] at hr
      obtain ⟨m, m0, _, hN, ht, hx⟩ := rdl_only _ _ _ _ _ _ _ hr
      have hm : m = k := by simpa using hN.symm
      subst hm
      refine ⟨rfl, c1, c2, ?_⟩
      have hall : s.data.toList.take (nx - 0).toNat = s.data.toList := List.take_of_length_le (by simp; omega)
      rw [hall] at ht
      apply ByteArray.ext
      apply Array.toList_inj.1
      rw [str_list, ht]
  · rw [if_neg he] at h
    cases h
    exact absurd rfl he

theorem shift_all {n : Int} {l : Nat} (h0 : 0 ≤ n) (hl : l = (digs n).length) : n / 2 ^ (7 * l) = 0 := by
  have e : (2 : Int) ^ (7 * l) = 128 ^ l := by rw [Int.pow_mul]; rfl
  rw [e]
  apply Int.ediv_eq_zero_of_lt h0
  by_cases h : n < 128 ^ l
  · exact h
  · have := digs_len_gt l n (by omega)
    omega
theorem shift_one {n : Int} {l : Nat} (h0 : 0 ≤ n) (h1 : n ≤ 18446744073709551615) (hl2 : 1 < l) (hl : l = (digs n).length) : (n / 2 ^ (7 * (l - 1)) == 0) = false := by
  have e : (2 : Int) ^ (7 * (l - 1)) = 128 ^ (l - 1) := by rw [Int.pow_mul]; rfl
  rw [e, beq_eq_false_iff_ne]
  have hp : (0 : Int) < 128 ^ (l - 1) := Int.pow_pos (by omega)
  have hge : (128 : Int) ^ (l - 1) ≤ n := by
    by_cases h : n < 128 ^ (l - 1)
    · obtain ⟨k, hk⟩ : ∃ k, l - 1 = k + 1 := ⟨l - 2, by omega⟩
      rw [hk] at h
      have := digs_len_le k n h
      omega
    · omega
  have := (Int.le_ediv_iff_mul_le hp).2 (show 1 * (128 : Int) ^ (l - 1) ≤ n by omega)
  omega

set_option maxRecDepth 100000 in
set_option maxHeartbeats 2000000 in
theorem back_any (n : Int) (s t V : ByteArray) (h0 : 0 ≤ n) (h1 : n ≤ 18446744073709551615) (hs : s.size ≤ 40) (ht : t.size ≤ 40) (HV : Hid (strOfNums (digs n) = V)) (w : World) :
    Calls Try.prog 7 #[.int .u64 n, .string s, .string t] w fun e w' => e = .returned (.bool true) ∧ Below w.heap.size w w' := by
  have HS : Hid (V.size = (digs n).length) := Lib.hid (by rw [← HV.out, strOfNums_size])
  have hV1 : 1 ≤ V.size := by rw [HS.out]; exact digs_pos n
  have hV2 : V.size ≤ 10 := by rw [HS.out]; exact digs_len10 h1
  have HP : Hid (prs V = (n, 0, 0)) := Lib.hid (by rw [← HV.out]; exact prs_back n h0 h1)
  have HR : Hid (rd (s ++ V ++ t) s.size = (n, (s.size : Int) + V.size, 0, 0)) := Lib.hid (by rw [HS.out, ← HV.out]; exact rd_concat s t n h0 h1)
  have HC : Hid (∀ j, j < V.size → prs (V.extract 0 j) = (0, 5, (j : Int))) := Lib.hid (fun j hj => by rw [← HV.out]; exact prs_cut n h0 h1 j (by rw [← HS.out]; exact hj))
  have hsz1 : (s ++ V).size = s.size + V.size := ByteArray.size_append
  have hsz2 : (s ++ V ++ t).size = s.size + V.size + t.size := by rw [ByteArray.size_append, hsz1]
  have HZ := Lib.hid (show (s ++ V ++ t).size ≤ 9223372036854775807 by omega)
  clear hsz1 hsz2
  obtain ⟨k, er, p, HK⟩ : ∃ k er p, Hid (prs s = (k, er, p)) := ⟨_, _, _, Lib.hid rfl⟩
  have d1 : decide ((V.size : Int) < 1) = false := decide_eq_false (by omega)
  have d2 : decide ((10 : Int) < V.size) = false := decide_eq_false (by omega)
  have d3 : decide ((40 : Int) < s.size) = false := decide_eq_false (by omega)
  have d4 : decide ((40 : Int) < t.size) = false := decide_eq_false (by omega)
  go_enter Try.func7, Try.ntmps7
  go_wp2_with (first
    | (go_at_call 6; refine (known_any _).mono ?_; rintro e w0 ⟨rfl, hB0⟩)
    | (go_at_call 17; (with_reducible refine (bytes_any n (by omega) (by omega) _).mono ?_); rw [HV.out]; rintro e w1 ⟨rfl, hB1⟩)
    | (go_at_call 13; (with_reducible refine (parse_any V (by omega) n 0 0 HP _).mono ?_); rintro e w2 ⟨rfl, hB2⟩)
    | (go_at_call 19; refine (size_any n (by omega) (by omega) _).mono ?_; rw [← HS.out]; rintro e w3 ⟨rfl, rfl⟩)
    | (go_at_call 29; refine (reads_true _ _ _ _ HZ.out (by omega) (by omega) HR _).mono ?_; rintro e w3 ⟨rfl, hB3⟩))
  have KB := below_alloc_then (below_then (below_then hB0 hB1) hB2) hB3
  clear d1 d2 d3 d4
  go_loopw [11] (fun i wr => ∃ k : Nat, k ≤ V.size ∧ i = .int .i64 k ∧ Below w.heap.size w wr) (fun i _ => V.size - (intOf i).toNat)
  case atStart => exact ⟨0, by omega, rfl, KB⟩
  case round =>
    obtain ⟨j, hj, rfl, hBj⟩ := hrel
    by_cases hlt : j < V.size
    · have HJ := Lib.hid (HC.out j hlt)
      have hxs : (V.extract 0 j).size ≤ 9223372036854775807 := by rw [ByteArray.size_extract]; omega
      go_wp2_with (go_at_call 13; refine (parse_any (V.extract 0 j) hxs 0 5 j HJ _).mono ?_; rintro e w5 ⟨rfl, hB5⟩)
      go_roundw
      case rel => exact ⟨j + 1, by omega, by go_num, (below_then hBj hB5).alloc (Nat.le_trans hBj.size hB5.size) _⟩
      case measure => simp [intOf]; omega
    · have HQ : Hid (V.size ≤ 1 ∨ (n / 2 ^ (7 * (V.size - 1)) == 0) = false) := Lib.hid (by
        by_cases h : V.size ≤ 1
        · exact .inl h
        · exact .inr (shift_one h0 h1 (by rw [HS.out] at h; rw [HS.out]; omega) HS.out))
      have t1 : n / 2 ^ (7 * V.size) = 0 := shift_all h0 HS.out
      have HK2 : Hid (¬ er = 0 ∨ (er = 0 ∧ p = 0 ∧ 0 ≤ k ∧ k ≤ 18446744073709551615 ∧ strOfNums (digs k) = s)) := Lib.hid (by
        by_cases he : er = 0
        · subst he
          exact .inr ⟨rfl, prs_only HK.out⟩
        · exact .inl he)
      rcases HQ.out with hv | hv <;> rcases HK2.out with hk | ⟨rfl, rfl, hk0, hk1, hks⟩
      · clear HQ HK2
        go_wp2_with (go_at_call 13; refine (parse_any s (by omega) k er p HK _).mono ?_; rintro e w6 ⟨rfl, hB6⟩)
        all_goals
          go_ret
          exact ⟨rfl, (below_then hBj hB6).alloc (Nat.le_trans hBj.size hB6.size) _⟩
      · have HX := Lib.hid hks
        clear HQ HK2 hks
        go_wp2_with (first
          | (go_at_call 13; refine (parse_any s (by omega) k 0 0 HK _).mono ?_; rintro e w6 ⟨rfl, hB6⟩)
          | (go_at_call 17; refine (bytes_any k hk0 hk1 _).mono ?_; rw [HX.out]; rintro e w7 ⟨rfl, hB7⟩))
        all_goals
          go_ret
          exact ⟨rfl, below_alloc_then (below_then hBj hB6) hB7⟩
      · clear HQ HK2
        go_wp2_with (go_at_call 13; refine (parse_any s (by omega) k er p HK _).mono ?_; rintro e w6 ⟨rfl, hB6⟩)
        all_goals
          go_ret
          exact ⟨rfl, (below_then hBj hB6).alloc (Nat.le_trans hBj.size hB6.size) _⟩
      · have HX := Lib.hid hks
        clear HQ HK2 hks
        go_wp2_with (first
          | (go_at_call 13; refine (parse_any s (by omega) k 0 0 HK _).mono ?_; rintro e w6 ⟨rfl, hB6⟩)
          | (go_at_call 17; refine (bytes_any k hk0 hk1 _).mono ?_; rw [HX.out]; rintro e w7 ⟨rfl, hB7⟩))
        all_goals
          go_ret
          exact ⟨rfl, below_alloc_then (below_then hBj hB6) hB7⟩
end Go.Proofs.Ytjobmgnabfnhbaa
