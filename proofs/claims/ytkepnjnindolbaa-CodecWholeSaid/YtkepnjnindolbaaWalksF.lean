/-
  The contract of the reference's Read.
-/
import Derived.Test.YtkepnjnindolbaaWalksE
namespace Go.Proofs.Ytkepnjnindolbaa
set_option linter.unusedVariables false
open Go.RowKit

theorem fault_any (c q : Int) (w : World) :
    Calls Try.prog 85 #[.int .i64 c, .int .i64 q] w fun e w' => e = .returned (.tuple #[.int .u64 0, .int .i64 0, .agg #[.int .i64 c, .int .i64 q]]) ∧ w' = w.alloc (.cells #[.int .i64 c, .int .i64 q] 24) := by
  go_enter Try.func85, Try.ntmps85
  go_wp2
  exact bodyPost_ret (v := .tuple #[.int .u64 0, .int .i64 0, .agg #[.int .i64 c, .int .i64 q]]) (by simp [results, Try.results85, go_sem]) rfl ⟨rfl, rfl⟩

set_option maxRecDepth 100000 in
set_option maxHeartbeats 1000000 in
theorem readr_far (s : ByteArray) (a : Int) (hs : s.size ≤ 9223372036854775807) (h1 : -9223372036854775808 ≤ a) (h2 : a ≤ 9223372036854775807) (h : a < 0 ∨ (s.size : Int) < a) (w : World) :
    Calls Try.prog 56 #[.string s, .int .i64 a] w fun e w' => e = .returned (.tuple #[.int .u64 0, .int .i64 0, .agg #[.int .i64 2, .int .i64 0]]) ∧ Below w.heap.size w w' := by
  by_cases hn : a < 0
  · clear h
    go_enter Try.func56, Try.ntmps56
    go_wp2_with (go_at_call 85; refine (fault_any _ _ _).mono ?_; rintro e w' ⟨rfl, rfl⟩)
    refine bodyPost_ret (v := .tuple #[.int .u64 0, .int .i64 0, .agg #[.int .i64 2, .int .i64 0]]) (by simp [results, Try.results56, go_sem]) rfl ⟨rfl, ?_⟩
    exact ((((Below.refl _ _).alloc (Nat.le_refl _) _).alloc (by simp) _))
  · have hb : (s.size : Int) < a := by omega
    clear h
    go_enter Try.func56, Try.ntmps56
    go_wp2_with (go_at_call 85; refine (fault_any _ _ _).mono ?_; rintro e w' ⟨rfl, rfl⟩)
    refine bodyPost_ret (v := .tuple #[.int .u64 0, .int .i64 0, .agg #[.int .i64 2, .int .i64 0]]) (by simp [results, Try.results56, go_sem]) rfl ⟨rfl, ?_⟩
    exact ((((Below.refl _ _).alloc (Nat.le_refl _) _).alloc (by simp) _))

theorem tup_of {N NX ER Q n nx er p n' nx' er' p' : Int} (HS : (N, NX, ER, Q) = (n, nx, er, p)) (h1 : n' = N) (h2 : nx' = NX) (h3 : er' = ER) (h4 : p' = Q) : Ending.returned (.tuple #[.int .u64 n', .int .i64 nx', .agg #[.int .i64 er', .int .i64 p']]) = .returned (.tuple #[.int .u64 n, .int .i64 nx, .agg #[.int .i64 er, .int .i64 p]]) := by
  cases HS; subst h1; subst h2; subst h3; subst h4; rfl
set_option maxRecDepth 100000 in
set_option maxHeartbeats 1000000 in
theorem readr_near (s : ByteArray) (m : Nat) (hs : s.size ≤ 9223372036854775807) (h : m ≤ s.size) (n nx er p : Int) (H : Hid (rd s m = (n, nx, er, p))) (w : World) :
    Calls Try.prog 56 #[.string s, .int .i64 m] w fun e w' => e = .returned (.tuple #[.int .u64 n, .int .i64 nx, .agg #[.int .i64 er, .int .i64 p]]) ∧ Below w.heap.size w w' := by
  have d1 : decide ((m : Int) < 0) = false := decide_eq_false (by omega)
  have d2 : decide (s.size < m) = false := decide_eq_false (by omega)
  go_enter Try.func56, Try.ntmps56
  go_wp2
  go_loop [7, 8, 9] (fun v pv i => ∃ (k : Nat) (acc pl : Int), m + k ≤ s.size ∧ k ≤ 9 ∧ v = .int .u64 acc ∧ pv = .int .u64 pl ∧ pl = 128 ^ k ∧ i = .int .i64 k ∧ 0 ≤ acc ∧ acc < 128 ^ k ∧ rdl (s.data.toList.drop (m + k)) (m + k) k acc = (n, nx, er, p)) (fun _ _ i => s.size - (intOf i).toNat)
  case atStart => exact ⟨0, 0, 1, by omega, by omega, rfl, rfl, by decide, rfl, by omega, by decide, by simpa using (rd_start s m h).trans H.out⟩
  case round =>
    obtain ⟨k, acc, pl, hk, hk9, rfl, rfl, hpl, rfl, ha0, ha1, hrd⟩ := hrel
    have HR := Lib.hid hrd
    have HA := Lib.hid ha1
    have HP := Lib.hid hpl
    clear hrd ha1 hpl
    by_cases hlt : m + k < s.size
    · have hd := Lib.hid (drop_at s (m + k) hlt)
      have tne : ((m : Int) + k == s.size) = false := by rw [beq_eq_false_iff_ne]; omega
      have hlt128 : s[m + k].toNat < 256 := s[m + k].toNat_lt
      by_cases hbad : (s[m + k].toNat = 0 ∧ 0 < k) ∨ (k = 9 ∧ 1 < s[m + k].toNat)
      · have HS : Hid ((0, 0, 26, (m : Int) + k) = (n, nx, er, p)) := Lib.hid (by rw [← HR.out, hd.out, rdl_bad hbad])
        clear HR HA hd
        go_wp2_with (go_at_call 85; refine (fault_any _ _ _).mono ?_; rintro e w' ⟨rfl, rfl⟩)
        all_goals
          refine bodyPost_ret (by simp [results, Try.results56, go_sem]; exact ⟨rfl, rfl, rfl, rfl⟩) rfl ⟨tup_of HS.out (by omega) (by omega) (by omega) (by omega), ?_⟩
          exact ((((Below.refl _ _).alloc (Nat.le_refl _) _).alloc (by simp) _))
      · have HL := Lib.hid (sum_le acc ((s[m + k].toNat : Int) % 128) k ha0 HA.out hk9 (by omega) (by omega) (by omega))
        have g0 : 0 ≤ (s[m + k].toNat : Int) % 128 * pl := by rw [HP.out]; exact HL.out.1
        have g1 : acc + (s[m + k].toNat : Int) % 128 * pl ≤ 18446744073709551615 := by rw [HP.out]; exact HL.out.2.1
        by_cases hl : s[m + k].toNat < 128
        · have HS : Hid ((acc + (s[m + k].toNat : Int) % 128 * pl, (m : Int) + k + 1, 0, 0) = (n, nx, er, p)) := Lib.hid (by rw [← HR.out, hd.out, rdl_last hbad hl, HP.out, Int.emod_eq_of_lt (by omega) (by omega)])
          clear HR HA hd
          go_wp2
          all_goals
            refine bodyPost_ret (by simp [results, Try.results56, go_sem]; exact ⟨rfl, rfl, rfl, rfl⟩) rfl ⟨tup_of HS.out ?_ (by omega) (by omega) (by omega), ?_⟩
            · first | rfl | (have hx0 : s[m + k].toNat = 0 := by assumption
                             rw [hx0]; simp)
            · exact ((Below.refl _ _).alloc (Nat.le_refl _) _)
        · have HS : Hid (rdl (s.data.toList.drop (m + (k + 1))) (m + (k + 1 : Nat)) (k + 1) (acc + (s[m + k].toNat : Int) % 128 * pl) = (n, nx, er, p)) := Lib.hid (by
            rw [← HR.out, hd.out, rdl_more hbad (by omega)]
            have e2 : ((s[m + k].toNat : Int) - 128) = (s[m + k].toNat : Int) % 128 := by
              omega
            rw [e2, HP.out]
            congr 1)
          have hp8 : 0 ≤ pl * 128 ∧ pl * 128 ≤ 18446744073709551615 := by
            rw [HP.out]
            rcases pow128 k hk9 with ⟨e, e'⟩ | ⟨e, e'⟩ | ⟨e, e'⟩ | ⟨e, e'⟩ | ⟨e, e'⟩ | ⟨e, e'⟩ | ⟨e, e'⟩ | ⟨e, e'⟩ | ⟨e, e'⟩ | ⟨e, e'⟩ <;> rw [e] <;> omega
          have HQ : Hid (pl * 128 = 128 ^ (k + 1)) := Lib.hid (by rw [HP.out, Int.pow_succ])
          clear HR HA hd
          go_wp2
          go_round
          case rel => exact ⟨k + 1, _, _, by omega, by omega, rfl, rfl, HQ.out, by go_num, by omega, by rw [HP.out]; exact HL.out.2.2, HS.out⟩
          case measure => simp [intOf]; omega
    · have hmk : (m : Int) + k = s.size := by omega
      have HS : Hid ((0, 0, 5, (s.size : Int)) = (n, nx, er, p)) := Lib.hid (by
        have := HR.out
        rw [drop_end s (m + k) (by omega), rdl_end] at this
        rw [← this]
        congr 3
        omega)
      have teq : ((m : Int) + k == s.size) = true := by rw [beq_iff_eq]; omega
      clear HR HA hmk
      go_wp2_with (go_at_call 85; refine (fault_any _ _ _).mono ?_; rintro e w' ⟨rfl, rfl⟩)
      refine bodyPost_ret (by simp [results, Try.results56, go_sem]; exact ⟨rfl, rfl, rfl, rfl⟩) rfl ⟨tup_of HS.out (by omega) (by omega) (by omega) (by omega), ?_⟩
      exact ((((Below.refl _ _).alloc (Nat.le_refl _) _).alloc (by simp) _))
theorem read_any (s : ByteArray) (a : Int) (hs : s.size ≤ 9223372036854775807) (h1 : -9223372036854775808 ≤ a) (h2 : a ≤ 9223372036854775807) (n nx er p : Int) (H : Hid (rd s a = (n, nx, er, p))) (w : World) :
    Calls Try.prog 84 #[.string s, .int .i64 a] w fun e w' => e = .returned (.tuple #[.int .u64 n, .int .i64 nx, .agg #[.int .i64 er, .int .i64 p]]) ∧ Below w.heap.size w w' := by
  by_cases h : a < 0 ∨ (s.size : Int) < a
  · have hr := H.out
    unfold rd at hr
    rw [if_pos h] at hr
    cases hr
    exact read_far s a hs h1 h2 h w
  · obtain ⟨m, rfl⟩ := Int.eq_ofNat_of_zero_le (show 0 ≤ a by omega)
    exact read_near s m hs (by omega) n nx er p H w
theorem readr_any (s : ByteArray) (a : Int) (hs : s.size ≤ 9223372036854775807) (h1 : -9223372036854775808 ≤ a) (h2 : a ≤ 9223372036854775807) (n nx er p : Int) (H : Hid (rd s a = (n, nx, er, p))) (w : World) :
    Calls Try.prog 56 #[.string s, .int .i64 a] w fun e w' => e = .returned (.tuple #[.int .u64 n, .int .i64 nx, .agg #[.int .i64 er, .int .i64 p]]) ∧ Below w.heap.size w w' := by
  by_cases h : a < 0 ∨ (s.size : Int) < a
  · have hr := H.out
    unfold rd at hr
    rw [if_pos h] at hr
    cases hr
    exact readr_far s a hs h1 h2 h w
  · obtain ⟨m, rfl⟩ := Int.eq_ofNat_of_zero_le (show 0 ≤ a by omega)
    exact readr_near s m hs (by omega) n nx er p H w
end Go.Proofs.Ytkepnjnindolbaa
