/-
  The contract of the program's Read.
-/
import Derived.Test.YtkepnjnindolbaaWalksA
namespace Go.Proofs.Ytkepnjnindolbaa
set_option linter.unusedVariables false
open Go.RowKit

set_option maxRecDepth 100000 in
set_option maxHeartbeats 1000000 in
theorem read_far (s : ByteArray) (a : Int) (hs : s.size ≤ 9223372036854775807) (h1 : -9223372036854775808 ≤ a) (h2 : a ≤ 9223372036854775807) (h : a < 0 ∨ (s.size : Int) < a) (w : World) :
    Calls Try.prog 84 #[.string s, .int .i64 a] w fun e w' => e = .returned (.tuple #[.int .u64 0, .int .i64 0, .agg #[.int .i64 2, .int .i64 0]]) ∧ Below w.heap.size w w' := by
  by_cases hn : a < 0
  · clear h
    go_enter Try.func84, Try.ntmps84
    go_wp2
    refine bodyPost_ret (v := .tuple #[.int .u64 0, .int .i64 0, .agg #[.int .i64 2, .int .i64 0]]) (by simp [results, Try.results84, go_sem]) rfl ⟨rfl, ?_⟩
    exact ((Below.refl _ _).alloc (Nat.le_refl _) _)
  · have hb : (s.size : Int) < a := by omega
    clear h
    go_enter Try.func84, Try.ntmps84
    go_wp2
    refine bodyPost_ret (v := .tuple #[.int .u64 0, .int .i64 0, .agg #[.int .i64 2, .int .i64 0]]) (by simp [results, Try.results84, go_sem]) rfl ⟨rfl, ?_⟩
    exact ((Below.refl _ _).alloc (Nat.le_refl _) _)

theorem tup_eq {n n' nx nx' er er' p p' : Int} (h : (n, nx, er, p) = (n', nx', er', p')) : Ending.returned (.tuple #[.int .u64 n, .int .i64 nx, .agg #[.int .i64 er, .int .i64 p]]) = .returned (.tuple #[.int .u64 n', .int .i64 nx', .agg #[.int .i64 er', .int .i64 p']]) := by
  cases h; rfl
theorem rd_start (s : ByteArray) (m : Nat) (h : m ≤ s.size) : rdl (s.data.toList.drop m) m 0 0 = rd s m := by
  unfold rd
  rw [if_neg (by omega)]
  simp

set_option maxRecDepth 100000 in
set_option maxHeartbeats 1000000 in
theorem read_near (s : ByteArray) (m : Nat) (hs : s.size ≤ 9223372036854775807) (h : m ≤ s.size) (n nx er p : Int) (H : Hid (rd s m = (n, nx, er, p))) (w : World) :
    Calls Try.prog 84 #[.string s, .int .i64 m] w fun e w' => e = .returned (.tuple #[.int .u64 n, .int .i64 nx, .agg #[.int .i64 er, .int .i64 p]]) ∧ Below w.heap.size w w' := by
  have d1 : decide ((m : Int) < 0) = false := decide_eq_false (by omega)
  have d2 : decide (s.size < m) = false := decide_eq_false (by omega)
  go_enter Try.func84, Try.ntmps84
  go_wp2
  go_loop [4, 7] (fun v i => ∃ (k : Nat) (acc : Int), m + k ≤ s.size ∧ k ≤ 9 ∧ v = .int .u64 acc ∧ i = .int .i64 (m + k) ∧ 0 ≤ acc ∧ acc < 128 ^ k ∧ rdl (s.data.toList.drop (m + k)) (m + k) k acc = (n, nx, er, p)) (fun _ i => s.size - (intOf i).toNat)
  case atStart => exact ⟨0, 0, by omega, by omega, rfl, by simp, by omega, by decide, by simpa using (rd_start s m h).trans H.out⟩
  case round =>
    obtain ⟨k, acc, hk, hk9, rfl, rfl, ha0, ha1, hrd⟩ := hrel
    have HR := Lib.hid hrd
    have HA := Lib.hid ha1
    clear hrd ha1
    have e1 : (m : Int) + k - m = k := by omega
    by_cases hlt : m + k < s.size
    · have hd := Lib.hid (drop_at s (m + k) hlt)
      by_cases hbad : (s[m + k].toNat = 0 ∧ 0 < k) ∨ (k = 9 ∧ 1 < s[m + k].toNat)
      · have HS : Hid ((0, 0, 26, (m : Int) + k) = (n, nx, er, p)) := Lib.hid (by rw [← HR.out, hd.out, rdl_bad hbad])
        clear HR HA hd
        go_wp2
        all_goals first
          | (exfalso; omega)
          | (refine bodyPost_ret (v := .tuple #[.int .u64 0, .int .i64 0, .agg #[.int .i64 26, .int .i64 (m + k)]]) (by simp [results, Try.results84, go_sem]) rfl ⟨tup_eq HS.out, ?_⟩
             exact ((Below.refl _ _).alloc (Nat.le_refl _) _))
      · have HV := Lib.hid (or_val acc k s[m + k] ha0 HA.out hk9 (by omega))
        by_cases hl : s[m + k].toNat < 128
        · have HS : Hid ((acc + ((s[m + k].toNat % 128 : Nat) : Int) * 128 ^ k, (m : Int) + k + 1, 0, 0) = (n, nx, er, p)) := Lib.hid (by rw [← HR.out, hd.out, rdl_last hbad hl, Nat.mod_eq_of_lt hl])
          have HV0 : Hid (k = 0 → s[m + k].toNat = 0 → (acc, (m : Int) + 1, 0, 0) = (n, nx, er, p) ∧ bits .or .u64 acc (IntKind.u64.wrap (IntKind.u64.wrap (bits .andNot .u8 0 128))) = acc) := Lib.hid (by
            intro hk0 hx
            have h1 := HS.out
            have h2 := HA.out
            rw [hx, hk0] at h1
            rw [hk0] at h2
            exact ⟨by simpa using h1, or_val0 acc ha0 (by simpa using h2)⟩)
          clear HR HA hd
          go_wp2
          all_goals first
            | (exfalso; omega)
            | (have hz0 : k = 0 := by assumption
               have hx0 : s[m + k].toNat = 0 := by assumption
               refine bodyPost_ret (v := .tuple #[.int .u64 (bits BinOp.or IntKind.u64 acc (IntKind.u64.wrap (IntKind.u64.wrap (bits BinOp.andNot IntKind.u8 0 128)))), .int .i64 (m + 1), .agg #[.int .i64 0, .int .i64 0]]) (by simp [results, Try.results84, go_sem]) rfl ⟨tup_eq (by rw [(HV0.out hz0 hx0).2]; exact (HV0.out hz0 hx0).1), ?_⟩
               exact ((Below.refl _ _).alloc (Nat.le_refl _) _))
            | (refine bodyPost_ret (v := .tuple #[.int .u64 (bits BinOp.or IntKind.u64 acc (IntKind.u64.wrap (IntKind.u64.wrap (bits BinOp.andNot IntKind.u8 (s[m + k].toNat : Int) 128) * 2 ^ (7 * k)))), .int .i64 (m + k + 1), .agg #[.int .i64 0, .int .i64 0]]) (by simp [results, Try.results84, go_sem]) rfl ⟨tup_eq (by rw [HV.out]; exact HS.out), ?_⟩
               exact ((Below.refl _ _).alloc (Nat.le_refl _) _))
        · have HS : Hid (rdl (s.data.toList.drop (m + (k + 1))) (m + (k + 1 : Nat)) (k + 1) (acc + ((s[m + k].toNat % 128 : Nat) : Int) * 128 ^ k) = (n, nx, er, p)) := Lib.hid (by
            rw [← HR.out, hd.out, rdl_more hbad (by omega)]
            have e2 : ((s[m + k].toNat : Int) - 128) = ((s[m + k].toNat % 128 : Nat) : Int) := by
              have := s[m + k].toNat_lt
              omega
            rw [e2]
            congr 1)
          have HL := Lib.hid (sum_le acc ((s[m + k].toNat % 128 : Nat) : Int) k ha0 HA.out hk9 (by omega) (by omega) (by omega))
          clear HR HA hd
          go_wp2
          all_goals first
            | (exfalso; omega)
            | (go_round
               case rel => exact ⟨k + 1, _, by omega, by omega, rfl, by go_num, by rw [HV.out]; have := HL.out.1; omega, by rw [HV.out]; exact HL.out.2.2, by rw [HV.out]; exact HS.out⟩
               case measure => simp [intOf]; omega)
    · have HS : Hid ((0, 0, 5, (s.size : Int)) = (n, nx, er, p)) := Lib.hid (by
        have hmk : m + k = s.size := by omega
        have := HR.out
        rw [drop_end s (m + k) (by omega), rdl_end] at this
        rw [← this]
        congr 3
        omega)
      clear HR HA
      go_wp2
      refine bodyPost_ret (v := .tuple #[.int .u64 0, .int .i64 0, .agg #[.int .i64 5, .int .i64 s.size]]) (by simp [results, Try.results84, go_sem]) rfl ⟨tup_eq HS.out, ?_⟩
      exact ((Below.refl _ _).alloc (Nat.le_refl _) _)
end Go.Proofs.Ytkepnjnindolbaa
