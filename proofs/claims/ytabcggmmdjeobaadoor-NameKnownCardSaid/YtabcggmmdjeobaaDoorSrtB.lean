/-
  Sorting: choosing the pivot below 50 elements; breaking patterns (slices.choosePivotCmpFunc, breakPatternsCmpFunc, nextPowerOfTwo, xorshift.Next).
-/
import Derived.Test.YtabcggmmdjeobaaDoorSrtP
import Derived.Test.YtabcggmmdjeobaaDoorSrtR
import Derived.Test.YtabcggmmdjeobaaDoorLay
import Derived.Sort.Walk7a
namespace Go.Proofs.YtabcggmmdjeobaaDoor.srt
set_option linter.unusedVariables false
set_option linter.unusedSimpArgs false
open Go.RowKit
open kit s03
open Go.Sort (swp grow SWO PermIn SortedIn grow_empty grow_grow alloc_eq_grow size_swp)
set_option maxRecDepth 100000 in
set_option maxHeartbeats 4000000 in
theorem pivot_any (B g cap a b : Nat) (w0 w : World) (d : Array ByteArray) (hab : a + 12 < b) (h50 : b < a + 50) (hb : b ≤ d.size) (hsz : d.size ≤ 1000) (hR : RowS B g w0 d w) :
    Calls Tryd.prog 62 #[.slice (some ⟨g, 0, none⟩) d.size cap, .int .i64 (a : Int), .int .i64 (b : Int), .func (.func 44) #[.agg #[]] #[]] w fun e w' => ∃ (p : Nat) (h : Int), e = .returned (.tuple #[.int .i64 (p : Int), .int .i64 h]) ∧ a ≤ p ∧ p < b ∧ RowS B g w0 d w' := by
  have R0 := row_hid (hR.alloc (.cells #[.int .i64 0] 3))
  have I0 := Lib.hid (IntAt.new (k := .i64) hR 0 3)
  clear hR
  obtain ⟨l, hl⟩ : ∃ l, b = a + l := ⟨b - a, by omega⟩
  obtain ⟨m, hm⟩ : ∃ m, m = l / 4 := ⟨_, rfl⟩
  obtain ⟨m2, hm2⟩ : ∃ x, x = m * 2 := ⟨_, rfl⟩
  obtain ⟨m3, hm3⟩ : ∃ x, x = m * 3 := ⟨_, rfl⟩
  obtain ⟨i, hi⟩ : ∃ x, x = a + m := ⟨_, rfl⟩
  obtain ⟨j, hj⟩ : ∃ x, x = a + m2 := ⟨_, rfl⟩
  obtain ⟨k, hk⟩ : ∃ x, x = a + m3 := ⟨_, rfl⟩
  have w1 : IntKind.i64.wrap ((b : Int) - (a : Int)) = (l : Int) := wrap_nat (by omega) (by omega)
  have w2 : (l : Int) / 4 = (m : Int) := by omega
  have w3 : (l : Int).tdiv 4 = (m : Int) := by rw [Int.tdiv_eq_ediv_of_nonneg (by omega)]; omega
  have w4 : IntKind.i64.wrap (m : Int) = m := IntWalk.i64_in _ (by omega)
  have w5 : IntKind.i64.wrap ((m : Int) * 2) = (m2 : Int) := wrap_nat (by omega) (by omega)
  have w6 : IntKind.i64.wrap ((m : Int) * 3) = (m3 : Int) := wrap_nat (by omega) (by omega)
  have w7 : IntKind.i64.wrap ((a : Int) + (m : Int)) = (i : Int) := wrap_nat (by omega) (by omega)
  have w8 : IntKind.i64.wrap ((a : Int) + (m2 : Int)) = (j : Int) := wrap_nat (by omega) (by omega)
  have w9 : IntKind.i64.wrap ((a : Int) + (m3 : Int)) = (k : Int) := wrap_nat (by omega) (by omega)
  have hl8 : 8 ≤ l := by omega
  have hl50 : l < 50 := by omega
  have bi : i < d.size := by omega
  have bj : j < d.size := by omega
  have bk : k < d.size := by omega
  have HI : Hid (a ≤ i ∧ i < b ∧ a ≤ j ∧ j < b ∧ a ≤ k ∧ k < b) := Lib.hid (by omega)
  clear hl hm hm2 hm3 hi hj hk
  go_enter Tryd.func62, Tryd.ntmps62
  go_wp2_with (go_at_call 75; (with_reducible refine (median_any B g w.heap.size cap i j k w0 _ d bi bj bk hsz R0.out I0.out).mono ?_); rintro e w5 ⟨x, rfl, p1, r1, i1⟩; have R1 := row_hid r1; have HP := Lib.hid p1; obtain ⟨mm, hm, hf⟩ := i1.cell; clear r1 i1 p1 R0 I0)
  all_goals
    go_ret2
    refine ⟨x, _, rfl, ?_, ?_, R1.out⟩
    all_goals
      have h1 := HI.out
      have h2 := HP.out
      omega

theorem bit_len : ∀ l : Fin 50, 12 < l.val → (Lib.bitLen l.val = 4 ∨ Lib.bitLen l.val = 5 ∨ Lib.bitLen l.val = 6) ∧ 2 ^ Lib.bitLen l.val ≤ 2 * l.val := by decide +kernel
theorem wrap_u64_nat {k : Nat} (hk : k ≤ 1000000) : IntKind.u64.wrap (k : Int) = k := wrap_u64_in _ (by omega) (by omega)
set_option maxRecDepth 100000 in
set_option maxHeartbeats 4000000 in
theorem pow_any (l : Nat) (w : World) (h1 : 12 < l) (h2 : l < 50) : Calls Tryd.prog 72 #[.int .i64 (l : Int)] w fun e w' => ∃ M : Nat, e = .returned (.int .u64 (M : Int)) ∧ (M = 16 ∨ M = 32 ∨ M = 64) ∧ M ≤ 2 * l ∧ w = w' := by
  obtain ⟨hb, hm⟩ := bit_len ⟨l, h2⟩ h1
  have HL := fun w => Lib.hid (Any.bits_Len lay.layLen (l : Int) w (by omega) (by omega))
  rw [Int.toNat_natCast] at HL
  have wl := wrap_u64_nat (k := l) (by omega)
  simp only at hb hm
  generalize Lib.bitLen l = k at hb hm HL
  rcases hb with rfl | rfl | rfl
  all_goals
    go_enter Tryd.func72, Tryd.ntmps72
    go_wp2_with (go_at_call 55; refine ((HL _).out).mono ?_; rintro e w1 ⟨rfl, rfl⟩)
    go_ret
  · exact ⟨16, rfl, by omega, by omega, rfl⟩
  · exact ⟨32, rfl, by omega, by omega, rfl⟩
  · exact ⟨64, rfl, by omega, by omega, rfl⟩
theorem and_le (X : Int) (m : Nat) (hm : m ≤ 1000) : ∃ o : Nat, bits .and .u64 X (m : Int) = (o : Int) ∧ o ≤ m := by
  have h : bits .and .u64 X (m : Int) = IntKind.u64.wrap ((BitVec.ofInt 64 X &&& BitVec.ofInt 64 (m : Int)).toNat : Int) := rfl
  have hle : (BitVec.ofInt 64 X &&& BitVec.ofInt 64 (m : Int)).toNat ≤ m := by
    rw [BitVec.toNat_and, BitVec.ofInt_natCast, BitVec.toNat_ofNat, Nat.mod_eq_of_lt (a := m) (by omega)]
    exact Nat.and_le_right
  exact ⟨_, by rw [h]; exact wrap_u64_nat (by omega), hle⟩

set_option maxRecDepth 100000 in
set_option maxHeartbeats 4000000 in
theorem next_any (B g q : Nat) (w0 w : World) (d : Array ByteArray) (hR : RowS B g w0 d w) (hI : IntAt B g q .u64 w) :
    Calls Tryd.prog 73 #[.pointer (some ⟨q, 0, none⟩)] w fun e w' => ∃ X : Int, e = .returned (.int .u64 X) ∧ RowS B g w0 d w' ∧ IntAt B g q .u64 w' := by
  have mx := mixed
  obtain ⟨X, hc, hf⟩ := hI.cell
  have R0 := fun v => row_hid (hR.set_other (q := q) hI.1 hI.2.1 v)
  have I0 := fun v => Lib.hid (hI.set v)
  have hss : ∀ v v', (w.setCell ⟨q, 0, none⟩ v).setCell ⟨q, 0, none⟩ v' = w.setCell ⟨q, 0, none⟩ v' := fun v v' => Go.Proofs.setCell_setCell w q 0 v v'
  clear hR hI
  go_enter Tryd.func73, Tryd.ntmps73
  go_wp2
  go_region_o
  all_goals go_wp2
  all_goals go_region_o
  all_goals go_wp2
  all_goals go_region_o
  all_goals go_wp2
  trace_state
  all_goals
    go_ret
    exact ⟨_, rfl, ((R0 _).out.drew).drew.drew, ((I0 _).out.drew).drew.drew⟩
end Go.Proofs.YtabcggmmdjeobaaDoor.srt
