/-
  Sorting: breaking patterns below 50 elements (slices.breakPatternsCmpFunc at string).
-/
import Derived.Test.YtabcggmmdjeobaaDoorSrtB
namespace Go.Proofs.YtabcggmmdjeobaaDoor.srt
set_option linter.unusedVariables false
set_option linter.unusedSimpArgs false
open Go.RowKit
open kit s03
open Go.Sort (swp grow SWO PermIn SortedIn grow_empty grow_grow alloc_eq_grow size_swp)
set_option maxRecDepth 100000 in
set_option maxHeartbeats 4000000 in
theorem break_any (B g cap a b : Nat) (w0 w : World) (d : Array ByteArray) (hab : a + 12 < b) (h50 : b < a + 50) (hb : b ≤ d.size) (hsz : d.size ≤ 1000) (hR : RowS B g w0 d w) :
    Calls Tryd.prog 61 #[.slice (some ⟨g, 0, none⟩) d.size cap, .int .i64 (a : Int), .int .i64 (b : Int), .func (.func 44) #[.agg #[]] #[]] w fun e w' => e = .returned (.tuple #[]) ∧ ∃ d', RowS B g w0 d' w' ∧ d'.size = d.size ∧ PermIn a b d d' := by
  have mx := mixed
  obtain ⟨n, hn⟩ : ∃ n, n = d.size := ⟨_, rfl⟩
  obtain ⟨l, hl⟩ : ∃ l, b = a + l := ⟨b - a, by omega⟩
  have R0 := row_hid (hR.alloc (.cells #[.int .u64 (l : Int)] 75))
  have I0 := Lib.hid (IntAt.new (k := .u64) hR (l : Int) 75)
  rw [← hn] at hb hsz ⊢
  have HN := Lib.hid hn
  clear hR hn
  obtain ⟨m, hm⟩ : ∃ m, m = l / 4 := ⟨_, rfl⟩
  obtain ⟨m2, hm2⟩ : ∃ x, x = m * 2 := ⟨_, rfl⟩
  obtain ⟨am, ham⟩ : ∃ x, x = a + m2 := ⟨_, rfl⟩
  obtain ⟨s0, hs0⟩ : ∃ x, am = x + 1 := ⟨am - 1, by omega⟩
  obtain ⟨s2, hs2⟩ : ∃ x, x = am + 1 := ⟨_, rfl⟩
  have w1 : IntKind.i64.wrap ((b : Int) - (a : Int)) = (l : Int) := wrap_nat (by omega) (by omega)
  have w2 : (l : Int) / 4 = (m : Int) := by omega
  have w3 : (l : Int).tdiv 4 = (m : Int) := by rw [Int.tdiv_eq_ediv_of_nonneg (by omega)]; omega
  have w4 : IntKind.i64.wrap (m : Int) = m := IntWalk.i64_in _ (by omega)
  have w5 : IntKind.i64.wrap ((m : Int) * 2) = (m2 : Int) := wrap_nat (by omega) (by omega)
  have w6 : IntKind.i64.wrap ((a : Int) + (m2 : Int)) = (am : Int) := wrap_nat (by omega) (by omega)
  have w7 : IntKind.i64.wrap ((am : Int) - 1) = (s0 : Int) := wrap_nat (by omega) (by omega)
  have w8 : IntKind.i64.wrap ((am : Int) + 1) = (s2 : Int) := wrap_nat (by omega) (by omega)
  have w9 : IntKind.u64.wrap (l : Int) = l := wrap_u64_nat (by omega)
  have hl8 : 8 ≤ l := by omega
  have hl12 : 12 < l := by omega
  have hl50 : l < 50 := by omega
  have HL := Lib.hid hl
  have H2 : Hid (a ≤ s0 ∧ s2 < b ∧ s2 = s0 + 2) := Lib.hid (by omega)
  clear hl hm hm2 ham hs0 hs2
  obtain ⟨q, hq⟩ : ∃ q, q = w.heap.size := ⟨_, rfl⟩
  go_enter Tryd.func61, Tryd.ntmps61
  go_wp2_with (go_at_call 72; refine (pow_any l _ hl12 hl50).mono ?_; rintro e w5 ⟨M, rfl, hM1, hM2, rfl⟩)
  rw [← hq] at I0 ⊢
  clear hq
  obtain ⟨M1, hM3⟩ : ∃ x, M = x + 1 := ⟨M - 1, by omega⟩
  have wm : IntKind.u64.wrap ((M : Int) - 1) = (M1 : Int) := by rw [show (M : Int) - 1 = M1 by omega]; exact wrap_u64_nat (by omega)
  have hM4 : M1 ≤ 1000 := by omega
  have hM5 : M1 < 2 * l := by omega
  clear hM1 hM2 hM3
  go_loopw [11] (fun u wr => ∃ (i : Nat) (e : Array ByteArray), s0 ≤ i ∧ i ≤ s2 + 1 ∧ u = .int .i64 i ∧ Hid (RowS B g w0 e wr) ∧ Hid (IntAt B g q .u64 wr) ∧ Hid (PermIn a b d e) ∧ e.size = n) (fun u _ => s2 + 1 - (intOf u).toNat)
  case atStart => exact ⟨s0, d, by omega, by have := H2.out; omega, rfl, R0, I0, Lib.hid (Go.Sort.permIn_refl _ _ _), HN.out.symm⟩
  case round =>
    obtain ⟨i, e, h1, h2, rfl, R1, I1, P1, hs1⟩ := hrel
    clear R0 I0
    by_cases hi : i ≤ s2
    · have HS := Lib.hid hs1
      have bi : i < n := by have := H2.out; omega
      go_wp2_with (go_at_call 73; refine (next_any B g q w0 _ e R1.out I1.out).mono ?_; rintro e6 w6 ⟨X, rfl, r2, i2⟩; have R2 := row_hid r2; have I2 := Lib.hid i2; obtain ⟨o, ho1, ho2⟩ := and_le X M1 hM4; have wo : IntKind.i64.wrap (o : Int) = o := (IntWalk.i64_in _ (by omega)); clear r2 i2 R1 I1)
      · obtain ⟨r, hr⟩ : ∃ r, o = l + r := ⟨o - l, by omega⟩
        have er : (o : Int) - (l : Int) = (r : Int) := by omega
        have hrl : r < l := by omega
        rw [er]
        obtain ⟨ar, har⟩ : ∃ x, x = a + r := ⟨_, rfl⟩
        have wr1 : IntKind.i64.wrap ((a : Int) + (r : Int)) = (ar : Int) := wrap_nat (by omega) (by omega)
        have ha1 : a ≤ ar ∧ ar < b := by have := HL.out; omega
        have bar : ar < n := by omega
        have P2 : Hid (PermIn a b d (swp e i ar)) := Lib.hid (perm_swap P1.out (by have := HS.out; omega) (by have := H2.out; omega) (by have := H2.out; omega) ha1.1 ha1.2)
        clear har P1

        obtain ⟨sx, hsx⟩ : ∃ s, s = e[i]! := ⟨_, rfl⟩
        obtain ⟨sy, hsy⟩ : ∃ s, s = e[ar]! := ⟨_, rfl⟩
        have csx := R2.out.cell i (by have := HS.out; omega)
        have csy := R2.out.cell ar (by have := HS.out; omega)
        have fsx := R2.out.frozen i (by have := HS.out; omega)
        have fsy := R2.out.frozen ar (by have := HS.out; omega)
        have R3 := row_hid (R2.out.swap i ar (by have := HS.out; omega) (by have := HS.out; omega))
        obtain ⟨u, cu⟩ := R2.out.c2 i ar (by have := HS.out; omega) (by have := HS.out; omega) sy
        rw [← hsx] at csx
        rw [← hsy] at csy
        rw [← hsx, ← hsy] at R3
        have I3 := Lib.hid ((I2.out.row i (.string sy)).row ar (.string sx))
        clear R2 I2 hsx hsy
        go_wp2_with fail
        go_big_region_o
        replace R3 := row_hid R3.out.drew
        replace I3 := Lib.hid I3.out.drew
        clear csx csy fsx fsy cu
        generalize ((w6.setCell ⟨g, i, none⟩ (.string sy)).setCell ⟨g, ar, none⟩ (.string sx)).drew = w7 at R3 I3 ⊢
        go_wp2
        go_roundw
        case rel => exact ⟨i + 1, swp e i ar, by omega, by omega, by go_num, R3, I3, P2, by rw [size_swp]; exact HS.out⟩
        case measure => simp [intOf] <;> omega
      · have hrl : o < l := by omega
        obtain ⟨ar, har⟩ : ∃ x, x = a + o := ⟨_, rfl⟩
        have wr1 : IntKind.i64.wrap ((a : Int) + (o : Int)) = (ar : Int) := wrap_nat (by omega) (by omega)
        have ha1 : a ≤ ar ∧ ar < b := by have := HL.out; omega
        have bar : ar < n := by omega
        have P2 : Hid (PermIn a b d (swp e i ar)) := Lib.hid (perm_swap P1.out (by have := HS.out; omega) (by have := H2.out; omega) (by have := H2.out; omega) ha1.1 ha1.2)
        clear har P1

        obtain ⟨sx, hsx⟩ : ∃ s, s = e[i]! := ⟨_, rfl⟩
        obtain ⟨sy, hsy⟩ : ∃ s, s = e[ar]! := ⟨_, rfl⟩
        have csx := R2.out.cell i (by have := HS.out; omega)
        have csy := R2.out.cell ar (by have := HS.out; omega)
        have fsx := R2.out.frozen i (by have := HS.out; omega)
        have fsy := R2.out.frozen ar (by have := HS.out; omega)
        have R3 := row_hid (R2.out.swap i ar (by have := HS.out; omega) (by have := HS.out; omega))
        obtain ⟨u, cu⟩ := R2.out.c2 i ar (by have := HS.out; omega) (by have := HS.out; omega) sy
        rw [← hsx] at csx
        rw [← hsy] at csy
        rw [← hsx, ← hsy] at R3
        have I3 := Lib.hid ((I2.out.row i (.string sy)).row ar (.string sx))
        clear R2 I2 hsx hsy
        go_wp2_with fail
        go_big_region_o
        replace R3 := row_hid R3.out.drew
        replace I3 := Lib.hid I3.out.drew
        clear csx csy fsx fsy cu
        generalize ((w6.setCell ⟨g, i, none⟩ (.string sy)).setCell ⟨g, ar, none⟩ (.string sx)).drew = w7 at R3 I3 ⊢
        go_wp2
        go_roundw
        case rel => exact ⟨i + 1, swp e i ar, by omega, by omega, by go_num, R3, I3, P2, by rw [size_swp]; exact HS.out⟩
        case measure => simp [intOf] <;> omega
    · go_wp2
      go_end0
      exact ⟨rfl, e, R1.out, hs1, P1.out⟩
end Go.Proofs.YtabcggmmdjeobaaDoor.srt
