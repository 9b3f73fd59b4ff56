/-
  Sorting: turning a part round (slices.reverseRangeCmpFunc at string).
-/
import Derived.Test.YtabcggmmdjeobaaDoorSrtK
namespace Go.Proofs.YtabcggmmdjeobaaDoor.srt
set_option linter.unusedVariables false
set_option linter.unusedSimpArgs false
open Go.RowKit
open kit s03
open Go.Sort (swp grow SWO PermIn SortedIn grow_empty grow_grow alloc_eq_grow size_swp)

theorem perm_swap {a b i j : Nat} {d e : Array ByteArray} (h : PermIn a b d e) (hb : b ≤ e.size) (h1 : a ≤ i) (h2 : i < b) (h3 : a ≤ j) (h4 : j < b) : PermIn a b d (swp e i j) :=
  Go.Sort.permIn_trans _ _ _ _ _ h (Go.Sort.swp_permIn e a b i j h1 h2 h3 h4 hb)
set_option maxRecDepth 100000 in
set_option maxHeartbeats 4000000 in
theorem rev_any (B g cap a b : Nat) (w0 w : World) (d : Array ByteArray) (hab : a < b) (hb : b ≤ d.size) (hsz : d.size ≤ 1000) (hR : RowS B g w0 d w) :
    Calls Tryd.prog 63 #[.slice (some ⟨g, 0, none⟩) d.size cap, .int .i64 (a : Int), .int .i64 (b : Int), .func (.func 44) #[.agg #[]] #[]] w fun e w' => e = .returned (.tuple #[]) ∧ ∃ d', RowS B g w0 d' w' ∧ d'.size = d.size ∧ PermIn a b d d' := by
  have mx := mixed
  have R0 := row_hid hR
  obtain ⟨n, hn⟩ : ∃ n, n = d.size := ⟨_, rfl⟩
  rw [← hn] at hb hsz ⊢
  have HN := Lib.hid hn
  clear hR hn
  obtain ⟨z, hz⟩ : ∃ z, b = z + 1 := ⟨b - 1, by omega⟩
  have w1 : IntKind.i64.wrap ((b : Int) - 1) = (z : Int) := wrap_nat (by omega) (by omega)
  have HZ := Lib.hid hz
  have haz : a ≤ z := by omega
  clear hz
  go_enter Tryd.func63, Tryd.ntmps63
  go_wp2
  go_loopw [8, 9] (fun u v wr => ∃ (i j : Nat) (e : Array ByteArray), a ≤ i ∧ a ≤ j + 1 ∧ j < b ∧ i ≤ j + 2 ∧ u = .int .i64 i ∧ v = .int .i64 j ∧ Hid (RowS B g w0 e wr) ∧ Hid (PermIn a b d e) ∧ e.size = n) (fun u v _ => (intOf v).toNat + 2 - (intOf u).toNat)
  case atStart => exact ⟨a, z, d, by omega, by omega, by have := HZ.out; omega, by omega, rfl, rfl, R0, Lib.hid (Go.Sort.permIn_refl _ _ _), HN.out.symm⟩
  case round =>
    obtain ⟨i, j, e, h1, h2, h3, h4, rfl, rfl, R1, H1, hs1⟩ := hrel
    clear R0
    by_cases hlt : i < j
    · have hin : i < n := by omega
      have hjn : j < n := by omega
      have H2 : Hid (PermIn a b d (swp e i j)) := Lib.hid (perm_swap H1.out (by omega) (by omega) (by omega) (by omega) (by omega))
      obtain ⟨q, hq⟩ : ∃ q, j = q + 1 := ⟨j - 1, by omega⟩
      have w2 : IntKind.i64.wrap ((j : Int) - 1) = (q : Int) := wrap_nat (by omega) (by omega)
      have HQ := Lib.hid hq
      have HD := Lib.hid hs1
      clear hq H1
      obtain ⟨sx, hsx⟩ : ∃ s, s = e[i]! := ⟨_, rfl⟩
      obtain ⟨sy, hsy⟩ : ∃ s, s = e[j]! := ⟨_, rfl⟩
      have csx := R1.out.cell i (by omega)
      have csy := R1.out.cell j (by omega)
      have fsx := R1.out.frozen i (by omega)
      have fsy := R1.out.frozen j (by omega)
      have R3 := row_hid (R1.out.swap i j (by omega) (by omega))
      obtain ⟨u, cu⟩ := R1.out.c2 i j (by omega) (by omega) sy
      rw [← hsx] at csx
      rw [← hsy] at csy
      rw [← hsx, ← hsy] at R3
      clear R1 hsx hsy
      go_wp2_with fail
      go_big_region_o
      replace R3 := row_hid R3.out.drew
      clear csx csy fsx fsy cu
      generalize ((wr.setCell ⟨g, i, none⟩ (.string sy)).setCell ⟨g, j, none⟩ (.string sx)).drew = w3 at R3 ⊢
      go_wp2
      go_roundw
      case rel => exact ⟨i + 1, q, swp e i j, by omega, by have := HQ.out; omega, by have := HQ.out; omega, by have := HQ.out; omega, by go_num, rfl, R3, H2, by rw [size_swp]; exact HD.out⟩
      case measure => have := HQ.out; simp [intOf]; omega
    · have HD := Lib.hid hs1
      clear hs1
      go_wp2
      go_end0
      exact ⟨rfl, e, R1.out, HD.out, H1.out⟩
end Go.Proofs.YtabcggmmdjeobaaDoor.srt
