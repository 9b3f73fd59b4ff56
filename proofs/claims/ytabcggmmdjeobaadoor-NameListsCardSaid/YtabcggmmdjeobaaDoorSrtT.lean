/-
  Sorting: the try whether a part is sorted (slices.partialInsertionSortCmpFunc at string, below 50 elements).
-/
import Derived.Test.YtabcggmmdjeobaaDoorSrtR
namespace Go.Proofs.YtabcggmmdjeobaaDoor.srt
set_option linter.unusedVariables false
set_option linter.unusedSimpArgs false
open Go.RowKit
open kit s03
open Go.Sort (swp grow SWO PermIn SortedIn grow_empty grow_grow alloc_eq_grow size_swp)
set_option maxRecDepth 100000 in
set_option maxHeartbeats 4000000 in
theorem partial_any (B g cap a b : Nat) (w0 w : World) (d : Array ByteArray) (hab : a < b) (hb : b ≤ d.size) (h50 : b < a + 50) (hsz : d.size ≤ 1000) (hR : RowS B g w0 d w) :
    Calls Tryd.prog 64 #[.slice (some ⟨g, 0, none⟩) d.size cap, .int .i64 (a : Int), .int .i64 (b : Int), .func (.func 44) #[.agg #[]] #[]] w fun e w' => ∃ r : Bool, e = .returned (.bool r) ∧ RowS B g w0 d w' ∧ (r = true → SortedIn ltS a b d) := by
  have mx := mixed
  have R0 := row_hid hR
  obtain ⟨n, hn⟩ : ∃ n, n = d.size := ⟨_, rfl⟩
  rw [← hn] at hb hsz ⊢
  have HN := Lib.hid hn
  clear hR hn
  obtain ⟨l, hl⟩ : ∃ l, b = a + l := ⟨b - a, by omega⟩
  have wl : IntKind.i64.wrap ((b : Int) - (a : Int)) = (l : Int) := wrap_nat (by omega) (by omega)
  have hl50 : l < 50 := by omega
  clear hl
  go_enter Tryd.func64, Tryd.ntmps64
  go_wp2
  go_loopw [9, 10] (fun u v wr => u = .int .i64 ((a : Int) + 1) ∧ v = .int .i64 0 ∧ Hid (RowS B g w0 d wr)) (fun _ _ _ => 0)
  case atStart => exact ⟨by go_num, rfl, R0⟩
  case round =>
    obtain ⟨rfl, rfl, R1⟩ := hrel
    clear R0
    obtain ⟨wo, rfl⟩ : ∃ wo : World, wo = wr := ⟨_, rfl⟩
    go_wp2
    go_loopw [9] (fun u wr => ∃ i : Nat, a < i ∧ i ≤ b ∧ u = .int .i64 i ∧ Hid (RowS B g w0 d wr) ∧ Hid (SortedIn ltS a i d)) (fun u _ => b - (intOf u).toNat)
    case atStart => exact ⟨a + 1, by omega, by omega, by go_num, R1, Lib.hid (fun i j h1 h2 h3 => by omega)⟩
    case round =>
      obtain ⟨i, h1, h2, rfl, R2, S2⟩ := hrel
      clear R1
      by_cases hib : i < b
      · obtain ⟨p, hp⟩ : ∃ p, i = p + 1 := ⟨i - 1, by omega⟩
        have e0 : decide ((i : Int) < (b : Int)) = true := decide_eq_true (by omega)
        have e1 : IntKind.i64.wrap ((i : Int) - 1) = (p : Int) := wrap_nat (by omega) (by omega)
        have hin : i < n := by omega
        have hpn : p < n := by omega
        obtain ⟨x, hx⟩ : ∃ s, s = d[i]! := ⟨_, rfl⟩
        obtain ⟨y, hy⟩ : ∃ s, s = d[p]! := ⟨_, rfl⟩
        obtain ⟨cv, hcv⟩ : ∃ cv, cmpR x.data.toList y.data.toList = cv := ⟨_, rfl⟩
        have hpi : i - 1 = p := by omega
        by_cases hv : cv < 0
        · have hv' : decide (cv < 0) = true := decide_eq_true hv
          have hne : ((i : Int) == (b : Int)) = false := by rw [beq_eq_false_iff_ne]; omega
          clear hp hpi S2
          have lx := R2.out.cells i (by have := HN.out; omega)
          have ly := R2.out.cells p (by have := HN.out; omega)
          rw [← hx] at lx
          rw [← hy] at ly
          have hc := fun n os => cmp_grown x y wr n os
          rw [hcv] at hc
          clear hx hy hcv
          go_wp2_with fail
          go_quiet_grown (first | (go_at_call 44; refine Calls.grown_of (hc _ _)))
          have R4 := row_hid (R2.out.grown nq osq)
          clear lx ly hc R2
          generalize grow (wr.drewN nq) osq = w4 at R4 ⊢
          clear nq osq
          go_wp2
          go_ret
          exact ⟨false, rfl, R4.out, fun h => by cases h⟩
        · have hl2 : ltS d[i]! d[i - 1]! = false := by rw [hpi, ← hx, ← hy]; exact ltS_false (by rw [hcv]; exact hv)
          have S3 := Lib.hid (S2.out.snoc swoS hl2)
          have hv' : decide (cv < 0) = false := decide_eq_false hv
          clear hp hpi S2 hl2
          have lx := R2.out.cells i (by have := HN.out; omega)
          have ly := R2.out.cells p (by have := HN.out; omega)
          rw [← hx] at lx
          rw [← hy] at ly
          have hc := fun n os => cmp_grown x y wr n os
          rw [hcv] at hc
          clear hx hy hcv
          go_wp2_with fail
          go_quiet_grown (first | (go_at_call 44; refine Calls.grown_of (hc _ _)))
          have R4 := row_hid (R2.out.grown nq osq)
          clear lx ly hc R2
          generalize grow (wr.drewN nq) osq = w4 at R4 ⊢
          clear nq osq
          go_wp2
          go_roundw
          case rel => exact ⟨i + 1, by omega, by omega, by go_num, R4, S3⟩
          case measure => simp [intOf] <;> omega
      · have e0 : decide ((i : Int) < (b : Int)) = false := decide_eq_false (by omega)
        obtain rfl : i = b := by omega
        clear h2 hib
        go_wp2_with fail
        go_big_region_o
        have R4 := row_hid R2.out.drew
        clear R2
        generalize wr.drew = w4 at R4 ⊢
        go_wp2
        go_ret
        exact ⟨true, rfl, R4.out, fun _ => S2.out⟩
end Go.Proofs.YtabcggmmdjeobaaDoor.srt
