/-
  Sorting: the insertion sort (slices.insertionSortCmpFunc at string).
-/
import Derived.Test.YtabcggmmdjeobaaDoorSrtK
namespace Go.Proofs.YtabcggmmdjeobaaDoor.srt
set_option linter.unusedVariables false
set_option linter.unusedSimpArgs false
open Go.RowKit
open kit s03
open Go.Sort (swp grow SWO PermIn SortedIn insInner insOuter insertionSort grow_empty grow_grow alloc_eq_grow size_swp)

theorem insOuter_go {lt : ByteArray → ByteArray → Bool} {a b i : Nat} {d : Array ByteArray} (h : i < b) : insOuter lt a b i d = insOuter lt a b (i + 1) (insInner lt a i d) := by
  rw [insOuter, if_pos h]
theorem insOuter_end {lt : ByteArray → ByteArray → Bool} {a b i : Nat} {d : Array ByteArray} (h : ¬ i < b) : insOuter lt a b i d = d := by
  rw [insOuter, if_neg h]
theorem insInner_on {lt : ByteArray → ByteArray → Bool} {a p : Nat} {d : Array ByteArray} (h1 : a < p + 1) (h2 : lt d[p + 1]! d[p]! = true) : insInner lt a (p + 1) d = insInner lt a p (swp d (p + 1) p) := by
  rw [insInner, if_pos (by simp [h2]; omega)]
theorem insInner_lt {lt : ByteArray → ByteArray → Bool} {a p : Nat} {d : Array ByteArray} (h2 : lt d[p + 1]! d[p]! = false) : insInner lt a (p + 1) d = d := by
  rw [insInner, if_neg (by simp [h2])]
theorem insInner_at {lt : ByteArray → ByteArray → Bool} {a : Nat} {d : Array ByteArray} : insInner lt a a d = d := by
  cases a with
  | zero => rfl
  | succ a => rw [insInner, if_neg (by simp)]

set_option maxRecDepth 100000 in
set_option maxHeartbeats 2000000 in
theorem ins_any (B g cap a b : Nat) (w0 w : World) (d : Array ByteArray) (hab : a ≤ b) (hb : b ≤ d.size) (hsz : d.size ≤ 1000) (hR : RowS B g w0 d w) :
    Calls Tryd.prog 59 #[.slice (some ⟨g, 0, none⟩) d.size cap, .int .i64 (a : Int), .int .i64 (b : Int), .func (.func 44) #[.agg #[]] #[]] w fun e w' => e = .returned (.tuple #[]) ∧ RowS B g w0 (insertionSort ltS d a b) w' := by
  have mx := mixed
  have R0 := row_hid hR
  obtain ⟨n, hn⟩ : ∃ n, n = d.size := ⟨_, rfl⟩
  rw [← hn] at hb hsz ⊢
  have HN := Lib.hid hn
  clear hR hn
  go_enter Tryd.func59, Tryd.ntmps59
  go_wp2
  go_loopw [8] (fun v wr => ∃ (i : Nat) (di : Array ByteArray), a < i ∧ i ≤ b + 1 ∧ v = .int .i64 i ∧ Hid (RowS B g w0 di wr) ∧ Hid (insOuter ltS a b i di = insertionSort ltS d a b) ∧ di.size = n) (fun v _ => b - (intOf v).toNat)
  case atStart => exact ⟨a + 1, d, by omega, by omega, by go_num, R0, Lib.hid rfl, HN.out.symm⟩
  case round =>
    obtain ⟨i, di, hi1, hi2, rfl, R1, H1, hs1⟩ := hrel
    by_cases hlt : i < b
    · have H1 : Hid (insOuter ltS a b (i + 1) (insInner ltS a i di) = insertionSort ltS d a b) := Lib.hid (by rw [← insOuter_go hlt]; exact H1.out)
      have HS1 := Lib.hid hs1
      clear hs1
      obtain ⟨wo, rfl⟩ : ∃ wo : World, wo = wr := ⟨_, rfl⟩
      go_wp2
      go_loopw [9] (fun v wr => ∃ (j : Nat) (dj : Array ByteArray), a ≤ j ∧ j ≤ i ∧ v = .int .i64 j ∧ Hid (RowS B g w0 dj wr) ∧ Hid (insOuter ltS a b (i + 1) (insInner ltS a j dj) = insertionSort ltS d a b) ∧ dj.size = n) (fun v _ => (intOf v).toNat)
      case atStart => exact ⟨i, di, by omega, by omega, rfl, R1, H1, HS1.out⟩
      case round =>
        obtain ⟨j, dj, hj1, hj2, rfl, R2, H2, hs2⟩ := hrel
        clear R1 H1 HS1 R0
        by_cases haj : a < j
        · obtain ⟨p, rfl⟩ : ∃ p, j = p + 1 := ⟨j - 1, by omega⟩
          have e0 : decide ((a : Int) < ((p + 1 : Nat) : Int)) = true := decide_eq_true (by omega)
          obtain ⟨j, hj⟩ : ∃ j, j = p + 1 := ⟨_, rfl⟩
          have e1 : IntKind.i64.wrap ((j : Int) - 1) = (p : Int) := by rw [show (j : Int) - 1 = p by omega]; exact IntWalk.i64_in _ (by omega)
          have hjn : j < n := by omega
          have hpn : p < n := by omega
          obtain ⟨x, hx⟩ : ∃ s, s = dj[j]! := ⟨_, rfl⟩
          obtain ⟨y, hy⟩ : ∃ s, s = dj[p]! := ⟨_, rfl⟩
          obtain ⟨cv, hcv⟩ : ∃ cv, cmpR x.data.toList y.data.toList = cv := ⟨_, rfl⟩
          by_cases hv : cv < 0
          · have hl : ltS dj[p + 1]! dj[p]! = true := by rw [← hj, ← hx, ← hy]; exact ltS_true (by rw [hcv]; exact hv)
            have H3 : Hid (insOuter ltS a b (i + 1) (insInner ltS a p (swp dj (p + 1) p)) = insertionSort ltS d a b) := Lib.hid (by rw [← insInner_on haj hl]; exact H2.out)
            have hv' : decide (cv < 0) = true := decide_eq_true hv
            rw [← hj] at e0 hj1 hj2 haj ⊢
            have HJ := Lib.hid hj
            have HD := Lib.hid hs2
            clear H2 hl hj
            have lx := R2.out.cells j (by omega)
            have ly := R2.out.cells p (by omega)
            rw [← hx] at lx
            rw [← hy] at ly
            have hc := fun n os => cmp_grown x y wr n os
            rw [hcv] at hc
            clear hx hy hcv
            go_wp2_with fail
            go_quiet_grown (first | (go_at_call 44; refine Calls.grown_of (hc _ _)))
            have R4 := row_hid (R2.out.grown nq osq)
            clear lx ly hc R2
            generalize grow (wr.drewN nq) osq = w4 at R4 ⊢
            clear nq osq
            obtain ⟨sx, hsx⟩ : ∃ s, s = dj[j]! := ⟨_, rfl⟩
            obtain ⟨sy, hsy⟩ : ∃ s, s = dj[p]! := ⟨_, rfl⟩
            have csx := R4.out.cell j (by omega)
            have csy := R4.out.cell p (by omega)
            have fsx := R4.out.frozen j (by omega)
            have fsy := R4.out.frozen p (by omega)
            have R5 := row_hid (R4.out.swap j p (by omega) (by omega))
            obtain ⟨u, cu⟩ := R4.out.c2 j p (by omega) (by omega) sy
            rw [← hsx] at csx
            rw [← hsy] at csy
            rw [← hsx, ← hsy] at R5
            clear R4 hsx hsy
            go_wp2_with fail
            go_big_region_o
            replace R5 := row_hid R5.out.drew
            clear csx csy fsx fsy cu
            generalize ((w4.setCell ⟨g, j, none⟩ (.string sy)).setCell ⟨g, p, none⟩ (.string sx)).drew = w5 at R5 ⊢
            go_wp2
            go_roundw
            case rel => exact ⟨p, swp dj j p, by have := HJ.out; omega, by have := HJ.out; omega, rfl, R5, by rw [HJ.out]; exact H3, by rw [size_swp]; exact HD.out⟩
            case measure => have := HJ.out; simp [intOf]; omega
          · have hl : ltS dj[p + 1]! dj[p]! = false := by rw [← hj, ← hx, ← hy]; exact ltS_false (by rw [hcv]; exact hv)
            have H3 : Hid (insOuter ltS a b (i + 1) dj = insertionSort ltS d a b) := Lib.hid (by rw [← H2.out, insInner_lt hl])
            have hv' : decide (cv < 0) = false := decide_eq_false hv
            rw [← hj] at e0 hj1 hj2 haj ⊢
            have HD := Lib.hid hs2
            clear H2 hl hj
            have lx := R2.out.cells j (by omega)
            have ly := R2.out.cells p (by omega)
            rw [← hx] at lx
            rw [← hy] at ly
            have hc := fun n os => cmp_grown x y wr n os
            rw [hcv] at hc
            clear hx hy hcv
            go_wp2_with fail
            go_quiet_grown (first | (go_at_call 44; refine Calls.grown_of (hc _ _)))
            have R4 := row_hid (R2.out.grown nq osq)
            clear lx ly hc R2
            generalize grow (wr.drewN nq) osq = w4 at R4 ⊢
            clear nq osq
            go_wp2
            go_roundw
            case rel => exact ⟨i + 1, dj, by omega, by omega, by go_num, R4, H3, HD.out⟩
            case measure => simp [intOf]; omega
        · have e0 : decide ((a : Int) < (j : Int)) = false := decide_eq_false (by omega)
          have hja : j = a := by omega
          have H3 : Hid (insOuter ltS a b (i + 1) dj = insertionSort ltS d a b) := Lib.hid (by rw [← H2.out, hja, insInner_at])
          have HD := Lib.hid hs2
          clear H2 hja
          go_wp2_with fail
          go_big_region_o
          have R4 := row_hid R2.out.drew
          clear R2
          generalize wr.drew = w4 at R4 ⊢
          go_wp2
          go_roundw
          case rel => exact ⟨i + 1, dj, by omega, by omega, by go_num, R4, H3, HD.out⟩
          case measure => simp [intOf]; omega
    · have H3 : Hid (di = insertionSort ltS d a b) := Lib.hid (by rw [← H1.out, insOuter_end hlt])
      clear H1
      go_wp2
      go_end0
      exact ⟨rfl, by rw [← H3.out]; exact R1.out⟩
end Go.Proofs.YtabcggmmdjeobaaDoor.srt
