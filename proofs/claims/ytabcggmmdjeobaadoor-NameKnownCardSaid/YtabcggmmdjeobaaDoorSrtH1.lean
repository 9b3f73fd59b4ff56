/-
  Sorting: sifting down (slices.siftDownCmpFunc at string).
-/
import Derived.Test.YtabcggmmdjeobaaDoorSrtK
namespace Go.Proofs.YtabcggmmdjeobaaDoor.srt
set_option linter.unusedVariables false
set_option linter.unusedSimpArgs false
open Go.RowKit
open kit s03
open Go.Sort (swp grow SWO PermIn SortedIn grow_empty grow_grow alloc_eq_grow size_swp siftDown)

theorem sift_end {lt : ByteArray → ByteArray → Bool} {hi f r : Nat} {d : Array ByteArray} (h : hi ≤ 2 * r + 1) : siftDown lt hi f r d = d := by
  rw [siftDown, dif_pos h]
theorem sift_right {lt : ByteArray → ByteArray → Bool} {hi f r : Nat} {d : Array ByteArray} (h : 2 * r + 2 < hi) (hl : lt d[f + (2 * r + 1)]! d[f + (2 * r + 2)]! = true) :
    siftDown lt hi f r d = if lt d[f + r]! d[f + (2 * r + 2)]! then siftDown lt hi f (2 * r + 2) (swp d (f + r) (f + (2 * r + 2))) else d := by
  rw [siftDown, dif_neg (by omega), if_pos (by
    rw [show f + (2 * r + 1) + 1 = f + (2 * r + 2) by omega, hl]; simp; omega)]
  cases lt d[f + r]! d[f + (2 * r + 2)]!
  · rfl
  · rw [if_neg (by simp), dif_pos h, if_pos rfl]
theorem sift_left {lt : ByteArray → ByteArray → Bool} {hi f r : Nat} {d : Array ByteArray} (h : 2 * r + 1 < hi) (hl : 2 * r + 2 < hi → lt d[f + (2 * r + 1)]! d[f + (2 * r + 2)]! = false) :
    siftDown lt hi f r d = if lt d[f + r]! d[f + (2 * r + 1)]! then siftDown lt hi f (2 * r + 1) (swp d (f + r) (f + (2 * r + 1))) else d := by
  rw [siftDown, dif_neg (by omega), if_neg (by
    rw [show f + (2 * r + 1) + 1 = f + (2 * r + 2) by omega]
    intro e
    simp only [Bool.and_eq_true, decide_eq_true_eq] at e
    rw [hl (by omega)] at e
    exact absurd e.2 (by decide))]
  cases lt d[f + r]! d[f + (2 * r + 1)]! <;> rfl

set_option maxRecDepth 100000 in
set_option maxHeartbeats 4000000 in
theorem sift_any (B g cap lo hi f : Nat) (w0 w : World) (d : Array ByteArray) (hlo : lo ≤ hi) (hb : f + hi ≤ d.size) (hsz : d.size ≤ 1000) (hR : RowS B g w0 d w) :
    Calls Tryd.prog 71 #[.slice (some ⟨g, 0, none⟩) d.size cap, .int .i64 (lo : Int), .int .i64 (hi : Int), .int .i64 (f : Int), .func (.func 44) #[.agg #[]] #[]] w fun e w' => e = .returned (.tuple #[]) ∧ RowS B g w0 (siftDown ltS hi f lo d) w' := by
  have mx := mixed
  have R0 := row_hid hR
  obtain ⟨n, hn⟩ : ∃ n, n = d.size := ⟨_, rfl⟩
  rw [← hn] at hb hsz ⊢
  have HN := Lib.hid hn
  clear hR hn
  go_enter Tryd.func71, Tryd.ntmps71
  go_wp2
  go_loopw [10] (fun v wr => ∃ (r : Nat) (dj : Array ByteArray), r ≤ hi ∧ v = .int .i64 r ∧ Hid (RowS B g w0 dj wr) ∧ Hid (siftDown ltS hi f r dj = siftDown ltS hi f lo d) ∧ dj.size = n) (fun v _ => hi - (intOf v).toNat)
  case atStart => exact ⟨lo, d, by omega, rfl, R0, Lib.hid rfl, HN.out.symm⟩
  case round =>
    obtain ⟨r, dj, hr, rfl, R1, H1, hs1⟩ := hrel
    clear R0
    obtain ⟨c, hc0⟩ : ∃ c, c = 2 * r + 1 := ⟨_, rfl⟩
    have w1 : IntKind.i64.wrap (2 * (r : Int)) = 2 * (r : Int) := IntWalk.i64_in _ (by omega)
    have w2 : IntKind.i64.wrap (2 * (r : Int) + 1) = (c : Int) := wrap_nat (by omega) (by omega)
    by_cases hch : hi ≤ c
    · have H2 : Hid (dj = siftDown ltS hi f lo d) := Lib.hid (by rw [← H1.out, sift_end (by omega)])
      clear H1 hc0
      go_wp2
      go_end0
      exact ⟨rfl, by rw [← H2.out]; exact R1.out⟩
    · obtain ⟨c', hc1⟩ : ∃ c', c' = c + 1 := ⟨_, rfl⟩
      obtain ⟨kr, hkr⟩ : ∃ k, k = f + r := ⟨_, rfl⟩
      obtain ⟨kc, hkc⟩ : ∃ k, k = f + c := ⟨_, rfl⟩
      obtain ⟨kd, hkd⟩ : ∃ k, k = f + c' := ⟨_, rfl⟩
      have w3 : IntKind.i64.wrap ((c : Int) + 1) = (c' : Int) := wrap_nat (by omega) (by omega)
      have w4 : IntKind.i64.wrap ((f : Int) + (r : Int)) = (kr : Int) := wrap_nat (by omega) (by omega)
      have w5 : IntKind.i64.wrap ((f : Int) + (c : Int)) = (kc : Int) := wrap_nat (by omega) (by omega)
      have w6 : IntKind.i64.wrap ((kc : Int) + 1) = (kd : Int) := wrap_nat (by omega) (by omega)
      have w7 : IntKind.i64.wrap ((f : Int) + (c' : Int)) = (kd : Int) := wrap_nat (by omega) (by omega)
      have brc : kr < n := by omega
      have bkc : kc < n := by omega
      have HC0 := Lib.hid hc0
      have HC1 := Lib.hid hc1
      have HKR := Lib.hid hkr
      have HKC := Lib.hid hkc
      have HKD := Lib.hid hkd
      by_cases h2 : c' < hi
      · have e0 : decide ((c' : Int) < (hi : Int)) = true := decide_eq_true (by omega)
        have bkd : kd < n := by omega
        obtain ⟨x1, hx1⟩ : ∃ s, s = dj[kc]! := ⟨_, rfl⟩
        obtain ⟨y1, hy1⟩ : ∃ s, s = dj[kd]! := ⟨_, rfl⟩
        obtain ⟨cv1, hcv⟩ : ∃ cv, cmpR x1.data.toList y1.data.toList = cv := ⟨_, rfl⟩
        by_cases hv1 : cv1 < 0
        · have HE : Hid (siftDown ltS hi f r dj = if ltS dj[kr]! dj[kd]! then siftDown ltS hi f c' (swp dj kr kd) else dj) := Lib.hid (by
            have hl : ltS dj[kc]! dj[kd]! = true := by rw [← hx1, ← hy1]; exact ltS_true (by rw [hcv]; exact hv1)
            rw [hkr, hkd, hc1, hc0] at *
            rw [hkc, hc0] at hl
            exact sift_right (by omega) hl)
          have hv1' : decide (cv1 < 0) = true := decide_eq_true hv1
          clear hc0 hc1 hkr hkc hkd
          have lx1 := R1.out.cells kc (by omega)
          have ly1 := R1.out.cells kd (by omega)
          rw [← hx1] at lx1
          rw [← hy1] at ly1
          have hc := fun n os => cmp_grown x1 y1 wr n os
          rw [hcv] at hc
          clear hx1 hy1 hcv
          go_wp2_with fail
          go_quiet_grown (first | (go_at_call 44; refine Calls.grown_of (hc _ _)))
          have R7 := row_hid (R1.out.grown nq osq)
          clear lx1 ly1 hc R1
          generalize grow (wr.drewN nq) osq = w7 at R7 ⊢
          clear nq osq
          obtain ⟨x, hx⟩ : ∃ s, s = dj[kr]! := ⟨_, rfl⟩
          obtain ⟨y, hy⟩ : ∃ s, s = dj[kd]! := ⟨_, rfl⟩
          obtain ⟨cv, hcv⟩ : ∃ cv, cmpR x.data.toList y.data.toList = cv := ⟨_, rfl⟩
          by_cases hv : cv < 0
          · have hl : ltS dj[kr]! dj[kd]! = true := by rw [← hx, ← hy]; exact ltS_true (by rw [hcv]; exact hv)
            have H3 : Hid (siftDown ltS hi f c' (swp dj kr kd) = siftDown ltS hi f lo d) := Lib.hid (by
              have := HE.out
              rw [hl, if_pos rfl] at this
              rw [← H1.out, this])
            have hv' : decide (cv < 0) = true := decide_eq_true hv
            have HD := Lib.hid hs1
            clear H1 HE hl
            have lx := R7.out.cells kr (by omega)
            have ly := R7.out.cells kd (by omega)
            rw [← hx] at lx
            rw [← hy] at ly
            have hc := fun n os => cmp_grown x y w7 n os
            rw [hcv] at hc
            clear hx hy hcv
            go_wp2_with fail
            go_quiet_grown (first | (go_at_call 44; refine Calls.grown_of (hc _ _)))
            have R8 := row_hid (R7.out.grown nq osq)
            clear lx ly hc R7
            generalize grow (w7.drewN nq) osq = w8 at R8 ⊢
            clear nq osq
            obtain ⟨sx, hsx⟩ : ∃ s, s = dj[kr]! := ⟨_, rfl⟩
            obtain ⟨sy, hsy⟩ : ∃ s, s = dj[kd]! := ⟨_, rfl⟩
            have csx := R8.out.cell kr (by omega)
            have csy := R8.out.cell kd (by omega)
            have fsx := R8.out.frozen kr (by omega)
            have fsy := R8.out.frozen kd (by omega)
            have R9 := row_hid (R8.out.swap kr kd (by omega) (by omega))
            obtain ⟨u, cu⟩ := R8.out.c2 kr kd (by omega) (by omega) sy
            rw [← hsx] at csx
            rw [← hsy] at csy
            rw [← hsx, ← hsy] at R9
            clear R8 hsx hsy
            go_wp2_with fail
            go_big_region_o
            replace R9 := row_hid R9.out.drew
            clear csx csy fsx fsy cu
            generalize ((w8.setCell ⟨g, kr, none⟩ (.string sy)).setCell ⟨g, kd, none⟩ (.string sx)).drew = w9 at R9 ⊢
            go_wp2
            go_roundw
            case rel => exact ⟨c', swp dj kr kd, by omega, rfl, R9, H3, by rw [size_swp]; exact HD.out⟩
            case measure => have := HC0.out; have := HC1.out; simp [intOf]; omega
          · have hl : ltS dj[kr]! dj[kd]! = false := by rw [← hx, ← hy]; exact ltS_false (by rw [hcv]; exact hv)
            have H3 : Hid (dj = siftDown ltS hi f lo d) := Lib.hid (by
              have := HE.out
              rw [hl, if_neg (by decide)] at this
              rw [← H1.out, this])
            have hv' : decide (cv < 0) = false := decide_eq_false hv
            clear H1 HE hl
            have lx := R7.out.cells kr (by omega)
            have ly := R7.out.cells kd (by omega)
            rw [← hx] at lx
            rw [← hy] at ly
            have hc := fun n os => cmp_grown x y w7 n os
            rw [hcv] at hc
            clear hx hy hcv
            go_wp2_with fail
            go_quiet_grown (first | (go_at_call 44; refine Calls.grown_of (hc _ _)))
            have R8 := row_hid (R7.out.grown nq osq)
            clear lx ly hc R7
            generalize grow (w7.drewN nq) osq = w8 at R8 ⊢
            clear nq osq
            go_wp2
            first
              | go_end0
              | (refine bodyPost_ret (results_none rfl _ _ _) rfl ?_)
            exact ⟨rfl, by rw [← H3.out]; exact R8.out⟩
        · have HE : Hid (siftDown ltS hi f r dj = if ltS dj[kr]! dj[kc]! then siftDown ltS hi f c (swp dj kr kc) else dj) := Lib.hid (by
            have hl : ltS dj[kc]! dj[kd]! = false := by rw [← hx1, ← hy1]; exact ltS_false (by rw [hcv]; exact hv1)
            rw [hkr, hkc, hc0]
            rw [hkc, hkd, hc1, hc0] at hl
            exact sift_left (by omega) (fun _ => hl))
          have hv1' : decide (cv1 < 0) = false := decide_eq_false hv1
          clear hc0 hc1 hkr hkc hkd
          have lx1 := R1.out.cells kc (by omega)
          have ly1 := R1.out.cells kd (by omega)
          rw [← hx1] at lx1
          rw [← hy1] at ly1
          have hc := fun n os => cmp_grown x1 y1 wr n os
          rw [hcv] at hc
          clear hx1 hy1 hcv
          go_wp2_with fail
          go_quiet_grown (first | (go_at_call 44; refine Calls.grown_of (hc _ _)))
          have R7 := row_hid (R1.out.grown nq osq)
          clear lx1 ly1 hc R1
          generalize grow (wr.drewN nq) osq = w7 at R7 ⊢
          clear nq osq
          obtain ⟨x, hx⟩ : ∃ s, s = dj[kr]! := ⟨_, rfl⟩
          obtain ⟨y, hy⟩ : ∃ s, s = dj[kc]! := ⟨_, rfl⟩
          obtain ⟨cv, hcv⟩ : ∃ cv, cmpR x.data.toList y.data.toList = cv := ⟨_, rfl⟩
          by_cases hv : cv < 0
          · have hl : ltS dj[kr]! dj[kc]! = true := by rw [← hx, ← hy]; exact ltS_true (by rw [hcv]; exact hv)
            have H3 : Hid (siftDown ltS hi f c (swp dj kr kc) = siftDown ltS hi f lo d) := Lib.hid (by
              have := HE.out
              rw [hl, if_pos rfl] at this
              rw [← H1.out, this])
            have hv' : decide (cv < 0) = true := decide_eq_true hv
            have HD := Lib.hid hs1
            clear H1 HE hl
            have lx := R7.out.cells kr (by omega)
            have ly := R7.out.cells kc (by omega)
            rw [← hx] at lx
            rw [← hy] at ly
            have hc := fun n os => cmp_grown x y w7 n os
            rw [hcv] at hc
            clear hx hy hcv
            go_wp2_with fail
            go_quiet_grown (first | (go_at_call 44; refine Calls.grown_of (hc _ _)))
            have R8 := row_hid (R7.out.grown nq osq)
            clear lx ly hc R7
            generalize grow (w7.drewN nq) osq = w8 at R8 ⊢
            clear nq osq
            obtain ⟨sx, hsx⟩ : ∃ s, s = dj[kr]! := ⟨_, rfl⟩
            obtain ⟨sy, hsy⟩ : ∃ s, s = dj[kc]! := ⟨_, rfl⟩
            have csx := R8.out.cell kr (by omega)
            have csy := R8.out.cell kc (by omega)
            have fsx := R8.out.frozen kr (by omega)
            have fsy := R8.out.frozen kc (by omega)
            have R9 := row_hid (R8.out.swap kr kc (by omega) (by omega))
            obtain ⟨u, cu⟩ := R8.out.c2 kr kc (by omega) (by omega) sy
            rw [← hsx] at csx
            rw [← hsy] at csy
            rw [← hsx, ← hsy] at R9
            clear R8 hsx hsy
            go_wp2_with fail
            go_big_region_o
            replace R9 := row_hid R9.out.drew
            clear csx csy fsx fsy cu
            generalize ((w8.setCell ⟨g, kr, none⟩ (.string sy)).setCell ⟨g, kc, none⟩ (.string sx)).drew = w9 at R9 ⊢
            go_wp2
            go_roundw
            case rel => exact ⟨c, swp dj kr kc, by omega, rfl, R9, H3, by rw [size_swp]; exact HD.out⟩
            case measure => have := HC0.out; have := HC1.out; simp [intOf]; omega
          · have hl : ltS dj[kr]! dj[kc]! = false := by rw [← hx, ← hy]; exact ltS_false (by rw [hcv]; exact hv)
            have H3 : Hid (dj = siftDown ltS hi f lo d) := Lib.hid (by
              have := HE.out
              rw [hl, if_neg (by decide)] at this
              rw [← H1.out, this])
            have hv' : decide (cv < 0) = false := decide_eq_false hv
            clear H1 HE hl
            have lx := R7.out.cells kr (by omega)
            have ly := R7.out.cells kc (by omega)
            rw [← hx] at lx
            rw [← hy] at ly
            have hc := fun n os => cmp_grown x y w7 n os
            rw [hcv] at hc
            clear hx hy hcv
            go_wp2_with fail
            go_quiet_grown (first | (go_at_call 44; refine Calls.grown_of (hc _ _)))
            have R8 := row_hid (R7.out.grown nq osq)
            clear lx ly hc R7
            generalize grow (w7.drewN nq) osq = w8 at R8 ⊢
            clear nq osq
            go_wp2
            first
              | go_end0
              | (refine bodyPost_ret (results_none rfl _ _ _) rfl ?_)
            exact ⟨rfl, by rw [← H3.out]; exact R8.out⟩
      · have e0 : decide ((c' : Int) < (hi : Int)) = false := decide_eq_false (by omega)
        have HE : Hid (siftDown ltS hi f r dj = if ltS dj[kr]! dj[kc]! then siftDown ltS hi f c (swp dj kr kc) else dj) := Lib.hid (by
          rw [hkr, hkc, hc0]
          exact sift_left (by omega) (fun h => by omega))
        clear hc0 hc1 hkr hkc hkd
        go_wp2_with fail
        go_big_region_o
        have R7 := row_hid R1.out.drew
        clear R1
        generalize wr.drew = w7 at R7 ⊢
        obtain ⟨x, hx⟩ : ∃ s, s = dj[kr]! := ⟨_, rfl⟩
        obtain ⟨y, hy⟩ : ∃ s, s = dj[kc]! := ⟨_, rfl⟩
        obtain ⟨cv, hcv⟩ : ∃ cv, cmpR x.data.toList y.data.toList = cv := ⟨_, rfl⟩
        by_cases hv : cv < 0
        · have hl : ltS dj[kr]! dj[kc]! = true := by rw [← hx, ← hy]; exact ltS_true (by rw [hcv]; exact hv)
          have H3 : Hid (siftDown ltS hi f c (swp dj kr kc) = siftDown ltS hi f lo d) := Lib.hid (by
            have := HE.out
            rw [hl, if_pos rfl] at this
            rw [← H1.out, this])
          have hv' : decide (cv < 0) = true := decide_eq_true hv
          have HD := Lib.hid hs1
          clear H1 HE hl
          have lx := R7.out.cells kr (by omega)
          have ly := R7.out.cells kc (by omega)
          rw [← hx] at lx
          rw [← hy] at ly
          have hc := fun n os => cmp_grown x y w7 n os
          rw [hcv] at hc
          clear hx hy hcv
          go_wp2_with fail
          go_quiet_grown (first | (go_at_call 44; refine Calls.grown_of (hc _ _)))
          have R8 := row_hid (R7.out.grown nq osq)
          clear lx ly hc R7
          generalize grow (w7.drewN nq) osq = w8 at R8 ⊢
          clear nq osq
          obtain ⟨sx, hsx⟩ : ∃ s, s = dj[kr]! := ⟨_, rfl⟩
          obtain ⟨sy, hsy⟩ : ∃ s, s = dj[kc]! := ⟨_, rfl⟩
          have csx := R8.out.cell kr (by omega)
          have csy := R8.out.cell kc (by omega)
          have fsx := R8.out.frozen kr (by omega)
          have fsy := R8.out.frozen kc (by omega)
          have R9 := row_hid (R8.out.swap kr kc (by omega) (by omega))
          obtain ⟨u, cu⟩ := R8.out.c2 kr kc (by omega) (by omega) sy
          rw [← hsx] at csx
          rw [← hsy] at csy
          rw [← hsx, ← hsy] at R9
          clear R8 hsx hsy
          go_wp2_with fail
          go_big_region_o
          replace R9 := row_hid R9.out.drew
          clear csx csy fsx fsy cu
          generalize ((w8.setCell ⟨g, kr, none⟩ (.string sy)).setCell ⟨g, kc, none⟩ (.string sx)).drew = w9 at R9 ⊢
          go_wp2
          go_roundw
          case rel => exact ⟨c, swp dj kr kc, by omega, rfl, R9, H3, by rw [size_swp]; exact HD.out⟩
          case measure => have := HC0.out; have := HC1.out; simp [intOf]; omega
        · have hl : ltS dj[kr]! dj[kc]! = false := by rw [← hx, ← hy]; exact ltS_false (by rw [hcv]; exact hv)
          have H3 : Hid (dj = siftDown ltS hi f lo d) := Lib.hid (by
            have := HE.out
            rw [hl, if_neg (by decide)] at this
            rw [← H1.out, this])
          have hv' : decide (cv < 0) = false := decide_eq_false hv
          clear H1 HE hl
          have lx := R7.out.cells kr (by omega)
          have ly := R7.out.cells kc (by omega)
          rw [← hx] at lx
          rw [← hy] at ly
          have hc := fun n os => cmp_grown x y w7 n os
          rw [hcv] at hc
          clear hx hy hcv
          go_wp2_with fail
          go_quiet_grown (first | (go_at_call 44; refine Calls.grown_of (hc _ _)))
          have R8 := row_hid (R7.out.grown nq osq)
          clear lx ly hc R7
          generalize grow (w7.drewN nq) osq = w8 at R8 ⊢
          clear nq osq
          go_wp2
          first
            | go_end0
            | (refine bodyPost_ret (results_none rfl _ _ _) rfl ?_)
          exact ⟨rfl, by rw [← H3.out]; exact R8.out⟩
end Go.Proofs.YtabcggmmdjeobaaDoor.srt
