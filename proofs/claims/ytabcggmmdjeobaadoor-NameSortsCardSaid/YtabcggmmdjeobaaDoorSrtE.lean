/-
  Sorting: the partition into equal ones and greater ones (slices.partitionEqualCmpFunc at string).
-/
import Derived.Test.YtabcggmmdjeobaaDoorSrtV
namespace Go.Proofs.YtabcggmmdjeobaaDoor.srt
set_option linter.unusedVariables false
set_option linter.unusedSimpArgs false
open Go.RowKit
open kit s03
open Go.Sort (swp grow SWO PermIn SortedIn grow_empty grow_grow alloc_eq_grow size_swp)
set_option maxRecDepth 100000 in
set_option maxHeartbeats 4000000 in
theorem parteq_any (B g cap a b v : Nat) (w0 w : World) (d : Array ByteArray) (hav : a ≤ v) (hvb : v < b) (hb : b ≤ d.size) (hsz : d.size ≤ 1000) (hR : RowS B g w0 d w) :
    Calls Tryd.prog 65 #[.slice (some ⟨g, 0, none⟩) d.size cap, .int .i64 (a : Int), .int .i64 (b : Int), .int .i64 (v : Int), .func (.func 44) #[.agg #[]] #[]] w fun e w' => ∃ (m : Nat) (e' : Array ByteArray), e = .returned (.int .i64 (m : Int)) ∧ RowS B g w0 e' w' ∧ PartedEq d e' d[v]! a b m := by
  have mx := mixed
  have R0 := row_hid hR
  obtain ⟨n, hn⟩ : ∃ n, n = d.size := ⟨_, rfl⟩
  have HB := Lib.hid hb
  rw [← hn] at hb hsz ⊢
  have HN := Lib.hid hn
  obtain ⟨z, hz⟩ : ∃ z, b = z + 1 := ⟨b - 1, by omega⟩
  have wz : IntKind.i64.wrap ((b : Int) - 1) = (z : Int) := wrap_nat (by omega) (by omega)
  obtain ⟨a1, ha1⟩ : ∃ q, q = a + 1 := ⟨_, rfl⟩
  have wa : IntKind.i64.wrap ((a : Int) + 1) = (a1 : Int) := wrap_nat (by omega) (by omega)
  have haz : a ≤ z := by omega
  have hzb : z < b := by omega
  have ban : a < n := by omega
  have bvn : v < n := by omega
  have ha2 : a < a1 := by omega
  have ha3 : a1 ≤ z + 1 := by omega
  obtain ⟨P, hP⟩ : ∃ s, s = d[v]! := ⟨_, rfl⟩
  have V0 := Lib.hid (inv_start (fun x => !ltS P x) HB.out hav hvb hz)
  rw [← hP, ← ha1] at V0
  rw [← hP]
  clear hR hn hP hz ha1
  go_enter Tryd.func65, Tryd.ntmps65
  have hsd : d.size = n := HN.out.symm
  have HSD := Lib.hid hsd
  clear hsd
  obtain ⟨sx, hsx⟩ : ∃ s, s = d[a]! := ⟨_, rfl⟩
  obtain ⟨sy, hsy⟩ : ∃ s, s = d[v]! := ⟨_, rfl⟩
  have csx := R0.out.cell a (by have := HSD.out; omega)
  have csy := R0.out.cell v (by have := HSD.out; omega)
  have fsx := R0.out.frozen a (by have := HSD.out; omega)
  have fsy := R0.out.frozen v (by have := HSD.out; omega)
  have RA := row_hid (R0.out.swap a v (by have := HSD.out; omega) (by have := HSD.out; omega))
  obtain ⟨u, cu⟩ := R0.out.c2 a v (by have := HSD.out; omega) (by have := HSD.out; omega) sy
  rw [← hsx] at csx
  rw [← hsy] at csy
  rw [← hsx, ← hsy] at RA
  clear R0 hsx hsy
  go_wp2_with fail
  go_big_region_o
  replace RA := row_hid RA.out.drew
  clear csx csy fsx fsy cu
  generalize ((w.setCell ⟨g, a, none⟩ (.string sy)).setCell ⟨g, v, none⟩ (.string sx)).drew = wA at RA ⊢
  obtain ⟨e1, he1⟩ : ∃ e, e = swp d a v := ⟨_, rfl⟩
  rw [← he1] at RA V0
  clear he1
  go_wp2
  go_loopw [11, 12] (fun u v wr => ∃ (i j : Nat) (e : Array ByteArray), a < i ∧ i ≤ j + 1 ∧ j < b ∧ u = .int .i64 i ∧ v = .int .i64 j ∧ Hid (RowS B g w0 e wr) ∧ Hid (Inv (fun x => !ltS P x) P d e a b i j)) (fun u v _ => (intOf v).toNat + 2 - (intOf u).toNat)
  case atStart => exact ⟨a1, z, e1, by omega, by omega, by omega, rfl, rfl, RA, V0⟩
  case round =>
    obtain ⟨i, j, e, h1, h2, h3, rfl, rfl, RB, VB⟩ := hrel
    clear RA V0
    obtain ⟨wo, rfl⟩ : ∃ wo : World, wo = wr := ⟨_, rfl⟩
    go_wp2
    obtain ⟨sifalse, hsifalse⟩ : ∃ x, x = i := ⟨_, rfl⟩
    have HSifalse := Lib.hid hsifalse
    clear hsifalse
    go_loopw [11] (fun u wr => ∃ (i : Nat), sifalse ≤ i ∧ a < i ∧ i ≤ j + 1 ∧ u = .int .i64 i ∧ Hid (RowS B g w0 e wr) ∧ Hid (Inv (fun x => !ltS P x) P d e a b i j)) (fun u _ => j + 1 - (intOf u).toNat)
    case atStart => exact ⟨i, by have := HSifalse.out; omega, by omega, by omega, rfl, RB, VB⟩
    case round =>
      obtain ⟨i, hi0, hi1, hi2, rfl, RBu, VBu⟩ := hrel
      clear RB VB
      by_cases hij : i ≤ j
      · have e0 : decide ((i : Int) ≤ (j : Int)) = true := decide_eq_true (by omega)
        have bel : i < n := by omega
        have hse : e.size = n := by rw [VBu.out.size]; exact HN.out.symm
        have HSE := Lib.hid hse
        obtain ⟨x, hx⟩ : ∃ s, s = e[a]! := ⟨_, rfl⟩
        obtain ⟨y, hy⟩ : ∃ s, s = e[i]! := ⟨_, rfl⟩
        obtain ⟨cv, hcv⟩ : ∃ cv, cmpR x.data.toList y.data.toList = cv := ⟨_, rfl⟩
        have hd := VBu.out.head
        by_cases hv : cv < 0
        · have hl : ltS P e[i]! = true := by rw [← hd, ← hx, ← hy]; exact ltS_true (by rw [hcv]; exact hv)
          have hv' : decide (cv < 0) = true := decide_eq_true hv
          have PBifalse : Hid ((fun x => !ltS P x) e[i]! = false) := Lib.hid (by show _ = _; simp [hl])
          clear hl hd hse

          have lx := RBu.out.cells a (by have := HSE.out; omega)
          have ly := RBu.out.cells i (by have := HSE.out; omega)
          rw [← hx] at lx
          rw [← hy] at ly
          have hc := fun n os => cmp_grown x y wr n os
          rw [hcv] at hc
          clear hx hy hcv
          go_wp2_with fail
          go_quiet_grown (first | (go_at_call 44; refine Calls.grown_of (hc _ _)))
          have RBv := row_hid (RBu.out.grown nq osq)
          clear lx ly hc RBu
          generalize grow (wr.drewN nq) osq = wx at RBv ⊢
          clear nq osq
          obtain ⟨wo, rfl⟩ : ∃ wo : World, wo = wx := ⟨_, rfl⟩
          go_wp2
          obtain ⟨sjfalse, hsjfalse⟩ : ∃ x, x = j := ⟨_, rfl⟩
          have HSjfalse := Lib.hid hsjfalse
          clear hsjfalse
          go_loopw [12] (fun u wr => ∃ (j : Nat), j ≤ sjfalse ∧ j < b ∧ i ≤ j + 1 ∧ u = .int .i64 j ∧ Hid (RowS B g w0 e wr) ∧ Hid (Inv (fun x => !ltS P x) P d e a b i j)) (fun u _ => (intOf u).toNat + 1)
          case atStart => exact ⟨j, by have := HSjfalse.out; omega, by omega, by omega, rfl, RBv, VBu⟩
          case round =>
            obtain ⟨j, hj0, hj1, hj2, rfl, RBvu, VBuu⟩ := hrel
            clear RBv VBu
            by_cases hij : i ≤ j
            · have e0 : decide ((i : Int) ≤ (j : Int)) = true := decide_eq_true (by omega)
              have bel : j < n := by omega
              have hse : e.size = n := by rw [VBuu.out.size]; exact HN.out.symm
              have HSE := Lib.hid hse
              obtain ⟨x, hx⟩ : ∃ s, s = e[a]! := ⟨_, rfl⟩
              obtain ⟨y, hy⟩ : ∃ s, s = e[j]! := ⟨_, rfl⟩
              obtain ⟨cv, hcv⟩ : ∃ cv, cmpR x.data.toList y.data.toList = cv := ⟨_, rfl⟩
              have hd := VBuu.out.head
              by_cases hv : cv < 0
              · have hl : ltS P e[j]! = true := by rw [← hd, ← hx, ← hy]; exact ltS_true (by rw [hcv]; exact hv)
                have hv' : decide (cv < 0) = true := decide_eq_true hv
                obtain ⟨q, hq⟩ : ∃ q, j = q + 1 := ⟨j - 1, by omega⟩
                have wq : IntKind.i64.wrap ((j : Int) - 1) = (q : Int) := wrap_nat (by omega) (by omega)
                have VN := Lib.hid (VBuu.out.prev hq (by show _ = _; simp [hl]))
                have HQ := Lib.hid hq
                clear hq
                clear hl hd VBuu hse

                have lx := RBvu.out.cells a (by have := HSE.out; omega)
                have ly := RBvu.out.cells j (by have := HSE.out; omega)
                rw [← hx] at lx
                rw [← hy] at ly
                have hc := fun n os => cmp_grown x y wr n os
                rw [hcv] at hc
                clear hx hy hcv
                go_wp2_with fail
                go_quiet_grown (first | (go_at_call 44; refine Calls.grown_of (hc _ _)))
                have RBvv := row_hid (RBvu.out.grown nq osq)
                clear lx ly hc RBvu
                generalize grow (wr.drewN nq) osq = wx at RBvv ⊢
                clear nq osq
                go_wp2
                go_roundw
                case rel => exact ⟨q, by have := HQ.out; omega, by have := HQ.out; omega, by have := HQ.out; omega, rfl, RBvv, VN⟩
                case measure => have := HQ.out; simp [intOf] <;> omega
              · have hl : ltS P e[j]! = false := by rw [← hd, ← hx, ← hy]; exact ltS_false (by rw [hcv]; exact hv)
                have hv' : decide (cv < 0) = false := decide_eq_false hv
                have PBjfalse : Hid ((fun x => !ltS P x) e[j]! = true) := Lib.hid (by show _ = _; simp [hl])
                clear hl hd hse

                have lx := RBvu.out.cells a (by have := HSE.out; omega)
                have ly := RBvu.out.cells j (by have := HSE.out; omega)
                rw [← hx] at lx
                rw [← hy] at ly
                have hc := fun n os => cmp_grown x y wr n os
                rw [hcv] at hc
                clear hx hy hcv
                go_wp2_with fail
                go_quiet_grown (first | (go_at_call 44; refine Calls.grown_of (hc _ _)))
                have RBvv := row_hid (RBvu.out.grown nq osq)
                clear lx ly hc RBvu
                generalize grow (wr.drewN nq) osq = wx at RBvv ⊢
                clear nq osq
                have hlt : i < j := by
                  rcases Nat.lt_or_ge i j with h | h
                  · exact h
                  · exfalso
                    have e1 : i = j := by omega
                    have h1 := PBifalse.out
                    rw [e1, PBjfalse.out] at h1
                    exact absurd h1 (by decide)
                obtain ⟨q, hq⟩ : ∃ q, j = q + 1 := ⟨j - 1, by omega⟩
                have wq : IntKind.i64.wrap ((j : Int) - 1) = (q : Int) := wrap_nat (by omega) (by omega)
                have bi : i < n := by omega
                have bj : j < n := by omega
                have hgt : ¬ j < i := by omega
                have VS := Lib.hid (VBuu.out.swap HB.out (by omega) hlt (by omega) PBifalse.out PBjfalse.out hq)
                have HQ := Lib.hid hq
                obtain ⟨i1, hi1⟩ : ∃ q, q = i + 1 := ⟨_, rfl⟩
                have wi : IntKind.i64.wrap ((i : Int) + 1) = (i1 : Int) := wrap_nat (by omega) (by omega)
                rw [← hi1] at VS
                have HI1 := Lib.hid hi1
                clear VBuu PBifalse PBjfalse hq hi1

                obtain ⟨sx, hsx⟩ : ∃ s, s = e[i]! := ⟨_, rfl⟩
                obtain ⟨sy, hsy⟩ : ∃ s, s = e[j]! := ⟨_, rfl⟩
                have csx := RBvv.out.cell i (by have := HSE.out; omega)
                have csy := RBvv.out.cell j (by have := HSE.out; omega)
                have fsx := RBvv.out.frozen i (by have := HSE.out; omega)
                have fsy := RBvv.out.frozen j (by have := HSE.out; omega)
                have RS := row_hid (RBvv.out.swap i j (by have := HSE.out; omega) (by have := HSE.out; omega))
                obtain ⟨u, cu⟩ := RBvv.out.c2 i j (by have := HSE.out; omega) (by have := HSE.out; omega) sy
                rw [← hsx] at csx
                rw [← hsy] at csy
                rw [← hsx, ← hsy] at RS
                clear RBvv hsx hsy
                go_wp2_with fail
                go_big_region_o
                replace RS := row_hid RS.out.drew
                clear csx csy fsx fsy cu
                generalize ((wx.setCell ⟨g, i, none⟩ (.string sy)).setCell ⟨g, j, none⟩ (.string sx)).drew = wS at RS ⊢
                obtain ⟨e2, he2⟩ : ∃ x, x = swp e i j := ⟨_, rfl⟩
                rw [← he2] at RS VS
                clear he2
                go_wp2
                go_roundw
                case rel => exact ⟨i1, q, e2, by have := HI1.out; omega, by have := HI1.out; have := HQ.out; omega, by have := HQ.out; omega, rfl, rfl, RS, VS⟩
                case measure => have := HI1.out; have := HQ.out; have := HSifalse.out; have := HSjfalse.out; simp [intOf] <;> omega
            · have e0 : decide ((i : Int) ≤ (j : Int)) = false := decide_eq_false (by omega)

              go_wp2_with fail
              go_big_region_o
              have RBvv := row_hid RBvu.out.drew
              clear RBvu
              generalize wr.drew = wx at RBvv ⊢
              have hPT := Lib.hid (VBuu.out.partedEq (by omega) (by omega) (by omega) (by omega))
              clear VBuu
              go_wp2
              go_ret
              exact ⟨i, e, rfl, RBvv.out, hPT.out⟩
        · have hl : ltS P e[i]! = false := by rw [← hd, ← hx, ← hy]; exact ltS_false (by rw [hcv]; exact hv)
          have hv' : decide (cv < 0) = false := decide_eq_false hv
          have VN := Lib.hid (VBu.out.next (by show _ = _; simp [hl]))
          clear hl hd VBu hse

          have lx := RBu.out.cells a (by have := HSE.out; omega)
          have ly := RBu.out.cells i (by have := HSE.out; omega)
          rw [← hx] at lx
          rw [← hy] at ly
          have hc := fun n os => cmp_grown x y wr n os
          rw [hcv] at hc
          clear hx hy hcv
          go_wp2_with fail
          go_quiet_grown (first | (go_at_call 44; refine Calls.grown_of (hc _ _)))
          have RBv := row_hid (RBu.out.grown nq osq)
          clear lx ly hc RBu
          generalize grow (wr.drewN nq) osq = wx at RBv ⊢
          clear nq osq
          go_wp2
          go_roundw
          case rel => exact ⟨i + 1, by omega, by omega, by omega, by go_num, RBv, VN⟩
          case measure => simp [intOf] <;> omega
      · have e0 : decide ((i : Int) ≤ (j : Int)) = false := decide_eq_false (by omega)

        go_wp2_with fail
        go_big_region_o
        have RBv := row_hid RBu.out.drew
        clear RBu
        generalize wr.drew = wx at RBv ⊢
        have hgt : j < i := by omega
        obtain ⟨wo, rfl⟩ : ∃ wo : World, wo = wx := ⟨_, rfl⟩
        go_wp2
        go_loopw [12] (fun u wr => u = .int .i64 j ∧ Hid (RowS B g w0 e wr)) (fun u _ => 0)
        case atStart => exact ⟨rfl, RBv⟩
        case round =>
          obtain ⟨rfl, RBvt⟩ := hrel
          clear RBv
          have e0 : decide ((i : Int) ≤ (j : Int)) = false := decide_eq_false (by omega)

          go_wp2_with fail
          go_big_region_o
          have RBvty := row_hid RBvt.out.drew
          clear RBvt
          generalize wr.drew = wY at RBvty ⊢
          have hPT := Lib.hid (VBu.out.partedEq (by omega) (by omega) (by omega) (by omega))
          clear VBu
          go_wp2
          go_ret
          exact ⟨i, e, rfl, RBvty.out, hPT.out⟩
end Go.Proofs.YtabcggmmdjeobaaDoor.srt
