/-
  Sorting: the quicksort that defeats patterns, below 50 elements (slices.pdqsortCmpFunc at string).
-/
import Derived.Test.YtabcggmmdjeobaaDoorSrtI
import Derived.Test.YtabcggmmdjeobaaDoorSrtH2
import Derived.Test.YtabcggmmdjeobaaDoorSrtA
import Derived.Test.YtabcggmmdjeobaaDoorSrtE
import Derived.Test.YtabcggmmdjeobaaDoorSrtC
import Derived.Test.YtabcggmmdjeobaaDoorSrtT
import Derived.Test.YtabcggmmdjeobaaDoorSrtD
import Derived.Deep.Cut
import Derived.Deep.CutRange
namespace Go.Proofs.YtabcggmmdjeobaaDoor.srt
set_option linter.unusedVariables false
set_option linter.unusedSimpArgs false
open Go.RowKit
open kit s03
open Go.Sort (swp grow SWO PermIn SortedIn grow_empty grow_grow alloc_eq_grow size_swp insertionSort heapSort)

theorem ins_n (B g cap a b n : Nat) (w0 w : World) (d : Array ByteArray) (hs : d.size = n) (hab : a ≤ b) (hb : b ≤ n) (hsz : n ≤ 1000) (hR : RowS B g w0 d w) :
    Calls Tryd.prog 59 #[.slice (some ⟨g, 0, none⟩) n cap, .int .i64 (a : Int), .int .i64 (b : Int), .func (.func 44) #[.agg #[]] #[]] w fun e w' => e = .returned (.tuple #[]) ∧ ∃ d', RowS B g w0 d' w' ∧ d'.size = n ∧ PermIn a b d d' ∧ SortedIn ltS a b d' := by
  subst hs
  exact (ins_any B g cap a b w0 w d hab hb hsz hR).mono fun e w' h => ⟨h.1, _, h.2, (Go.Sort.insertionSort_holds swoS d a b hab hb).1.1, (Go.Sort.insertionSort_holds swoS d a b hab hb).1, (Go.Sort.insertionSort_holds swoS d a b hab hb).2⟩
theorem heap_n (B g cap a b n : Nat) (w0 w : World) (d : Array ByteArray) (hs : d.size = n) (hab : a < b) (hb : b ≤ n) (hsz : n ≤ 1000) (hR : RowS B g w0 d w) :
    Calls Tryd.prog 60 #[.slice (some ⟨g, 0, none⟩) n cap, .int .i64 (a : Int), .int .i64 (b : Int), .func (.func 44) #[.agg #[]] #[]] w fun e w' => e = .returned (.tuple #[]) ∧ ∃ d', RowS B g w0 d' w' ∧ d'.size = n ∧ PermIn a b d d' ∧ SortedIn ltS a b d' := by
  subst hs
  exact (heap_any B g cap a b w0 w d hab hb hsz hR).mono fun e w' h => ⟨h.1, _, h.2, (Go.Sort.heapSort_holds swoS d a b (Nat.le_of_lt hab) hb).1.1, (Go.Sort.heapSort_holds swoS d a b (Nat.le_of_lt hab) hb).1, (Go.Sort.heapSort_holds swoS d a b (Nat.le_of_lt hab) hb).2⟩
theorem rev_n (B g cap a b n : Nat) (w0 w : World) (d : Array ByteArray) (hs : d.size = n) (hab : a < b) (hb : b ≤ n) (hsz : n ≤ 1000) (hR : RowS B g w0 d w) :
    Calls Tryd.prog 63 #[.slice (some ⟨g, 0, none⟩) n cap, .int .i64 (a : Int), .int .i64 (b : Int), .func (.func 44) #[.agg #[]] #[]] w fun e w' => e = .returned (.tuple #[]) ∧ ∃ d', RowS B g w0 d' w' ∧ d'.size = n ∧ PermIn a b d d' := by
  subst hs
  exact rev_any B g cap a b w0 w d hab hb hsz hR
theorem break_n (B g cap a b n : Nat) (w0 w : World) (d : Array ByteArray) (hs : d.size = n) (hab : a + 12 < b) (h50 : b < a + 50) (hb : b ≤ n) (hsz : n ≤ 1000) (hR : RowS B g w0 d w) :
    Calls Tryd.prog 61 #[.slice (some ⟨g, 0, none⟩) n cap, .int .i64 (a : Int), .int .i64 (b : Int), .func (.func 44) #[.agg #[]] #[]] w fun e w' => e = .returned (.tuple #[]) ∧ ∃ d', RowS B g w0 d' w' ∧ d'.size = n ∧ PermIn a b d d' := by
  subst hs
  exact break_any B g cap a b w0 w d hab h50 hb hsz hR
theorem pivot_n (B g cap a b n : Nat) (w0 w : World) (d : Array ByteArray) (hs : d.size = n) (hab : a + 12 < b) (h50 : b < a + 50) (hb : b ≤ n) (hsz : n ≤ 1000) (hR : RowS B g w0 d w) :
    Calls Tryd.prog 62 #[.slice (some ⟨g, 0, none⟩) n cap, .int .i64 (a : Int), .int .i64 (b : Int), .func (.func 44) #[.agg #[]] #[]] w fun e w' => ∃ (p : Nat) (h : Int), e = .returned (.tuple #[.int .i64 (p : Int), .int .i64 h]) ∧ a ≤ p ∧ p < b ∧ RowS B g w0 d w' := by
  subst hs
  exact pivot_any B g cap a b w0 w d hab h50 hb hsz hR
theorem partial_n (B g cap a b n : Nat) (w0 w : World) (d : Array ByteArray) (hs : d.size = n) (hab : a < b) (h50 : b < a + 50) (hb : b ≤ n) (hsz : n ≤ 1000) (hR : RowS B g w0 d w) :
    Calls Tryd.prog 64 #[.slice (some ⟨g, 0, none⟩) n cap, .int .i64 (a : Int), .int .i64 (b : Int), .func (.func 44) #[.agg #[]] #[]] w fun e w' => ∃ r : Bool, e = .returned (.bool r) ∧ RowS B g w0 d w' ∧ (r = true → SortedIn ltS a b d) := by
  subst hs
  exact partial_any B g cap a b w0 w d hab hb h50 hsz hR
theorem part_n (B g cap a b v n : Nat) (w0 w : World) (d : Array ByteArray) (hs : d.size = n) (hav : a ≤ v) (hvb : v < b) (hb : b ≤ n) (hsz : n ≤ 1000) (hR : RowS B g w0 d w) :
    Calls Tryd.prog 66 #[.slice (some ⟨g, 0, none⟩) n cap, .int .i64 (a : Int), .int .i64 (b : Int), .int .i64 (v : Int), .func (.func 44) #[.agg #[]] #[]] w fun e w' => ∃ (m : Nat) (r : Bool) (e' : Array ByteArray), e = .returned (.tuple #[.int .i64 (m : Int), .bool r]) ∧ RowS B g w0 e' w' ∧ Parted d e' a b m := by
  subst hs
  exact part_any B g cap a b v w0 w d hav hvb hb hsz hR
theorem parteq_n (B g cap a b v n : Nat) (w0 w : World) (d : Array ByteArray) (hs : d.size = n) (hav : a ≤ v) (hvb : v < b) (hb : b ≤ n) (hsz : n ≤ 1000) (hR : RowS B g w0 d w) :
    Calls Tryd.prog 65 #[.slice (some ⟨g, 0, none⟩) n cap, .int .i64 (a : Int), .int .i64 (b : Int), .int .i64 (v : Int), .func (.func 44) #[.agg #[]] #[]] w fun e w' => ∃ (m : Nat) (e' : Array ByteArray), e = .returned (.int .i64 (m : Int)) ∧ RowS B g w0 e' w' ∧ PartedEq d e' d[v]! a b m := by
  subst hs
  exact parteq_any B g cap a b v w0 w d hav hvb hb hsz hR

set_option maxRecDepth 100000 in
set_option maxHeartbeats 8000000 in
theorem pdq_any (B g cap n : Nat) (w0 : World) (hsz : n ≤ 1000) : ∀ (k a b lim : Nat) (d : Array ByteArray) (w : World), b - a ≤ k → a ≤ b → b ≤ n → b < a + 50 → lim ≤ 1000 → d.size = n → Go.Sort.Below ltS a b d → RowS B g w0 d w →
    Calls Tryd.prog 54 #[.slice (some ⟨g, 0, none⟩) n cap, .int .i64 (a : Int), .int .i64 (b : Int), .int .i64 (lim : Int), .func (.func 44) #[.agg #[]] #[]] w fun e w' => e = .returned (.tuple #[]) ∧ ∃ d', RowS B g w0 d' w' ∧ d'.size = n ∧ PermIn a b d d' ∧ SortedIn ltS a b d' := by
  intro k
  induction k using Nat.strongRecOn with
  | _ k ih =>
    intro a b lim d w hk hab hb h50 hlim hs hbel hR
    have mx := mixed
    have IH := Lib.hid ih
    have R0 := row_hid hR
    have T0 := Lib.hid (todo_start hab hbel)
    have HB : Hid (b ≤ d.size) := Lib.hid (by omega)
    have HS0 := Lib.hid hs
    clear hR hbel hs ih
    go_enter Tryd.func54, Tryd.ntmps54
    go_wp2
    go_loopg [1, 2, 3, 10, 11] (b - a) (fun kx s1 s2 s3 s10 s11 wr => ∃ (s t li : Nat) (wb wp : Bool) (e : Array ByteArray), s1 = .int .i64 s ∧ s2 = .int .i64 t ∧ s3 = .int .i64 li ∧ s10 = .bool wb ∧ s11 = .bool wp ∧ t - s ≤ kx ∧ kx ≤ b - a ∧ li ≤ 1000 ∧ Hid (RowS B g w0 e wr) ∧ Hid (Todo d e a b s t))
    case atStart => exact ⟨a, b, lim, true, true, d, rfl, rfl, rfl, rfl, rfl, Nat.le_refl _, Nat.le_refl _, hlim, R0, T0⟩
    case round =>
      obtain ⟨s, t, li, wb, wp, e, rfl, rfl, rfl, rfl, rfl, hkx, hkb, hli, R1, T1⟩ := hrel
      clear R0 T0
      have hst1 := T1.out.le1
      have hst2 := T1.out.le2
      have hst3 := T1.out.le3
      have HE : Hid (e.size = n) := Lib.hid (by rw [T1.out.size]; exact HS0.out)
      obtain ⟨l, hl⟩ : ∃ l, t = s + l := ⟨t - s, by omega⟩
      have wl : IntKind.i64.wrap ((t : Int) - (s : Int)) = (l : Int) := wrap_nat (by omega) (by omega)
      have htn : t ≤ n := by omega
      have HL := Lib.hid hl
      by_cases h12 : l ≤ 12
      · clear hl
        go_wp2_with (go_at_call 59; (with_reducible refine (ins_n B g cap s t n w0 _ e HE.out hst2 htn hsz R1.out).mono ?_); rintro e5 w5 ⟨rfl, e', r5, s5, p5, q5⟩; have DONE := Lib.hid (T1.out.done HB.out p5 q5); have R5 := row_hid r5; have S5 := Lib.hid s5; clear r5 s5 p5 q5)
        first
          | go_end0
          | (refine bodyPost_ret (results_none rfl _ _ _) rfl ?_)
        exact ⟨rfl, e', R5.out, S5.out, DONE.out.1, DONE.out.2⟩
      · have hs12 : s + 12 < t := by omega
        have hst : s < t := by omega
        have hs50 : t < s + 50 := by omega
        have hl50 : l < 50 := by omega
        clear hl
        by_cases hl0 : li = 0
        · subst hl0
          go_wp2_with (go_at_call 60; (with_reducible refine (heap_n B g cap s t n w0 _ e HE.out hst htn hsz R1.out).mono ?_); rintro e5 w5 ⟨rfl, e', r5, s5, p5, q5⟩; have DONE := Lib.hid (T1.out.done HB.out p5 q5); have R5 := row_hid r5; have S5 := Lib.hid s5; clear r5 s5 p5 q5)
          first
            | go_end0
            | (refine bodyPost_ret (results_none rfl _ _ _) rfl ?_)
          exact ⟨rfl, e', R5.out, S5.out, DONE.out.1, DONE.out.2⟩
        · obtain ⟨lj, hlj⟩ : ∃ x, li = x + 1 := ⟨li - 1, by omega⟩
          have wlj : IntKind.i64.wrap ((li : Int) - 1) = (lj : Int) := wrap_nat (by omega) (by omega)
          have tz : ((li : Int) == 0) = false := by rw [beq_eq_false_iff_ne]; omega
          have hlj2 : lj ≤ 1000 := by omega
          clear hlj
          go_upto_if 39 with fail
          go_cut [3] from 21 (fun s3 wc => ∃ (li' : Nat) (e' : Array ByteArray), s3 = .int .i64 li' ∧ Hid (li' ≤ 1000) ∧ Hid (RowS B g w0 e' wc) ∧ Hid (Todo d e' a b s t))
          case first =>
            cases wb
            · go_wp2_with (go_at_call 61; (with_reducible refine (break_n B g cap s t n w0 _ e HE.out hs12 hs50 htn hsz R1.out).mono ?_); rintro e5 w5 ⟨rfl, e', r5, s5, p5⟩; have R5 := row_hid r5; have T5 := Lib.hid (T1.out.permuted HB.out p5); clear r5 s5 p5)
              go_meet
              case rel => exact ⟨lj, e', rfl, Lib.hid hlj2, R5, T5⟩
            · go_wp2_with fail
              go_meet
              case rel => exact ⟨li, e, rfl, Lib.hid hli, R1, T1⟩
          case rest =>
            obtain ⟨li2, e2, rfl, hli2, R2, T2⟩ := hcut
            clear R1 T1 HE
            have HE2 : Hid (e2.size = n) := Lib.hid (by rw [T2.out.size]; exact HS0.out)
            go_upto_if 56 with (go_at_call 62; (with_reducible refine (pivot_n B g cap s t n w0 _ e2 HE2.out hs12 hs50 htn hsz R2.out).mono ?_); rintro e5 w5 ⟨v, h, rfl, hv1, hv2, r5⟩; have R5 := row_hid r5; clear r5 R2)
            go_cut [13, 14] from 21 (fun s13 s14 wc => ∃ (v : Nat) (h : Int) (e' : Array ByteArray), s13 = .int .i64 v ∧ s14 = .int .i64 h ∧ Hid (s ≤ v ∧ v < t) ∧ Hid (RowS B g w0 e' wc) ∧ Hid (Todo d e' a b s t))
            case first =>
              by_cases hh : h = 2
              · subst hh
                obtain ⟨t1, ht1⟩ : ∃ x, t = x + 1 := ⟨t - 1, by omega⟩
                obtain ⟨vs, hvs⟩ : ∃ x, v = s + x := ⟨v - s, by omega⟩
                obtain ⟨v2, hv3⟩ : ∃ x, t1 = vs + x := ⟨t1 - vs, by omega⟩
                have wt1 : IntKind.i64.wrap ((t : Int) - 1) = (t1 : Int) := wrap_nat (by omega) (by omega)
                have wvs : IntKind.i64.wrap ((v : Int) - (s : Int)) = (vs : Int) := wrap_nat (by omega) (by omega)
                have wv2 : IntKind.i64.wrap ((t1 : Int) - (vs : Int)) = (v2 : Int) := wrap_nat (by omega) (by omega)
                have HV : Hid (s ≤ v2 ∧ v2 < t) := Lib.hid (by omega)
                clear ht1 hvs hv3
                go_wp2_with (go_at_call 63; (with_reducible refine (rev_n B g cap s t n w0 _ e2 HE2.out hst htn hsz R5.out).mono ?_); rintro e6 w6 ⟨rfl, e', r6, s6, p6⟩; have R6 := row_hid r6; have T6 := Lib.hid (T2.out.permuted HB.out p6); clear r6 s6 p6)
                go_meet
                case rel => exact ⟨v2, 1, e', rfl, rfl, HV, R6, T6⟩
              · have hne : (h == 2) = false := by rw [beq_eq_false_iff_ne]; exact hh
                go_wp2_with fail
                go_meet
                case rel => exact ⟨v, h, e2, rfl, rfl, Lib.hid ⟨hv1, hv2⟩, R5, T2⟩
            case rest =>
              clear hv1 hv2 v h T2 R5 HE2
              obtain ⟨v, h, e3, rfl, rfl, HV, R3, T3⟩ := hcut
              have HE3 : Hid (e3.size = n) := Lib.hid (by rw [T3.out.size]; exact HS0.out)
              go_upto_region 15 with fail
              go_cut [14, 75] from 21 (fun s14 s75 wx => ∃ q : Bool, s75 = .bool q ∧ s14 = .int .i64 h ∧ Hid (RowS B g w0 e3 wx))
              case first =>
                by_cases hh : h = 1
                · have he : (h == 1) = true := by rw [hh]; rfl
                  cases wb <;> cases wp <;> (go_wp2_with fail; go_meet; exact ⟨_, rfl, rfl, R3⟩)
                · have he : (h == 1) = false := by rw [beq_eq_false_iff_ne]; exact hh
                  cases wb <;> cases wp <;> (go_wp2_with fail; go_meet; exact ⟨_, rfl, rfl, R3⟩)
              case rest =>
                obtain ⟨q, rfl, rfl, R4⟩ := hcut
                clear R3
                go_upto_if 75 with fail
                go_cut [] from 21 (fun wx => Hid (RowS B g w0 e3 wx))
                case first =>
                  cases q
                  · go_wp2_with fail
                    go_meet
                    case rel => exact R4
                  · go_wp2_with (go_at_call 64; (with_reducible refine (partial_n B g cap s t n w0 _ e3 HE3.out hst hs50 htn hsz R4.out).mono ?_); rintro e5 w5 ⟨r, rfl, r5, q5⟩; have R5 := row_hid r5; have Q5 := Lib.hid q5; clear r5 q5; cases r)
                    · go_meet
                      case rel => exact R5
                    · have DONE := Lib.hid (T3.out.done HB.out (Go.Sort.permIn_refl _ _ _) (Q5.out (by first | rfl | trivial)))
                      first
                        | go_end0
                        | (refine bodyPost_ret (results_none rfl _ _ _) rfl ?_)
                      exact ⟨rfl, e3, R5.out, HE3.out, DONE.out.1, DONE.out.2⟩
                case rest =>
                  have R6 := hcut
                  clear hcut R4
                  have hv1 := HV.out.1
                  have hv2 := HV.out.2
                  go_upto_region 17 with fail
                  go_cut [97] from 21 (fun s97 wx => ∃ q : Bool, s97 = .bool q ∧ Hid (RowS B g w0 e3 wx) ∧ Hid (q = true → 0 < s ∧ ltS e3[s - 1]! e3[v]! = false))
                  case first =>
                    by_cases hs0 : 0 < s
                    · obtain ⟨p, hp⟩ : ∃ p, s = p + 1 := ⟨s - 1, by omega⟩
                      have e0 : decide (0 < (s : Int)) = true := decide_eq_true (by omega)
                      have e1 : IntKind.i64.wrap ((s : Int) - 1) = (p : Int) := wrap_nat (by omega) (by omega)
                      have hpn : p < n := by omega
                      have hvn : v < n := by omega
                      have hps : s - 1 = p := by omega
                      obtain ⟨x, hx⟩ : ∃ s, s = e3[p]! := ⟨_, rfl⟩
                      obtain ⟨y, hy⟩ : ∃ s, s = e3[v]! := ⟨_, rfl⟩
                      obtain ⟨cv, hcv⟩ : ∃ cv, cmpR x.data.toList y.data.toList = cv := ⟨_, rfl⟩
                      by_cases hcv0 : cv < 0
                      · have hv' : decide (cv < 0) = true := decide_eq_true hcv0
                        clear hp hps
                        have lx := R6.out.cells p (by have := HE3.out; omega)
                        have ly := R6.out.cells v (by have := HE3.out; omega)
                        rw [← hx] at lx
                        rw [← hy] at ly
                        have hc := fun n os => cmp_grown x y wc n os
                        rw [hcv] at hc
                        clear hx hy hcv
                        go_wp2_with fail
                        go_quiet_grown (first | (go_at_call 44; refine Calls.grown_of (hc _ _)))
                        have R7 := row_hid (R6.out.grown nq osq)
                        clear lx ly hc R6
                        generalize grow (wc.drewN nq) osq = w7 at R7 ⊢
                        clear nq osq
                        go_wp2_with fail
                        go_meet
                        case rel => exact ⟨false, rfl, R7, Lib.hid (fun h => by cases h)⟩
                      · have hv' : decide (cv < 0) = false := decide_eq_false hcv0
                        have HQ : Hid (0 < s ∧ ltS e3[s - 1]! e3[v]! = false) := Lib.hid ⟨hs0, by rw [hps, ← hx, ← hy]; exact ltS_false (by rw [hcv]; exact hcv0)⟩
                        clear hp hps
                        have lx := R6.out.cells p (by have := HE3.out; omega)
                        have ly := R6.out.cells v (by have := HE3.out; omega)
                        rw [← hx] at lx
                        rw [← hy] at ly
                        have hc := fun n os => cmp_grown x y wc n os
                        rw [hcv] at hc
                        clear hx hy hcv
                        go_wp2_with fail
                        go_quiet_grown (first | (go_at_call 44; refine Calls.grown_of (hc _ _)))
                        have R7 := row_hid (R6.out.grown nq osq)
                        clear lx ly hc R6
                        generalize grow (wc.drewN nq) osq = w7 at R7 ⊢
                        clear nq osq
                        go_wp2_with fail
                        go_meet
                        case rel => exact ⟨true, rfl, R7, Lib.hid (fun _ => HQ.out)⟩
                    · have e0 : decide (0 < (s : Int)) = false := decide_eq_false (by omega)
                      go_wp2_with fail
                      go_big_region_o
                      have R7 := row_hid R6.out.drew
                      clear R6
                      generalize wc.drew = w7 at R7 ⊢
                      go_wp2_with fail
                      go_meet
                      case rel => exact ⟨false, rfl, R7, Lib.hid (fun h => by cases h)⟩
                  case rest =>
                    obtain ⟨q, rfl, R7, HQ⟩ := hcut
                    clear R6
                    cases q
                    · obtain ⟨th, hth⟩ : ∃ x, x = l / 8 := ⟨_, rfl⟩
                      have wt1 : (l : Int) / 8 = (th : Int) := by omega
                      have wt2 : (l : Int).tdiv 8 = (th : Int) := by rw [Int.tdiv_eq_ediv_of_nonneg (by omega)]; omega
                      have wt3 : IntKind.i64.wrap (th : Int) = th := IntWalk.i64_in _ (by omega)
                      clear hth
                      go_upto_if 125 with (go_at_call 66; (with_reducible refine (part_n B g cap s t v n w0 _ e3 HE3.out hv1 hv2 htn hsz R7.out).mono ?_); rintro e5 w5 ⟨m, ap, e5, rfl, r5, p5⟩; have R5 := row_hid r5; have P5 := Lib.hid p5; obtain ⟨hm1, hm2, hm3, _⟩ := p5; obtain ⟨ll, hll⟩ : ∃ x, m = s + x := ⟨m - s, by omega⟩; obtain ⟨rl, hrl⟩ : ∃ x, t = m + x := ⟨t - m, by omega⟩; have wll : IntKind.i64.wrap ((m : Int) - (s : Int)) = (ll : Int) := wrap_nat (by omega) (by omega); have wrl : IntKind.i64.wrap ((t : Int) - (m : Int)) = (rl : Int) := wrap_nat (by omega) (by omega); have S5 : Hid (e5.size = n) := Lib.hid (by rw [hm3]; exact HE3.out); obtain ⟨m1, hmm⟩ : ∃ x, x = m + 1 := ⟨_, rfl⟩; have wm1 : IntKind.i64.wrap ((m : Int) + 1) = (m1 : Int) := wrap_nat (by omega) (by omega); have HM := Lib.hid hmm; clear r5 hm3 R7 hll hrl hmm)
                      have BL := Lib.hid (T3.out.belowLeft HB.out P5.out)
                      have BR := Lib.hid (P5.out.belowRight)
                      by_cases hlr : ll < rl
                      · have c1 : m - s < k := by omega
                        have c2 : m ≤ n := by omega
                        have c3 : m < s + 50 := by omega
                        go_wp2_with (go_at_call 54; (with_reducible refine (IH.out (m - s) c1 s m li2 e5 _ (Nat.le_refl _) hm1 c2 c3 hli2.out S5.out BL.out R5.out).mono ?_); rintro e6 w6 ⟨rfl, e6, r6, s6, p6, q6⟩; have R6 := row_hid r6; have T6 := Lib.hid (T3.out.left HB.out P5.out p6 q6); clear r6 s6 p6 q6)
                        go_roundg (t - m1)
                        case measure => have := HM.out; omega
                        case rel => exact ⟨m1, t, li2, _, ap, e6, rfl, rfl, rfl, rfl, rfl, Nat.le_refl _, by have := HM.out; omega, hli2.out, R6, by rw [HM.out]; exact T6⟩
                      · have c1 : t - m1 < k := by have := HM.out; omega
                        have c2 : m1 ≤ t := by have := HM.out; omega
                        have c3 : t < m1 + 50 := by have := HM.out; omega
                        have BR : Hid (Go.Sort.Below ltS m1 t e5) := Lib.hid (by rw [HM.out]; exact BR.out)
                        go_wp2_with (go_at_call 54; (with_reducible refine (IH.out (t - m1) c1 m1 t li2 e5 _ (Nat.le_refl _) c2 htn c3 hli2.out S5.out BR.out R5.out).mono ?_); rintro e6 w6 ⟨rfl, e6, r6, s6, p6, q6⟩; have R6 := row_hid r6; have T6 := Lib.hid (T3.out.right HB.out P5.out (by rw [← HM.out]; exact p6) (by rw [← HM.out]; exact q6)); clear r6 s6 p6 q6)
                        go_roundg (m - s)
                        case measure => omega
                        case rel => exact ⟨s, m, li2, _, ap, e6, rfl, rfl, rfl, rfl, rfl, Nat.le_refl _, by omega, hli2.out, R6, T6⟩
                    · go_wp2_with (go_at_call 65; (with_reducible refine (parteq_n B g cap s t v n w0 _ e3 HE3.out hv1 hv2 htn hsz R7.out).mono ?_); rintro e5 w5 ⟨m, e5, rfl, r5, p5⟩; have R5 := row_hid r5; have T5 := Lib.hid (T3.out.equal HB.out hv1 hv2 (HQ.out rfl).1 (HQ.out rfl).2 p5); have hm1 := p5.1; have hm2 := p5.2.1; clear r5 p5 R7)
                      go_roundg (t - m)
                      case measure => omega
                      case rel => exact ⟨m, t, li2, wb, wp, e5, rfl, rfl, rfl, rfl, rfl, Nat.le_refl _, by omega, hli2.out, R5, T5⟩
end Go.Proofs.YtabcggmmdjeobaaDoor.srt
