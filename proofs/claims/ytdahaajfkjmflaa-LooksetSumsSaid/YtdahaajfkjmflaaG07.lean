/-
  Layer 14: lists of looks compared; a look in a list. Layer 14: the reference's merge. Layer 14: a list in memory that is written over; slices.Compact.
-/
import Derived.Test.YtdahaajfkjmflaaG06
import Derived.Test.YtdahaajfkjmflaaG04
import Derived.Test.YtdahaajfkjmflaaG05
import Derived.BigRegion
namespace Go.Proofs.Ytdahaajfkjmflaa.s14
set_option linter.unusedVariables false
set_option linter.unusedSimpArgs false
open Go.RowKit
open kit

open s13

def lkV (x : V5) : Value := .agg #[.int .i64 x.1, .int .i64 x.2.1, .int .i64 x.2.2.1, .int .i64 x.2.2.2.1, .int .i64 x.2.2.2.2]
theorem neq_yes (x0 x1 x2 x3 x4 : Int) (W : World) : (binOp .neq 25 (.agg #[.int .i64 x0, .int .i64 x1, .int .i64 x2, .int .i64 x3, .int .i64 x4]) (.agg #[.int .i64 x0, .int .i64 x1, .int .i64 x2, .int .i64 x3, .int .i64 x4])).run Try.prog W = .ok (.bool false) W := by rw [neq_look, decide_eq_true ⟨rfl, rfl, rfl, rfl, rfl⟩]; rfl
theorem neq_no (x0 x1 x2 x3 x4 y0 y1 y2 y3 y4 : Int) (h : ¬ ((x0, x1, x2, x3, x4) : V5) = (y0, y1, y2, y3, y4)) (W : World) : (binOp .neq 25 (.agg #[.int .i64 x0, .int .i64 x1, .int .i64 x2, .int .i64 x3, .int .i64 x4]) (.agg #[.int .i64 y0, .int .i64 y1, .int .i64 y2, .int .i64 y3, .int .i64 y4])).run Try.prog W = .ok (.bool true) W := by rw [neq_look, decide_eq_false (fun e => h (by obtain ⟨rfl, rfl, rfl, rfl, rfl⟩ := e; rfl))]; rfl
theorem eql_yes (x0 x1 x2 x3 x4 : Int) (W : World) : (binOp .eql 25 (.agg #[.int .i64 x0, .int .i64 x1, .int .i64 x2, .int .i64 x3, .int .i64 x4]) (.agg #[.int .i64 x0, .int .i64 x1, .int .i64 x2, .int .i64 x3, .int .i64 x4])).run Try.prog W = .ok (.bool true) W := by rw [eql_look, decide_eq_true ⟨rfl, rfl, rfl, rfl, rfl⟩]
theorem eql_no (x0 x1 x2 x3 x4 y0 y1 y2 y3 y4 : Int) (h : ¬ ((x0, x1, x2, x3, x4) : V5) = (y0, y1, y2, y3, y4)) (W : World) : (binOp .eql 25 (.agg #[.int .i64 x0, .int .i64 x1, .int .i64 x2, .int .i64 x3, .int .i64 x4]) (.agg #[.int .i64 y0, .int .i64 y1, .int .i64 y2, .int .i64 y3, .int .i64 y4])).run Try.prog W = .ok (.bool false) W := by rw [eql_look, decide_eq_false (fun e => h (by obtain ⟨rfl, rfl, rfl, rfl, rfl⟩ := e; rfl))]
theorem take_more {l k : List V5} {i : Nat} (hl : i < l.length) (hk : i < k.length) (h : l.take i = k.take i) (e : l[i]?.getD no5 = k[i]?.getD no5) : l.take (i + 1) = k.take (i + 1) := by
  rw [List.getElem?_eq_getElem hl, List.getElem?_eq_getElem hk] at e
  have e2 : l[i] = k[i] := by simpa using e
  rw [List.take_succ_eq_append_getElem hl, List.take_succ_eq_append_getElem hk, h, e2]
theorem ne_at {l k : List V5} {i : Nat} (e : ¬ l[i]?.getD no5 = k[i]?.getD no5) : decide (l = k) = false := decide_eq_false (fun h => e (by rw [h]))
theorem At5.later2 {w : World} {b o : Nat} {x : V5} (h : At5 w b o x) : (∀ p : Later w, p.W.cell? ⟨b, o, none⟩ = some (.int .i64 x.1)) ∧ (∀ p : Later w, p.W.cell? ⟨b, o + 1, none⟩ = some (.int .i64 x.2.1)) ∧ (∀ p : Later w, p.W.cell? ⟨b, o + 2, none⟩ = some (.int .i64 x.2.2.1)) ∧ (∀ p : Later w, p.W.cell? ⟨b, o + 3, none⟩ = some (.int .i64 x.2.2.2.1)) ∧ (∀ p : Later w, p.W.cell? ⟨b, o + 4, none⟩ = some (.int .i64 x.2.2.2.2)) :=
  ⟨fun p => (At5.later h p).1, fun p => (At5.later h p).2.1, fun p => (At5.later h p).2.2.1, fun p => (At5.later h p).2.2.2.1, fun p => (At5.later h p).2.2.2.2⟩
set_option maxRecDepth 100000 in
set_option maxHeartbeats 4000000 in
theorem sleq_any (a b : Option Addr) (n m ca cb : Nat) (l k : List V5) (w : World) (hl : Hid (l.length = n)) (hk : Hid (k.length = m)) (hn : n ≤ 100000) (hm : m ≤ 100000) (ra : Hid (Reads5 w a l)) (rb : Hid (Reads5 w b k)) (r : Bool) (HR : Hid (decide (l = k) = r)) : Calls Try.prog 58 #[.slice a n ca, .slice b m cb] w fun e w' => e = .returned (.bool r) ∧ Below w.heap.size w w' := by
  by_cases hnm : n = m
  · subst hnm
    go_enter Try.func58, Try.ntmps58
    go_wp2
    go_loopw [13] (fun v wr => ∃ i : Nat, v = .int .i64 i ∧ i ≤ n ∧ Hid (l.take i = k.take i) ∧ Hid (Below w.heap.size w wr)) (fun v _ => n - (intOf v).toNat)
    case atStart => exact ⟨0, rfl, by omega, Lib.hid (by simp), Lib.hid (Below.refl _ _)⟩
    case round =>
      obtain ⟨i, rfl, hi, HT, HB⟩ := hrel
      by_cases hlt : i < n
      · have hil : i < l.length := by have := hl.out; omega
        have hik : i < k.length := by have := hk.out; omega
        obtain ⟨ga, oa, rfl, _, ha⟩ := (ra.out.below HB.out) i hil
        obtain ⟨gb, ob, rfl, _, hb⟩ := (rb.out.below HB.out) i hik
        have HTM := Lib.hid (take_more hil hik HT.out)
        have HNE := Lib.hid (ne_at (l := l) (k := k) (i := i))
        clear hil hik
        generalize l[i]?.getD no5 = x at ha HTM HNE
        generalize k[i]?.getD no5 = y at hb HTM HNE
        obtain ⟨x0, x1, x2, x3, x4⟩ := x
        obtain ⟨y0, y1, y2, y3, y4⟩ := y
        obtain ⟨z0, z1, z2, z3, z4⟩ := At5.later2 ha
        obtain ⟨e0, e1, e2, e3, e4⟩ := At5.later2 hb
        simp only at z0 z1 z2 z3 z4 e0 e1 e2 e3 e4
        have zg := guard_look
        clear ha hb
        by_cases hxy : ((x0, x1, x2, x3, x4) : V5) = (y0, y1, y2, y3, y4)
        · have HT2 := Lib.hid (HTM.out hxy)
          cases hxy
          have zq := neq_yes x0 x1 x2 x3 x4
          go_wp2
          refine wp_region_later (by kernel_rfl) (by kernel_rfl) ?_
          repeat (go_big_quiet_step (fail))
          refine wpQuiet_nil ?_
          rintro w5 ⟨p5, rfl⟩
          have B5 := Lib.hid (below_then HB.out p5.h)
          generalize p5.W = w6 at B5 ⊢
          clear z0 z1 z2 z3 z4 e0 e1 e2 e3 e4 zg zq
          go_wp2
          go_roundw
          case rel => exact ⟨i + 1, by go_num, by omega, HT2, B5⟩
          case measure => simp [intOf]; omega
        · have hr : r = false := HR.out.symm.trans (HNE.out hxy)
          subst hr
          have zq := neq_no x0 x1 x2 x3 x4 y0 y1 y2 y3 y4 hxy
          clear hxy
          go_wp2
          refine wp_region_later (by kernel_rfl) (by kernel_rfl) ?_
          repeat (go_big_quiet_step (fail))
          refine wpQuiet_nil ?_
          rintro w5 ⟨p5, rfl⟩
          have B5 := Lib.hid (below_then HB.out p5.h)
          generalize p5.W = w6 at B5 ⊢
          go_wp2
          go_ret
          exact ⟨rfl, B5.out⟩
      · obtain rfl : i = n := by omega
        have hr : r = true := by
          have h1 := HT.out
          rw [List.take_of_length_le (by rw [hl.out]; omega), List.take_of_length_le (by rw [hk.out]; omega)] at h1
          rw [← HR.out]; exact decide_eq_true h1
        subst hr
        go_wp2
        go_ret
        exact ⟨rfl, HB.out⟩
  · have hr : r = false := by
      rw [← HR.out]; exact decide_eq_false (fun e => hnm (by rw [← hl.out, ← hk.out, e]))
    subst hr
    have h1 : ¬ (n : Int) = m := by omega
    have h2 : ((n : Int) != m) = true := by simpa using h1
    go_enter Try.func58, Try.ntmps58
    go_wp2
    go_ret
    exact ⟨rfl, Below.refl _ _⟩
set_option maxRecDepth 100000 in
set_option maxHeartbeats 4000000 in
theorem rsame_any (a b : Option Addr) (n m ca cb : Nat) (l k : List V5) (w : World) (hl : Hid (l.length = n)) (hk : Hid (k.length = m)) (hn : n ≤ 100000) (hm : m ≤ 100000) (ra : Hid (Reads5 w a l)) (rb : Hid (Reads5 w b k)) (r : Bool) (HR : Hid (decide (l = k) = r)) : Calls Try.prog 27 #[.slice a n ca, .slice b m cb] w fun e w' => e = .returned (.bool r) ∧ Below w.heap.size w w' := by
  by_cases hnm : n = m
  · subst hnm
    go_enter Try.func27, Try.ntmps27
    go_wp2
    go_loopw [5] (fun v wr => ∃ i : Nat, v = .int .i64 i ∧ i ≤ n ∧ Hid (l.take i = k.take i) ∧ Hid (Below w.heap.size w wr)) (fun v _ => n - (intOf v).toNat)
    case atStart => exact ⟨0, rfl, by omega, Lib.hid (by simp), Lib.hid (Below.refl _ _)⟩
    case round =>
      obtain ⟨i, rfl, hi, HT, HB⟩ := hrel
      by_cases hlt : i < n
      · have hil : i < l.length := by have := hl.out; omega
        have hik : i < k.length := by have := hk.out; omega
        obtain ⟨ga, oa, rfl, _, ha⟩ := (ra.out.below HB.out) i hil
        obtain ⟨gb, ob, rfl, _, hb⟩ := (rb.out.below HB.out) i hik
        have HTM := Lib.hid (take_more hil hik HT.out)
        have HNE := Lib.hid (ne_at (l := l) (k := k) (i := i))
        clear hil hik
        generalize l[i]?.getD no5 = x at ha HTM HNE
        generalize k[i]?.getD no5 = y at hb HTM HNE
        obtain ⟨x0, x1, x2, x3, x4⟩ := x
        obtain ⟨y0, y1, y2, y3, y4⟩ := y
        obtain ⟨z0, z1, z2, z3, z4⟩ := At5.later2 ha
        obtain ⟨e0, e1, e2, e3, e4⟩ := At5.later2 hb
        simp only at z0 z1 z2 z3 z4 e0 e1 e2 e3 e4
        have zg := guard_look
        clear ha hb
        by_cases hxy : ((x0, x1, x2, x3, x4) : V5) = (y0, y1, y2, y3, y4)
        · have HT2 := Lib.hid (HTM.out hxy)
          cases hxy
          have zq := neq_yes x0 x1 x2 x3 x4
          go_wp2
          refine wp_region_later (by kernel_rfl) (by kernel_rfl) ?_
          repeat (go_big_quiet_step (fail))
          refine wpQuiet_nil ?_
          rintro w5 ⟨p5, rfl⟩
          have B5 := Lib.hid (below_then HB.out p5.h)
          generalize p5.W = w6 at B5 ⊢
          clear z0 z1 z2 z3 z4 e0 e1 e2 e3 e4 zg zq
          go_wp2
          go_roundw
          case rel => exact ⟨i + 1, by go_num, by omega, HT2, B5⟩
          case measure => simp [intOf]; omega
        · have hr : r = false := HR.out.symm.trans (HNE.out hxy)
          subst hr
          have zq := neq_no x0 x1 x2 x3 x4 y0 y1 y2 y3 y4 hxy
          clear hxy
          go_wp2
          refine wp_region_later (by kernel_rfl) (by kernel_rfl) ?_
          repeat (go_big_quiet_step (fail))
          refine wpQuiet_nil ?_
          rintro w5 ⟨p5, rfl⟩
          have B5 := Lib.hid (below_then HB.out p5.h)
          generalize p5.W = w6 at B5 ⊢
          go_wp2
          go_ret
          exact ⟨rfl, B5.out⟩
      · obtain rfl : i = n := by omega
        have hr : r = true := by
          have h1 := HT.out
          rw [List.take_of_length_le (by rw [hl.out]; omega), List.take_of_length_le (by rw [hk.out]; omega)] at h1
          rw [← HR.out]; exact decide_eq_true h1
        subst hr
        go_wp2
        go_ret
        exact ⟨rfl, HB.out⟩
  · have hr : r = false := by
      rw [← HR.out]; exact decide_eq_false (fun e => hnm (by rw [← hl.out, ← hk.out, e]))
    subst hr
    have h1 : ¬ (n : Int) = m := by omega
    have h2 : ((n : Int) != m) = true := by simpa using h1
    go_enter Try.func27, Try.ntmps27
    go_wp2
    go_ret
    exact ⟨rfl, Below.refl _ _⟩
set_option maxRecDepth 100000 in
set_option maxHeartbeats 4000000 in
theorem lsame_any (a b : Option Addr) (n m ca cb : Nat) (l k : List V5) (w : World) (hl : Hid (l.length = n)) (hk : Hid (k.length = m)) (hn : n ≤ 100000) (hm : m ≤ 100000) (ra : Hid (Reads5 w a l)) (rb : Hid (Reads5 w b k)) (r : Bool) (HR : Hid (decide (l = k) = r)) : Calls Try.prog 15 #[.slice a n ca, .slice b m cb] w fun e w' => e = .returned (.bool r) ∧ Below w.heap.size w w' := by
  by_cases hnm : n = m
  · subst hnm
    go_enter Try.func15, Try.ntmps15
    go_wp2
    go_loopw [5] (fun v wr => ∃ i : Nat, v = .int .i64 i ∧ i ≤ n ∧ Hid (l.take i = k.take i) ∧ Hid (Below w.heap.size w wr)) (fun v _ => n - (intOf v).toNat)
    case atStart => exact ⟨0, rfl, by omega, Lib.hid (by simp), Lib.hid (Below.refl _ _)⟩
    case round =>
      obtain ⟨i, rfl, hi, HT, HB⟩ := hrel
      by_cases hlt : i < n
      · have hil : i < l.length := by have := hl.out; omega
        have hik : i < k.length := by have := hk.out; omega
        obtain ⟨ga, oa, rfl, _, ha⟩ := (ra.out.below HB.out) i hil
        obtain ⟨gb, ob, rfl, _, hb⟩ := (rb.out.below HB.out) i hik
        have HTM := Lib.hid (take_more hil hik HT.out)
        have HNE := Lib.hid (ne_at (l := l) (k := k) (i := i))
        clear hil hik
        generalize l[i]?.getD no5 = x at ha HTM HNE
        generalize k[i]?.getD no5 = y at hb HTM HNE
        obtain ⟨x0, x1, x2, x3, x4⟩ := x
        obtain ⟨y0, y1, y2, y3, y4⟩ := y
        obtain ⟨z0, z1, z2, z3, z4⟩ := At5.later2 ha
        obtain ⟨e0, e1, e2, e3, e4⟩ := At5.later2 hb
        simp only at z0 z1 z2 z3 z4 e0 e1 e2 e3 e4
        have zg := guard_look
        clear ha hb
        by_cases hxy : ((x0, x1, x2, x3, x4) : V5) = (y0, y1, y2, y3, y4)
        · have HT2 := Lib.hid (HTM.out hxy)
          cases hxy
          have zq := neq_yes x0 x1 x2 x3 x4
          go_wp2
          refine wp_region_later (by kernel_rfl) (by kernel_rfl) ?_
          repeat (go_big_quiet_step (fail))
          refine wpQuiet_nil ?_
          rintro w5 ⟨p5, rfl⟩
          have B5 := Lib.hid (below_then HB.out p5.h)
          generalize p5.W = w6 at B5 ⊢
          clear z0 z1 z2 z3 z4 e0 e1 e2 e3 e4 zg zq
          go_wp2
          go_roundw
          case rel => exact ⟨i + 1, by go_num, by omega, HT2, B5⟩
          case measure => simp [intOf]; omega
        · have hr : r = false := HR.out.symm.trans (HNE.out hxy)
          subst hr
          have zq := neq_no x0 x1 x2 x3 x4 y0 y1 y2 y3 y4 hxy
          clear hxy
          go_wp2
          refine wp_region_later (by kernel_rfl) (by kernel_rfl) ?_
          repeat (go_big_quiet_step (fail))
          refine wpQuiet_nil ?_
          rintro w5 ⟨p5, rfl⟩
          have B5 := Lib.hid (below_then HB.out p5.h)
          generalize p5.W = w6 at B5 ⊢
          go_wp2
          go_ret
          exact ⟨rfl, B5.out⟩
      · obtain rfl : i = n := by omega
        have hr : r = true := by
          have h1 := HT.out
          rw [List.take_of_length_le (by rw [hl.out]; omega), List.take_of_length_le (by rw [hk.out]; omega)] at h1
          rw [← HR.out]; exact decide_eq_true h1
        subst hr
        go_wp2
        go_ret
        exact ⟨rfl, HB.out⟩
  · have hr : r = false := by
      rw [← HR.out]; exact decide_eq_false (fun e => hnm (by rw [← hl.out, ← hk.out, e]))
    subst hr
    have h1 : ¬ (n : Int) = m := by omega
    have h2 : ((n : Int) != m) = true := by simpa using h1
    go_enter Try.func15, Try.ntmps15
    go_wp2
    go_ret
    exact ⟨rfl, Below.refl _ _⟩
set_option maxRecDepth 100000 in
set_option maxHeartbeats 1000000 in
theorem psame_any (a b : Option Addr) (n m ca cb : Nat) (l k : List V5) (w : World) (hl : Hid (l.length = n)) (hk : Hid (k.length = m)) (hn : n ≤ 100000) (hm : m ≤ 100000) (ra : Hid (Reads5 w a l)) (rb : Hid (Reads5 w b k)) (r : Bool) (HR : Hid (decide (l = k) = r)) : Calls Try.prog 26 #[.slice a n ca, .slice b m cb] w fun e w' => e = .returned (.bool r) ∧ Below w.heap.size w w' := by
  go_enter Try.func26, Try.ntmps26
  go_wp2_with (go_at_call 58; refine (sleq_any a b n m ca cb l k _ hl hk hn hm ra rb r HR).mono ?_; rintro e w1 ⟨rfl, hB⟩; have B1 := Lib.hid hB; clear hB)
  go_ret
  exact ⟨rfl, B1.out⟩
end Go.Proofs.Ytdahaajfkjmflaa.s14

namespace Go.Proofs.Ytdahaajfkjmflaa.s14
set_option linter.unusedVariables false
set_option linter.unusedSimpArgs false
open Go.RowKit
open kit

open s13

open Go.Shelf
theorem cell_le (v : Int) (h : v = -1) : decide (v ≤ 0) = true := by subst h; rfl
set_option maxRecDepth 100000 in
set_option maxHeartbeats 20000000 in
theorem rmerge_any (a b : Option Addr) (n m ca cb : Nat) (A B : List (List Int)) (w : World) (hn : Hid (A.length = n)) (hm : Hid (B.length = m)) (ha : n ≤ ca) (hb : m ≤ cb) (hsz : n + m ≤ 100000) (hA : Hid (∀ x ∈ A, okL 8 x)) (hB : Hid (∀ x ∈ B, okL 8 x)) (ra : Hid (Reads5 w a (A.map pad5))) (rb : Hid (Reads5 w b (B.map pad5))) (R : List (List Int)) (N : Nat) (HR : Hid (mrg kU A B = R)) (HN : Hid (R.length = N)) :
    Calls Try.prog 53 #[.slice a n ca, .slice b m cb] w fun e w' => ∃ p cp, e = .returned (.slice p N cp) ∧ Reads5 w' p (R.map pad5) ∧ Below w.heap.size w w' ∧ N ≤ cp := by
  go_enter Try.func53, Try.ntmps53
  go_wp2
  go_loopw [0, 1, 5] (fun va vb vm wr => ∃ (A B D : List (List Int)) (a b : Option Addr) (n m ca cb : Nat), va = .slice a n ca ∧ vb = .slice b m cb ∧ n ≤ ca ∧ m ≤ cb ∧ Hid (A.length = n) ∧ Hid (B.length = m) ∧ Hid (D.length + n + m ≤ 100000) ∧ Hid (RelM kU w R A B D a b vm wr)) (fun va vb _ _ => slen va + slen vb)
  case atStart => exact ⟨A, B, [], a, b, n, m, ca, cb, rfl, rfl, ha, hb, hn, hm, Lib.hid (by simpa using hsz), Lib.hid ⟨ra.out, rb.out, HR.out, hA.out, hB.out, World.ownsRow_nil _ _ _ _, Below.refl _ _⟩⟩
  case round =>
    clear hn hm ha hb hsz hA hB ra rb
    obtain ⟨A, B, D, a, b, n, m, ca, cb, rfl, rfl, ha, hb, hn, hm, hsz, HREL⟩ := hrel
    have hws9 := HREL.out.hb.size
    rcases A with _ | ⟨x, A⟩
    · obtain rfl : n = 0 := hn.out.symm
      rcases B with _ | ⟨y, B⟩
      · obtain rfl : m = 0 := hm.out.symm
        have hR := HREL.out.eq
        rw [mrg_nil, List.append_nil] at hR
        subst hR
        have hrow := HREL.out.row
        rw [HN.out] at hrow
        obtain ⟨p, cp, rfl, hcp⟩ := row5_shape hrow
        have HROW := Lib.hid hrow
        clear hrow
        go_wp2
        go_ret
        exact ⟨p, cp, rfl, reads5_of_row (by rw [List.length_map]; exact HN.out) HROW.out, HREL.out.hb, hcp⟩
      · obtain ⟨m, rfl⟩ : ∃ k, m = k + 1 := ⟨B.length, hm.out.symm⟩
        have HLB : Hid (B.length = m) := Lib.hid (by have := hm.out; simpa using this)
        have pm : (0 : Int) < ((m + 1 : Nat) : Int) := by omega
        have zm : ¬ ((m + 1 : Nat) : Int) = 0 := by omega
        obtain ⟨gy, oy, rfl, hgy, haty, htly⟩ := reads_head HREL.out.rb
        have HTy := Lib.hid htly
        have hoy := Lib.hid (HREL.out.ob y (List.mem_cons_self ..))
        obtain ⟨⟨y0, y1, y2, y3, y4⟩, hy⟩ : ∃ v, pad5 y = v := ⟨_, rfl⟩
        rw [hy] at haty
        have Hy := Lib.hid hy
        have HAy := Lib.hid (haty.below HREL.out.hb)
        clear htly haty hy
        have hR := HREL.out.eq
        rw [mrg_right] at hR
        have HEQ := Lib.hid hR
        clear hR hm
        obtain ⟨qy, hqy, HQy⟩ : ∃ q, (if cb = 1 then some (⟨gy, oy, none⟩ : Addr) else some ⟨gy, oy + 5, none⟩) = q ∧ Hid (Reads5 w q (B.map pad5)) := ⟨_, rfl, Lib.hid (tail_if (by have := HLB.out; omega) HTy.out)⟩
        by_cases kcb : cb = 1
        · obtain ⟨c0y, c1y, c2y, c3y, c4y⟩ := HAy.out
          have hqq := hqy
          rw [if_pos kcb] at hqq
          subst hqq
          clear hqy
          go_wp2_with (at_builtin; refine append_in5 rfl (.tmp 40) (.tmp 44) rfl w.heap.size _ D.length _ rfl (own5_below HREL.out.row ((Below.refl _ _).alloc (Nat.le_refl _) _)) _ [(y0, y1, y2, y3, y4)] 1 1 rfl rfl (by decide) (reads5_block (Box.new _ 25 #[.int .i64 y0, .int .i64 y1, .int .i64 y2, .int .i64 y3, .int .i64 y4]) rfl) (by have := hsz.out; omega) (by simp; omega) ?_; intro v3 w3 hv3 hB3; have O3 := Lib.hid hv3; have B3 := Lib.hid ((HREL.out.hb.alloc hws9 (.cells #[.int .i64 y0, .int .i64 y1, .int .i64 y2, .int .i64 y3, .int .i64 y4] 25)).trans hB3); clear hv3 hB3)
          refine ⟨⟨[], B, D ++ [y], a, _, 0, m, ca, 0, rfl, rfl, ha, (by omega), hn, HLB, Lib.hid (by have := hsz.out; simp; omega), Lib.hid ⟨Reads5.nil _ _, HQy.out, ?_, (by simp), (fun z hz => HREL.out.ob z (List.mem_cons_of_mem _ hz)), ?_, B3.out⟩⟩, by simp [slen]; try omega⟩
          · have h := HEQ.out; simpa [one, kU] using h
          · have h := O3.out; rw [List.length_append, List.map_append, List.map_singleton, Hy.out]; exact h
        · obtain ⟨c0y, c1y, c2y, c3y, c4y⟩ := HAy.out
          have hqq := hqy
          rw [if_neg kcb] at hqq
          subst hqq
          clear hqy
          go_wp2_with (at_builtin; refine append_in5 rfl (.tmp 40) (.tmp 44) rfl w.heap.size _ D.length _ rfl (own5_below HREL.out.row ((Below.refl _ _).alloc (Nat.le_refl _) _)) _ [(y0, y1, y2, y3, y4)] 1 1 rfl rfl (by decide) (reads5_block (Box.new _ 25 #[.int .i64 y0, .int .i64 y1, .int .i64 y2, .int .i64 y3, .int .i64 y4]) rfl) (by have := hsz.out; omega) (by simp; omega) ?_; intro v3 w3 hv3 hB3; have O3 := Lib.hid hv3; have B3 := Lib.hid ((HREL.out.hb.alloc hws9 (.cells #[.int .i64 y0, .int .i64 y1, .int .i64 y2, .int .i64 y3, .int .i64 y4] 25)).trans hB3); clear hv3 hB3)
          refine ⟨⟨[], B, D ++ [y], a, _, 0, m, ca, (cb - 1), rfl, rfl, ha, (by omega), hn, HLB, Lib.hid (by have := hsz.out; simp; omega), Lib.hid ⟨Reads5.nil _ _, HQy.out, ?_, (by simp), (fun z hz => HREL.out.ob z (List.mem_cons_of_mem _ hz)), ?_, B3.out⟩⟩, by simp [slen]; try omega⟩
          · have h := HEQ.out; simpa [one, kU] using h
          · have h := O3.out; rw [List.length_append, List.map_append, List.map_singleton, Hy.out]; exact h
    · obtain ⟨n, rfl⟩ : ∃ k, n = k + 1 := ⟨A.length, hn.out.symm⟩
      have HLA : Hid (A.length = n) := Lib.hid (by have := hn.out; simpa using this)
      have pn : (0 : Int) < ((n + 1 : Nat) : Int) := by omega
      have zn : ¬ ((n + 1 : Nat) : Int) = 0 := by omega
      obtain ⟨gx, ox, rfl, hgx, hatx, htlx⟩ := reads_head HREL.out.ra
      have HTx := Lib.hid htlx
      have hox := Lib.hid (HREL.out.oa x (List.mem_cons_self ..))
      obtain ⟨⟨x0, x1, x2, x3, x4⟩, hx⟩ : ∃ v, pad5 x = v := ⟨_, rfl⟩
      rw [hx] at hatx
      have Hx := Lib.hid hx
      have HAx := Lib.hid (hatx.below HREL.out.hb)
      clear htlx hatx hx
      rcases B with _ | ⟨y, B⟩
      · obtain rfl : m = 0 := hm.out.symm
        have hR := HREL.out.eq
        rw [mrg_left] at hR
        have HEQ := Lib.hid hR
        clear hR hn
        obtain ⟨qx, hqx, HQx⟩ : ∃ q, (if ca = 1 then some (⟨gx, ox, none⟩ : Addr) else some ⟨gx, ox + 5, none⟩) = q ∧ Hid (Reads5 w q (A.map pad5)) := ⟨_, rfl, Lib.hid (tail_if (by have := HLA.out; omega) HTx.out)⟩
        by_cases kca : ca = 1
        · obtain ⟨c0x, c1x, c2x, c3x, c4x⟩ := HAx.out
          have hqq := hqx
          rw [if_pos kca] at hqq
          subst hqq
          clear hqx
          go_wp2_with (at_builtin; refine append_in5 rfl (.tmp 30) (.tmp 34) rfl w.heap.size _ D.length _ rfl (own5_below HREL.out.row ((Below.refl _ _).alloc (Nat.le_refl _) _)) _ [(x0, x1, x2, x3, x4)] 1 1 rfl rfl (by decide) (reads5_block (Box.new _ 25 #[.int .i64 x0, .int .i64 x1, .int .i64 x2, .int .i64 x3, .int .i64 x4]) rfl) (by have := hsz.out; omega) (by simp; omega) ?_; intro v3 w3 hv3 hB3; have O3 := Lib.hid hv3; have B3 := Lib.hid ((HREL.out.hb.alloc hws9 (.cells #[.int .i64 x0, .int .i64 x1, .int .i64 x2, .int .i64 x3, .int .i64 x4] 25)).trans hB3); clear hv3 hB3)
          refine ⟨⟨A, [], D ++ [x], _, b, n, 0, 0, cb, rfl, rfl, (by omega), hb, HLA, hm, Lib.hid (by have := hsz.out; simp; omega), Lib.hid ⟨HQx.out, Reads5.nil _ _, ?_, (fun z hz => HREL.out.oa z (List.mem_cons_of_mem _ hz)), (by simp), ?_, B3.out⟩⟩, by simp [slen]; try omega⟩
          · have h := HEQ.out; simpa [one, kU] using h
          · have h := O3.out; rw [List.length_append, List.map_append, List.map_singleton, Hx.out]; exact h
        · obtain ⟨c0x, c1x, c2x, c3x, c4x⟩ := HAx.out
          have hqq := hqx
          rw [if_neg kca] at hqq
          subst hqq
          clear hqx
          go_wp2_with (at_builtin; refine append_in5 rfl (.tmp 30) (.tmp 34) rfl w.heap.size _ D.length _ rfl (own5_below HREL.out.row ((Below.refl _ _).alloc (Nat.le_refl _) _)) _ [(x0, x1, x2, x3, x4)] 1 1 rfl rfl (by decide) (reads5_block (Box.new _ 25 #[.int .i64 x0, .int .i64 x1, .int .i64 x2, .int .i64 x3, .int .i64 x4]) rfl) (by have := hsz.out; omega) (by simp; omega) ?_; intro v3 w3 hv3 hB3; have O3 := Lib.hid hv3; have B3 := Lib.hid ((HREL.out.hb.alloc hws9 (.cells #[.int .i64 x0, .int .i64 x1, .int .i64 x2, .int .i64 x3, .int .i64 x4] 25)).trans hB3); clear hv3 hB3)
          refine ⟨⟨A, [], D ++ [x], _, b, n, 0, (ca - 1), cb, rfl, rfl, (by omega), hb, HLA, hm, Lib.hid (by have := hsz.out; simp; omega), Lib.hid ⟨HQx.out, Reads5.nil _ _, ?_, (fun z hz => HREL.out.oa z (List.mem_cons_of_mem _ hz)), (by simp), ?_, B3.out⟩⟩, by simp [slen]; try omega⟩
          · have h := HEQ.out; simpa [one, kU] using h
          · have h := O3.out; rw [List.length_append, List.map_append, List.map_singleton, Hx.out]; exact h
      · obtain ⟨m, rfl⟩ : ∃ k, m = k + 1 := ⟨B.length, hm.out.symm⟩
        have HLB : Hid (B.length = m) := Lib.hid (by have := hm.out; simpa using this)
        have pm : (0 : Int) < ((m + 1 : Nat) : Int) := by omega
        have zm : ¬ ((m + 1 : Nat) : Int) = 0 := by omega
        obtain ⟨gy, oy, rfl, hgy, haty, htly⟩ := reads_head HREL.out.rb
        have HTy := Lib.hid htly
        have hoy := Lib.hid (HREL.out.ob y (List.mem_cons_self ..))
        obtain ⟨⟨y0, y1, y2, y3, y4⟩, hy⟩ : ∃ v, pad5 y = v := ⟨_, rfl⟩
        rw [hy] at haty
        have Hy := Lib.hid hy
        have HAy := Lib.hid (haty.below HREL.out.hb)
        clear htly haty hy
        obtain ⟨qx, hqx, HQx⟩ : ∃ q, (if ca = 1 then some (⟨gx, ox, none⟩ : Addr) else some ⟨gx, ox + 5, none⟩) = q ∧ Hid (Reads5 w q (A.map pad5)) := ⟨_, rfl, Lib.hid (tail_if (by have := HLA.out; omega) HTx.out)⟩
        obtain ⟨qy, hqy, HQy⟩ : ∃ q, (if cb = 1 then some (⟨gy, oy, none⟩ : Addr) else some ⟨gy, oy + 5, none⟩) = q ∧ Hid (Reads5 w q (B.map pad5)) := ⟨_, rfl, Lib.hid (tail_if (by have := HLB.out; omega) HTy.out)⟩
        obtain ⟨v, hv⟩ : ∃ v, cmpL x y = v := ⟨_, rfl⟩
        have HCV := Lib.hid ((cmpE_ok hox.out hoy.out Hx.out Hy.out).trans (by rw [hv]))
        have hv3 := cmpL_range x y
        rw [hv] at hv3
        have HV := Lib.hid hv
        clear hv
        obtain ⟨zx0, zx1, zx2, zx3, zx4⟩ := At5.later2 HAx.out
        obtain ⟨zy0, zy1, zy2, zy3, zy4⟩ := At5.later2 HAy.out
        simp only at zx0 zx1 zx2 zx3 zx4 zy0 zy1 zy2 zy3 zy4
        go_wp2_with (fail)
        refine wp_region_later (by kernel_rfl) (by kernel_rfl) ?_
        repeat (go_big_quiet_step ((first | (go_at_call 45; exact calls_later (rcmp_any x0 x1 x2 x3 x4 y0 y1 y2 y3 y4 v _ HCV)))))
        refine wpQuiet_nil ?_
        rintro w5 ⟨p5, rfl⟩
        have B5 := Lib.hid (below_then HREL.out.hb p5.h)
        have W5 := Lib.hid p5.h
        generalize p5.W = w6 at B5 W5 ⊢
        have hws6 := B5.out.size
        clear zx0 zx1 zx2 zx3 zx4 zy0 zy1 zy2 zy3 zy4
        rcases hv3 with rfl | rfl | rfl
        · by_cases kca : ca = 1
          · obtain ⟨c0x, c1x, c2x, c3x, c4x⟩ := HAx.out.below W5.out
            have hqqx := hqx
            rw [if_pos kca] at hqqx
            subst hqqx
            clear hqx
            go_wp2_with (at_builtin; refine append_in5 rfl (.tmp 30) (.tmp 34) rfl w.heap.size _ D.length _ rfl (own5_below (own5_below HREL.out.row W5.out) ((Below.refl _ _).alloc (Nat.le_refl _) _)) _ [(x0, x1, x2, x3, x4)] 1 1 rfl rfl (by decide) (reads5_block (Box.new _ 25 #[.int .i64 x0, .int .i64 x1, .int .i64 x2, .int .i64 x3, .int .i64 x4]) rfl) (by have := hsz.out; omega) (by simp; omega) ?_; intro v3 w3 hv3 hB3; have O3 := Lib.hid hv3; have B3 := Lib.hid ((B5.out.alloc hws6 (.cells #[.int .i64 x0, .int .i64 x1, .int .i64 x2, .int .i64 x3, .int .i64 x4] 25)).trans hB3); clear hv3 hB3)
            refine ⟨⟨A, (y :: B), D ++ [x], _, _, n, (m + 1), 0, cb, rfl, rfl, (by omega), hb, HLA, hm, Lib.hid (by have := hsz.out; simp; omega), Lib.hid ⟨HQx.out, HREL.out.rb, ?_, (fun z hz => HREL.out.oa z (List.mem_cons_of_mem _ hz)), HREL.out.ob, ?_, B3.out⟩⟩, by simp [slen]; try omega⟩
            · have h := HREL.out.eq; rw [mrg_lt _ _ _ _ _ (by rw [HV.out]; omega)] at h; simpa [one, kU] using h
            · have h := O3.out; rw [List.length_append, List.map_append, List.map_singleton, Hx.out]; exact h
          · obtain ⟨c0x, c1x, c2x, c3x, c4x⟩ := HAx.out.below W5.out
            have hqqx := hqx
            rw [if_neg kca] at hqqx
            subst hqqx
            clear hqx
            go_wp2_with (at_builtin; refine append_in5 rfl (.tmp 30) (.tmp 34) rfl w.heap.size _ D.length _ rfl (own5_below (own5_below HREL.out.row W5.out) ((Below.refl _ _).alloc (Nat.le_refl _) _)) _ [(x0, x1, x2, x3, x4)] 1 1 rfl rfl (by decide) (reads5_block (Box.new _ 25 #[.int .i64 x0, .int .i64 x1, .int .i64 x2, .int .i64 x3, .int .i64 x4]) rfl) (by have := hsz.out; omega) (by simp; omega) ?_; intro v3 w3 hv3 hB3; have O3 := Lib.hid hv3; have B3 := Lib.hid ((B5.out.alloc hws6 (.cells #[.int .i64 x0, .int .i64 x1, .int .i64 x2, .int .i64 x3, .int .i64 x4] 25)).trans hB3); clear hv3 hB3)
            refine ⟨⟨A, (y :: B), D ++ [x], _, _, n, (m + 1), (ca - 1), cb, rfl, rfl, (by omega), hb, HLA, hm, Lib.hid (by have := hsz.out; simp; omega), Lib.hid ⟨HQx.out, HREL.out.rb, ?_, (fun z hz => HREL.out.oa z (List.mem_cons_of_mem _ hz)), HREL.out.ob, ?_, B3.out⟩⟩, by simp [slen]; try omega⟩
            · have h := HREL.out.eq; rw [mrg_lt _ _ _ _ _ (by rw [HV.out]; omega)] at h; simpa [one, kU] using h
            · have h := O3.out; rw [List.length_append, List.map_append, List.map_singleton, Hx.out]; exact h
        · by_cases kca : ca = 1
          · by_cases kcb : cb = 1
            · obtain ⟨c0x, c1x, c2x, c3x, c4x⟩ := HAx.out.below W5.out
              have hqqx := hqx
              rw [if_pos kca] at hqqx
              subst hqqx
              clear hqx
              have hqqy := hqy
              rw [if_pos kcb] at hqqy
              subst hqqy
              clear hqy
              go_wp2_with (at_builtin; refine append_in5 rfl (.tmp 30) (.tmp 34) rfl w.heap.size _ D.length _ rfl (own5_below (own5_below HREL.out.row W5.out) ((Below.refl _ _).alloc (Nat.le_refl _) _)) _ [(x0, x1, x2, x3, x4)] 1 1 rfl rfl (by decide) (reads5_block (Box.new _ 25 #[.int .i64 x0, .int .i64 x1, .int .i64 x2, .int .i64 x3, .int .i64 x4]) rfl) (by have := hsz.out; omega) (by simp; omega) ?_; intro v3 w3 hv3 hB3; have O3 := Lib.hid hv3; have B3 := Lib.hid ((B5.out.alloc hws6 (.cells #[.int .i64 x0, .int .i64 x1, .int .i64 x2, .int .i64 x3, .int .i64 x4] 25)).trans hB3); clear hv3 hB3)
              refine ⟨⟨A, B, D ++ [x], _, _, n, m, 0, 0, rfl, rfl, (by omega), (by omega), HLA, HLB, Lib.hid (by have := hsz.out; simp; omega), Lib.hid ⟨HQx.out, HQy.out, ?_, (fun z hz => HREL.out.oa z (List.mem_cons_of_mem _ hz)), (fun z hz => HREL.out.ob z (List.mem_cons_of_mem _ hz)), ?_, B3.out⟩⟩, by simp [slen]; try omega⟩
              · have h := HREL.out.eq; rw [mrg_eq _ _ _ _ _ HV.out, ← cmpL_zero HV.out] at h; simpa [one, kU] using h
              · have h := O3.out; rw [List.length_append, List.map_append, List.map_singleton, Hx.out]; exact h
            · obtain ⟨c0x, c1x, c2x, c3x, c4x⟩ := HAx.out.below W5.out
              have hqqx := hqx
              rw [if_pos kca] at hqqx
              subst hqqx
              clear hqx
              have hqqy := hqy
              rw [if_neg kcb] at hqqy
              subst hqqy
              clear hqy
              go_wp2_with (at_builtin; refine append_in5 rfl (.tmp 30) (.tmp 34) rfl w.heap.size _ D.length _ rfl (own5_below (own5_below HREL.out.row W5.out) ((Below.refl _ _).alloc (Nat.le_refl _) _)) _ [(x0, x1, x2, x3, x4)] 1 1 rfl rfl (by decide) (reads5_block (Box.new _ 25 #[.int .i64 x0, .int .i64 x1, .int .i64 x2, .int .i64 x3, .int .i64 x4]) rfl) (by have := hsz.out; omega) (by simp; omega) ?_; intro v3 w3 hv3 hB3; have O3 := Lib.hid hv3; have B3 := Lib.hid ((B5.out.alloc hws6 (.cells #[.int .i64 x0, .int .i64 x1, .int .i64 x2, .int .i64 x3, .int .i64 x4] 25)).trans hB3); clear hv3 hB3)
              refine ⟨⟨A, B, D ++ [x], _, _, n, m, 0, (cb - 1), rfl, rfl, (by omega), (by omega), HLA, HLB, Lib.hid (by have := hsz.out; simp; omega), Lib.hid ⟨HQx.out, HQy.out, ?_, (fun z hz => HREL.out.oa z (List.mem_cons_of_mem _ hz)), (fun z hz => HREL.out.ob z (List.mem_cons_of_mem _ hz)), ?_, B3.out⟩⟩, by simp [slen]; try omega⟩
              · have h := HREL.out.eq; rw [mrg_eq _ _ _ _ _ HV.out, ← cmpL_zero HV.out] at h; simpa [one, kU] using h
              · have h := O3.out; rw [List.length_append, List.map_append, List.map_singleton, Hx.out]; exact h
          · by_cases kcb : cb = 1
            · obtain ⟨c0x, c1x, c2x, c3x, c4x⟩ := HAx.out.below W5.out
              have hqqx := hqx
              rw [if_neg kca] at hqqx
              subst hqqx
              clear hqx
              have hqqy := hqy
              rw [if_pos kcb] at hqqy
              subst hqqy
              clear hqy
              go_wp2_with (at_builtin; refine append_in5 rfl (.tmp 30) (.tmp 34) rfl w.heap.size _ D.length _ rfl (own5_below (own5_below HREL.out.row W5.out) ((Below.refl _ _).alloc (Nat.le_refl _) _)) _ [(x0, x1, x2, x3, x4)] 1 1 rfl rfl (by decide) (reads5_block (Box.new _ 25 #[.int .i64 x0, .int .i64 x1, .int .i64 x2, .int .i64 x3, .int .i64 x4]) rfl) (by have := hsz.out; omega) (by simp; omega) ?_; intro v3 w3 hv3 hB3; have O3 := Lib.hid hv3; have B3 := Lib.hid ((B5.out.alloc hws6 (.cells #[.int .i64 x0, .int .i64 x1, .int .i64 x2, .int .i64 x3, .int .i64 x4] 25)).trans hB3); clear hv3 hB3)
              refine ⟨⟨A, B, D ++ [x], _, _, n, m, (ca - 1), 0, rfl, rfl, (by omega), (by omega), HLA, HLB, Lib.hid (by have := hsz.out; simp; omega), Lib.hid ⟨HQx.out, HQy.out, ?_, (fun z hz => HREL.out.oa z (List.mem_cons_of_mem _ hz)), (fun z hz => HREL.out.ob z (List.mem_cons_of_mem _ hz)), ?_, B3.out⟩⟩, by simp [slen]; try omega⟩
              · have h := HREL.out.eq; rw [mrg_eq _ _ _ _ _ HV.out, ← cmpL_zero HV.out] at h; simpa [one, kU] using h
              · have h := O3.out; rw [List.length_append, List.map_append, List.map_singleton, Hx.out]; exact h
            · obtain ⟨c0x, c1x, c2x, c3x, c4x⟩ := HAx.out.below W5.out
              have hqqx := hqx
              rw [if_neg kca] at hqqx
              subst hqqx
              clear hqx
              have hqqy := hqy
              rw [if_neg kcb] at hqqy
              subst hqqy
              clear hqy
              go_wp2_with (at_builtin; refine append_in5 rfl (.tmp 30) (.tmp 34) rfl w.heap.size _ D.length _ rfl (own5_below (own5_below HREL.out.row W5.out) ((Below.refl _ _).alloc (Nat.le_refl _) _)) _ [(x0, x1, x2, x3, x4)] 1 1 rfl rfl (by decide) (reads5_block (Box.new _ 25 #[.int .i64 x0, .int .i64 x1, .int .i64 x2, .int .i64 x3, .int .i64 x4]) rfl) (by have := hsz.out; omega) (by simp; omega) ?_; intro v3 w3 hv3 hB3; have O3 := Lib.hid hv3; have B3 := Lib.hid ((B5.out.alloc hws6 (.cells #[.int .i64 x0, .int .i64 x1, .int .i64 x2, .int .i64 x3, .int .i64 x4] 25)).trans hB3); clear hv3 hB3)
              refine ⟨⟨A, B, D ++ [x], _, _, n, m, (ca - 1), (cb - 1), rfl, rfl, (by omega), (by omega), HLA, HLB, Lib.hid (by have := hsz.out; simp; omega), Lib.hid ⟨HQx.out, HQy.out, ?_, (fun z hz => HREL.out.oa z (List.mem_cons_of_mem _ hz)), (fun z hz => HREL.out.ob z (List.mem_cons_of_mem _ hz)), ?_, B3.out⟩⟩, by simp [slen]; try omega⟩
              · have h := HREL.out.eq; rw [mrg_eq _ _ _ _ _ HV.out, ← cmpL_zero HV.out] at h; simpa [one, kU] using h
              · have h := O3.out; rw [List.length_append, List.map_append, List.map_singleton, Hx.out]; exact h
        · by_cases kcb : cb = 1
          · obtain ⟨c0y, c1y, c2y, c3y, c4y⟩ := HAy.out.below W5.out
            have hqqy := hqy
            rw [if_pos kcb] at hqqy
            subst hqqy
            clear hqy
            go_wp2_with (at_builtin; refine append_in5 rfl (.tmp 40) (.tmp 44) rfl w.heap.size _ D.length _ rfl (own5_below (own5_below HREL.out.row W5.out) ((Below.refl _ _).alloc (Nat.le_refl _) _)) _ [(y0, y1, y2, y3, y4)] 1 1 rfl rfl (by decide) (reads5_block (Box.new _ 25 #[.int .i64 y0, .int .i64 y1, .int .i64 y2, .int .i64 y3, .int .i64 y4]) rfl) (by have := hsz.out; omega) (by simp; omega) ?_; intro v3 w3 hv3 hB3; have O3 := Lib.hid hv3; have B3 := Lib.hid ((B5.out.alloc hws6 (.cells #[.int .i64 y0, .int .i64 y1, .int .i64 y2, .int .i64 y3, .int .i64 y4] 25)).trans hB3); clear hv3 hB3)
            refine ⟨⟨(x :: A), B, D ++ [y], _, _, (n + 1), m, ca, 0, rfl, rfl, ha, (by omega), hn, HLB, Lib.hid (by have := hsz.out; simp; omega), Lib.hid ⟨HREL.out.ra, HQy.out, ?_, HREL.out.oa, (fun z hz => HREL.out.ob z (List.mem_cons_of_mem _ hz)), ?_, B3.out⟩⟩, by simp [slen]; try omega⟩
            · have h := HREL.out.eq; rw [mrg_gt _ _ _ _ _ (by rw [HV.out]; omega)] at h; simpa [one, kU] using h
            · have h := O3.out; rw [List.length_append, List.map_append, List.map_singleton, Hy.out]; exact h
          · obtain ⟨c0y, c1y, c2y, c3y, c4y⟩ := HAy.out.below W5.out
            have hqqy := hqy
            rw [if_neg kcb] at hqqy
            subst hqqy
            clear hqy
            go_wp2_with (at_builtin; refine append_in5 rfl (.tmp 40) (.tmp 44) rfl w.heap.size _ D.length _ rfl (own5_below (own5_below HREL.out.row W5.out) ((Below.refl _ _).alloc (Nat.le_refl _) _)) _ [(y0, y1, y2, y3, y4)] 1 1 rfl rfl (by decide) (reads5_block (Box.new _ 25 #[.int .i64 y0, .int .i64 y1, .int .i64 y2, .int .i64 y3, .int .i64 y4]) rfl) (by have := hsz.out; omega) (by simp; omega) ?_; intro v3 w3 hv3 hB3; have O3 := Lib.hid hv3; have B3 := Lib.hid ((B5.out.alloc hws6 (.cells #[.int .i64 y0, .int .i64 y1, .int .i64 y2, .int .i64 y3, .int .i64 y4] 25)).trans hB3); clear hv3 hB3)
            refine ⟨⟨(x :: A), B, D ++ [y], _, _, (n + 1), m, ca, (cb - 1), rfl, rfl, ha, (by omega), hn, HLB, Lib.hid (by have := hsz.out; simp; omega), Lib.hid ⟨HREL.out.ra, HQy.out, ?_, HREL.out.oa, (fun z hz => HREL.out.ob z (List.mem_cons_of_mem _ hz)), ?_, B3.out⟩⟩, by simp [slen]; try omega⟩
            · have h := HREL.out.eq; rw [mrg_gt _ _ _ _ _ (by rw [HV.out]; omega)] at h; simpa [one, kU] using h
            · have h := O3.out; rw [List.length_append, List.map_append, List.map_singleton, Hy.out]; exact h
end Go.Proofs.Ytdahaajfkjmflaa.s14

namespace Go.Proofs.Ytdahaajfkjmflaa.s14
set_option linter.unusedVariables false
set_option linter.unusedSimpArgs false
open Go.RowKit
open kit

open s13

/-- equal ones side by side count once -/
def compV : List V5 → List V5
  | [] => []
  | [x] => [x]
  | x :: y :: l => if x = y then compV (y :: l) else x :: compV (y :: l)
/-- what follows the string x in it -/
def tailV : V5 → List V5 → List V5
  | _, [] => []
  | x, y :: l => if x = y then tailV y l else y :: tailV y l
theorem compV_tail (l : List V5) : ∀ x, compV (x :: l) = x :: tailV x l := by
  induction l with
  | nil => intro x; rfl
  | cons y l ih =>
    intro x
    unfold compV tailV
    by_cases e : x = y
    · rw [if_pos e, if_pos e, ih y, e]
    · rw [if_neg e, if_neg e, ih y]
theorem pad5_eq {x y : List Int} (hx : x.length ≤ 4) : pad5 x = pad5 y ↔ x = y := ⟨fun h => pad5_inj hx h, fun h => by rw [h]⟩
theorem compV_pad : ∀ (L : List (List Int)), (∀ x ∈ L, x.length ≤ 4) → compV (L.map pad5) = (compL L).map pad5
  | [], _ => rfl
  | [x], _ => rfl
  | x :: y :: l, h => by
    have ih := compV_pad (y :: l) (fun z hz => h z (List.mem_cons_of_mem _ hz))
    rw [List.map_cons, List.map_cons] at *
    unfold compV compL
    by_cases e : x = y
    · rw [if_pos e, if_pos (by rw [e]), ih]
    · rw [if_neg e, if_neg (fun k => e (pad5_inj (h x (List.mem_cons_self ..)) k)), ih]; rfl
theorem tailV_len (l : List V5) : ∀ x, (tailV x l).length ≤ l.length := by
  induction l with
  | nil => intro x; simp [tailV]
  | cons y l ih => intro x; unfold tailV; have := ih y; split <;> simp <;> omega
theorem compV_len (l : List V5) : (compV l).length ≤ l.length := by
  cases l with
  | nil => simp [compV]
  | cons x l => rw [compV_tail]; have := tailV_len l x; simp; omega
/-- block g holds m at its beginning -/
abbrev Row5 (w : World) (g : Nat) (m : List V5) : Prop := Arr id undef 25 w g (flat5 m)
theorem row5_at {w : World} {g : Nat} {m : List V5} (h : Row5 w g m) (i : Nat) (hi : i < m.length) : At5 w g (i * 5) (m[i]?.getD no5) ∧ ∀ j, j < 5 → w.frozen? ⟨g, i * 5 + j, none⟩ = false := by
  have c : ∀ j, j < 5 → w.cell? ⟨g, i * 5 + j, none⟩ = (cells5 (m[i]?.getD no5))[j]? ∧ w.frozen? ⟨g, i * 5 + j, none⟩ = false := fun j hj => by
    obtain ⟨h1, h2⟩ := h.cell (i * 5 + j) (by rw [flat5_len]; omega)
    refine ⟨?_, h2⟩
    rw [h1, flat5_at m i hi j hj]
    have : j < (cells5 (m[i]?.getD no5)).length := hj
    rw [List.getElem?_eq_getElem this]; rfl
  exact ⟨⟨(c 0 (by omega)).1, (c 1 (by omega)).1, (c 2 (by omega)).1, (c 3 (by omega)).1, (c 4 (by omega)).1⟩, fun j hj => (c j hj).2⟩
theorem flat5_set (x : V5) : ∀ (m : List V5) (i : Nat), i < m.length → flat5 (m.set i x) = (((((flat5 m).set (i * 5) (.int .i64 x.1)).set (i * 5 + 1) (.int .i64 x.2.1)).set (i * 5 + 2) (.int .i64 x.2.2.1)).set (i * 5 + 3) (.int .i64 x.2.2.2.1)).set (i * 5 + 4) (.int .i64 x.2.2.2.2)
  | y :: m, 0, _ => by simp [flat5, cells5, List.flatMap_cons]
  | y :: m, i + 1, h => by
    have ih := flat5_set x m i (by simpa using h)
    unfold flat5 at *
    rw [List.set_cons_succ, List.flatMap_cons, List.flatMap_cons, ih]
    simp only [cells5, List.cons_append, List.nil_append]
    rw [show (i + 1) * 5 = i * 5 + 1 + 1 + 1 + 1 + 1 by omega]
    simp only [List.set_cons_succ, Nat.add_assoc, Nat.reduceAdd]
theorem row5_set {w : World} {g : Nat} {m : List V5} (h : Row5 w g m) (i : Nat) (hi : i < m.length) (x0 x1 x2 x3 x4 : Int) :
    Row5 (((((w.setCell ⟨g, i * 5, none⟩ (.int .i64 x0)).setCell ⟨g, i * 5 + 1, none⟩ (.int .i64 x1)).setCell ⟨g, i * 5 + 2, none⟩ (.int .i64 x2)).setCell ⟨g, i * 5 + 3, none⟩ (.int .i64 x3)).setCell ⟨g, i * 5 + 4, none⟩ (.int .i64 x4)) g (m.set i (x0, x1, x2, x3, x4)) := by
  have hl := flat5_len m
  unfold Row5
  rw [flat5_set _ m i hi]
  exact ((((h.set (i * 5) (by omega) (.int .i64 x0)).set (i * 5 + 1) (by simp; omega) (.int .i64 x1)).set (i * 5 + 2) (by simp; omega) (.int .i64 x2)).set (i * 5 + 3) (by simp; omega) (.int .i64 x3)).set (i * 5 + 4) (by simp; omega) (.int .i64 x4)
theorem row5_reads {w : World} {g : Nat} {m : List V5} (h : Row5 w g m) : Reads5 w (some ⟨g, 0, none⟩) m := fun i hi => ⟨g, 0, rfl, h.lt, by rw [Nat.zero_add]; exact (row5_at h i hi).1⟩
theorem row5_of {w : World} {base n : Nat} {v : Value} {l : List V5} (hn : l.length = n) (hpos : 0 < n) (h : w.ownsRow base 25 5 v n (flat5 l)) : ∃ g cap, v = .slice (some ⟨g, 0, none⟩) n cap ∧ n ≤ cap ∧ base ≤ g ∧ Row5 w g l := by
  rcases h.2 with ⟨_, h0⟩ | ⟨g, cap, cur, rfl, hb, hk, h1, h2, h3, h4⟩
  · omega
  · refine ⟨g, cap, rfl, h1, hb, cur, hk, by rw [flat5_len]; omega, fun i hi => ?_⟩
    have hi2 := hi
    rw [flat5_len] at hi2
    have : (cur.toList.take (n * 5))[i]? = (flat5 l)[i]? := by rw [h4]
    rw [List.getElem?_take, if_pos (by omega)] at this
    rw [List.getElem?_eq_getElem hi] at this ⊢
    simpa using this
theorem zero_look (w : World) : (zeroValue 25).run Try.prog w = .ok (.agg #[.int .i64 0, .int .i64 0, .int .i64 0, .int .i64 0, .int .i64 0]) w := by kernel_rfl
/-- clear(s), s a slice of n > 0 looks -/
theorem run_clear_looks (w : World) (ty : TypeId) (b o n c : Nat) (hn : 0 < n) (hc : ∀ j, j < n * 5 → (w.cell? ⟨b, o + j, none⟩).isSome = true) (hf : ∀ j, j < n * 5 → w.frozen? ⟨b, o + j, none⟩ = false) :
    (Builtin.clear_ #[22] ty #[.slice (some ⟨b, o, none⟩) n c]).run Try.prog w = .ok (.tuple #[]) (w.setCells b o (List.replicate (n * 5) (.int .i64 0))) := by
  have hzc : (Builtin.zeroCells (.agg #[.int .i64 0, .int .i64 0, .int .i64 0, .int .i64 0, .int .i64 0] : Value).cells n).toList = List.replicate (n * 5) (.int .i64 0) := by
    show (Builtin.zeroCells #[.int .i64 0, .int .i64 0, .int .i64 0, .int .i64 0, .int .i64 0] n).toList = _
    simp only [Builtin.zeroCells, Array.toList_map, Array.toList_range]
    apply List.ext_getElem
    · simp
    · intro i h1 h2
      have h5 : i % 5 < 5 := Nat.mod_lt _ (by omega)
      have hm : i % 5 = 0 ∨ i % 5 = 1 ∨ i % 5 = 2 ∨ i % 5 = 3 ∨ i % 5 = 4 := by omega
      simp only [List.getElem_map, List.getElem_range, List.getElem_replicate]
      show (#[.int .i64 0, .int .i64 0, .int .i64 0, .int .i64 0, .int .i64 0] : Array Value)[i % 5]! = _
      rcases hm with e | e | e | e | e <;> rw [e] <;> rfl
  have hst := run_storeCells_cells (P := Try.prog) b o (List.replicate (n * 5) (.int .i64 0)) 0 w (by simpa using hc) (by simpa using hf) (by intro v hv'; rw [List.eq_of_mem_replicate hv']; rfl)
  simp only [Nat.add_zero] at hst
  obtain ⟨m, rfl⟩ : ∃ m, n = m + 1 := ⟨n - 1, by omega⟩
  simp [Builtin.clear_, run_underlying Try.underlying22, zero_look, hzc, hst]
end Go.Proofs.Ytdahaajfkjmflaa.s14
