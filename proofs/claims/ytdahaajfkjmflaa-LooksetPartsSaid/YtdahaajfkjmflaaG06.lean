/-
  Layer 14: lists of looks compared; a look in a list. Layer 14: a list in memory that is written over; slices.Compact. Layer 14: slices.Compact.
-/
import Derived.Test.YtdahaajfkjmflaaG05
import Derived.Test.YtdahaajfkjmflaaG04
import Derived.BigRegion
namespace Go.Proofs.Ytdahaajfkjmflaa.s14
set_option linter.unusedVariables false
set_option linter.unusedSimpArgs false
open Go.RowKit
open kit

open s13

def lkV (x : V5) : Value := .agg #[.int .i64 x.1, .int .i64 x.2.1, .int .i64 x.2.2.1, .int .i64 x.2.2.2.1, .int .i64 x.2.2.2.2]
theorem neq_yes (x0 x1 x2 x3 x4 : Int) (W : World) : (binOp .neq 25 (.agg #[.int .i64 x0, .int .i64 x1, .int .i64 x2, .int .i64 x3, .int .i64 x4]) (.agg #[.int .i64 x0, .int .i64 x1, .int .i64 x2, .int .i64 x3, .int .i64 x4])).run Try.prog W = .ok (.bool false) W := by rw [neq_look, decide_eq_true ⟨rfl, rfl, rfl, rfl, rfl⟩]; rfl
theorem neq_no (x0 x1 x2 x3 x4 y0 y1 y2 y3 y4 : Int) (h : ¬ ((x0, x1, x2, x3, x4) : V5) = (y0, y1, y2, y3, y4)) (W : World) : (binOp .neq 25 (.agg #[.int .i64 x0, .int .i64 x1, .int .i64 x2, .int .i64 x3, .int .i64 x4]) (.agg #[.int .i64 y0, .int .i64 y1, .int .i64 y2, .int .i64 y3, .int .i64 y4])).run Try.prog W = .ok (.bool true) W := by rw [neq_look, decide_eq_false (fun e => h (by obtain ⟨rfl, rfl, rfl, rfl, rfl⟩ := e; rfl))]; rfl
theorem eql_yes (x0 x1 x2 x3 x4 : Int) (W : World) : (binOp .eql 25 (.agg #[.int .i64 x0, .int .i64 x1, .int .i64 x2, .int .i64 x3, .int .i64 x4]) (.agg #[.int .i64 x0, .int .i64 x1, .int .i64 x2, .int .i64 x3, .int .i64 x4])).run Try.prog W = .ok (.bool true) W := by rw [eql_look, decide_eq_true ⟨rfl, rfl, rfl, rfl, rfl⟩]
theorem eql_no (x0 x1 x2 x3 x4 y0 y1 y2 y3 y4 : Int) (h : ¬ ((x0, x1, x2, x3, x4) : V5) = (y0, y1, y2, y3, y4)) (W : World) : (binOp .eql 25 (.agg #[.int .i64 x0, .int .i64 x1, .int .i64 x2, .int .i64 x3, .int .i64 x4]) (.agg #[.int .i64 y0, .int .i64 y1, .int .i64 y2, .int .i64 y3, .int .i64 y4])).run Try.prog W = .ok (.bool false) W := by rw [eql_look, decide_eq_false (fun e => h (by obtain ⟨rfl, rfl, rfl, rfl, rfl⟩ := e; rfl))]
theorem take_more {l k : List V5} {i : Nat} (hl : i < l.length) (hk : i < k.length) (h : l.take i = k.take i) (e : l[i]?.getD no5 = k[i]?.getD no5) : l.take (i + 1) = k.take (i + 1) := by
  rw [List.getElem?_eq_getElem hl, List.getElem?_eq_getElem hk] at e
  have e2 : l[i] = k[i] := by simpa using e
  rw [List.take_succ_eq_append_getElem hl, List.take_succ_eq_append_getElem hk, h, e2]
theorem ne_at {l k : List V5} {i : Nat} (e : ¬ l[i]?.getD no5 = k[i]?.getD no5) : decide (l = k) = false := decide_eq_false (fun h => e (by rw [h]))
theorem At5.later2 {w : World} {b o : Nat} {x : V5} (h : At5 w b o x) : (∀ p : Later w, p.W.cell? ⟨b, o, none⟩ = some (.int .i64 x.1)) ∧ (∀ p : Later w, p.W.cell? ⟨b, o + 1, none⟩ = some (.int .i64 x.2.1)) ∧ (∀ p : Later w, p.W.cell? ⟨b, o + 2, none⟩ = some (.int .i64 x.2.2.1)) ∧ (∀ p : Later w, p.W.cell? ⟨b, o + 3, none⟩ = some (.int .i64 x.2.2.2.1)) ∧ (∀ p : Later w, p.W.cell? ⟨b, o + 4, none⟩ = some (.int .i64 x.2.2.2.2)) :=
  ⟨fun p => (At5.later h p).1, fun p => (At5.later h p).2.1, fun p => (At5.later h p).2.2.1, fun p => (At5.later h p).2.2.2.1, fun p => (At5.later h p).2.2.2.2⟩
set_option maxRecDepth 100000 in
set_option maxHeartbeats 4000000 in
theorem sleq_any (a b : Option Addr) (n m ca cb : Nat) (l k : List V5) (w : World) (hl : Hid (l.length = n)) (hk : Hid (k.length = m)) (hn : n ≤ 100000) (hm : m ≤ 100000) (ra : Hid (Reads5 w a l)) (rb : Hid (Reads5 w b k)) (r : Bool) (HR : Hid (decide (l = k) = r)) : Calls Try.prog 58 #[.slice a n ca, .slice b m cb] w fun e w' => e = .returned (.bool r) ∧ Below w.heap.size w w' := by
  by_cases hnm : n = m
  · subst hnm
    go_enter Try.func58, Try.ntmps58
    go_wp2
    go_loopw [13] (fun v wr => ∃ i : Nat, v = .int .i64 i ∧ i ≤ n ∧ Hid (l.take i = k.take i) ∧ Hid (Below w.heap.size w wr)) (fun v _ => n - (intOf v).toNat)
    case atStart => exact ⟨0, rfl, by omega, Lib.hid (by simp), Lib.hid (Below.refl _ _)⟩
    case round =>
      obtain ⟨i, rfl, hi, HT, HB⟩ := hrel
      by_cases hlt : i < n
      · have hil : i < l.length := by have := hl.out; omega
        have hik : i < k.length := by have := hk.out; omega
        obtain ⟨ga, oa, rfl, _, ha⟩ := (ra.out.below HB.out) i hil
        obtain ⟨gb, ob, rfl, _, hb⟩ := (rb.out.below HB.out) i hik
        have HTM := Lib.hid (take_more hil hik HT.out)
        have HNE := Lib.hid (ne_at (l := l) (k := k) (i := i))
        clear hil hik
        generalize l[i]?.getD no5 = x at ha HTM HNE
        generalize k[i]?.getD no5 = y at hb HTM HNE
        obtain ⟨x0, x1, x2, x3, x4⟩ := x
        obtain ⟨y0, y1, y2, y3, y4⟩ := y
        obtain ⟨z0, z1, z2, z3, z4⟩ := At5.later2 ha
        obtain ⟨e0, e1, e2, e3, e4⟩ := At5.later2 hb
        simp only at z0 z1 z2 z3 z4 e0 e1 e2 e3 e4
        have zg := guard_look
        clear ha hb
        by_cases hxy : ((x0, x1, x2, x3, x4) : V5) = (y0, y1, y2, y3, y4)
        · have HT2 := Lib.hid (HTM.out hxy)
          cases hxy
          have zq := neq_yes x0 x1 x2 x3 x4
          go_wp2
          refine wp_region_later (by kernel_rfl) (by kernel_rfl) ?_
          repeat (go_big_quiet_step (fail))
          refine wpQuiet_nil ?_
          rintro w5 ⟨p5, rfl⟩
          have B5 := Lib.hid (below_then HB.out p5.h)
          generalize p5.W = w6 at B5 ⊢
          clear z0 z1 z2 z3 z4 e0 e1 e2 e3 e4 zg zq
          go_wp2
          go_roundw
          case rel => exact ⟨i + 1, by go_num, by omega, HT2, B5⟩
          case measure => simp [intOf]; omega
        · have hr : r = false := HR.out.symm.trans (HNE.out hxy)
          subst hr
          have zq := neq_no x0 x1 x2 x3 x4 y0 y1 y2 y3 y4 hxy
          clear hxy
          go_wp2
          refine wp_region_later (by kernel_rfl) (by kernel_rfl) ?_
          repeat (go_big_quiet_step (fail))
          refine wpQuiet_nil ?_
          rintro w5 ⟨p5, rfl⟩
          have B5 := Lib.hid (below_then HB.out p5.h)
          generalize p5.W = w6 at B5 ⊢
          go_wp2
          go_ret
          exact ⟨rfl, B5.out⟩
      · obtain rfl : i = n := by omega
        have hr : r = true := by
          have h1 := HT.out
          rw [List.take_of_length_le (by rw [hl.out]; omega), List.take_of_length_le (by rw [hk.out]; omega)] at h1
          rw [← HR.out]; exact decide_eq_true h1
        subst hr
        go_wp2
        go_ret
        exact ⟨rfl, HB.out⟩
  · have hr : r = false := by
      rw [← HR.out]; exact decide_eq_false (fun e => hnm (by rw [← hl.out, ← hk.out, e]))
    subst hr
    have h1 : ¬ (n : Int) = m := by omega
    have h2 : ((n : Int) != m) = true := by simpa using h1
    go_enter Try.func58, Try.ntmps58
    go_wp2
    go_ret
    exact ⟨rfl, Below.refl _ _⟩
set_option maxRecDepth 100000 in
set_option maxHeartbeats 4000000 in
theorem rsame_any (a b : Option Addr) (n m ca cb : Nat) (l k : List V5) (w : World) (hl : Hid (l.length = n)) (hk : Hid (k.length = m)) (hn : n ≤ 100000) (hm : m ≤ 100000) (ra : Hid (Reads5 w a l)) (rb : Hid (Reads5 w b k)) (r : Bool) (HR : Hid (decide (l = k) = r)) : Calls Try.prog 27 #[.slice a n ca, .slice b m cb] w fun e w' => e = .returned (.bool r) ∧ Below w.heap.size w w' := by
  by_cases hnm : n = m
  · subst hnm
    go_enter Try.func27, Try.ntmps27
    go_wp2
    go_loopw [5] (fun v wr => ∃ i : Nat, v = .int .i64 i ∧ i ≤ n ∧ Hid (l.take i = k.take i) ∧ Hid (Below w.heap.size w wr)) (fun v _ => n - (intOf v).toNat)
    case atStart => exact ⟨0, rfl, by omega, Lib.hid (by simp), Lib.hid (Below.refl _ _)⟩
    case round =>
      obtain ⟨i, rfl, hi, HT, HB⟩ := hrel
      by_cases hlt : i < n
      · have hil : i < l.length := by have := hl.out; omega
        have hik : i < k.length := by have := hk.out; omega
        obtain ⟨ga, oa, rfl, _, ha⟩ := (ra.out.below HB.out) i hil
        obtain ⟨gb, ob, rfl, _, hb⟩ := (rb.out.below HB.out) i hik
        have HTM := Lib.hid (take_more hil hik HT.out)
        have HNE := Lib.hid (ne_at (l := l) (k := k) (i := i))
        clear hil hik
        generalize l[i]?.getD no5 = x at ha HTM HNE
        generalize k[i]?.getD no5 = y at hb HTM HNE
        obtain ⟨x0, x1, x2, x3, x4⟩ := x
        obtain ⟨y0, y1, y2, y3, y4⟩ := y
        obtain ⟨z0, z1, z2, z3, z4⟩ := At5.later2 ha
        obtain ⟨e0, e1, e2, e3, e4⟩ := At5.later2 hb
        simp only at z0 z1 z2 z3 z4 e0 e1 e2 e3 e4
        have zg := guard_look
        clear ha hb
        by_cases hxy : ((x0, x1, x2, x3, x4) : V5) = (y0, y1, y2, y3, y4)
        · have HT2 := Lib.hid (HTM.out hxy)
          cases hxy
          have zq := neq_yes x0 x1 x2 x3 x4
          go_wp2
          refine wp_region_later (by kernel_rfl) (by kernel_rfl) ?_
          repeat (go_big_quiet_step (fail))
          refine wpQuiet_nil ?_
          rintro w5 ⟨p5, rfl⟩
          have B5 := Lib.hid (below_then HB.out p5.h)
          generalize p5.W = w6 at B5 ⊢
          clear z0 z1 z2 z3 z4 e0 e1 e2 e3 e4 zg zq
          go_wp2
          go_roundw
          case rel => exact ⟨i + 1, by go_num, by omega, HT2, B5⟩
          case measure => simp [intOf]; omega
        · have hr : r = false := HR.out.symm.trans (HNE.out hxy)
          subst hr
          have zq := neq_no x0 x1 x2 x3 x4 y0 y1 y2 y3 y4 hxy
          clear hxy
          go_wp2
          refine wp_region_later (by kernel_rfl) (by kernel_rfl) ?_
          repeat (go_big_quiet_step (fail))
          refine wpQuiet_nil ?_
          rintro w5 ⟨p5, rfl⟩
          have B5 := Lib.hid (below_then HB.out p5.h)
          generalize p5.W = w6 at B5 ⊢
          go_wp2
          go_ret
          exact ⟨rfl, B5.out⟩
      · obtain rfl : i = n := by omega
        have hr : r = true := by
          have h1 := HT.out
          rw [List.take_of_length_le (by rw [hl.out]; omega), List.take_of_length_le (by rw [hk.out]; omega)] at h1
          rw [← HR.out]; exact decide_eq_true h1
        subst hr
        go_wp2
        go_ret
        exact ⟨rfl, HB.out⟩
  · have hr : r = false := by
      rw [← HR.out]; exact decide_eq_false (fun e => hnm (by rw [← hl.out, ← hk.out, e]))
    subst hr
    have h1 : ¬ (n : Int) = m := by omega
    have h2 : ((n : Int) != m) = true := by simpa using h1
    go_enter Try.func27, Try.ntmps27
    go_wp2
    go_ret
    exact ⟨rfl, Below.refl _ _⟩
set_option maxRecDepth 100000 in
set_option maxHeartbeats 4000000 in
theorem lsame_any (a b : Option Addr) (n m ca cb : Nat) (l k : List V5) (w : World) (hl : Hid (l.length = n)) (hk : Hid (k.length = m)) (hn : n ≤ 100000) (hm : m ≤ 100000) (ra : Hid (Reads5 w a l)) (rb : Hid (Reads5 w b k)) (r : Bool) (HR : Hid (decide (l = k) = r)) : Calls Try.prog 15 #[.slice a n ca, .slice b m cb] w fun e w' => e = .returned (.bool r) ∧ Below w.heap.size w w' := by
  by_cases hnm : n = m
  · subst hnm
    go_enter Try.func15, Try.ntmps15
    go_wp2
    go_loopw [5] (fun v wr => ∃ i : Nat, v = .int .i64 i ∧ i ≤ n ∧ Hid (l.take i = k.take i) ∧ Hid (Below w.heap.size w wr)) (fun v _ => n - (intOf v).toNat)
    case atStart => exact ⟨0, rfl, by omega, Lib.hid (by simp), Lib.hid (Below.refl _ _)⟩
    case round =>
      obtain ⟨i, rfl, hi, HT, HB⟩ := hrel
      by_cases hlt : i < n
      · have hil : i < l.length := by have := hl.out; omega
        have hik : i < k.length := by have := hk.out; omega
        obtain ⟨ga, oa, rfl, _, ha⟩ := (ra.out.below HB.out) i hil
        obtain ⟨gb, ob, rfl, _, hb⟩ := (rb.out.below HB.out) i hik
        have HTM := Lib.hid (take_more hil hik HT.out)
        have HNE := Lib.hid (ne_at (l := l) (k := k) (i := i))
        clear hil hik
        generalize l[i]?.getD no5 = x at ha HTM HNE
        generalize k[i]?.getD no5 = y at hb HTM HNE
        obtain ⟨x0, x1, x2, x3, x4⟩ := x
        obtain ⟨y0, y1, y2, y3, y4⟩ := y
        obtain ⟨z0, z1, z2, z3, z4⟩ := At5.later2 ha
        obtain ⟨e0, e1, e2, e3, e4⟩ := At5.later2 hb
        simp only at z0 z1 z2 z3 z4 e0 e1 e2 e3 e4
        have zg := guard_look
        clear ha hb
        by_cases hxy : ((x0, x1, x2, x3, x4) : V5) = (y0, y1, y2, y3, y4)
        · have HT2 := Lib.hid (HTM.out hxy)
          cases hxy
          have zq := neq_yes x0 x1 x2 x3 x4
          go_wp2
          refine wp_region_later (by kernel_rfl) (by kernel_rfl) ?_
          repeat (go_big_quiet_step (fail))
          refine wpQuiet_nil ?_
          rintro w5 ⟨p5, rfl⟩
          have B5 := Lib.hid (below_then HB.out p5.h)
          generalize p5.W = w6 at B5 ⊢
          clear z0 z1 z2 z3 z4 e0 e1 e2 e3 e4 zg zq
          go_wp2
          go_roundw
          case rel => exact ⟨i + 1, by go_num, by omega, HT2, B5⟩
          case measure => simp [intOf]; omega
        · have hr : r = false := HR.out.symm.trans (HNE.out hxy)
          subst hr
          have zq := neq_no x0 x1 x2 x3 x4 y0 y1 y2 y3 y4 hxy
          clear hxy
          go_wp2
          refine wp_region_later (by kernel_rfl) (by kernel_rfl) ?_
          repeat (go_big_quiet_step (fail))
          refine wpQuiet_nil ?_
          rintro w5 ⟨p5, rfl⟩
          have B5 := Lib.hid (below_then HB.out p5.h)
          generalize p5.W = w6 at B5 ⊢
          go_wp2
          go_ret
          exact ⟨rfl, B5.out⟩
      · obtain rfl : i = n := by omega
        have hr : r = true := by
          have h1 := HT.out
          rw [List.take_of_length_le (by rw [hl.out]; omega), List.take_of_length_le (by rw [hk.out]; omega)] at h1
          rw [← HR.out]; exact decide_eq_true h1
        subst hr
        go_wp2
        go_ret
        exact ⟨rfl, HB.out⟩
  · have hr : r = false := by
      rw [← HR.out]; exact decide_eq_false (fun e => hnm (by rw [← hl.out, ← hk.out, e]))
    subst hr
    have h1 : ¬ (n : Int) = m := by omega
    have h2 : ((n : Int) != m) = true := by simpa using h1
    go_enter Try.func15, Try.ntmps15
    go_wp2
    go_ret
    exact ⟨rfl, Below.refl _ _⟩
set_option maxRecDepth 100000 in
set_option maxHeartbeats 1000000 in
theorem psame_any (a b : Option Addr) (n m ca cb : Nat) (l k : List V5) (w : World) (hl : Hid (l.length = n)) (hk : Hid (k.length = m)) (hn : n ≤ 100000) (hm : m ≤ 100000) (ra : Hid (Reads5 w a l)) (rb : Hid (Reads5 w b k)) (r : Bool) (HR : Hid (decide (l = k) = r)) : Calls Try.prog 26 #[.slice a n ca, .slice b m cb] w fun e w' => e = .returned (.bool r) ∧ Below w.heap.size w w' := by
  go_enter Try.func26, Try.ntmps26
  go_wp2_with (go_at_call 58; refine (sleq_any a b n m ca cb l k _ hl hk hn hm ra rb r HR).mono ?_; rintro e w1 ⟨rfl, hB⟩; have B1 := Lib.hid hB; clear hB)
  go_ret
  exact ⟨rfl, B1.out⟩
end Go.Proofs.Ytdahaajfkjmflaa.s14

namespace Go.Proofs.Ytdahaajfkjmflaa.s14
set_option linter.unusedVariables false
set_option linter.unusedSimpArgs false
open Go.RowKit
open kit

open s13

/-- equal ones side by side count once -/
def compV : List V5 → List V5
  | [] => []
  | [x] => [x]
  | x :: y :: l => if x = y then compV (y :: l) else x :: compV (y :: l)
/-- what follows the string x in it -/
def tailV : V5 → List V5 → List V5
  | _, [] => []
  | x, y :: l => if x = y then tailV y l else y :: tailV y l
theorem compV_tail (l : List V5) : ∀ x, compV (x :: l) = x :: tailV x l := by
  induction l with
  | nil => intro x; rfl
  | cons y l ih =>
    intro x
    unfold compV tailV
    by_cases e : x = y
    · rw [if_pos e, if_pos e, ih y, e]
    · rw [if_neg e, if_neg e, ih y]
theorem pad5_eq {x y : List Int} (hx : x.length ≤ 4) : pad5 x = pad5 y ↔ x = y := ⟨fun h => pad5_inj hx h, fun h => by rw [h]⟩
theorem compV_pad : ∀ (L : List (List Int)), (∀ x ∈ L, x.length ≤ 4) → compV (L.map pad5) = (compL L).map pad5
  | [], _ => rfl
  | [x], _ => rfl
  | x :: y :: l, h => by
    have ih := compV_pad (y :: l) (fun z hz => h z (List.mem_cons_of_mem _ hz))
    rw [List.map_cons, List.map_cons] at *
    unfold compV compL
    by_cases e : x = y
    · rw [if_pos e, if_pos (by rw [e]), ih]
    · rw [if_neg e, if_neg (fun k => e (pad5_inj (h x (List.mem_cons_self ..)) k)), ih]; rfl
theorem tailV_len (l : List V5) : ∀ x, (tailV x l).length ≤ l.length := by
  induction l with
  | nil => intro x; simp [tailV]
  | cons y l ih => intro x; unfold tailV; have := ih y; split <;> simp <;> omega
theorem compV_len (l : List V5) : (compV l).length ≤ l.length := by
  cases l with
  | nil => simp [compV]
  | cons x l => rw [compV_tail]; have := tailV_len l x; simp; omega
/-- block g holds m at its beginning -/
abbrev Row5 (w : World) (g : Nat) (m : List V5) : Prop := Arr id undef 25 w g (flat5 m)
theorem row5_at {w : World} {g : Nat} {m : List V5} (h : Row5 w g m) (i : Nat) (hi : i < m.length) : At5 w g (i * 5) (m[i]?.getD no5) ∧ ∀ j, j < 5 → w.frozen? ⟨g, i * 5 + j, none⟩ = false := by
  have c : ∀ j, j < 5 → w.cell? ⟨g, i * 5 + j, none⟩ = (cells5 (m[i]?.getD no5))[j]? ∧ w.frozen? ⟨g, i * 5 + j, none⟩ = false := fun j hj => by
    obtain ⟨h1, h2⟩ := h.cell (i * 5 + j) (by rw [flat5_len]; omega)
    refine ⟨?_, h2⟩
    rw [h1, flat5_at m i hi j hj]
    have : j < (cells5 (m[i]?.getD no5)).length := hj
    rw [List.getElem?_eq_getElem this]; rfl
  exact ⟨⟨(c 0 (by omega)).1, (c 1 (by omega)).1, (c 2 (by omega)).1, (c 3 (by omega)).1, (c 4 (by omega)).1⟩, fun j hj => (c j hj).2⟩
theorem flat5_set (x : V5) : ∀ (m : List V5) (i : Nat), i < m.length → flat5 (m.set i x) = (((((flat5 m).set (i * 5) (.int .i64 x.1)).set (i * 5 + 1) (.int .i64 x.2.1)).set (i * 5 + 2) (.int .i64 x.2.2.1)).set (i * 5 + 3) (.int .i64 x.2.2.2.1)).set (i * 5 + 4) (.int .i64 x.2.2.2.2)
  | y :: m, 0, _ => by simp [flat5, cells5, List.flatMap_cons]
  | y :: m, i + 1, h => by
    have ih := flat5_set x m i (by simpa using h)
    unfold flat5 at *
    rw [List.set_cons_succ, List.flatMap_cons, List.flatMap_cons, ih]
    simp only [cells5, List.cons_append, List.nil_append]
    rw [show (i + 1) * 5 = i * 5 + 1 + 1 + 1 + 1 + 1 by omega]
    simp only [List.set_cons_succ, Nat.add_assoc, Nat.reduceAdd]
theorem row5_set {w : World} {g : Nat} {m : List V5} (h : Row5 w g m) (i : Nat) (hi : i < m.length) (x0 x1 x2 x3 x4 : Int) :
    Row5 (((((w.setCell ⟨g, i * 5, none⟩ (.int .i64 x0)).setCell ⟨g, i * 5 + 1, none⟩ (.int .i64 x1)).setCell ⟨g, i * 5 + 2, none⟩ (.int .i64 x2)).setCell ⟨g, i * 5 + 3, none⟩ (.int .i64 x3)).setCell ⟨g, i * 5 + 4, none⟩ (.int .i64 x4)) g (m.set i (x0, x1, x2, x3, x4)) := by
  have hl := flat5_len m
  unfold Row5
  rw [flat5_set _ m i hi]
  exact ((((h.set (i * 5) (by omega) (.int .i64 x0)).set (i * 5 + 1) (by simp; omega) (.int .i64 x1)).set (i * 5 + 2) (by simp; omega) (.int .i64 x2)).set (i * 5 + 3) (by simp; omega) (.int .i64 x3)).set (i * 5 + 4) (by simp; omega) (.int .i64 x4)
theorem row5_reads {w : World} {g : Nat} {m : List V5} (h : Row5 w g m) : Reads5 w (some ⟨g, 0, none⟩) m := fun i hi => ⟨g, 0, rfl, h.lt, by rw [Nat.zero_add]; exact (row5_at h i hi).1⟩
theorem row5_of {w : World} {base n : Nat} {v : Value} {l : List V5} (hn : l.length = n) (hpos : 0 < n) (h : w.ownsRow base 25 5 v n (flat5 l)) : ∃ g cap, v = .slice (some ⟨g, 0, none⟩) n cap ∧ n ≤ cap ∧ base ≤ g ∧ Row5 w g l := by
  rcases h.2 with ⟨_, h0⟩ | ⟨g, cap, cur, rfl, hb, hk, h1, h2, h3, h4⟩
  · omega
  · refine ⟨g, cap, rfl, h1, hb, cur, hk, by rw [flat5_len]; omega, fun i hi => ?_⟩
    have hi2 := hi
    rw [flat5_len] at hi2
    have : (cur.toList.take (n * 5))[i]? = (flat5 l)[i]? := by rw [h4]
    rw [List.getElem?_take, if_pos (by omega)] at this
    rw [List.getElem?_eq_getElem hi] at this ⊢
    simpa using this
theorem zero_look (w : World) : (zeroValue 25).run Try.prog w = .ok (.agg #[.int .i64 0, .int .i64 0, .int .i64 0, .int .i64 0, .int .i64 0]) w := by kernel_rfl
/-- clear(s), s a slice of n > 0 looks -/
theorem run_clear_looks (w : World) (ty : TypeId) (b o n c : Nat) (hn : 0 < n) (hc : ∀ j, j < n * 5 → (w.cell? ⟨b, o + j, none⟩).isSome = true) (hf : ∀ j, j < n * 5 → w.frozen? ⟨b, o + j, none⟩ = false) :
    (Builtin.clear_ #[22] ty #[.slice (some ⟨b, o, none⟩) n c]).run Try.prog w = .ok (.tuple #[]) (w.setCells b o (List.replicate (n * 5) (.int .i64 0))) := by
  have hzc : (Builtin.zeroCells (.agg #[.int .i64 0, .int .i64 0, .int .i64 0, .int .i64 0, .int .i64 0] : Value).cells n).toList = List.replicate (n * 5) (.int .i64 0) := by
    show (Builtin.zeroCells #[.int .i64 0, .int .i64 0, .int .i64 0, .int .i64 0, .int .i64 0] n).toList = _
    simp only [Builtin.zeroCells, Array.toList_map, Array.toList_range]
    apply List.ext_getElem
    · simp
    · intro i h1 h2
      have h5 : i % 5 < 5 := Nat.mod_lt _ (by omega)
      have hm : i % 5 = 0 ∨ i % 5 = 1 ∨ i % 5 = 2 ∨ i % 5 = 3 ∨ i % 5 = 4 := by omega
      simp only [List.getElem_map, List.getElem_range, List.getElem_replicate]
      show (#[.int .i64 0, .int .i64 0, .int .i64 0, .int .i64 0, .int .i64 0] : Array Value)[i % 5]! = _
      rcases hm with e | e | e | e | e <;> rw [e] <;> rfl
  have hst := run_storeCells_cells (P := Try.prog) b o (List.replicate (n * 5) (.int .i64 0)) 0 w (by simpa using hc) (by simpa using hf) (by intro v hv'; rw [List.eq_of_mem_replicate hv']; rfl)
  simp only [Nat.add_zero] at hst
  obtain ⟨m, rfl⟩ : ∃ m, n = m + 1 := ⟨n - 1, by omega⟩
  simp [Builtin.clear_, run_underlying Try.underlying22, zero_look, hzc, hst]
end Go.Proofs.Ytdahaajfkjmflaa.s14

namespace Go.Proofs.Ytdahaajfkjmflaa.s14
set_option linter.unusedVariables false
set_option linter.unusedSimpArgs false
open Go.RowKit
open kit

open s13

theorem at_later {w : World} {b o : Nat} {x0 x1 x2 x3 x4 : Int} (h : At5 w b o (x0, x1, x2, x3, x4)) : (∀ p : Later w, p.W.cell? ⟨b, o, none⟩ = some (.int .i64 x0)) ∧ (∀ p : Later w, p.W.cell? ⟨b, o + 1, none⟩ = some (.int .i64 x1)) ∧ (∀ p : Later w, p.W.cell? ⟨b, o + 2, none⟩ = some (.int .i64 x2)) ∧ (∀ p : Later w, p.W.cell? ⟨b, o + 3, none⟩ = some (.int .i64 x3)) ∧ (∀ p : Later w, p.W.cell? ⟨b, o + 4, none⟩ = some (.int .i64 x4)) := At5.later2 h
theorem getD_eq {l : List V5} {i : Nat} (h : i < l.length) : l[i]?.getD no5 = l[i] := by rw [List.getElem?_eq_getElem h]; rfl
/-- what follows place i of l -/
def tl (l : List V5) (i : Nat) : List V5 := tailV (l[i]?.getD no5) (l.drop (i + 1))
theorem tl_end {l : List V5} {i : Nat} (h : l.length ≤ i + 1) : tl l i = [] := by unfold tl; rw [List.drop_of_length_le h]; rfl
theorem tl_step {l : List V5} {i : Nat} (h : i + 1 < l.length) : tl l i = if l[i]?.getD no5 = l[i + 1]?.getD no5 then tl l (i + 1) else l[i + 1]?.getD no5 :: tl l (i + 1) := by
  unfold tl
  rw [drop_get h]
  show tailV _ (_ :: _) = _
  rw [tailV]
theorem compV_at {l : List V5} (h : 0 < l.length) : compV l = l[0]?.getD no5 :: tl l 0 := by
  cases l with
  | nil => simp at h
  | cons x l => rw [compV_tail]; simp [tl]
theorem take_get {l : List V5} {k : Nat} (h : k < l.length) : l.take (k + 1) = l.take k ++ [l[k]?.getD no5] := by rw [List.take_succ_eq_append_getElem h, getD_eq h]
/-- where a list lies -/
def NewAt (B : Nat) (p : Option Addr) : Prop := ∀ g o, p = some ⟨g, o, none⟩ → B ≤ g
theorem row_new {W : World} {base k c : Nat} {p : Option Addr} {xs : List Value} (h : W.ownsRow base 25 5 (.slice p k c) k xs) : NewAt base p := fun g o e => by
  subst e
  rcases h.2 with ⟨e, _⟩ | ⟨g', cap, cur, e, h1, _⟩
  · cases e
  · cases e; exact h1
/-- the list that is written over: P stands, what is read stands -/
structure RelC (w : World) (base g : Nat) (l : List V5) (i q : Nat) (wr : World) : Prop where
  ex : ∃ m P, m.length = l.length ∧ P.length = q ∧ m.take q = P ∧ (∀ j, i ≤ j → m[j]?.getD no5 = l[j]?.getD no5) ∧ compV l = P ++ tl l i ∧ Row5 wr g m
  hb : Below base w wr
theorem below_put5' {B b : Nat} {w w1 : World} (h : Below B w w1) (hb : B ≤ b) (x0 x1 x2 x3 x4 : Int) (o : Nat) : Below B w (((((w1.setCell ⟨b, o, none⟩ (.int .i64 x0)).setCell ⟨b, o + 1, none⟩ (.int .i64 x1)).setCell ⟨b, o + 2, none⟩ (.int .i64 x2)).setCell ⟨b, o + 3, none⟩ (.int .i64 x3)).setCell ⟨b, o + 4, none⟩ (.int .i64 x4)) :=
  ((((h.setCell (p := ⟨b, o, none⟩) hb _).setCell (p := ⟨b, o + 1, none⟩) hb _).setCell (p := ⟨b, o + 2, none⟩) hb _).setCell (p := ⟨b, o + 3, none⟩) hb _).setCell (p := ⟨b, o + 4, none⟩) hb _
theorem keep_cell {w : World} {g o i : Nat} {vs : List Value} (h : i < o) : (w.setCells g o vs).cell? ⟨g, i, none⟩ = w.cell? ⟨g, i, none⟩ := World.cell?_setCells_out g _ _ _ _ (fun _ _ => Or.inl h)
set_option maxRecDepth 100000 in
set_option maxHeartbeats 1000000 in
theorem compact_short (a : Option Addr) (n c : Nat) (w : World) (hn : n < 2) : Calls Try.prog 79 #[.slice a n c] w fun e w' => e = .returned (.slice a n c) ∧ w = w' := by
  have h1 : (n : Int) < 2 := by omega
  go_enter Try.func79, Try.ntmps79
  go_wp2
  go_ret
  exact ⟨rfl, rfl⟩
set_option maxRecDepth 100000 in
set_option maxHeartbeats 10000000 in
theorem compact_any (base g n c : Nat) (l : List V5) (w : World) (hl : Hid (l.length = n)) (hn : 2 ≤ n) (hm : n ≤ 100000) (hc : n ≤ c) (hg : base ≤ g) (hb : base ≤ w.heap.size) (hrow : Hid (Row5 w g l)) (R : List V5) (N : Nat) (HR : Hid (compV l = R)) (HN : Hid (R.length = N)) :
    Calls Try.prog 79 #[.slice (some ⟨g, 0, none⟩) n c] w fun e w' => ∃ p cp, e = .returned (.slice p N cp) ∧ Reads5 w' p R ∧ Below base w w' ∧ N ≤ cp ∧ NewAt base p := by
  have hn0 : ¬ (n : Int) < 2 := by omega
  have hn1 : decide ((n : Int) < 2) = false := decide_eq_false hn0
  go_enter Try.func79, Try.ntmps79
  go_wp2
  clear hn0 hn1
  go_loopw [3] (fun v wr => ∃ k : Nat, v = .int .i64 k ∧ 1 ≤ k ∧ k ≤ n ∧ Hid (compV l = l.take k ++ tl l (k - 1)) ∧ Hid (Row5 wr g l) ∧ Hid (Below base w wr)) (fun v _ => n - (intOf v).toNat)
  case atStart =>
    refine ⟨1, rfl, Nat.le_refl _, by omega, Lib.hid ?_, hrow, Lib.hid (Below.refl _ _)⟩
    have h0 : 0 < l.length := by rw [hl.out]; omega
    rw [compV_at h0, take_get h0]; rfl
  case round =>
    obtain ⟨k, rfl, hk1, hk, HK, HRow, HB⟩ := hrel
    by_cases hlt : k < n
    · obtain ⟨i, rfl⟩ : ∃ i, k = i + 1 := ⟨k - 1, by omega⟩
      have hil : i + 1 < l.length := by rw [hl.out]; exact hlt
      have hst := tl_step hil
      have hx := (row5_at HRow.out (i + 1) hil).1
      have hy := (row5_at HRow.out i (by omega)).1
      have htk := take_get hil
      have HKo := HK.out
      rw [show i + 1 - 1 = i by omega, hst] at HKo
      have hii : ((i + 1 : Nat) : Int) - 1 = (i : Int) := by omega
      obtain ⟨⟨x0, x1, x2, x3, x4⟩, ex⟩ : ∃ x, l[i + 1]?.getD no5 = x := ⟨_, rfl⟩
      obtain ⟨⟨y0, y1, y2, y3, y4⟩, ey⟩ : ∃ x, l[i]?.getD no5 = x := ⟨_, rfl⟩
      rw [ex] at hx HKo htk
      rw [ey] at hy HKo
      have HEX := Lib.hid ex
      have HEY := Lib.hid ey
      have HTK := Lib.hid htk
      have HIL := Lib.hid hil
      have hin : i < n := by omega
      obtain ⟨z0, z1, z2, z3, z4⟩ := at_later hx
      obtain ⟨e0, e1, e2, e3, e4⟩ := at_later hy
      have zg := guard_look
      clear hst hx hy ex ey htk hil HK
      by_cases hxy : ((y0, y1, y2, y3, y4) : V5) = (x0, x1, x2, x3, x4)
      · rw [if_pos hxy] at HKo
        cases hxy
        have HK2 := Lib.hid HKo
        clear HKo
        have zq := eql_yes x0 x1 x2 x3 x4
        go_wp2
        refine wp_region_later (by kernel_rfl) (by kernel_rfl) ?_
        repeat (go_big_quiet_step (fail))
        refine wpQuiet_nil ?_
        rintro w5 ⟨p5, rfl⟩
        have B5 := Lib.hid (below_on HB.out hb p5.h)
        have R5 := Lib.hid (HRow.out.below p5.h)
        clear z0 z1 z2 z3 z4 e0 e1 e2 e3 e4 zg zq HRow HB
        generalize p5.W = w6 at B5 R5 ⊢
        go_wp2
        have HREL : Hid (RelC w base g l (i + 1) (i + 1) w6) := Lib.hid ⟨⟨l, l.take (i + 1), rfl, by rw [List.length_take]; have := HIL.out; omega, rfl, fun _ _ => rfl, HK2.out, R5.out⟩, B5.out⟩
        clear HEX HTK HEY HK2 R5 B5
        go_loopw [3, 5] (fun v3 v5 wr => ∃ q j : Nat, v3 = .int .i64 q ∧ v5 = .int .i64 ((j : Int) + 1) ∧ i + 1 + (j + 1) ≤ n ∧ q ≤ i + 1 + j ∧ Hid (RelC w base g l (i + 1 + j) q wr)) (fun _ v5 _ => n - (intOf v5).toNat)
        case atStart => exact ⟨i + 1, 0, rfl, rfl, by omega, by omega, HREL⟩
        case round =>
          clear HREL
          obtain ⟨q, j, rfl, rfl, hj, hq, HREL⟩ := hrel
          by_cases hlt2 : i + 1 + (j + 1) < n
          · obtain ⟨m, P, hml, hPl, hmP, hmj, hcomp, hRw⟩ := HREL.out.ex
            have hBr := HREL.out.hb
            have hI : i + 1 + (j + 1) < l.length := by have := hl.out; omega
            have hIm : i + 1 + (j + 1) < m.length := by omega
            have hst := tl_step (l := l) (i := i + 1 + j) hI
            have hx := (row5_at hRw (i + 1 + (j + 1)) hIm).1
            have hy := (row5_at hRw (i + 1 + j) (by omega)).1
            rw [hmj _ (by omega)] at hx hy
            rw [hst] at hcomp
            obtain ⟨⟨x0, x1, x2, x3, x4⟩, ex⟩ : ∃ x, l[i + 1 + (j + 1)]?.getD no5 = x := ⟨_, rfl⟩
            obtain ⟨⟨y0, y1, y2, y3, y4⟩, ey⟩ : ∃ x, l[i + 1 + j]?.getD no5 = x := ⟨_, rfl⟩
            rw [show i + 1 + j + 1 = i + 1 + (j + 1) by omega, ex, ey] at hcomp
            rw [ex] at hx
            rw [ey] at hy
            rw [show (i + 1 + (j + 1)) * 5 = (i + 1) * 5 + (j + 1) * 5 by omega] at hx
            rw [show (i + 1 + j) * 5 = (i + 1) * 5 + j * 5 by omega] at hy
            obtain ⟨z0, z1, z2, z3, z4⟩ := at_later hx
            obtain ⟨e0, e1, e2, e3, e4⟩ := at_later hy
            have zg := guard_look
            have h1 : ((j : Int) + 1) < ((n - (i + 1) : Nat) : Int) := by omega
            have h2 : (j : Int) + 1 - 1 = (j : Int) := by omega
            have h3 : j < n - (i + 1) := by omega
            have h4 : (j + 1) < n - (i + 1) := by omega
            have hqn : q < n := by omega
            have HML := Lib.hid hml
            have HPL := Lib.hid hPl
            have HMP := Lib.hid hmP
            have HMJ := Lib.hid hmj
            have HX := Lib.hid hx
            have hRw := Lib.hid hRw
            clear hst ex ey hml hPl hmP hmj hI hIm hx hy HREL
            by_cases hxy : ((y0, y1, y2, y3, y4) : V5) = (x0, x1, x2, x3, x4)
            · rw [if_pos hxy] at hcomp
              have HCO := Lib.hid hcomp
              cases hxy
              clear hcomp
              have zq := neq_yes x0 x1 x2 x3 x4
              go_wp2
              refine wp_region_later (by kernel_rfl) (by kernel_rfl) ?_
              repeat (go_big_quiet_step (fail))
              refine wpQuiet_nil ?_
              rintro w5 ⟨p5, rfl⟩
              have B5 := Lib.hid (below_on hBr hb p5.h)
              have R5 := Lib.hid (hRw.out.below p5.h)
              have X5 := Lib.hid (HX.out.below p5.h)
              clear z0 z1 z2 z3 z4 e0 e1 e2 e3 e4 zg zq
              generalize p5.W = w7 at B5 R5 X5 ⊢
              go_wp2
              go_roundw
              case rel => exact ⟨q, j + 1, rfl, by go_num, by omega, by omega, Lib.hid ⟨⟨m, P, HML.out, HPL.out, HMP.out, fun t ht => HMJ.out t (by omega), by rw [show i + 1 + (j + 1) = i + 1 + j + 1 by omega]; exact HCO.out, R5.out⟩, B5.out⟩⟩
              case measure => simp [intOf]; omega
            · rw [if_neg hxy] at hcomp
              have HCO := Lib.hid hcomp
              have zq := neq_no x0 x1 x2 x3 x4 y0 y1 y2 y3 y4 (fun e => hxy e.symm)
              clear hcomp hxy
              go_wp2
              refine wp_region_later (by kernel_rfl) (by kernel_rfl) ?_
              repeat (go_big_quiet_step (fail))
              refine wpQuiet_nil ?_
              rintro w5 ⟨p5, rfl⟩
              have B5 := Lib.hid (below_on hBr hb p5.h)
              have R5 := Lib.hid (hRw.out.below p5.h)
              have X5 := Lib.hid (HX.out.below p5.h)
              clear z0 z1 z2 z3 z4 e0 e1 e2 e3 e4 zg zq
              generalize p5.W = w7 at B5 R5 X5 ⊢
              obtain ⟨c0, c1, c2, c3, c4⟩ := X5.out
              obtain ⟨⟨d0, d1, d2, d3, d4⟩, hf⟩ := row5_at R5.out q (by have := HML.out; have := hl.out; omega)
              have f0 := hf 0 (by omega)
              have f1 := hf 1 (by omega)
              have f2 := hf 2 (by omega)
              have f3 := hf 3 (by omega)
              have f4 := hf 4 (by omega)
              rw [Nat.add_zero] at f0
              clear hf
              go_wp2
              have hqm : q < m.length := by have := HML.out; have := hl.out; omega
              go_roundw
              case rel =>
                refine ⟨q + 1, j + 1, by go_num, by go_num, by omega, by omega, Lib.hid ⟨⟨m.set q (x0, x1, x2, x3, x4), P ++ [(x0, x1, x2, x3, x4)], ?_, ?_, ?_, ?_, ?_, ?_⟩, ?_⟩⟩
                · rw [List.length_set]; exact HML.out
                · rw [List.length_append, HPL.out]; rfl
                · rw [List.take_succ_eq_append_getElem (by rw [List.length_set]; exact hqm), List.getElem_set_self, List.take_set_of_le (Nat.le_refl _), HMP.out]
                · intro t ht
                  rw [List.getElem?_set_ne (by omega)]
                  exact HMJ.out t (by omega)
                · rw [show i + 1 + (j + 1) = i + 1 + j + 1 by omega, List.append_assoc]; exact HCO.out
                · exact row5_set R5.out q hqm x0 x1 x2 x3 x4
                · exact below_put5' B5.out hg x0 x1 x2 x3 x4 (q * 5)
              case measure => simp [intOf]; omega
          · obtain ⟨m, P, hml, hPl, hmP, hmj, hcomp, hRw⟩ := HREL.out.ex
            have hBr := HREL.out.hb
            have hjn : i + 1 + (j + 1) = n := by omega
            rw [tl_end (by have := hl.out; omega), List.append_nil] at hcomp
            have hPR : P = R := hcomp.symm.trans HR.out
            subst hPR
            obtain rfl : q = N := hPl.symm.trans HN.out
            have hqn : q < n := by omega
            have hcq : ¬ c = q := by omega
            have h1 : ¬ ((j : Int) + 1) < ((n - (i + 1) : Nat) : Int) := by omega
            have h1d : decide (((j : Int) + 1) < ((n - (i + 1) : Nat) : Int)) = false := decide_eq_false h1
            have hlen := flat5_len m
            have hcl := fun ty => run_clear_looks wr ty g (q * 5) (n - q) (c - q) (by omega) (fun t ht => by rw [(hRw.cell (q * 5 + t) (by have := hl.out; omega)).1]; rfl) (fun t ht => (hRw.cell (q * 5 + t) (by have := hl.out; omega)).2)
            have HM := Lib.hid hml
            have HP := Lib.hid hmP
            have HRW := Lib.hid hRw
            have HBR := Lib.hid hBr
            clear hml hPl hmP hmj hcomp hRw hBr hlen HREL
            go_wp2
            go_ret
            refine ⟨_, _, rfl, ?_, cells_below hg _ _ _ HBR.out, by omega, fun g' o' e => by cases e; exact hg⟩
            intro t ht
            have htq : t < q := by have := HN.out; omega
            have h5 := (row5_at HRW.out t (by have := hl.out; have := HM.out; omega)).1
            have e : (P[t]?.getD no5) = m[t]?.getD no5 := by rw [← HP.out, List.getElem?_take_of_lt htq]
            refine ⟨g, 0, rfl, by rw [cells_size]; exact HRW.out.lt, ?_⟩
            rw [Nat.zero_add, e]
            obtain ⟨c0, c1, c2, c3, c4⟩ := h5
            exact ⟨(keep_cell (by omega)).trans c0, (keep_cell (by omega)).trans c1, (keep_cell (by omega)).trans c2, (keep_cell (by omega)).trans c3, (keep_cell (by omega)).trans c4⟩
      · rw [if_neg hxy] at HKo
        have HK2 := Lib.hid HKo
        clear HKo
        have zq := eql_no x0 x1 x2 x3 x4 y0 y1 y2 y3 y4 (fun e => hxy e.symm)
        clear hxy
        go_wp2
        refine wp_region_later (by kernel_rfl) (by kernel_rfl) ?_
        repeat (go_big_quiet_step (fail))
        refine wpQuiet_nil ?_
        rintro w5 ⟨p5, rfl⟩
        have B5 := Lib.hid (below_on HB.out hb p5.h)
        have R5 := Lib.hid (HRow.out.below p5.h)
        clear z0 z1 z2 z3 z4 e0 e1 e2 e3 e4 zg zq HRow HB
        generalize p5.W = w6 at B5 R5 ⊢
        go_wp2
        go_roundw
        case rel => exact ⟨i + 1 + 1, by go_num, by omega, by omega, Lib.hid (by rw [HTK.out, show i + 1 + 1 - 1 = i + 1 by omega, List.append_assoc]; exact HK2.out), R5, B5⟩
        case measure => simp [intOf]; omega
    · obtain rfl : k = n := by omega
      have hR : l = R := by
        have h := HK.out
        rw [HR.out, tl_end (by rw [hl.out]; omega), List.append_nil, List.take_of_length_le (by rw [hl.out]; omega)] at h
        exact h.symm
      subst hR
      obtain rfl : k = N := hl.out.symm.trans HN.out
      go_wp2
      go_ret
      exact ⟨_, _, rfl, row5_reads HRow.out, HB.out, hc, fun g' o' e => by cases e; exact hg⟩
end Go.Proofs.Ytdahaajfkjmflaa.s14
