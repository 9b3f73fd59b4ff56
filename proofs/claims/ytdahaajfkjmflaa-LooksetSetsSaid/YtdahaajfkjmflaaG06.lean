/-
  Layer 14: rows of looks that grow; a list's first element and what is behind it. Layer 14: lists of looks compared; a look in a list. Layer 14: slices.Index and Contains of looks, Has by both. Layer 14: the reference's Check, both, ranged, join, Bound. Layer 14: the reference's Check at every list, both, ranged, join, Bound. Layer 14: Has by both.
-/
import Derived.Test.YtdahaajfkjmflaaG05
import Derived.Test.YtdahaajfkjmflaaG04
namespace Go.Proofs.Ytdahaajfkjmflaa.s14
set_option linter.unusedVariables false
set_option linter.unusedSimpArgs false
open Go.RowKit
open kit

open s13

theorem own5_below {w w1 : World} {B k : Nat} {v : Value} {xs : List Value} (h : w.ownsRow B 25 5 v k xs) (hB : Below w.heap.size w w1) : w1.ownsRow B 25 5 v k xs := by
  refine ⟨h.1, ?_⟩
  rcases h.2 with h0 | ⟨g, cap, cur, e, h1, h2, h3⟩
  · exact .inl h0
  · exact .inr ⟨g, cap, cur, e, h1, (hB.block g (Array.getElem?_eq_some_iff.1 h2).1).trans h2, h3⟩
theorem below_grown5 {B : Nat} {w w1 w2 : World} {v : Value} {k : Nat} {xs : List Value} (h : Below B w w1) (hr : w1.ownsRow B 25 5 v k xs) (hg : w1.grownBy w2 v.ownBlock) (hB : B ≤ w1.heap.size) : Below B w w2 := by
  refine h.grown hg hB fun j ej => ?_
  rcases hr.2 with ⟨rfl, _⟩ | ⟨g, cap, cur, rfl, hb, _, _⟩
  · simp [Value.ownBlock] at ej
  · obtain rfl : g = j := by simpa [Value.ownBlock] using ej
    exact hb
theorem src5 {w : World} {b o : Nat} {l : List V5} (h : Reads5 w (some ⟨b, o, none⟩) l) (j : Nat) (u : Value) (hu : (flat5 l)[j]? = some u) : w.cell? ((⟨b, o, none⟩ : Addr).add j) = some u := by
  have hj : j < l.length * 5 := by
    rw [← flat5_len]; exact (List.getElem?_eq_some_iff.1 hu).1
  obtain ⟨b', o', e, _, h5⟩ := h (j / 5) (by omega)
  cases e
  have hf := flat5_at l (j / 5) (by omega) (j % 5) (by omega)
  rw [show j / 5 * 5 + j % 5 = j by omega, hu] at hf
  rw [Go.WideShapes.add_plain]
  obtain ⟨z0, z1, z2, z3, z4⟩ := h5
  have hm : j % 5 = 0 ∨ j % 5 = 1 ∨ j % 5 = 2 ∨ j % 5 = 3 ∨ j % 5 = 4 := by omega
  rcases hm with e | e | e | e | e <;> rw [e] at hf <;> simp only [cells5, List.getElem?_cons_zero, List.getElem?_cons_succ, Option.some.injEq] at hf <;> subst hf
  · rw [show o + j = o + j / 5 * 5 by omega]; exact z0
  · rw [show o + j = o + j / 5 * 5 + 1 by omega]; exact z1
  · rw [show o + j = o + j / 5 * 5 + 2 by omega]; exact z2
  · rw [show o + j = o + j / 5 * 5 + 3 by omega]; exact z3
  · rw [show o + j = o + j / 5 * 5 + 4 by omega]; exact z4
theorem flat5_one' (l : List V5) : ∀ u ∈ flat5 l, u.oneCell' = true := by
  intro u hu
  obtain ⟨x, _, hx⟩ := List.mem_flatMap.1 hu
  simp only [cells5, List.mem_cons, List.not_mem_nil, or_false] at hx
  rcases hx with rfl | rfl | rfl | rfl | rfl <;> rfl
theorem append_in5 {w : World} {ops : Array Oper} {rest : List Oper} {o : Oper} {a : Act} {Q : Exit → Act → World → Prop}
    (hg : o.guard = none) (s x : Operand) (hop : o.op = Op.call { callee := Callee.builtin Builtin.append, args := #[s, x], argTypes := #[22, 22] })
    (base : Nat) (v : Value) (k : Nat) (L1 : List V5) (hs : a.eval s = v) (hown : w.ownsRow base 25 5 v k (flat5 L1)) (src : Option Addr) (L2 : List V5) (n c : Nat) (hx : a.eval x = .slice src n c) (hn : L2.length = n) (hp : 0 < n) (hsrc : Reads5 w src L2)
    (hk : k + n ≤ 100000) (hb : base ≤ w.heap.size)
    (hK : ∀ v' w', w'.ownsRow base 25 5 v' (k + n) (flat5 (L1 ++ L2)) → Below base w w' → wpList Try.prog ops Q rest (a.put o.dst v') w') :
    wpList Try.prog ops Q (o :: rest) a w := by
  obtain ⟨i0, hi, hz0, hz1, hz2⟩ := info_parts info5
  obtain ⟨b, off, rfl, _, _⟩ := hsrc 0 (by omega)
  refine wpList_append_own w hg s x 22 hop base 25 i0 (.agg #[.int .i64 0, .int .i64 0, .int .i64 0, .int .i64 0, .int .i64 0]) 5 40 Try.underlying22 hi hz0 hz1 hz2 rfl (by decide) v k _ hs hown ⟨b, off, none⟩ n c (flat5 L2) hx (by rw [flat5_len, hn]) (src5 hsrc) (flat5_one' L2) (by unfold maxLen; omega) (by omega) hb fun v' w' h1 h2 _ => hK v' w' (by rw [flat5_app]; exact h1) (below_grown5 (Below.refl _ _) hown h2 hb)
theorem row5_shape {W : World} {base k : Nat} {v : Value} {xs : List Value} (h : W.ownsRow base 25 5 v k xs) : ∃ a cap, v = .slice a k cap ∧ k ≤ cap := by
  rcases h.2 with ⟨rfl, rfl⟩ | ⟨g, cap, cur, rfl, h1, h2, h3⟩
  · exact ⟨_, _, rfl, Nat.le_refl _⟩
  · exact ⟨_, _, rfl, by first | exact h3.1 | exact h3.2.1 | omega⟩
def slen : Value → Nat
  | .slice _ n _ => n
  | _ => 0
/-- the first element -/
theorem reads_head {w : World} {a : Option Addr} {x : V5} {l : List V5} (h : Reads5 w a (x :: l)) : ∃ b off, a = some ⟨b, off, none⟩ ∧ b < w.heap.size ∧ At5 w b off x ∧ Reads5 w (some ⟨b, off + 5, none⟩) l := by
  obtain ⟨b, off, rfl, hb, h0⟩ := h 0 (by simp)
  refine ⟨b, off, rfl, hb, by simpa using h0, fun i hi => ?_⟩
  obtain ⟨b', off', e, hb', hi'⟩ := h (i + 1) (by simpa using hi)
  cases e
  refine ⟨b, off + 5, rfl, hb, ?_⟩
  rw [show off + 5 + i * 5 = off + (i + 1) * 5 by omega]
  simpa using hi'
theorem ret_slice {a : Option Addr} {n m c : Nat} (h : n = m) : Ending.returned (.slice a n c) = .returned (.slice a m c) := by rw [h]
end Go.Proofs.Ytdahaajfkjmflaa.s14

namespace Go.Proofs.Ytdahaajfkjmflaa.s14
set_option linter.unusedVariables false
set_option linter.unusedSimpArgs false
open Go.RowKit
open kit

open s13

def lkV (x : V5) : Value := .agg #[.int .i64 x.1, .int .i64 x.2.1, .int .i64 x.2.2.1, .int .i64 x.2.2.2.1, .int .i64 x.2.2.2.2]
theorem neq_yes (x0 x1 x2 x3 x4 : Int) (W : World) : (binOp .neq 25 (.agg #[.int .i64 x0, .int .i64 x1, .int .i64 x2, .int .i64 x3, .int .i64 x4]) (.agg #[.int .i64 x0, .int .i64 x1, .int .i64 x2, .int .i64 x3, .int .i64 x4])).run Try.prog W = .ok (.bool false) W := by rw [neq_look, decide_eq_true ⟨rfl, rfl, rfl, rfl, rfl⟩]; rfl
theorem neq_no (x0 x1 x2 x3 x4 y0 y1 y2 y3 y4 : Int) (h : ¬ ((x0, x1, x2, x3, x4) : V5) = (y0, y1, y2, y3, y4)) (W : World) : (binOp .neq 25 (.agg #[.int .i64 x0, .int .i64 x1, .int .i64 x2, .int .i64 x3, .int .i64 x4]) (.agg #[.int .i64 y0, .int .i64 y1, .int .i64 y2, .int .i64 y3, .int .i64 y4])).run Try.prog W = .ok (.bool true) W := by rw [neq_look, decide_eq_false (fun e => h (by obtain ⟨rfl, rfl, rfl, rfl, rfl⟩ := e; rfl))]; rfl
theorem eql_yes (x0 x1 x2 x3 x4 : Int) (W : World) : (binOp .eql 25 (.agg #[.int .i64 x0, .int .i64 x1, .int .i64 x2, .int .i64 x3, .int .i64 x4]) (.agg #[.int .i64 x0, .int .i64 x1, .int .i64 x2, .int .i64 x3, .int .i64 x4])).run Try.prog W = .ok (.bool true) W := by rw [eql_look, decide_eq_true ⟨rfl, rfl, rfl, rfl, rfl⟩]
theorem eql_no (x0 x1 x2 x3 x4 y0 y1 y2 y3 y4 : Int) (h : ¬ ((x0, x1, x2, x3, x4) : V5) = (y0, y1, y2, y3, y4)) (W : World) : (binOp .eql 25 (.agg #[.int .i64 x0, .int .i64 x1, .int .i64 x2, .int .i64 x3, .int .i64 x4]) (.agg #[.int .i64 y0, .int .i64 y1, .int .i64 y2, .int .i64 y3, .int .i64 y4])).run Try.prog W = .ok (.bool false) W := by rw [eql_look, decide_eq_false (fun e => h (by obtain ⟨rfl, rfl, rfl, rfl, rfl⟩ := e; rfl))]
theorem take_more {l k : List V5} {i : Nat} (hl : i < l.length) (hk : i < k.length) (h : l.take i = k.take i) (e : l[i]?.getD no5 = k[i]?.getD no5) : l.take (i + 1) = k.take (i + 1) := by
  rw [List.getElem?_eq_getElem hl, List.getElem?_eq_getElem hk] at e
  have e2 : l[i] = k[i] := by simpa using e
  rw [List.take_succ_eq_append_getElem hl, List.take_succ_eq_append_getElem hk, h, e2]
theorem ne_at {l k : List V5} {i : Nat} (e : ¬ l[i]?.getD no5 = k[i]?.getD no5) : decide (l = k) = false := decide_eq_false (fun h => e (by rw [h]))
theorem At5.later2 {w : World} {b o : Nat} {x : V5} (h : At5 w b o x) : (∀ p : Later w, p.W.cell? ⟨b, o, none⟩ = some (.int .i64 x.1)) ∧ (∀ p : Later w, p.W.cell? ⟨b, o + 1, none⟩ = some (.int .i64 x.2.1)) ∧ (∀ p : Later w, p.W.cell? ⟨b, o + 2, none⟩ = some (.int .i64 x.2.2.1)) ∧ (∀ p : Later w, p.W.cell? ⟨b, o + 3, none⟩ = some (.int .i64 x.2.2.2.1)) ∧ (∀ p : Later w, p.W.cell? ⟨b, o + 4, none⟩ = some (.int .i64 x.2.2.2.2)) :=
  ⟨fun p => (At5.later h p).1, fun p => (At5.later h p).2.1, fun p => (At5.later h p).2.2.1, fun p => (At5.later h p).2.2.2.1, fun p => (At5.later h p).2.2.2.2⟩
set_option maxRecDepth 100000 in
set_option maxHeartbeats 4000000 in
theorem sleq_any (a b : Option Addr) (n m ca cb : Nat) (l k : List V5) (w : World) (hl : Hid (l.length = n)) (hk : Hid (k.length = m)) (hn : n ≤ 100000) (hm : m ≤ 100000) (ra : Hid (Reads5 w a l)) (rb : Hid (Reads5 w b k)) (r : Bool) (HR : Hid (decide (l = k) = r)) : Calls Try.prog 58 #[.slice a n ca, .slice b m cb] w fun e w' => e = .returned (.bool r) ∧ Below w.heap.size w w' := by
  by_cases hnm : n = m
  · subst hnm
    go_enter Try.func58, Try.ntmps58
    go_wp2
    go_loopw [13] (fun v wr => ∃ i : Nat, v = .int .i64 i ∧ i ≤ n ∧ Hid (l.take i = k.take i) ∧ Hid (Below w.heap.size w wr)) (fun v _ => n - (intOf v).toNat)
    case atStart => exact ⟨0, rfl, by omega, Lib.hid (by simp), Lib.hid (Below.refl _ _)⟩
    case round =>
      obtain ⟨i, rfl, hi, HT, HB⟩ := hrel
      by_cases hlt : i < n
      · have hil : i < l.length := by have := hl.out; omega
        have hik : i < k.length := by have := hk.out; omega
        obtain ⟨ga, oa, rfl, _, ha⟩ := (ra.out.below HB.out) i hil
        obtain ⟨gb, ob, rfl, _, hb⟩ := (rb.out.below HB.out) i hik
        have HTM := Lib.hid (take_more hil hik HT.out)
        have HNE := Lib.hid (ne_at (l := l) (k := k) (i := i))
        clear hil hik
        generalize l[i]?.getD no5 = x at ha HTM HNE
        generalize k[i]?.getD no5 = y at hb HTM HNE
        obtain ⟨x0, x1, x2, x3, x4⟩ := x
        obtain ⟨y0, y1, y2, y3, y4⟩ := y
        obtain ⟨z0, z1, z2, z3, z4⟩ := At5.later2 ha
        obtain ⟨e0, e1, e2, e3, e4⟩ := At5.later2 hb
        simp only at z0 z1 z2 z3 z4 e0 e1 e2 e3 e4
        have zg := guard_look
        clear ha hb
        by_cases hxy : ((x0, x1, x2, x3, x4) : V5) = (y0, y1, y2, y3, y4)
        · have HT2 := Lib.hid (HTM.out hxy)
          cases hxy
          have zq := neq_yes x0 x1 x2 x3 x4
          go_wp2
          refine wp_region_later (by kernel_rfl) (by kernel_rfl) ?_
          repeat (go_big_quiet_step (fail))
          refine wpQuiet_nil ?_
          rintro w5 ⟨p5, rfl⟩
          have B5 := Lib.hid (below_then HB.out p5.h)
          generalize p5.W = w6 at B5 ⊢
          clear z0 z1 z2 z3 z4 e0 e1 e2 e3 e4 zg zq
          go_wp2
          go_roundw
          case rel => exact ⟨i + 1, by go_num, by omega, HT2, B5⟩
          case measure => simp [intOf]; omega
        · have hr : r = false := HR.out.symm.trans (HNE.out hxy)
          subst hr
          have zq := neq_no x0 x1 x2 x3 x4 y0 y1 y2 y3 y4 hxy
          clear hxy
          go_wp2
          refine wp_region_later (by kernel_rfl) (by kernel_rfl) ?_
          repeat (go_big_quiet_step (fail))
          refine wpQuiet_nil ?_
          rintro w5 ⟨p5, rfl⟩
          have B5 := Lib.hid (below_then HB.out p5.h)
          generalize p5.W = w6 at B5 ⊢
          go_wp2
          go_ret
          exact ⟨rfl, B5.out⟩
      · obtain rfl : i = n := by omega
        have hr : r = true := by
          have h1 := HT.out
          rw [List.take_of_length_le (by rw [hl.out]; omega), List.take_of_length_le (by rw [hk.out]; omega)] at h1
          rw [← HR.out]; exact decide_eq_true h1
        subst hr
        go_wp2
        go_ret
        exact ⟨rfl, HB.out⟩
  · have hr : r = false := by
      rw [← HR.out]; exact decide_eq_false (fun e => hnm (by rw [← hl.out, ← hk.out, e]))
    subst hr
    have h1 : ¬ (n : Int) = m := by omega
    have h2 : ((n : Int) != m) = true := by simpa using h1
    go_enter Try.func58, Try.ntmps58
    go_wp2
    go_ret
    exact ⟨rfl, Below.refl _ _⟩
set_option maxRecDepth 100000 in
set_option maxHeartbeats 4000000 in
theorem rsame_any (a b : Option Addr) (n m ca cb : Nat) (l k : List V5) (w : World) (hl : Hid (l.length = n)) (hk : Hid (k.length = m)) (hn : n ≤ 100000) (hm : m ≤ 100000) (ra : Hid (Reads5 w a l)) (rb : Hid (Reads5 w b k)) (r : Bool) (HR : Hid (decide (l = k) = r)) : Calls Try.prog 27 #[.slice a n ca, .slice b m cb] w fun e w' => e = .returned (.bool r) ∧ Below w.heap.size w w' := by
  by_cases hnm : n = m
  · subst hnm
    go_enter Try.func27, Try.ntmps27
    go_wp2
    go_loopw [5] (fun v wr => ∃ i : Nat, v = .int .i64 i ∧ i ≤ n ∧ Hid (l.take i = k.take i) ∧ Hid (Below w.heap.size w wr)) (fun v _ => n - (intOf v).toNat)
    case atStart => exact ⟨0, rfl, by omega, Lib.hid (by simp), Lib.hid (Below.refl _ _)⟩
    case round =>
      obtain ⟨i, rfl, hi, HT, HB⟩ := hrel
      by_cases hlt : i < n
      · have hil : i < l.length := by have := hl.out; omega
        have hik : i < k.length := by have := hk.out; omega
        obtain ⟨ga, oa, rfl, _, ha⟩ := (ra.out.below HB.out) i hil
        obtain ⟨gb, ob, rfl, _, hb⟩ := (rb.out.below HB.out) i hik
        have HTM := Lib.hid (take_more hil hik HT.out)
        have HNE := Lib.hid (ne_at (l := l) (k := k) (i := i))
        clear hil hik
        generalize l[i]?.getD no5 = x at ha HTM HNE
        generalize k[i]?.getD no5 = y at hb HTM HNE
        obtain ⟨x0, x1, x2, x3, x4⟩ := x
        obtain ⟨y0, y1, y2, y3, y4⟩ := y
        obtain ⟨z0, z1, z2, z3, z4⟩ := At5.later2 ha
        obtain ⟨e0, e1, e2, e3, e4⟩ := At5.later2 hb
        simp only at z0 z1 z2 z3 z4 e0 e1 e2 e3 e4
        have zg := guard_look
        clear ha hb
        by_cases hxy : ((x0, x1, x2, x3, x4) : V5) = (y0, y1, y2, y3, y4)
        · have HT2 := Lib.hid (HTM.out hxy)
          cases hxy
          have zq := neq_yes x0 x1 x2 x3 x4
          go_wp2
          refine wp_region_later (by kernel_rfl) (by kernel_rfl) ?_
          repeat (go_big_quiet_step (fail))
          refine wpQuiet_nil ?_
          rintro w5 ⟨p5, rfl⟩
          have B5 := Lib.hid (below_then HB.out p5.h)
          generalize p5.W = w6 at B5 ⊢
          clear z0 z1 z2 z3 z4 e0 e1 e2 e3 e4 zg zq
          go_wp2
          go_roundw
          case rel => exact ⟨i + 1, by go_num, by omega, HT2, B5⟩
          case measure => simp [intOf]; omega
        · have hr : r = false := HR.out.symm.trans (HNE.out hxy)
          subst hr
          have zq := neq_no x0 x1 x2 x3 x4 y0 y1 y2 y3 y4 hxy
          clear hxy
          go_wp2
          refine wp_region_later (by kernel_rfl) (by kernel_rfl) ?_
          repeat (go_big_quiet_step (fail))
          refine wpQuiet_nil ?_
          rintro w5 ⟨p5, rfl⟩
          have B5 := Lib.hid (below_then HB.out p5.h)
          generalize p5.W = w6 at B5 ⊢
          go_wp2
          go_ret
          exact ⟨rfl, B5.out⟩
      · obtain rfl : i = n := by omega
        have hr : r = true := by
          have h1 := HT.out
          rw [List.take_of_length_le (by rw [hl.out]; omega), List.take_of_length_le (by rw [hk.out]; omega)] at h1
          rw [← HR.out]; exact decide_eq_true h1
        subst hr
        go_wp2
        go_ret
        exact ⟨rfl, HB.out⟩
  · have hr : r = false := by
      rw [← HR.out]; exact decide_eq_false (fun e => hnm (by rw [← hl.out, ← hk.out, e]))
    subst hr
    have h1 : ¬ (n : Int) = m := by omega
    have h2 : ((n : Int) != m) = true := by simpa using h1
    go_enter Try.func27, Try.ntmps27
    go_wp2
    go_ret
    exact ⟨rfl, Below.refl _ _⟩
set_option maxRecDepth 100000 in
set_option maxHeartbeats 4000000 in
theorem lsame_any (a b : Option Addr) (n m ca cb : Nat) (l k : List V5) (w : World) (hl : Hid (l.length = n)) (hk : Hid (k.length = m)) (hn : n ≤ 100000) (hm : m ≤ 100000) (ra : Hid (Reads5 w a l)) (rb : Hid (Reads5 w b k)) (r : Bool) (HR : Hid (decide (l = k) = r)) : Calls Try.prog 15 #[.slice a n ca, .slice b m cb] w fun e w' => e = .returned (.bool r) ∧ Below w.heap.size w w' := by
  by_cases hnm : n = m
  · subst hnm
    go_enter Try.func15, Try.ntmps15
    go_wp2
    go_loopw [5] (fun v wr => ∃ i : Nat, v = .int .i64 i ∧ i ≤ n ∧ Hid (l.take i = k.take i) ∧ Hid (Below w.heap.size w wr)) (fun v _ => n - (intOf v).toNat)
    case atStart => exact ⟨0, rfl, by omega, Lib.hid (by simp), Lib.hid (Below.refl _ _)⟩
    case round =>
      obtain ⟨i, rfl, hi, HT, HB⟩ := hrel
      by_cases hlt : i < n
      · have hil : i < l.length := by have := hl.out; omega
        have hik : i < k.length := by have := hk.out; omega
        obtain ⟨ga, oa, rfl, _, ha⟩ := (ra.out.below HB.out) i hil
        obtain ⟨gb, ob, rfl, _, hb⟩ := (rb.out.below HB.out) i hik
        have HTM := Lib.hid (take_more hil hik HT.out)
        have HNE := Lib.hid (ne_at (l := l) (k := k) (i := i))
        clear hil hik
        generalize l[i]?.getD no5 = x at ha HTM HNE
        generalize k[i]?.getD no5 = y at hb HTM HNE
        obtain ⟨x0, x1, x2, x3, x4⟩ := x
        obtain ⟨y0, y1, y2, y3, y4⟩ := y
        obtain ⟨z0, z1, z2, z3, z4⟩ := At5.later2 ha
        obtain ⟨e0, e1, e2, e3, e4⟩ := At5.later2 hb
        simp only at z0 z1 z2 z3 z4 e0 e1 e2 e3 e4
        have zg := guard_look
        clear ha hb
        by_cases hxy : ((x0, x1, x2, x3, x4) : V5) = (y0, y1, y2, y3, y4)
        · have HT2 := Lib.hid (HTM.out hxy)
          cases hxy
          have zq := neq_yes x0 x1 x2 x3 x4
          go_wp2
          refine wp_region_later (by kernel_rfl) (by kernel_rfl) ?_
          repeat (go_big_quiet_step (fail))
          refine wpQuiet_nil ?_
          rintro w5 ⟨p5, rfl⟩
          have B5 := Lib.hid (below_then HB.out p5.h)
          generalize p5.W = w6 at B5 ⊢
          clear z0 z1 z2 z3 z4 e0 e1 e2 e3 e4 zg zq
          go_wp2
          go_roundw
          case rel => exact ⟨i + 1, by go_num, by omega, HT2, B5⟩
          case measure => simp [intOf]; omega
        · have hr : r = false := HR.out.symm.trans (HNE.out hxy)
          subst hr
          have zq := neq_no x0 x1 x2 x3 x4 y0 y1 y2 y3 y4 hxy
          clear hxy
          go_wp2
          refine wp_region_later (by kernel_rfl) (by kernel_rfl) ?_
          repeat (go_big_quiet_step (fail))
          refine wpQuiet_nil ?_
          rintro w5 ⟨p5, rfl⟩
          have B5 := Lib.hid (below_then HB.out p5.h)
          generalize p5.W = w6 at B5 ⊢
          go_wp2
          go_ret
          exact ⟨rfl, B5.out⟩
      · obtain rfl : i = n := by omega
        have hr : r = true := by
          have h1 := HT.out
          rw [List.take_of_length_le (by rw [hl.out]; omega), List.take_of_length_le (by rw [hk.out]; omega)] at h1
          rw [← HR.out]; exact decide_eq_true h1
        subst hr
        go_wp2
        go_ret
        exact ⟨rfl, HB.out⟩
  · have hr : r = false := by
      rw [← HR.out]; exact decide_eq_false (fun e => hnm (by rw [← hl.out, ← hk.out, e]))
    subst hr
    have h1 : ¬ (n : Int) = m := by omega
    have h2 : ((n : Int) != m) = true := by simpa using h1
    go_enter Try.func15, Try.ntmps15
    go_wp2
    go_ret
    exact ⟨rfl, Below.refl _ _⟩
set_option maxRecDepth 100000 in
set_option maxHeartbeats 1000000 in
theorem psame_any (a b : Option Addr) (n m ca cb : Nat) (l k : List V5) (w : World) (hl : Hid (l.length = n)) (hk : Hid (k.length = m)) (hn : n ≤ 100000) (hm : m ≤ 100000) (ra : Hid (Reads5 w a l)) (rb : Hid (Reads5 w b k)) (r : Bool) (HR : Hid (decide (l = k) = r)) : Calls Try.prog 26 #[.slice a n ca, .slice b m cb] w fun e w' => e = .returned (.bool r) ∧ Below w.heap.size w w' := by
  go_enter Try.func26, Try.ntmps26
  go_wp2_with (go_at_call 58; refine (sleq_any a b n m ca cb l k _ hl hk hn hm ra rb r HR).mono ?_; rintro e w1 ⟨rfl, hB⟩; have B1 := Lib.hid hB; clear hB)
  go_ret
  exact ⟨rfl, B1.out⟩
end Go.Proofs.Ytdahaajfkjmflaa.s14

namespace Go.Proofs.Ytdahaajfkjmflaa.s14
set_option linter.unusedVariables false
set_option linter.unusedSimpArgs false
open Go.RowKit
open kit

open s13

open Go.Shelf
theorem box_at5 {w : World} {g : Nat} {x0 x1 x2 x3 x4 : Int} (h : Box w 25 g #[.int .i64 x0, .int .i64 x1, .int .i64 x2, .int .i64 x3, .int .i64 x4]) : (∀ p : Later w, p.W.cell? ⟨g, 0, none⟩ = some (.int .i64 x0)) ∧ (∀ p : Later w, p.W.cell? ⟨g, 1, none⟩ = some (.int .i64 x1)) ∧ (∀ p : Later w, p.W.cell? ⟨g, 2, none⟩ = some (.int .i64 x2)) ∧ (∀ p : Later w, p.W.cell? ⟨g, 3, none⟩ = some (.int .i64 x3)) ∧ (∀ p : Later w, p.W.cell? ⟨g, 4, none⟩ = some (.int .i64 x4)) := by
  obtain ⟨z0, z1, z2, z3, z4⟩ := h.cell5
  have hl := h.lt
  exact ⟨fun p => p.cell z0 hl, fun p => p.cell z1 hl, fun p => p.cell z2 hl, fun p => p.cell z3 hl, fun p => p.cell z4 hl⟩
theorem take_mem {l : List V5} {i : Nat} {x : V5} (h : i < l.length) : x ∈ l.take (i + 1) ↔ x ∈ l.take i ∨ x = l[i]?.getD no5 := by
  rw [List.take_succ_eq_append_getElem h, List.mem_append, List.getElem?_eq_getElem h]; simp
theorem mem_at5 {l : List V5} {i : Nat} (h : i < l.length) : l[i]?.getD no5 ∈ l := by rw [List.getElem?_eq_getElem h]; exact List.getElem_mem h
set_option maxRecDepth 100000 in
set_option maxHeartbeats 4000000 in
theorem sindex_any (a : Option Addr) (n c : Nat) (l : List V5) (x0 x1 x2 x3 x4 : Int) (w : World) (hl : Hid (l.length = n)) (hn : n ≤ 100000) (ra : Hid (Reads5 w a l)) (r : Bool) (HR : Hid (decide (((x0, x1, x2, x3, x4) : V5) ∈ l) = r)) :
    Calls Try.prog 75 #[.slice a n c, .agg #[.int .i64 x0, .int .i64 x1, .int .i64 x2, .int .i64 x3, .int .i64 x4]] w fun e w' => ∃ v : Int, e = .returned (.int .i64 v) ∧ decide (v ≥ 0) = r ∧ Below w.heap.size w w' := by
  go_enter Try.func75, Try.ntmps75
  go_wp2
  go_loopw [8] (fun v wr => ∃ i : Nat, v = .int .i64 i ∧ i ≤ n ∧ Hid (¬ ((x0, x1, x2, x3, x4) : V5) ∈ l.take i) ∧ Hid (Below w.heap.size w wr) ∧ Hid (Box wr 25 w.heap.size #[.int .i64 x0, .int .i64 x1, .int .i64 x2, .int .i64 x3, .int .i64 x4])) (fun v _ => n - (intOf v).toNat)
  case atStart => exact ⟨0, rfl, by omega, Lib.hid (by simp), Lib.hid ((Below.refl _ _).alloc (Nat.le_refl _) _), Lib.hid (Box.new _ _ _)⟩
  case round =>
    obtain ⟨i, rfl, hi, HT, HB, HX⟩ := hrel
    by_cases hlt : i < n
    · have hil : i < l.length := by have := hl.out; omega
      obtain ⟨ga, oa, rfl, _, ha⟩ := (ra.out.below HB.out) i hil
      have HTM := Lib.hid (take_mem (x := ((x0, x1, x2, x3, x4) : V5)) hil)
      have HIN := Lib.hid (mem_at5 hil)
      clear hil
      generalize l[i]?.getD no5 = y at ha HTM HIN
      obtain ⟨y0, y1, y2, y3, y4⟩ := y
      obtain ⟨e0, e1, e2, e3, e4⟩ := At5.later2 ha
      obtain ⟨z0, z1, z2, z3, z4⟩ := box_at5 HX.out
      simp only at e0 e1 e2 e3 e4
      have zg := guard_look
      clear ha
      by_cases hxy : ((x0, x1, x2, x3, x4) : V5) = (y0, y1, y2, y3, y4)
      · have hr : r = true := by rw [← HR.out, hxy]; exact decide_eq_true HIN.out
        cases hxy
        subst hr
        have zq := eql_yes x0 x1 x2 x3 x4
        go_wp2
        refine wp_region_later (by kernel_rfl) (by kernel_rfl) ?_
        repeat (go_big_quiet_step (fail))
        refine wpQuiet_nil ?_
        rintro w5 ⟨p5, rfl⟩
        have B5 := Lib.hid (below_then HB.out p5.h)
        generalize p5.W = w6 at B5 ⊢
        clear z0 z1 z2 z3 z4 e0 e1 e2 e3 e4 zg zq
        go_wp2
        go_ret
        exact ⟨_, rfl, decide_eq_true (by omega), B5.out⟩
      · have hno := Lib.hid (fun h : ((x0, x1, x2, x3, x4) : V5) ∈ l.take (i + 1) => (HTM.out.1 h).elim HT.out hxy)
        have zq := eql_no x0 x1 x2 x3 x4 y0 y1 y2 y3 y4 hxy
        clear hxy
        go_wp2
        refine wp_region_later (by kernel_rfl) (by kernel_rfl) ?_
        repeat (go_big_quiet_step (fail))
        refine wpQuiet_nil ?_
        rintro w5 ⟨p5, rfl⟩
        have B5 := Lib.hid (below_then HB.out p5.h)
        have X5 := Lib.hid (HX.out.below p5.h)
        generalize p5.W = w6 at B5 X5 ⊢
        clear z0 z1 z2 z3 z4 e0 e1 e2 e3 e4 zg zq
        go_wp2
        go_roundw
        case rel => exact ⟨i + 1, by go_num, by omega, hno, B5, X5⟩
        case measure => simp [intOf]; omega
    · obtain rfl : i = n := by omega
      have hr : r = false := by
        have h1 := HT.out
        rw [List.take_of_length_le (by rw [hl.out]; omega)] at h1
        rw [← HR.out]; exact decide_eq_false h1
      subst hr
      go_wp2
      go_ret
      exact ⟨-1, rfl, by decide, HB.out⟩
theorem scontains_any (a : Option Addr) (n c : Nat) (l : List V5) (x0 x1 x2 x3 x4 : Int) (w : World) (hl : Hid (l.length = n)) (hn : n ≤ 100000) (ra : Hid (Reads5 w a l)) (r : Bool) (HR : Hid (decide (((x0, x1, x2, x3, x4) : V5) ∈ l) = r)) :
    Calls Try.prog 49 #[.slice a n c, .agg #[.int .i64 x0, .int .i64 x1, .int .i64 x2, .int .i64 x3, .int .i64 x4]] w fun e w' => e = .returned (.bool r) ∧ Below w.heap.size w w' := by
  have RA := Lib.hid (ra.out.alloc (.cells #[.int .i64 x0, .int .i64 x1, .int .i64 x2, .int .i64 x3, .int .i64 x4] 25))
  have B0 := Lib.hid ((Below.refl w.heap.size w).alloc (Nat.le_refl _) (.cells #[.int .i64 x0, .int .i64 x1, .int .i64 x2, .int .i64 x3, .int .i64 x4] 25))
  obtain ⟨z0, z1, z2, z3, z4⟩ := (Box.new w 25 #[.int .i64 x0, .int .i64 x1, .int .i64 x2, .int .i64 x3, .int .i64 x4]).cell5
  go_enter Try.func49, Try.ntmps49
  go_wp2_with (go_at_call 75; refine (sindex_any a n c l x0 x1 x2 x3 x4 _ hl hn RA r HR).mono ?_; rintro e w1 ⟨v, rfl, hv, hB⟩; have B1 := Lib.hid (below_then B0.out hB); subst hv; clear hB)
  go_ret
  exact ⟨by simp, B1.out⟩
set_option maxRecDepth 100000 in
set_option maxHeartbeats 4000000 in
theorem rin_any (a : Option Addr) (n c : Nat) (l : List V5) (x0 x1 x2 x3 x4 : Int) (w : World) (hl : Hid (l.length = n)) (hn : n ≤ 100000) (ra : Hid (Reads5 w a l)) (r : Bool) (HR : Hid (decide (((x0, x1, x2, x3, x4) : V5) ∈ l) = r)) :
    Calls Try.prog 50 #[.slice a n c, .agg #[.int .i64 x0, .int .i64 x1, .int .i64 x2, .int .i64 x3, .int .i64 x4]] w fun e w' => e = .returned (.bool r) ∧ Below w.heap.size w w' := by
  go_enter Try.func50, Try.ntmps50
  go_wp2
  go_loopw [5] (fun v wr => ∃ i : Nat, v = .int .i64 i ∧ i ≤ n ∧ Hid (¬ ((x0, x1, x2, x3, x4) : V5) ∈ l.take i) ∧ Hid (Below w.heap.size w wr) ∧ Hid (Box wr 25 w.heap.size #[.int .i64 x0, .int .i64 x1, .int .i64 x2, .int .i64 x3, .int .i64 x4])) (fun v _ => n - (intOf v).toNat)
  case atStart => exact ⟨0, rfl, by omega, Lib.hid (by simp), Lib.hid ((Below.refl _ _).alloc (Nat.le_refl _) _), Lib.hid (Box.new _ _ _)⟩
  case round =>
    obtain ⟨i, rfl, hi, HT, HB, HX⟩ := hrel
    by_cases hlt : i < n
    · have hil : i < l.length := by have := hl.out; omega
      obtain ⟨ga, oa, rfl, _, ha⟩ := (ra.out.below HB.out) i hil
      have HTM := Lib.hid (take_mem (x := ((x0, x1, x2, x3, x4) : V5)) hil)
      have HIN := Lib.hid (mem_at5 hil)
      clear hil
      generalize l[i]?.getD no5 = y at ha HTM HIN
      obtain ⟨y0, y1, y2, y3, y4⟩ := y
      obtain ⟨e0, e1, e2, e3, e4⟩ := At5.later2 ha
      obtain ⟨z0, z1, z2, z3, z4⟩ := box_at5 HX.out
      simp only at e0 e1 e2 e3 e4
      have zg := guard_look
      clear ha
      by_cases hxy : ((x0, x1, x2, x3, x4) : V5) = (y0, y1, y2, y3, y4)
      · have hr : r = true := by rw [← HR.out, hxy]; exact decide_eq_true HIN.out
        cases hxy
        subst hr
        have zq := eql_yes x0 x1 x2 x3 x4
        go_wp2
        refine wp_region_later (by kernel_rfl) (by kernel_rfl) ?_
        repeat (go_big_quiet_step (fail))
        refine wpQuiet_nil ?_
        rintro w5 ⟨p5, rfl⟩
        have B5 := Lib.hid (below_then HB.out p5.h)
        generalize p5.W = w6 at B5 ⊢
        clear z0 z1 z2 z3 z4 e0 e1 e2 e3 e4 zg zq
        go_wp2
        go_ret
        exact ⟨rfl, B5.out⟩
      · have hno := Lib.hid (fun h : ((x0, x1, x2, x3, x4) : V5) ∈ l.take (i + 1) => (HTM.out.1 h).elim HT.out hxy)
        have zq := eql_no y0 y1 y2 y3 y4 x0 x1 x2 x3 x4 (fun e => hxy e.symm)
        clear hxy
        go_wp2
        refine wp_region_later (by kernel_rfl) (by kernel_rfl) ?_
        repeat (go_big_quiet_step (fail))
        refine wpQuiet_nil ?_
        rintro w5 ⟨p5, rfl⟩
        have B5 := Lib.hid (below_then HB.out p5.h)
        have X5 := Lib.hid (HX.out.below p5.h)
        generalize p5.W = w6 at B5 X5 ⊢
        clear z0 z1 z2 z3 z4 e0 e1 e2 e3 e4 zg zq
        go_wp2
        go_roundw
        case rel => exact ⟨i + 1, by go_num, by omega, hno, B5, X5⟩
        case measure => simp [intOf]; omega
    · obtain rfl : i = n := by omega
      have hr : r = false := by
        have h1 := HT.out
        rw [List.take_of_length_le (by rw [hl.out]; omega)] at h1
        rw [← HR.out]; exact decide_eq_false h1
      subst hr
      go_wp2
      go_ret
      exact ⟨rfl, HB.out⟩
end Go.Proofs.Ytdahaajfkjmflaa.s14

namespace Go.Proofs.Ytdahaajfkjmflaa.s14
set_option linter.unusedVariables false
set_option linter.unusedSimpArgs false
open Go.RowKit
open kit

open s13

set_option maxRecDepth 100000 in
set_option maxHeartbeats 2000000 in
theorem rchk_range (t : Int) (a : Option Addr) (n c : Nat) (w : World) (h : t < 1 ∨ 8 < t) : Calls Try.prog 12 #[.int .i64 t, .slice a n c] w fun e w' => e = .returned (.int .i64 2) ∧ Below w.heap.size w w' := by
  go_enter Try.func12, Try.ntmps12
  go_wp2_with (go_at_call 43; refine (rrange_no t _ h).mono ?_; rintro e w1 ⟨rfl, rfl⟩)
  go_ret
  exact ⟨rfl, Below.refl _ _⟩
set_option maxRecDepth 100000 in
set_option maxHeartbeats 2000000 in
theorem rchk_full (t : Int) (a : Option Addr) (n c : Nat) (w : World) (h1 : 1 ≤ t) (h2 : t ≤ 8) (hn : 4681 < n) : Calls Try.prog 12 #[.int .i64 t, .slice a n c] w fun e w' => e = .returned (.int .i64 6) ∧ Below w.heap.size w w' := by
  have hq : (n : Int) > 4681 := by omega
  go_enter Try.func12, Try.ntmps12
  go_wp2_with (go_at_call 43; refine (rrange_yes t _ h1 h2).mono ?_; rintro e w1 ⟨rfl, rfl⟩)
  go_ret
  exact ⟨rfl, Below.refl _ _⟩
set_option maxRecDepth 100000 in
set_option maxHeartbeats 4000000 in
theorem rchk_scan (t : Int) (a : Option Addr) (c : Nat) (l : List V5) (w : World) (h1 : 1 ≤ t) (h2 : t ≤ 8) (hn : l.length ≤ 4681) (hr : Hid (Reads5 w a l)) (r : Int) (H : Hid (scanS t none l = r)) : Calls Try.prog 12 #[.int .i64 t, .slice a l.length c] w fun e w' => e = .returned (.int .i64 r) ∧ Below w.heap.size w w' := by
  have hq : ¬ ((l.length : Int) > 4681) := by omega
  go_enter Try.func12, Try.ntmps12
  go_wp2_with (go_at_call 43; refine (rrange_yes t _ h1 h2).mono ?_; rintro e w1 ⟨rfl, rfl⟩)
  clear hq
  go_loopw [6] (fun i wr => ∃ k : Nat, i = .int .i64 k ∧ k ≤ l.length ∧ Hid (scanS t (last? l k) (l.drop k) = r) ∧ Hid (∀ j, j < k → chkV (l[j]?.getD no5) t = 0) ∧ Hid (Below w.heap.size w wr)) (fun i _ => l.length - (intOf i).toNat)
  case atStart => exact ⟨0, rfl, by omega, H, Lib.hid (fun j hj => by omega), Lib.hid (Below.refl _ _)⟩
  case round =>
    obtain ⟨k, rfl, hk, HK, HV, HB⟩ := hrel
    by_cases hlt : k < l.length
    · obtain ⟨b, off, rfl, hb, c0, c1, c2, c3, c4⟩ := (hr.out.below HB.out) k hlt
      have HD := HK.out
      rw [drop_get hlt] at HD
      have HBs := HB.out.size
      have hprev : ∀ m, k = m + 1 → At5 wr b (off + m * 5) (l[m]?.getD no5) := fun m hm => by
        obtain ⟨b', off', e, hb', hat⟩ := (hr.out.below HB.out) m (by omega)
        cases e; exact hat
      have hV' := HV.out
      rcases k with _ | m
      · have hx0 : l[0]?.getD no5 = l[0]?.getD no5 := rfl
        have hnext : chkV (l[0]?.getD no5) t = 0 → ∀ j, j < 0 + 1 → chkV (l[j]?.getD no5) t = 0 := fun h j hj => by (have e : j = 0 := by omega); rw [e]; exact h
        have hl1 : last? l (0 + 1) = some (l[0]?.getD no5) := rfl
        rw [show last? l 0 = none from rfl] at HD
        rw [Nat.zero_mul, Nat.add_zero] at c0 c1 c2 c3 c4
        clear hx0 hprev hV' HK HV
        have HN := Lib.hid hnext
        have HL := Lib.hid hl1
        clear hnext hl1
        generalize l[0]?.getD no5 = x at c0 c1 c2 c3 c4 HD HN HL
        obtain ⟨n, x0, x1, x2, x3⟩ := x
        simp only at c0 c1 c2 c3 c4
        rw [scanS] at HD
        by_cases hz : chkV (n, x0, x1, x2, x3) t = 0
        · rw [if_neg (by simpa using hz)] at HD
          have HZ : Hid (chkP n x0 x1 x2 x3 t = 0) := Lib.hid hz
          have HD2 := Lib.hid HD
          have HN2 := Lib.hid (HN.out hz)
          clear hz HD HN
          go_wp2_with (go_at_call 44; refine (s13.rcheck_any n x0 x1 x2 x3 t 0 _ HZ).mono ?_; rintro e w1 ⟨rfl, hB⟩; have B1 := Lib.hid (below_then HB.out hB); clear hB)
          clear c0 c1 c2 c3 c4
          refine wp_region_later (by kernel_rfl) (by kernel_rfl) ?_
          repeat (go_big_quiet_step (fail))
          refine wpQuiet_nil ?_
          rintro w5 ⟨p5, rfl⟩
          have B5 := Lib.hid (below_then B1.out p5.h)
          generalize p5.W = w6 at B5 ⊢
          go_wp2
          go_roundw
          case rel => exact ⟨0 + 1, by go_num, by omega, by rw [HL.out]; exact HD2, HN2, B5⟩
          case measure => simp [intOf]; omega
        · rw [if_pos hz] at HD
          have hz2 : (r != 0) = true := by rw [HD] at hz; simpa using hz
          have HZ : Hid (chkP n x0 x1 x2 x3 t = r) := Lib.hid HD
          clear hz HD HN
          go_wp2_with (go_at_call 44; refine (s13.rcheck_any n x0 x1 x2 x3 t r _ HZ).mono ?_; rintro e w1 ⟨rfl, hB⟩; have B1 := Lib.hid (below_then HB.out hB); clear hB)
          go_ret
          exact ⟨rfl, B1.out⟩
      · have hnext : chkV (l[m + 1]?.getD no5) t = 0 → ∀ j, j < m + 1 + 1 → chkV (l[j]?.getD no5) t = 0 := fun h j hj => by
          by_cases e : j = m + 1
          · subst e; exact h
          · exact hV' j (by omega)
        have hl1 : last? l (m + 1 + 1) = some (l[m + 1]?.getD no5) := rfl
        rw [show last? l (m + 1) = some (l[m]?.getD no5) from rfl] at HD
        have hvm := hV' m (by omega)
        obtain ⟨d0, d1, d2, d3, d4⟩ := hprev m rfl
        clear hprev hV' HK HV
        have HN := Lib.hid hnext
        have HL := Lib.hid hl1
        clear hnext hl1
        generalize l[m + 1]?.getD no5 = x at c0 c1 c2 c3 c4 HD HN HL
        generalize l[m]?.getD no5 = y at d0 d1 d2 d3 d4 HD hvm
        obtain ⟨n, x0, x1, x2, x3⟩ := x
        obtain ⟨n', y0, y1, y2, y3⟩ := y
        simp only at c0 c1 c2 c3 c4 d0 d1 d2 d3 d4
        rw [scanS] at HD
        by_cases hz : chkV (n, x0, x1, x2, x3) t = 0
        · rw [if_neg (by simpa using hz)] at HD
          have HZ : Hid (chkP n x0 x1 x2 x3 t = 0) := Lib.hid hz
          have HE := cmpE_eta hvm hz
          have HN2 := Lib.hid (HN.out hz)
          generalize (cmpE (n', y0, y1, y2, y3) (n, x0, x1, x2, x3)).1 = v at HE HD
          have HC := Lib.hid HE
          clear hz HN hvm HE
          have hm0 : (0 : Int) < ((m + 1 : Nat) : Int) := by omega
          have hmm : ((m + 1 : Nat) : Int) - 1 = (m : Int) := by omega
          have hml : m < l.length := by omega
          have HX5 := Lib.hid (show At5 wr b (off + (m + 1) * 5) (n, x0, x1, x2, x3) from ⟨c0, c1, c2, c3, c4⟩)
          have HA := Lib.hid (show At5 wr b (off + m * 5) (n', y0, y1, y2, y3) from ⟨d0, d1, d2, d3, d4⟩)
          clear d0 d1 d2 d3 d4
          go_wp2_with (go_at_call 44; refine (s13.rcheck_any n x0 x1 x2 x3 t 0 _ HZ).mono ?_; rintro e w1 ⟨rfl, hB⟩; have B1 := Lib.hid (below_then HB.out hB); have X1 := Lib.hid (HX5.out.below hB); have A1 := Lib.hid (HA.out.below hB); clear hB)
          clear c0 c1 c2 c3 c4
          have z := fun p : Later w1 => At5.later X1.out p
          have z0 := fun p : Later w1 => (z p).1
          have z1 := fun p : Later w1 => (z p).2.1
          have z2 := fun p : Later w1 => (z p).2.2.1
          have z3 := fun p : Later w1 => (z p).2.2.2.1
          have z4 := fun p : Later w1 => (z p).2.2.2.2
          have y := fun p : Later w1 => At5.later A1.out p
          have e0 := fun p : Later w1 => (y p).1
          have e1 := fun p : Later w1 => (y p).2.1
          have e2 := fun p : Later w1 => (y p).2.2.1
          have e3 := fun p : Later w1 => (y p).2.2.2.1
          have e4 := fun p : Later w1 => (y p).2.2.2.2
          clear z y
          by_cases hv : 0 ≤ v
          · rw [if_pos hv] at HD
            have hvd : decide (0 ≤ v) = true := decide_eq_true hv
            have HD9 := Lib.hid HD
            clear HD
            refine wp_region_later (by kernel_rfl) (by kernel_rfl) ?_
            repeat (go_big_quiet_step ((first | (go_at_call 45; exact calls_later (rcmp_any n' y0 y1 y2 y3 n x0 x1 x2 x3 v _ HC)))))
            refine wpQuiet_nil ?_
            rintro w5 ⟨p5, rfl⟩
            have B5 := Lib.hid (below_then B1.out p5.h)
            generalize p5.W = w6 at B5 ⊢
            go_wp2
            go_ret
            exact ⟨ret_int HD9.out, B5.out⟩
          · rw [if_neg hv] at HD
            have hvd : decide (0 ≤ v) = false := decide_eq_false hv
            have HD9 := Lib.hid HD
            clear HD
            refine wp_region_later (by kernel_rfl) (by kernel_rfl) ?_
            repeat (go_big_quiet_step ((first | (go_at_call 45; exact calls_later (rcmp_any n' y0 y1 y2 y3 n x0 x1 x2 x3 v _ HC)))))
            refine wpQuiet_nil ?_
            rintro w5 ⟨p5, rfl⟩
            have B5 := Lib.hid (below_then B1.out p5.h)
            generalize p5.W = w6 at B5 ⊢
            go_wp2
            go_roundw
            case rel => exact ⟨m + 1 + 1, by go_num, by omega, by rw [HL.out]; exact HD9, HN2, B5⟩
            case measure => simp [intOf]; omega
        · rw [if_pos hz] at HD
          have hz2 : (r != 0) = true := by rw [HD] at hz; simpa using hz
          have HZ : Hid (chkP n x0 x1 x2 x3 t = r) := Lib.hid HD
          clear hz HD HN hvm
          go_wp2_with (go_at_call 44; refine (s13.rcheck_any n x0 x1 x2 x3 t r _ HZ).mono ?_; rintro e w1 ⟨rfl, hB⟩; have B1 := Lib.hid (below_then HB.out hB); clear hB)
          go_ret
          exact ⟨rfl, B1.out⟩
    · obtain rfl : k = l.length := by omega
      have h0 := HK.out
      rw [List.drop_length] at h0
      have H0 : Hid (0 = r) := Lib.hid (by rw [← h0]; cases last? l l.length <;> rfl)
      clear h0
      go_wp2
      go_ret
      exact ⟨ret_int H0.out, HB.out⟩
end Go.Proofs.Ytdahaajfkjmflaa.s14

namespace Go.Proofs.Ytdahaajfkjmflaa.s14
set_option linter.unusedVariables false
set_option linter.unusedSimpArgs false
open Go.RowKit
open kit

open s13

theorem rset_any (t : Int) (a : Option Addr) (n c : Nat) (l : List V5) (w : World) (hl : Hid (l.length = n)) (hn : n ≤ 60000) (hr : Hid (Reads5 w a l)) (r : Int) (H : Hid (chkS t l = r)) : Calls Try.prog 12 #[.int .i64 t, .slice a n c] w fun e w' => e = .returned (.int .i64 r) ∧ Below w.heap.size w w' := by
  have h := H.out
  obtain rfl := hl.out
  unfold chkS at h
  by_cases ht : t < 1 ∨ 8 < t
  · rw [if_pos ht] at h; subst h
    exact rchk_range t a _ c w ht
  · rw [if_neg ht] at h
    by_cases hf : 4681 < l.length
    · rw [if_pos hf] at h; subst h
      exact rchk_full t a _ c w (by omega) (by omega) hf
    · rw [if_neg hf] at h
      exact rchk_scan t a c l w (by omega) (by omega) (by omega) hr r (Lib.hid h)
theorem chkA_M (t : Int) (l : List V5) (ls : List (List V5)) : chkA t (l :: ls) = chkM t (l :: ls) := by
  unfold chkA
  by_cases h : t < 1 ∨ 8 < t
  · rw [if_pos h]
    show 2 = if chkS t l ≠ 0 then chkS t l else chkM t ls
    have e : chkS t l = 2 := by unfold chkS; rw [if_pos h]
    rw [e]; rfl
  · rw [if_neg h]
set_option maxRecDepth 100000 in
set_option maxHeartbeats 2000000 in
theorem rboth_any (t : Int) (a b : Option Addr) (n m ca cb : Nat) (la lb : List V5) (w : World) (hn : Hid (la.length = n)) (hm : Hid (lb.length = m)) (hn6 : n ≤ 60000) (hm6 : m ≤ 60000) (ra : Hid (Reads5 w a la)) (rb : Hid (Reads5 w b lb)) (r : Int) (HR : Hid (chkA t [la, lb] = r)) :
    Calls Try.prog 56 #[.int .i64 t, .slice a n ca, .slice b m cb] w fun e w' => e = .returned (.int .i64 r) ∧ Below w.heap.size w w' := by
  have h := HR.out
  rw [chkA_M] at h
  have h' : (if chkS t la ≠ 0 then chkS t la else if chkS t lb ≠ 0 then chkS t lb else 0) = r := h
  by_cases h1 : chkS t la = 0
  · have H1 := Lib.hid h1
    rw [if_neg (by simpa using h1)] at h'
    have h2 : chkS t lb = r := by
      by_cases h2 : chkS t lb = 0
      · rw [if_neg (by simpa using h2)] at h'; rw [h2]; exact h'
      · rw [if_pos h2] at h'; exact h'
    have H2 := Lib.hid h2
    clear h h' h1 h2
    go_enter Try.func56, Try.ntmps56
    go_wp2_with (fail)
    go_at_call 12
    refine (rset_any t a n ca la _ hn hn6 ra 0 H1).mono ?_
    rintro e w1 ⟨rfl, hB⟩
    have B1 := Lib.hid hB
    have rb1 := Lib.hid (rb.out.below hB)
    clear hB
    go_wp2_with (fail)
    go_at_call 12
    refine (rset_any t b m cb lb _ hm hm6 rb1 r H2).mono ?_
    rintro e w2 ⟨rfl, hB⟩
    have B2 := Lib.hid (below_then B1.out hB)
    clear hB
    go_wp2
    go_ret
    exact ⟨rfl, B2.out⟩
  · rw [if_pos h1] at h'
    have H1 := Lib.hid h'
    have hne : ¬ r = 0 := by rw [← h']; exact h1
    have hne2 : (r == 0) = false := by simpa using hne
    clear h h' h1
    go_enter Try.func56, Try.ntmps56
    go_wp2_with (go_at_call 12; refine (rset_any t a n ca la _ hn hn6 ra r H1).mono ?_; rintro e w1 ⟨rfl, hB⟩; have B1 := Lib.hid hB; clear hB)
    go_ret
    exact ⟨rfl, B1.out⟩
def rngE (e k : Int) : Int := if e = 0 ∧ (k < 1 ∨ 4 < k) then 2 else e
theorem rranged_any (e k : Int) (w : World) (r : Int) (H : Hid (rngE e k = r)) : Calls Try.prog 64 #[.int .i64 e, .int .i64 k] w fun x w' => x = .returned (.int .i64 r) ∧ w' = w := by
  have h := H.out
  unfold rngE at h
  by_cases he : e = 0
  · subst he
    by_cases h1 : k < 1
    · rw [if_pos ⟨rfl, .inl h1⟩] at h; subst h
      go_enter Try.func64, Try.ntmps64
      go_wp2
      go_ret
      exact ⟨rfl, rfl⟩
    · by_cases h4 : 4 < k
      · rw [if_pos ⟨rfl, .inr h4⟩] at h; subst h
        have h1d : decide (k < 1) = false := decide_eq_false h1
        go_enter Try.func64, Try.ntmps64
        go_wp2
        go_ret
        exact ⟨rfl, rfl⟩
      · rw [if_neg (by omega)] at h; subst h
        have h1d : decide (k < 1) = false := decide_eq_false h1
        have h4d : decide (4 < k) = false := decide_eq_false h4
        go_enter Try.func64, Try.ntmps64
        go_wp2
        go_ret
        exact ⟨rfl, rfl⟩
  · rw [if_neg (by omega)] at h; subst h
    have hne2 : (e == 0) = false := by simpa using he
    go_enter Try.func64, Try.ntmps64
    go_wp2
    go_ret
    exact ⟨rfl, rfl⟩
set_option maxRecDepth 100000 in
set_option maxHeartbeats 2000000 in
theorem rjoin14_any (k n a b c d n' a' b' c' d' : Int) (w : World) (y0 y1 y2 y3 y4 r : Int) (H : Hid (joinE k (n, a, b, c, d) (n', a', b', c', d') = ((y0, y1, y2, y3, y4), r))) :
    Calls Try.prog 66 #[.int .i64 k, .agg #[.int .i64 n, .int .i64 a, .int .i64 b, .int .i64 c, .int .i64 d], .agg #[.int .i64 n', .int .i64 a', .int .i64 b', .int .i64 c', .int .i64 d']] w fun e w' => e = .returned (.agg #[.int .i64 y0, .int .i64 y1, .int .i64 y2, .int .i64 y3, .int .i64 y4]) ∧ Below w.heap.size w w' := by
  go_enter Try.func66, Try.ntmps66
  go_wp2_with (go_at_call 82; refine (s13.rjoin_any k n a b c d n' a' b' c' d' _ (y0, y1, y2, y3, y4) r H).mono ?_; rintro e w1 ⟨he, hB⟩; simp only [s13.LE] at he; subst he; obtain ⟨X1, Y1, Z1, hB1⟩ := made3 hB; have B1 := Lib.hid (hB1.alloc hB1.size (.cells #[.int .i64 y0, .int .i64 y1, .int .i64 y2, .int .i64 y3, .int .i64 y4] 25)); have Z2 := Lib.hid (Z1.alloc (.cells #[.int .i64 y0, .int .i64 y1, .int .i64 y2, .int .i64 y3, .int .i64 y4] 25)); obtain ⟨u0, u1, u2, u3, u4⟩ := (Box.new w1 25 #[.int .i64 y0, .int .i64 y1, .int .i64 y2, .int .i64 y3, .int .i64 y4]).cell5; clear hB hB1 X1 Y1 Z1; obtain ⟨v0, v1, v2, v3, v4⟩ := Z2.out.cell5; obtain ⟨g0, g1, g2, g3, g4⟩ := Z2.out.free5)
  obtain ⟨z0, z1, z2, z3, z4⟩ := (Z2.out.put5 (.int .i64 y0) (.int .i64 y1) (.int .i64 y2) (.int .i64 y3) (.int .i64 y4)).cell5
  exact bodyPost_ret (v := .agg #[.int .i64 y0, .int .i64 y1, .int .i64 y2, .int .i64 y3, .int .i64 y4]) (by simp [results, Try.results66, go_sem, z0, z1, z2, z3, z4]) rfl ⟨rfl, below_put5 B1.out (by omega) _ _ _ _ _⟩
theorem rbound_any (a : Option Addr) (n c : Nat) (w : World) : Calls Try.prog 29 #[.slice a n c] w fun e w' => e = .returned (.int .i64 (if 600 < n then 19 else 0)) ∧ Below w.heap.size w w' := by
  by_cases h : 600 < n
  · rw [if_pos h]
    have hq : (n : Int) > 600 := by omega
    go_enter Try.func29, Try.ntmps29
    go_wp2
    go_ret
    exact ⟨rfl, Below.refl _ _⟩
  · rw [if_neg h]
    have hq : ¬ ((n : Int) > 600) := by omega
    go_enter Try.func29, Try.ntmps29
    go_wp2
    go_ret
    exact ⟨rfl, Below.refl _ _⟩
end Go.Proofs.Ytdahaajfkjmflaa.s14

namespace Go.Proofs.Ytdahaajfkjmflaa.s14
set_option linter.unusedVariables false
set_option linter.unusedSimpArgs false
open Go.RowKit
open kit

open s13

open Go.Shelf
/-- what Has says -/
def hasE (t : Int) (l : List V5) (x : V5) : Bool × Int := if chkS t l ≠ 0 then (false, chkS t l) else if chkV x t ≠ 0 then (false, chkV x t) else (decide (x ∈ l), 0)
set_option maxRecDepth 100000 in
set_option maxHeartbeats 4000000 in
theorem phas_any (t : Int) (a : Option Addr) (n c : Nat) (l : List V5) (x0 x1 x2 x3 x4 : Int) (w : World) (hl : Hid (l.length = n)) (hn : n ≤ 60000) (ra : Hid (Reads5 w a l)) (b : Bool) (q : Int) (H : Hid (hasE t l (x0, x1, x2, x3, x4) = (b, q))) :
    Calls Try.prog 16 #[.int .i64 t, .slice a n c, .agg #[.int .i64 x0, .int .i64 x1, .int .i64 x2, .int .i64 x3, .int .i64 x4]] w fun e w' => e = .returned (.tuple #[.bool b, .int .i64 q]) ∧ Below w.heap.size w w' := by
  have h := H.out
  unfold hasE at h
  have RA := Lib.hid (ra.out.alloc (.cells #[.int .i64 x0, .int .i64 x1, .int .i64 x2, .int .i64 x3, .int .i64 x4] 25))
  have B0 := Lib.hid ((Below.refl w.heap.size w).alloc (Nat.le_refl _) (.cells #[.int .i64 x0, .int .i64 x1, .int .i64 x2, .int .i64 x3, .int .i64 x4] 25))
  have X0 := Lib.hid (Box.new w 25 #[.int .i64 x0, .int .i64 x1, .int .i64 x2, .int .i64 x3, .int .i64 x4])
  by_cases h1 : chkS t l = 0
  · rw [if_neg (by simpa using h1)] at h
    by_cases h2 : chkV (x0, x1, x2, x3, x4) t = 0
    · rw [if_neg (by simpa using h2)] at h
      obtain ⟨rfl, rfl⟩ := Prod.mk.inj h
      have H1 := Lib.hid h1
      have H2 : Hid (chkP x0 x1 x2 x3 x4 t = 0) := Lib.hid h2
      clear h h1 h2
      go_enter Try.func16, Try.ntmps16
      go_wp2_with (fail)
      go_at_call 11
      refine (pset_any t a n c l _ hl hn RA 0 H1).mono ?_
      rintro e w1 ⟨rfl, hB⟩
      have B1 := Lib.hid (below_then B0.out hB)
      have R1 := Lib.hid (RA.out.below hB)
      have X1 := Lib.hid (X0.out.below hB)
      clear hB
      obtain ⟨z0, z1, z2, z3, z4⟩ := X1.out.cell5
      go_wp2_with (fail)
      go_at_call 41
      refine (s13.pcheck_any x0 x1 x2 x3 x4 t 0 _ H2).mono ?_
      rintro e w2 ⟨rfl, hB⟩
      have B2 := Lib.hid (below_then B1.out hB)
      have R2 := Lib.hid (R1.out.below hB)
      have X2 := Lib.hid (X1.out.below hB)
      clear hB z0 z1 z2 z3 z4
      obtain ⟨z0, z1, z2, z3, z4⟩ := X2.out.cell5
      go_wp2_with (fail)
      go_at_call 49
      refine (scontains_any a n c l x0 x1 x2 x3 x4 _ hl (by omega) R2 _ (Lib.hid rfl)).mono ?_
      rintro e w3 ⟨rfl, hB⟩
      have B3 := Lib.hid (below_then B2.out hB)
      clear hB z0 z1 z2 z3 z4
      go_wp2
      go_ret2
      exact ⟨rfl, B3.out⟩
    · rw [if_pos (by simpa using h2)] at h
      obtain ⟨rfl, rfl⟩ := Prod.mk.inj h
      have H1 := Lib.hid h1
      obtain ⟨r, hr⟩ : ∃ r, chkV (x0, x1, x2, x3, x4) t = r := ⟨_, rfl⟩
      rw [hr] at h2 ⊢
      have H2 : Hid (chkP x0 x1 x2 x3 x4 t = r) := Lib.hid hr
      have hne : (r == 0) = false := by simpa using h2
      have hnf : (r != 0) = true := by simpa using h2
      clear h h1 hr
      go_enter Try.func16, Try.ntmps16
      go_wp2_with (fail)
      go_at_call 11
      refine (pset_any t a n c l _ hl hn RA 0 H1).mono ?_
      rintro e w1 ⟨rfl, hB⟩
      have B1 := Lib.hid (below_then B0.out hB)
      have X1 := Lib.hid (X0.out.below hB)
      clear hB
      obtain ⟨z0, z1, z2, z3, z4⟩ := X1.out.cell5
      go_wp2_with (fail)
      go_at_call 41
      refine (s13.pcheck_any x0 x1 x2 x3 x4 t r _ H2).mono ?_
      rintro e w2 ⟨rfl, hB⟩
      have B2 := Lib.hid (below_then B1.out hB)
      clear hB z0 z1 z2 z3 z4
      go_wp2
      go_ret2
      exact ⟨rfl, B2.out⟩
  · rw [if_pos h1] at h
    obtain ⟨rfl, rfl⟩ := Prod.mk.inj h
    obtain ⟨r, hr⟩ : ∃ r, chkS t l = r := ⟨_, rfl⟩
    rw [hr] at h1 ⊢
    have H1 := Lib.hid hr
    have hne : (r == 0) = false := by simpa using h1
    have hnf : (r != 0) = true := by simpa using h1
    clear h hr
    go_enter Try.func16, Try.ntmps16
    go_wp2_with (fail)
    go_at_call 11
    refine (pset_any t a n c l _ hl hn RA r H1).mono ?_
    rintro e w1 ⟨rfl, hB⟩
    have B1 := Lib.hid (below_then B0.out hB)
    clear hB
    go_wp2
    go_ret2
    exact ⟨rfl, B1.out⟩
set_option maxRecDepth 100000 in
set_option maxHeartbeats 4000000 in
theorem rhas_any (t : Int) (a : Option Addr) (n c : Nat) (l : List V5) (x0 x1 x2 x3 x4 : Int) (w : World) (hl : Hid (l.length = n)) (hn : n ≤ 60000) (ra : Hid (Reads5 w a l)) (b : Bool) (q : Int) (H : Hid (hasE t l (x0, x1, x2, x3, x4) = (b, q))) :
    Calls Try.prog 17 #[.int .i64 t, .slice a n c, .agg #[.int .i64 x0, .int .i64 x1, .int .i64 x2, .int .i64 x3, .int .i64 x4]] w fun e w' => e = .returned (.tuple #[.bool b, .int .i64 q]) ∧ Below w.heap.size w w' := by
  have h := H.out
  unfold hasE at h
  have RA := Lib.hid (ra.out.alloc (.cells #[.int .i64 x0, .int .i64 x1, .int .i64 x2, .int .i64 x3, .int .i64 x4] 25))
  have B0 := Lib.hid ((Below.refl w.heap.size w).alloc (Nat.le_refl _) (.cells #[.int .i64 x0, .int .i64 x1, .int .i64 x2, .int .i64 x3, .int .i64 x4] 25))
  have X0 := Lib.hid (Box.new w 25 #[.int .i64 x0, .int .i64 x1, .int .i64 x2, .int .i64 x3, .int .i64 x4])
  by_cases h1 : chkS t l = 0
  · rw [if_neg (by simpa using h1)] at h
    by_cases h2 : chkV (x0, x1, x2, x3, x4) t = 0
    · rw [if_neg (by simpa using h2)] at h
      obtain ⟨rfl, rfl⟩ := Prod.mk.inj h
      have H1 := Lib.hid h1
      have H2 : Hid (chkP x0 x1 x2 x3 x4 t = 0) := Lib.hid h2
      clear h h1 h2
      go_enter Try.func17, Try.ntmps17
      go_wp2_with (fail)
      go_at_call 12
      refine (rset_any t a n c l _ hl hn RA 0 H1).mono ?_
      rintro e w1 ⟨rfl, hB⟩
      have B1 := Lib.hid (below_then B0.out hB)
      have R1 := Lib.hid (RA.out.below hB)
      have X1 := Lib.hid (X0.out.below hB)
      clear hB
      obtain ⟨z0, z1, z2, z3, z4⟩ := X1.out.cell5
      go_wp2_with (fail)
      go_at_call 44
      refine (s13.rcheck_any x0 x1 x2 x3 x4 t 0 _ H2).mono ?_
      rintro e w2 ⟨rfl, hB⟩
      have B2 := Lib.hid (below_then B1.out hB)
      have R2 := Lib.hid (R1.out.below hB)
      have X2 := Lib.hid (X1.out.below hB)
      clear hB z0 z1 z2 z3 z4
      obtain ⟨z0, z1, z2, z3, z4⟩ := X2.out.cell5
      go_wp2_with (fail)
      go_at_call 50
      refine (rin_any a n c l x0 x1 x2 x3 x4 _ hl (by omega) R2 _ (Lib.hid rfl)).mono ?_
      rintro e w3 ⟨rfl, hB⟩
      have B3 := Lib.hid (below_then B2.out hB)
      clear hB z0 z1 z2 z3 z4
      go_wp2
      go_ret2
      exact ⟨rfl, B3.out⟩
    · rw [if_pos (by simpa using h2)] at h
      obtain ⟨rfl, rfl⟩ := Prod.mk.inj h
      have H1 := Lib.hid h1
      obtain ⟨r, hr⟩ : ∃ r, chkV (x0, x1, x2, x3, x4) t = r := ⟨_, rfl⟩
      rw [hr] at h2 ⊢
      have H2 : Hid (chkP x0 x1 x2 x3 x4 t = r) := Lib.hid hr
      have hne : (r == 0) = false := by simpa using h2
      have hnf : (r != 0) = true := by simpa using h2
      clear h h1 hr
      go_enter Try.func17, Try.ntmps17
      go_wp2_with (fail)
      go_at_call 12
      refine (rset_any t a n c l _ hl hn RA 0 H1).mono ?_
      rintro e w1 ⟨rfl, hB⟩
      have B1 := Lib.hid (below_then B0.out hB)
      have X1 := Lib.hid (X0.out.below hB)
      clear hB
      obtain ⟨z0, z1, z2, z3, z4⟩ := X1.out.cell5
      go_wp2_with (fail)
      go_at_call 44
      refine (s13.rcheck_any x0 x1 x2 x3 x4 t r _ H2).mono ?_
      rintro e w2 ⟨rfl, hB⟩
      have B2 := Lib.hid (below_then B1.out hB)
      clear hB z0 z1 z2 z3 z4
      go_wp2
      go_ret2
      exact ⟨rfl, B2.out⟩
  · rw [if_pos h1] at h
    obtain ⟨rfl, rfl⟩ := Prod.mk.inj h
    obtain ⟨r, hr⟩ : ∃ r, chkS t l = r := ⟨_, rfl⟩
    rw [hr] at h1 ⊢
    have H1 := Lib.hid hr
    have hne : (r == 0) = false := by simpa using h1
    have hnf : (r != 0) = true := by simpa using h1
    clear h hr
    go_enter Try.func17, Try.ntmps17
    go_wp2_with (fail)
    go_at_call 12
    refine (rset_any t a n c l _ hl hn RA r H1).mono ?_
    rintro e w1 ⟨rfl, hB⟩
    have B1 := Lib.hid (below_then B0.out hB)
    clear hB
    go_wp2
    go_ret2
    exact ⟨rfl, B1.out⟩
end Go.Proofs.Ytdahaajfkjmflaa.s14
