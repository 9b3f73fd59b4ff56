/-
  Layer 14: LooksetSums. Layer 13: looks that come in, opened. Layer 14: lists of looks that come in, opened to cells.
-/
import Derived.Test.YtdahaajfkjmflaaG18
import Derived.Test.YtdahaajfkjmflaaG02
import Derived.Lib.SmallJoins
import Derived.Deep.Slices
import Derived.Deep.Fields
import Derived.ChangeSame
import Derived.Laws.IdiomArrays
import Derived.ProofKit
namespace Go.Proofs.Ytdahaajfkjmflaa.s14
set_option linter.unusedVariables false
set_option linter.unusedSimpArgs false
open Go.RowKit
open kit

open s13

open Go.Shelf
set_option maxRecDepth 100000 in
set_option maxHeartbeats 6000000 in
theorem sums_law (t k : Int) (a b : Option Addr) (n m ca cb : Nat) (la lb : List V5) (w : World) (hn : Hid (la.length = n)) (hm : Hid (lb.length = m)) (hca : n ≤ ca) (hcb : m ≤ cb) (ra : Hid (Reads5 w a la)) (rb : Hid (Reads5 w b lb)) :
    Calls Try.prog 4 #[.int .i64 t, .int .i64 k, .slice a n ca, .slice b m cb] w fun e w' => e = .returned (.bool true) ∧ Below w.heap.size w w' := by
  have D : ∀ x : Int, ∀ y : Int, x < y → decide (x < y) = true := fun x y h => decide_eq_true h
  have D' : ∀ x : Int, ∀ y : Int, ¬ x < y → decide (x < y) = false := fun x y h => decide_eq_false h
  by_cases h1 : n ≤ 40
  · by_cases h2 : m ≤ 40
    · obtain ⟨X, N, q, hX, hN, HP, HR⟩ := sum_pair t k la lb n m hn hm h1 h2
      obtain ⟨Y, M, r, hY, hM, HPc, HRc⟩ := cut_pair t k la n hn h1
      have HP := Lib.hid HP; have HR := Lib.hid HR; have HPc := Lib.hid HPc; have HRc := Lib.hid HRc; have hX := Lib.hid hX; have hY := Lib.hid hY
      have g0 : ¬ ((n : Int) > 40) := by omega
      have d0 : decide ((n : Int) > 40) = false := decide_eq_false g0
      have g1 : ¬ ((m : Int) > 40) := by omega
      have d1 : decide ((m : Int) > 40) = false := decide_eq_false g1
      clear D D'
      go_enter Try.func4, Try.ntmps4
      go_wp2_with (fail)
      go_at_call 28
      refine (pbound_any a n ca _ (by omega)).mono ?_
      rw [if_neg (show ¬ 600 < n by omega)]
      rintro e w1 ⟨rfl, hB⟩
      have ra1 := Lib.hid (ra.out.below hB); have rb1 := Lib.hid (rb.out.below hB); have B1 := Lib.hid hB; clear hB
      go_wp2_with (fail)
      go_at_call 29
      refine (rbound_any a n ca _).mono ?_
      rw [if_neg (show ¬ 600 < n by omega)]
      rintro e w2 ⟨rfl, hB⟩
      have ra2 := Lib.hid (ra1.out.below hB)
      have rb2 := Lib.hid (rb1.out.below hB)
      have B2 := Lib.hid (below_then B1.out hB)
      clear hB
      go_wp2_with (fail)
      go_at_call 10
      refine (lown_any a n ca la _ hn (by omega) ra2).mono ?_
      rintro e w4 ⟨vh, rfl, hv, hB⟩
      obtain ⟨ph, ch, rfl, hch⟩ := row5_shape hv
      have Rh3 := Lib.hid (reads5_of_row hn.out hv)
      have ra3 := Lib.hid (ra2.out.below hB)
      have rb3 := Lib.hid (rb2.out.below hB)
      have B3 := Lib.hid (below_then B2.out hB)
      clear hB
      clear hv
      go_wp2_with (fail)
      go_at_call 10
      refine (lown_any b m cb lb _ hm (by omega) rb3).mono ?_
      rintro e w5 ⟨vi, rfl, hv, hB⟩
      obtain ⟨pi, ci, rfl, hci⟩ := row5_shape hv
      have Ri4 := Lib.hid (reads5_of_row hm.out hv)
      have ra4 := Lib.hid (ra3.out.below hB)
      have rb4 := Lib.hid (rb3.out.below hB)
      have Rh4 := Lib.hid (Rh3.out.below hB)
      have B4 := Lib.hid (below_then B3.out hB)
      clear hB
      clear hv
      go_wp2_with (fail)
      go_at_call 30
      refine (HP.out ph pi ch ci _ hch hci Rh4 Ri4).mono ?_
      rintro e w6 ⟨pl, cl, rfl, rl, hB⟩
      have Rl5 := Lib.hid rl
      have ra5 := Lib.hid (ra4.out.below hB)
      have rb5 := Lib.hid (rb4.out.below hB)
      have Rh5 := Lib.hid (Rh4.out.below hB)
      have Ri5 := Lib.hid (Ri4.out.below hB)
      have B5 := Lib.hid (below_then B4.out hB)
      clear hB
      clear rl
      go_wp2_with (fail)
      go_at_call 31
      refine (HR.out a b ca cb _ ra5 rb5).mono ?_
      rintro e w7 ⟨pm, cm, rfl, rm, hB⟩
      have Rm6 := Lib.hid rm
      have ra6 := Lib.hid (ra5.out.below hB)
      have rb6 := Lib.hid (rb5.out.below hB)
      have Rh6 := Lib.hid (Rh5.out.below hB)
      have Ri6 := Lib.hid (Ri5.out.below hB)
      have Rl6 := Lib.hid (Rl5.out.below hB)
      have B6 := Lib.hid (below_then B5.out hB)
      clear hB
      clear rm
      go_wp2_with (fail)
      go_at_call 15
      refine (lsame_any pl pm N N cl cm X X _ hX hX (by omega) (by omega) Rl6 Rm6 true (Lib.hid (decide_eq_true rfl))).mono ?_
      rintro e w8 ⟨rfl, hB⟩
      have ra7 := Lib.hid (ra6.out.below hB)
      have rb7 := Lib.hid (rb6.out.below hB)
      have Rh7 := Lib.hid (Rh6.out.below hB)
      have Ri7 := Lib.hid (Ri6.out.below hB)
      have Rl7 := Lib.hid (Rl6.out.below hB)
      have Rm7 := Lib.hid (Rm6.out.below hB)
      have B7 := Lib.hid (below_then B6.out hB)
      clear hB
      go_wp2_with (fail)
      go_at_call 32
      refine (HPc.out ph ch _ Rh7).mono ?_
      rintro e w9 ⟨pe, ce, rfl, re, hB⟩
      have Re8 := Lib.hid re
      have ra8 := Lib.hid (ra7.out.below hB)
      have rb8 := Lib.hid (rb7.out.below hB)
      have Rh8 := Lib.hid (Rh7.out.below hB)
      have Ri8 := Lib.hid (Ri7.out.below hB)
      have B8 := Lib.hid (below_then B7.out hB)
      clear hB
      clear re
      go_wp2_with (fail)
      go_at_call 33
      refine (HRc.out a ca _ ra8).mono ?_
      rintro e w10 ⟨pf, cf, rfl, rf, hB⟩
      have Rf9 := Lib.hid rf
      have ra9 := Lib.hid (ra8.out.below hB)
      have rb9 := Lib.hid (rb8.out.below hB)
      have Rh9 := Lib.hid (Rh8.out.below hB)
      have Ri9 := Lib.hid (Ri8.out.below hB)
      have Re9 := Lib.hid (Re8.out.below hB)
      have B9 := Lib.hid (below_then B8.out hB)
      clear hB
      clear rf
      go_wp2_with (fail)
      go_at_call 15
      refine (lsame_any pe pf M M ce cf Y Y _ hY hY (by omega) (by omega) Re9 Rf9 true (Lib.hid (decide_eq_true rfl))).mono ?_
      rintro e w11 ⟨rfl, hB⟩
      have ra10 := Lib.hid (ra9.out.below hB)
      have rb10 := Lib.hid (rb9.out.below hB)
      have Rh10 := Lib.hid (Rh9.out.below hB)
      have Ri10 := Lib.hid (Ri9.out.below hB)
      have Re10 := Lib.hid (Re9.out.below hB)
      have Rf10 := Lib.hid (Rf9.out.below hB)
      have B10 := Lib.hid (below_then B9.out hB)
      clear hB
      go_wp2_with (fail)
      go_at_call 15
      refine (lsame_any ph a n n ch ca la la _ hn hn (by omega) (by omega) Rh10 ra10 true (Lib.hid (decide_eq_true rfl))).mono ?_
      rintro e w12 ⟨rfl, hB⟩
      have ra11 := Lib.hid (ra10.out.below hB)
      have rb11 := Lib.hid (rb10.out.below hB)
      have Rh11 := Lib.hid (Rh10.out.below hB)
      have Ri11 := Lib.hid (Ri10.out.below hB)
      have B11 := Lib.hid (below_then B10.out hB)
      clear hB
      go_wp2_with (fail)
      go_at_call 15
      refine (lsame_any pi b m m ci cb lb lb _ hm hm (by omega) (by omega) Ri11 rb11 true (Lib.hid (decide_eq_true rfl))).mono ?_
      rintro e w13 ⟨rfl, hB⟩
      have ra12 := Lib.hid (ra11.out.below hB)
      have rb12 := Lib.hid (rb11.out.below hB)
      have Rh12 := Lib.hid (Rh11.out.below hB)
      have Ri12 := Lib.hid (Ri11.out.below hB)
      have B12 := Lib.hid (below_then B11.out hB)
      clear hB
      go_wp2_with (fail)
      go_at_call 9
      refine (awake_any _).mono ?_
      rintro e w14 ⟨rfl, hB⟩
      have B13 := Lib.hid (below_then B12.out hB)
      clear hB
      go_wp2_with (fail)
      go_ret
      exact ⟨rfl, B13.out⟩
    · skip
      have g0 : ¬ ((n : Int) > 40) := by omega
      have d0 : decide ((n : Int) > 40) = false := decide_eq_false g0
      have g1 : (m : Int) > 40 := by omega
      have d1 : decide ((m : Int) > 40) = true := decide_eq_true g1
      clear hn hm hca hcb ra rb D D'
      go_enter Try.func4, Try.ntmps4
      go_wp2_with (go_at_call 9; refine (awake_any _).mono ?_; rintro e w1 ⟨rfl, hB⟩; have B1 := Lib.hid hB; clear hB)
      go_ret
      exact ⟨rfl, B1.out⟩
  · by_cases h3 : n < 600
    · skip
      have g0 : (n : Int) > 40 := by omega
      have d0 : decide ((n : Int) > 40) = true := decide_eq_true g0
      have g1 : (n : Int) < 600 := by omega
      have d1 : decide ((n : Int) < 600) = true := decide_eq_true g1
      clear hn hm hca hcb ra rb D D'
      go_enter Try.func4, Try.ntmps4
      go_wp2_with (go_at_call 9; refine (awake_any _).mono ?_; rintro e w1 ⟨rfl, hB⟩; have B1 := Lib.hid hB; clear hB)
      go_ret
      exact ⟨rfl, B1.out⟩
    · by_cases h4 : 602 < n
      · skip
        have g0 : (n : Int) > 40 := by omega
        have d0 : decide ((n : Int) > 40) = true := decide_eq_true g0
        have g1 : ¬ ((n : Int) < 600) := by omega
        have d1 : decide ((n : Int) < 600) = false := decide_eq_false g1
        have g2 : (n : Int) > 602 := by omega
        have d2 : decide ((n : Int) > 602) = true := decide_eq_true g2
        clear hn hm hca hcb ra rb D D'
        go_enter Try.func4, Try.ntmps4
        go_wp2_with (go_at_call 9; refine (awake_any _).mono ?_; rintro e w1 ⟨rfl, hB⟩; have B1 := Lib.hid hB; clear hB)
        go_ret
        exact ⟨rfl, B1.out⟩
      · by_cases h5 : 40 < m
        · skip
          have g0 : (n : Int) > 40 := by omega
          have d0 : decide ((n : Int) > 40) = true := decide_eq_true g0
          have g1 : ¬ ((n : Int) < 600) := by omega
          have d1 : decide ((n : Int) < 600) = false := decide_eq_false g1
          have g2 : ¬ ((n : Int) > 602) := by omega
          have d2 : decide ((n : Int) > 602) = false := decide_eq_false g2
          have g3 : (m : Int) > 40 := by omega
          have d3 : decide ((m : Int) > 40) = true := decide_eq_true g3
          clear hn hm hca hcb ra rb D D'
          go_enter Try.func4, Try.ntmps4
          go_wp2_with (go_at_call 9; refine (awake_any _).mono ?_; rintro e w1 ⟨rfl, hB⟩; have B1 := Lib.hid hB; clear hB)
          go_ret
          exact ⟨rfl, B1.out⟩
        · obtain ⟨z, hz⟩ : ∃ z : Int, (if 600 < n then 19 else 0) = z := ⟨_, rfl⟩
          have g0 : (n : Int) > 40 := by omega
          have d0 : decide ((n : Int) > 40) = true := decide_eq_true g0
          have g1 : ¬ ((n : Int) < 600) := by omega
          have d1 : decide ((n : Int) < 600) = false := decide_eq_false g1
          have g2 : ¬ ((n : Int) > 602) := by omega
          have d2 : decide ((n : Int) > 602) = false := decide_eq_false g2
          have g3 : ¬ ((m : Int) > 40) := by omega
          have d3 : decide ((m : Int) > 40) = false := decide_eq_false g3
          clear D D' hn hm hca hcb ra rb
          go_enter Try.func4, Try.ntmps4
          go_wp2_with (fail)
          go_at_call 28
          refine (pbound_any a n ca _ (by omega)).mono ?_
          rw [hz]
          rintro e w1 ⟨rfl, hB⟩
          have B1 := Lib.hid hB; clear hB
          go_wp2_with (fail)
          go_at_call 29
          refine (rbound_any a n ca _).mono ?_
          rw [hz]
          rintro e w2 ⟨rfl, hB⟩
          have B2 := Lib.hid (below_then B1.out hB); clear hB hz
          go_wp2_with (go_at_call 9; refine (awake_any _).mono ?_; rintro e w1 ⟨rfl, hB⟩; have B3 := Lib.hid (below_then B2.out hB); clear hB)
          go_ret
          exact ⟨rfl, B3.out⟩
end Go.Proofs.Ytdahaajfkjmflaa.s14

namespace Go.Proofs.Ytdahaajfkjmflaa.s13
set_option linter.unusedVariables false
set_option linter.unusedSimpArgs false
open Go.RowKit
open kit

open Go.ChangeShapes Go.WideShapes Go.Deep
theorem array5 {cs : Array Value} (h : cs.size = 5) : ∃ c0 c1 c2 c3 c4, cs = #[c0, c1, c2, c3, c4] := by
  obtain ⟨l⟩ := cs
  match l, h with
  | [a, b, c, d, e], _ => exact ⟨a, b, c, d, e, rfl⟩
set_option maxRecDepth 100000 in
theorem open_look {H : Type} {enc : TypeId × Value → H} {w : World} {r : Reach} {b0 : Nat} {v : Value} {d : DataW H} {p : List MemPlace} (hv : Value.okWide Try.prog w r b0 25 v) (h : DataW.Trod enc Try.prog w 0 (fun _ => true) true 25 v d p) :
    ∃ (n a b c e : Int), v = .agg #[.int .i64 n, .int .i64 a, .int .i64 b, .int .i64 c, .int .i64 e] ∧ (Lit.int .i64 n).wf = true ∧ (Lit.int .i64 a).wf = true ∧ (Lit.int .i64 b).wf = true ∧ (Lit.int .i64 c).wf = true ∧ (Lit.int .i64 e).wf = true := by
  obtain ⟨cs, rfl, hsz⟩ := okWide_struct Try.underlying25 hv
  obtain ⟨c0, c1, c2, c3, c4, rfl⟩ := array5 (hsz.trans (by kernel_rfl))
  obtain ⟨fuel, hf⟩ := h
  obtain ⟨ys, n', hn', hy, hlen, hyl, hff⟩ := DataW.trod_struct Try.underlying25 hf
  match ys, hyl with
  | [y0, y1], _ =>
    have f0 : DataW.trod enc Try.prog w 0 (fun _ => true) true n' 3 [c0] = some y0 := hff 0 _ rfl
    have f1 : DataW.trod enc Try.prog w 0 (fun _ => true) true n' 23 [c1, c2, c3, c4] = some y1 := hff 1 _ rfl
    obtain ⟨z1, z2, z3, z4, n2, _, g1, g2, g3, g4⟩ := trod_array4 Try.underlying23 (by kernel_rfl) f1
    obtain ⟨n, e0, _, w0⟩ := DataW.trod_int Try.underlying3 f0
    obtain ⟨a, e1, _, w1⟩ := DataW.trod_int Try.underlying3 g1
    obtain ⟨b, e2, _, w2⟩ := DataW.trod_int Try.underlying3 g2
    obtain ⟨c, e3, _, w3⟩ := DataW.trod_int Try.underlying3 g3
    obtain ⟨e, e4, _, w4⟩ := DataW.trod_int Try.underlying3 g4
    simp at e0 e1 e2 e3 e4
    exact ⟨n, a, b, c, e, by rw [e0, e1, e2, e3, e4], w0, w1, w2, w3, w4⟩
end Go.Proofs.Ytdahaajfkjmflaa.s13

namespace Go.Proofs.Ytdahaajfkjmflaa.s14
set_option linter.unusedVariables false
set_option linter.unusedSimpArgs false
open Go.RowKit
open kit

open s13

open Go.ChangeShapes Go.WideShapes Go.Deep
set_option maxRecDepth 100000 in
theorem look_cells {H : Type} {enc : TypeId × Value → H} {w : World} {n : Nat} {cs' : List Value} {x : DataW H × List MemPlace} (hcl : cs'.length = 5) (h : DataW.trod enc Try.prog w 0 (fun _ => true) true n 25 cs' = some x) :
    ∃ y : V5, cs' = cells5 y := by
  obtain ⟨ys, n', hn', hy, hlen, hyl, hff⟩ := DataW.trod_struct Try.underlying25 h
  match cs', hcl with
  | [c0, c1, c2, c3, c4], _ =>
    match ys, hyl with
    | [y0, y1], _ =>
      have f0 : DataW.trod enc Try.prog w 0 (fun _ => true) true n' 3 [c0] = some y0 := hff 0 _ rfl
      have f1 : DataW.trod enc Try.prog w 0 (fun _ => true) true n' 23 [c1, c2, c3, c4] = some y1 := hff 1 _ rfl
      obtain ⟨z1, z2, z3, z4, n2, _, g1, g2, g3, g4⟩ := trod_array4 Try.underlying23 (by kernel_rfl) f1
      obtain ⟨n, e0, _, w0⟩ := DataW.trod_int Try.underlying3 f0
      obtain ⟨a, e1, _, w1⟩ := DataW.trod_int Try.underlying3 g1
      obtain ⟨b, e2, _, w2⟩ := DataW.trod_int Try.underlying3 g2
      obtain ⟨c, e3, _, w3⟩ := DataW.trod_int Try.underlying3 g3
      obtain ⟨e, e4, _, w4⟩ := DataW.trod_int Try.underlying3 g4
      simp at e0 e1 e2 e3 e4
      exact ⟨(n, a, b, c, e), by rw [e0, e1, e2, e3, e4]; rfl⟩
theorem open_looks {H : Type} {enc : TypeId × Value → H} {w : World} {fuel : Nat} {cs : List Value} {x : DataW H × List MemPlace} (h : DataW.trod enc Try.prog w 0 (fun _ => true) true fuel 22 cs = some x) :
    cs = [.slice none 0 0] ∨ ∃ (a : Addr) (len cap : Nat) (z : List V5), cs = [.slice (some a) len cap] ∧ len ≤ maxLen ∧ len ≤ cap ∧ z.length = len ∧ Reads5 w (some a) z := by
  rcases open_slice Try.underlying22 h with ⟨h0, _⟩ | ⟨a, len, cap, m, n, D, Pl, hcs, _, hl, hm, hmm, _, hi⟩
  · exact .inl h0
  · refine .inr ⟨a, len, cap, ?_⟩
    have hc5 : Try.prog.cellsOf 25 = 5 := by kernel_rfl
    rw [hc5] at hi
    have hmc : m = cap := by simpa using hmm
    have hcell : ∀ i, i < len → ∃ y : V5, w.cell? (a.add (i * 5)) = some (.int .i64 y.1) ∧ w.cell? (a.add (i * 5 + 1)) = some (.int .i64 y.2.1) ∧ w.cell? (a.add (i * 5 + 2)) = some (.int .i64 y.2.2.1) ∧ w.cell? (a.add (i * 5 + 3)) = some (.int .i64 y.2.2.2.1) ∧ w.cell? (a.add (i * 5 + 4)) = some (.int .i64 y.2.2.2.2) := fun i hil => by
      obtain ⟨cs', hc, ht'⟩ := hi i (by omega)
      obtain ⟨_, hcl, hat⟩ := World.cells?_some hc
      obtain ⟨y, rfl⟩ := look_cells hcl ht'
      have g0 := hat 0 (by omega)
      have g1 := hat 1 (by omega)
      have g2 := hat 2 (by omega)
      have g3 := hat 3 (by omega)
      have g4 := hat 4 (by omega)
      rw [add_add] at g0 g1 g2 g3 g4
      exact ⟨y, g0, g1, g2, g3, g4⟩
    have key : ∀ n, n ≤ len → ∃ z : List V5, z.length = n ∧ ∀ i, i < n → w.cell? (a.add (i * 5)) = some (.int .i64 (z[i]?.getD no5).1) ∧ w.cell? (a.add (i * 5 + 1)) = some (.int .i64 (z[i]?.getD no5).2.1) ∧ w.cell? (a.add (i * 5 + 2)) = some (.int .i64 (z[i]?.getD no5).2.2.1) ∧ w.cell? (a.add (i * 5 + 3)) = some (.int .i64 (z[i]?.getD no5).2.2.2.1) ∧ w.cell? (a.add (i * 5 + 4)) = some (.int .i64 (z[i]?.getD no5).2.2.2.2) := by
      intro n
      induction n with
      | zero => intro _; exact ⟨[], rfl, fun i hi => by omega⟩
      | succ n ih =>
        intro hn
        obtain ⟨z, hz, hall⟩ := ih (by omega)
        obtain ⟨y, hy⟩ := hcell n (by omega)
        refine ⟨z ++ [y], by simp [hz], fun i hi => ?_⟩
        by_cases e : i = n
        · subst e
          have : (z ++ [y])[i]?.getD no5 = y := by rw [List.getElem?_append_right (by omega), hz, Nat.sub_self]; rfl
          rw [this]; exact hy
        · rw [List.getElem?_append_left (by omega)]; exact hall i (by omega)
    obtain ⟨z, hz, hall⟩ := key len (Nat.le_refl _)
    refine ⟨z, hcs, by omega, by omega, hz, fun i hi => ?_⟩
    obtain ⟨b, off, spot⟩ := a
    have hspot : spot = none := by simpa [Addr.add] using World.cell?_spot (hall 0 (by omega)).1
    subst hspot
    obtain ⟨g0, g1, g2, g3, g4⟩ := hall i (by omega)
    rw [Go.WideShapes.add_plain] at g0 g1 g2 g3 g4
    exact ⟨b, off, rfl, cell_lt g0, g0, by rw [← Nat.add_assoc] at g1; exact g1, by rw [← Nat.add_assoc] at g2; exact g2, by rw [← Nat.add_assoc] at g3; exact g3, by rw [← Nat.add_assoc] at g4; exact g4⟩
end Go.Proofs.Ytdahaajfkjmflaa.s14
