/-
  Layer 14: the program's Meet, Less, Cut, Least, Has, Bound, Union on sets. Layer 14: the program's Least, Has, Union. Layer 14: lists of sets with their room; the program's Union. Layer 14: the law's helpers x, own, set.
-/
import Derived.Test.YtdahaajfkjmflaaG12
import Derived.Test.YtdahaajfkjmflaaG13
namespace Go.Proofs.Ytdahaajfkjmflaa.s14
set_option linter.unusedVariables false
set_option linter.unusedSimpArgs false
open Go.RowKit
open kit

open s13

open Go.Shelf
theorem grid_one (w : World) {a b : Option Addr} {n m ca cb : Nat} {l k : List V5} (t : TypeId) (hl : Hid (l.length = n)) (hk : Hid (k.length = m)) (ra : Hid (Reads5 w a l)) (rb : Hid (Reads5 w b k)) : Hid (Grid (w.alloc (.cells #[.slice a n ca, .slice b m cb] t)) (some ⟨w.heap.size, 0, none⟩) [l, k]) :=
  Lib.hid (grid2 (Box.new w t _) hl.out hk.out (ra.out.alloc _) (rb.out.alloc _))
theorem two_short {l k : List V5} {n m : Nat} (hl : Hid (l.length = n)) (hk : Hid (k.length = m)) (h1 : n ≤ 60000) (h2 : m ≤ 60000) : Hid (∀ i, i < [l, k].length → ([l, k][i]?.getD []).length ≤ 60000) := Lib.hid (fun i hi => by
  have : i = 0 ∨ i = 1 := by simp at hi; omega
  rcases this with rfl | rfl
  · simpa [hl.out] using h1
  · simpa [hk.out] using h2)
theorem mlen {L : List (List Int)} {n : Nat} (h : Hid (L.length = n)) : Hid ((L.map pad5).length = n) := Lib.hid (by rw [List.length_map]; exact h.out)
set_option maxRecDepth 100000 in
set_option maxHeartbeats 2000000 in
theorem pmeet_bad (t : Int) (a b : Option Addr) (n m ca cb : Nat) (la lb : List V5) (w : World) (hn : Hid (la.length = n)) (hm : Hid (lb.length = m)) (hn6 : n ≤ 60000) (hm6 : m ≤ 60000) (ra : Hid (Reads5 w a la)) (rb : Hid (Reads5 w b lb)) (r : Int) (HR : Hid (chkA t [la, lb] = r)) (hr : (r != 0) = true) :
    Calls Try.prog 20 #[.int .i64 t, .slice a n ca, .slice b m cb] w fun e w' => e = noS r ∧ Below w.heap.size w w' := by
  have HG := grid_one w (ca := ca) (cb := cb) 22 hn hm ra rb
  have HM := two_short hn hm hn6 hm6
  go_enter Try.func20, Try.ntmps20
  go_wp2_with (go_at_call 51; refine (checkall_any t _ 2 2 [la, lb] _ (Lib.hid rfl) (by omega) HM HG r HR).mono ?_; rintro e w1 ⟨rfl, hB⟩; have B1 := Lib.hid (made1 hB).2; clear hB)
  go_ret2
  exact ⟨rfl, B1.out⟩
set_option maxRecDepth 100000 in
set_option maxHeartbeats 2000000 in
theorem pmeet_ok (t : Int) (a b : Option Addr) (n m ca cb : Nat) (A B : List (List Int)) (w : World) (hn : Hid (A.length = n)) (hm : Hid (B.length = m)) (hn6 : n ≤ 20000) (hm6 : m ≤ 20000) (hca : n ≤ ca) (hcb : m ≤ cb) (hA : Hid (∀ x ∈ A, okL 8 x)) (hB : Hid (∀ x ∈ B, okL 8 x)) (ra : Hid (Reads5 w a (A.map pad5))) (rb : Hid (Reads5 w b (B.map pad5))) (HR : Hid (chkA t [A.map pad5, B.map pad5] = 0)) (R : List (List Int)) (N : Nat) (HS : Hid (mrg kM A B = R)) (HN : Hid (R.length = N)) :
    Calls Try.prog 20 #[.int .i64 t, .slice a n ca, .slice b m cb] w fun e w' => ∃ p cp, e = .returned (.tuple #[.slice p N cp, .int .i64 0]) ∧ Reads5 w' p (R.map pad5) ∧ Below w.heap.size w w' ∧ N ≤ cp := by
  have HG := grid_one w (ca := ca) (cb := cb) 22 (mlen hn) (mlen hm) ra rb
  have HM := two_short (mlen hn) (mlen hm) (by omega) (by omega)
  go_enter Try.func20, Try.ntmps20
  go_wp2_with (first
    | (go_at_call 51; refine (checkall_any t _ 2 2 [A.map pad5, B.map pad5] _ (Lib.hid rfl) (by omega) HM HG 0 HR).mono ?_; rintro e w1 ⟨rfl, hB1⟩; have B1 := Lib.hid (made1 hB1).2; clear hB1)
    | (go_at_call 54; refine (mergeM a b n m ca cb A B _ hn hm hca hcb (by omega) hA hB (Lib.hid (ra.out.below B1.out)) (Lib.hid (rb.out.below B1.out)) R N HS HN).mono ?_; rintro e w2 ⟨p, cp, rfl, hR2, hB2, hc2⟩; have R2 := Lib.hid hR2; have B2 := Lib.hid (below_then B1.out hB2); clear hR2 hB2))
  go_ret2
  exact ⟨p, cp, rfl, R2.out, B2.out, hc2⟩
set_option maxRecDepth 100000 in
set_option maxHeartbeats 2000000 in
theorem pless_bad (t : Int) (a b : Option Addr) (n m ca cb : Nat) (la lb : List V5) (w : World) (hn : Hid (la.length = n)) (hm : Hid (lb.length = m)) (hn6 : n ≤ 60000) (hm6 : m ≤ 60000) (ra : Hid (Reads5 w a la)) (rb : Hid (Reads5 w b lb)) (r : Int) (HR : Hid (chkA t [la, lb] = r)) (hr : (r != 0) = true) :
    Calls Try.prog 22 #[.int .i64 t, .slice a n ca, .slice b m cb] w fun e w' => e = noS r ∧ Below w.heap.size w w' := by
  have HG := grid_one w (ca := ca) (cb := cb) 22 hn hm ra rb
  have HM := two_short hn hm hn6 hm6
  go_enter Try.func22, Try.ntmps22
  go_wp2_with (go_at_call 51; refine (checkall_any t _ 2 2 [la, lb] _ (Lib.hid rfl) (by omega) HM HG r HR).mono ?_; rintro e w1 ⟨rfl, hB⟩; have B1 := Lib.hid (made1 hB).2; clear hB)
  go_ret2
  exact ⟨rfl, B1.out⟩
set_option maxRecDepth 100000 in
set_option maxHeartbeats 2000000 in
theorem pless_ok (t : Int) (a b : Option Addr) (n m ca cb : Nat) (A B : List (List Int)) (w : World) (hn : Hid (A.length = n)) (hm : Hid (B.length = m)) (hn6 : n ≤ 20000) (hm6 : m ≤ 20000) (hca : n ≤ ca) (hcb : m ≤ cb) (hA : Hid (∀ x ∈ A, okL 8 x)) (hB : Hid (∀ x ∈ B, okL 8 x)) (ra : Hid (Reads5 w a (A.map pad5))) (rb : Hid (Reads5 w b (B.map pad5))) (HR : Hid (chkA t [A.map pad5, B.map pad5] = 0)) (R : List (List Int)) (N : Nat) (HS : Hid (mrg kL A B = R)) (HN : Hid (R.length = N)) :
    Calls Try.prog 22 #[.int .i64 t, .slice a n ca, .slice b m cb] w fun e w' => ∃ p cp, e = .returned (.tuple #[.slice p N cp, .int .i64 0]) ∧ Reads5 w' p (R.map pad5) ∧ Below w.heap.size w w' ∧ N ≤ cp := by
  have HG := grid_one w (ca := ca) (cb := cb) 22 (mlen hn) (mlen hm) ra rb
  have HM := two_short (mlen hn) (mlen hm) (by omega) (by omega)
  go_enter Try.func22, Try.ntmps22
  go_wp2_with (first
    | (go_at_call 51; refine (checkall_any t _ 2 2 [A.map pad5, B.map pad5] _ (Lib.hid rfl) (by omega) HM HG 0 HR).mono ?_; rintro e w1 ⟨rfl, hB1⟩; have B1 := Lib.hid (made1 hB1).2; clear hB1)
    | (go_at_call 54; refine (mergeL a b n m ca cb A B _ hn hm hca hcb (by omega) hA hB (Lib.hid (ra.out.below B1.out)) (Lib.hid (rb.out.below B1.out)) R N HS HN).mono ?_; rintro e w2 ⟨p, cp, rfl, hR2, hB2, hc2⟩; have R2 := Lib.hid hR2; have B2 := Lib.hid (below_then B1.out hB2); clear hR2 hB2))
  go_ret2
  exact ⟨p, cp, rfl, R2.out, B2.out, hc2⟩
set_option maxRecDepth 100000 in
set_option maxHeartbeats 2000000 in
theorem pcut_bad (t k : Int) (a : Option Addr) (n c : Nat) (l : List V5) (w : World) (hl : Hid (l.length = n)) (hn : n ≤ 60000) (hr : Hid (Reads5 w a l)) (r : Int) (HR : Hid (chkS t l = r)) (h0 : (r != 0) = true) :
    Calls Try.prog 32 #[.int .i64 t, .int .i64 k, .slice a n c] w fun e w' => e = noS r ∧ Below w.heap.size w w' := by
  go_enter Try.func32, Try.ntmps32
  go_wp2_with (go_at_call 11; refine (pset_any t a n c l _ hl hn hr r HR).mono ?_; rintro e w1 ⟨rfl, hB⟩; have B1 := Lib.hid hB; clear hB)
  go_ret2
  exact ⟨rfl, B1.out⟩
set_option maxRecDepth 100000 in
set_option maxHeartbeats 2000000 in
theorem pcut_k (t k : Int) (a : Option Addr) (n c : Nat) (l : List V5) (w : World) (hl : Hid (l.length = n)) (hn : n ≤ 60000) (hr : Hid (Reads5 w a l)) (HR : Hid (chkS t l = 0)) (hk : k < 1 ∨ 4 < k) :
    Calls Try.prog 32 #[.int .i64 t, .int .i64 k, .slice a n c] w fun e w' => e = noS 2 ∧ Below w.heap.size w w' := by
  go_enter Try.func32, Try.ntmps32
  go_wp2_with (first
    | (go_at_call 11; refine (pset_any t a n c l _ hl hn hr 0 HR).mono ?_; rintro e w1 ⟨rfl, hB⟩; have B1 := Lib.hid hB; clear hB)
    | (go_at_call 59; refine (isahead_no k _ hk).mono ?_; rintro e w2 ⟨rfl, rfl⟩))
  go_ret2
  exact ⟨rfl, B1.out⟩
set_option maxRecDepth 100000 in
set_option maxHeartbeats 2000000 in
theorem pcut_ok (t : Int) (K : Nat) (a : Option Addr) (n c : Nat) (L : List (List Int)) (w : World) (hK1 : 1 ≤ K) (hK4 : K ≤ 4) (hl : Hid (L.length = n)) (hn : n ≤ 60000) (hL : Hid (∀ x ∈ L, okL 8 x)) (hr : Hid (Reads5 w a (L.map pad5))) (HR : Hid (chkS t (L.map pad5) = 0)) (R : List (List Int)) (N : Nat) (HS : Hid (cutS K L = R)) (HN : Hid (R.length = N)) :
    Calls Try.prog 32 #[.int .i64 t, .int .i64 K, .slice a n c] w fun e w' => ∃ p cp, e = .returned (.tuple #[.slice p N cp, .int .i64 0]) ∧ Reads5 w' p (R.map pad5) ∧ Below w.heap.size w w' ∧ N ≤ cp := by
  go_enter Try.func32, Try.ntmps32
  go_wp2_with (first
    | (go_at_call 11; refine (pset_any t a n c (L.map pad5) _ (mlen hl) hn hr 0 HR).mono ?_; rintro e w1 ⟨rfl, hB⟩; have B1 := Lib.hid hB; clear hB)
    | (go_at_call 59; refine (isahead_yes K _ (by omega) (by omega)).mono ?_; rintro e w2 ⟨rfl, rfl⟩)
    | (go_at_call 60; refine (pcutset_any a n c K L _ hl hn hK4 hL (Lib.hid (hr.out.below B1.out)) R N HS HN).mono ?_; rintro e w2 ⟨p, cp, rfl, hR2, hB2, hc2, _⟩; have R2 := Lib.hid hR2; have B2 := Lib.hid (below_then B1.out hB2); clear hR2 hB2))
  go_ret2
  exact ⟨p, cp, rfl, R2.out, B2.out, hc2⟩
set_option maxRecDepth 100000 in
set_option maxHeartbeats 2000000 in
theorem pbound_any (a : Option Addr) (n c : Nat) (w : World) (hn : n ≤ 60000) : Calls Try.prog 28 #[.slice a n c] w fun e w' => e = .returned (.int .i64 (if 600 < n then 19 else 0)) ∧ Below w.heap.size w w' := by
  by_cases h : 600 < n
  · rw [if_pos h]
    have hq := issize_no n 600 w h hn
    go_enter Try.func28, Try.ntmps28
    go_wp2_with (go_at_call 40; refine hq.mono ?_; rintro e w1 ⟨rfl, rfl⟩)
    go_ret
    exact ⟨rfl, Below.refl _ _⟩
  · rw [if_neg h]
    have hq := issize_yes n 600 w (by omega) (by omega)
    go_enter Try.func28, Try.ntmps28
    go_wp2_with (go_at_call 40; refine hq.mono ?_; rintro e w1 ⟨rfl, rfl⟩)
    go_ret
    exact ⟨rfl, Below.refl _ _⟩
/-- Least -/
def leastP (t : Int) (l : List V5) : V5 × Int := if chkS t l ≠ 0 then (no5, chkS t l) else match l with | [] => (no5, 20) | x :: _ => (x, 0)
end Go.Proofs.Ytdahaajfkjmflaa.s14

namespace Go.Proofs.Ytdahaajfkjmflaa.s14
set_option linter.unusedVariables false
set_option linter.unusedSimpArgs false
open Go.RowKit
open kit

open s13

open Go.Shelf
set_option maxRecDepth 100000 in
set_option maxHeartbeats 2000000 in
theorem pleast_bad (t : Int) (a : Option Addr) (n c : Nat) (l : List V5) (w : World) (hl : Hid (l.length = n)) (hn : n ≤ 60000) (hr : Hid (Reads5 w a l)) (r : Int) (HR : Hid (chkS t l = r)) (h0 : (r != 0) = true) :
    Calls Try.prog 24 #[.int .i64 t, .slice a n c] w fun e w' => e = .returned (LE no5 r) ∧ Below w.heap.size w w' := by
  have HRD := Lib.hid (hr.out.alloc (.cells #[.int .i64 0, .int .i64 0, .int .i64 0, .int .i64 0, .int .i64 0] 25))
  go_enter Try.func24, Try.ntmps24
  go_wp2_with (go_at_call 11; refine (pset_any t a n c l _ hl hn HRD r HR).mono ?_; rintro e w1 ⟨rfl, hB⟩; obtain ⟨Y1, hB1⟩ := made1 hB; have B1 := Lib.hid hB1; have Y1 := Lib.hid Y1; clear hB hB1; obtain ⟨v0, v1, v2, v3, v4⟩ := Y1.out.cell5; obtain ⟨g0, g1, g2, g3, g4⟩ := Y1.out.free5)
  obtain ⟨z0, z1, z2, z3, z4⟩ := (Y1.out.put5 (.int .i64 0) (.int .i64 0) (.int .i64 0) (.int .i64 0) (.int .i64 0)).cell5
  exact bodyPost_ret (v := .tuple #[.agg #[.int .i64 0, .int .i64 0, .int .i64 0, .int .i64 0, .int .i64 0], .int .i64 r]) (by simp [results, Try.results24, go_sem, z0, z1, z2, z3, z4]) rfl ⟨rfl, below_put5 B1.out (by omega) _ _ _ _ _⟩
set_option maxRecDepth 100000 in
set_option maxHeartbeats 2000000 in
theorem pleast_none (t : Int) (a : Option Addr) (c : Nat) (w : World) (h1 : 1 ≤ t) (h2 : t ≤ 8) :
    Calls Try.prog 24 #[.int .i64 t, .slice a 0 c] w fun e w' => e = .returned (LE no5 20) ∧ Below w.heap.size w w' := by
  have HR : Hid (chkS t [] = 0) := Lib.hid (by unfold chkS; rw [if_neg (by omega)]; rfl)
  go_enter Try.func24, Try.ntmps24
  go_wp2_with (go_at_call 11; refine (pset_any t a 0 c [] _ (Lib.hid rfl) (by omega) (Lib.hid (Reads5.nil _ _)) 0 HR).mono ?_; rintro e w1 ⟨rfl, hB⟩; obtain ⟨Y1, hB1⟩ := made1 hB; have B1 := Lib.hid hB1; have Y1 := Lib.hid Y1; clear hB hB1; obtain ⟨v0, v1, v2, v3, v4⟩ := Y1.out.cell5; obtain ⟨g0, g1, g2, g3, g4⟩ := Y1.out.free5)
  obtain ⟨z0, z1, z2, z3, z4⟩ := (Y1.out.put5 (.int .i64 0) (.int .i64 0) (.int .i64 0) (.int .i64 0) (.int .i64 0)).cell5
  exact bodyPost_ret (v := .tuple #[.agg #[.int .i64 0, .int .i64 0, .int .i64 0, .int .i64 0, .int .i64 0], .int .i64 20]) (by simp [results, Try.results24, go_sem, z0, z1, z2, z3, z4]) rfl ⟨rfl, below_put5 B1.out (by omega) _ _ _ _ _⟩
set_option maxRecDepth 100000 in
set_option maxHeartbeats 2000000 in
theorem pleast_ok (t : Int) (a : Option Addr) (n c : Nat) (x : V5) (l : List V5) (w : World) (hl : Hid ((x :: l).length = n)) (hn : n ≤ 60000) (hr : Hid (Reads5 w a (x :: l))) (HR : Hid (chkS t (x :: l) = 0)) :
    Calls Try.prog 24 #[.int .i64 t, .slice a n c] w fun e w' => e = .returned (LE x 0) ∧ Below w.heap.size w w' := by
  have HRD := Lib.hid (hr.out.alloc (.cells #[.int .i64 0, .int .i64 0, .int .i64 0, .int .i64 0, .int .i64 0] 25))
  have hn0 : 0 < n := by have := hl.out; simp at this; omega
  have hne : ¬ (n : Int) = 0 := by omega
  have hne2 : ((n : Int) == 0) = false := by simpa using hne
  obtain ⟨x0, x1, x2, x3, x4⟩ := x
  go_enter Try.func24, Try.ntmps24
  go_wp2_with (go_at_call 11; refine (pset_any t a n c _ _ hl hn HRD 0 HR).mono ?_; rintro e w1 ⟨rfl, hB⟩; obtain ⟨Y1, hB1⟩ := made1 hB; have B1 := Lib.hid hB1; have Y1 := Lib.hid Y1; obtain ⟨b, off, rfl, hb, c0, c1, c2, c3, c4⟩ := (HRD.out.below hB) 0 (Nat.zero_lt_succ _); rw [Nat.zero_mul, Nat.add_zero] at c0 c1 c2 c3 c4; simp only [List.getElem?_cons_zero, Option.getD_some] at c0 c1 c2 c3 c4; clear hB hB1; obtain ⟨v0, v1, v2, v3, v4⟩ := Y1.out.cell5; obtain ⟨g0, g1, g2, g3, g4⟩ := Y1.out.free5)
  obtain ⟨z0, z1, z2, z3, z4⟩ := (Y1.out.put5 (.int .i64 x0) (.int .i64 x1) (.int .i64 x2) (.int .i64 x3) (.int .i64 x4)).cell5
  exact bodyPost_ret (v := .tuple #[.agg #[.int .i64 x0, .int .i64 x1, .int .i64 x2, .int .i64 x3, .int .i64 x4], .int .i64 0]) (by simp [results, Try.results24, go_sem, z0, z1, z2, z3, z4]) rfl ⟨rfl, below_put5 B1.out (by omega) _ _ _ _ _⟩
end Go.Proofs.Ytdahaajfkjmflaa.s14

namespace Go.Proofs.Ytdahaajfkjmflaa.s14
set_option linter.unusedVariables false
set_option linter.unusedSimpArgs false
open Go.RowKit
open kit

open s13

open Go.Shelf
/-- lists of lists of looks, each with room -/
def GridC (w : World) (a : Option Addr) (ls : List (List V5)) : Prop := ∃ hs : List SL, hs.length = ls.length ∧ Reads slV noSL w a hs ∧ ∀ i, i < ls.length → ((hs[i]?.getD noSL).2.1 = (ls[i]?.getD []).length ∧ (hs[i]?.getD noSL).2.1 ≤ (hs[i]?.getD noSL).2.2) ∧ Reads5 w (hs[i]?.getD noSL).1 (ls[i]?.getD [])
theorem GridC.grid {w : World} {a : Option Addr} {ls : List (List V5)} (h : GridC w a ls) : Grid w a ls := by
  obtain ⟨hs, h1, h2, h3⟩ := h
  exact ⟨hs, h1, h2, fun i hi => ⟨(h3 i hi).1.1, (h3 i hi).2⟩⟩
theorem GridC.below {w w' : World} {a : Option Addr} {ls : List (List V5)} (h : GridC w a ls) (hB : Below w.heap.size w w') : GridC w' a ls := by
  obtain ⟨hs, h1, h2, h3⟩ := h
  exact ⟨hs, h1, h2.below hB, fun i hi => ⟨(h3 i hi).1, (h3 i hi).2.below hB⟩⟩
theorem GridC.at {w : World} {a : Option Addr} {ls : List (List V5)} (h : GridC w a ls) {i : Nat} (hi : i < ls.length) : ∃ b off ai ci, a = some ⟨b, off, none⟩ ∧ b < w.heap.size ∧ w.cell? ⟨b, off + i, none⟩ = some (.slice ai (ls[i]?.getD []).length ci) ∧ Reads5 w ai (ls[i]?.getD []) ∧ (ls[i]?.getD []).length ≤ ci := by
  obtain ⟨hs, h1, h2, h3⟩ := h
  obtain ⟨b, off, rfl, hb, hc⟩ := h2 i (by omega)
  obtain ⟨⟨e, e2⟩, hr⟩ := h3 i hi
  refine ⟨b, off, _, (hs[i]?.getD noSL).2.2, rfl, hb, ?_, hr, by rw [← e]; exact e2⟩
  rw [hc]; unfold slV; rw [e]
theorem gridc_none (w : World) : GridC w none [] := ⟨[], rfl, fun i hi => by simp at hi, fun i hi => by simp at hi⟩
theorem gridc_block {w : World} {t : TypeId} {g : Nat} {cs : Array Value} {hs : List SL} {ls : List (List V5)} (h : w.heap[g]? = some (.cells cs t (0, 0))) (e : cs.toList = hs.map slV) (hl : hs.length = ls.length) (h3 : ∀ i, i < ls.length → ((hs[i]?.getD noSL).2.1 = (ls[i]?.getD []).length ∧ (hs[i]?.getD noSL).2.1 ≤ (hs[i]?.getD noSL).2.2) ∧ Reads5 w (hs[i]?.getD noSL).1 (ls[i]?.getD [])) : GridC w (some ⟨g, 0, none⟩) ls := by
  obtain ⟨hs', h1, h2, _⟩ := grid_block h e hl (fun i hi => ⟨(h3 i hi).1.1, (h3 i hi).2⟩)
  refine ⟨hs, hl, fun i hi => ⟨g, 0, rfl, (Array.getElem?_eq_some_iff.1 h).1, ?_⟩, h3⟩
  rw [Nat.zero_add]
  unfold World.cell?
  rw [h]
  show cs[i]? = _
  rw [← Array.getElem?_toList, e, List.getElem?_map, List.getElem?_eq_getElem hi]
  rfl
theorem gridc2 {w : World} {t : TypeId} {g : Nat} {a b : Option Addr} {n m ca cb : Nat} {l k : List V5} (h : w.heap[g]? = some (.cells #[.slice a n ca, .slice b m cb] t (0, 0))) (el : l.length = n) (ek : k.length = m) (e1 : n ≤ ca) (e2 : m ≤ cb) (hl : Reads5 w a l) (hk : Reads5 w b k) : GridC w (some ⟨g, 0, none⟩) [l, k] :=
  gridc_block (hs := [(a, n, ca), (b, m, cb)]) h rfl rfl (fun i hi => by
    have : i = 0 ∨ i = 1 := by simp at hi; omega
    rcases this with rfl | rfl
    · exact ⟨⟨el.symm, e1⟩, hl⟩
    · exact ⟨⟨ek.symm, e2⟩, hk⟩)
theorem gridc3 {w : World} {t : TypeId} {g : Nat} {a b d : Option Addr} {n m o ca cb cd : Nat} {l k j : List V5} (h : w.heap[g]? = some (.cells #[.slice a n ca, .slice b m cb, .slice d o cd] t (0, 0))) (el : l.length = n) (ek : k.length = m) (ej : j.length = o) (e1 : n ≤ ca) (e2 : m ≤ cb) (e3 : o ≤ cd) (hl : Reads5 w a l) (hk : Reads5 w b k) (hj : Reads5 w d j) : GridC w (some ⟨g, 0, none⟩) [l, k, j] :=
  gridc_block (hs := [(a, n, ca), (b, m, cb), (d, o, cd)]) h rfl rfl (fun i hi => by
    have : i = 0 ∨ i = 1 ∨ i = 2 := by simp at hi; omega
    rcases this with rfl | rfl | rfl
    · exact ⟨⟨el.symm, e1⟩, hl⟩
    · exact ⟨⟨ek.symm, e2⟩, hk⟩
    · exact ⟨⟨ej.symm, e3⟩, hj⟩)
/-- the union of sets, in order -/
def uniS (Ls : List (List (List Int))) : List (List Int) := Ls.foldl (mrg kU) []
def totS (Ls : List (List (List Int))) : Nat := (Ls.map List.length).sum
theorem fold_len : ∀ (Ls : List (List (List Int))) (A : List (List Int)), (Ls.foldl (mrg kU) A).length ≤ A.length + totS Ls
  | [], A => by simp [totS]
  | L :: Ls, A => by
    have h := fold_len Ls (mrg kU A L)
    have k := mrg_len kU A L
    simp only [List.foldl_cons, totS, List.map_cons, List.sum_cons] at h ⊢
    omega
theorem uni_len (Ls : List (List (List Int))) : (uniS Ls).length ≤ totS Ls := by
  have h := fold_len Ls []
  rw [List.length_nil, Nat.zero_add] at h
  exact h
theorem uni_snoc (Ls : List (List (List Int))) (L : List (List Int)) : uniS (Ls ++ [L]) = mrg kU (uniS Ls) L := by simp [uniS, List.foldl_append]
theorem tot_take {Ls : List (List (List Int))} {k : Nat} (h : k < Ls.length) : totS (Ls.take k) + (Ls[k]?.getD []).length ≤ totS Ls := by
  have e := List.take_append_drop k Ls
  have e2 : Ls.drop k = (Ls[k]?.getD []) :: Ls.drop (k + 1) := by rw [List.getElem?_eq_getElem h]; exact List.drop_eq_getElem_cons h
  have e3 : totS Ls = totS (Ls.take k) + totS (Ls.drop k) := by
    unfold totS; rw [← List.sum_append, ← List.map_append, e]
  rw [e3, e2]
  simp only [totS, List.map_cons, List.sum_cons]
  omega
theorem fold_ok {t : Int} : ∀ (Ls : List (List (List Int))) (A : List (List Int)), (∀ x ∈ A, okL t x) → (∀ L ∈ Ls, ∀ x ∈ L, okL t x) → ∀ x ∈ Ls.foldl (mrg kU) A, okL t x
  | [], _, hA, _ => hA
  | L :: Ls, A, hA, h => fold_ok Ls _ (mrg_ok kU A L hA (h L (List.mem_cons_self ..))) (fun M hM => h M (List.mem_cons_of_mem _ hM))
theorem fold_asc : ∀ (Ls : List (List (List Int))) (A : List (List Int)), Asc A → (∀ L ∈ Ls, Asc L) → Asc (Ls.foldl (mrg kU) A)
  | [], _, hA, _ => hA
  | L :: Ls, A, hA, h => fold_asc Ls _ (asc_mrg kU A L hA (h L (List.mem_cons_self ..))) (fun M hM => h M (List.mem_cons_of_mem _ hM))
theorem takeLs {Ls : List (List (List Int))} {k : Nat} (h : k < Ls.length) : Ls.take (k + 1) = Ls.take k ++ [Ls[k]?.getD []] := by rw [List.take_succ_eq_append_getElem h, List.getElem?_eq_getElem h]; rfl
set_option maxRecDepth 100000 in
set_option maxHeartbeats 2000000 in
theorem punion_bad (t : Int) (a : Option Addr) (n c : Nat) (ls : List (List V5)) (w : World) (hn : Hid (ls.length = n)) (hn2 : n ≤ 1000) (hm : Hid (∀ i, i < ls.length → (ls[i]?.getD []).length ≤ 60000)) (hr : Hid (Grid w a ls)) (r : Int) (H : Hid (chkA t ls = r)) (h0 : (r != 0) = true) :
    Calls Try.prog 18 #[.int .i64 t, .slice a n c] w fun e w' => e = noS r ∧ Below w.heap.size w w' := by
  go_enter Try.func18, Try.ntmps18
  go_wp2_with (go_at_call 51; refine (checkall_any t a n c ls _ hn hn2 hm hr r H).mono ?_; rintro e w1 ⟨rfl, hB⟩; have B1 := Lib.hid hB; clear hB)
  go_ret2
  exact ⟨rfl, B1.out⟩
def pad2 (Ls : List (List (List Int))) : List (List V5) := Ls.map (List.map pad5)
theorem pad2_at (Ls : List (List (List Int))) (i : Nat) : (pad2 Ls)[i]?.getD [] = (Ls[i]?.getD []).map pad5 := by
  unfold pad2; rw [List.getElem?_map]; cases Ls[i]? <;> rfl
theorem len_at (Ls : List (List (List Int))) (i : Nat) : (Ls[i]?.getD []).length ≤ totS Ls := by
  by_cases h : i < Ls.length
  · have := tot_take h; omega
  · rw [List.getElem?_eq_none (by omega)]; simp
set_option maxRecDepth 100000 in
set_option maxHeartbeats 4000000 in
theorem punion_ok (t : Int) (a : Option Addr) (n c : Nat) (Ls : List (List (List Int))) (w : World) (hn : Hid (Ls.length = n)) (hn2 : n ≤ 1000) (hm : Hid (totS Ls ≤ 40000)) (hr : Hid (GridC w a (pad2 Ls))) (H : Hid (chkA t (pad2 Ls) = 0)) (hok : Hid (∀ L ∈ Ls, ∀ x ∈ L, okL 8 x)) (R : List (List Int)) (N : Nat) (HS : Hid (uniS Ls = R)) (HN : Hid (R.length = N)) :
    Calls Try.prog 18 #[.int .i64 t, .slice a n c] w fun e w' => ∃ p cp, e = .returned (.tuple #[.slice p N cp, .int .i64 0]) ∧ Reads5 w' p (R.map pad5) ∧ Below w.heap.size w w' ∧ N ≤ cp := by
  have HG := Lib.hid hr.out.grid
  have hn3 : Hid ((pad2 Ls).length = n) := Lib.hid (by unfold pad2; rw [List.length_map]; exact hn.out)
  have HM : Hid (∀ i, i < (pad2 Ls).length → ((pad2 Ls)[i]?.getD []).length ≤ 60000) := Lib.hid (fun i hi => by
    rw [pad2_at, List.length_map]; have := len_at Ls i; have := hm.out; omega)
  go_enter Try.func18, Try.ntmps18
  go_wp2_with (go_at_call 51; refine (checkall_any t a n c (pad2 Ls) _ hn3 hn2 HM HG 0 H).mono ?_; rintro e w1 ⟨rfl, hB⟩; have B1 := Lib.hid hB; clear hB)
  clear HG HM
  go_loopw [7, 18] (fun v i wr => ∃ (k : Nat) (p : Option Addr) (cp m : Nat), i = .int .i64 k ∧ k ≤ n ∧ v = .slice p m cp ∧ m ≤ cp ∧ Hid ((uniS (Ls.take k)).length = m) ∧ Hid (Reads5 wr p ((uniS (Ls.take k)).map pad5)) ∧ Hid (Below w.heap.size w wr)) (fun _ i _ => n - (intOf i).toNat)
  case atStart => exact ⟨0, none, 0, 0, rfl, by omega, rfl, Nat.le_refl _, Lib.hid (by simp [uniS]), Lib.hid (by simp [uniS]; exact Reads5.nil _ _), B1⟩
  case round =>
    obtain ⟨k, p, cp, m, rfl, hk, rfl, hmc, HL, HP, HB⟩ := hrel
    by_cases hlt : k < n
    · have hkl : k < Ls.length := by have := hn.out; omega
      have hkp : k < (pad2 Ls).length := by have := hn3.out; omega
      obtain ⟨b, off, ai, ci, rfl, hb, c0, hr5, hci⟩ := (hr.out.below HB.out).at hkp
      rw [pad2_at] at c0 hr5 hci
      rw [List.length_map] at c0 hci
      have htk := takeLs hkl
      have htot := tot_take hkl
      have hle := uni_len (Ls.take k)
      have hmm := hm.out
      have hll := HL.out
      have hok8 : ∀ x ∈ uniS (Ls.take k), okL 8 x := fold_ok _ _ (by simp) (fun L hL => hok.out L (List.mem_of_mem_take hL))
      have hokk : ∀ x ∈ Ls[k]?.getD [], okL 8 x := hok.out _ (by rw [List.getElem?_eq_getElem hkl]; exact List.getElem_mem hkl)
      generalize Ls[k]?.getD [] = L at c0 hr5 hci htk htot hokk
      obtain ⟨q, hq⟩ : ∃ q, L.length = q := ⟨_, rfl⟩
      rw [hq] at c0 hci htot
      have hsz : m + q ≤ 100000 := by omega
      have HQ := Lib.hid hq
      have HOK8 := Lib.hid hok8
      have HOKK := Lib.hid hokk
      have HR5 := Lib.hid hr5
      have HTK := Lib.hid htk
      clear hq hok8 hokk hr5 htk htot hle hmm hll hkl hkp
      obtain ⟨N2, hN2⟩ : ∃ N2, (mrg kU (uniS (Ls.take k)) L).length = N2 := ⟨_, rfl⟩
      have HN2 := Lib.hid hN2
      clear hN2
      go_wp2_with (go_at_call 52; refine (union_any p ai m q cp ci (uniS (Ls.take k)) L _ HL HQ hmc hci hsz HOK8 HOKK HP HR5 _ N2 (Lib.hid rfl) HN2).mono ?_; rintro e w2 ⟨p2, cp2, rfl, hR2, hB2, hc2⟩; have R2 := Lib.hid hR2; have B2 := Lib.hid (below_then HB.out hB2); clear hR2 hB2)
      go_roundw
      case rel => exact ⟨k + 1, p2, cp2, N2, by go_num, by omega, rfl, hc2, Lib.hid (by rw [HTK.out, uni_snoc]; exact HN2.out), Lib.hid (by rw [HTK.out, uni_snoc]; exact R2.out), B2⟩
      case measure => simp [intOf]; omega
    · obtain rfl : k = n := by omega
      have htk : Ls.take k = Ls := List.take_of_length_le (by rw [hn.out]; exact Nat.le_refl _)
      have hl2 := HL.out
      have hp2 := HP.out
      rw [htk, HS.out] at hl2 hp2
      obtain rfl : m = N := by rw [← hl2]; exact HN.out
      have HP2 := Lib.hid hp2
      clear hl2 hp2 htk
      go_wp2
      go_ret2
      exact ⟨p, cp, rfl, HP2.out, HB.out, hmc⟩
end Go.Proofs.Ytdahaajfkjmflaa.s14

namespace Go.Proofs.Ytdahaajfkjmflaa.s14
set_option linter.unusedVariables false
set_option linter.unusedSimpArgs false
open Go.RowKit
open kit

open s13

open Go.Shelf
def XB (w : World) (g k : Nat) (l0 l1 : Int) : Prop := (k = 0 ∧ Box w 25 g #[.int .i64 0, .int .i64 0, .int .i64 0, .int .i64 0, .int .i64 0]) ∨ (k = 1 ∧ Box w 25 g #[.int .i64 1, .int .i64 l0, .int .i64 0, .int .i64 0, .int .i64 0]) ∨ (k = 2 ∧ Box w 25 g #[.int .i64 2, .int .i64 l0, .int .i64 l1, .int .i64 0, .int .i64 0])
def x5 (l : List Int) : V5 := pad5 l
set_option maxRecDepth 100000 in
set_option maxHeartbeats 2000000 in
theorem lx_any (a : Option Addr) (n c : Nat) (l : List Int) (w : World) (hl : Hid (l.length = n)) (hn : n ≤ 2) (hr : Hid (ReadsI w a l)) (q x0 x1 x2 x3 : Int) (HP : Hid (pad5 l = (q, x0, x1, x2, x3))) :
    Calls Try.prog 35 #[.slice a n c] w fun e w' => e = .returned (.agg #[.int .i64 q, .int .i64 x0, .int .i64 x1, .int .i64 x2, .int .i64 x3]) ∧ Below w.heap.size w w' := by
  have hp := HP.out
  have hll := hl.out
  simp only [pad5, Prod.mk.injEq] at hp
  obtain ⟨p0, p1, p2, p3, p4⟩ := hp
  rw [List.getElem?_eq_none (by omega)] at p3 p4
  obtain rfl : x2 = 0 := p3.symm
  obtain rfl : x3 = 0 := p4.symm
  have hk0 : n = 0 → x0 = 0 ∧ x1 = 0 := fun e => by rw [← p1, ← p2, List.getElem?_eq_none (by omega), List.getElem?_eq_none (by omega)]; exact ⟨rfl, rfl⟩
  have hk1 : n = 1 → x1 = 0 := fun e => by rw [← p2, List.getElem?_eq_none (by omega)]; rfl
  have P1 := Lib.hid p1
  have P2 := Lib.hid p2
  have hq : q = n := by rw [← p0, hll]
  have Y0 : Hid (Box ((w.alloc (.cells #[.int .i64 0, .int .i64 0, .int .i64 0, .int .i64 0, .int .i64 0] 25)).alloc (.cells #[.int .i64 0, .int .i64 0, .int .i64 0, .int .i64 0, .int .i64 0] 25)) 25 w.heap.size #[.int .i64 0, .int .i64 0, .int .i64 0, .int .i64 0, .int .i64 0]) := Lib.hid ((Box.new w _ _).alloc _)
  have X0 : Hid (Box ((w.alloc (.cells #[.int .i64 0, .int .i64 0, .int .i64 0, .int .i64 0, .int .i64 0] 25)).alloc (.cells #[.int .i64 0, .int .i64 0, .int .i64 0, .int .i64 0, .int .i64 0] 25)) 25 (w.heap.size + 1) #[.int .i64 0, .int .i64 0, .int .i64 0, .int .i64 0, .int .i64 0]) := Lib.hid (by
    have := Box.new (w.alloc (.cells #[.int .i64 0, .int .i64 0, .int .i64 0, .int .i64 0, .int .i64 0] 25)) 25 #[.int .i64 0, .int .i64 0, .int .i64 0, .int .i64 0, .int .i64 0]
    rwa [show (w.alloc (.cells #[.int .i64 0, .int .i64 0, .int .i64 0, .int .i64 0, .int .i64 0] 25)).heap.size = w.heap.size + 1 from Array.size_push ..] at this)
  have B0 : Hid (Below w.heap.size w ((w.alloc (.cells #[.int .i64 0, .int .i64 0, .int .i64 0, .int .i64 0, .int .i64 0] 25)).alloc (.cells #[.int .i64 0, .int .i64 0, .int .i64 0, .int .i64 0, .int .i64 0] 25))) := Lib.hid (((Below.refl _ w).alloc (Nat.le_refl _) _).alloc (by simp) _)
  subst hq
  clear p0 p1 p2 p3 p4 hll
  go_enter Try.func35, Try.ntmps35
  go_wp2
  go_loopw [4] (fun i wr => ∃ k : Nat, i = .int .i64 k ∧ k ≤ n ∧ Hid (XB wr (w.heap.size + 1) k x0 x1) ∧ Hid (Box wr 25 w.heap.size #[.int .i64 0, .int .i64 0, .int .i64 0, .int .i64 0, .int .i64 0]) ∧ Hid (Below w.heap.size w wr)) (fun i _ => n - (intOf i).toNat)
  case atStart => exact ⟨0, rfl, by omega, Lib.hid (.inl ⟨rfl, X0.out⟩), Y0, B0⟩
  case round =>
    obtain ⟨k, rfl, hk, HX, HY, HB⟩ := hrel
    by_cases hlt : k < n
    · obtain ⟨b, off, rfl, hb, hc⟩ := (hr.out.below HB.out) k (by rw [hl.out]; exact hlt)
      rcases HX.out with ⟨rfl, X⟩ | ⟨rfl, X⟩ | ⟨rfl, X⟩
      · rw [P1.out, Nat.add_zero] at hc
        obtain ⟨u0, u1, u2, u3, u4⟩ := X.cell5
        obtain ⟨g0, g1, g2, g3, g4⟩ := X.free5
        have X2 := Lib.hid ((X.set 1 (by simp) (.int .i64 x0)).set 0 (by simp) (.int .i64 1))
        have Y2 := Lib.hid ((HY.out.other (b' := w.heap.size + 1) (i := 1) (by omega) (.int .i64 x0)).other (b' := w.heap.size + 1) (i := 0) (by omega) (.int .i64 1))
        have B2 := Lib.hid ((HB.out.setCell (p := ⟨w.heap.size + 1, 1, none⟩) (by simp) (.int .i64 x0)).setCell (p := ⟨w.heap.size + 1, 0, none⟩) (by simp) (.int .i64 1))
        clear X HX
        go_wp2
        go_roundw
        case rel => exact ⟨1, by go_num, by omega, Lib.hid (.inr (.inl ⟨rfl, X2.out⟩)), Y2, B2⟩
        case measure => simp [intOf]; omega
      · rw [P2.out] at hc
        obtain ⟨u0, u1, u2, u3, u4⟩ := X.cell5
        obtain ⟨g0, g1, g2, g3, g4⟩ := X.free5
        have X2 := Lib.hid ((X.set 2 (by simp) (.int .i64 x1)).set 0 (by simp) (.int .i64 2))
        have Y2 := Lib.hid ((HY.out.other (b' := w.heap.size + 1) (i := 2) (by omega) (.int .i64 x1)).other (b' := w.heap.size + 1) (i := 0) (by omega) (.int .i64 2))
        have B2 := Lib.hid ((HB.out.setCell (p := ⟨w.heap.size + 1, 2, none⟩) (by simp) (.int .i64 x1)).setCell (p := ⟨w.heap.size + 1, 0, none⟩) (by simp) (.int .i64 2))
        clear X HX
        go_wp2
        go_roundw
        case rel => exact ⟨2, by go_num, by omega, Lib.hid (.inr (.inr ⟨rfl, X2.out⟩)), Y2, B2⟩
        case measure => simp [intOf]; omega
      · omega
    · obtain rfl : k = n := by omega
      have hX : Box wr 25 (w.heap.size + 1) #[.int .i64 ((k : Int)), .int .i64 x0, .int .i64 x1, .int .i64 0, .int .i64 0] := by
        rcases HX.out with ⟨rfl, X⟩ | ⟨rfl, X⟩ | ⟨rfl, X⟩
        · obtain ⟨rfl, rfl⟩ := hk0 rfl; exact X
        · obtain rfl := hk1 rfl; exact X
        · exact X
      obtain ⟨u0, u1, u2, u3, u4⟩ := hX.cell5
      obtain ⟨v0, v1, v2, v3, v4⟩ := HY.out.cell5
      obtain ⟨g0, g1, g2, g3, g4⟩ := HY.out.free5
      clear hX HX
      go_wp2
      obtain ⟨z0, z1, z2, z3, z4⟩ := (HY.out.put5 (.int .i64 k) (.int .i64 x0) (.int .i64 x1) (.int .i64 0) (.int .i64 0)).cell5
      exact bodyPost_ret (v := .agg #[.int .i64 ((k : Int)), .int .i64 x0, .int .i64 x1, .int .i64 0, .int .i64 0]) (by simp [results, Try.results35, go_sem, z0, z1, z2, z3, z4]) rfl ⟨rfl, below_put5 HB.out (by omega) _ _ _ _ _⟩
set_option maxRecDepth 100000 in
set_option maxHeartbeats 1000000 in
theorem lset_any (v : Value) (w : World) : Calls Try.prog 34 #[v] w fun e w' => e = .returned v ∧ w' = w := by
  go_enter Try.func34, Try.ntmps34
  go_wp2
  go_ret
  exact ⟨rfl, rfl⟩
end Go.Proofs.Ytdahaajfkjmflaa.s14
