/-
  Layer 14: union; cut, ofLength of the program. Layer 14: ofLength, pairs of the program. Layer 14: the iterator over the pairs of two lists. A region that draws its order, whose operations only read or make new memory (also values that lie in it): each operation by itself, in any frame and world in which those that it waits for have met their specifications. No order is walked.
-/
import Derived.Test.YtdahaajfkjmflaaG07
import Derived.Test.YtdahaajfkjmflaaG03
import Derived.Test.YtdahaajfkjmflaaG05
import Derived.Test.YtdahaajfkjmflaaG01
import Derived.Still
import Derived.Deep.Quiet
namespace Go.Proofs.Ytdahaajfkjmflaa.s14
set_option linter.unusedVariables false
set_option linter.unusedSimpArgs false
open Go.RowKit
open kit

open s13

set_option maxRecDepth 100000 in
set_option maxHeartbeats 1000000 in
theorem union_any (a b : Option Addr) (n m ca cb : Nat) (A B : List (List Int)) (w : World) (hn : Hid (A.length = n)) (hm : Hid (B.length = m)) (ha : n ≤ ca) (hb : m ≤ cb) (hsz : n + m ≤ 100000) (hA : Hid (∀ x ∈ A, okL 8 x)) (hB : Hid (∀ x ∈ B, okL 8 x)) (ra : Hid (Reads5 w a (A.map pad5))) (rb : Hid (Reads5 w b (B.map pad5))) (R : List (List Int)) (N : Nat) (HR : Hid (mrg kU A B = R)) (HN : Hid (R.length = N)) :
    Calls Try.prog 52 #[.slice a n ca, .slice b m cb] w fun e w' => ∃ p cp, e = .returned (.slice p N cp) ∧ Reads5 w' p (R.map pad5) ∧ Below w.heap.size w w' ∧ N ≤ cp := by
  go_enter Try.func52, Try.ntmps52
  go_wp2_with (go_at_call 54; refine (mergeU a b n m ca cb A B _ hn hm ha hb hsz hA hB ra rb R N HR HN).mono ?_; rintro e w1 ⟨p, cp, rfl, hR1, hB1, hc1⟩; have HR1 := Lib.hid hR1; have HB1 := Lib.hid hB1; clear hR1 hB1)
  go_ret
  exact ⟨p, cp, rfl, HR1.out, HB1.out, hc1⟩
theorem cutE_ok {x : List Int} (hx : okL 8 x) {K : Nat} (hK : K ≤ 4) {X : V5} (ex : pad5 x = X) : cutE X K = (pad5 (x.take K), 0) := by
  have h1 := pad5_chk (n := X.1) (a := X.2.1) (b := X.2.2.1) (c := X.2.2.2.1) (d := X.2.2.2.2) hx (by omega) (by omega) ex
  unfold cutE
  rw [if_neg (by simpa using h1), if_neg (by omega), ← ex, lst_pad hx.1, Int.toNat_natCast]
theorem take_getL {l : List (List Int)} {k : Nat} (h : k < l.length) : l.take (k + 1) = l.take k ++ [l[k]?.getD []] := by rw [List.take_succ_eq_append_getElem h, List.getElem?_eq_getElem h]; rfl
theorem mem_getL {l : List (List Int)} {k : Nat} (h : k < l.length) : l[k]?.getD [] ∈ l := by rw [List.getElem?_eq_getElem h]; exact List.getElem_mem h
theorem map_getD {L : List (List Int)} {i : Nat} (h : i < L.length) : (L.map pad5)[i]?.getD no5 = pad5 (L[i]?.getD []) := by rw [List.getElem?_map, List.getElem?_eq_getElem h]; rfl
theorem flat_snoc (L : List (List Int)) (x : List Int) {X : V5} (h : pad5 x = X) : flat5 ((L ++ [x]).map pad5) = flat5 (L.map pad5 ++ [X]) := by rw [List.map_append, List.map_singleton, h]
set_option maxRecDepth 100000 in
set_option maxHeartbeats 6000000 in
theorem pcutset_any (a : Option Addr) (n c K : Nat) (L : List (List Int)) (w : World) (hl : Hid (L.length = n)) (hn : n ≤ 60000) (hK : K ≤ 4) (hL : Hid (∀ x ∈ L, okL 8 x)) (hr : Hid (Reads5 w a (L.map pad5))) (R : List (List Int)) (N : Nat) (HR : Hid (cutS K L = R)) (HN : Hid (R.length = N)) :
    Calls Try.prog 60 #[.slice a n c, .int .i64 K] w fun e w' => ∃ p cp, e = .returned (.slice p N cp) ∧ Reads5 w' p (R.map pad5) ∧ Below w.heap.size w w' ∧ N ≤ cp ∧ NewAt w.heap.size p := by
  go_enter Try.func60, Try.ntmps60
  go_wp2
  go_loopw [5, 12] (fun v5 v12 wr => ∃ i : Nat, v12 = .int .i64 i ∧ i ≤ n ∧ Hid (wr.ownsRow w.heap.size 25 5 v5 i (flat5 (((L.take i).map (List.take K)).map pad5))) ∧ Hid (Below w.heap.size w wr)) (fun _ v _ => n - (intOf v).toNat)
  case atStart => exact ⟨0, rfl, by omega, Lib.hid (World.ownsRow_nil _ _ _ _), Lib.hid (Below.refl _ _)⟩
  case round =>
    obtain ⟨i, rfl, hi, HRow, HB⟩ := hrel
    by_cases hlt : i < n
    · have hil : i < L.length := by rw [hl.out]; exact hlt
      obtain ⟨g, o, rfl, hg, hat⟩ := (hr.out.below HB.out) i (by rw [List.length_map]; exact hil)
      rw [map_getD hil] at hat
      have hok := hL.out _ (mem_getL hil)
      have htk := take_getL hil
      generalize L[i]?.getD [] = x at hat hok htk
      obtain ⟨⟨x0, x1, x2, x3, x4⟩, ex⟩ : ∃ y, pad5 x = y := ⟨_, rfl⟩
      rw [ex] at hat
      obtain ⟨c0, c1, c2, c3, c4⟩ := hat
      obtain ⟨⟨y0, y1, y2, y3, y4⟩, ey⟩ : ∃ y, pad5 (x.take K) = y := ⟨_, rfl⟩
      have HE : Hid (cutE (x0, x1, x2, x3, x4) (K : Int) = ((y0, y1, y2, y3, y4), 0)) := Lib.hid (by rw [cutE_ok hok hK ex, ey])
      have HTK := Lib.hid (show ((L.take (i + 1)).map (List.take K)) = (L.take i).map (List.take K) ++ [x.take K] by rw [htk, List.map_append]; rfl)
      have HEY := Lib.hid ey
      have hsz := HB.out.size
      clear hil hok htk ex ey
      go_wp2_with (first
        | (go_at_call 78; refine (pcut_any x0 x1 x2 x3 x4 (K : Int) _ (y0, y1, y2, y3, y4) 0 HE).mono ?_; rintro e w1 ⟨rfl, hB⟩; have B1 := Lib.hid (below_on (HB.out.alloc HB.out.size (.cells #[.int .i64 x0, .int .i64 x1, .int .i64 x2, .int .i64 x3, .int .i64 x4] 25)) (Nat.le_refl _) hB); have R1 := Lib.hid (own5_below HRow.out (made1 hB).2); have S1 := B1.out.size; clear hB)
        | (at_builtin; refine append_in5 rfl (.tmp 22) (.tmp 24) rfl w.heap.size _ i _ rfl ((R1.out.alloc _).alloc _) _ [(y0, y1, y2, y3, y4)] 1 1 rfl rfl (by decide) (reads5_block (new2 w1 (.cells #[.int .i64 y0, .int .i64 y1, .int .i64 y2, .int .i64 y3, .int .i64 y4] 25) 25 #[.int .i64 y0, .int .i64 y1, .int .i64 y2, .int .i64 y3, .int .i64 y4]) rfl) (by omega) (by simp; omega) ?_; intro v3 w3 hv3 hB3; have O3 := Lib.hid hv3; have B3 := Lib.hid (((B1.out.alloc B1.out.size (.cells #[.int .i64 y0, .int .i64 y1, .int .i64 y2, .int .i64 y3, .int .i64 y4] 25)).alloc (by simp; omega) (.cells #[.int .i64 y0, .int .i64 y1, .int .i64 y2, .int .i64 y3, .int .i64 y4] 25)).trans hB3); clear hv3 hB3))
      go_roundw
      case rel => exact ⟨i + 1, by go_num, by omega, Lib.hid (by rw [HTK.out, flat_snoc _ _ HEY.out]; exact O3.out), B3⟩
      case measure => simp [intOf]; omega
    · obtain rfl : i = n := by omega
      have hrow := HRow.out
      rw [List.take_of_length_le (by rw [hl.out]; omega)] at hrow
      have hcomp : compV ((L.map (List.take K)).map pad5) = R.map pad5 := by
        rw [compV_pad _ (fun y hy => by
          obtain ⟨x, hx, rfl⟩ := List.mem_map.1 hy
          have := (hL.out x hx).1
          rw [List.length_take]; omega)]
        show (cutS K L).map pad5 = _
        rw [HR.out]
      have hlen : (L.map (List.take K)).length = i := by rw [List.length_map]; exact hl.out
      obtain ⟨p, cp, rfl, hcp⟩ := row5_shape hrow
      by_cases h2 : i < 2
      · have hRl : R = L.map (List.take K) := by
          rw [← HR.out]
          unfold cutS
          match hh : L.map (List.take K), hlen with
          | [], _ => rfl
          | [x], _ => rfl
          | _ :: _ :: _, h => simp at h; omega
        have hNi : N = i := by rw [← HN.out, hRl, hlen]
        subst hNi
        have HNW := Lib.hid (row_new hrow)
        have HRED := Lib.hid (reads5_of_row (by rw [List.length_map]; exact hlen) hrow)
        have HRL := Lib.hid hRl
        clear hrow hcomp hlen hRl HRow
        go_wp2_with (go_at_call 79; refine (compact_short p _ cp _ h2).mono ?_; rintro e w1 ⟨rfl, rfl⟩)
        go_ret
        exact ⟨p, cp, rfl, by rw [HRL.out]; exact HRED.out, HB.out, hcp, HNW.out⟩
      · obtain ⟨g, cap, e, hcg, hbg, hR5⟩ := row5_of (by rw [List.length_map]; exact hlen) (by omega) hrow
        cases e
        have HC := Lib.hid hcomp
        have HL2 := Lib.hid (show ((L.map (List.take K)).map pad5).length = i by rw [List.length_map]; exact hlen)
        have HR5 := Lib.hid hR5
        have HN2 := Lib.hid (show (R.map pad5).length = N by rw [List.length_map]; exact HN.out)
        have hws := HB.out.size
        clear hrow hcomp hlen HRow hR5
        go_wp2_with (go_at_call 79; refine (compact_any w.heap.size g i cp _ _ HL2 (by omega) (by omega) hcp hbg hws HR5 (R.map pad5) N HC HN2).mono ?_; rintro e w1 ⟨q, cq, rfl, hR1, hB1, hc1, hw1⟩; have HR1 := Lib.hid hR1; have HB1 := Lib.hid (HB.out.trans hB1); have HW1 := Lib.hid hw1; clear hR1 hB1 hw1)
        go_ret
        exact ⟨q, cq, rfl, HR1.out, HB1.out, hc1, HW1.out⟩
end Go.Proofs.Ytdahaajfkjmflaa.s14

namespace Go.Proofs.Ytdahaajfkjmflaa.s14
set_option linter.unusedVariables false
set_option linter.unusedSimpArgs false
open Go.RowKit
open kit

open s13

theorem filt_more {L : List (List Int)} {n i : Nat} (h : i < L.length) : ofLen n (L.take (i + 1)) = ofLen n (L.take i) ++ (if (L[i]?.getD []).length = n then [L[i]?.getD []] else []) := by
  rw [take_getL h]
  unfold ofLen
  rw [List.filter_append]
  congr 1
  by_cases e : (L[i]?.getD []).length = n <;> simp [List.filter, e]
theorem ofLen_len (n : Nat) (L : List (List Int)) : (ofLen n L).length ≤ L.length := List.length_filter_le _ _
theorem pad5_n {x : List Int} {x0 x1 x2 x3 x4 : Int} (h : pad5 x = (x0, x1, x2, x3, x4)) : x0 = (x.length : Int) := by
  have := congrArg Prod.fst h; simpa [pad5] using this.symm
set_option maxRecDepth 100000 in
set_option maxHeartbeats 6000000 in
theorem oflen_any (a : Option Addr) (n c m : Nat) (L : List (List Int)) (w : World) (hl : Hid (L.length = n)) (hn : n ≤ 60000) (hm : m ≤ 4) (hr : Hid (Reads5 w a (L.map pad5))) (R : List (List Int)) (N : Nat) (HR : Hid (ofLen m L = R)) (HN : Hid (R.length = N)) :
    Calls Try.prog 62 #[.slice a n c, .int .i64 m] w fun e w' => ∃ p cp, e = .returned (.slice p N cp) ∧ Reads5 w' p (R.map pad5) ∧ Below w.heap.size w w' ∧ N ≤ cp ∧ NewAt w.heap.size p := by
  go_enter Try.func62, Try.ntmps62
  go_wp2
  go_loopw [5, 10] (fun v5 v12 wr => ∃ i q : Nat, v12 = .int .i64 i ∧ i ≤ n ∧ q ≤ i ∧ Hid ((ofLen m (L.take i)).length = q) ∧ Hid (wr.ownsRow w.heap.size 25 5 v5 q (flat5 ((ofLen m (L.take i)).map pad5))) ∧ Hid (Below w.heap.size w wr)) (fun _ v _ => n - (intOf v).toNat)
  case atStart => exact ⟨0, 0, rfl, by omega, Nat.le_refl _, Lib.hid (by simp [ofLen]), Lib.hid (by simp only [List.take_zero, ofLen, List.filter_nil, List.map_nil]; exact World.ownsRow_nil _ _ _ _), Lib.hid (Below.refl _ _)⟩
  case round =>
    obtain ⟨i, q, rfl, hi, hqi, HQ, HRow, HB⟩ := hrel
    by_cases hlt : i < n
    · have hil : i < L.length := by rw [hl.out]; exact hlt
      obtain ⟨g, o, rfl, hg, hat⟩ := (hr.out.below HB.out) i (by rw [List.length_map]; exact hil)
      rw [map_getD hil] at hat
      have hfm := filt_more (n := m) hil
      generalize L[i]?.getD [] = x at hat hfm
      obtain ⟨⟨x0, x1, x2, x3, x4⟩, ex⟩ : ∃ y, pad5 x = y := ⟨_, rfl⟩
      rw [ex] at hat
      obtain ⟨c0, c1, c2, c3, c4⟩ := hat
      have hx0 := pad5_n ex
      have HEX := Lib.hid ex
      have HX0 := Lib.hid hx0
      have hsz := HB.out.size
      clear hil hx0 ex
      by_cases hxm : x.length = m
      · rw [if_pos hxm] at hfm
        have HFM := Lib.hid hfm
        have h1 : x0 = (m : Int) := by rw [HX0.out, hxm]
        subst h1
        have R1 := Lib.hid (HRow.out.alloc (.cells #[.int .i64 ((m : Int)), .int .i64 x1, .int .i64 x2, .int .i64 x3, .int .i64 x4] 25))
        have B1 := Lib.hid (HB.out.alloc HB.out.size (.cells #[.int .i64 ((m : Int)), .int .i64 x1, .int .i64 x2, .int .i64 x3, .int .i64 x4] 25))
        clear hfm hxm
        go_wp2_with (at_builtin; refine append_in5 rfl (.tmp 18) (.tmp 20) rfl w.heap.size _ q _ rfl (R1.out.alloc _) _ [((m : Int), x1, x2, x3, x4)] 1 1 rfl rfl (by decide) (reads5_block (new2 wr (.cells #[.int .i64 ((m : Int)), .int .i64 x1, .int .i64 x2, .int .i64 x3, .int .i64 x4] 25) 25 #[.int .i64 ((m : Int)), .int .i64 x1, .int .i64 x2, .int .i64 x3, .int .i64 x4]) rfl) (by omega) (by simp; omega) ?_; intro v3 w3 hv3 hB3; have O3 := Lib.hid hv3; have B3 := Lib.hid ((B1.out.alloc B1.out.size (.cells #[.int .i64 ((m : Int)), .int .i64 x1, .int .i64 x2, .int .i64 x3, .int .i64 x4] 25)).trans hB3); clear hv3 hB3)
        go_roundw
        case rel => exact ⟨i + 1, q + 1, by go_num, by omega, by omega, Lib.hid (by rw [HFM.out, List.length_append, HQ.out]; rfl), Lib.hid (by rw [HFM.out, flat_snoc _ _ HEX.out]; exact O3.out), B3⟩
        case measure => simp [intOf]; omega
      · rw [if_neg hxm, List.append_nil] at hfm
        have HFM := Lib.hid hfm
        have h1 : ¬ x0 = (m : Int) := by rw [HX0.out]; omega
        have h2 : decide (x0 = (m : Int)) = false := decide_eq_false h1
        clear hfm hxm
        go_wp2
        go_roundw
        case rel => exact ⟨i + 1, q, by go_num, by omega, by omega, Lib.hid (by rw [HFM.out]; exact HQ.out), Lib.hid (by rw [HFM.out]; exact HRow.out.alloc _), Lib.hid (HB.out.alloc HB.out.size _)⟩
        case measure => simp [intOf]; omega
    · obtain rfl : i = n := by omega
      have hrow := HRow.out
      have hq := HQ.out
      rw [List.take_of_length_le (by rw [hl.out]; omega), HR.out] at hrow hq
      rw [HN.out] at hq
      subst hq
      obtain ⟨p, cp, rfl, hcp⟩ := row5_shape hrow
      have HNW := Lib.hid (row_new hrow)
      have HROW := Lib.hid hrow
      clear hrow HRow
      go_wp2
      go_ret
      exact ⟨p, cp, rfl, reads5_of_row (by rw [List.length_map]; exact HN.out) HROW.out, HB.out, hcp, HNW.out⟩
set_option maxRecDepth 100000 in
set_option maxHeartbeats 1000000 in
theorem pairs_any (w : World) (a b : Option Addr) (n m ca cb : Nat) : Calls Try.prog 61 #[.slice a n ca, .slice b m cb] w fun e w' => e = .returned (.func (.func 80) #[] #[.pointer (some ⟨w.heap.size, 0, none⟩), .pointer (some ⟨w.heap.size + 1, 0, none⟩)]) ∧ w' = (w.alloc (.cells #[.slice a n ca] 22)).alloc (.cells #[.slice b m cb] 22) := by
  go_enter Try.func61, Try.ntmps61
  go_wp2
  go_ret
  exact ⟨rfl, rfl⟩
end Go.Proofs.Ytdahaajfkjmflaa.s14

namespace Go.Proofs.Ytdahaajfkjmflaa.s14
set_option linter.unusedVariables false
set_option linter.unusedSimpArgs false
open Go.RowKit
open kit

open s13

open Go.Shelf
attribute [local go_sem] Oper.semAt_some
theorem anyDepthR {F : Fence} {m k : Nat} {P : Program} {l : Nat} {f : FuncId} {tmps : Array Value} {a b : Code} {W : World} {R : Ending → World → Prop} (hd : F.depth = none) (h : RoundIn F m P l f tmps a b W R) : RoundIn F k P l f tmps a b W R :=
  ⟨h.1, fun c cs _ => h.2 c cs (fun d h => by rw [hd] at h; cases h)⟩
abbrev PL := List Int × List Int
/-- the pairs, in order -/
def pairsL (X Y : List (List Int)) : List PL := X.flatMap fun x => Y.map fun y => (x, y)
def aggL (x : List Int) : Value := .agg #[.int .i64 (pad5 x).1, .int .i64 (pad5 x).2.1, .int .i64 (pad5 x).2.2.1, .int .i64 (pad5 x).2.2.2.1, .int .i64 (pad5 x).2.2.2.2]
theorem aggL_eq {x : List Int} {a b c d e : Int} (h : pad5 x = (a, b, c, d, e)) : aggL x = .agg #[.int .i64 a, .int .i64 b, .int .i64 c, .int .i64 d, .int .i64 e] := by unfold aggL; rw [h]
def encP (x : PL) : Array Value := #[aggL x.1, aggL x.2]
def doneP (X Y : List (List Int)) (i j : Nat) : List PL := pairsL (X.take i) Y ++ (Y.take j).map fun y => (X[i]?.getD [], y)
theorem pairsL_more {X Y : List (List Int)} {i : Nat} (h : i < X.length) : pairsL (X.take (i + 1)) Y = pairsL (X.take i) Y ++ Y.map fun y => (X[i]?.getD [], y) := by
  rw [take_getL h]; unfold pairsL; rw [List.flatMap_append]; simp
theorem doneP_more {X Y : List (List Int)} {i j : Nat} (h : j < Y.length) : doneP X Y i (j + 1) = doneP X Y i j ++ [(X[i]?.getD [], Y[j]?.getD [])] := by
  unfold doneP; rw [take_getL h, List.map_append, List.append_assoc]; rfl
theorem doneP_row {X Y : List (List Int)} {i : Nat} (h : i < X.length) : doneP X Y i Y.length = pairsL (X.take (i + 1)) Y := by
  rw [pairsL_more h]; unfold doneP; rw [List.take_length]
theorem doneP_zero (X Y : List (List Int)) (i : Nat) : doneP X Y i 0 = pairsL (X.take i) Y := by unfold doneP; simp
theorem pairsL_pre {X Y : List (List Int)} (i : Nat) : pairsL (X.take i) Y <+: pairsL X Y := by
  refine ⟨pairsL (X.drop i) Y, ?_⟩
  unfold pairsL
  rw [← List.flatMap_append, List.take_append_drop]
theorem doneP_lt {X Y : List (List Int)} {i j : Nat} (hi : i < X.length) (hj : j < Y.length) : doneP X Y i (j + 1) <+: pairsL X Y := by
  refine List.IsPrefix.trans ?_ (pairsL_pre (X := X) (Y := Y) (i + 1))
  rw [pairsL_more hi]
  unfold doneP
  exact (List.prefix_append_right_inj _).2 ((List.take_prefix _ _).map _)
theorem doneP_len {X Y : List (List Int)} {i j : Nat} (hi : i < X.length) (hj : j < Y.length) : (doneP X Y i j).length < (pairsL X Y).length := by
  have h := (doneP_lt hi hj).length_le
  rw [doneP_more hj, List.length_append] at h
  simp at h; omega
/-- a list that lies in blocks of a set -/
def ReadsZ (Z : Nat → Prop) (W : World) (a : Option Addr) (l : List V5) : Prop := Reads5 W a l ∧ ∀ b o, a = some ⟨b, o, none⟩ → 0 < l.length → Z b
theorem ReadsZ.keep {Z : Nat → Prop} {W W' : World} {a : Option Addr} {l : List V5} (h : ReadsZ Z W a l) (hk : KeepZ Z W W') : ReadsZ Z W' a l := by
  refine ⟨fun i hi => ?_, h.2⟩
  obtain ⟨b, off, e, hb, h5⟩ := h.1 i hi
  have hz := h.2 b off e (by omega)
  have hbl := hk b hz
  have hc : ∀ k, W'.cell? ⟨b, k, none⟩ = W.cell? ⟨b, k, none⟩ := fun k => by unfold World.cell?; rw [hbl]
  refine ⟨b, off, e, ?_, ?_⟩
  · rcases Nat.lt_or_ge b W'.heap.size with h | h
    · exact h
    · rw [Array.getElem?_eq_none h] at hbl
      rw [Array.getElem?_eq_getElem hb] at hbl; cases hbl
  · obtain ⟨c0, c1, c2, c3, c4⟩ := h5
    exact ⟨(hc _).trans c0, (hc _).trans c1, (hc _).trans c2, (hc _).trans c3, (hc _).trans c4⟩
/-- what the iterator's variables hold -/
structure OwnP (Z : Nat → Prop) (W : World) (b1 b2 : Nat) (p q : Option Addr) (n m cp cq : Nat) (X Y : List (List Int)) : Prop where
  x : Box W 22 b1 #[.slice p n cp]
  y : Box W 22 b2 #[.slice q m cq]
  zx : Z b1
  zy : Z b2
  rx : ReadsZ Z W p (X.map pad5)
  ry : ReadsZ Z W q (Y.map pad5)
theorem OwnP.keep {Z : Nat → Prop} {W W' : World} {b1 b2 : Nat} {p q : Option Addr} {n m cp cq : Nat} {X Y : List (List Int)} (h : OwnP Z W b1 b2 p q n m cp cq X Y) (hk : KeepZ Z W W') : OwnP Z W' b1 b2 p q n m cp cq X Y :=
  ⟨(hk _ h.zx).trans h.x, (hk _ h.zy).trans h.y, h.zx, h.zy, h.rx.keep hk, h.ry.keep hk⟩
theorem OwnP.alloc {Z : Nat → Prop} {W : World} {b1 b2 : Nat} {p q : Option Addr} {n m cp cq : Nat} {X Y : List (List Int)} (h : OwnP Z W b1 b2 p q n m cp cq X Y) (o : Obj) : OwnP Z (W.alloc o) b1 b2 p q n m cp cq X Y :=
  ⟨h.x.alloc o, h.y.alloc o, h.zx, h.zy, ⟨h.rx.1.alloc o, h.rx.2⟩, ⟨h.ry.1.alloc o, h.ry.2⟩⟩
set_option maxRecDepth 100000 in
set_option maxHeartbeats 10000000 in
theorem pairs1_any (F : Fence) (n0 : Nat) (h80 : F.fn 80) (hro : F.round = none) (hd : F.depth = none) (X Y : List (List Int)) (n m cp cq : Nat) (hX : Hid (X.length = n)) (hY0 : Hid (Y.length = m)) (hn : n ≤ 60000) (hm : m ≤ 60000) (l b1 b2 : Nat) (p q : Option Addr) (J Jx : List PL → (Nat → Prop) → World → Prop) (Z0 : Nat → Prop) (hJ : AbZ J) (hJx : AbZ Jx) (m0 : Nat)
    (hY : ∀ pre x Z W1, J pre Z W1 → (∀ r, Z0 r → Z r) → pre.length < (pairsL X Y).length → YieldAt F m0 Try.prog l (encP x) W1 fun e W' => (e = .returned (.bool true) ∧ J (pre ++ [x]) Z W' ∧ KeepZ Z W1 W') ∨ (e = .returned (.bool false) ∧ Jx (pre ++ [x]) Z W' ∧ KeepZ Z W1 W'))
    (W : World) (hO : OwnP Z0 W b1 b2 p q n m cp cq X Y) (h0 : J [] Z0 W) :
    CallsIn F n0 Try.prog 80 #[.func (.yield l) #[] #[], .pointer (some ⟨b1, 0, none⟩), .pointer (some ⟨b2, 0, none⟩)] W fun e W' => (∃ v, e = .returned v) ∧
      ((∃ xs, xs = pairsL X Y ∧ J xs Z0 W') ∨ (∃ pre, pre <+: pairsL X Y ∧ Jx pre Z0 W')) := by
  refine callsIn_any (m := 6) hd ?_
  refine callsIn_of_wp_marks Try.func80 rfl h80 ?_ hro
  simp only [Try.ntmps80, List.size_toArray, List.length_cons, List.length_nil, Nat.reduceAdd, Nat.reduceSub, Array.replicate_succ, Array.replicate_zero, List.push_toArray, List.append_toArray, List.nil_append, List.cons_append]
  have c1 := hO.x.cell 0
  simp at c1
  gi_wp2
  clear c1
  gi_loopw [10] (fun v wr => ∃ (i : Nat) (Z : Nat → Prop), v = .int .i64 i ∧ i ≤ n ∧ J (pairsL (X.take i) Y) Z wr ∧ (∀ r, Z0 r → Z r) ∧ OwnP Z0 wr b1 b2 p q n m cp cq X Y) (fun v _ => n - (intOf v).toNat)
  case atStart => exact ⟨0, Z0, rfl, by omega, by simpa [pairsL] using h0, fun r hr => hr, hO⟩
  case round =>
    clear h0 hO
    obtain ⟨i, Z, rfl, hi, hJi, hz, hOi⟩ := hrel
    by_cases hlt : i < n
    · have hil : i < X.length := by rw [hX.out]; exact hlt
      obtain ⟨g, o, rfl, hg, hat⟩ := hOi.rx.1 i (by rw [List.length_map]; exact hil)
      rw [map_getD hil] at hat
      obtain ⟨x, hx⟩ : ∃ x, X[i]?.getD [] = x := ⟨_, rfl⟩
      rw [hx] at hat
      have HXI := Lib.hid hx
      clear hx
      obtain ⟨⟨x0, x1, x2, x3, x4⟩, ex⟩ : ∃ y, pad5 x = y := ⟨_, rfl⟩
      rw [ex] at hat
      obtain ⟨c0, c1, c2, c3, c4⟩ := hat
      have HEX := Lib.hid ex
      clear ex
      have cy := hOi.y.cell 0
      simp at cy
      have hO2 := Lib.hid (hOi.alloc (.cells #[.int .i64 x0, .int .i64 x1, .int .i64 x2, .int .i64 x3, .int .i64 x4] 25))
      have hJ2 := Lib.hid (hJ.claim _ _ _ (.cells #[.int .i64 x0, .int .i64 x1, .int .i64 x2, .int .i64 x3, .int .i64 x4] 25) hJi)
      have hB2 := Lib.hid (Box.new wr 25 #[.int .i64 x0, .int .i64 x1, .int .i64 x2, .int .i64 x3, .int .i64 x4])
      have hly := hOi.y.lt
      have HIL := Lib.hid hil
      clear hil hJi hOi
      gi_wp2
      clear c0 c1 c2 c3 c4 cy
      generalize wr.heap.size = gx at hB2 hJ2 ⊢
      gi_loopw [16] (fun v wi => ∃ (j : Nat) (Zi : Nat → Prop), v = .int .i64 j ∧ j ≤ m ∧ J (doneP X Y i j) Zi wi ∧ (∀ r, Z0 r ∨ r = gx → Zi r) ∧ Box wi 25 gx #[.int .i64 x0, .int .i64 x1, .int .i64 x2, .int .i64 x3, .int .i64 x4] ∧ OwnP Z0 wi b1 b2 (some ⟨g, o, none⟩) q n m cp cq X Y) (fun v _ => m - (intOf v).toNat)
      case atStart => exact ⟨0, (fun r => Z r ∨ r = gx), rfl, by omega, by rw [doneP_zero]; exact hJ2.out, fun r hr => hr.elim (fun h => .inl (hz r h)) (fun h => .inr h), hB2.out, hO2.out⟩
      case round =>
        clear hJ2 hB2 hO2
        obtain ⟨j, Zi, rfl, hj, hJj, hzi, hBx, hOj⟩ := hrel
        by_cases hltj : j < m
        · have hjl : j < Y.length := by rw [hY0.out]; exact hltj
          obtain ⟨gy, oy, rfl, hgy, hat⟩ := hOj.ry.1 j (by rw [List.length_map]; exact hjl)
          rw [map_getD hjl] at hat
          have hdm := doneP_more (X := X) (i := i) hjl
          have hlen := doneP_len HIL.out hjl
          have hpre := doneP_lt HIL.out hjl
          rw [HXI.out] at hdm
          generalize Y[j]?.getD [] = y at hat hdm
          obtain ⟨⟨y0, y1, y2, y3, y4⟩, ey⟩ : ∃ z, pad5 y = z := ⟨_, rfl⟩
          rw [ey] at hat
          obtain ⟨c0, c1, c2, c3, c4⟩ := hat
          obtain ⟨fn, tmps, assign, body, hy, hR⟩ := hY (doneP X Y i j) (x, y) Zi _ (hJ.alloc (.cells #[.int .i64 y0, .int .i64 y1, .int .i64 y2, .int .i64 y3, .int .i64 y4] 25) hJj) (fun r hr => hzi r (.inl hr)) hlen
          have he : encP (x, y) = #[.agg #[.int .i64 x0, .int .i64 x1, .int .i64 x2, .int .i64 x3, .int .i64 x4], .agg #[.int .i64 y0, .int .i64 y1, .int .i64 y2, .int .i64 y3, .int .i64 y4]] := by unfold encP; rw [aggL_eq HEX.out, aggL_eq ey]
          rw [he] at hy
          obtain ⟨d0, d1, d2, d3, d4⟩ := hBx.cell5
          have hgx := hBx.lt
          have hO3 := Lib.hid (hOj.alloc (.cells #[.int .i64 y0, .int .i64 y1, .int .i64 y2, .int .i64 y3, .int .i64 y4] 25))
          have hB3 := Lib.hid (hBx.alloc (.cells #[.int .i64 y0, .int .i64 y1, .int .i64 y2, .int .i64 y3, .int .i64 y4] 25))
          have HDM := Lib.hid hdm
          have HPRE := Lib.hid hpre
          clear hdm hlen hpre ey he hOj hBx hjl
          gi_wp2
          refine RoundIn.mono (anyDepthR hd hR) ?_
          clear hR hy c0 c1 c2 c3 c4 d0 d1 d2 d3 d4
          rintro e W3 (⟨rfl, hJ3, hk3⟩ | ⟨rfl, hJx3, hk3⟩)
          · gi_wp2
            go_roundw
            case rel => exact ⟨j + 1, Zi, by go_num, by omega, by rw [HDM.out]; exact hJ3, hzi, (hk3 gx (hzi gx (.inr rfl))).trans hB3.out, hO3.out.keep (fun r hr => hk3 r (hzi r (.inl hr)))⟩
            case measure => simp [intOf]; omega
          · gi_wp2
            refine leaves_marksG (G := fun w => Jx (doneP X Y i j ++ [(x, y)]) Zi w) (fun w => results_none rfl _ _ _) (fun w hw => ⟨⟨_, rfl⟩, .inr ⟨_, by rw [← HDM.out]; exact HPRE.out, hJx.less _ _ _ _ hw (fun r hr => hzi r (.inl hr))⟩⟩) [] W3 List.nodup_nil (by simp) (by simp) hJx3
        · obtain rfl : j = m := by omega
          gi_wp2
          go_roundw
          case rel => exact ⟨i + 1, Zi, by go_num, by omega, by rw [← doneP_row HIL.out, hY0.out]; exact hJj, fun r hr => hzi r (.inl hr), hOj⟩
          case measure => simp [intOf]; omega
    · obtain rfl : i = n := by omega
      rw [List.take_of_length_le (by rw [hX.out]; omega)] at hJi
      gi_wp2
      refine leaves_marksG (G := fun w => J (pairsL X Y) Z w) (fun w => results_none rfl _ _ _) (fun w hw => ⟨⟨_, rfl⟩, .inl ⟨_, rfl, hJ.less _ _ _ _ hw hz⟩⟩) [] wr List.nodup_nil (by simp) (by simp) hJi
end Go.Proofs.Ytdahaajfkjmflaa.s14

namespace Go.Proofs.Ytdahaajfkjmflaa.kit
set_option linter.unusedVariables false
set_option linter.unusedSimpArgs false
set_option linter.unnecessarySimpa false
open Go Go.RowKit

/-- what is said of a value -/
inductive Sp where
  | con (c : Value)
  | rel (R : Value → World → Prop)
def Sp.Ok : Sp → Value → World → Prop
  | .con c, v, _ => v = c
  | .rel R, v, w => R v w
def Sp.Keeps : Sp → Prop
  | .con _ => True
  | .rel R => ∀ v w w', R v w → Below w.heap.size w w' → R v w'
theorem Sp.Ok.below {s : Sp} (hs : s.Keeps) {v : Value} {w w' : World} (h : s.Ok v w) (hB : Below w.heap.size w w') : s.Ok v w' := by
  cases s with
  | con c => exact h
  | rel R => exact hs v w w' h hB
def specUpon (P : Program) (T : Value → World → Prop) : Result Next → Prop
  | .ok (.value u) w' => T u w'
  | .ok .skip w' => T undef w'
  | .ok (.enter f args) w' => Calls P f args w' (fun e w'' => ∃ v, e = .returned v ∧ T v w'')
  | _ => False
def specAt (P : Program) (o : Oper) (a : Act) (w : World) (s : Sp) : Prop := specUpon P (fun v w' => Below w.heap.size w w' ∧ s.Ok v w') ((execOp a.eval o).run P w)
theorem wp_of_spec {P : Program} {o : Oper} {a : Act} {w : World} {s : Sp} {K : Act → World → Prop} {Q : Exit → Act → World → Prop} (h : specAt P o a w s)
    (hK : ∀ v w', Below w.heap.size w w' → s.Ok v w' → K (a.put o.dst v) w') : o.wp P a w K Q := by
  unfold specAt at h
  unfold Oper.wp
  generalize (execOp a.eval o).run P w = r at *
  cases r with
  | ok n w' =>
    cases n <;> simp only [specUpon] at h <;> simp only [Oper.upon]
    case value u => exact hK _ _ h.1 h.2
    case skip => exact hK _ _ h.1 h.2
    case enter f args =>
      refine h.mono ?_
      rintro e w'' ⟨v, rfl, h1, h2⟩
      exact hK _ _ h1 h2
  | halt x w' => simp only [specUpon] at h

section
variable {P : Program} {l : List Oper}
/-- what is at hand where an operation comes up: those that it waits for have met their specifications -/
def Pre (l : List Oper) (S : List Sp) (a : Act) (o : Oper) (A : Act) (w : World) : Prop :=
  (∀ t, (l.all fun x => x.dst != some t) = true → A.eval (.tmp t) = a.eval (.tmp t)) ∧
  ∀ i, (o.after.any fun e => e.on == i && Region.binds .any e) = true → ∀ oi s, l[i]? = some oi → S[i]? = some s → ∃ v, s.Ok v w ∧ ∀ d, oi.dst = some d → A.eval (.tmp d) = v
theorem Pre.con {S : List Sp} {a A : Act} {o : Oper} {w : World} (h : Pre l S a o A w) (i : Nat) {d : Tmp} {c : Value} (h1 : (o.after.any fun e => e.on == i && Region.binds .any e) = true) (h2 : (l[i]?).bind (·.dst) = some d) (h3 : S[i]? = some (.con c)) : A.eval (.tmp d) = c := by
  cases hi : l[i]? with
  | none => rw [hi] at h2; cases h2
  | some oi =>
    rw [hi] at h2
    obtain ⟨v, hv, hd⟩ := h.2 i h1 oi _ hi h3
    rw [hd d h2]
    exact hv
theorem Pre.rel {S : List Sp} {a A : Act} {o : Oper} {w : World} (h : Pre l S a o A w) (i : Nat) {d : Tmp} {R : Value → World → Prop} (h1 : (o.after.any fun e => e.on == i && Region.binds .any e) = true) (h2 : (l[i]?).bind (·.dst) = some d) (h3 : S[i]? = some (.rel R)) : R (A.eval (.tmp d)) w := by
  cases hi : l[i]? with
  | none => rw [hi] at h2; cases h2
  | some oi =>
    rw [hi] at h2
    obtain ⟨v, hv, hd⟩ := h.2 i h1 oi _ hi h3
    rw [hd d h2]
    exact hv
theorem Pre.old {S : List Sp} {a A : Act} {o : Oper} {w : World} (h : Pre l S a o A w) (t : Tmp) {c : Value} (h1 : (l.all fun x => x.dst != some t) = true) (h2 : a.eval (.tmp t) = c) : A.eval (.tmp t) = c := by rw [h.1 t h1, h2]
/-- an operation, whether it is wanted or passed over -/
def stepOk (P : Program) (l : List Oper) (o : Oper) (A : Act) (w : World) (s : Sp) : Prop :=
  (Region.wanted o (yielded l.toArray A.tmps) = true ∧ specAt P o A w s) ∨ (Region.wanted o (yielded l.toArray A.tmps) = false ∧ s.Ok undef w)
/-- all operations -/
def stepsOk (P : Program) (l : List Oper) (S : List Sp) (a : Act) (w0 : World) : List Oper → List Sp → Prop
  | o :: r, s :: q => (∀ A w, Below w0.heap.size w0 w → Pre l S a o A w → stepOk P l o A w s) ∧ stepsOk P l S a w0 r q
  | [], [] => True
  | _, _ => False
theorem stepsOk_at {S : List Sp} {a : Act} {w0 : World} : ∀ {r : List Oper} {q : List Sp}, stepsOk P l S a w0 r q → r.length = q.length ∧ ∀ (j : Nat) (o : Oper), r[j]? = some o → ∃ s, q[j]? = some s ∧ ∀ A w, Below w0.heap.size w0 w → Pre l S a o A w → stepOk P l o A w s
  | [], [], _ => ⟨rfl, fun j o h => by simp at h⟩
  | o :: r, s :: q, h => by
    obtain ⟨h1, h2⟩ := h
    obtain ⟨h3, h4⟩ := stepsOk_at h2
    refine ⟨by simp [h3], fun j o' hj => ?_⟩
    cases j with
    | zero => simp at hj; subst hj; exact ⟨s, by simp, h1⟩
    | succ j => simpa using h4 j o' (by simpa using hj)
  | [], _ :: _, h => h.elim
  | _ :: _, [], h => h.elim
def putAll (vs : Nat → Value) : Nat → List Oper → Act → Act
  | _, [], a => a
  | k, o :: r, a => putAll vs (k + 1) r (a.put o.dst (vs k))
/-- edges lead back; no slot twice; slots lie in the frame -/
def fitB (l : List Oper) (n : Nat) : Bool :=
  (List.range l.length).all (fun j => (l[j]?).elim true fun o => (o.after.all fun e => !Region.binds .any e || decide (e.on < j)) && (match o.dst with | some d => decide (d < n) && ((l.drop (j + 1)).all fun x => x.dst != some d) | none => true))
structure Fit (l : List Oper) (n : Nat) : Prop where
  back : ∀ (j : Nat) o, l[j]? = some o → ∀ e ∈ o.after, Region.binds .any e = true → e.on < j
  lies : ∀ (j : Nat) o, l[j]? = some o → ∀ d, o.dst = some d → d < n
  once : ∀ (i j : Nat) o x, i < j → l[i]? = some o → l[j]? = some x → ∀ d, o.dst = some d → x.dst ≠ some d
theorem fit_of {l : List Oper} {n : Nat} (h : fitB l n = true) : Fit l n := by
  unfold fitB at h
  rw [List.all_eq_true] at h
  have key : ∀ (j : Nat) o, l[j]? = some o → (o.after.all fun e => !Region.binds .any e || decide (e.on < j)) = true ∧ (match o.dst with | some d => decide (d < n) && ((l.drop (j + 1)).all fun x => x.dst != some d) | none => true) = true := fun j o hj => by
    have := h j (List.mem_range.2 (List.getElem?_eq_some_iff.1 hj).1)
    rw [hj] at this
    simpa [Option.elim] using this
  refine ⟨fun j o hj e he hb => ?_, fun j o hj d hd => ?_, fun i j o x hij hi hj d hd => ?_⟩
  · have h1 := (key j o hj).1
    rw [Array.all_eq_true'] at h1
    have := h1 e he
    simpa [hb] using this
  · have h1 := (key j o hj).2
    rw [hd] at h1
    simp only [Bool.and_eq_true, decide_eq_true_eq] at h1
    exact h1.1
  · have h1 := (key i o hi).2
    rw [hd] at h1
    simp only [Bool.and_eq_true, List.all_eq_true] at h1
    have h2 := h1.2 x (by
      rw [List.mem_iff_getElem?]
      exact ⟨j - (i + 1), by rw [List.getElem?_drop, show i + 1 + (j - (i + 1)) = j by omega]; exact hj⟩)
    simpa using h2
structure In (l : List Oper) (S : List Sp) (a : Act) (w0 : World) (listed : Array Bool) (vs : Nat → Value) (A : Act) (w : World) : Prop where
  below : Below w0.heap.size w0 w
  defers : A.defers = a.defers
  size : A.tmps.size = a.tmps.size
  done : ∀ i o s, l[i]? = some o → S[i]? = some s → listed.getD i false = true → s.Ok (vs i) w ∧ ∀ d, o.dst = some d → A.eval (.tmp d) = vs i
  rest : ∀ t, (∀ i o, l[i]? = some o → listed.getD i false = true → o.dst ≠ some t) → A.eval (.tmp t) = a.eval (.tmp t)
theorem eval_put_same {a : Act} {d : Tmp} {v : Value} (h : d < a.tmps.size) : (a.put (some d) v).eval (.tmp d) = v := by
  simp [Act.eval, Act.put, h]
theorem eval_put_other {a : Act} {t : Tmp} {dst : Option Tmp} {v : Value} (h : dst ≠ some t) : (a.put dst v).eval (.tmp t) = a.eval (.tmp t) :=
  Act.eval_put fun d hd e => by cases e; exact h hd
theorem In.next {S : List Sp} {a : Act} {w0 : World} {listed : Array Bool} {vs : Nat → Value} {A : Act} {w w' : World} (hK : ∀ s ∈ S, s.Keeps) (hF : Fit l a.tmps.size) (hI : In l S a w0 listed vs A w) {j : Nat} {o : Oper} {s : Sp} (hj : l[j]? = some o) (hs : S[j]? = some s) (hun : listed.getD j true = false)
    {v : Value} (hB : Below w.heap.size w w') (hv : s.Ok v w') : In l S a w0 (listed.setIfInBounds j true) (fun i => if i = j then v else vs i) (A.put o.dst v) w' := by
  have hjs : j < listed.size := by
    rcases Nat.lt_or_ge j listed.size with h | h
    · exact h
    · simp [Array.getElem?_eq_none h] at hun
  have hlist : ∀ i, (listed.setIfInBounds j true).getD i false = true → i ≠ j → listed.getD i false = true := fun i h hne => by
    simpa [Array.getElem?_setIfInBounds, Ne.symm hne] using h
  have hself : (listed.setIfInBounds j true).getD j false = true := by simp [hjs]
  refine ⟨below_on hI.below (Nat.le_refl _) hB, ?_, ?_, ?_, ?_⟩
  · rw [← hI.defers]; cases o.dst <;> rfl
  · rw [← hI.size]; cases o.dst <;> simp [Act.put]
  · intro i oi si hi hsi hl
    by_cases e : i = j
    · subst e
      rw [hj] at hi; cases hi
      rw [hs] at hsi; cases hsi
      refine ⟨by simpa using hv, fun d hd => ?_⟩
      rw [hd, eval_put_same (by rw [hI.size]; exact hF.lies i o hj d hd)]
      simp
    · obtain ⟨h1, h2⟩ := hI.done i oi si hi hsi (hlist i hl e)
      refine ⟨by rw [if_neg e]; exact h1.below (hK si (List.mem_of_getElem? hsi)) hB, fun d hd => ?_⟩
      rw [if_neg e, eval_put_other, h2 d hd]
      rcases Nat.lt_or_gt_of_ne e with hlt | hlt
      · exact hF.once i j oi o hlt hi hj d hd
      · intro hod
        exact hF.once j i o oi hlt hj hi d hod hd
  · intro t ht
    rw [eval_put_other (ht j o hj hself)]
    refine hI.rest t fun i oi hi hl => ht i oi hi ?_
    by_cases e : i = j
    · subst e; exact hself
    · simpa [Array.getElem?_setIfInBounds, Ne.symm e] using hl
/-- how many have not come up -/
def left (listed : Array Bool) : Nat := listed.toList.count false
theorem left_set {listed : Array Bool} {j : Nat} (h : listed.getD j true = false) : left (listed.setIfInBounds j true) + 1 = left listed := by
  have hjs : j < listed.size := by
    rcases Nat.lt_or_ge j listed.size with h' | h'
    · exact h'
    · simp [Array.getElem?_eq_none h'] at h
  have hg : listed.toList[j]'(by simpa using hjs) = false := by simpa [hjs] using h
  unfold left
  rw [Array.toList_setIfInBounds]
  have hp : 0 < listed.toList.count false := List.count_pos_iff.2 (hg ▸ List.getElem_mem _)
  have hc := List.count_set (l := listed.toList) (i := j) (a := true) (b := false) (by rw [Array.length_toList]; exact hjs)
  rw [hg] at hc
  rw [hc, if_pos (by rfl), if_neg (by decide)]
  omega
theorem left_zero {listed : Array Bool} (h : left listed = 0) (j : Nat) (hj : j < listed.size) : listed.getD j false = true := by
  unfold left at h
  rw [List.count_eq_zero] at h
  have := List.getElem_mem (l := listed.toList) (n := j) (by simpa using hj)
  cases e : listed[j] with
  | true => simp [hj, e]
  | false => exact absurd (by rw [← e]; simpa using this) h
theorem left_pos {listed : Array Bool} (h : 0 < left listed) : ∃ j, listed.getD j true = false := by
  unfold left at h
  obtain ⟨j, hj, e⟩ := List.mem_iff_getElem.1 (List.count_pos_iff.1 h)
  rw [Array.length_toList] at hj
  exact ⟨j, by simp at e; simp [hj, e]⟩
theorem pre_of {S : List Sp} {a : Act} {w0 : World} {listed : Array Bool} {vs : Nat → Value} {A : Act} {w : World} (hI : In l S a w0 listed vs A w) {j : Nat} (hj : j ∈ Region.ready .any l.toArray listed) {o : Oper} (ho : l[j]? = some o) : Pre l S a o A w := by
  obtain ⟨_, o', ho', hall⟩ := mem_ready.1 hj
  have e : o' = o := by
    have : l[j]? = some o' := by simpa using ho'
    rw [ho] at this; cases this; rfl
  subst e
  refine ⟨fun t ht => hI.rest t fun i oi hi _ => ?_, fun i hi oi s hoi hs => ?_⟩
  · rw [List.all_eq_true] at ht
    simpa using ht oi (List.mem_of_getElem? hi)
  · obtain ⟨k, hk, hb⟩ := Array.any_eq_true.1 hi
    simp only [Bool.and_eq_true, beq_iff_eq] at hb
    have := hall o'.after[k] (Array.getElem_mem hk) hb.2
    rw [hb.1] at this
    obtain ⟨h1, h2⟩ := hI.done i oi s hoi hs this
    exact ⟨vs i, h1, h2⟩
theorem eval_putAll (vs : Nat → Value) (t : Tmp) : ∀ (r : List Oper) (k : Nat) (a : Act), (∀ (i : Nat) o, r[i]? = some o → ∀ d, o.dst = some d → d < a.tmps.size) →
    ((∀ (i : Nat) o, r[i]? = some o → o.dst ≠ some t) → (putAll vs k r a).eval (.tmp t) = a.eval (.tmp t)) ∧
    (∀ (i : Nat) o, r[i]? = some o → o.dst = some t → (∀ (j : Nat) x, i < j → r[j]? = some x → x.dst ≠ some t) → (putAll vs k r a).eval (.tmp t) = vs (k + i))
  | [], k, a, _ => ⟨fun _ => rfl, fun i o h => by simp at h⟩
  | o :: r, k, a, hl => by
    obtain ⟨h1, h2⟩ := eval_putAll vs t r (k + 1) (a.put o.dst (vs k)) (fun i x hx d hd => by
      have := hl (i + 1) x (by simpa using hx) d hd
      cases o.dst <;> simpa [Act.put] using this)
    refine ⟨fun hn => ?_, fun i x hx hd hlast => ?_⟩
    · show (putAll vs (k + 1) r (a.put o.dst (vs k))).eval _ = _
      rw [h1 fun i x hx => hn (i + 1) x (by simpa using hx), eval_put_other (hn 0 o (by simp))]
    · show (putAll vs (k + 1) r (a.put o.dst (vs k))).eval _ = _
      cases i with
      | zero =>
        simp at hx; subst hx
        rw [h1 fun j y hy => hlast (j + 1) y (by omega) (by simpa using hy), hd, eval_put_same (hl 0 o (by simp) t hd)]
        simp
      | succ i =>
        rw [h2 i x (by simpa using hx) hd fun j y hj hy => hlast (j + 1) y (by omega) (by simpa using hy)]
        congr 1; omega
theorem size_putAll (vs : Nat → Value) : ∀ (r : List Oper) (k : Nat) (a : Act), (putAll vs k r a).tmps.size = a.tmps.size ∧ (putAll vs k r a).defers = a.defers
  | [], _, _ => ⟨rfl, rfl⟩
  | o :: r, k, a => by
    obtain ⟨h1, h2⟩ := size_putAll vs r (k + 1) (a.put o.dst (vs k))
    exact ⟨h1.trans (by cases o.dst <;> simp [Act.put]), h2.trans (by cases o.dst <;> rfl)⟩
theorem act_ext {a b : Act} (hs : a.tmps.size = b.tmps.size) (hd : a.defers = b.defers) (h : ∀ t, a.eval (.tmp t) = b.eval (.tmp t)) : a = b := by
  obtain ⟨x, d⟩ := a
  obtain ⟨y, e⟩ := b
  simp only at hs hd
  subst hd
  have : x = y := Array.ext hs fun i h1 h2 => by
    have := h i
    simpa [Act.eval, h1, h2] using this
  rw [this]
theorem wpAny_of_specs {S : List Sp} {a : Act} {w0 : World} {Q : Exit → Act → World → Prop} (hK : ∀ s ∈ S, s.Keeps) (hF : Fit l a.tmps.size) (hS : stepsOk P l S a w0 l S)
    (hQ : ∀ vs w, Below w0.heap.size w0 w → (∀ (i : Nat) (s : Sp), S[i]? = some s → s.Ok (vs i) w) → Q .normal (putAll vs 0 l a) w) :
    ∀ (fuel : Nat) (listed : Array Bool) (vs : Nat → Value) (A : Act) (w : World), listed.size = l.length → left listed = fuel → In l S a w0 listed vs A w → wpAny P .any l.toArray Q fuel listed A w := by
  obtain ⟨hlen, hat⟩ := stepsOk_at hS
  intro fuel
  induction fuel with
  | zero =>
    intro listed vs A w hsz hleft hI
    have hall := left_zero hleft
    refine ⟨?_, ?_⟩
    · rw [List.eq_nil_iff_forall_not_mem]
      intro j hj
      obtain ⟨h0, o, ho, _⟩ := mem_ready.1 hj
      have hjl : j < l.length := by
        have : l[j]? = some o := by simpa using ho
        exact (List.getElem?_eq_some_iff.1 this).1
      have := hall j (by omega)
      have hjs : j < listed.size := by omega
      simp [hjs] at h0 this
      rw [h0] at this; cases this
    · have hdone : ∀ i o s, l[i]? = some o → S[i]? = some s → s.Ok (vs i) w ∧ ∀ d, o.dst = some d → A.eval (.tmp d) = vs i := fun i o s ho hs =>
        hI.done i o s ho hs (hall i (by rw [hsz]; exact (List.getElem?_eq_some_iff.1 ho).1))
      have hA : A = putAll vs 0 l a := by
        obtain ⟨s1, s2⟩ := size_putAll vs l 0 a
        refine act_ext (hI.size.trans s1.symm) (hI.defers.trans s2.symm) fun t => ?_
        obtain ⟨e1, e2⟩ := eval_putAll vs t l 0 a hF.lies
        by_cases hex : ∃ (i : Nat) (o : Oper), l[i]? = some o ∧ o.dst = some t
        · obtain ⟨i, o, ho, hd⟩ := hex
          have hil := (List.getElem?_eq_some_iff.1 ho).1
          have hsi : S[i]? = some (S[i]'(by omega)) := List.getElem?_eq_getElem (by omega)
          rw [e2 i o ho hd fun j x hij hx hxd => hF.once i j o x hij ho hx t hd hxd, (hdone i o _ ho hsi).2 t hd]
          simp
        · rw [e1 fun i o ho hd => hex ⟨i, o, ho, hd⟩]
          exact hI.rest t fun i o ho _ hd => hex ⟨i, o, ho, hd⟩
      rw [hA]
      refine hQ vs w hI.below fun i s hs => ?_
      have hil := (List.getElem?_eq_some_iff.1 hs).1
      have hli : l[i]? = some (l[i]'(by omega)) := List.getElem?_eq_getElem (by omega)
      exact (hdone i _ s hli hs).1
  | succ fuel ih =>
    intro listed vs A w hsz hleft hI
    have hex : ∃ j, listed.getD j true = false := left_pos (by omega)
    refine ⟨fun hnil => ?_, fun j hj => ?_⟩
    · exfalso
      have key : ∀ j, listed.getD j false = true ∨ l.length ≤ j := by
        intro j
        induction j using Nat.strongRecOn with
        | _ j ihj =>
          rcases Nat.lt_or_ge j l.length with hjl | hjl
          · left
            have hoj : l[j]? = some l[j] := List.getElem?_eq_getElem hjl
            cases e : listed.getD j false with
            | true => rfl
            | false =>
              have hjs : j < listed.size := by omega
              have hin : j ∈ Region.ready .any l.toArray listed := mem_ready.2 ⟨by simpa [hjs] using e, l[j], by simpa using hoj, fun ed hed hb => by
                have hlt := hF.back j _ hoj ed hed hb
                rcases ihj ed.on hlt with h | h
                · exact h
                · omega⟩
              rw [hnil] at hin; cases hin
          · exact .inr hjl
      obtain ⟨j, hj⟩ := hex
      have hjs : j < listed.size := by
        rcases Nat.lt_or_ge j listed.size with h | h
        · exact h
        · simp [Array.getElem?_eq_none h] at hj
      rcases key j with h | h
      · simp [hjs] at h hj; rw [h] at hj; cases hj
      · omega
    · obtain ⟨hun, o, ho, _⟩ := mem_ready.1 hj
      have ho' : l[j]? = some o := by simpa using ho
      obtain ⟨s, hs, hstep⟩ := hat j o ho'
      have hst := hstep A w hI.below (pre_of hI hj ho')
      have hgo : ∀ v w', Below w.heap.size w w' → s.Ok v w' → wpAny P .any l.toArray Q fuel (listed.setIfInBounds j true) (A.put o.dst v) w' := fun v w' hB hv =>
        ih _ _ _ _ (by simpa using hsz) (by have := left_set hun; omega) (hI.next hK hF ho' hs hun hB hv)
      unfold wpOp
      rw [ho]
      simp only
      rcases hst with ⟨hw, h⟩ | ⟨hw, h⟩
      · rw [if_pos hw]
        exact .inl (wp_of_spec h hgo)
      · rw [if_neg (by rw [hw]; exact Bool.false_ne_true)]
        exact hgo _ _ (Below.refl _ _) h
/-- **a region by the specifications of its operations** -/
theorem wp_region_specs {id : Nat} {Q : Exit → Act → World → Prop} {a : Act} {w : World} (S : List Sp) (hm : P.follows .mixedOrders = true) (hB : fitB l a.tmps.size = true) (hK : ∀ s ∈ S, s.Keeps)
    (hS : stepsOk P l S a w l S) (hQ : ∀ vs w', Below w.heap.size w w' → (∀ (i : Nat) (s : Sp), S[i]? = some s → s.Ok (vs i) w') → Q .normal (putAll vs 0 l a) w') : (Code.region id l.toArray true).wp P Q a w := by
  refine wp_region_any hm ?_
  have hb : Below w.heap.size w { w with drawn := w.drawn + 1 } := (Below.refl _ w).drew
  refine wpAny_of_specs hK (fit_of hB) hS hQ _ _ (fun _ => undef) a _ (by simp) (by simp [left]) ⟨hb, rfl, rfl, fun i o s ho hs hl => ?_, fun t _ => rfl⟩
  rcases Nat.lt_or_ge i l.length with h | h
  · simp [h] at hl
  · have := (List.getElem?_eq_some_iff.1 ho).1
    omega
end
end Go.Proofs.Ytdahaajfkjmflaa.kit
