/-
  Layer 14: the reference's Of, Union, Least. Layer 14: the reference's cut and Cut. Layer 14: the reference's Sum, where it errs. A region that draws its order: first operations by their specifications (they read or make new memory), then a forced tail (a store, an append).
-/
import Derived.Test.YtdahaajfkjmflaaG09
import Derived.Test.YtdahaajfkjmflaaG17
import Derived.Test.YtdahaajfkjmflaaG14
import Derived.Test.YtdahaajfkjmflaaG12
import Derived.Test.YtdahaajfkjmflaaG10
import Derived.Test.YtdahaajfkjmflaaG15
import Derived.Test.YtdahaajfkjmflaaG08
import Derived.Test.YtdahaajfkjmflaaG04
namespace Go.Proofs.Ytdahaajfkjmflaa.s14
set_option linter.unusedVariables false
set_option linter.unusedSimpArgs false
open Go.RowKit
open kit

open s13

open Go.Shelf
theorem drop5 {l : List V5} {i : Nat} (h : i < l.length) : l.drop i = (l[i]?.getD no5) :: l.drop (i + 1) := by
  rw [List.getElem?_eq_getElem h]; exact List.drop_eq_getElem_cons h
theorem dropG {l : List (List V5)} {i : Nat} (h : i < l.length) : l.drop i = (l[i]?.getD []) :: l.drop (i + 1) := by
  rw [List.getElem?_eq_getElem h]; exact List.drop_eq_getElem_cons h
set_option maxRecDepth 100000 in
set_option maxHeartbeats 4000000 in
theorem rof_range (t : Int) (a : Option Addr) (n c : Nat) (w : World) (h : t < 1 ∨ 8 < t) : Calls Try.prog 14 #[.int .i64 t, .slice a n c] w fun e w' => e = noS 2 ∧ Below w.heap.size w w' := by
  go_enter Try.func14, Try.ntmps14
  go_wp2_with (go_at_call 43; refine (rrange_no t _ h).mono ?_; rintro e w1 ⟨rfl, rfl⟩)
  go_loopw [6, 7] (fun v6 v7 wr => v6 = .int .i64 2 ∧ v7 = .int .i64 0 ∧ Hid (Below w.heap.size w wr)) (fun _ _ _ => 0)
  case atStart => exact ⟨rfl, rfl, Lib.hid (Below.refl _ _)⟩
  case round =>
    obtain ⟨rfl, rfl, HB⟩ := hrel
    by_cases h0 : (0 : Int) < n
    · go_wp2
      go_ret2
      exact ⟨rfl, HB.out⟩
    · go_wp2
      go_ret2
      exact ⟨rfl, HB.out⟩
set_option maxRecDepth 100000 in
set_option maxHeartbeats 6000000 in
theorem rof_scan (t : Int) (a : Option Addr) (n c : Nat) (l : List V5) (w : World) (t1 : 1 ≤ t) (t2 : t ≤ 8) (hl : Hid (l.length = n)) (hn : n ≤ 20000) (ra : Hid (Reads5 w a l)) (r : Int) (H : Hid (chkOf t l = r)) (h0 : (r != 0) = true) :
    Calls Try.prog 14 #[.int .i64 t, .slice a n c] w fun e w' => e = noS r ∧ Below w.heap.size w w' := by
  have hq : ¬ ((n : Int) > 20000) := by omega
  go_enter Try.func14, Try.ntmps14
  go_wp2_with (go_at_call 43; refine (rrange_yes t _ t1 t2).mono ?_; rintro e w1 ⟨rfl, rfl⟩)
  go_loopw [6, 7] (fun v6 v7 wr => ∃ (q : Int) (i : Nat), v6 = .int .i64 q ∧ v7 = .int .i64 i ∧ i ≤ n ∧ Hid ((if q = 0 then chkOf t (l.drop i) else q) = r) ∧ Hid (Below w.heap.size w wr)) (fun _ v _ => n - (intOf v).toNat)
  case atStart => exact ⟨0, 0, rfl, rfl, by omega, H, Lib.hid (Below.refl _ _)⟩
  case round =>
    obtain ⟨q, i, rfl, rfl, hi, HQ, HB⟩ := hrel
    by_cases hlt : i < n
    · by_cases hq0 : q = 0
      · subst hq0
        have hil : i < l.length := by rw [hl.out]; exact hlt
        obtain ⟨ga, oa, rfl, _, ha⟩ := (ra.out.below HB.out) i hil
        have hk := HQ.out
        rw [if_pos rfl, drop5 hil, chkOf] at hk
        clear hil
        generalize l[i]?.getD no5 = y at ha hk
        obtain ⟨y0, y1, y2, y3, y4⟩ := y
        obtain ⟨e0, e1, e2, e3, e4⟩ := ha
        simp only at e0 e1 e2 e3 e4
        obtain ⟨s, hs⟩ : ∃ s, chkV (y0, y1, y2, y3, y4) t = s := ⟨_, rfl⟩
        rw [hs] at hk
        have HS : Hid (chkP y0 y1 y2 y3 y4 t = s) := Lib.hid hs
        have HN : Hid ((if s = 0 then chkOf t (l.drop (i + 1)) else s) = r) := Lib.hid (by
          by_cases h : s = 0
          · rw [if_pos h]; rw [if_neg (by simpa using h)] at hk; exact hk
          · rw [if_neg h]; rw [if_pos h] at hk; exact hk)
        clear hs hk
        go_wp2_with (go_at_call 44; refine (s13.rcheck_any y0 y1 y2 y3 y4 t s _ HS).mono ?_; rintro e w2 ⟨rfl, hB⟩; have B2 := Lib.hid (below_then HB.out hB); clear hB)
        go_roundw
        case rel => exact ⟨s, i + 1, rfl, by go_num, by omega, HN, B2⟩
        case measure => simp [intOf]; omega
      · have hr : q = r := by have h := HQ.out; rw [if_neg hq0] at h; exact h
        subst hr
        have hne2 : (q == 0) = false := by simpa using hq0
        go_wp2
        go_ret2
        exact ⟨rfl, HB.out⟩
    · obtain rfl : i = n := by omega
      have hr : q = r := by
        have h := HQ.out
        by_cases hq0 : q = 0
        · rw [if_pos hq0, List.drop_of_length_le (by rw [hl.out]; omega)] at h
          rw [hq0]; exact h
        · rw [if_neg hq0] at h; exact h
      subst hr
      go_wp2
      go_ret2
      exact ⟨rfl, HB.out⟩
set_option maxRecDepth 100000 in
set_option maxHeartbeats 6000000 in
theorem rof_ok (t : Int) (a : Option Addr) (n c : Nat) (L : List (List Int)) (w : World) (t1 : 1 ≤ t) (t2 : t ≤ 8) (hl : Hid (L.length = n)) (hn : n ≤ 20000) (hc : n ≤ c) (hL : Hid (∀ x ∈ L, okL t x)) (ra : Hid (Reads5 w a (L.map pad5))) :
    Calls Try.prog 14 #[.int .i64 t, .slice a n c] w fun e w' => ∃ p cp N, e = .returned (.tuple #[.slice p N cp, .int .i64 0]) ∧ (setS L).length = N ∧ Reads5 w' p ((setS L).map pad5) ∧ Below w.heap.size w w' := by
  have hq : ¬ ((n : Int) > 20000) := by omega
  have hL8 : Hid (∀ x ∈ L, okL 8 x) := Lib.hid (fun x hx => okL_mono (hL.out x hx) t2)
  go_enter Try.func14, Try.ntmps14
  go_wp2_with (go_at_call 43; refine (rrange_yes t _ t1 t2).mono ?_; rintro e w1 ⟨rfl, rfl⟩)
  go_loopw [6, 7] (fun v6 v7 wr => ∃ (i : Nat), v6 = .int .i64 0 ∧ v7 = .int .i64 i ∧ i ≤ n ∧ Hid (Below w.heap.size w wr)) (fun _ v _ => n - (intOf v).toNat)
  case atStart => exact ⟨0, rfl, rfl, by omega, Lib.hid (Below.refl _ _)⟩
  case round =>
    obtain ⟨i, rfl, rfl, hi, HB⟩ := hrel
    by_cases hlt : i < n
    · have hil : i < L.length := by rw [hl.out]; exact hlt
      obtain ⟨ga, oa, rfl, _, ha⟩ := (ra.out.below HB.out) i (by rw [List.length_map]; exact hil)
      rw [map_getD hil] at ha
      have hc0 := chkV_pad (hL.out _ (mem_getL hil)) t1 t2
      clear hil
      generalize pad5 (L[i]?.getD []) = y at ha hc0
      obtain ⟨y0, y1, y2, y3, y4⟩ := y
      obtain ⟨e0, e1, e2, e3, e4⟩ := ha
      simp only at e0 e1 e2 e3 e4
      have HS : Hid (chkP y0 y1 y2 y3 y4 t = 0) := Lib.hid hc0
      clear hc0
      go_wp2_with (go_at_call 44; refine (s13.rcheck_any y0 y1 y2 y3 y4 t 0 _ HS).mono ?_; rintro e w2 ⟨rfl, hB⟩; have B2 := Lib.hid (below_then HB.out hB); clear hB)
      go_roundw
      case rel => exact ⟨i + 1, rfl, by go_num, by omega, B2⟩
      case measure => simp [intOf]; omega
    · obtain rfl : i = n := by omega
      have RB := Lib.hid (ra.out.below HB.out)
      go_wp2_with (go_at_call 48; refine (rsorted_any i i (Nat.le_refl _) a c L _ hl (by omega) hc hL8 RB).mono ?_; rintro e w2 ⟨p, cp, N, rfl, l2, m2, r2, b2⟩; have L2 := Lib.hid l2; have R2 := Lib.hid r2; have B2 := Lib.hid (below_then HB.out b2); clear l2 r2 b2)
      go_ret2
      exact ⟨p, cp, N, rfl, L2.out, R2.out, B2.out⟩
set_option maxRecDepth 100000 in
set_option maxHeartbeats 4000000 in
theorem runion_range (t : Int) (a : Option Addr) (n c : Nat) (w : World) (h : t < 1 ∨ 8 < t) : Calls Try.prog 19 #[.int .i64 t, .slice a n c] w fun e w' => e = noS 2 ∧ Below w.heap.size w w' := by
  go_enter Try.func19, Try.ntmps19
  go_wp2_with (go_at_call 43; refine (rrange_no t _ h).mono ?_; rintro e w1 ⟨rfl, rfl⟩)
  go_loopw [6, 7] (fun v6 v7 wr => v6 = .int .i64 2 ∧ v7 = .int .i64 0 ∧ Hid (Below w.heap.size w wr)) (fun _ _ _ => 0)
  case atStart => exact ⟨rfl, rfl, Lib.hid (Below.refl _ _)⟩
  case round =>
    obtain ⟨rfl, rfl, HB⟩ := hrel
    by_cases h0 : (0 : Int) < n
    · go_wp2
      go_ret2
      exact ⟨rfl, HB.out⟩
    · go_wp2
      go_ret2
      exact ⟨rfl, HB.out⟩
set_option maxRecDepth 100000 in
set_option maxHeartbeats 6000000 in
theorem runion_scan (t : Int) (a : Option Addr) (n c : Nat) (ls : List (List V5)) (w : World) (t1 : 1 ≤ t) (t2 : t ≤ 8) (hl : Hid (ls.length = n)) (hn : n ≤ 1000) (hm : Hid (∀ i, i < ls.length → (ls[i]?.getD []).length ≤ 60000)) (hr : Hid (Grid w a ls)) (r : Int) (H : Hid (chkM t ls = r)) (h0 : (r != 0) = true) :
    Calls Try.prog 19 #[.int .i64 t, .slice a n c] w fun e w' => e = noS r ∧ Below w.heap.size w w' := by
  go_enter Try.func19, Try.ntmps19
  go_wp2_with (go_at_call 43; refine (rrange_yes t _ t1 t2).mono ?_; rintro e w1 ⟨rfl, rfl⟩)
  go_loopw [6, 7] (fun v6 v7 wr => ∃ (q : Int) (i : Nat), v6 = .int .i64 q ∧ v7 = .int .i64 i ∧ i ≤ n ∧ Hid ((if q = 0 then chkM t (ls.drop i) else q) = r) ∧ Hid (Below w.heap.size w wr)) (fun _ v _ => n - (intOf v).toNat)
  case atStart => exact ⟨0, 0, rfl, rfl, by omega, H, Lib.hid (Below.refl _ _)⟩
  case round =>
    obtain ⟨q, i, rfl, rfl, hi, HQ, HB⟩ := hrel
    by_cases hlt : i < n
    · by_cases hq0 : q = 0
      · subst hq0
        have hil : i < ls.length := by rw [hl.out]; exact hlt
        obtain ⟨ga, oa, ai, ci, rfl, hgb, c0, hr5⟩ := (hr.out.below HB.out).at hil
        have hk := HQ.out
        rw [if_pos rfl, dropG hil, chkM] at hk
        have hml := hm.out i hil
        clear hil
        generalize ls[i]?.getD [] = y at c0 hr5 hk hml
        obtain ⟨s, hs⟩ : ∃ s, chkS t y = s := ⟨_, rfl⟩
        obtain ⟨k, hyk⟩ : ∃ k, y.length = k := ⟨_, rfl⟩
        rw [hs] at hk
        rw [hyk] at c0 hml
        have HS := Lib.hid hs
        have HY := Lib.hid hyk
        have HR5 := Lib.hid hr5
        have HN : Hid ((if s = 0 then chkM t (ls.drop (i + 1)) else s) = r) := Lib.hid (by
          by_cases h : s = 0
          · rw [if_pos h]; rw [if_neg (by simpa using h)] at hk; exact hk
          · rw [if_neg h]; rw [if_pos h] at hk; exact hk)
        clear hs hk hyk hr5
        go_wp2_with (go_at_call 12; refine (rset_any t ai k ci y _ HY hml HR5 s HS).mono ?_; rintro e w2 ⟨rfl, hB⟩; have B2 := Lib.hid (below_then HB.out hB); clear hB)
        go_roundw
        case rel => exact ⟨s, i + 1, rfl, by go_num, by omega, HN, B2⟩
        case measure => simp [intOf]; omega
      · have hr : q = r := by have h := HQ.out; rw [if_neg hq0] at h; exact h
        subst hr
        have hne2 : (q == 0) = false := by simpa using hq0
        go_wp2
        go_ret2
        exact ⟨rfl, HB.out⟩
    · obtain rfl : i = n := by omega
      have hr : q = r := by
        have h := HQ.out
        by_cases hq0 : q = 0
        · rw [if_pos hq0, List.drop_of_length_le (by rw [hl.out]; omega)] at h
          rw [hq0]; exact h
        · rw [if_neg hq0] at h; exact h
      subst hr
      go_wp2
      go_ret2
      exact ⟨rfl, HB.out⟩
theorem chkM_at {t : Int} : ∀ {ls : List (List V5)}, chkM t ls = 0 → ∀ l ∈ ls, chkS t l = 0
  | [], _, l, hl => by cases hl
  | x :: ls, h, l, hl => by
    rw [chkM] at h
    by_cases h1 : chkS t x = 0
    · rw [if_neg (by simpa using h1)] at h
      rcases List.mem_cons.1 hl with rfl | hl
      · exact h1
      · exact chkM_at h l hl
    · rw [if_pos h1] at h; exact absurd h h1
set_option maxRecDepth 100000 in
set_option maxHeartbeats 6000000 in
theorem runion_ok (t : Int) (a : Option Addr) (n c : Nat) (Ls : List (List (List Int))) (w : World) (t1 : 1 ≤ t) (t2 : t ≤ 8) (hn : Hid (Ls.length = n)) (hn2 : n ≤ 1000) (hm : Hid (totS Ls ≤ 40000)) (hr : Hid (GridC w a (pad2 Ls))) (H : Hid (chkM t (pad2 Ls) = 0)) (hok : Hid (∀ L ∈ Ls, ∀ x ∈ L, okL 8 x)) :
    Calls Try.prog 19 #[.int .i64 t, .slice a n c] w fun e w' => ∃ p cp N, e = .returned (.tuple #[.slice p N cp, .int .i64 0]) ∧ (uniS Ls).length = N ∧ Reads5 w' p ((uniS Ls).map pad5) ∧ Below w.heap.size w w' := by
  have hn3 : Hid ((pad2 Ls).length = n) := Lib.hid (by unfold pad2; rw [List.length_map]; exact hn.out)
  have HM : Hid (∀ i, i < (pad2 Ls).length → ((pad2 Ls)[i]?.getD []).length ≤ 60000) := Lib.hid (fun i hi => by
    rw [pad2_at, List.length_map]; have := len_at Ls i; have := hm.out; omega)
  go_enter Try.func19, Try.ntmps19
  go_wp2_with (go_at_call 43; refine (rrange_yes t _ t1 t2).mono ?_; rintro e w1 ⟨rfl, rfl⟩)
  go_loopw [6, 7] (fun v6 v7 wr => ∃ (i : Nat), v6 = .int .i64 0 ∧ v7 = .int .i64 i ∧ i ≤ n ∧ Hid (Below w.heap.size w wr)) (fun _ v _ => n - (intOf v).toNat)
  case atStart => exact ⟨0, rfl, rfl, by omega, Lib.hid (Below.refl _ _)⟩
  case round =>
    obtain ⟨i, rfl, rfl, hi, HB⟩ := hrel
    by_cases hlt : i < n
    · have hil : i < (pad2 Ls).length := by rw [hn3.out]; exact hlt
      obtain ⟨ga, oa, ai, ci, rfl, hgb, c0, hr5⟩ := (hr.out.grid.below HB.out).at hil
      have hk := chkM_at H.out _ (by rw [List.getElem?_eq_getElem hil]; exact List.getElem_mem hil : (pad2 Ls)[i]?.getD [] ∈ pad2 Ls)
      have hml := HM.out i hil
      clear hil
      generalize (pad2 Ls)[i]?.getD [] = y at c0 hr5 hk hml
      obtain ⟨k, hyk⟩ : ∃ k, y.length = k := ⟨_, rfl⟩
      rw [hyk] at c0 hml
      have HS := Lib.hid hk
      have HY := Lib.hid hyk
      have HR5 := Lib.hid hr5
      clear hk hyk hr5
      go_wp2_with (go_at_call 12; refine (rset_any t ai k ci y _ HY hml HR5 0 HS).mono ?_; rintro e w2 ⟨rfl, hB⟩; have B2 := Lib.hid (below_then HB.out hB); clear hB)
      go_roundw
      case rel => exact ⟨i + 1, rfl, by go_num, by omega, B2⟩
      case measure => simp [intOf]; omega
    · obtain rfl : i = n := by omega
      go_wp2
      go_loopw [8, 9] (fun v j wr => ∃ (k : Nat) (p : Option Addr) (cp m : Nat), j = .int .i64 k ∧ k ≤ i ∧ v = .slice p m cp ∧ m ≤ cp ∧ Hid ((uniS (Ls.take k)).length = m) ∧ Hid (Reads5 wr p ((uniS (Ls.take k)).map pad5)) ∧ Hid (Below w.heap.size w wr)) (fun _ j _ => i - (intOf j).toNat)
      case atStart => exact ⟨0, none, 0, 0, rfl, by omega, rfl, Nat.le_refl _, Lib.hid (by simp [uniS]), Lib.hid (by simp [uniS]; exact Reads5.nil _ _), HB⟩
      case round =>
        obtain ⟨k, p, cp, m, rfl, hk, rfl, hmc, HL, HP, HB3⟩ := hrel
        by_cases hlt : k < i
        · have hkl : k < Ls.length := by have := hn.out; omega
          have hkp : k < (pad2 Ls).length := by have := hn3.out; omega
          obtain ⟨b, off, ai, ci, rfl, hb, c0, hr5, hci⟩ := (hr.out.below HB3.out).at hkp
          rw [pad2_at] at c0 hr5 hci
          rw [List.length_map] at c0 hci
          have htk := takeLs hkl
          have htot := tot_take hkl
          have hle := uni_len (Ls.take k)
          have hmm := hm.out
          have hll := HL.out
          have hok8 : ∀ x ∈ uniS (Ls.take k), okL 8 x := fold_ok _ _ (by simp) (fun L hL => hok.out L (List.mem_of_mem_take hL))
          have hokk : ∀ x ∈ Ls[k]?.getD [], okL 8 x := hok.out _ (by rw [List.getElem?_eq_getElem hkl]; exact List.getElem_mem hkl)
          generalize Ls[k]?.getD [] = L at c0 hr5 hci htk htot hokk
          obtain ⟨q, hq⟩ : ∃ q, L.length = q := ⟨_, rfl⟩
          rw [hq] at c0 hci htot
          have hsz : m + q ≤ 100000 := by omega
          have HQ := Lib.hid hq
          have HOK8 := Lib.hid hok8
          have HOKK := Lib.hid hokk
          have HR5 := Lib.hid hr5
          have HTK := Lib.hid htk
          clear hq hok8 hokk hr5 htk htot hle hmm hll hkl hkp
          obtain ⟨N2, hN2⟩ : ∃ N2, (mrg kU (uniS (Ls.take k)) L).length = N2 := ⟨_, rfl⟩
          have HN2 := Lib.hid hN2
          clear hN2
          go_wp2_with (go_at_call 53; refine (rmerge_any p ai m q cp ci (uniS (Ls.take k)) L _ HL HQ hmc hci hsz HOK8 HOKK HP HR5 _ N2 (Lib.hid rfl) HN2).mono ?_; rintro e w2 ⟨p2, cp2, rfl, hR2, hB2, hc2⟩; have R2 := Lib.hid hR2; have B2 := Lib.hid (below_then HB3.out hB2); clear hR2 hB2)
          go_roundw
          case rel => exact ⟨k + 1, p2, cp2, N2, by go_num, by omega, rfl, hc2, Lib.hid (by rw [HTK.out, uni_snoc]; exact HN2.out), Lib.hid (by rw [HTK.out, uni_snoc]; exact R2.out), B2⟩
          case measure => simp [intOf]; omega
        · obtain rfl : k = i := by omega
          have htk : Ls.take k = Ls := List.take_of_length_le (by rw [hn.out]; exact Nat.le_refl _)
          have hl2 := HL.out
          have hp2 := HP.out
          rw [htk] at hl2 hp2
          have HL2 := Lib.hid hl2
          have HP2 := Lib.hid hp2
          clear hl2 hp2 htk
          go_wp2
          go_ret2
          exact ⟨p, cp, m, rfl, HL2.out, HP2.out, HB3.out⟩
set_option maxRecDepth 100000 in
set_option maxHeartbeats 2000000 in
theorem rleast_bad (t : Int) (a : Option Addr) (n c : Nat) (l : List V5) (w : World) (hl : Hid (l.length = n)) (hn : n ≤ 60000) (hr : Hid (Reads5 w a l)) (r : Int) (HR : Hid (chkS t l = r)) (h0 : (r != 0) = true) :
    Calls Try.prog 25 #[.int .i64 t, .slice a n c] w fun e w' => e = .returned (LE no5 r) ∧ Below w.heap.size w w' := by
  have HRD := Lib.hid (hr.out.alloc (.cells #[.int .i64 0, .int .i64 0, .int .i64 0, .int .i64 0, .int .i64 0] 25))
  have hne : (r == 0) = false := by simpa using h0
  go_enter Try.func25, Try.ntmps25
  go_wp2_with (go_at_call 12; refine (rset_any t a n c l _ hl hn HRD r HR).mono ?_; rintro e w1 ⟨rfl, hB⟩; obtain ⟨Y1, hB1⟩ := made1 hB; have B1 := Lib.hid hB1; have Y1 := Lib.hid Y1; clear hB hB1; obtain ⟨v0, v1, v2, v3, v4⟩ := Y1.out.cell5; obtain ⟨g0, g1, g2, g3, g4⟩ := Y1.out.free5)
  obtain ⟨z0, z1, z2, z3, z4⟩ := (Y1.out.put5 (.int .i64 0) (.int .i64 0) (.int .i64 0) (.int .i64 0) (.int .i64 0)).cell5
  exact bodyPost_ret (v := .tuple #[.agg #[.int .i64 0, .int .i64 0, .int .i64 0, .int .i64 0, .int .i64 0], .int .i64 r]) (by simp [results, Try.results25, go_sem, z0, z1, z2, z3, z4]) rfl ⟨rfl, below_put5 B1.out (by omega) _ _ _ _ _⟩
set_option maxRecDepth 100000 in
set_option maxHeartbeats 2000000 in
theorem rleast_none (t : Int) (a : Option Addr) (c : Nat) (w : World) (h1 : 1 ≤ t) (h2 : t ≤ 8) :
    Calls Try.prog 25 #[.int .i64 t, .slice a 0 c] w fun e w' => e = .returned (LE no5 20) ∧ Below w.heap.size w w' := by
  have HR : Hid (chkS t [] = 0) := Lib.hid (by unfold chkS; rw [if_neg (by omega)]; rfl)
  go_enter Try.func25, Try.ntmps25
  go_wp2_with (go_at_call 12; refine (rset_any t a 0 c [] _ (Lib.hid rfl) (by omega) (Lib.hid (Reads5.nil _ _)) 0 HR).mono ?_; rintro e w1 ⟨rfl, hB⟩; obtain ⟨Y1, hB1⟩ := made1 hB; have B1 := Lib.hid hB1; have Y1 := Lib.hid Y1; clear hB hB1; obtain ⟨v0, v1, v2, v3, v4⟩ := Y1.out.cell5; obtain ⟨g0, g1, g2, g3, g4⟩ := Y1.out.free5)
  obtain ⟨z0, z1, z2, z3, z4⟩ := (Y1.out.put5 (.int .i64 0) (.int .i64 0) (.int .i64 0) (.int .i64 0) (.int .i64 0)).cell5
  exact bodyPost_ret (v := .tuple #[.agg #[.int .i64 0, .int .i64 0, .int .i64 0, .int .i64 0, .int .i64 0], .int .i64 20]) (by simp [results, Try.results25, go_sem, z0, z1, z2, z3, z4]) rfl ⟨rfl, below_put5 B1.out (by omega) _ _ _ _ _⟩
set_option maxRecDepth 100000 in
set_option maxHeartbeats 2000000 in
theorem rleast_ok (t : Int) (a : Option Addr) (n c : Nat) (x : V5) (l : List V5) (w : World) (hl : Hid ((x :: l).length = n)) (hn : n ≤ 60000) (hr : Hid (Reads5 w a (x :: l))) (HR : Hid (chkS t (x :: l) = 0)) :
    Calls Try.prog 25 #[.int .i64 t, .slice a n c] w fun e w' => e = .returned (LE x 0) ∧ Below w.heap.size w w' := by
  have HRD := Lib.hid (hr.out.alloc (.cells #[.int .i64 0, .int .i64 0, .int .i64 0, .int .i64 0, .int .i64 0] 25))
  have hn0 : 0 < n := by have := hl.out; simp at this; omega
  have hne : ¬ (n : Int) = 0 := by omega
  have hne2 : ((n : Int) == 0) = false := by simpa using hne
  obtain ⟨x0, x1, x2, x3, x4⟩ := x
  go_enter Try.func25, Try.ntmps25
  go_wp2_with (go_at_call 12; refine (rset_any t a n c _ _ hl hn HRD 0 HR).mono ?_; rintro e w1 ⟨rfl, hB⟩; obtain ⟨Y1, hB1⟩ := made1 hB; have B1 := Lib.hid hB1; have Y1 := Lib.hid Y1; obtain ⟨b, off, rfl, hb, c0, c1, c2, c3, c4⟩ := (HRD.out.below hB) 0 (Nat.zero_lt_succ _); rw [Nat.zero_mul, Nat.add_zero] at c0 c1 c2 c3 c4; simp only [List.getElem?_cons_zero, Option.getD_some] at c0 c1 c2 c3 c4; clear hB hB1; obtain ⟨v0, v1, v2, v3, v4⟩ := Y1.out.cell5; obtain ⟨g0, g1, g2, g3, g4⟩ := Y1.out.free5)
  obtain ⟨z0, z1, z2, z3, z4⟩ := (Y1.out.put5 (.int .i64 x0) (.int .i64 x1) (.int .i64 x2) (.int .i64 x3) (.int .i64 x4)).cell5
  exact bodyPost_ret (v := .tuple #[.agg #[.int .i64 x0, .int .i64 x1, .int .i64 x2, .int .i64 x3, .int .i64 x4], .int .i64 0]) (by simp [results, Try.results25, go_sem, z0, z1, z2, z3, z4]) rfl ⟨rfl, below_put5 B1.out (by omega) _ _ _ _ _⟩
end Go.Proofs.Ytdahaajfkjmflaa.s14

namespace Go.Proofs.Ytdahaajfkjmflaa.s14
set_option linter.unusedVariables false
set_option linter.unusedSimpArgs false
open Go.RowKit
open kit

open s13

open Go.Shelf
theorem okL_nil : okL 8 [] := ⟨by simp, by simp⟩
theorem join_empty {x : List Int} (hx : okL 8 x) {K : Nat} (h1 : 1 ≤ K) (hK : K ≤ 4) {X : V5} (ex : pad5 x = X) : joinE (K : Int) X (0, 0, 0, 0, 0) = (pad5 (x.take K), 0) := by
  have h := joinE_ok hx okL_nil h1 hK
  rw [List.append_nil, ex] at h
  exact h
set_option maxRecDepth 100000 in
set_option maxHeartbeats 6000000 in
theorem rcutset_any (a : Option Addr) (n c K : Nat) (L : List (List Int)) (w : World) (hl : Hid (L.length = n)) (hn : n ≤ 20000) (k1 : 1 ≤ K) (hK : K ≤ 4) (hL : Hid (∀ x ∈ L, okL 8 x)) (hr : Hid (Reads5 w a (L.map pad5))) :
    Calls Try.prog 65 #[.int .i64 K, .slice a n c] w (RetS w (setS (L.map (List.take K)))) := by
  go_enter Try.func65, Try.ntmps65
  go_wp2
  go_loopw [5, 6] (fun v5 v6 wr => ∃ i : Nat, v6 = .int .i64 i ∧ i ≤ n ∧ Hid (wr.ownsRow w.heap.size 25 5 v5 i (flat5 (((L.take i).map (List.take K)).map pad5))) ∧ Hid (Below w.heap.size w wr)) (fun _ v _ => n - (intOf v).toNat)
  case atStart => exact ⟨0, rfl, by omega, Lib.hid (World.ownsRow_nil _ _ _ _), Lib.hid (Below.refl _ _)⟩
  case round =>
    obtain ⟨i, rfl, hi, HRow, HB⟩ := hrel
    by_cases hlt : i < n
    · have hil : i < L.length := by rw [hl.out]; exact hlt
      obtain ⟨g, o, rfl, hg, hat⟩ := (hr.out.below HB.out) i (by rw [List.length_map]; exact hil)
      rw [map_getD hil] at hat
      have hok := hL.out _ (mem_getL hil)
      have htk := take_getL hil
      generalize L[i]?.getD [] = x at hat hok htk
      obtain ⟨⟨x0, x1, x2, x3, x4⟩, ex⟩ : ∃ y, pad5 x = y := ⟨_, rfl⟩
      rw [ex] at hat
      obtain ⟨c0, c1, c2, c3, c4⟩ := hat
      obtain ⟨⟨y0, y1, y2, y3, y4⟩, ey⟩ : ∃ y, pad5 (x.take K) = y := ⟨_, rfl⟩
      have HE : Hid (joinE (K : Int) (x0, x1, x2, x3, x4) (0, 0, 0, 0, 0) = ((y0, y1, y2, y3, y4), 0)) := Lib.hid (by rw [join_empty hok k1 hK ex, ey])
      have HTK := Lib.hid (show ((L.take (i + 1)).map (List.take K)) = (L.take i).map (List.take K) ++ [x.take K] by rw [htk, List.map_append]; rfl)
      have HEY := Lib.hid ey
      have hsz := HB.out.size
      clear hil hok htk ex ey
      go_wp2_with (first
        | (go_at_call 66; refine (rjoin14_any (K : Int) x0 x1 x2 x3 x4 0 0 0 0 0 _ y0 y1 y2 y3 y4 0 HE).mono ?_; rintro e w1 ⟨rfl, hB⟩; have B1 := Lib.hid (below_then HB.out hB); have R1 := Lib.hid (own5_below HRow.out hB); have S1 := B1.out.size; clear hB)
        | (at_builtin; refine append_in5 rfl (.tmp 13) (.tmp 21) rfl w.heap.size _ i _ rfl (R1.out.alloc _) _ [(y0, y1, y2, y3, y4)] 1 1 rfl rfl (by decide) (reads5_block (Box.new w1 25 #[.int .i64 y0, .int .i64 y1, .int .i64 y2, .int .i64 y3, .int .i64 y4]) rfl) (by omega) (by simp; omega) ?_; intro v3 w3 hv3 hB3; have O3 := Lib.hid hv3; have B3 := Lib.hid ((B1.out.alloc B1.out.size (.cells #[.int .i64 y0, .int .i64 y1, .int .i64 y2, .int .i64 y3, .int .i64 y4] 25)).trans hB3); clear hv3 hB3))
      go_roundw
      case rel => exact ⟨i + 1, by go_num, by omega, Lib.hid (by rw [HTK.out, flat_snoc _ _ HEY.out]; exact O3.out), B3⟩
      case measure => simp [intOf]; omega
    · obtain rfl : i = n := by omega
      have hrow := HRow.out
      rw [List.take_of_length_le (by rw [hl.out]; omega)] at hrow
      obtain ⟨p, cp, rfl, hcp⟩ := row5_shape hrow
      have hlen : (L.map (List.take K)).length = i := by rw [List.length_map]; exact hl.out
      have HLEN := Lib.hid hlen
      have HRR := Lib.hid (reads5_of_row (l := (L.map (List.take K)).map pad5) (by rw [List.length_map]; exact hlen) hrow)
      have HOK : Hid (∀ x ∈ L.map (List.take K), okL 8 x) := Lib.hid (fun x hx => by
        obtain ⟨y, hy, rfl⟩ := List.mem_map.1 hx
        exact okL_take (hL.out y hy) K)
      clear hrow hlen HRow
      go_wp2_with (go_at_call 48; refine (rsorted_any i i (Nat.le_refl _) p cp (L.map (List.take K)) _ HLEN (by omega) hcp HOK HRR).mono ?_; rintro e w2 ⟨p2, c2, N2, rfl, l2, m2, r2, b2⟩; have L2 := Lib.hid l2; have R2 := Lib.hid r2; have B2 := Lib.hid (below_then HB.out b2); clear l2 r2 b2)
      go_ret
      exact ⟨p2, c2, N2, rfl, L2.out, m2, R2.out, B2.out⟩
set_option maxRecDepth 100000 in
set_option maxHeartbeats 2000000 in
theorem rcut_bad (t k : Int) (a : Option Addr) (n c : Nat) (l : List V5) (w : World) (hl : Hid (l.length = n)) (hn : n ≤ 60000) (hr : Hid (Reads5 w a l)) (r q : Int) (HR : Hid (chkS t l = r)) (HQ : Hid (rngE r k = q)) (h0 : (q != 0) = true) :
    Calls Try.prog 33 #[.int .i64 t, .int .i64 k, .slice a n c] w fun e w' => e = noS q ∧ Below w.heap.size w w' := by
  go_enter Try.func33, Try.ntmps33
  go_wp2_with (fail)
  go_at_call 12
  refine (rset_any t a n c l _ hl hn hr r HR).mono ?_
  rintro e w1 ⟨rfl, hB⟩
  have B1 := Lib.hid hB
  clear hB
  go_wp2_with (fail)
  go_at_call 64
  refine (rranged_any r k _ q HQ).mono ?_
  rintro e w2 ⟨rfl, rfl⟩
  go_wp2
  go_ret2
  exact ⟨rfl, B1.out⟩
set_option maxRecDepth 100000 in
set_option maxHeartbeats 2000000 in
theorem rcut_ok (t : Int) (K : Nat) (a : Option Addr) (n c : Nat) (L : List (List Int)) (w : World) (hK1 : 1 ≤ K) (hK4 : K ≤ 4) (hl : Hid (L.length = n)) (hn : n ≤ 20000) (hL : Hid (∀ x ∈ L, okL 8 x)) (ha : Hid (Asc L)) (hr : Hid (Reads5 w a (L.map pad5))) (HR : Hid (chkS t (L.map pad5) = 0)) :
    Calls Try.prog 33 #[.int .i64 t, .int .i64 K, .slice a n c] w fun e w' => ∃ p cp N, e = .returned (.tuple #[.slice p N cp, .int .i64 0]) ∧ (cutS K L).length = N ∧ Reads5 w' p ((cutS K L).map pad5) ∧ Below w.heap.size w w' ∧ N ≤ cp := by
  have HQ : Hid (rngE 0 (K : Int) = 0) := Lib.hid (by unfold rngE; rw [if_neg (by omega)])
  have HC := Lib.hid (cutS_set K ha.out)
  go_enter Try.func33, Try.ntmps33
  go_wp2_with (fail)
  go_at_call 12
  refine (rset_any t a n c _ _ (Lib.hid (by rw [List.length_map]; exact hl.out)) (by omega) hr 0 HR).mono ?_
  rintro e w1 ⟨rfl, hB⟩
  have B1 := Lib.hid hB
  have R1 := Lib.hid (hr.out.below hB)
  clear hB
  go_wp2_with (fail)
  go_at_call 64
  refine (rranged_any 0 K _ 0 HQ).mono ?_
  rintro e w2 ⟨rfl, rfl⟩
  go_wp2_with (fail)
  go_at_call 65
  refine (rcutset_any a n c K L _ hl hn hK1 hK4 hL R1).mono ?_
  rintro e w3 ⟨p, cp, N, rfl, l3, m3, r3, b3⟩
  have L3 := Lib.hid l3
  have R3 := Lib.hid r3
  have B3 := Lib.hid (below_then B1.out b3)
  clear l3 r3 b3
  go_wp2
  go_ret2
  exact ⟨p, cp, N, rfl, by rw [HC.out]; exact L3.out, by rw [HC.out]; exact R3.out, B3.out, m3⟩
end Go.Proofs.Ytdahaajfkjmflaa.s14

namespace Go.Proofs.Ytdahaajfkjmflaa.s14
set_option linter.unusedVariables false
set_option linter.unusedSimpArgs false
open Go.RowKit
open kit

open s13

open Go.Shelf
set_option maxRecDepth 100000 in
set_option maxHeartbeats 2000000 in
theorem rsum_bad (t k : Int) (a b : Option Addr) (n m ca cb : Nat) (la lb : List V5) (w : World) (hn : Hid (la.length = n)) (hm : Hid (lb.length = m)) (hn6 : n ≤ 60000) (hm6 : m ≤ 60000) (ra : Hid (Reads5 w a la)) (rb : Hid (Reads5 w b lb)) (r q : Int) (HR : Hid (chkA t [la, lb] = r)) (HQ : Hid (rngE r k = q)) (h0 : (q != 0) = true) :
    Calls Try.prog 31 #[.int .i64 t, .int .i64 k, .slice a n ca, .slice b m cb] w fun e w' => e = noS q ∧ Below w.heap.size w w' := by
  go_enter Try.func31, Try.ntmps31
  go_wp2_with (fail)
  go_at_call 56
  refine (s14.rboth_any t a b n m ca cb la lb _ hn hm hn6 hm6 ra rb r HR).mono ?_
  rintro e w1 ⟨rfl, hB⟩
  have B1 := Lib.hid hB
  clear hB
  go_wp2_with (fail)
  go_at_call 64
  refine (rranged_any r k _ q HQ).mono ?_
  rintro e w2 ⟨rfl, rfl⟩
  go_wp2
  go_ret2
  exact ⟨rfl, B1.out⟩
/-- what one string gives with all of a set -/
def rowJ (K : Nat) (x : List Int) (B : List (List Int)) : List (List Int) := B.map fun y => (x ++ y).take K
def allJ (K : Nat) (A B : List (List Int)) : List (List Int) := A.flatMap fun x => rowJ K x B
theorem allJ_snoc (K : Nat) (A B : List (List Int)) (x : List Int) : allJ K (A ++ [x]) B = allJ K A B ++ rowJ K x B := by
  unfold allJ; rw [List.flatMap_append]; simp
theorem allJ_len (K : Nat) (B : List (List Int)) : ∀ A : List (List Int), (allJ K A B).length = A.length * B.length
  | [] => by simp [allJ]
  | x :: A => by
    have ih := allJ_len K B A
    unfold allJ at ih ⊢
    rw [List.flatMap_cons, List.length_append, ih]
    simp only [rowJ, List.length_map, List.length_cons, Nat.succ_mul]
    omega
/-- out, and the next string's row -/
theorem allJ_step (K : Nat) (A B : List (List Int)) (x : List Int) : mrg kU (setS (allJ K A B)) (setS (rowJ K x B)) = setS (allJ K (A ++ [x]) B) := by
  rw [setS_two, allJ_snoc]
/-- a string of K terminals gives itself alone -/
theorem allJ_whole {K : Nat} {A B : List (List Int)} {x : List Int} (hx : x.length = K) (hB : B ≠ []) : mrg kU (setS (allJ K A B)) [x] = setS (allJ K (A ++ [x]) B) := by
  refine setS_eq (asc_mrg kU _ _ (setS_asc _) (asc_one x)) (fun z => ?_)
  rw [mem_mrg kU z _ _ (setS_asc _) (asc_one x), inM_U, setS_mem, allJ_snoc, List.mem_append]
  refine or_congr Iff.rfl ?_
  have e : ∀ y : List Int, (x ++ y).take K = x := fun y => by rw [← hx, List.take_left']; rfl
  constructor
  · intro h
    obtain rfl := List.mem_singleton.1 h
    obtain ⟨y, hy⟩ := List.exists_mem_of_ne_nil B hB
    exact List.mem_map.2 ⟨y, hy, e y⟩
  · intro h
    obtain ⟨y, _, rfl⟩ := List.mem_map.1 h
    rw [e y]; simp
theorem take_take1K (K : Nat) (x y : List Int) : (x.take K ++ y).take K = (x ++ y).take K := by
  rw [List.take_append, List.take_append, List.take_take, Nat.min_self]
  by_cases e : x.length ≤ K
  · rw [List.length_take, Nat.min_eq_right e]
  · rw [List.length_take, Nat.min_eq_left (by omega), Nat.sub_self, show K - x.length = 0 by omega]
theorem take_take2K (K : Nat) (x y : List Int) : (x ++ y.take K).take K = (x ++ y).take K := by
  rw [List.take_append, List.take_append, List.take_take, Nat.min_eq_left (by omega)]
theorem sum_cutK {A B : List (List Int)} (ha : Asc A) (hb : Asc B) (K : Nat) : sumS K A B (K + 1) = sumS K (cutS K A) (cutS K B) (K + 1) := by
  refine asc_ext (sumS_asc K ha hb _) (sumS_asc K (cutS_asc K ha) (cutS_asc K hb) _) (fun z => ?_)
  rw [sum_mem K ha hb, sum_mem K (cutS_asc K ha) (cutS_asc K hb)]
  constructor
  · rintro ⟨x, hx, y, hy, e⟩
    exact ⟨x.take K, (cutS_mem K A _).2 ⟨x, hx, rfl⟩, y.take K, (cutS_mem K B _).2 ⟨y, hy, rfl⟩, by rw [take_take2K, take_take1K]; exact e⟩
  · rintro ⟨x', hx, y', hy, e⟩
    obtain ⟨x, hx2, rfl⟩ := (cutS_mem K A _).1 hx
    obtain ⟨y, hy2, rfl⟩ := (cutS_mem K B _).1 hy
    exact ⟨x, hx2, y, hy2, by rw [← e, take_take2K, take_take1K]⟩
/-- the whole -/
theorem allJ_sum {K : Nat} {A B : List (List Int)} (ha : Asc A) (hb : Asc B) : setS (allJ K (cutS K A) (cutS K B)) = sumS K A B (K + 1) := by
  rw [sum_cutK ha hb K, sumS_set K (cutS_asc K ha) (cutS_asc K hb)]
  rfl
end Go.Proofs.Ytdahaajfkjmflaa.s14

namespace Go.Proofs.Ytdahaajfkjmflaa.kit
set_option linter.unusedVariables false
set_option linter.unusedSimpArgs false
set_option linter.unnecessarySimpa false
open Go Go.RowKit
section
variable {P : Program} {l : List Oper}
def doneTo (nh n : Nat) : Array Bool := ((List.range n).map fun i => decide (i < nh)).toArray
theorem count_all_false : ∀ (l : List Bool), (∀ x ∈ l, x = false) → l.count false = l.length
  | [], _ => rfl
  | x :: l, h => by
    have hx := h x (by simp)
    subst hx
    rw [List.count_cons, count_all_false l fun y hy => h y (by simp [hy])]; simp
theorem heads_left {listed : Array Bool} {nh : Nat} (hn : nh ≤ listed.size) (ht : ∀ t, nh ≤ t → t < listed.size → listed.getD t true = false) : left listed = (listed.toList.take nh).count false + (listed.size - nh) := by
  unfold left
  conv => lhs; rw [← List.take_append_drop nh listed.toList]
  rw [List.count_append, count_all_false (listed.toList.drop nh)]
  · simp
  · intro x hx
    obtain ⟨i, hi, rfl⟩ := List.mem_iff_getElem.1 hx
    have hi2 : nh + i < listed.size := by simp at hi; omega
    have := ht (nh + i) (by omega) hi2
    rw [List.getElem_drop]
    simpa [hi2] using this
theorem heads_done {listed : Array Bool} {nh : Nat} (hn : nh ≤ listed.size) (ht : ∀ t, nh ≤ t → t < listed.size → listed.getD t true = false) (h : left listed = listed.size - nh) (j : Nat) (hj : j < nh) : listed.getD j false = true := by
  rw [heads_left hn ht] at h
  have h0 : (listed.toList.take nh).count false = 0 := by omega
  rw [List.count_eq_zero] at h0
  have hjs : j < listed.size := by omega
  cases e : listed[j] with
  | true => simp [hjs, e]
  | false =>
    exfalso
    refine h0 (List.mem_iff_getElem.2 ⟨j, by simp; omega, ?_⟩)
    rw [List.getElem_take]; simpa using e
theorem heads_some {listed : Array Bool} {nh : Nat} (hn : nh ≤ listed.size) (ht : ∀ t, nh ≤ t → t < listed.size → listed.getD t true = false) (h : listed.size - nh < left listed) : ∃ j, j < nh ∧ listed.getD j true = false := by
  rw [heads_left hn ht] at h
  have h0 : 0 < (listed.toList.take nh).count false := by omega
  obtain ⟨j, hj, e⟩ := List.mem_iff_getElem.1 (List.count_pos_iff.1 h0)
  have hjn : j < nh ∧ j < listed.size := by simp at hj; omega
  rw [List.getElem_take] at e
  exact ⟨j, hjn.1, by simp [hjn.2]; simpa using e⟩
theorem listed_done {listed : Array Bool} {nh : Nat} (ht : ∀ t, nh ≤ t → t < listed.size → listed.getD t true = false) (hd : ∀ j, j < nh → listed.getD j false = true) : listed = doneTo nh listed.size := by
  refine Array.ext (by simp [doneTo]) fun i h1 h2 => ?_
  simp only [doneTo, List.getElem_toArray, List.getElem_map, List.getElem_range]
  by_cases h : i < nh
  · rw [decide_eq_true h]
    have := hd i h
    simpa [h1] using this
  · rw [decide_eq_false h]
    have := ht i (by omega) h1
    simpa [h1] using this
theorem wpAny_of_specs_tail {S : List Sp} {a : Act} {w0 : World} {Q : Exit → Act → World → Prop} (nh : Nat) (hK : ∀ s ∈ S, s.Keeps) (hF : Fit l a.tmps.size) (hS : stepsOk P (l.take nh) S a w0 (l.take nh) S) (hgd : ((l.take nh).all fun o => o.guard.isNone) = true)
    (hs : Region.sinkB .any l.toArray nh = true) (hc : Region.chainB .any l.toArray nh = true) (hn : nh < l.length) (hq : Region.seqB .any l.toArray (l.length - nh) nh (doneTo nh l.length) = true)
    (hQ : ∀ vs w, Below w0.heap.size w0 w → (∀ (i : Nat) (s : Sp), S[i]? = some s → s.Ok (vs i) w) → wpList P l.toArray Q (l.drop nh) (putAll vs 0 (l.take nh) a) w) :
    ∀ (fuel : Nat) (listed : Array Bool) (vs : Nat → Value) (A : Act) (w : World), HeadInv .any l.toArray nh listed → left listed = fuel + (l.length - nh) → In l S a w0 listed vs A w → wpAny P .any l.toArray Q (fuel + (l.length - nh)) listed A w := by
  obtain ⟨hlen, hat⟩ := stepsOk_at hS
  have htl : (l.take nh).length = nh := by simp; omega
  have hdl : (l.drop nh).length = l.length - nh := by simp
  intro fuel
  induction fuel with
  | zero =>
    intro listed vs A w inv hleft hI
    have hsz : listed.size = l.length := by have := inv.size; simpa using this
    have htail : ∀ t, nh ≤ t → t < listed.size → listed.getD t true = false := fun t h1 h2 => inv.tail t h1 (by simp; omega)
    have hall := heads_done (nh := nh) (by omega) htail (by omega)
    have hld : listed = doneTo nh l.length := by rw [← hsz]; exact listed_done htail hall
    have hdone : ∀ i o s, (l.take nh)[i]? = some o → S[i]? = some s → s.Ok (vs i) w ∧ ∀ d, o.dst = some d → A.eval (.tmp d) = vs i := fun i o s ho hs => by
      have hi : i < nh := by have := (List.getElem?_eq_some_iff.1 ho).1; omega
      exact hI.done i o s (by rw [List.getElem?_take_of_lt hi] at ho; exact ho) hs (hall i hi)
    have hlies : ∀ (i : Nat) o, (l.take nh)[i]? = some o → ∀ d, o.dst = some d → d < a.tmps.size := fun i o ho d hd => by
      have hi : i < nh := by have := (List.getElem?_eq_some_iff.1 ho).1; omega
      rw [List.getElem?_take_of_lt hi] at ho
      exact hF.lies i o ho d hd
    have hA : A = putAll vs 0 (l.take nh) a := by
      obtain ⟨s1, s2⟩ := size_putAll vs (l.take nh) 0 a
      refine act_ext (hI.size.trans s1.symm) (hI.defers.trans s2.symm) fun t => ?_
      obtain ⟨e1, e2⟩ := eval_putAll vs t (l.take nh) 0 a hlies
      by_cases hex : ∃ (i : Nat) (o : Oper), (l.take nh)[i]? = some o ∧ o.dst = some t
      · obtain ⟨i, o, ho, hd⟩ := hex
        have hil := (List.getElem?_eq_some_iff.1 ho).1
        have hin : i < nh := by omega
        have hsi : S[i]? = some (S[i]'(by omega)) := List.getElem?_eq_getElem (by omega)
        rw [e2 i o ho hd fun j x hij hx hxd => by
          have hjn : j < nh := by have := (List.getElem?_eq_some_iff.1 hx).1; omega
          rw [List.getElem?_take_of_lt hin] at ho
          rw [List.getElem?_take_of_lt hjn] at hx
          exact hF.once i j o x hij ho hx t hd hxd, (hdone i o _ ho hsi).2 t hd]
        simp
      · rw [e1 fun i o ho hd => hex ⟨i, o, ho, hd⟩]
        refine hI.rest t fun i o ho hl hd => ?_
        by_cases hin : i < nh
        · exact hex ⟨i, o, by rw [List.getElem?_take_of_lt hin]; exact ho, hd⟩
        · have hil := (List.getElem?_eq_some_iff.1 ho).1
          have := htail i (by omega) (by omega)
          simp [show i < listed.size by omega] at this hl
          rw [this] at hl; cases hl
    have := wpAny_of_seq (P := P) (ops := l.toArray) (md := .any) (Q' := Q) (l.drop nh) nh listed A w (fun j => by simp [List.getElem?_drop]) (by rw [hdl, hld]; exact hq) (by
      rw [hA]
      refine hQ vs w hI.below fun i s hs => ?_
      have hil := (List.getElem?_eq_some_iff.1 hs).1
      have hli : (l.take nh)[i]? = some ((l.take nh)[i]'(by omega)) := List.getElem?_eq_getElem (by omega)
      exact (hdone i _ s hli hs).1)
    rw [hdl] at this
    rw [Nat.zero_add]
    exact this
  | succ fuel ih =>
    intro listed vs A w inv hleft hI
    have hsz : listed.size = l.length := by have := inv.size; simpa using this
    have htail : ∀ t, nh ≤ t → t < listed.size → listed.getD t true = false := fun t h1 h2 => inv.tail t h1 (by simp; omega)
    obtain ⟨i0, hi0, hun0⟩ := heads_some (nh := nh) (by omega) htail (by omega)
    rw [show fuel + 1 + (l.length - nh) = (fuel + (l.length - nh)) + 1 by omega]
    refine ⟨fun hnil => ?_, fun j hj => ?_⟩
    · exfalso
      have key : ∀ j, j < nh → listed.getD j false = true := by
        intro j
        induction j using Nat.strongRecOn with
        | _ j ihj =>
          intro hjn
          have hjl : j < l.length := by omega
          have hoj : l[j]? = some l[j] := List.getElem?_eq_getElem hjl
          cases e : listed.getD j false with
          | true => rfl
          | false =>
            have hjs : j < listed.size := by omega
            have hin : j ∈ Region.ready .any l.toArray listed := mem_ready.2 ⟨by simpa [hjs] using e, l[j], by simpa using hoj, fun ed hed hb => by
              have hlt := hF.back j _ hoj ed hed hb
              exact ihj ed.on hlt (by omega)⟩
            rw [hnil] at hin; cases hin
      have h := key i0 hi0
      have hjs : i0 < listed.size := by omega
      simp [hjs] at h hun0; rw [h] at hun0; cases hun0
    · have hjn : j < nh := by
        rcases Nat.lt_or_ge j nh with h | h
        · exact h
        · exact absurd hj (tail_waits hs hc (by simpa using hn) inv _ i0 rfl hi0 hun0 j h)
      obtain ⟨hun, o, ho, _⟩ := mem_ready.1 hj
      have ho' : l[j]? = some o := by simpa using ho
      have ho2 : (l.take nh)[j]? = some o := by rw [List.getElem?_take_of_lt hjn]; exact ho'
      obtain ⟨s, hs', hstep⟩ := hat j o ho2
      have hg0 : o.guard = none := by
        rw [List.all_eq_true] at hgd
        simpa using hgd o (List.mem_of_getElem? ho2)
      have hpre : Pre (l.take nh) S a o A w := by
        have h0 := pre_of hI hj ho'
        refine ⟨fun t ht => hI.rest t fun i oi hi hl => ?_, fun i hi oi s hoi hs => h0.2 i hi oi s ?_ hs⟩
        · have hil := (List.getElem?_eq_some_iff.1 hi).1
          have hin : i < nh := by
            rcases Nat.lt_or_ge i nh with h | h
            · exact h
            · exfalso
              have := htail i h (by omega)
              simp [show i < listed.size by omega] at this hl
              rw [this] at hl; cases hl
          rw [List.all_eq_true] at ht
          simpa using ht oi (List.mem_of_getElem? (show (l.take nh)[i]? = some oi by rw [List.getElem?_take_of_lt hin]; exact hi))
        · have hin : i < nh := by have := (List.getElem?_eq_some_iff.1 hoi).1; omega
          rw [List.getElem?_take_of_lt hin] at hoi
          exact hoi
      have hwt : ∀ y, Region.wanted o y = true := fun y => by simp [Region.wanted, hg0]
      have hst := hstep A w hI.below hpre
      have hgo : ∀ v w', Below w.heap.size w w' → s.Ok v w' → wpAny P .any l.toArray Q (fuel + (l.length - nh)) (listed.setIfInBounds j true) (A.put o.dst v) w' := fun v w' hB hv =>
        ih _ _ _ _ (inv.set hj hjn) (by have := left_set hun; omega) (hI.next hK hF ho' hs' hun hB hv)
      unfold wpOp
      rw [ho]
      simp only
      rcases hst with ⟨hw, h⟩ | ⟨hw, h⟩
      · rw [if_pos (hwt _)]
        exact .inl (wp_of_spec h hgo)
      · rw [hwt] at hw; cases hw
/-- **a region by the specifications of its first operations, and then its tail** -/
theorem wp_region_specs_tail {id : Nat} {Q : Exit → Act → World → Prop} {a : Act} {w : World} (nh : Nat) (S : List Sp) (hm : P.follows .mixedOrders = true) (hB : fitB l a.tmps.size = true)
    (ht : (Region.sinkB .any l.toArray nh && Region.chainB .any l.toArray nh && decide (nh < l.length) && Region.seqB .any l.toArray (l.length - nh) nh (doneTo nh l.length) && (l.take nh).all fun o => o.guard.isNone) = true) (hK : ∀ s ∈ S, s.Keeps)
    (hS : stepsOk P (l.take nh) S a w (l.take nh) S) (hQ : ∀ vs w', Below w.heap.size w w' → (∀ (i : Nat) (s : Sp), S[i]? = some s → s.Ok (vs i) w') → wpList P l.toArray Q (l.drop nh) (putAll vs 0 (l.take nh) a) w') : (Code.region id l.toArray true).wp P Q a w := by
  simp only [Bool.and_eq_true, decide_eq_true_eq] at ht
  obtain ⟨⟨⟨⟨hs, hc⟩, hn⟩, hq⟩, hgd⟩ := ht
  refine wp_region_any hm ?_
  have hb : Below w.heap.size w { w with drawn := w.drawn + 1 } := (Below.refl _ w).drew
  have inv0 : HeadInv .any l.toArray nh (Array.replicate l.toArray.size false) :=
    ⟨by simp, fun j oj _ hl => (by rw [getD_replicate_false] at hl; cases hl), fun t _ ht => getD_in (by simpa using ht) (getD_replicate_false _ _)⟩
  have hl0 : left (Array.replicate l.toArray.size false) = nh + (l.length - nh) := by simp [left]; omega
  have := wpAny_of_specs_tail (P := P) nh hK (fit_of hB) hS hgd hs hc hn hq hQ nh (Array.replicate l.toArray.size false) (fun _ => undef) a { w with drawn := w.drawn + 1 } inv0 hl0 ⟨hb, rfl, rfl, fun i o s ho hs hl => (by rw [getD_replicate_false] at hl; cases hl), fun t _ => rfl⟩
  rw [show nh + (l.length - nh) = l.toArray.size by simp; omega] at this
  exact this
end
end Go.Proofs.Ytdahaajfkjmflaa.kit
