/-
  Layer 14: slices.Compact. Layer 14: union; cut, ofLength of the program. Layer 14: ofLength, pairs of the program. Layer 14: the iterator over the pairs of two lists.
-/
import Derived.Test.YtdahaajfkjmflaaG07
import Derived.Test.YtdahaajfkjmflaaG06
import Derived.Test.YtdahaajfkjmflaaG03
namespace Go.Proofs.Ytdahaajfkjmflaa.s14
set_option linter.unusedVariables false
set_option linter.unusedSimpArgs false
open Go.RowKit
open kit

open s13

theorem at_later {w : World} {b o : Nat} {x0 x1 x2 x3 x4 : Int} (h : At5 w b o (x0, x1, x2, x3, x4)) : (∀ p : Later w, p.W.cell? ⟨b, o, none⟩ = some (.int .i64 x0)) ∧ (∀ p : Later w, p.W.cell? ⟨b, o + 1, none⟩ = some (.int .i64 x1)) ∧ (∀ p : Later w, p.W.cell? ⟨b, o + 2, none⟩ = some (.int .i64 x2)) ∧ (∀ p : Later w, p.W.cell? ⟨b, o + 3, none⟩ = some (.int .i64 x3)) ∧ (∀ p : Later w, p.W.cell? ⟨b, o + 4, none⟩ = some (.int .i64 x4)) := At5.later2 h
theorem getD_eq {l : List V5} {i : Nat} (h : i < l.length) : l[i]?.getD no5 = l[i] := by rw [List.getElem?_eq_getElem h]; rfl
/-- what follows place i of l -/
def tl (l : List V5) (i : Nat) : List V5 := tailV (l[i]?.getD no5) (l.drop (i + 1))
theorem tl_end {l : List V5} {i : Nat} (h : l.length ≤ i + 1) : tl l i = [] := by unfold tl; rw [List.drop_of_length_le h]; rfl
theorem tl_step {l : List V5} {i : Nat} (h : i + 1 < l.length) : tl l i = if l[i]?.getD no5 = l[i + 1]?.getD no5 then tl l (i + 1) else l[i + 1]?.getD no5 :: tl l (i + 1) := by
  unfold tl
  rw [drop_get h]
  show tailV _ (_ :: _) = _
  rw [tailV]
theorem compV_at {l : List V5} (h : 0 < l.length) : compV l = l[0]?.getD no5 :: tl l 0 := by
  cases l with
  | nil => simp at h
  | cons x l => rw [compV_tail]; simp [tl]
theorem take_get {l : List V5} {k : Nat} (h : k < l.length) : l.take (k + 1) = l.take k ++ [l[k]?.getD no5] := by rw [List.take_succ_eq_append_getElem h, getD_eq h]
/-- where a list lies -/
def NewAt (B : Nat) (p : Option Addr) : Prop := ∀ g o, p = some ⟨g, o, none⟩ → B ≤ g
theorem row_new {W : World} {base k c : Nat} {p : Option Addr} {xs : List Value} (h : W.ownsRow base 25 5 (.slice p k c) k xs) : NewAt base p := fun g o e => by
  subst e
  rcases h.2 with ⟨e, _⟩ | ⟨g', cap, cur, e, h1, _⟩
  · cases e
  · cases e; exact h1
/-- the list that is written over: P stands, what is read stands -/
structure RelC (w : World) (base g : Nat) (l : List V5) (i q : Nat) (wr : World) : Prop where
  ex : ∃ m P, m.length = l.length ∧ P.length = q ∧ m.take q = P ∧ (∀ j, i ≤ j → m[j]?.getD no5 = l[j]?.getD no5) ∧ compV l = P ++ tl l i ∧ Row5 wr g m
  hb : Below base w wr
theorem below_put5' {B b : Nat} {w w1 : World} (h : Below B w w1) (hb : B ≤ b) (x0 x1 x2 x3 x4 : Int) (o : Nat) : Below B w (((((w1.setCell ⟨b, o, none⟩ (.int .i64 x0)).setCell ⟨b, o + 1, none⟩ (.int .i64 x1)).setCell ⟨b, o + 2, none⟩ (.int .i64 x2)).setCell ⟨b, o + 3, none⟩ (.int .i64 x3)).setCell ⟨b, o + 4, none⟩ (.int .i64 x4)) :=
  ((((h.setCell (p := ⟨b, o, none⟩) hb _).setCell (p := ⟨b, o + 1, none⟩) hb _).setCell (p := ⟨b, o + 2, none⟩) hb _).setCell (p := ⟨b, o + 3, none⟩) hb _).setCell (p := ⟨b, o + 4, none⟩) hb _
theorem keep_cell {w : World} {g o i : Nat} {vs : List Value} (h : i < o) : (w.setCells g o vs).cell? ⟨g, i, none⟩ = w.cell? ⟨g, i, none⟩ := World.cell?_setCells_out g _ _ _ _ (fun _ _ => Or.inl h)
set_option maxRecDepth 100000 in
set_option maxHeartbeats 1000000 in
theorem compact_short (a : Option Addr) (n c : Nat) (w : World) (hn : n < 2) : Calls Try.prog 79 #[.slice a n c] w fun e w' => e = .returned (.slice a n c) ∧ w = w' := by
  have h1 : (n : Int) < 2 := by omega
  go_enter Try.func79, Try.ntmps79
  go_wp2
  go_ret
  exact ⟨rfl, rfl⟩
set_option maxRecDepth 100000 in
set_option maxHeartbeats 10000000 in
theorem compact_any (base g n c : Nat) (l : List V5) (w : World) (hl : Hid (l.length = n)) (hn : 2 ≤ n) (hm : n ≤ 100000) (hc : n ≤ c) (hg : base ≤ g) (hb : base ≤ w.heap.size) (hrow : Hid (Row5 w g l)) (R : List V5) (N : Nat) (HR : Hid (compV l = R)) (HN : Hid (R.length = N)) :
    Calls Try.prog 79 #[.slice (some ⟨g, 0, none⟩) n c] w fun e w' => ∃ p cp, e = .returned (.slice p N cp) ∧ Reads5 w' p R ∧ Below base w w' ∧ N ≤ cp ∧ NewAt base p := by
  have hn0 : ¬ (n : Int) < 2 := by omega
  have hn1 : decide ((n : Int) < 2) = false := decide_eq_false hn0
  go_enter Try.func79, Try.ntmps79
  go_wp2
  clear hn0 hn1
  go_loopw [3] (fun v wr => ∃ k : Nat, v = .int .i64 k ∧ 1 ≤ k ∧ k ≤ n ∧ Hid (compV l = l.take k ++ tl l (k - 1)) ∧ Hid (Row5 wr g l) ∧ Hid (Below base w wr)) (fun v _ => n - (intOf v).toNat)
  case atStart =>
    refine ⟨1, rfl, Nat.le_refl _, by omega, Lib.hid ?_, hrow, Lib.hid (Below.refl _ _)⟩
    have h0 : 0 < l.length := by rw [hl.out]; omega
    rw [compV_at h0, take_get h0]; rfl
  case round =>
    obtain ⟨k, rfl, hk1, hk, HK, HRow, HB⟩ := hrel
    by_cases hlt : k < n
    · obtain ⟨i, rfl⟩ : ∃ i, k = i + 1 := ⟨k - 1, by omega⟩
      have hil : i + 1 < l.length := by rw [hl.out]; exact hlt
      have hst := tl_step hil
      have hx := (row5_at HRow.out (i + 1) hil).1
      have hy := (row5_at HRow.out i (by omega)).1
      have htk := take_get hil
      have HKo := HK.out
      rw [show i + 1 - 1 = i by omega, hst] at HKo
      have hii : ((i + 1 : Nat) : Int) - 1 = (i : Int) := by omega
      obtain ⟨⟨x0, x1, x2, x3, x4⟩, ex⟩ : ∃ x, l[i + 1]?.getD no5 = x := ⟨_, rfl⟩
      obtain ⟨⟨y0, y1, y2, y3, y4⟩, ey⟩ : ∃ x, l[i]?.getD no5 = x := ⟨_, rfl⟩
      rw [ex] at hx HKo htk
      rw [ey] at hy HKo
      have HEX := Lib.hid ex
      have HEY := Lib.hid ey
      have HTK := Lib.hid htk
      have HIL := Lib.hid hil
      have hin : i < n := by omega
      obtain ⟨z0, z1, z2, z3, z4⟩ := at_later hx
      obtain ⟨e0, e1, e2, e3, e4⟩ := at_later hy
      have zg := guard_look
      clear hst hx hy ex ey htk hil HK
      by_cases hxy : ((y0, y1, y2, y3, y4) : V5) = (x0, x1, x2, x3, x4)
      · rw [if_pos hxy] at HKo
        cases hxy
        have HK2 := Lib.hid HKo
        clear HKo
        have zq := eql_yes x0 x1 x2 x3 x4
        go_wp2
        refine wp_region_later (by kernel_rfl) (by kernel_rfl) ?_
        repeat (go_big_quiet_step (fail))
        refine wpQuiet_nil ?_
        rintro w5 ⟨p5, rfl⟩
        have B5 := Lib.hid (below_on HB.out hb p5.h)
        have R5 := Lib.hid (HRow.out.below p5.h)
        clear z0 z1 z2 z3 z4 e0 e1 e2 e3 e4 zg zq HRow HB
        generalize p5.W = w6 at B5 R5 ⊢
        go_wp2
        have HREL : Hid (RelC w base g l (i + 1) (i + 1) w6) := Lib.hid ⟨⟨l, l.take (i + 1), rfl, by rw [List.length_take]; have := HIL.out; omega, rfl, fun _ _ => rfl, HK2.out, R5.out⟩, B5.out⟩
        clear HEX HTK HEY HK2 R5 B5
        go_loopw [3, 5] (fun v3 v5 wr => ∃ q j : Nat, v3 = .int .i64 q ∧ v5 = .int .i64 ((j : Int) + 1) ∧ i + 1 + (j + 1) ≤ n ∧ q ≤ i + 1 + j ∧ Hid (RelC w base g l (i + 1 + j) q wr)) (fun _ v5 _ => n - (intOf v5).toNat)
        case atStart => exact ⟨i + 1, 0, rfl, rfl, by omega, by omega, HREL⟩
        case round =>
          clear HREL
          obtain ⟨q, j, rfl, rfl, hj, hq, HREL⟩ := hrel
          by_cases hlt2 : i + 1 + (j + 1) < n
          · obtain ⟨m, P, hml, hPl, hmP, hmj, hcomp, hRw⟩ := HREL.out.ex
            have hBr := HREL.out.hb
            have hI : i + 1 + (j + 1) < l.length := by have := hl.out; omega
            have hIm : i + 1 + (j + 1) < m.length := by omega
            have hst := tl_step (l := l) (i := i + 1 + j) hI
            have hx := (row5_at hRw (i + 1 + (j + 1)) hIm).1
            have hy := (row5_at hRw (i + 1 + j) (by omega)).1
            rw [hmj _ (by omega)] at hx hy
            rw [hst] at hcomp
            obtain ⟨⟨x0, x1, x2, x3, x4⟩, ex⟩ : ∃ x, l[i + 1 + (j + 1)]?.getD no5 = x := ⟨_, rfl⟩
            obtain ⟨⟨y0, y1, y2, y3, y4⟩, ey⟩ : ∃ x, l[i + 1 + j]?.getD no5 = x := ⟨_, rfl⟩
            rw [show i + 1 + j + 1 = i + 1 + (j + 1) by omega, ex, ey] at hcomp
            rw [ex] at hx
            rw [ey] at hy
            rw [show (i + 1 + (j + 1)) * 5 = (i + 1) * 5 + (j + 1) * 5 by omega] at hx
            rw [show (i + 1 + j) * 5 = (i + 1) * 5 + j * 5 by omega] at hy
            obtain ⟨z0, z1, z2, z3, z4⟩ := at_later hx
            obtain ⟨e0, e1, e2, e3, e4⟩ := at_later hy
            have zg := guard_look
            have h1 : ((j : Int) + 1) < ((n - (i + 1) : Nat) : Int) := by omega
            have h2 : (j : Int) + 1 - 1 = (j : Int) := by omega
            have h3 : j < n - (i + 1) := by omega
            have h4 : (j + 1) < n - (i + 1) := by omega
            have hqn : q < n := by omega
            have HML := Lib.hid hml
            have HPL := Lib.hid hPl
            have HMP := Lib.hid hmP
            have HMJ := Lib.hid hmj
            have HX := Lib.hid hx
            have hRw := Lib.hid hRw
            clear hst ex ey hml hPl hmP hmj hI hIm hx hy HREL
            by_cases hxy : ((y0, y1, y2, y3, y4) : V5) = (x0, x1, x2, x3, x4)
            · rw [if_pos hxy] at hcomp
              have HCO := Lib.hid hcomp
              cases hxy
              clear hcomp
              have zq := neq_yes x0 x1 x2 x3 x4
              go_wp2
              refine wp_region_later (by kernel_rfl) (by kernel_rfl) ?_
              repeat (go_big_quiet_step (fail))
              refine wpQuiet_nil ?_
              rintro w5 ⟨p5, rfl⟩
              have B5 := Lib.hid (below_on hBr hb p5.h)
              have R5 := Lib.hid (hRw.out.below p5.h)
              have X5 := Lib.hid (HX.out.below p5.h)
              clear z0 z1 z2 z3 z4 e0 e1 e2 e3 e4 zg zq
              generalize p5.W = w7 at B5 R5 X5 ⊢
              go_wp2
              go_roundw
              case rel => exact ⟨q, j + 1, rfl, by go_num, by omega, by omega, Lib.hid ⟨⟨m, P, HML.out, HPL.out, HMP.out, fun t ht => HMJ.out t (by omega), by rw [show i + 1 + (j + 1) = i + 1 + j + 1 by omega]; exact HCO.out, R5.out⟩, B5.out⟩⟩
              case measure => simp [intOf]; omega
            · rw [if_neg hxy] at hcomp
              have HCO := Lib.hid hcomp
              have zq := neq_no x0 x1 x2 x3 x4 y0 y1 y2 y3 y4 (fun e => hxy e.symm)
              clear hcomp hxy
              go_wp2
              refine wp_region_later (by kernel_rfl) (by kernel_rfl) ?_
              repeat (go_big_quiet_step (fail))
              refine wpQuiet_nil ?_
              rintro w5 ⟨p5, rfl⟩
              have B5 := Lib.hid (below_on hBr hb p5.h)
              have R5 := Lib.hid (hRw.out.below p5.h)
              have X5 := Lib.hid (HX.out.below p5.h)
              clear z0 z1 z2 z3 z4 e0 e1 e2 e3 e4 zg zq
              generalize p5.W = w7 at B5 R5 X5 ⊢
              obtain ⟨c0, c1, c2, c3, c4⟩ := X5.out
              obtain ⟨⟨d0, d1, d2, d3, d4⟩, hf⟩ := row5_at R5.out q (by have := HML.out; have := hl.out; omega)
              have f0 := hf 0 (by omega)
              have f1 := hf 1 (by omega)
              have f2 := hf 2 (by omega)
              have f3 := hf 3 (by omega)
              have f4 := hf 4 (by omega)
              rw [Nat.add_zero] at f0
              clear hf
              go_wp2
              have hqm : q < m.length := by have := HML.out; have := hl.out; omega
              go_roundw
              case rel =>
                refine ⟨q + 1, j + 1, by go_num, by go_num, by omega, by omega, Lib.hid ⟨⟨m.set q (x0, x1, x2, x3, x4), P ++ [(x0, x1, x2, x3, x4)], ?_, ?_, ?_, ?_, ?_, ?_⟩, ?_⟩⟩
                · rw [List.length_set]; exact HML.out
                · rw [List.length_append, HPL.out]; rfl
                · rw [List.take_succ_eq_append_getElem (by rw [List.length_set]; exact hqm), List.getElem_set_self, List.take_set_of_le (Nat.le_refl _), HMP.out]
                · intro t ht
                  rw [List.getElem?_set_ne (by omega)]
                  exact HMJ.out t (by omega)
                · rw [show i + 1 + (j + 1) = i + 1 + j + 1 by omega, List.append_assoc]; exact HCO.out
                · exact row5_set R5.out q hqm x0 x1 x2 x3 x4
                · exact below_put5' B5.out hg x0 x1 x2 x3 x4 (q * 5)
              case measure => simp [intOf]; omega
          · obtain ⟨m, P, hml, hPl, hmP, hmj, hcomp, hRw⟩ := HREL.out.ex
            have hBr := HREL.out.hb
            have hjn : i + 1 + (j + 1) = n := by omega
            rw [tl_end (by have := hl.out; omega), List.append_nil] at hcomp
            have hPR : P = R := hcomp.symm.trans HR.out
            subst hPR
            obtain rfl : q = N := hPl.symm.trans HN.out
            have hqn : q < n := by omega
            have hcq : ¬ c = q := by omega
            have h1 : ¬ ((j : Int) + 1) < ((n - (i + 1) : Nat) : Int) := by omega
            have h1d : decide (((j : Int) + 1) < ((n - (i + 1) : Nat) : Int)) = false := decide_eq_false h1
            have hlen := flat5_len m
            have hcl := fun ty => run_clear_looks wr ty g (q * 5) (n - q) (c - q) (by omega) (fun t ht => by rw [(hRw.cell (q * 5 + t) (by have := hl.out; omega)).1]; rfl) (fun t ht => (hRw.cell (q * 5 + t) (by have := hl.out; omega)).2)
            have HM := Lib.hid hml
            have HP := Lib.hid hmP
            have HRW := Lib.hid hRw
            have HBR := Lib.hid hBr
            clear hml hPl hmP hmj hcomp hRw hBr hlen HREL
            go_wp2
            go_ret
            refine ⟨_, _, rfl, ?_, cells_below hg _ _ _ HBR.out, by omega, fun g' o' e => by cases e; exact hg⟩
            intro t ht
            have htq : t < q := by have := HN.out; omega
            have h5 := (row5_at HRW.out t (by have := hl.out; have := HM.out; omega)).1
            have e : (P[t]?.getD no5) = m[t]?.getD no5 := by rw [← HP.out, List.getElem?_take_of_lt htq]
            refine ⟨g, 0, rfl, by rw [cells_size]; exact HRW.out.lt, ?_⟩
            rw [Nat.zero_add, e]
            obtain ⟨c0, c1, c2, c3, c4⟩ := h5
            exact ⟨(keep_cell (by omega)).trans c0, (keep_cell (by omega)).trans c1, (keep_cell (by omega)).trans c2, (keep_cell (by omega)).trans c3, (keep_cell (by omega)).trans c4⟩
      · rw [if_neg hxy] at HKo
        have HK2 := Lib.hid HKo
        clear HKo
        have zq := eql_no x0 x1 x2 x3 x4 y0 y1 y2 y3 y4 (fun e => hxy e.symm)
        clear hxy
        go_wp2
        refine wp_region_later (by kernel_rfl) (by kernel_rfl) ?_
        repeat (go_big_quiet_step (fail))
        refine wpQuiet_nil ?_
        rintro w5 ⟨p5, rfl⟩
        have B5 := Lib.hid (below_on HB.out hb p5.h)
        have R5 := Lib.hid (HRow.out.below p5.h)
        clear z0 z1 z2 z3 z4 e0 e1 e2 e3 e4 zg zq HRow HB
        generalize p5.W = w6 at B5 R5 ⊢
        go_wp2
        go_roundw
        case rel => exact ⟨i + 1 + 1, by go_num, by omega, by omega, Lib.hid (by rw [HTK.out, show i + 1 + 1 - 1 = i + 1 by omega, List.append_assoc]; exact HK2.out), R5, B5⟩
        case measure => simp [intOf]; omega
    · obtain rfl : k = n := by omega
      have hR : l = R := by
        have h := HK.out
        rw [HR.out, tl_end (by rw [hl.out]; omega), List.append_nil, List.take_of_length_le (by rw [hl.out]; omega)] at h
        exact h.symm
      subst hR
      obtain rfl : k = N := hl.out.symm.trans HN.out
      go_wp2
      go_ret
      exact ⟨_, _, rfl, row5_reads HRow.out, HB.out, hc, fun g' o' e => by cases e; exact hg⟩
end Go.Proofs.Ytdahaajfkjmflaa.s14

namespace Go.Proofs.Ytdahaajfkjmflaa.s14
set_option linter.unusedVariables false
set_option linter.unusedSimpArgs false
open Go.RowKit
open kit

open s13

set_option maxRecDepth 100000 in
set_option maxHeartbeats 1000000 in
theorem union_any (a b : Option Addr) (n m ca cb : Nat) (A B : List (List Int)) (w : World) (hn : Hid (A.length = n)) (hm : Hid (B.length = m)) (ha : n ≤ ca) (hb : m ≤ cb) (hsz : n + m ≤ 100000) (hA : Hid (∀ x ∈ A, okL 8 x)) (hB : Hid (∀ x ∈ B, okL 8 x)) (ra : Hid (Reads5 w a (A.map pad5))) (rb : Hid (Reads5 w b (B.map pad5))) (R : List (List Int)) (N : Nat) (HR : Hid (mrg kU A B = R)) (HN : Hid (R.length = N)) :
    Calls Try.prog 52 #[.slice a n ca, .slice b m cb] w fun e w' => ∃ p cp, e = .returned (.slice p N cp) ∧ Reads5 w' p (R.map pad5) ∧ Below w.heap.size w w' ∧ N ≤ cp := by
  go_enter Try.func52, Try.ntmps52
  go_wp2_with (go_at_call 54; refine (mergeU a b n m ca cb A B _ hn hm ha hb hsz hA hB ra rb R N HR HN).mono ?_; rintro e w1 ⟨p, cp, rfl, hR1, hB1, hc1⟩; have HR1 := Lib.hid hR1; have HB1 := Lib.hid hB1; clear hR1 hB1)
  go_ret
  exact ⟨p, cp, rfl, HR1.out, HB1.out, hc1⟩
theorem cutE_ok {x : List Int} (hx : okL 8 x) {K : Nat} (hK : K ≤ 4) {X : V5} (ex : pad5 x = X) : cutE X K = (pad5 (x.take K), 0) := by
  have h1 := pad5_chk (n := X.1) (a := X.2.1) (b := X.2.2.1) (c := X.2.2.2.1) (d := X.2.2.2.2) hx (by omega) (by omega) ex
  unfold cutE
  rw [if_neg (by simpa using h1), if_neg (by omega), ← ex, lst_pad hx.1, Int.toNat_natCast]
theorem take_getL {l : List (List Int)} {k : Nat} (h : k < l.length) : l.take (k + 1) = l.take k ++ [l[k]?.getD []] := by rw [List.take_succ_eq_append_getElem h, List.getElem?_eq_getElem h]; rfl
theorem mem_getL {l : List (List Int)} {k : Nat} (h : k < l.length) : l[k]?.getD [] ∈ l := by rw [List.getElem?_eq_getElem h]; exact List.getElem_mem h
theorem map_getD {L : List (List Int)} {i : Nat} (h : i < L.length) : (L.map pad5)[i]?.getD no5 = pad5 (L[i]?.getD []) := by rw [List.getElem?_map, List.getElem?_eq_getElem h]; rfl
theorem flat_snoc (L : List (List Int)) (x : List Int) {X : V5} (h : pad5 x = X) : flat5 ((L ++ [x]).map pad5) = flat5 (L.map pad5 ++ [X]) := by rw [List.map_append, List.map_singleton, h]
set_option maxRecDepth 100000 in
set_option maxHeartbeats 6000000 in
theorem pcutset_any (a : Option Addr) (n c K : Nat) (L : List (List Int)) (w : World) (hl : Hid (L.length = n)) (hn : n ≤ 60000) (hK : K ≤ 4) (hL : Hid (∀ x ∈ L, okL 8 x)) (hr : Hid (Reads5 w a (L.map pad5))) (R : List (List Int)) (N : Nat) (HR : Hid (cutS K L = R)) (HN : Hid (R.length = N)) :
    Calls Try.prog 60 #[.slice a n c, .int .i64 K] w fun e w' => ∃ p cp, e = .returned (.slice p N cp) ∧ Reads5 w' p (R.map pad5) ∧ Below w.heap.size w w' ∧ N ≤ cp ∧ NewAt w.heap.size p := by
  go_enter Try.func60, Try.ntmps60
  go_wp2
  go_loopw [5, 12] (fun v5 v12 wr => ∃ i : Nat, v12 = .int .i64 i ∧ i ≤ n ∧ Hid (wr.ownsRow w.heap.size 25 5 v5 i (flat5 (((L.take i).map (List.take K)).map pad5))) ∧ Hid (Below w.heap.size w wr)) (fun _ v _ => n - (intOf v).toNat)
  case atStart => exact ⟨0, rfl, by omega, Lib.hid (World.ownsRow_nil _ _ _ _), Lib.hid (Below.refl _ _)⟩
  case round =>
    obtain ⟨i, rfl, hi, HRow, HB⟩ := hrel
    by_cases hlt : i < n
    · have hil : i < L.length := by rw [hl.out]; exact hlt
      obtain ⟨g, o, rfl, hg, hat⟩ := (hr.out.below HB.out) i (by rw [List.length_map]; exact hil)
      rw [map_getD hil] at hat
      have hok := hL.out _ (mem_getL hil)
      have htk := take_getL hil
      generalize L[i]?.getD [] = x at hat hok htk
      obtain ⟨⟨x0, x1, x2, x3, x4⟩, ex⟩ : ∃ y, pad5 x = y := ⟨_, rfl⟩
      rw [ex] at hat
      obtain ⟨c0, c1, c2, c3, c4⟩ := hat
      obtain ⟨⟨y0, y1, y2, y3, y4⟩, ey⟩ : ∃ y, pad5 (x.take K) = y := ⟨_, rfl⟩
      have HE : Hid (cutE (x0, x1, x2, x3, x4) (K : Int) = ((y0, y1, y2, y3, y4), 0)) := Lib.hid (by rw [cutE_ok hok hK ex, ey])
      have HTK := Lib.hid (show ((L.take (i + 1)).map (List.take K)) = (L.take i).map (List.take K) ++ [x.take K] by rw [htk, List.map_append]; rfl)
      have HEY := Lib.hid ey
      have hsz := HB.out.size
      clear hil hok htk ex ey
      go_wp2_with (first
        | (go_at_call 78; refine (pcut_any x0 x1 x2 x3 x4 (K : Int) _ (y0, y1, y2, y3, y4) 0 HE).mono ?_; rintro e w1 ⟨rfl, hB⟩; have B1 := Lib.hid (below_on (HB.out.alloc HB.out.size (.cells #[.int .i64 x0, .int .i64 x1, .int .i64 x2, .int .i64 x3, .int .i64 x4] 25)) (Nat.le_refl _) hB); have R1 := Lib.hid (own5_below HRow.out (made1 hB).2); have S1 := B1.out.size; clear hB)
        | (at_builtin; refine append_in5 rfl (.tmp 22) (.tmp 24) rfl w.heap.size _ i _ rfl ((R1.out.alloc _).alloc _) _ [(y0, y1, y2, y3, y4)] 1 1 rfl rfl (by decide) (reads5_block (new2 w1 (.cells #[.int .i64 y0, .int .i64 y1, .int .i64 y2, .int .i64 y3, .int .i64 y4] 25) 25 #[.int .i64 y0, .int .i64 y1, .int .i64 y2, .int .i64 y3, .int .i64 y4]) rfl) (by omega) (by simp; omega) ?_; intro v3 w3 hv3 hB3; have O3 := Lib.hid hv3; have B3 := Lib.hid (((B1.out.alloc B1.out.size (.cells #[.int .i64 y0, .int .i64 y1, .int .i64 y2, .int .i64 y3, .int .i64 y4] 25)).alloc (by simp; omega) (.cells #[.int .i64 y0, .int .i64 y1, .int .i64 y2, .int .i64 y3, .int .i64 y4] 25)).trans hB3); clear hv3 hB3))
      go_roundw
      case rel => exact ⟨i + 1, by go_num, by omega, Lib.hid (by rw [HTK.out, flat_snoc _ _ HEY.out]; exact O3.out), B3⟩
      case measure => simp [intOf]; omega
    · obtain rfl : i = n := by omega
      have hrow := HRow.out
      rw [List.take_of_length_le (by rw [hl.out]; omega)] at hrow
      have hcomp : compV ((L.map (List.take K)).map pad5) = R.map pad5 := by
        rw [compV_pad _ (fun y hy => by
          obtain ⟨x, hx, rfl⟩ := List.mem_map.1 hy
          have := (hL.out x hx).1
          rw [List.length_take]; omega)]
        show (cutS K L).map pad5 = _
        rw [HR.out]
      have hlen : (L.map (List.take K)).length = i := by rw [List.length_map]; exact hl.out
      obtain ⟨p, cp, rfl, hcp⟩ := row5_shape hrow
      by_cases h2 : i < 2
      · have hRl : R = L.map (List.take K) := by
          rw [← HR.out]
          unfold cutS
          match hh : L.map (List.take K), hlen with
          | [], _ => rfl
          | [x], _ => rfl
          | _ :: _ :: _, h => simp at h; omega
        have hNi : N = i := by rw [← HN.out, hRl, hlen]
        subst hNi
        have HNW := Lib.hid (row_new hrow)
        have HRED := Lib.hid (reads5_of_row (by rw [List.length_map]; exact hlen) hrow)
        have HRL := Lib.hid hRl
        clear hrow hcomp hlen hRl HRow
        go_wp2_with (go_at_call 79; refine (compact_short p _ cp _ h2).mono ?_; rintro e w1 ⟨rfl, rfl⟩)
        go_ret
        exact ⟨p, cp, rfl, by rw [HRL.out]; exact HRED.out, HB.out, hcp, HNW.out⟩
      · obtain ⟨g, cap, e, hcg, hbg, hR5⟩ := row5_of (by rw [List.length_map]; exact hlen) (by omega) hrow
        cases e
        have HC := Lib.hid hcomp
        have HL2 := Lib.hid (show ((L.map (List.take K)).map pad5).length = i by rw [List.length_map]; exact hlen)
        have HR5 := Lib.hid hR5
        have HN2 := Lib.hid (show (R.map pad5).length = N by rw [List.length_map]; exact HN.out)
        have hws := HB.out.size
        clear hrow hcomp hlen HRow hR5
        go_wp2_with (go_at_call 79; refine (compact_any w.heap.size g i cp _ _ HL2 (by omega) (by omega) hcp hbg hws HR5 (R.map pad5) N HC HN2).mono ?_; rintro e w1 ⟨q, cq, rfl, hR1, hB1, hc1, hw1⟩; have HR1 := Lib.hid hR1; have HB1 := Lib.hid (HB.out.trans hB1); have HW1 := Lib.hid hw1; clear hR1 hB1 hw1)
        go_ret
        exact ⟨q, cq, rfl, HR1.out, HB1.out, hc1, HW1.out⟩
end Go.Proofs.Ytdahaajfkjmflaa.s14

namespace Go.Proofs.Ytdahaajfkjmflaa.s14
set_option linter.unusedVariables false
set_option linter.unusedSimpArgs false
open Go.RowKit
open kit

open s13

theorem filt_more {L : List (List Int)} {n i : Nat} (h : i < L.length) : ofLen n (L.take (i + 1)) = ofLen n (L.take i) ++ (if (L[i]?.getD []).length = n then [L[i]?.getD []] else []) := by
  rw [take_getL h]
  unfold ofLen
  rw [List.filter_append]
  congr 1
  by_cases e : (L[i]?.getD []).length = n <;> simp [List.filter, e]
theorem ofLen_len (n : Nat) (L : List (List Int)) : (ofLen n L).length ≤ L.length := List.length_filter_le _ _
theorem pad5_n {x : List Int} {x0 x1 x2 x3 x4 : Int} (h : pad5 x = (x0, x1, x2, x3, x4)) : x0 = (x.length : Int) := by
  have := congrArg Prod.fst h; simpa [pad5] using this.symm
set_option maxRecDepth 100000 in
set_option maxHeartbeats 6000000 in
theorem oflen_any (a : Option Addr) (n c m : Nat) (L : List (List Int)) (w : World) (hl : Hid (L.length = n)) (hn : n ≤ 60000) (hm : m ≤ 4) (hr : Hid (Reads5 w a (L.map pad5))) (R : List (List Int)) (N : Nat) (HR : Hid (ofLen m L = R)) (HN : Hid (R.length = N)) :
    Calls Try.prog 62 #[.slice a n c, .int .i64 m] w fun e w' => ∃ p cp, e = .returned (.slice p N cp) ∧ Reads5 w' p (R.map pad5) ∧ Below w.heap.size w w' ∧ N ≤ cp ∧ NewAt w.heap.size p := by
  go_enter Try.func62, Try.ntmps62
  go_wp2
  go_loopw [5, 10] (fun v5 v12 wr => ∃ i q : Nat, v12 = .int .i64 i ∧ i ≤ n ∧ q ≤ i ∧ Hid ((ofLen m (L.take i)).length = q) ∧ Hid (wr.ownsRow w.heap.size 25 5 v5 q (flat5 ((ofLen m (L.take i)).map pad5))) ∧ Hid (Below w.heap.size w wr)) (fun _ v _ => n - (intOf v).toNat)
  case atStart => exact ⟨0, 0, rfl, by omega, Nat.le_refl _, Lib.hid (by simp [ofLen]), Lib.hid (by simp only [List.take_zero, ofLen, List.filter_nil, List.map_nil]; exact World.ownsRow_nil _ _ _ _), Lib.hid (Below.refl _ _)⟩
  case round =>
    obtain ⟨i, q, rfl, hi, hqi, HQ, HRow, HB⟩ := hrel
    by_cases hlt : i < n
    · have hil : i < L.length := by rw [hl.out]; exact hlt
      obtain ⟨g, o, rfl, hg, hat⟩ := (hr.out.below HB.out) i (by rw [List.length_map]; exact hil)
      rw [map_getD hil] at hat
      have hfm := filt_more (n := m) hil
      generalize L[i]?.getD [] = x at hat hfm
      obtain ⟨⟨x0, x1, x2, x3, x4⟩, ex⟩ : ∃ y, pad5 x = y := ⟨_, rfl⟩
      rw [ex] at hat
      obtain ⟨c0, c1, c2, c3, c4⟩ := hat
      have hx0 := pad5_n ex
      have HEX := Lib.hid ex
      have HX0 := Lib.hid hx0
      have hsz := HB.out.size
      clear hil hx0 ex
      by_cases hxm : x.length = m
      · rw [if_pos hxm] at hfm
        have HFM := Lib.hid hfm
        have h1 : x0 = (m : Int) := by rw [HX0.out, hxm]
        subst h1
        have R1 := Lib.hid (HRow.out.alloc (.cells #[.int .i64 ((m : Int)), .int .i64 x1, .int .i64 x2, .int .i64 x3, .int .i64 x4] 25))
        have B1 := Lib.hid (HB.out.alloc HB.out.size (.cells #[.int .i64 ((m : Int)), .int .i64 x1, .int .i64 x2, .int .i64 x3, .int .i64 x4] 25))
        clear hfm hxm
        go_wp2_with (at_builtin; refine append_in5 rfl (.tmp 18) (.tmp 20) rfl w.heap.size _ q _ rfl (R1.out.alloc _) _ [((m : Int), x1, x2, x3, x4)] 1 1 rfl rfl (by decide) (reads5_block (new2 wr (.cells #[.int .i64 ((m : Int)), .int .i64 x1, .int .i64 x2, .int .i64 x3, .int .i64 x4] 25) 25 #[.int .i64 ((m : Int)), .int .i64 x1, .int .i64 x2, .int .i64 x3, .int .i64 x4]) rfl) (by omega) (by simp; omega) ?_; intro v3 w3 hv3 hB3; have O3 := Lib.hid hv3; have B3 := Lib.hid ((B1.out.alloc B1.out.size (.cells #[.int .i64 ((m : Int)), .int .i64 x1, .int .i64 x2, .int .i64 x3, .int .i64 x4] 25)).trans hB3); clear hv3 hB3)
        go_roundw
        case rel => exact ⟨i + 1, q + 1, by go_num, by omega, by omega, Lib.hid (by rw [HFM.out, List.length_append, HQ.out]; rfl), Lib.hid (by rw [HFM.out, flat_snoc _ _ HEX.out]; exact O3.out), B3⟩
        case measure => simp [intOf]; omega
      · rw [if_neg hxm, List.append_nil] at hfm
        have HFM := Lib.hid hfm
        have h1 : ¬ x0 = (m : Int) := by rw [HX0.out]; omega
        have h2 : decide (x0 = (m : Int)) = false := decide_eq_false h1
        clear hfm hxm
        go_wp2
        go_roundw
        case rel => exact ⟨i + 1, q, by go_num, by omega, by omega, Lib.hid (by rw [HFM.out]; exact HQ.out), Lib.hid (by rw [HFM.out]; exact HRow.out.alloc _), Lib.hid (HB.out.alloc HB.out.size _)⟩
        case measure => simp [intOf]; omega
    · obtain rfl : i = n := by omega
      have hrow := HRow.out
      have hq := HQ.out
      rw [List.take_of_length_le (by rw [hl.out]; omega), HR.out] at hrow hq
      rw [HN.out] at hq
      subst hq
      obtain ⟨p, cp, rfl, hcp⟩ := row5_shape hrow
      have HNW := Lib.hid (row_new hrow)
      have HROW := Lib.hid hrow
      clear hrow HRow
      go_wp2
      go_ret
      exact ⟨p, cp, rfl, reads5_of_row (by rw [List.length_map]; exact HN.out) HROW.out, HB.out, hcp, HNW.out⟩
set_option maxRecDepth 100000 in
set_option maxHeartbeats 1000000 in
theorem pairs_any (w : World) (a b : Option Addr) (n m ca cb : Nat) : Calls Try.prog 61 #[.slice a n ca, .slice b m cb] w fun e w' => e = .returned (.func (.func 80) #[] #[.pointer (some ⟨w.heap.size, 0, none⟩), .pointer (some ⟨w.heap.size + 1, 0, none⟩)]) ∧ w' = (w.alloc (.cells #[.slice a n ca] 22)).alloc (.cells #[.slice b m cb] 22) := by
  go_enter Try.func61, Try.ntmps61
  go_wp2
  go_ret
  exact ⟨rfl, rfl⟩
end Go.Proofs.Ytdahaajfkjmflaa.s14

namespace Go.Proofs.Ytdahaajfkjmflaa.s14
set_option linter.unusedVariables false
set_option linter.unusedSimpArgs false
open Go.RowKit
open kit

open s13

open Go.Shelf
attribute [local go_sem] Oper.semAt_some
theorem anyDepthR {F : Fence} {m k : Nat} {P : Program} {l : Nat} {f : FuncId} {tmps : Array Value} {a b : Code} {W : World} {R : Ending → World → Prop} (hd : F.depth = none) (h : RoundIn F m P l f tmps a b W R) : RoundIn F k P l f tmps a b W R :=
  ⟨h.1, fun c cs _ => h.2 c cs (fun d h => by rw [hd] at h; cases h)⟩
abbrev PL := List Int × List Int
/-- the pairs, in order -/
def pairsL (X Y : List (List Int)) : List PL := X.flatMap fun x => Y.map fun y => (x, y)
def aggL (x : List Int) : Value := .agg #[.int .i64 (pad5 x).1, .int .i64 (pad5 x).2.1, .int .i64 (pad5 x).2.2.1, .int .i64 (pad5 x).2.2.2.1, .int .i64 (pad5 x).2.2.2.2]
theorem aggL_eq {x : List Int} {a b c d e : Int} (h : pad5 x = (a, b, c, d, e)) : aggL x = .agg #[.int .i64 a, .int .i64 b, .int .i64 c, .int .i64 d, .int .i64 e] := by unfold aggL; rw [h]
def encP (x : PL) : Array Value := #[aggL x.1, aggL x.2]
def doneP (X Y : List (List Int)) (i j : Nat) : List PL := pairsL (X.take i) Y ++ (Y.take j).map fun y => (X[i]?.getD [], y)
theorem pairsL_more {X Y : List (List Int)} {i : Nat} (h : i < X.length) : pairsL (X.take (i + 1)) Y = pairsL (X.take i) Y ++ Y.map fun y => (X[i]?.getD [], y) := by
  rw [take_getL h]; unfold pairsL; rw [List.flatMap_append]; simp
theorem doneP_more {X Y : List (List Int)} {i j : Nat} (h : j < Y.length) : doneP X Y i (j + 1) = doneP X Y i j ++ [(X[i]?.getD [], Y[j]?.getD [])] := by
  unfold doneP; rw [take_getL h, List.map_append, List.append_assoc]; rfl
theorem doneP_row {X Y : List (List Int)} {i : Nat} (h : i < X.length) : doneP X Y i Y.length = pairsL (X.take (i + 1)) Y := by
  rw [pairsL_more h]; unfold doneP; rw [List.take_length]
theorem doneP_zero (X Y : List (List Int)) (i : Nat) : doneP X Y i 0 = pairsL (X.take i) Y := by unfold doneP; simp
theorem pairsL_pre {X Y : List (List Int)} (i : Nat) : pairsL (X.take i) Y <+: pairsL X Y := by
  refine ⟨pairsL (X.drop i) Y, ?_⟩
  unfold pairsL
  rw [← List.flatMap_append, List.take_append_drop]
theorem doneP_lt {X Y : List (List Int)} {i j : Nat} (hi : i < X.length) (hj : j < Y.length) : doneP X Y i (j + 1) <+: pairsL X Y := by
  refine List.IsPrefix.trans ?_ (pairsL_pre (X := X) (Y := Y) (i + 1))
  rw [pairsL_more hi]
  unfold doneP
  exact (List.prefix_append_right_inj _).2 ((List.take_prefix _ _).map _)
theorem doneP_len {X Y : List (List Int)} {i j : Nat} (hi : i < X.length) (hj : j < Y.length) : (doneP X Y i j).length < (pairsL X Y).length := by
  have h := (doneP_lt hi hj).length_le
  rw [doneP_more hj, List.length_append] at h
  simp at h; omega
/-- a list that lies in blocks of a set -/
def ReadsZ (Z : Nat → Prop) (W : World) (a : Option Addr) (l : List V5) : Prop := Reads5 W a l ∧ ∀ b o, a = some ⟨b, o, none⟩ → 0 < l.length → Z b
theorem ReadsZ.keep {Z : Nat → Prop} {W W' : World} {a : Option Addr} {l : List V5} (h : ReadsZ Z W a l) (hk : KeepZ Z W W') : ReadsZ Z W' a l := by
  refine ⟨fun i hi => ?_, h.2⟩
  obtain ⟨b, off, e, hb, h5⟩ := h.1 i hi
  have hz := h.2 b off e (by omega)
  have hbl := hk b hz
  have hc : ∀ k, W'.cell? ⟨b, k, none⟩ = W.cell? ⟨b, k, none⟩ := fun k => by unfold World.cell?; rw [hbl]
  refine ⟨b, off, e, ?_, ?_⟩
  · rcases Nat.lt_or_ge b W'.heap.size with h | h
    · exact h
    · rw [Array.getElem?_eq_none h] at hbl
      rw [Array.getElem?_eq_getElem hb] at hbl; cases hbl
  · obtain ⟨c0, c1, c2, c3, c4⟩ := h5
    exact ⟨(hc _).trans c0, (hc _).trans c1, (hc _).trans c2, (hc _).trans c3, (hc _).trans c4⟩
/-- what the iterator's variables hold -/
structure OwnP (Z : Nat → Prop) (W : World) (b1 b2 : Nat) (p q : Option Addr) (n m cp cq : Nat) (X Y : List (List Int)) : Prop where
  x : Box W 22 b1 #[.slice p n cp]
  y : Box W 22 b2 #[.slice q m cq]
  zx : Z b1
  zy : Z b2
  rx : ReadsZ Z W p (X.map pad5)
  ry : ReadsZ Z W q (Y.map pad5)
theorem OwnP.keep {Z : Nat → Prop} {W W' : World} {b1 b2 : Nat} {p q : Option Addr} {n m cp cq : Nat} {X Y : List (List Int)} (h : OwnP Z W b1 b2 p q n m cp cq X Y) (hk : KeepZ Z W W') : OwnP Z W' b1 b2 p q n m cp cq X Y :=
  ⟨(hk _ h.zx).trans h.x, (hk _ h.zy).trans h.y, h.zx, h.zy, h.rx.keep hk, h.ry.keep hk⟩
theorem OwnP.alloc {Z : Nat → Prop} {W : World} {b1 b2 : Nat} {p q : Option Addr} {n m cp cq : Nat} {X Y : List (List Int)} (h : OwnP Z W b1 b2 p q n m cp cq X Y) (o : Obj) : OwnP Z (W.alloc o) b1 b2 p q n m cp cq X Y :=
  ⟨h.x.alloc o, h.y.alloc o, h.zx, h.zy, ⟨h.rx.1.alloc o, h.rx.2⟩, ⟨h.ry.1.alloc o, h.ry.2⟩⟩
set_option maxRecDepth 100000 in
set_option maxHeartbeats 10000000 in
theorem pairs1_any (F : Fence) (n0 : Nat) (h80 : F.fn 80) (hro : F.round = none) (hd : F.depth = none) (X Y : List (List Int)) (n m cp cq : Nat) (hX : Hid (X.length = n)) (hY0 : Hid (Y.length = m)) (hn : n ≤ 60000) (hm : m ≤ 60000) (l b1 b2 : Nat) (p q : Option Addr) (J Jx : List PL → (Nat → Prop) → World → Prop) (Z0 : Nat → Prop) (hJ : AbZ J) (hJx : AbZ Jx) (m0 : Nat)
    (hY : ∀ pre x Z W1, J pre Z W1 → (∀ r, Z0 r → Z r) → pre.length < (pairsL X Y).length → YieldAt F m0 Try.prog l (encP x) W1 fun e W' => (e = .returned (.bool true) ∧ J (pre ++ [x]) Z W' ∧ KeepZ Z W1 W') ∨ (e = .returned (.bool false) ∧ Jx (pre ++ [x]) Z W' ∧ KeepZ Z W1 W'))
    (W : World) (hO : OwnP Z0 W b1 b2 p q n m cp cq X Y) (h0 : J [] Z0 W) :
    CallsIn F n0 Try.prog 80 #[.func (.yield l) #[] #[], .pointer (some ⟨b1, 0, none⟩), .pointer (some ⟨b2, 0, none⟩)] W fun e W' => (∃ v, e = .returned v) ∧
      ((∃ xs, xs = pairsL X Y ∧ J xs Z0 W') ∨ (∃ pre, pre <+: pairsL X Y ∧ Jx pre Z0 W')) := by
  refine callsIn_any (m := 6) hd ?_
  refine callsIn_of_wp_marks Try.func80 rfl h80 ?_ hro
  simp only [Try.ntmps80, List.size_toArray, List.length_cons, List.length_nil, Nat.reduceAdd, Nat.reduceSub, Array.replicate_succ, Array.replicate_zero, List.push_toArray, List.append_toArray, List.nil_append, List.cons_append]
  have c1 := hO.x.cell 0
  simp at c1
  gi_wp2
  clear c1
  gi_loopw [10] (fun v wr => ∃ (i : Nat) (Z : Nat → Prop), v = .int .i64 i ∧ i ≤ n ∧ J (pairsL (X.take i) Y) Z wr ∧ (∀ r, Z0 r → Z r) ∧ OwnP Z0 wr b1 b2 p q n m cp cq X Y) (fun v _ => n - (intOf v).toNat)
  case atStart => exact ⟨0, Z0, rfl, by omega, by simpa [pairsL] using h0, fun r hr => hr, hO⟩
  case round =>
    clear h0 hO
    obtain ⟨i, Z, rfl, hi, hJi, hz, hOi⟩ := hrel
    by_cases hlt : i < n
    · have hil : i < X.length := by rw [hX.out]; exact hlt
      obtain ⟨g, o, rfl, hg, hat⟩ := hOi.rx.1 i (by rw [List.length_map]; exact hil)
      rw [map_getD hil] at hat
      obtain ⟨x, hx⟩ : ∃ x, X[i]?.getD [] = x := ⟨_, rfl⟩
      rw [hx] at hat
      have HXI := Lib.hid hx
      clear hx
      obtain ⟨⟨x0, x1, x2, x3, x4⟩, ex⟩ : ∃ y, pad5 x = y := ⟨_, rfl⟩
      rw [ex] at hat
      obtain ⟨c0, c1, c2, c3, c4⟩ := hat
      have HEX := Lib.hid ex
      clear ex
      have cy := hOi.y.cell 0
      simp at cy
      have hO2 := Lib.hid (hOi.alloc (.cells #[.int .i64 x0, .int .i64 x1, .int .i64 x2, .int .i64 x3, .int .i64 x4] 25))
      have hJ2 := Lib.hid (hJ.claim _ _ _ (.cells #[.int .i64 x0, .int .i64 x1, .int .i64 x2, .int .i64 x3, .int .i64 x4] 25) hJi)
      have hB2 := Lib.hid (Box.new wr 25 #[.int .i64 x0, .int .i64 x1, .int .i64 x2, .int .i64 x3, .int .i64 x4])
      have hly := hOi.y.lt
      have HIL := Lib.hid hil
      clear hil hJi hOi
      gi_wp2
      clear c0 c1 c2 c3 c4 cy
      generalize wr.heap.size = gx at hB2 hJ2 ⊢
      gi_loopw [16] (fun v wi => ∃ (j : Nat) (Zi : Nat → Prop), v = .int .i64 j ∧ j ≤ m ∧ J (doneP X Y i j) Zi wi ∧ (∀ r, Z0 r ∨ r = gx → Zi r) ∧ Box wi 25 gx #[.int .i64 x0, .int .i64 x1, .int .i64 x2, .int .i64 x3, .int .i64 x4] ∧ OwnP Z0 wi b1 b2 (some ⟨g, o, none⟩) q n m cp cq X Y) (fun v _ => m - (intOf v).toNat)
      case atStart => exact ⟨0, (fun r => Z r ∨ r = gx), rfl, by omega, by rw [doneP_zero]; exact hJ2.out, fun r hr => hr.elim (fun h => .inl (hz r h)) (fun h => .inr h), hB2.out, hO2.out⟩
      case round =>
        clear hJ2 hB2 hO2
        obtain ⟨j, Zi, rfl, hj, hJj, hzi, hBx, hOj⟩ := hrel
        by_cases hltj : j < m
        · have hjl : j < Y.length := by rw [hY0.out]; exact hltj
          obtain ⟨gy, oy, rfl, hgy, hat⟩ := hOj.ry.1 j (by rw [List.length_map]; exact hjl)
          rw [map_getD hjl] at hat
          have hdm := doneP_more (X := X) (i := i) hjl
          have hlen := doneP_len HIL.out hjl
          have hpre := doneP_lt HIL.out hjl
          rw [HXI.out] at hdm
          generalize Y[j]?.getD [] = y at hat hdm
          obtain ⟨⟨y0, y1, y2, y3, y4⟩, ey⟩ : ∃ z, pad5 y = z := ⟨_, rfl⟩
          rw [ey] at hat
          obtain ⟨c0, c1, c2, c3, c4⟩ := hat
          obtain ⟨fn, tmps, assign, body, hy, hR⟩ := hY (doneP X Y i j) (x, y) Zi _ (hJ.alloc (.cells #[.int .i64 y0, .int .i64 y1, .int .i64 y2, .int .i64 y3, .int .i64 y4] 25) hJj) (fun r hr => hzi r (.inl hr)) hlen
          have he : encP (x, y) = #[.agg #[.int .i64 x0, .int .i64 x1, .int .i64 x2, .int .i64 x3, .int .i64 x4], .agg #[.int .i64 y0, .int .i64 y1, .int .i64 y2, .int .i64 y3, .int .i64 y4]] := by unfold encP; rw [aggL_eq HEX.out, aggL_eq ey]
          rw [he] at hy
          obtain ⟨d0, d1, d2, d3, d4⟩ := hBx.cell5
          have hgx := hBx.lt
          have hO3 := Lib.hid (hOj.alloc (.cells #[.int .i64 y0, .int .i64 y1, .int .i64 y2, .int .i64 y3, .int .i64 y4] 25))
          have hB3 := Lib.hid (hBx.alloc (.cells #[.int .i64 y0, .int .i64 y1, .int .i64 y2, .int .i64 y3, .int .i64 y4] 25))
          have HDM := Lib.hid hdm
          have HPRE := Lib.hid hpre
          clear hdm hlen hpre ey he hOj hBx hjl
          gi_wp2
          refine RoundIn.mono (anyDepthR hd hR) ?_
          clear hR hy c0 c1 c2 c3 c4 d0 d1 d2 d3 d4
          rintro e W3 (⟨rfl, hJ3, hk3⟩ | ⟨rfl, hJx3, hk3⟩)
          · gi_wp2
            go_roundw
            case rel => exact ⟨j + 1, Zi, by go_num, by omega, by rw [HDM.out]; exact hJ3, hzi, (hk3 gx (hzi gx (.inr rfl))).trans hB3.out, hO3.out.keep (fun r hr => hk3 r (hzi r (.inl hr)))⟩
            case measure => simp [intOf]; omega
          · gi_wp2
            refine leaves_marksG (G := fun w => Jx (doneP X Y i j ++ [(x, y)]) Zi w) (fun w => results_none rfl _ _ _) (fun w hw => ⟨⟨_, rfl⟩, .inr ⟨_, by rw [← HDM.out]; exact HPRE.out, hJx.less _ _ _ _ hw (fun r hr => hzi r (.inl hr))⟩⟩) [] W3 List.nodup_nil (by simp) (by simp) hJx3
        · obtain rfl : j = m := by omega
          gi_wp2
          go_roundw
          case rel => exact ⟨i + 1, Zi, by go_num, by omega, by rw [← doneP_row HIL.out, hY0.out]; exact hJj, fun r hr => hzi r (.inl hr), hOj⟩
          case measure => simp [intOf]; omega
    · obtain rfl : i = n := by omega
      rw [List.take_of_length_le (by rw [hX.out]; omega)] at hJi
      gi_wp2
      refine leaves_marksG (G := fun w => J (pairsL X Y) Z w) (fun w => results_none rfl _ _ _) (fun w hw => ⟨⟨_, rfl⟩, .inl ⟨_, rfl, hJ.less _ _ _ _ hw hz⟩⟩) [] wr List.nodup_nil (by simp) (by simp) hJi
end Go.Proofs.Ytdahaajfkjmflaa.s14
