/-
  Layer 14: a list in memory that is written over; slices.Compact. Layer 14: slices.Compact. Layer 14: merging two lists, union.
-/
import Derived.Test.YtdahaajfkjmflaaG06
import Derived.BigRegion
namespace Go.Proofs.Ytdahaajfkjmflaa.s14
set_option linter.unusedVariables false
set_option linter.unusedSimpArgs false
open Go.RowKit
open kit

open s13

/-- equal ones side by side count once -/
def compV : List V5 → List V5
  | [] => []
  | [x] => [x]
  | x :: y :: l => if x = y then compV (y :: l) else x :: compV (y :: l)
/-- what follows the string x in it -/
def tailV : V5 → List V5 → List V5
  | _, [] => []
  | x, y :: l => if x = y then tailV y l else y :: tailV y l
theorem compV_tail (l : List V5) : ∀ x, compV (x :: l) = x :: tailV x l := by
  induction l with
  | nil => intro x; rfl
  | cons y l ih =>
    intro x
    unfold compV tailV
    by_cases e : x = y
    · rw [if_pos e, if_pos e, ih y, e]
    · rw [if_neg e, if_neg e, ih y]
theorem pad5_eq {x y : List Int} (hx : x.length ≤ 4) : pad5 x = pad5 y ↔ x = y := ⟨fun h => pad5_inj hx h, fun h => by rw [h]⟩
theorem compV_pad : ∀ (L : List (List Int)), (∀ x ∈ L, x.length ≤ 4) → compV (L.map pad5) = (compL L).map pad5
  | [], _ => rfl
  | [x], _ => rfl
  | x :: y :: l, h => by
    have ih := compV_pad (y :: l) (fun z hz => h z (List.mem_cons_of_mem _ hz))
    rw [List.map_cons, List.map_cons] at *
    unfold compV compL
    by_cases e : x = y
    · rw [if_pos e, if_pos (by rw [e]), ih]
    · rw [if_neg e, if_neg (fun k => e (pad5_inj (h x (List.mem_cons_self ..)) k)), ih]; rfl
theorem tailV_len (l : List V5) : ∀ x, (tailV x l).length ≤ l.length := by
  induction l with
  | nil => intro x; simp [tailV]
  | cons y l ih => intro x; unfold tailV; have := ih y; split <;> simp <;> omega
theorem compV_len (l : List V5) : (compV l).length ≤ l.length := by
  cases l with
  | nil => simp [compV]
  | cons x l => rw [compV_tail]; have := tailV_len l x; simp; omega
/-- block g holds m at its beginning -/
abbrev Row5 (w : World) (g : Nat) (m : List V5) : Prop := Arr id undef 25 w g (flat5 m)
theorem row5_at {w : World} {g : Nat} {m : List V5} (h : Row5 w g m) (i : Nat) (hi : i < m.length) : At5 w g (i * 5) (m[i]?.getD no5) ∧ ∀ j, j < 5 → w.frozen? ⟨g, i * 5 + j, none⟩ = false := by
  have c : ∀ j, j < 5 → w.cell? ⟨g, i * 5 + j, none⟩ = (cells5 (m[i]?.getD no5))[j]? ∧ w.frozen? ⟨g, i * 5 + j, none⟩ = false := fun j hj => by
    obtain ⟨h1, h2⟩ := h.cell (i * 5 + j) (by rw [flat5_len]; omega)
    refine ⟨?_, h2⟩
    rw [h1, flat5_at m i hi j hj]
    have : j < (cells5 (m[i]?.getD no5)).length := hj
    rw [List.getElem?_eq_getElem this]; rfl
  exact ⟨⟨(c 0 (by omega)).1, (c 1 (by omega)).1, (c 2 (by omega)).1, (c 3 (by omega)).1, (c 4 (by omega)).1⟩, fun j hj => (c j hj).2⟩
theorem flat5_set (x : V5) : ∀ (m : List V5) (i : Nat), i < m.length → flat5 (m.set i x) = (((((flat5 m).set (i * 5) (.int .i64 x.1)).set (i * 5 + 1) (.int .i64 x.2.1)).set (i * 5 + 2) (.int .i64 x.2.2.1)).set (i * 5 + 3) (.int .i64 x.2.2.2.1)).set (i * 5 + 4) (.int .i64 x.2.2.2.2)
  | y :: m, 0, _ => by simp [flat5, cells5, List.flatMap_cons]
  | y :: m, i + 1, h => by
    have ih := flat5_set x m i (by simpa using h)
    unfold flat5 at *
    rw [List.set_cons_succ, List.flatMap_cons, List.flatMap_cons, ih]
    simp only [cells5, List.cons_append, List.nil_append]
    rw [show (i + 1) * 5 = i * 5 + 1 + 1 + 1 + 1 + 1 by omega]
    simp only [List.set_cons_succ, Nat.add_assoc, Nat.reduceAdd]
theorem row5_set {w : World} {g : Nat} {m : List V5} (h : Row5 w g m) (i : Nat) (hi : i < m.length) (x0 x1 x2 x3 x4 : Int) :
    Row5 (((((w.setCell ⟨g, i * 5, none⟩ (.int .i64 x0)).setCell ⟨g, i * 5 + 1, none⟩ (.int .i64 x1)).setCell ⟨g, i * 5 + 2, none⟩ (.int .i64 x2)).setCell ⟨g, i * 5 + 3, none⟩ (.int .i64 x3)).setCell ⟨g, i * 5 + 4, none⟩ (.int .i64 x4)) g (m.set i (x0, x1, x2, x3, x4)) := by
  have hl := flat5_len m
  unfold Row5
  rw [flat5_set _ m i hi]
  exact ((((h.set (i * 5) (by omega) (.int .i64 x0)).set (i * 5 + 1) (by simp; omega) (.int .i64 x1)).set (i * 5 + 2) (by simp; omega) (.int .i64 x2)).set (i * 5 + 3) (by simp; omega) (.int .i64 x3)).set (i * 5 + 4) (by simp; omega) (.int .i64 x4)
theorem row5_reads {w : World} {g : Nat} {m : List V5} (h : Row5 w g m) : Reads5 w (some ⟨g, 0, none⟩) m := fun i hi => ⟨g, 0, rfl, h.lt, by rw [Nat.zero_add]; exact (row5_at h i hi).1⟩
theorem row5_of {w : World} {base n : Nat} {v : Value} {l : List V5} (hn : l.length = n) (hpos : 0 < n) (h : w.ownsRow base 25 5 v n (flat5 l)) : ∃ g cap, v = .slice (some ⟨g, 0, none⟩) n cap ∧ n ≤ cap ∧ base ≤ g ∧ Row5 w g l := by
  rcases h.2 with ⟨_, h0⟩ | ⟨g, cap, cur, rfl, hb, hk, h1, h2, h3, h4⟩
  · omega
  · refine ⟨g, cap, rfl, h1, hb, cur, hk, by rw [flat5_len]; omega, fun i hi => ?_⟩
    have hi2 := hi
    rw [flat5_len] at hi2
    have : (cur.toList.take (n * 5))[i]? = (flat5 l)[i]? := by rw [h4]
    rw [List.getElem?_take, if_pos (by omega)] at this
    rw [List.getElem?_eq_getElem hi] at this ⊢
    simpa using this
theorem zero_look (w : World) : (zeroValue 25).run Try.prog w = .ok (.agg #[.int .i64 0, .int .i64 0, .int .i64 0, .int .i64 0, .int .i64 0]) w := by kernel_rfl
/-- clear(s), s a slice of n > 0 looks -/
theorem run_clear_looks (w : World) (ty : TypeId) (b o n c : Nat) (hn : 0 < n) (hc : ∀ j, j < n * 5 → (w.cell? ⟨b, o + j, none⟩).isSome = true) (hf : ∀ j, j < n * 5 → w.frozen? ⟨b, o + j, none⟩ = false) :
    (Builtin.clear_ #[22] ty #[.slice (some ⟨b, o, none⟩) n c]).run Try.prog w = .ok (.tuple #[]) (w.setCells b o (List.replicate (n * 5) (.int .i64 0))) := by
  have hzc : (Builtin.zeroCells (.agg #[.int .i64 0, .int .i64 0, .int .i64 0, .int .i64 0, .int .i64 0] : Value).cells n).toList = List.replicate (n * 5) (.int .i64 0) := by
    show (Builtin.zeroCells #[.int .i64 0, .int .i64 0, .int .i64 0, .int .i64 0, .int .i64 0] n).toList = _
    simp only [Builtin.zeroCells, Array.toList_map, Array.toList_range]
    apply List.ext_getElem
    · simp
    · intro i h1 h2
      have h5 : i % 5 < 5 := Nat.mod_lt _ (by omega)
      have hm : i % 5 = 0 ∨ i % 5 = 1 ∨ i % 5 = 2 ∨ i % 5 = 3 ∨ i % 5 = 4 := by omega
      simp only [List.getElem_map, List.getElem_range, List.getElem_replicate]
      show (#[.int .i64 0, .int .i64 0, .int .i64 0, .int .i64 0, .int .i64 0] : Array Value)[i % 5]! = _
      rcases hm with e | e | e | e | e <;> rw [e] <;> rfl
  have hst := run_storeCells_cells (P := Try.prog) b o (List.replicate (n * 5) (.int .i64 0)) 0 w (by simpa using hc) (by simpa using hf) (by intro v hv'; rw [List.eq_of_mem_replicate hv']; rfl)
  simp only [Nat.add_zero] at hst
  obtain ⟨m, rfl⟩ : ∃ m, n = m + 1 := ⟨n - 1, by omega⟩
  simp [Builtin.clear_, run_underlying Try.underlying22, zero_look, hzc, hst]
end Go.Proofs.Ytdahaajfkjmflaa.s14

namespace Go.Proofs.Ytdahaajfkjmflaa.s14
set_option linter.unusedVariables false
set_option linter.unusedSimpArgs false
open Go.RowKit
open kit

open s13

theorem at_later {w : World} {b o : Nat} {x0 x1 x2 x3 x4 : Int} (h : At5 w b o (x0, x1, x2, x3, x4)) : (∀ p : Later w, p.W.cell? ⟨b, o, none⟩ = some (.int .i64 x0)) ∧ (∀ p : Later w, p.W.cell? ⟨b, o + 1, none⟩ = some (.int .i64 x1)) ∧ (∀ p : Later w, p.W.cell? ⟨b, o + 2, none⟩ = some (.int .i64 x2)) ∧ (∀ p : Later w, p.W.cell? ⟨b, o + 3, none⟩ = some (.int .i64 x3)) ∧ (∀ p : Later w, p.W.cell? ⟨b, o + 4, none⟩ = some (.int .i64 x4)) := At5.later2 h
theorem getD_eq {l : List V5} {i : Nat} (h : i < l.length) : l[i]?.getD no5 = l[i] := by rw [List.getElem?_eq_getElem h]; rfl
/-- what follows place i of l -/
def tl (l : List V5) (i : Nat) : List V5 := tailV (l[i]?.getD no5) (l.drop (i + 1))
theorem tl_end {l : List V5} {i : Nat} (h : l.length ≤ i + 1) : tl l i = [] := by unfold tl; rw [List.drop_of_length_le h]; rfl
theorem tl_step {l : List V5} {i : Nat} (h : i + 1 < l.length) : tl l i = if l[i]?.getD no5 = l[i + 1]?.getD no5 then tl l (i + 1) else l[i + 1]?.getD no5 :: tl l (i + 1) := by
  unfold tl
  rw [drop_get h]
  show tailV _ (_ :: _) = _
  rw [tailV]
theorem compV_at {l : List V5} (h : 0 < l.length) : compV l = l[0]?.getD no5 :: tl l 0 := by
  cases l with
  | nil => simp at h
  | cons x l => rw [compV_tail]; simp [tl]
theorem take_get {l : List V5} {k : Nat} (h : k < l.length) : l.take (k + 1) = l.take k ++ [l[k]?.getD no5] := by rw [List.take_succ_eq_append_getElem h, getD_eq h]
/-- where a list lies -/
def NewAt (B : Nat) (p : Option Addr) : Prop := ∀ g o, p = some ⟨g, o, none⟩ → B ≤ g
theorem row_new {W : World} {base k c : Nat} {p : Option Addr} {xs : List Value} (h : W.ownsRow base 25 5 (.slice p k c) k xs) : NewAt base p := fun g o e => by
  subst e
  rcases h.2 with ⟨e, _⟩ | ⟨g', cap, cur, e, h1, _⟩
  · cases e
  · cases e; exact h1
/-- the list that is written over: P stands, what is read stands -/
structure RelC (w : World) (base g : Nat) (l : List V5) (i q : Nat) (wr : World) : Prop where
  ex : ∃ m P, m.length = l.length ∧ P.length = q ∧ m.take q = P ∧ (∀ j, i ≤ j → m[j]?.getD no5 = l[j]?.getD no5) ∧ compV l = P ++ tl l i ∧ Row5 wr g m
  hb : Below base w wr
theorem below_put5' {B b : Nat} {w w1 : World} (h : Below B w w1) (hb : B ≤ b) (x0 x1 x2 x3 x4 : Int) (o : Nat) : Below B w (((((w1.setCell ⟨b, o, none⟩ (.int .i64 x0)).setCell ⟨b, o + 1, none⟩ (.int .i64 x1)).setCell ⟨b, o + 2, none⟩ (.int .i64 x2)).setCell ⟨b, o + 3, none⟩ (.int .i64 x3)).setCell ⟨b, o + 4, none⟩ (.int .i64 x4)) :=
  ((((h.setCell (p := ⟨b, o, none⟩) hb _).setCell (p := ⟨b, o + 1, none⟩) hb _).setCell (p := ⟨b, o + 2, none⟩) hb _).setCell (p := ⟨b, o + 3, none⟩) hb _).setCell (p := ⟨b, o + 4, none⟩) hb _
theorem keep_cell {w : World} {g o i : Nat} {vs : List Value} (h : i < o) : (w.setCells g o vs).cell? ⟨g, i, none⟩ = w.cell? ⟨g, i, none⟩ := World.cell?_setCells_out g _ _ _ _ (fun _ _ => Or.inl h)
set_option maxRecDepth 100000 in
set_option maxHeartbeats 1000000 in
theorem compact_short (a : Option Addr) (n c : Nat) (w : World) (hn : n < 2) : Calls Try.prog 79 #[.slice a n c] w fun e w' => e = .returned (.slice a n c) ∧ w = w' := by
  have h1 : (n : Int) < 2 := by omega
  go_enter Try.func79, Try.ntmps79
  go_wp2
  go_ret
  exact ⟨rfl, rfl⟩
set_option maxRecDepth 100000 in
set_option maxHeartbeats 10000000 in
theorem compact_any (base g n c : Nat) (l : List V5) (w : World) (hl : Hid (l.length = n)) (hn : 2 ≤ n) (hm : n ≤ 100000) (hc : n ≤ c) (hg : base ≤ g) (hb : base ≤ w.heap.size) (hrow : Hid (Row5 w g l)) (R : List V5) (N : Nat) (HR : Hid (compV l = R)) (HN : Hid (R.length = N)) :
    Calls Try.prog 79 #[.slice (some ⟨g, 0, none⟩) n c] w fun e w' => ∃ p cp, e = .returned (.slice p N cp) ∧ Reads5 w' p R ∧ Below base w w' ∧ N ≤ cp ∧ NewAt base p := by
  have hn0 : ¬ (n : Int) < 2 := by omega
  have hn1 : decide ((n : Int) < 2) = false := decide_eq_false hn0
  go_enter Try.func79, Try.ntmps79
  go_wp2
  clear hn0 hn1
  go_loopw [3] (fun v wr => ∃ k : Nat, v = .int .i64 k ∧ 1 ≤ k ∧ k ≤ n ∧ Hid (compV l = l.take k ++ tl l (k - 1)) ∧ Hid (Row5 wr g l) ∧ Hid (Below base w wr)) (fun v _ => n - (intOf v).toNat)
  case atStart =>
    refine ⟨1, rfl, Nat.le_refl _, by omega, Lib.hid ?_, hrow, Lib.hid (Below.refl _ _)⟩
    have h0 : 0 < l.length := by rw [hl.out]; omega
    rw [compV_at h0, take_get h0]; rfl
  case round =>
    obtain ⟨k, rfl, hk1, hk, HK, HRow, HB⟩ := hrel
    by_cases hlt : k < n
    · obtain ⟨i, rfl⟩ : ∃ i, k = i + 1 := ⟨k - 1, by omega⟩
      have hil : i + 1 < l.length := by rw [hl.out]; exact hlt
      have hst := tl_step hil
      have hx := (row5_at HRow.out (i + 1) hil).1
      have hy := (row5_at HRow.out i (by omega)).1
      have htk := take_get hil
      have HKo := HK.out
      rw [show i + 1 - 1 = i by omega, hst] at HKo
      have hii : ((i + 1 : Nat) : Int) - 1 = (i : Int) := by omega
      obtain ⟨⟨x0, x1, x2, x3, x4⟩, ex⟩ : ∃ x, l[i + 1]?.getD no5 = x := ⟨_, rfl⟩
      obtain ⟨⟨y0, y1, y2, y3, y4⟩, ey⟩ : ∃ x, l[i]?.getD no5 = x := ⟨_, rfl⟩
      rw [ex] at hx HKo htk
      rw [ey] at hy HKo
      have HEX := Lib.hid ex
      have HEY := Lib.hid ey
      have HTK := Lib.hid htk
      have HIL := Lib.hid hil
      have hin : i < n := by omega
      obtain ⟨z0, z1, z2, z3, z4⟩ := at_later hx
      obtain ⟨e0, e1, e2, e3, e4⟩ := at_later hy
      have zg := guard_look
      clear hst hx hy ex ey htk hil HK
      by_cases hxy : ((y0, y1, y2, y3, y4) : V5) = (x0, x1, x2, x3, x4)
      · rw [if_pos hxy] at HKo
        cases hxy
        have HK2 := Lib.hid HKo
        clear HKo
        have zq := eql_yes x0 x1 x2 x3 x4
        go_wp2
        refine wp_region_later (by kernel_rfl) (by kernel_rfl) ?_
        repeat (go_big_quiet_step (fail))
        refine wpQuiet_nil ?_
        rintro w5 ⟨p5, rfl⟩
        have B5 := Lib.hid (below_on HB.out hb p5.h)
        have R5 := Lib.hid (HRow.out.below p5.h)
        clear z0 z1 z2 z3 z4 e0 e1 e2 e3 e4 zg zq HRow HB
        generalize p5.W = w6 at B5 R5 ⊢
        go_wp2
        have HREL : Hid (RelC w base g l (i + 1) (i + 1) w6) := Lib.hid ⟨⟨l, l.take (i + 1), rfl, by rw [List.length_take]; have := HIL.out; omega, rfl, fun _ _ => rfl, HK2.out, R5.out⟩, B5.out⟩
        clear HEX HTK HEY HK2 R5 B5
        go_loopw [3, 5] (fun v3 v5 wr => ∃ q j : Nat, v3 = .int .i64 q ∧ v5 = .int .i64 ((j : Int) + 1) ∧ i + 1 + (j + 1) ≤ n ∧ q ≤ i + 1 + j ∧ Hid (RelC w base g l (i + 1 + j) q wr)) (fun _ v5 _ => n - (intOf v5).toNat)
        case atStart => exact ⟨i + 1, 0, rfl, rfl, by omega, by omega, HREL⟩
        case round =>
          clear HREL
          obtain ⟨q, j, rfl, rfl, hj, hq, HREL⟩ := hrel
          by_cases hlt2 : i + 1 + (j + 1) < n
          · obtain ⟨m, P, hml, hPl, hmP, hmj, hcomp, hRw⟩ := HREL.out.ex
            have hBr := HREL.out.hb
            have hI : i + 1 + (j + 1) < l.length := by have := hl.out; omega
            have hIm : i + 1 + (j + 1) < m.length := by omega
            have hst := tl_step (l := l) (i := i + 1 + j) hI
            have hx := (row5_at hRw (i + 1 + (j + 1)) hIm).1
            have hy := (row5_at hRw (i + 1 + j) (by omega)).1
            rw [hmj _ (by omega)] at hx hy
            rw [hst] at hcomp
            obtain ⟨⟨x0, x1, x2, x3, x4⟩, ex⟩ : ∃ x, l[i + 1 + (j + 1)]?.getD no5 = x := ⟨_, rfl⟩
            obtain ⟨⟨y0, y1, y2, y3, y4⟩, ey⟩ : ∃ x, l[i + 1 + j]?.getD no5 = x := ⟨_, rfl⟩
            rw [show i + 1 + j + 1 = i + 1 + (j + 1) by omega, ex, ey] at hcomp
            rw [ex] at hx
            rw [ey] at hy
            rw [show (i + 1 + (j + 1)) * 5 = (i + 1) * 5 + (j + 1) * 5 by omega] at hx
            rw [show (i + 1 + j) * 5 = (i + 1) * 5 + j * 5 by omega] at hy
            obtain ⟨z0, z1, z2, z3, z4⟩ := at_later hx
            obtain ⟨e0, e1, e2, e3, e4⟩ := at_later hy
            have zg := guard_look
            have h1 : ((j : Int) + 1) < ((n - (i + 1) : Nat) : Int) := by omega
            have h2 : (j : Int) + 1 - 1 = (j : Int) := by omega
            have h3 : j < n - (i + 1) := by omega
            have h4 : (j + 1) < n - (i + 1) := by omega
            have hqn : q < n := by omega
            have HML := Lib.hid hml
            have HPL := Lib.hid hPl
            have HMP := Lib.hid hmP
            have HMJ := Lib.hid hmj
            have HX := Lib.hid hx
            have hRw := Lib.hid hRw
            clear hst ex ey hml hPl hmP hmj hI hIm hx hy HREL
            by_cases hxy : ((y0, y1, y2, y3, y4) : V5) = (x0, x1, x2, x3, x4)
            · rw [if_pos hxy] at hcomp
              have HCO := Lib.hid hcomp
              cases hxy
              clear hcomp
              have zq := neq_yes x0 x1 x2 x3 x4
              go_wp2
              refine wp_region_later (by kernel_rfl) (by kernel_rfl) ?_
              repeat (go_big_quiet_step (fail))
              refine wpQuiet_nil ?_
              rintro w5 ⟨p5, rfl⟩
              have B5 := Lib.hid (below_on hBr hb p5.h)
              have R5 := Lib.hid (hRw.out.below p5.h)
              have X5 := Lib.hid (HX.out.below p5.h)
              clear z0 z1 z2 z3 z4 e0 e1 e2 e3 e4 zg zq
              generalize p5.W = w7 at B5 R5 X5 ⊢
              go_wp2
              go_roundw
              case rel => exact ⟨q, j + 1, rfl, by go_num, by omega, by omega, Lib.hid ⟨⟨m, P, HML.out, HPL.out, HMP.out, fun t ht => HMJ.out t (by omega), by rw [show i + 1 + (j + 1) = i + 1 + j + 1 by omega]; exact HCO.out, R5.out⟩, B5.out⟩⟩
              case measure => simp [intOf]; omega
            · rw [if_neg hxy] at hcomp
              have HCO := Lib.hid hcomp
              have zq := neq_no x0 x1 x2 x3 x4 y0 y1 y2 y3 y4 (fun e => hxy e.symm)
              clear hcomp hxy
              go_wp2
              refine wp_region_later (by kernel_rfl) (by kernel_rfl) ?_
              repeat (go_big_quiet_step (fail))
              refine wpQuiet_nil ?_
              rintro w5 ⟨p5, rfl⟩
              have B5 := Lib.hid (below_on hBr hb p5.h)
              have R5 := Lib.hid (hRw.out.below p5.h)
              have X5 := Lib.hid (HX.out.below p5.h)
              clear z0 z1 z2 z3 z4 e0 e1 e2 e3 e4 zg zq
              generalize p5.W = w7 at B5 R5 X5 ⊢
              obtain ⟨c0, c1, c2, c3, c4⟩ := X5.out
              obtain ⟨⟨d0, d1, d2, d3, d4⟩, hf⟩ := row5_at R5.out q (by have := HML.out; have := hl.out; omega)
              have f0 := hf 0 (by omega)
              have f1 := hf 1 (by omega)
              have f2 := hf 2 (by omega)
              have f3 := hf 3 (by omega)
              have f4 := hf 4 (by omega)
              rw [Nat.add_zero] at f0
              clear hf
              go_wp2
              have hqm : q < m.length := by have := HML.out; have := hl.out; omega
              go_roundw
              case rel =>
                refine ⟨q + 1, j + 1, by go_num, by go_num, by omega, by omega, Lib.hid ⟨⟨m.set q (x0, x1, x2, x3, x4), P ++ [(x0, x1, x2, x3, x4)], ?_, ?_, ?_, ?_, ?_, ?_⟩, ?_⟩⟩
                · rw [List.length_set]; exact HML.out
                · rw [List.length_append, HPL.out]; rfl
                · rw [List.take_succ_eq_append_getElem (by rw [List.length_set]; exact hqm), List.getElem_set_self, List.take_set_of_le (Nat.le_refl _), HMP.out]
                · intro t ht
                  rw [List.getElem?_set_ne (by omega)]
                  exact HMJ.out t (by omega)
                · rw [show i + 1 + (j + 1) = i + 1 + j + 1 by omega, List.append_assoc]; exact HCO.out
                · exact row5_set R5.out q hqm x0 x1 x2 x3 x4
                · exact below_put5' B5.out hg x0 x1 x2 x3 x4 (q * 5)
              case measure => simp [intOf]; omega
          · obtain ⟨m, P, hml, hPl, hmP, hmj, hcomp, hRw⟩ := HREL.out.ex
            have hBr := HREL.out.hb
            have hjn : i + 1 + (j + 1) = n := by omega
            rw [tl_end (by have := hl.out; omega), List.append_nil] at hcomp
            have hPR : P = R := hcomp.symm.trans HR.out
            subst hPR
            obtain rfl : q = N := hPl.symm.trans HN.out
            have hqn : q < n := by omega
            have hcq : ¬ c = q := by omega
            have h1 : ¬ ((j : Int) + 1) < ((n - (i + 1) : Nat) : Int) := by omega
            have h1d : decide (((j : Int) + 1) < ((n - (i + 1) : Nat) : Int)) = false := decide_eq_false h1
            have hlen := flat5_len m
            have hcl := fun ty => run_clear_looks wr ty g (q * 5) (n - q) (c - q) (by omega) (fun t ht => by rw [(hRw.cell (q * 5 + t) (by have := hl.out; omega)).1]; rfl) (fun t ht => (hRw.cell (q * 5 + t) (by have := hl.out; omega)).2)
            have HM := Lib.hid hml
            have HP := Lib.hid hmP
            have HRW := Lib.hid hRw
            have HBR := Lib.hid hBr
            clear hml hPl hmP hmj hcomp hRw hBr hlen HREL
            go_wp2
            go_ret
            refine ⟨_, _, rfl, ?_, cells_below hg _ _ _ HBR.out, by omega, fun g' o' e => by cases e; exact hg⟩
            intro t ht
            have htq : t < q := by have := HN.out; omega
            have h5 := (row5_at HRW.out t (by have := hl.out; have := HM.out; omega)).1
            have e : (P[t]?.getD no5) = m[t]?.getD no5 := by rw [← HP.out, List.getElem?_take_of_lt htq]
            refine ⟨g, 0, rfl, by rw [cells_size]; exact HRW.out.lt, ?_⟩
            rw [Nat.zero_add, e]
            obtain ⟨c0, c1, c2, c3, c4⟩ := h5
            exact ⟨(keep_cell (by omega)).trans c0, (keep_cell (by omega)).trans c1, (keep_cell (by omega)).trans c2, (keep_cell (by omega)).trans c3, (keep_cell (by omega)).trans c4⟩
      · rw [if_neg hxy] at HKo
        have HK2 := Lib.hid HKo
        clear HKo
        have zq := eql_no x0 x1 x2 x3 x4 y0 y1 y2 y3 y4 (fun e => hxy e.symm)
        clear hxy
        go_wp2
        refine wp_region_later (by kernel_rfl) (by kernel_rfl) ?_
        repeat (go_big_quiet_step (fail))
        refine wpQuiet_nil ?_
        rintro w5 ⟨p5, rfl⟩
        have B5 := Lib.hid (below_on HB.out hb p5.h)
        have R5 := Lib.hid (HRow.out.below p5.h)
        clear z0 z1 z2 z3 z4 e0 e1 e2 e3 e4 zg zq HRow HB
        generalize p5.W = w6 at B5 R5 ⊢
        go_wp2
        go_roundw
        case rel => exact ⟨i + 1 + 1, by go_num, by omega, by omega, Lib.hid (by rw [HTK.out, show i + 1 + 1 - 1 = i + 1 by omega, List.append_assoc]; exact HK2.out), R5, B5⟩
        case measure => simp [intOf]; omega
    · obtain rfl : k = n := by omega
      have hR : l = R := by
        have h := HK.out
        rw [HR.out, tl_end (by rw [hl.out]; omega), List.append_nil, List.take_of_length_le (by rw [hl.out]; omega)] at h
        exact h.symm
      subst hR
      obtain rfl : k = N := hl.out.symm.trans HN.out
      go_wp2
      go_ret
      exact ⟨_, _, rfl, row5_reads HRow.out, HB.out, hc, fun g' o' e => by cases e; exact hg⟩
end Go.Proofs.Ytdahaajfkjmflaa.s14

namespace Go.Proofs.Ytdahaajfkjmflaa.s14
set_option linter.unusedVariables false
set_option linter.unusedSimpArgs false
open Go.RowKit
open kit

open s13

theorem kU_tt (w : World) : Calls Try.prog 76 #[.bool true, .bool true] w fun e w' => e = .returned (.bool true) ∧ w = w' := by
  go_enter Try.func76, Try.ntmps76
  go_wp2
  go_ret
  exact ⟨rfl, rfl⟩
theorem kU_tf (w : World) : Calls Try.prog 76 #[.bool true, .bool false] w fun e w' => e = .returned (.bool true) ∧ w = w' := by
  go_enter Try.func76, Try.ntmps76
  go_wp2
  go_ret
  exact ⟨rfl, rfl⟩
theorem kU_ft (w : World) : Calls Try.prog 76 #[.bool false, .bool true] w fun e w' => e = .returned (.bool true) ∧ w = w' := by
  go_enter Try.func76, Try.ntmps76
  go_wp2
  go_ret
  exact ⟨rfl, rfl⟩
theorem tail_if {w : World} {g o cb : Nat} {l : List (List Int)} (h : l.length + 1 ≤ cb) (hr : Reads5 w (some ⟨g, o + 5, none⟩) (l.map pad5)) : Reads5 w (if cb = 1 then some ⟨g, o, none⟩ else some ⟨g, o + 5, none⟩) (l.map pad5) := by
  split
  · have e : l = [] := List.length_eq_zero_iff.1 (by omega)
    rw [e]; exact Reads5.nil _ _
  · exact hr
/-- what the loop says; the lists lie where they lay at the call -/
structure RelM (kp : Bool → Bool → Bool) (w : World) (R : List (List Int)) (A B D : List (List Int)) (a b : Option Addr) (vm : Value) (wr : World) : Prop where
  ra : Reads5 w a (A.map pad5)
  rb : Reads5 w b (B.map pad5)
  eq : D ++ mrg kp A B = R
  oa : ∀ x ∈ A, okL 8 x
  ob : ∀ x ∈ B, okL 8 x
  row : wr.ownsRow w.heap.size 25 5 vm D.length (flat5 (D.map pad5))
  hb : Below w.heap.size w wr
theorem RelM.on {kp : Bool → Bool → Bool} {w wr w2 : World} {R A B D : List (List Int)} {a b : Option Addr} {vm : Value} (h : RelM kp w R A B D a b vm wr) (hB : Below wr.heap.size wr w2) : RelM kp w R A B D a b vm w2 := ⟨h.ra, h.rb, h.eq, h.oa, h.ob, own5_below h.row hB, below_then h.hb hB⟩
set_option maxRecDepth 100000 in
set_option maxHeartbeats 20000000 in
theorem mergeU (a b : Option Addr) (n m ca cb : Nat) (A B : List (List Int)) (w : World) (hn : Hid (A.length = n)) (hm : Hid (B.length = m)) (ha : n ≤ ca) (hb : m ≤ cb) (hsz : n + m ≤ 100000) (hA : Hid (∀ x ∈ A, okL 8 x)) (hB : Hid (∀ x ∈ B, okL 8 x)) (ra : Hid (Reads5 w a (A.map pad5))) (rb : Hid (Reads5 w b (B.map pad5))) (R : List (List Int)) (N : Nat) (HR : Hid (mrg kU A B = R)) (HN : Hid (R.length = N)) :
    Calls Try.prog 54 #[.slice a n ca, .slice b m cb, .func (.func 42) #[] #[], .func (.func 76) #[] #[]] w fun e w' => ∃ p cp, e = .returned (.slice p N cp) ∧ Reads5 w' p (R.map pad5) ∧ Below w.heap.size w w' ∧ N ≤ cp := by
  go_enter Try.func54, Try.ntmps54
  go_wp2
  go_loopw [0, 1, 9] (fun va vb vm wr => ∃ (A B D : List (List Int)) (a b : Option Addr) (n m ca cb : Nat), va = .slice a n ca ∧ vb = .slice b m cb ∧ n ≤ ca ∧ m ≤ cb ∧ Hid (A.length = n) ∧ Hid (B.length = m) ∧ Hid (D.length + n + m ≤ 100000) ∧ Hid (RelM kU w R A B D a b vm wr)) (fun va vb _ _ => slen va + slen vb)
  case atStart => exact ⟨A, B, [], a, b, n, m, ca, cb, rfl, rfl, ha, hb, hn, hm, Lib.hid (by simpa using hsz), Lib.hid ⟨ra.out, rb.out, HR.out, hA.out, hB.out, World.ownsRow_nil _ _ _ _, Below.refl _ _⟩⟩
  case round =>
    clear hn hm ha hb hsz hA hB ra rb
    obtain ⟨A, B, D, a, b, n, m, ca, cb, rfl, rfl, ha, hb, hn, hm, hsz, HREL⟩ := hrel
    have HB0 := Lib.hid HREL.out.hb
    have hws := HREL.out.hb.size
    rcases A with _ | ⟨x, A⟩
    · obtain rfl : n = 0 := hn.out.symm
      rcases B with _ | ⟨y, B⟩
      · obtain rfl : m = 0 := hm.out.symm
        have hR := HREL.out.eq
        rw [mrg_nil, List.append_nil] at hR
        subst hR
        have hrow := HREL.out.row
        rw [HN.out] at hrow
        obtain ⟨p, cp, rfl, hcp⟩ := row5_shape hrow
        have HROW := Lib.hid hrow
        clear hrow
        go_wp2
        go_ret
        exact ⟨p, cp, rfl, reads5_of_row (by rw [List.length_map]; exact HN.out) HROW.out, HREL.out.hb, hcp⟩
      · obtain ⟨m, rfl⟩ : ∃ m', m = m' + 1 := ⟨B.length, hm.out.symm⟩
        have HLB : Hid (B.length = m) := Lib.hid (by have := hm.out; simpa using this)
        have hR := HREL.out.eq
        rw [mrg_right] at hR
        have HEQ := Lib.hid hR
        clear hR hm
        obtain ⟨g, o, rfl, hg, haty, htly⟩ := reads_head HREL.out.rb
        have HTy := Lib.hid htly
        have hoy := Lib.hid (HREL.out.ob y (List.mem_cons_self ..))
        obtain ⟨⟨y0, y1, y2, y3, y4⟩, hy⟩ : ∃ v, pad5 y = v := ⟨_, rfl⟩
        rw [hy] at haty
        have Hy := Lib.hid hy
        have HAy := Lib.hid (haty.below HREL.out.hb)
        have hlg : g < wr.heap.size := Nat.lt_of_lt_of_le hg HREL.out.hb.size
        clear htly haty hy
        have h1 : (0 : Int) < ((m + 1 : Nat) : Int) := by omega
        have h2 : decide ((0 : Int) < ((m + 1 : Nat) : Int)) = true := decide_eq_true h1
        have hq : Hid (Reads5 w (if cb = 1 then some ⟨g, o, none⟩ else some ⟨g, o + 5, none⟩) (B.map pad5)) := Lib.hid (tail_if (by have := HLB.out; omega) HTy.out)
        go_wp2_with (first
          | (go_at_call 77; refine (heads_left _ _ _ _ _ _).mono ?_; rintro e w2 ⟨rfl, rfl⟩))
        have X := Box.new wr 25 #[.int .i64 0, .int .i64 0, .int .i64 0, .int .i64 0, .int .i64 0]
        have HB1 := Lib.hid (HB0.out.alloc HB0.out.size (.cells #[.int .i64 0, .int .i64 0, .int .i64 0, .int .i64 0, .int .i64 0] 25))
        have HW1 := Lib.hid ((Below.refl wr.heap.size wr).alloc (Nat.le_refl _) (.cells #[.int .i64 0, .int .i64 0, .int .i64 0, .int .i64 0, .int .i64 0] 25))
        generalize wr.alloc (.cells #[.int .i64 0, .int .i64 0, .int .i64 0, .int .i64 0, .int .i64 0] 25) = W at X HB1 HW1 ⊢
        obtain ⟨c0, c1, c2, c3, c4⟩ := (HAy.out.below HW1.out)
        obtain ⟨zc0, zc1, zc2, zc3, zc4⟩ := X.cell5
        obtain ⟨f0, f1, f2, f3, f4⟩ := X.free5
        have hxg : wr.heap.size ≠ g := by omega
        have hgx : g ≠ wr.heap.size := by omega
        have HX := Lib.hid X
        clear X
        go_region
        have HX2 := Lib.hid (HX.out.put5 (.int .i64 y0) (.int .i64 y1) (.int .i64 y2) (.int .i64 y3) (.int .i64 y4)).drew
        have HB2 := Lib.hid (below_put5 HB1.out HB0.out.size (.int .i64 y0) (.int .i64 y1) (.int .i64 y2) (.int .i64 y3) (.int .i64 y4)).drew
        have HW2 := Lib.hid (below_put5 HW1.out (Nat.le_refl _) (.int .i64 y0) (.int .i64 y1) (.int .i64 y2) (.int .i64 y3) (.int .i64 y4)).drew
        clear c0 c1 c2 c3 c4 zc0 zc1 zc2 zc3 zc4 f0 f1 f2 f3 f4 HX HB1 HW1 hxg hgx
        generalize (if cb = 1 then some (⟨g, o, none⟩ : Addr) else some ⟨g, o + 5, none⟩) = q at hq ⊢
        generalize (((((W.setCell ⟨wr.heap.size, 0, none⟩ (.int .i64 y0)).setCell ⟨wr.heap.size, 1, none⟩ (.int .i64 y1)).setCell ⟨wr.heap.size, 2, none⟩ (.int .i64 y2)).setCell ⟨wr.heap.size, 3, none⟩ (.int .i64 y3)).setCell ⟨wr.heap.size, 4, none⟩ (.int .i64 y4)).drew = W2 at HX2 HB2 HW2 ⊢
        have X := HX2.out
        have HB1 := HB2
        have HW1 := HW2
        clear HX2 HB2 HW2
        obtain ⟨zc0, zc1, zc2, zc3, zc4⟩ := X.cell5
        have HROW2 := Lib.hid (own5_below HREL.out.row HW1.out)
        have HSL := HB1.out.size
        go_wp2_with (first
          | (go_at_call 76; refine (kU_ft _).mono ?_; rintro e w3 ⟨rfl, rfl⟩)
          | (at_builtin; refine append_in5 rfl (.tmp 46) (.tmp 48) rfl w.heap.size _ D.length _ rfl (HROW2.out.alloc _) (some ⟨W2.heap.size, 0, none⟩) [(y0, y1, y2, y3, y4)] 1 1 rfl rfl (by decide) (reads5_block (Box.new W2 25 #[.int .i64 y0, .int .i64 y1, .int .i64 y2, .int .i64 y3, .int .i64 y4]) rfl) (by have := hsz.out; omega) (by simp; omega) ?_; intro v3 w3 hv3 hB3; have O3 := Lib.hid hv3; have B3 := Lib.hid ((HB1.out.alloc HB1.out.size (.cells #[.int .i64 y0, .int .i64 y1, .int .i64 y2, .int .i64 y3, .int .i64 y4] 25)).trans hB3); clear hv3 hB3))
        refine ⟨⟨[], B, D ++ [y], a, q, 0, m, ca, (cb - 1), rfl, rfl, ha, (by omega), hn, HLB, Lib.hid (by have := hsz.out; simp; omega), Lib.hid ⟨Reads5.nil _ _, hq.out, ?_, (by simp), (fun z hz => HREL.out.ob z (List.mem_cons_of_mem _ hz)), ?_, B3.out⟩⟩, by simp [slen]; try omega⟩
        · have h := HEQ.out; simpa [one, kU] using h
        · have h := O3.out; rw [List.length_append, List.map_append, List.map_singleton, Hy.out]; exact h
    · obtain ⟨n, rfl⟩ : ∃ n', n = n' + 1 := ⟨A.length, hn.out.symm⟩
      have HLA : Hid (A.length = n) := Lib.hid (by have := hn.out; simpa using this)
      have h1 : (0 : Int) < ((n + 1 : Nat) : Int) := by omega
      have h2 : decide ((0 : Int) < ((n + 1 : Nat) : Int)) = true := decide_eq_true h1
      obtain ⟨g, o, rfl, hg, hatx, htlx⟩ := reads_head HREL.out.ra
      have HTx := Lib.hid htlx
      have hox := Lib.hid (HREL.out.oa x (List.mem_cons_self ..))
      obtain ⟨⟨x0, x1, x2, x3, x4⟩, hx⟩ : ∃ v, pad5 x = v := ⟨_, rfl⟩
      rw [hx] at hatx
      have Hx := Lib.hid hx
      have HAx := Lib.hid (hatx.below HREL.out.hb)
      have hlg : g < wr.heap.size := Nat.lt_of_lt_of_le hg HREL.out.hb.size
      clear htlx hatx hx
      have hq : Hid (Reads5 w (if ca = 1 then some ⟨g, o, none⟩ else some ⟨g, o + 5, none⟩) (A.map pad5)) := Lib.hid (tail_if (by have := HLA.out; omega) HTx.out)
      rcases B with _ | ⟨y, B⟩
      · obtain rfl : m = 0 := hm.out.symm
        have hR := HREL.out.eq
        rw [mrg_left] at hR
        have HEQ := Lib.hid hR
        clear hR hn
        go_wp2_with (first
          | (go_at_call 77; refine (heads_right _ _ _ _ _ _ (by omega)).mono ?_; rintro e w2 ⟨rfl, rfl⟩))
        have X := Box.new wr 25 #[.int .i64 0, .int .i64 0, .int .i64 0, .int .i64 0, .int .i64 0]
        have HB1 := Lib.hid (HB0.out.alloc HB0.out.size (.cells #[.int .i64 0, .int .i64 0, .int .i64 0, .int .i64 0, .int .i64 0] 25))
        have HW1 := Lib.hid ((Below.refl wr.heap.size wr).alloc (Nat.le_refl _) (.cells #[.int .i64 0, .int .i64 0, .int .i64 0, .int .i64 0, .int .i64 0] 25))
        generalize wr.alloc (.cells #[.int .i64 0, .int .i64 0, .int .i64 0, .int .i64 0, .int .i64 0] 25) = W at X HB1 HW1 ⊢
        obtain ⟨c0, c1, c2, c3, c4⟩ := (HAx.out.below HW1.out)
        obtain ⟨zc0, zc1, zc2, zc3, zc4⟩ := X.cell5
        obtain ⟨f0, f1, f2, f3, f4⟩ := X.free5
        have hxg : wr.heap.size ≠ g := by omega
        have hgx : g ≠ wr.heap.size := by omega
        have HX := Lib.hid X
        clear X
        go_region
        have HX2 := Lib.hid (HX.out.put5 (.int .i64 x0) (.int .i64 x1) (.int .i64 x2) (.int .i64 x3) (.int .i64 x4)).drew
        have HB2 := Lib.hid (below_put5 HB1.out HB0.out.size (.int .i64 x0) (.int .i64 x1) (.int .i64 x2) (.int .i64 x3) (.int .i64 x4)).drew
        have HW2 := Lib.hid (below_put5 HW1.out (Nat.le_refl _) (.int .i64 x0) (.int .i64 x1) (.int .i64 x2) (.int .i64 x3) (.int .i64 x4)).drew
        clear c0 c1 c2 c3 c4 zc0 zc1 zc2 zc3 zc4 f0 f1 f2 f3 f4 HX HB1 HW1 hxg hgx
        generalize (if ca = 1 then some (⟨g, o, none⟩ : Addr) else some ⟨g, o + 5, none⟩) = q at hq ⊢
        generalize (((((W.setCell ⟨wr.heap.size, 0, none⟩ (.int .i64 x0)).setCell ⟨wr.heap.size, 1, none⟩ (.int .i64 x1)).setCell ⟨wr.heap.size, 2, none⟩ (.int .i64 x2)).setCell ⟨wr.heap.size, 3, none⟩ (.int .i64 x3)).setCell ⟨wr.heap.size, 4, none⟩ (.int .i64 x4)).drew = W2 at HX2 HB2 HW2 ⊢
        have X := HX2.out
        have HB1 := HB2
        have HW1 := HW2
        clear HX2 HB2 HW2
        obtain ⟨zc0, zc1, zc2, zc3, zc4⟩ := X.cell5
        have HROW2 := Lib.hid (own5_below HREL.out.row HW1.out)
        have HSL := HB1.out.size
        go_wp2_with (first
          | (go_at_call 76; refine (kU_tf _).mono ?_; rintro e w3 ⟨rfl, rfl⟩)
          | (at_builtin; refine append_in5 rfl (.tmp 46) (.tmp 48) rfl w.heap.size _ D.length _ rfl (HROW2.out.alloc _) (some ⟨W2.heap.size, 0, none⟩) [(x0, x1, x2, x3, x4)] 1 1 rfl rfl (by decide) (reads5_block (Box.new W2 25 #[.int .i64 x0, .int .i64 x1, .int .i64 x2, .int .i64 x3, .int .i64 x4]) rfl) (by have := hsz.out; omega) (by simp; omega) ?_; intro v3 w3 hv3 hB3; have O3 := Lib.hid hv3; have B3 := Lib.hid ((HB1.out.alloc HB1.out.size (.cells #[.int .i64 x0, .int .i64 x1, .int .i64 x2, .int .i64 x3, .int .i64 x4] 25)).trans hB3); clear hv3 hB3))
        refine ⟨⟨A, [], D ++ [x], q, b, n, 0, (ca - 1), cb, rfl, rfl, (by omega), hb, HLA, hm, Lib.hid (by have := hsz.out; simp; omega), Lib.hid ⟨hq.out, Reads5.nil _ _, ?_, (fun z hz => HREL.out.oa z (List.mem_cons_of_mem _ hz)), (by simp), ?_, B3.out⟩⟩, by simp [slen]; try omega⟩
        · have h := HEQ.out; simpa [one, kU] using h
        · have h := O3.out; rw [List.length_append, List.map_append, List.map_singleton, Hx.out]; exact h
      · obtain ⟨m, rfl⟩ : ∃ m', m = m' + 1 := ⟨B.length, hm.out.symm⟩
        have HLB : Hid (B.length = m) := Lib.hid (by have := hm.out; simpa using this)
        obtain ⟨gg, oo, rfl, hgg, haty, htly⟩ := reads_head HREL.out.rb
        have HTy := Lib.hid htly
        have hoy := Lib.hid (HREL.out.ob y (List.mem_cons_self ..))
        obtain ⟨⟨y0, y1, y2, y3, y4⟩, hy⟩ : ∃ v, pad5 y = v := ⟨_, rfl⟩
        rw [hy] at haty
        have Hy := Lib.hid hy
        have HAy := Lib.hid (haty.below HREL.out.hb)
        have hlgg : gg < wr.heap.size := Nat.lt_of_lt_of_le hgg HREL.out.hb.size
        clear htly haty hy
        have hr : Hid (Reads5 w (if cb = 1 then some ⟨gg, oo, none⟩ else some ⟨gg, oo + 5, none⟩) (B.map pad5)) := Lib.hid (tail_if (by have := HLB.out; omega) HTy.out)
        have h3 : (0 : Int) < ((m + 1 : Nat) : Int) := by omega
        obtain ⟨v, hv⟩ : ∃ v, cmpL x y = v := ⟨_, rfl⟩
        have HCV := Lib.hid ((cmpE_ok hox.out hoy.out Hx.out Hy.out).trans (by rw [hv]))
        have hrg := cmpL_range x y
        have hR := HREL.out.eq
        rcases hrg with h | h | h
        · have hv2 : cmpL x y = (-1) := h
          rw [mrg_lt kU x y A B (by omega)] at hR
          have HEQ := Lib.hid hR
          obtain rfl : v = (-1) := hv.symm.trans hv2
          clear hR hv hv2 h
          go_wp2_with (first
            | (go_at_call 77; refine (heads_both _ _ _ _ _ _ _ (by omega) (by omega) g gg o oo x0 x1 x2 x3 x4 y0 y1 y2 y3 y4 (-1) rfl rfl HAx HAy HCV).mono ?_; rintro e w2 ⟨rfl, hB⟩; have B2 := Lib.hid hB; clear hB))
          have HREL2 := Lib.hid (HREL.out.on B2.out)
          have HAx2 := Lib.hid (HAx.out.below B2.out)
          have HAy2 := Lib.hid (HAy.out.below B2.out)
          have hlg2 := Nat.lt_of_lt_of_le hlg B2.out.size
          have hlgg2 := Nat.lt_of_lt_of_le hlgg B2.out.size
          clear HREL HAx HAy HB0 hws hlg hlgg
          have HREL := HREL2
          have HAx := HAx2
          have HAy := HAy2
          have hlg := hlg2
          have hlgg := hlgg2
          clear HREL2 HAx2 HAy2 hlg2 hlgg2 B2
          have HB0 := Lib.hid HREL.out.hb
          have hws := HREL.out.hb.size
          have X := Box.new w2 25 #[.int .i64 0, .int .i64 0, .int .i64 0, .int .i64 0, .int .i64 0]
          have HB1 := Lib.hid (HB0.out.alloc HB0.out.size (.cells #[.int .i64 0, .int .i64 0, .int .i64 0, .int .i64 0, .int .i64 0] 25))
          have HW1 := Lib.hid ((Below.refl w2.heap.size w2).alloc (Nat.le_refl _) (.cells #[.int .i64 0, .int .i64 0, .int .i64 0, .int .i64 0, .int .i64 0] 25))
          generalize w2.alloc (.cells #[.int .i64 0, .int .i64 0, .int .i64 0, .int .i64 0, .int .i64 0] 25) = W at X HB1 HW1 ⊢
          obtain ⟨c0, c1, c2, c3, c4⟩ := (HAx.out.below HW1.out)
          obtain ⟨zc0, zc1, zc2, zc3, zc4⟩ := X.cell5
          obtain ⟨f0, f1, f2, f3, f4⟩ := X.free5
          have hxg : w2.heap.size ≠ g := by omega
          have hgx : g ≠ w2.heap.size := by omega
          have HX := Lib.hid X
          clear X
          go_region
          have HX2 := Lib.hid (HX.out.put5 (.int .i64 x0) (.int .i64 x1) (.int .i64 x2) (.int .i64 x3) (.int .i64 x4)).drew
          have HB2 := Lib.hid (below_put5 HB1.out HB0.out.size (.int .i64 x0) (.int .i64 x1) (.int .i64 x2) (.int .i64 x3) (.int .i64 x4)).drew
          have HW2 := Lib.hid (below_put5 HW1.out (Nat.le_refl _) (.int .i64 x0) (.int .i64 x1) (.int .i64 x2) (.int .i64 x3) (.int .i64 x4)).drew
          clear c0 c1 c2 c3 c4 zc0 zc1 zc2 zc3 zc4 f0 f1 f2 f3 f4 HX HB1 HW1 hxg hgx
          generalize (if ca = 1 then some (⟨g, o, none⟩ : Addr) else some ⟨g, o + 5, none⟩) = q at hq ⊢
          generalize (((((W.setCell ⟨w2.heap.size, 0, none⟩ (.int .i64 x0)).setCell ⟨w2.heap.size, 1, none⟩ (.int .i64 x1)).setCell ⟨w2.heap.size, 2, none⟩ (.int .i64 x2)).setCell ⟨w2.heap.size, 3, none⟩ (.int .i64 x3)).setCell ⟨w2.heap.size, 4, none⟩ (.int .i64 x4)).drew = W2 at HX2 HB2 HW2 ⊢
          have X := HX2.out
          have HB1 := HB2
          have HW1 := HW2
          clear HX2 HB2 HW2
          obtain ⟨zc0, zc1, zc2, zc3, zc4⟩ := X.cell5
          have HROW2 := Lib.hid (own5_below HREL.out.row HW1.out)
          have HSL := HB1.out.size
          go_wp2_with (first
            | (go_at_call 76; refine (kU_tf _).mono ?_; rintro e w3 ⟨rfl, rfl⟩)
            | (at_builtin; refine append_in5 rfl (.tmp 46) (.tmp 48) rfl w.heap.size _ D.length _ rfl (HROW2.out.alloc _) (some ⟨W2.heap.size, 0, none⟩) [(x0, x1, x2, x3, x4)] 1 1 rfl rfl (by decide) (reads5_block (Box.new W2 25 #[.int .i64 x0, .int .i64 x1, .int .i64 x2, .int .i64 x3, .int .i64 x4]) rfl) (by have := hsz.out; omega) (by simp; omega) ?_; intro v3 w3 hv3 hB3; have O3 := Lib.hid hv3; have B3 := Lib.hid ((HB1.out.alloc HB1.out.size (.cells #[.int .i64 x0, .int .i64 x1, .int .i64 x2, .int .i64 x3, .int .i64 x4] 25)).trans hB3); clear hv3 hB3))
          refine ⟨⟨A, (y :: B), D ++ [x], q, _, n, (m + 1), (ca - 1), cb, rfl, rfl, (by omega), hb, HLA, hm, Lib.hid (by have := hsz.out; simp; omega), Lib.hid ⟨hq.out, HREL.out.rb, ?_, (fun z hz => HREL.out.oa z (List.mem_cons_of_mem _ hz)), HREL.out.ob, ?_, B3.out⟩⟩, by simp [slen]; try omega⟩
          · have h := HEQ.out; simpa [one, kU] using h
          · have h := O3.out; rw [List.length_append, List.map_append, List.map_singleton, Hx.out]; exact h
        · have hv2 : cmpL x y = 0 := h
          rw [mrg_eq kU x y A B (by omega)] at hR
          have HEQ := Lib.hid hR
          obtain rfl : v = 0 := hv.symm.trans hv2
          clear hR hv hv2 h
          go_wp2_with (first
            | (go_at_call 77; refine (heads_both _ _ _ _ _ _ _ (by omega) (by omega) g gg o oo x0 x1 x2 x3 x4 y0 y1 y2 y3 y4 0 rfl rfl HAx HAy HCV).mono ?_; rintro e w2 ⟨rfl, hB⟩; have B2 := Lib.hid hB; clear hB))
          have HREL2 := Lib.hid (HREL.out.on B2.out)
          have HAx2 := Lib.hid (HAx.out.below B2.out)
          have HAy2 := Lib.hid (HAy.out.below B2.out)
          have hlg2 := Nat.lt_of_lt_of_le hlg B2.out.size
          have hlgg2 := Nat.lt_of_lt_of_le hlgg B2.out.size
          clear HREL HAx HAy HB0 hws hlg hlgg
          have HREL := HREL2
          have HAx := HAx2
          have HAy := HAy2
          have hlg := hlg2
          have hlgg := hlgg2
          clear HREL2 HAx2 HAy2 hlg2 hlgg2 B2
          have HB0 := Lib.hid HREL.out.hb
          have hws := HREL.out.hb.size
          have X := Box.new w2 25 #[.int .i64 0, .int .i64 0, .int .i64 0, .int .i64 0, .int .i64 0]
          have HB1 := Lib.hid (HB0.out.alloc HB0.out.size (.cells #[.int .i64 0, .int .i64 0, .int .i64 0, .int .i64 0, .int .i64 0] 25))
          have HW1 := Lib.hid ((Below.refl w2.heap.size w2).alloc (Nat.le_refl _) (.cells #[.int .i64 0, .int .i64 0, .int .i64 0, .int .i64 0, .int .i64 0] 25))
          generalize w2.alloc (.cells #[.int .i64 0, .int .i64 0, .int .i64 0, .int .i64 0, .int .i64 0] 25) = W at X HB1 HW1 ⊢
          obtain ⟨c0, c1, c2, c3, c4⟩ := (HAx.out.below HW1.out)
          obtain ⟨zc0, zc1, zc2, zc3, zc4⟩ := X.cell5
          obtain ⟨f0, f1, f2, f3, f4⟩ := X.free5
          have hxg : w2.heap.size ≠ g := by omega
          have hgx : g ≠ w2.heap.size := by omega
          have HX := Lib.hid X
          clear X
          go_region
          have HX2 := Lib.hid (HX.out.put5 (.int .i64 x0) (.int .i64 x1) (.int .i64 x2) (.int .i64 x3) (.int .i64 x4)).drew
          have HB2 := Lib.hid (below_put5 HB1.out HB0.out.size (.int .i64 x0) (.int .i64 x1) (.int .i64 x2) (.int .i64 x3) (.int .i64 x4)).drew
          have HW2 := Lib.hid (below_put5 HW1.out (Nat.le_refl _) (.int .i64 x0) (.int .i64 x1) (.int .i64 x2) (.int .i64 x3) (.int .i64 x4)).drew
          clear c0 c1 c2 c3 c4 zc0 zc1 zc2 zc3 zc4 f0 f1 f2 f3 f4 HX HB1 HW1 hxg hgx
          generalize (if ca = 1 then some (⟨g, o, none⟩ : Addr) else some ⟨g, o + 5, none⟩) = q at hq ⊢
          generalize (((((W.setCell ⟨w2.heap.size, 0, none⟩ (.int .i64 x0)).setCell ⟨w2.heap.size, 1, none⟩ (.int .i64 x1)).setCell ⟨w2.heap.size, 2, none⟩ (.int .i64 x2)).setCell ⟨w2.heap.size, 3, none⟩ (.int .i64 x3)).setCell ⟨w2.heap.size, 4, none⟩ (.int .i64 x4)).drew = W2 at HX2 HB2 HW2 ⊢
          have X := HX2.out
          have HB1 := HB2
          have HW1 := HW2
          clear HX2 HB2 HW2
          go_wp2
          obtain ⟨c0, c1, c2, c3, c4⟩ := (HAy.out.below HW1.out)
          obtain ⟨zc0, zc1, zc2, zc3, zc4⟩ := X.cell5
          obtain ⟨f0, f1, f2, f3, f4⟩ := X.free5
          have hxg : w2.heap.size ≠ gg := by omega
          have hgx : gg ≠ w2.heap.size := by omega
          have HX := Lib.hid X
          clear X
          go_region
          have HX2 := Lib.hid (HX.out.put5 (.int .i64 y0) (.int .i64 y1) (.int .i64 y2) (.int .i64 y3) (.int .i64 y4)).drew
          have HB2 := Lib.hid (below_put5 HB1.out HB0.out.size (.int .i64 y0) (.int .i64 y1) (.int .i64 y2) (.int .i64 y3) (.int .i64 y4)).drew
          have HW2 := Lib.hid (below_put5 HW1.out (Nat.le_refl _) (.int .i64 y0) (.int .i64 y1) (.int .i64 y2) (.int .i64 y3) (.int .i64 y4)).drew
          clear c0 c1 c2 c3 c4 zc0 zc1 zc2 zc3 zc4 f0 f1 f2 f3 f4 HX HB1 HW1 hxg hgx
          generalize (if cb = 1 then some (⟨gg, oo, none⟩ : Addr) else some ⟨gg, oo + 5, none⟩) = r at hr ⊢
          generalize (((((W2.setCell ⟨w2.heap.size, 0, none⟩ (.int .i64 y0)).setCell ⟨w2.heap.size, 1, none⟩ (.int .i64 y1)).setCell ⟨w2.heap.size, 2, none⟩ (.int .i64 y2)).setCell ⟨w2.heap.size, 3, none⟩ (.int .i64 y3)).setCell ⟨w2.heap.size, 4, none⟩ (.int .i64 y4)).drew = W3 at HX2 HB2 HW2 ⊢
          have X := HX2.out
          have HB1 := HB2
          have HW1 := HW2
          clear HX2 HB2 HW2
          obtain ⟨zc0, zc1, zc2, zc3, zc4⟩ := X.cell5
          have HROW2 := Lib.hid (own5_below HREL.out.row HW1.out)
          have HSL := HB1.out.size
          go_wp2_with (first
            | (go_at_call 76; refine (kU_tt _).mono ?_; rintro e w3 ⟨rfl, rfl⟩)
            | (at_builtin; refine append_in5 rfl (.tmp 46) (.tmp 48) rfl w.heap.size _ D.length _ rfl (HROW2.out.alloc _) (some ⟨W3.heap.size, 0, none⟩) [(y0, y1, y2, y3, y4)] 1 1 rfl rfl (by decide) (reads5_block (Box.new W3 25 #[.int .i64 y0, .int .i64 y1, .int .i64 y2, .int .i64 y3, .int .i64 y4]) rfl) (by have := hsz.out; omega) (by simp; omega) ?_; intro v3 w3 hv3 hB3; have O3 := Lib.hid hv3; have B3 := Lib.hid ((HB1.out.alloc HB1.out.size (.cells #[.int .i64 y0, .int .i64 y1, .int .i64 y2, .int .i64 y3, .int .i64 y4] 25)).trans hB3); clear hv3 hB3))
          refine ⟨⟨A, B, D ++ [y], q, r, n, m, (ca - 1), (cb - 1), rfl, rfl, (by omega), (by omega), HLA, HLB, Lib.hid (by have := hsz.out; simp; omega), Lib.hid ⟨hq.out, hr.out, ?_, (fun z hz => HREL.out.oa z (List.mem_cons_of_mem _ hz)), (fun z hz => HREL.out.ob z (List.mem_cons_of_mem _ hz)), ?_, B3.out⟩⟩, by simp [slen]; try omega⟩
          · have h := HEQ.out; simpa [one, kU] using h
          · have h := O3.out; rw [List.length_append, List.map_append, List.map_singleton, Hy.out]; exact h
        · have hv2 : cmpL x y = 1 := h
          rw [mrg_gt kU x y A B (by omega)] at hR
          have HEQ := Lib.hid hR
          obtain rfl : v = 1 := hv.symm.trans hv2
          clear hR hv hv2 h
          go_wp2_with (first
            | (go_at_call 77; refine (heads_both _ _ _ _ _ _ _ (by omega) (by omega) g gg o oo x0 x1 x2 x3 x4 y0 y1 y2 y3 y4 1 rfl rfl HAx HAy HCV).mono ?_; rintro e w2 ⟨rfl, hB⟩; have B2 := Lib.hid hB; clear hB))
          have HREL2 := Lib.hid (HREL.out.on B2.out)
          have HAx2 := Lib.hid (HAx.out.below B2.out)
          have HAy2 := Lib.hid (HAy.out.below B2.out)
          have hlg2 := Nat.lt_of_lt_of_le hlg B2.out.size
          have hlgg2 := Nat.lt_of_lt_of_le hlgg B2.out.size
          clear HREL HAx HAy HB0 hws hlg hlgg
          have HREL := HREL2
          have HAx := HAx2
          have HAy := HAy2
          have hlg := hlg2
          have hlgg := hlgg2
          clear HREL2 HAx2 HAy2 hlg2 hlgg2 B2
          have HB0 := Lib.hid HREL.out.hb
          have hws := HREL.out.hb.size
          have X := Box.new w2 25 #[.int .i64 0, .int .i64 0, .int .i64 0, .int .i64 0, .int .i64 0]
          have HB1 := Lib.hid (HB0.out.alloc HB0.out.size (.cells #[.int .i64 0, .int .i64 0, .int .i64 0, .int .i64 0, .int .i64 0] 25))
          have HW1 := Lib.hid ((Below.refl w2.heap.size w2).alloc (Nat.le_refl _) (.cells #[.int .i64 0, .int .i64 0, .int .i64 0, .int .i64 0, .int .i64 0] 25))
          generalize w2.alloc (.cells #[.int .i64 0, .int .i64 0, .int .i64 0, .int .i64 0, .int .i64 0] 25) = W at X HB1 HW1 ⊢
          obtain ⟨c0, c1, c2, c3, c4⟩ := (HAy.out.below HW1.out)
          obtain ⟨zc0, zc1, zc2, zc3, zc4⟩ := X.cell5
          obtain ⟨f0, f1, f2, f3, f4⟩ := X.free5
          have hxg : w2.heap.size ≠ gg := by omega
          have hgx : gg ≠ w2.heap.size := by omega
          have HX := Lib.hid X
          clear X
          go_region
          have HX2 := Lib.hid (HX.out.put5 (.int .i64 y0) (.int .i64 y1) (.int .i64 y2) (.int .i64 y3) (.int .i64 y4)).drew
          have HB2 := Lib.hid (below_put5 HB1.out HB0.out.size (.int .i64 y0) (.int .i64 y1) (.int .i64 y2) (.int .i64 y3) (.int .i64 y4)).drew
          have HW2 := Lib.hid (below_put5 HW1.out (Nat.le_refl _) (.int .i64 y0) (.int .i64 y1) (.int .i64 y2) (.int .i64 y3) (.int .i64 y4)).drew
          clear c0 c1 c2 c3 c4 zc0 zc1 zc2 zc3 zc4 f0 f1 f2 f3 f4 HX HB1 HW1 hxg hgx
          generalize (if cb = 1 then some (⟨gg, oo, none⟩ : Addr) else some ⟨gg, oo + 5, none⟩) = r at hr ⊢
          generalize (((((W.setCell ⟨w2.heap.size, 0, none⟩ (.int .i64 y0)).setCell ⟨w2.heap.size, 1, none⟩ (.int .i64 y1)).setCell ⟨w2.heap.size, 2, none⟩ (.int .i64 y2)).setCell ⟨w2.heap.size, 3, none⟩ (.int .i64 y3)).setCell ⟨w2.heap.size, 4, none⟩ (.int .i64 y4)).drew = W2 at HX2 HB2 HW2 ⊢
          have X := HX2.out
          have HB1 := HB2
          have HW1 := HW2
          clear HX2 HB2 HW2
          obtain ⟨zc0, zc1, zc2, zc3, zc4⟩ := X.cell5
          have HROW2 := Lib.hid (own5_below HREL.out.row HW1.out)
          have HSL := HB1.out.size
          go_wp2_with (first
            | (go_at_call 76; refine (kU_ft _).mono ?_; rintro e w3 ⟨rfl, rfl⟩)
            | (at_builtin; refine append_in5 rfl (.tmp 46) (.tmp 48) rfl w.heap.size _ D.length _ rfl (HROW2.out.alloc _) (some ⟨W2.heap.size, 0, none⟩) [(y0, y1, y2, y3, y4)] 1 1 rfl rfl (by decide) (reads5_block (Box.new W2 25 #[.int .i64 y0, .int .i64 y1, .int .i64 y2, .int .i64 y3, .int .i64 y4]) rfl) (by have := hsz.out; omega) (by simp; omega) ?_; intro v3 w3 hv3 hB3; have O3 := Lib.hid hv3; have B3 := Lib.hid ((HB1.out.alloc HB1.out.size (.cells #[.int .i64 y0, .int .i64 y1, .int .i64 y2, .int .i64 y3, .int .i64 y4] 25)).trans hB3); clear hv3 hB3))
          refine ⟨⟨(x :: A), B, D ++ [y], _, r, (n + 1), m, ca, (cb - 1), rfl, rfl, ha, (by omega), hn, HLB, Lib.hid (by have := hsz.out; simp; omega), Lib.hid ⟨HREL.out.ra, hr.out, ?_, HREL.out.oa, (fun z hz => HREL.out.ob z (List.mem_cons_of_mem _ hz)), ?_, B3.out⟩⟩, by simp [slen]; try omega⟩
          · have h := HEQ.out; simpa [one, kU] using h
          · have h := O3.out; rw [List.length_append, List.map_append, List.map_singleton, Hy.out]; exact h
end Go.Proofs.Ytdahaajfkjmflaa.s14
