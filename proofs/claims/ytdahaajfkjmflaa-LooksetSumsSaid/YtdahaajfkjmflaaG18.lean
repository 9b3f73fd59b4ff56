/-
  Layer 14: the reference's cut and Cut. Layer 14: the reference's Sum, where it errs. A region that draws its order: first operations by their specifications (they read or make new memory), then a forced tail (a store, an append). Layer 14: the reference's Sum. Layer 14: sums and cuts of any two lists, by both.
-/
import Derived.Test.YtdahaajfkjmflaaG17
import Derived.Test.YtdahaajfkjmflaaG10
import Derived.Test.YtdahaajfkjmflaaG14
import Derived.Test.YtdahaajfkjmflaaG09
import Derived.Test.YtdahaajfkjmflaaG04
import Derived.Test.YtdahaajfkjmflaaG15
namespace Go.Proofs.Ytdahaajfkjmflaa.s14
set_option linter.unusedVariables false
set_option linter.unusedSimpArgs false
open Go.RowKit
open kit

open s13

open Go.Shelf
theorem okL_nil : okL 8 [] := ⟨by simp, by simp⟩
theorem join_empty {x : List Int} (hx : okL 8 x) {K : Nat} (h1 : 1 ≤ K) (hK : K ≤ 4) {X : V5} (ex : pad5 x = X) : joinE (K : Int) X (0, 0, 0, 0, 0) = (pad5 (x.take K), 0) := by
  have h := joinE_ok hx okL_nil h1 hK
  rw [List.append_nil, ex] at h
  exact h
set_option maxRecDepth 100000 in
set_option maxHeartbeats 6000000 in
theorem rcutset_any (a : Option Addr) (n c K : Nat) (L : List (List Int)) (w : World) (hl : Hid (L.length = n)) (hn : n ≤ 20000) (k1 : 1 ≤ K) (hK : K ≤ 4) (hL : Hid (∀ x ∈ L, okL 8 x)) (hr : Hid (Reads5 w a (L.map pad5))) :
    Calls Try.prog 65 #[.int .i64 K, .slice a n c] w (RetS w (setS (L.map (List.take K)))) := by
  go_enter Try.func65, Try.ntmps65
  go_wp2
  go_loopw [5, 6] (fun v5 v6 wr => ∃ i : Nat, v6 = .int .i64 i ∧ i ≤ n ∧ Hid (wr.ownsRow w.heap.size 25 5 v5 i (flat5 (((L.take i).map (List.take K)).map pad5))) ∧ Hid (Below w.heap.size w wr)) (fun _ v _ => n - (intOf v).toNat)
  case atStart => exact ⟨0, rfl, by omega, Lib.hid (World.ownsRow_nil _ _ _ _), Lib.hid (Below.refl _ _)⟩
  case round =>
    obtain ⟨i, rfl, hi, HRow, HB⟩ := hrel
    by_cases hlt : i < n
    · have hil : i < L.length := by rw [hl.out]; exact hlt
      obtain ⟨g, o, rfl, hg, hat⟩ := (hr.out.below HB.out) i (by rw [List.length_map]; exact hil)
      rw [map_getD hil] at hat
      have hok := hL.out _ (mem_getL hil)
      have htk := take_getL hil
      generalize L[i]?.getD [] = x at hat hok htk
      obtain ⟨⟨x0, x1, x2, x3, x4⟩, ex⟩ : ∃ y, pad5 x = y := ⟨_, rfl⟩
      rw [ex] at hat
      obtain ⟨c0, c1, c2, c3, c4⟩ := hat
      obtain ⟨⟨y0, y1, y2, y3, y4⟩, ey⟩ : ∃ y, pad5 (x.take K) = y := ⟨_, rfl⟩
      have HE : Hid (joinE (K : Int) (x0, x1, x2, x3, x4) (0, 0, 0, 0, 0) = ((y0, y1, y2, y3, y4), 0)) := Lib.hid (by rw [join_empty hok k1 hK ex, ey])
      have HTK := Lib.hid (show ((L.take (i + 1)).map (List.take K)) = (L.take i).map (List.take K) ++ [x.take K] by rw [htk, List.map_append]; rfl)
      have HEY := Lib.hid ey
      have hsz := HB.out.size
      clear hil hok htk ex ey
      go_wp2_with (first
        | (go_at_call 66; refine (rjoin14_any (K : Int) x0 x1 x2 x3 x4 0 0 0 0 0 _ y0 y1 y2 y3 y4 0 HE).mono ?_; rintro e w1 ⟨rfl, hB⟩; have B1 := Lib.hid (below_then HB.out hB); have R1 := Lib.hid (own5_below HRow.out hB); have S1 := B1.out.size; clear hB)
        | (at_builtin; refine append_in5 rfl (.tmp 13) (.tmp 21) rfl w.heap.size _ i _ rfl (R1.out.alloc _) _ [(y0, y1, y2, y3, y4)] 1 1 rfl rfl (by decide) (reads5_block (Box.new w1 25 #[.int .i64 y0, .int .i64 y1, .int .i64 y2, .int .i64 y3, .int .i64 y4]) rfl) (by omega) (by simp; omega) ?_; intro v3 w3 hv3 hB3; have O3 := Lib.hid hv3; have B3 := Lib.hid ((B1.out.alloc B1.out.size (.cells #[.int .i64 y0, .int .i64 y1, .int .i64 y2, .int .i64 y3, .int .i64 y4] 25)).trans hB3); clear hv3 hB3))
      go_roundw
      case rel => exact ⟨i + 1, by go_num, by omega, Lib.hid (by rw [HTK.out, flat_snoc _ _ HEY.out]; exact O3.out), B3⟩
      case measure => simp [intOf]; omega
    · obtain rfl : i = n := by omega
      have hrow := HRow.out
      rw [List.take_of_length_le (by rw [hl.out]; omega)] at hrow
      obtain ⟨p, cp, rfl, hcp⟩ := row5_shape hrow
      have hlen : (L.map (List.take K)).length = i := by rw [List.length_map]; exact hl.out
      have HLEN := Lib.hid hlen
      have HRR := Lib.hid (reads5_of_row (l := (L.map (List.take K)).map pad5) (by rw [List.length_map]; exact hlen) hrow)
      have HOK : Hid (∀ x ∈ L.map (List.take K), okL 8 x) := Lib.hid (fun x hx => by
        obtain ⟨y, hy, rfl⟩ := List.mem_map.1 hx
        exact okL_take (hL.out y hy) K)
      clear hrow hlen HRow
      go_wp2_with (go_at_call 48; refine (rsorted_any i i (Nat.le_refl _) p cp (L.map (List.take K)) _ HLEN (by omega) hcp HOK HRR).mono ?_; rintro e w2 ⟨p2, c2, N2, rfl, l2, m2, r2, b2⟩; have L2 := Lib.hid l2; have R2 := Lib.hid r2; have B2 := Lib.hid (below_then HB.out b2); clear l2 r2 b2)
      go_ret
      exact ⟨p2, c2, N2, rfl, L2.out, m2, R2.out, B2.out⟩
set_option maxRecDepth 100000 in
set_option maxHeartbeats 2000000 in
theorem rcut_bad (t k : Int) (a : Option Addr) (n c : Nat) (l : List V5) (w : World) (hl : Hid (l.length = n)) (hn : n ≤ 60000) (hr : Hid (Reads5 w a l)) (r q : Int) (HR : Hid (chkS t l = r)) (HQ : Hid (rngE r k = q)) (h0 : (q != 0) = true) :
    Calls Try.prog 33 #[.int .i64 t, .int .i64 k, .slice a n c] w fun e w' => e = noS q ∧ Below w.heap.size w w' := by
  go_enter Try.func33, Try.ntmps33
  go_wp2_with (fail)
  go_at_call 12
  refine (rset_any t a n c l _ hl hn hr r HR).mono ?_
  rintro e w1 ⟨rfl, hB⟩
  have B1 := Lib.hid hB
  clear hB
  go_wp2_with (fail)
  go_at_call 64
  refine (rranged_any r k _ q HQ).mono ?_
  rintro e w2 ⟨rfl, rfl⟩
  go_wp2
  go_ret2
  exact ⟨rfl, B1.out⟩
set_option maxRecDepth 100000 in
set_option maxHeartbeats 2000000 in
theorem rcut_ok (t : Int) (K : Nat) (a : Option Addr) (n c : Nat) (L : List (List Int)) (w : World) (hK1 : 1 ≤ K) (hK4 : K ≤ 4) (hl : Hid (L.length = n)) (hn : n ≤ 20000) (hL : Hid (∀ x ∈ L, okL 8 x)) (ha : Hid (Asc L)) (hr : Hid (Reads5 w a (L.map pad5))) (HR : Hid (chkS t (L.map pad5) = 0)) :
    Calls Try.prog 33 #[.int .i64 t, .int .i64 K, .slice a n c] w fun e w' => ∃ p cp N, e = .returned (.tuple #[.slice p N cp, .int .i64 0]) ∧ (cutS K L).length = N ∧ Reads5 w' p ((cutS K L).map pad5) ∧ Below w.heap.size w w' ∧ N ≤ cp := by
  have HQ : Hid (rngE 0 (K : Int) = 0) := Lib.hid (by unfold rngE; rw [if_neg (by omega)])
  have HC := Lib.hid (cutS_set K ha.out)
  go_enter Try.func33, Try.ntmps33
  go_wp2_with (fail)
  go_at_call 12
  refine (rset_any t a n c _ _ (Lib.hid (by rw [List.length_map]; exact hl.out)) (by omega) hr 0 HR).mono ?_
  rintro e w1 ⟨rfl, hB⟩
  have B1 := Lib.hid hB
  have R1 := Lib.hid (hr.out.below hB)
  clear hB
  go_wp2_with (fail)
  go_at_call 64
  refine (rranged_any 0 K _ 0 HQ).mono ?_
  rintro e w2 ⟨rfl, rfl⟩
  go_wp2_with (fail)
  go_at_call 65
  refine (rcutset_any a n c K L _ hl hn hK1 hK4 hL R1).mono ?_
  rintro e w3 ⟨p, cp, N, rfl, l3, m3, r3, b3⟩
  have L3 := Lib.hid l3
  have R3 := Lib.hid r3
  have B3 := Lib.hid (below_then B1.out b3)
  clear l3 r3 b3
  go_wp2
  go_ret2
  exact ⟨p, cp, N, rfl, by rw [HC.out]; exact L3.out, by rw [HC.out]; exact R3.out, B3.out, m3⟩
end Go.Proofs.Ytdahaajfkjmflaa.s14

namespace Go.Proofs.Ytdahaajfkjmflaa.s14
set_option linter.unusedVariables false
set_option linter.unusedSimpArgs false
open Go.RowKit
open kit

open s13

open Go.Shelf
set_option maxRecDepth 100000 in
set_option maxHeartbeats 2000000 in
theorem rsum_bad (t k : Int) (a b : Option Addr) (n m ca cb : Nat) (la lb : List V5) (w : World) (hn : Hid (la.length = n)) (hm : Hid (lb.length = m)) (hn6 : n ≤ 60000) (hm6 : m ≤ 60000) (ra : Hid (Reads5 w a la)) (rb : Hid (Reads5 w b lb)) (r q : Int) (HR : Hid (chkA t [la, lb] = r)) (HQ : Hid (rngE r k = q)) (h0 : (q != 0) = true) :
    Calls Try.prog 31 #[.int .i64 t, .int .i64 k, .slice a n ca, .slice b m cb] w fun e w' => e = noS q ∧ Below w.heap.size w w' := by
  go_enter Try.func31, Try.ntmps31
  go_wp2_with (fail)
  go_at_call 56
  refine (s14.rboth_any t a b n m ca cb la lb _ hn hm hn6 hm6 ra rb r HR).mono ?_
  rintro e w1 ⟨rfl, hB⟩
  have B1 := Lib.hid hB
  clear hB
  go_wp2_with (fail)
  go_at_call 64
  refine (rranged_any r k _ q HQ).mono ?_
  rintro e w2 ⟨rfl, rfl⟩
  go_wp2
  go_ret2
  exact ⟨rfl, B1.out⟩
/-- what one string gives with all of a set -/
def rowJ (K : Nat) (x : List Int) (B : List (List Int)) : List (List Int) := B.map fun y => (x ++ y).take K
def allJ (K : Nat) (A B : List (List Int)) : List (List Int) := A.flatMap fun x => rowJ K x B
theorem allJ_snoc (K : Nat) (A B : List (List Int)) (x : List Int) : allJ K (A ++ [x]) B = allJ K A B ++ rowJ K x B := by
  unfold allJ; rw [List.flatMap_append]; simp
theorem allJ_len (K : Nat) (B : List (List Int)) : ∀ A : List (List Int), (allJ K A B).length = A.length * B.length
  | [] => by simp [allJ]
  | x :: A => by
    have ih := allJ_len K B A
    unfold allJ at ih ⊢
    rw [List.flatMap_cons, List.length_append, ih]
    simp only [rowJ, List.length_map, List.length_cons, Nat.succ_mul]
    omega
/-- out, and the next string's row -/
theorem allJ_step (K : Nat) (A B : List (List Int)) (x : List Int) : mrg kU (setS (allJ K A B)) (setS (rowJ K x B)) = setS (allJ K (A ++ [x]) B) := by
  rw [setS_two, allJ_snoc]
/-- a string of K terminals gives itself alone -/
theorem allJ_whole {K : Nat} {A B : List (List Int)} {x : List Int} (hx : x.length = K) (hB : B ≠ []) : mrg kU (setS (allJ K A B)) [x] = setS (allJ K (A ++ [x]) B) := by
  refine setS_eq (asc_mrg kU _ _ (setS_asc _) (asc_one x)) (fun z => ?_)
  rw [mem_mrg kU z _ _ (setS_asc _) (asc_one x), inM_U, setS_mem, allJ_snoc, List.mem_append]
  refine or_congr Iff.rfl ?_
  have e : ∀ y : List Int, (x ++ y).take K = x := fun y => by rw [← hx, List.take_left']; rfl
  constructor
  · intro h
    obtain rfl := List.mem_singleton.1 h
    obtain ⟨y, hy⟩ := List.exists_mem_of_ne_nil B hB
    exact List.mem_map.2 ⟨y, hy, e y⟩
  · intro h
    obtain ⟨y, _, rfl⟩ := List.mem_map.1 h
    rw [e y]; simp
theorem take_take1K (K : Nat) (x y : List Int) : (x.take K ++ y).take K = (x ++ y).take K := by
  rw [List.take_append, List.take_append, List.take_take, Nat.min_self]
  by_cases e : x.length ≤ K
  · rw [List.length_take, Nat.min_eq_right e]
  · rw [List.length_take, Nat.min_eq_left (by omega), Nat.sub_self, show K - x.length = 0 by omega]
theorem take_take2K (K : Nat) (x y : List Int) : (x ++ y.take K).take K = (x ++ y).take K := by
  rw [List.take_append, List.take_append, List.take_take, Nat.min_eq_left (by omega)]
theorem sum_cutK {A B : List (List Int)} (ha : Asc A) (hb : Asc B) (K : Nat) : sumS K A B (K + 1) = sumS K (cutS K A) (cutS K B) (K + 1) := by
  refine asc_ext (sumS_asc K ha hb _) (sumS_asc K (cutS_asc K ha) (cutS_asc K hb) _) (fun z => ?_)
  rw [sum_mem K ha hb, sum_mem K (cutS_asc K ha) (cutS_asc K hb)]
  constructor
  · rintro ⟨x, hx, y, hy, e⟩
    exact ⟨x.take K, (cutS_mem K A _).2 ⟨x, hx, rfl⟩, y.take K, (cutS_mem K B _).2 ⟨y, hy, rfl⟩, by rw [take_take2K, take_take1K]; exact e⟩
  · rintro ⟨x', hx, y', hy, e⟩
    obtain ⟨x, hx2, rfl⟩ := (cutS_mem K A _).1 hx
    obtain ⟨y, hy2, rfl⟩ := (cutS_mem K B _).1 hy
    exact ⟨x, hx2, y, hy2, by rw [← e, take_take2K, take_take1K]⟩
/-- the whole -/
theorem allJ_sum {K : Nat} {A B : List (List Int)} (ha : Asc A) (hb : Asc B) : setS (allJ K (cutS K A) (cutS K B)) = sumS K A B (K + 1) := by
  rw [sum_cutK ha hb K, sumS_set K (cutS_asc K ha) (cutS_asc K hb)]
  rfl
end Go.Proofs.Ytdahaajfkjmflaa.s14

namespace Go.Proofs.Ytdahaajfkjmflaa.kit
set_option linter.unusedVariables false
set_option linter.unusedSimpArgs false
set_option linter.unnecessarySimpa false
open Go Go.RowKit
section
variable {P : Program} {l : List Oper}
def doneTo (nh n : Nat) : Array Bool := ((List.range n).map fun i => decide (i < nh)).toArray
theorem count_all_false : ∀ (l : List Bool), (∀ x ∈ l, x = false) → l.count false = l.length
  | [], _ => rfl
  | x :: l, h => by
    have hx := h x (by simp)
    subst hx
    rw [List.count_cons, count_all_false l fun y hy => h y (by simp [hy])]; simp
theorem heads_left {listed : Array Bool} {nh : Nat} (hn : nh ≤ listed.size) (ht : ∀ t, nh ≤ t → t < listed.size → listed.getD t true = false) : left listed = (listed.toList.take nh).count false + (listed.size - nh) := by
  unfold left
  conv => lhs; rw [← List.take_append_drop nh listed.toList]
  rw [List.count_append, count_all_false (listed.toList.drop nh)]
  · simp
  · intro x hx
    obtain ⟨i, hi, rfl⟩ := List.mem_iff_getElem.1 hx
    have hi2 : nh + i < listed.size := by simp at hi; omega
    have := ht (nh + i) (by omega) hi2
    rw [List.getElem_drop]
    simpa [hi2] using this
theorem heads_done {listed : Array Bool} {nh : Nat} (hn : nh ≤ listed.size) (ht : ∀ t, nh ≤ t → t < listed.size → listed.getD t true = false) (h : left listed = listed.size - nh) (j : Nat) (hj : j < nh) : listed.getD j false = true := by
  rw [heads_left hn ht] at h
  have h0 : (listed.toList.take nh).count false = 0 := by omega
  rw [List.count_eq_zero] at h0
  have hjs : j < listed.size := by omega
  cases e : listed[j] with
  | true => simp [hjs, e]
  | false =>
    exfalso
    refine h0 (List.mem_iff_getElem.2 ⟨j, by simp; omega, ?_⟩)
    rw [List.getElem_take]; simpa using e
theorem heads_some {listed : Array Bool} {nh : Nat} (hn : nh ≤ listed.size) (ht : ∀ t, nh ≤ t → t < listed.size → listed.getD t true = false) (h : listed.size - nh < left listed) : ∃ j, j < nh ∧ listed.getD j true = false := by
  rw [heads_left hn ht] at h
  have h0 : 0 < (listed.toList.take nh).count false := by omega
  obtain ⟨j, hj, e⟩ := List.mem_iff_getElem.1 (List.count_pos_iff.1 h0)
  have hjn : j < nh ∧ j < listed.size := by simp at hj; omega
  rw [List.getElem_take] at e
  exact ⟨j, hjn.1, by simp [hjn.2]; simpa using e⟩
theorem listed_done {listed : Array Bool} {nh : Nat} (ht : ∀ t, nh ≤ t → t < listed.size → listed.getD t true = false) (hd : ∀ j, j < nh → listed.getD j false = true) : listed = doneTo nh listed.size := by
  refine Array.ext (by simp [doneTo]) fun i h1 h2 => ?_
  simp only [doneTo, List.getElem_toArray, List.getElem_map, List.getElem_range]
  by_cases h : i < nh
  · rw [decide_eq_true h]
    have := hd i h
    simpa [h1] using this
  · rw [decide_eq_false h]
    have := ht i (by omega) h1
    simpa [h1] using this
theorem wpAny_of_specs_tail {S : List Sp} {a : Act} {w0 : World} {Q : Exit → Act → World → Prop} (nh : Nat) (hK : ∀ s ∈ S, s.Keeps) (hF : Fit l a.tmps.size) (hS : stepsOk P (l.take nh) S a w0 (l.take nh) S) (hgd : ((l.take nh).all fun o => o.guard.isNone) = true)
    (hs : Region.sinkB .any l.toArray nh = true) (hc : Region.chainB .any l.toArray nh = true) (hn : nh < l.length) (hq : Region.seqB .any l.toArray (l.length - nh) nh (doneTo nh l.length) = true)
    (hQ : ∀ vs w, Below w0.heap.size w0 w → (∀ (i : Nat) (s : Sp), S[i]? = some s → s.Ok (vs i) w) → wpList P l.toArray Q (l.drop nh) (putAll vs 0 (l.take nh) a) w) :
    ∀ (fuel : Nat) (listed : Array Bool) (vs : Nat → Value) (A : Act) (w : World), HeadInv .any l.toArray nh listed → left listed = fuel + (l.length - nh) → In l S a w0 listed vs A w → wpAny P .any l.toArray Q (fuel + (l.length - nh)) listed A w := by
  obtain ⟨hlen, hat⟩ := stepsOk_at hS
  have htl : (l.take nh).length = nh := by simp; omega
  have hdl : (l.drop nh).length = l.length - nh := by simp
  intro fuel
  induction fuel with
  | zero =>
    intro listed vs A w inv hleft hI
    have hsz : listed.size = l.length := by have := inv.size; simpa using this
    have htail : ∀ t, nh ≤ t → t < listed.size → listed.getD t true = false := fun t h1 h2 => inv.tail t h1 (by simp; omega)
    have hall := heads_done (nh := nh) (by omega) htail (by omega)
    have hld : listed = doneTo nh l.length := by rw [← hsz]; exact listed_done htail hall
    have hdone : ∀ i o s, (l.take nh)[i]? = some o → S[i]? = some s → s.Ok (vs i) w ∧ ∀ d, o.dst = some d → A.eval (.tmp d) = vs i := fun i o s ho hs => by
      have hi : i < nh := by have := (List.getElem?_eq_some_iff.1 ho).1; omega
      exact hI.done i o s (by rw [List.getElem?_take_of_lt hi] at ho; exact ho) hs (hall i hi)
    have hlies : ∀ (i : Nat) o, (l.take nh)[i]? = some o → ∀ d, o.dst = some d → d < a.tmps.size := fun i o ho d hd => by
      have hi : i < nh := by have := (List.getElem?_eq_some_iff.1 ho).1; omega
      rw [List.getElem?_take_of_lt hi] at ho
      exact hF.lies i o ho d hd
    have hA : A = putAll vs 0 (l.take nh) a := by
      obtain ⟨s1, s2⟩ := size_putAll vs (l.take nh) 0 a
      refine act_ext (hI.size.trans s1.symm) (hI.defers.trans s2.symm) fun t => ?_
      obtain ⟨e1, e2⟩ := eval_putAll vs t (l.take nh) 0 a hlies
      by_cases hex : ∃ (i : Nat) (o : Oper), (l.take nh)[i]? = some o ∧ o.dst = some t
      · obtain ⟨i, o, ho, hd⟩ := hex
        have hil := (List.getElem?_eq_some_iff.1 ho).1
        have hin : i < nh := by omega
        have hsi : S[i]? = some (S[i]'(by omega)) := List.getElem?_eq_getElem (by omega)
        rw [e2 i o ho hd fun j x hij hx hxd => by
          have hjn : j < nh := by have := (List.getElem?_eq_some_iff.1 hx).1; omega
          rw [List.getElem?_take_of_lt hin] at ho
          rw [List.getElem?_take_of_lt hjn] at hx
          exact hF.once i j o x hij ho hx t hd hxd, (hdone i o _ ho hsi).2 t hd]
        simp
      · rw [e1 fun i o ho hd => hex ⟨i, o, ho, hd⟩]
        refine hI.rest t fun i o ho hl hd => ?_
        by_cases hin : i < nh
        · exact hex ⟨i, o, by rw [List.getElem?_take_of_lt hin]; exact ho, hd⟩
        · have hil := (List.getElem?_eq_some_iff.1 ho).1
          have := htail i (by omega) (by omega)
          simp [show i < listed.size by omega] at this hl
          rw [this] at hl; cases hl
    have := wpAny_of_seq (P := P) (ops := l.toArray) (md := .any) (Q' := Q) (l.drop nh) nh listed A w (fun j => by simp [List.getElem?_drop]) (by rw [hdl, hld]; exact hq) (by
      rw [hA]
      refine hQ vs w hI.below fun i s hs => ?_
      have hil := (List.getElem?_eq_some_iff.1 hs).1
      have hli : (l.take nh)[i]? = some ((l.take nh)[i]'(by omega)) := List.getElem?_eq_getElem (by omega)
      exact (hdone i _ s hli hs).1)
    rw [hdl] at this
    rw [Nat.zero_add]
    exact this
  | succ fuel ih =>
    intro listed vs A w inv hleft hI
    have hsz : listed.size = l.length := by have := inv.size; simpa using this
    have htail : ∀ t, nh ≤ t → t < listed.size → listed.getD t true = false := fun t h1 h2 => inv.tail t h1 (by simp; omega)
    obtain ⟨i0, hi0, hun0⟩ := heads_some (nh := nh) (by omega) htail (by omega)
    rw [show fuel + 1 + (l.length - nh) = (fuel + (l.length - nh)) + 1 by omega]
    refine ⟨fun hnil => ?_, fun j hj => ?_⟩
    · exfalso
      have key : ∀ j, j < nh → listed.getD j false = true := by
        intro j
        induction j using Nat.strongRecOn with
        | _ j ihj =>
          intro hjn
          have hjl : j < l.length := by omega
          have hoj : l[j]? = some l[j] := List.getElem?_eq_getElem hjl
          cases e : listed.getD j false with
          | true => rfl
          | false =>
            have hjs : j < listed.size := by omega
            have hin : j ∈ Region.ready .any l.toArray listed := mem_ready.2 ⟨by simpa [hjs] using e, l[j], by simpa using hoj, fun ed hed hb => by
              have hlt := hF.back j _ hoj ed hed hb
              exact ihj ed.on hlt (by omega)⟩
            rw [hnil] at hin; cases hin
      have h := key i0 hi0
      have hjs : i0 < listed.size := by omega
      simp [hjs] at h hun0; rw [h] at hun0; cases hun0
    · have hjn : j < nh := by
        rcases Nat.lt_or_ge j nh with h | h
        · exact h
        · exact absurd hj (tail_waits hs hc (by simpa using hn) inv _ i0 rfl hi0 hun0 j h)
      obtain ⟨hun, o, ho, _⟩ := mem_ready.1 hj
      have ho' : l[j]? = some o := by simpa using ho
      have ho2 : (l.take nh)[j]? = some o := by rw [List.getElem?_take_of_lt hjn]; exact ho'
      obtain ⟨s, hs', hstep⟩ := hat j o ho2
      have hg0 : o.guard = none := by
        rw [List.all_eq_true] at hgd
        simpa using hgd o (List.mem_of_getElem? ho2)
      have hpre : Pre (l.take nh) S a o A w := by
        have h0 := pre_of hI hj ho'
        refine ⟨fun t ht => hI.rest t fun i oi hi hl => ?_, fun i hi oi s hoi hs => h0.2 i hi oi s ?_ hs⟩
        · have hil := (List.getElem?_eq_some_iff.1 hi).1
          have hin : i < nh := by
            rcases Nat.lt_or_ge i nh with h | h
            · exact h
            · exfalso
              have := htail i h (by omega)
              simp [show i < listed.size by omega] at this hl
              rw [this] at hl; cases hl
          rw [List.all_eq_true] at ht
          simpa using ht oi (List.mem_of_getElem? (show (l.take nh)[i]? = some oi by rw [List.getElem?_take_of_lt hin]; exact hi))
        · have hin : i < nh := by have := (List.getElem?_eq_some_iff.1 hoi).1; omega
          rw [List.getElem?_take_of_lt hin] at hoi
          exact hoi
      have hwt : ∀ y, Region.wanted o y = true := fun y => by simp [Region.wanted, hg0]
      have hst := hstep A w hI.below hpre
      have hgo : ∀ v w', Below w.heap.size w w' → s.Ok v w' → wpAny P .any l.toArray Q (fuel + (l.length - nh)) (listed.setIfInBounds j true) (A.put o.dst v) w' := fun v w' hB hv =>
        ih _ _ _ _ (inv.set hj hjn) (by have := left_set hun; omega) (hI.next hK hF ho' hs' hun hB hv)
      unfold wpOp
      rw [ho]
      simp only
      rcases hst with ⟨hw, h⟩ | ⟨hw, h⟩
      · rw [if_pos (hwt _)]
        exact .inl (wp_of_spec h hgo)
      · rw [hwt] at hw; cases hw
/-- **a region by the specifications of its first operations, and then its tail** -/
theorem wp_region_specs_tail {id : Nat} {Q : Exit → Act → World → Prop} {a : Act} {w : World} (nh : Nat) (S : List Sp) (hm : P.follows .mixedOrders = true) (hB : fitB l a.tmps.size = true)
    (ht : (Region.sinkB .any l.toArray nh && Region.chainB .any l.toArray nh && decide (nh < l.length) && Region.seqB .any l.toArray (l.length - nh) nh (doneTo nh l.length) && (l.take nh).all fun o => o.guard.isNone) = true) (hK : ∀ s ∈ S, s.Keeps)
    (hS : stepsOk P (l.take nh) S a w (l.take nh) S) (hQ : ∀ vs w', Below w.heap.size w w' → (∀ (i : Nat) (s : Sp), S[i]? = some s → s.Ok (vs i) w') → wpList P l.toArray Q (l.drop nh) (putAll vs 0 (l.take nh) a) w') : (Code.region id l.toArray true).wp P Q a w := by
  simp only [Bool.and_eq_true, decide_eq_true_eq] at ht
  obtain ⟨⟨⟨⟨hs, hc⟩, hn⟩, hq⟩, hgd⟩ := ht
  refine wp_region_any hm ?_
  have hb : Below w.heap.size w { w with drawn := w.drawn + 1 } := (Below.refl _ w).drew
  have inv0 : HeadInv .any l.toArray nh (Array.replicate l.toArray.size false) :=
    ⟨by simp, fun j oj _ hl => (by rw [getD_replicate_false] at hl; cases hl), fun t _ ht => getD_in (by simpa using ht) (getD_replicate_false _ _)⟩
  have hl0 : left (Array.replicate l.toArray.size false) = nh + (l.length - nh) := by simp [left]; omega
  have := wpAny_of_specs_tail (P := P) nh hK (fit_of hB) hS hgd hs hc hn hq hQ nh (Array.replicate l.toArray.size false) (fun _ => undef) a { w with drawn := w.drawn + 1 } inv0 hl0 ⟨hb, rfl, rfl, fun i o s ho hs hl => (by rw [getD_replicate_false] at hl; cases hl), fun t _ => rfl⟩
  rw [show nh + (l.length - nh) = l.toArray.size by simp; omega] at this
  exact this
end
end Go.Proofs.Ytdahaajfkjmflaa.kit

namespace Go.Proofs.Ytdahaajfkjmflaa.s14
set_option linter.unusedVariables false
set_option linter.unusedSimpArgs false
open Go.RowKit
open kit

open s13

open Go.Shelf
theorem reads_sub {w : World} {b off : Nat} {L : List (List Int)} (h : Reads5 w (some ⟨b, off, none⟩) (L.map pad5)) {i : Nat} (hi : i < L.length) : Reads5 w (some ⟨b, off + i * 5, none⟩) ([L[i]?.getD []].map pad5) := fun j hj => by
  obtain rfl : j = 0 := by simp at hj; omega
  obtain ⟨b', off', e, hb, hat⟩ := h i (by simpa using hi)
  cases e
  refine ⟨b, off + i * 5, rfl, hb, ?_⟩
  rw [map_getD hi] at hat
  simpa using hat
theorem load5_at {w : World} {b o : Nat} {n a b' c d : Int} (h : At5 w b o (n, a, b', c, d)) : (Instr.loadAt 25 (.pointer (some ⟨b, o, none⟩))).run Try.prog w = .ok (.agg #[.int .i64 n, .int .i64 a, .int .i64 b', .int .i64 c, .int .i64 d]) w := by
  obtain ⟨z0, z1, z2, z3, z4⟩ := h
  simp only at z0 z1 z2 z3 z4
  simp [go_sem, z0, z1, z2, z3, z4]
theorem idx5_at (b off n c i : Nat) (hi : i < n) (W : World) : (Instr.indexAt 22 (.slice (some ⟨b, off, none⟩) n c) (.int .i64 i)).run Try.prog W = .ok (.pointer (some ⟨b, off + i * 5, none⟩)) W := by
  obtain ⟨i0, h0, hz0, hz1, hz2⟩ := info_parts info5
  have h1 : (i : Int) < n := by omega
  simp [Instr.indexAt, run_underlying Try.underlying22, sizeOf, typeInfo, h0, hz0, hz1, hz2, go_sem, hi, h1, Addr.add]
theorem rowJ_snoc (K : Nat) (x : List Int) (B : List (List Int)) {j : Nat} (hj : j < B.length) : rowJ K x (B.take (j + 1)) = rowJ K x (B.take j) ++ [(x ++ (B[j]?.getD [])).take K] := by
  unfold rowJ
  rw [List.take_succ_eq_append_getElem hj, List.map_append, List.getElem?_eq_getElem hj]; rfl
theorem rowJ_len (K : Nat) (x : List Int) (B : List (List Int)) : (rowJ K x B).length = B.length := by unfold rowJ; rw [List.length_map]
theorem rowJ_ok {K : Nat} (hK : K ≤ 4) {x : List Int} {B : List (List Int)} (hx : okL 8 x) (hB : ∀ y ∈ B, okL 8 y) : ∀ z ∈ rowJ K x B, okL 8 z := fun z hz => by
  obtain ⟨y, hy, rfl⟩ := List.mem_map.1 hz
  refine ⟨by rw [List.length_take]; omega, fun v hv => ?_⟩
  rcases List.mem_append.1 (List.mem_of_mem_take hv) with h | h
  · exact hx.2 v h
  · exact (hB y hy).2 v h
theorem allJ_ok {K : Nat} (hK : K ≤ 4) {A B : List (List Int)} (hA : ∀ x ∈ A, okL 8 x) (hB : ∀ y ∈ B, okL 8 y) : ∀ z ∈ allJ K A B, okL 8 z := fun z hz => by
  obtain ⟨x, hx, hz⟩ := List.mem_flatMap.1 hz
  exact rowJ_ok hK (hA x hx) hB z hz
set_option maxRecDepth 100000 in
set_option maxHeartbeats 2000000 in
theorem rsum_ok (t : Int) (K : Nat) (a b : Option Addr) (n m ca cb : Nat) (A B : List (List Int)) (w : World) (hK1 : 1 ≤ K) (hK4 : K ≤ 4) (hn : Hid (A.length = n)) (hm : Hid (B.length = m)) (hn6 : n ≤ 100) (hm6 : m ≤ 100) (hA : Hid (∀ x ∈ A, okL 8 x)) (hB : Hid (∀ x ∈ B, okL 8 x)) (aA : Hid (Asc A)) (aB : Hid (Asc B)) (ra : Hid (Reads5 w a (A.map pad5))) (rb : Hid (Reads5 w b (B.map pad5))) (HR : Hid (chkA t [A.map pad5, B.map pad5] = 0)) :
    Calls Try.prog 31 #[.int .i64 t, .int .i64 K, .slice a n ca, .slice b m cb] w fun e w' => ∃ p cp N, e = .returned (.tuple #[.slice p N cp, .int .i64 0]) ∧ (sumS K A B (K + 1)).length = N ∧ Reads5 w' p ((sumS K A B (K + 1)).map pad5) ∧ Below w.heap.size w w' ∧ N ≤ cp := by
  have HQ : Hid (rngE 0 (K : Int) = 0) := Lib.hid (by unfold rngE; rw [if_neg (by omega)])
  have HS : Hid (setS (allJ K (cutS K A) (cutS K B)) = sumS K A B (K + 1)) := Lib.hid (allJ_sum aA.out aB.out)
  have HCA := Lib.hid (cutS_set K aA.out)
  have HCB := Lib.hid (cutS_set K aB.out)
  go_enter Try.func31, Try.ntmps31
  go_wp2_with (fail)
  go_at_call 56
  refine (s14.rboth_any t a b n m ca cb _ _ _ (mlen hn) (mlen hm) (by omega) (by omega) ra rb 0 HR).mono ?_
  rintro e w1 ⟨rfl, hB1⟩
  have B1 := Lib.hid hB1
  have ra1 := Lib.hid (ra.out.below hB1)
  have rb1 := Lib.hid (rb.out.below hB1)
  clear hB1
  go_wp2_with (fail)
  go_at_call 64
  refine (rranged_any 0 K _ 0 HQ).mono ?_
  rintro e w2 ⟨rfl, rfl⟩
  go_wp2_with (fail)
  go_at_call 65
  refine (rcutset_any a n ca K A _ hn (by omega) hK1 hK4 hA ra1).mono ?_
  rintro e w3 ⟨p, cp, N, rfl, l3, m3, r3, b3⟩
  rw [← HCA.out] at l3 r3
  have L3 := Lib.hid l3
  have R3 := Lib.hid r3
  have B3 := Lib.hid (below_then B1.out b3)
  have rb3 := Lib.hid (rb1.out.below b3)
  clear l3 r3 b3
  go_wp2_with (fail)
  go_at_call 65
  refine (rcutset_any b m cb K B _ hm (by omega) hK1 hK4 hB rb3).mono ?_
  rintro e w4 ⟨q, cq, M, rfl, l4, m4, r4, b4⟩
  rw [← HCB.out] at l4 r4
  have L4 := Lib.hid l4
  have R4 := Lib.hid r4
  have B4 := Lib.hid (below_then B3.out b4)
  have R34 := Lib.hid (R3.out.below b4)
  clear l4 r4 b4
  have hN : N ≤ 100 := by have h := cutS_len K A; rw [L3.out, hn.out] at h; omega
  have hM : M ≤ 100 := by have h := cutS_len K B; rw [L4.out, hm.out] at h; omega
  have OA : Hid (∀ x ∈ cutS K A, okL 8 x) := Lib.hid (cutS_ok K hA.out)
  have OB : Hid (∀ x ∈ cutS K B, okL 8 x) := Lib.hid (cutS_ok K hB.out)
  have SA : Hid (∀ x ∈ cutS K A, x.length ≤ K) := Lib.hid (fun x hx => cut_short x hx)
  generalize cutS K A = X at L3 R34 OA HS SA
  generalize cutS K B = Y at L4 R4 OB HS
  clear ra rb ra1 rb1 rb3 R3 HCA HCB HR HQ hn hm hA hB aA aB
  go_wp2
  go_loopw [11, 12, 13, 14] (fun vo vi vl vj wr => ∃ (i : Nat) (po : Option Addr) (co no : Nat), vo = .slice po no co ∧ vi = .int .i64 i ∧ i ≤ N ∧ no ≤ co ∧ Hid ((setS (allJ K (X.take i) Y)).length = no) ∧ Hid (Reads5 wr po ((setS (allJ K (X.take i) Y)).map pad5)) ∧ Hid (Below w.heap.size w wr) ∧ Hid (Reads5 wr p (X.map pad5)) ∧ Hid (Reads5 wr q (Y.map pad5))) (fun _ vi _ _ _ => N - (intOf vi).toNat)
  case atStart => exact ⟨0, none, 0, 0, rfl, rfl, by omega, Nat.le_refl _, Lib.hid (by simp [allJ, setS]), Lib.hid (by simp [allJ, setS]; exact Reads5.nil _ _), B4, R34, R4⟩
  case round =>
    obtain ⟨i, po, co, no, rfl, rfl, hi, hco, HL, HRo, HB, HX, HY⟩ := hrel
    by_cases hlt : i < N
    · have hil : i < X.length := by rw [L3.out]; exact hlt
      obtain ⟨wo, rfl⟩ : ∃ wo : World, wo = wr := ⟨_, rfl⟩
      obtain ⟨b0, off, rfl, hb0, hat⟩ := HX.out i (by rw [List.length_map]; exact hil)
      have hRS := reads_sub HX.out hil
      have hxo := OA.out _ (mem_getL hil)
      have hxs := SA.out _ (mem_getL hil)
      have hin := mem_getL hil
      rw [map_getD hil] at hat
      have htk := take_getL hil
      generalize X[i]?.getD [] = x at hat hRS hxo hxs htk hin
      have HTK := Lib.hid htk
      have HRS := Lib.hid hRS
      have HXO := Lib.hid hxo
      have hone : Hid ([x].length = 1) := Lib.hid rfl
      have hokone : Hid (∀ z ∈ [x], okL 8 z) := Lib.hid (fun z hz => by obtain rfl := List.mem_singleton.1 hz; exact HXO.out)
      have hokall : Hid (∀ z ∈ setS (allJ K (X.take i) Y), okL 8 z) := Lib.hid (setS_ok (allJ_ok hK4 (fun z hz => OA.out z (List.mem_of_mem_take hz)) OB.out))
      have hno : no ≤ 10000 := by
        have h1 := setS_len (allJ K (X.take i) Y)
        rw [HL.out, allJ_len, List.length_take, L4.out] at h1
        have h2 : min i X.length * M ≤ 100 * 100 := Nat.mul_le_mul (by omega) hM
        omega
      have hci : ¬ cp = i := by omega
      obtain ⟨⟨x0, x1, x2, x3, x4⟩, ex⟩ : ∃ y, pad5 x = y := ⟨_, rfl⟩
      have hx0 : x0 = (x.length : Int) := by have := congrArg Prod.fst ex; exact this.symm
      rw [ex] at hat
      obtain ⟨c0, c1, c2, c3, c4⟩ := hat
      simp only at c0 c1 c2 c3 c4
      by_cases hg : x.length = K ∧ 0 < M
      · obtain ⟨hg1, hg2⟩ := hg
        have hx0K : x0 = (K : Int) := by rw [hx0, hg1]
        rw [hx0K] at c0
        have pM : (0 : Int) < (M : Int) := by omega
        have HW : Hid (mrg kU (setS (allJ K (X.take i) Y)) [x] = setS (allJ K (X.take (i + 1)) Y)) := Lib.hid (by
          rw [allJ_whole hg1 (fun e => by have := L4.out; rw [e] at this; simp at this; omega), HTK.out])
        clear hil htk hRS hxo hxs hin ex hx0 hg1 hx0K hb0 hi
        go_wp2_with (fail)
        go_at_call 53
        refine (rmerge_any po (some ⟨b0, off + i * 5, none⟩) no 1 co (cp - i) _ [x] _ HL hone hco (by omega) (by omega) hokall hokone HRo HRS _ _ HW (Lib.hid rfl)).mono ?_
        rintro e w5 ⟨p5, c5, rfl, r5, b5, m5⟩
        have R5 := Lib.hid r5
        have B5 := Lib.hid (below_then HB.out b5)
        have X5 := Lib.hid (HX.out.below b5)
        have Y5 := Lib.hid (HY.out.below b5)
        clear r5 b5
        go_wp2
        go_roundw
        case rel => exact ⟨i + 1, p5, c5, _, rfl, by go_num, by omega, m5, Lib.hid rfl, R5, B5, X5, Y5⟩
        case measure => simp [intOf]; omega
      · have hgd : (decide (x0 = (K : Int)) = false) ∨ (x0 = (K : Int) ∧ M = 0) := by
          by_cases e : x0 = (K : Int)
          · exact .inr ⟨e, by
              have : x.length = K := by omega
              by_cases h0 : M = 0
              · exact h0
              · exact absurd ⟨this, by omega⟩ hg⟩
          · exact .inl (decide_eq_false e)
        have HW : Hid (mrg kU (setS (allJ K (X.take i) Y)) (setS (rowJ K x Y)) = setS (allJ K (X.take (i + 1)) Y)) := Lib.hid (by
          rw [allJ_step, HTK.out])
        have HEX := Lib.hid ex
        have C0 : Hid (wo.cell? ⟨b0, off + i * 5, none⟩ = some (.int .i64 x0)) := Lib.hid c0
        have C1 := Lib.hid c1
        have C2 := Lib.hid c2
        have C3 := Lib.hid c3
        have C4 := Lib.hid c4
        clear hil htk hRS hxo hxs hin ex hx0 hg hi c1 c2 c3 c4
        rcases hgd with hgd | ⟨hgd, hM0⟩
        all_goals
          first
          | (have hne : ¬ x0 = (K : Int) := of_decide_eq_false hgd
             have hne2 : (x0 == (K : Int)) = false := by simpa using hne
             go_wp2)
          | (have hne2 : (x0 == (K : Int)) = true := by simpa using hgd
             have hne : decide (x0 = (K : Int)) = true := decide_eq_true hgd
             have pM0 : ¬ ((M : Int) > 0) := by omega
             have pM1 : decide ((M : Int) > 0) = false := decide_eq_false pM0
             clear hM0 hgd
             go_wp2)
          go_loopw [13, 14] (fun vl vj wr => ∃ j : Nat, vj = .int .i64 j ∧ j ≤ M ∧ Hid (wr.ownsRow wo.heap.size 25 5 vl j (flat5 ((rowJ K x (Y.take j)).map pad5))) ∧ Hid (Below wo.heap.size wo wr)) (fun _ vj _ => M - (intOf vj).toNat)
          case atStart => exact ⟨0, rfl, by omega, Lib.hid (World.ownsRow_nil _ _ _ _), Lib.hid (Below.refl _ _)⟩
          case round =>
            obtain ⟨j, rfl, hj, HRow, HBj⟩ := hrel
            by_cases hlj : j < M
            · have hjl : j < Y.length := by rw [L4.out]; exact hlj
              obtain ⟨b1, of1, rfl, hb1, hau⟩ := (HY.out.below HBj.out) j (by rw [List.length_map]; exact hjl)
              have hao := HX.out.below HBj.out
              rw [map_getD hjl] at hau
              have hyo := OB.out _ (mem_getL hjl)
              have hrs := rowJ_snoc K x Y hjl
              generalize Y[j]?.getD [] = y at hau hyo hrs
              have HRS2 := Lib.hid hrs
              have HJ : Hid (joinE (K : Int) (pad5 x) (pad5 y) = (pad5 ((x ++ y).take K), 0)) := Lib.hid (joinE_ok HXO.out hyo hK1 hK4)
              rw [HEX.out] at HJ
              obtain ⟨⟨y0, y1, y2, y3, y4⟩, ey⟩ : ∃ v, pad5 y = v := ⟨_, rfl⟩
              obtain ⟨⟨z0, z1, z2, z3, z4⟩, ez⟩ : ∃ v, pad5 ((x ++ y).take K) = v := ⟨_, rfl⟩
              rw [ey, ez] at HJ
              rw [ey] at hau
              have HEZ := Lib.hid ez
              have e0 := hau
              have g0 : At5 wr b0 (off + i * 5) (x0, x1, x2, x3, x4) := by
                have hb := HBj.out
                exact ⟨(hb.cell (p := ⟨b0, _, none⟩) hb0).trans C0.out, (hb.cell (p := ⟨b0, _, none⟩) hb0).trans C1.out, (hb.cell (p := ⟨b0, _, none⟩) hb0).trans C2.out, (hb.cell (p := ⟨b0, _, none⟩) hb0).trans C3.out, (hb.cell (p := ⟨b0, _, none⟩) hb0).trans C4.out⟩
              have G0 := Lib.hid g0
              have H0 := Lib.hid hau
              have hsz := HBj.out.size
              clear hjl hau hyo hrs ey ez e0 g0
              go_wp2
              refine wp_region_specs_tail 12 [.con u13, .con (.int .i64 K), .con (.slice (some ⟨b0, off, none⟩) N cp), .con (.int .i64 i), .con (.pointer (some ⟨b0, off + i * 5, none⟩)), .con (.agg #[.int .i64 x0, .int .i64 x1, .int .i64 x2, .int .i64 x3, .int .i64 x4]), .con (.slice (some ⟨b1, of1, none⟩) M cq), .con (.int .i64 j), .con (.pointer (some ⟨b1, of1 + j * 5, none⟩)), .con (.agg #[.int .i64 y0, .int .i64 y1, .int .i64 y2, .int .i64 y3, .int .i64 y4]), .con (.agg #[.int .i64 z0, .int .i64 z1, .int .i64 z2, .int .i64 z3, .int .i64 z4]), Sl5 [(x ++ y).take K]] (by kernel_rfl) (by kernel_rfl) (by kernel_rfl) ?keeps ?steps ?rest
              case keeps =>
                intro s hs
                simp only [List.mem_cons, List.not_mem_nil, or_false] at hs
                rcases hs with rfl | rfl | rfl | rfl | rfl | rfl | rfl | rfl | rfl | rfl | rfl | rfl <;> first | exact con_keeps _ | exact Sl5.keeps _
              case steps =>
                refine ⟨fun A w9 hB9 h => step_move_old h (by kernel_rfl) 13 rfl (by kernel_rfl) (by rfl), ?_⟩
                refine ⟨fun A w9 hB9 h => step_move_old h (by kernel_rfl) 1 rfl (by kernel_rfl) (by rfl), ?_⟩
                refine ⟨fun A w9 hB9 h => step_move_old h (by kernel_rfl) 2 rfl (by kernel_rfl) (by rfl), ?_⟩
                refine ⟨fun A w9 hB9 h => step_move_old h (by kernel_rfl) 12 rfl (by kernel_rfl) (by rfl), ?_⟩
                refine ⟨fun A w9 hB9 h => step_idx h (by kernel_rfl) _ _ _ (.slice (some ⟨b0, off, none⟩) N cp) (.int .i64 i) rfl (by rfl) (by rfl) (idx5_at b0 off N cp i hlt w9), ?_⟩
                refine ⟨fun A w9 hB9 h => step_load h (by kernel_rfl) _ _ (.pointer (some ⟨b0, off + i * 5, none⟩)) rfl (h.con 4 (by kernel_rfl) (by kernel_rfl) rfl) (load5_at (G0.out.below hB9)), ?_⟩
                refine ⟨fun A w9 hB9 h => step_move_old h (by kernel_rfl) 3 rfl (by kernel_rfl) (by rfl), ?_⟩
                refine ⟨fun A w9 hB9 h => step_move_old h (by kernel_rfl) 14 rfl (by kernel_rfl) (by rfl), ?_⟩
                refine ⟨fun A w9 hB9 h => step_idx h (by kernel_rfl) _ _ _ (.slice (some ⟨b1, of1, none⟩) M cq) (.int .i64 j) rfl (by rfl) (by rfl) (idx5_at b1 of1 M cq j hlj w9), ?_⟩
                refine ⟨fun A w9 hB9 h => step_load h (by kernel_rfl) _ _ (.pointer (some ⟨b1, of1 + j * 5, none⟩)) rfl (h.con 8 (by kernel_rfl) (by kernel_rfl) rfl) (load5_at (H0.out.below hB9)), ?_⟩
                refine ⟨fun A w9 hB9 h => step_call_con h (by kernel_rfl) 66 _ [.int .i64 K, .agg #[.int .i64 x0, .int .i64 x1, .int .i64 x2, .int .i64 x3, .int .i64 x4], .agg #[.int .i64 y0, .int .i64 y1, .int .i64 y2, .int .i64 y3, .int .i64 y4]] rfl rfl (by kernel_rfl) (by rfl) (rjoin14_any (K : Int) x0 x1 x2 x3 x4 y0 y1 y2 y3 y4 w9 z0 z1 z2 z3 z4 0 HJ), ?_⟩
                exact ⟨fun A w9 hB9 h => step_slice5 h (by kernel_rfl) _ _ [(x ++ y).take K] rfl rfl (by decide) (by decide) (by simp only [List.map_cons, List.map_nil, HEZ.out]; rfl), trivial⟩
              case rest =>
                intro vs w5 hB5 hv
                obtain ⟨p9, e9, r9⟩ : ∃ p, vs 11 = .slice p 1 1 ∧ Reads5 w5 p ([(x ++ y).take K].map pad5) := hv 11 _ rfl
                have e0 : vs 0 = u13 := hv 0 _ rfl
                have R9 := Lib.hid r9
                have B5 := Lib.hid (below_then HBj.out hB5)
                have R5 := Lib.hid (own5_below HRow.out hB5)
                have S5 := B5.out.size
                simp only [putAll, Act.put, List.setIfInBounds_toArray, List.set_cons_succ, List.set_cons_zero, List.take_succ_cons, List.take_zero, List.drop_succ_cons, List.drop_zero, e9, e0]
                generalize vs 1 = u1
                generalize vs 2 = u2
                generalize vs 3 = u3
                generalize vs 4 = u4
                generalize vs 5 = u5
                generalize vs 6 = u6
                generalize vs 7 = u7
                generalize vs 8 = u8
                generalize vs 9 = u9
                generalize vs 10 = u10
                clear hv e9 e0 r9 hB5
                go_wp2_with (at_builtin; go_must (refine append_in5 rfl (.tmp 61) (.tmp 72) rfl wo.heap.size _ j _ rfl R5.out _ [pad5 ((x ++ y).take K)] 1 1 rfl rfl (by decide) R9.out (by first | omega | (simp; omega)) (by first | omega | (simp; omega)) ?_; intro v3 w3 hv3 hB3; have O3 := Lib.hid hv3; have B3 := Lib.hid (B5.out.trans hB3); clear hv3 hB3))
                go_roundw
                case rel => exact ⟨j + 1, by go_num, by omega, Lib.hid (by rw [HRS2.out, flat_snoc _ _ rfl]; exact O3.out), B3⟩
                case measure => simp [intOf]; omega
            · obtain rfl : j = M := by omega
              have hrow := HRow.out
              rw [List.take_of_length_le (by rw [L4.out]; omega)] at hrow
              obtain ⟨p6, c6, rfl, h6⟩ := row5_shape hrow
              have HJL : Hid ((rowJ K x Y).length = j) := Lib.hid (by rw [rowJ_len]; exact L4.out)
              have HRR := Lib.hid (reads5_of_row (l := (rowJ K x Y).map pad5) (by rw [List.length_map]; exact HJL.out) hrow)
              have HOK : Hid (∀ z ∈ rowJ K x Y, okL 8 z) := Lib.hid (rowJ_ok hK4 HXO.out OB.out)
              have hsl := setS_len (rowJ K x Y)
              rw [HJL.out] at hsl
              have HOS : Hid (∀ z ∈ setS (rowJ K x Y), okL 8 z) := Lib.hid (setS_ok HOK.out)
              have HRo' := Lib.hid (HRo.out.below HBj.out)
              have HX' := Lib.hid (HX.out.below HBj.out)
              have HY' := Lib.hid (HY.out.below HBj.out)
              have HB' := Lib.hid (below_then HB.out HBj.out)
              clear hrow HRow
              go_wp2_with (fail)
              go_at_call 48
              refine (rsorted_any j j (Nat.le_refl _) p6 c6 (rowJ K x Y) _ HJL (by omega) h6 HOK HRR).mono ?_
              rintro e w7 ⟨p7, c7, N7, rfl, l7, m7, r7, b7⟩
              rw [l7] at hsl
              have L7 := Lib.hid l7
              have R7 := Lib.hid r7
              have HRo7 := Lib.hid (HRo'.out.below b7)
              have HX7 := Lib.hid (HX'.out.below b7)
              have HY7 := Lib.hid (HY'.out.below b7)
              have HB7 := Lib.hid (below_then HB'.out b7)
              clear l7 r7 b7
              go_wp2_with (fail)
              go_at_call 53
              refine (rmerge_any po p7 no N7 co c7 _ _ _ HL L7 hco m7 (by omega) hokall HOS HRo7 R7 _ _ HW (Lib.hid rfl)).mono ?_
              rintro e w8 ⟨p8, c8, rfl, r8, b8, m8⟩
              have R8 := Lib.hid r8
              have B8 := Lib.hid (below_then HB7.out b8)
              have X8 := Lib.hid (HX7.out.below b8)
              have Y8 := Lib.hid (HY7.out.below b8)
              clear r8 b8
              go_wp2
              go_roundw
              case rel => exact ⟨i + 1, p8, c8, _, rfl, by go_num, by omega, m8, Lib.hid rfl, R8, B8, X8, Y8⟩
              case measure => simp [intOf]; omega
    · obtain rfl : i = N := by omega
      have hXt : X.take i = X := List.take_of_length_le (by rw [L3.out]; omega)
      rw [hXt, HS.out] at HL HRo
      go_wp2_with (fail)
      go_ret2
      exact ⟨po, co, no, rfl, HL.out, HRo.out, HB.out, hco⟩
end Go.Proofs.Ytdahaajfkjmflaa.s14

namespace Go.Proofs.Ytdahaajfkjmflaa.s14
set_option linter.unusedVariables false
set_option linter.unusedSimpArgs false
open Go.RowKit
open kit

open s13

open Go.Shelf
/-- what both hand back -/
def RetX (w : World) (X : List V5) (N : Nat) (q : Int) (e : Ending) (w' : World) : Prop := ∃ p cp, e = .returned (.tuple #[.slice p N cp, .int .i64 q]) ∧ Reads5 w' p X ∧ Below w.heap.size w w'
theorem retx_no {w w' : World} {e : Ending} {r : Int} (h : e = noS r ∧ Below w.heap.size w w') : RetX w [] 0 r e w' := ⟨none, 0, h.1, Reads5.nil _ _, h.2⟩
theorem bne0 {r : Int} (h : ¬ r = 0) : (r != 0) = true := by simpa using h
theorem sum_pair (t k : Int) (la lb : List V5) (n m : Nat) (hn : Hid (la.length = n)) (hm : Hid (lb.length = m)) (hn4 : n ≤ 40) (hm4 : m ≤ 40) : ∃ (X : List V5) (N : Nat) (q : Int), X.length = N ∧ N ≤ 10000 ∧
    (∀ (a b : Option Addr) (ca cb : Nat) (w : World), n ≤ ca → m ≤ cb → Hid (Reads5 w a la) → Hid (Reads5 w b lb) → Calls Try.prog 30 #[.int .i64 t, .int .i64 k, .slice a n ca, .slice b m cb] w (RetX w X N q)) ∧
    (∀ (a b : Option Addr) (ca cb : Nat) (w : World), Hid (Reads5 w a la) → Hid (Reads5 w b lb) → Calls Try.prog 31 #[.int .i64 t, .int .i64 k, .slice a n ca, .slice b m cb] w (RetX w X N q)) := by
  obtain ⟨r, hr⟩ : ∃ r, chkA t [la, lb] = r := ⟨_, rfl⟩
  by_cases h0 : r = 0
  · subst h0
    by_cases hk : k < 1 ∨ 4 < k
    · have HQ : rngE 0 k = 2 := by unfold rngE; rw [if_pos ⟨rfl, hk⟩]
      exact ⟨[], 0, 2, rfl, by omega, fun a b ca cb w _ _ ra rb => (psum_k t k a b n m ca cb la lb w hn hm (by omega) (by omega) ra rb (Lib.hid hr) hk).mono fun e w' h => retx_no h,
        fun a b ca cb w ra rb => (rsum_bad t k a b n m ca cb la lb w hn hm (by omega) (by omega) ra rb 0 2 (Lib.hid hr) (Lib.hid HQ) (by rfl)).mono fun e w' h => retx_no h⟩
    · have hr2 := hr
      rw [chkA_M] at hr2
      have hr3 : (if chkS t la ≠ 0 then chkS t la else if chkS t lb ≠ 0 then chkS t lb else 0) = 0 := hr2
      have ea : chkS t la = 0 := by
        by_cases h : chkS t la = 0
        · exact h
        · rw [if_pos h] at hr3; exact hr3
      rw [if_neg (by simpa using ea)] at hr3
      have eb : chkS t lb = 0 := by
        by_cases h : chkS t lb = 0
        · exact h
        · rw [if_pos h] at hr3; exact hr3
      obtain ⟨t1, t2, _⟩ := chkS_t ea
      obtain ⟨A, rfl, aA, oA⟩ := chkS_set ea
      obtain ⟨B, rfl, aB, oB⟩ := chkS_set eb
      obtain ⟨K, rfl⟩ : ∃ K : Nat, k = (K : Int) := ⟨k.toNat, by omega⟩
      have hA : Hid (A.length = n) := Lib.hid (by rw [← hn.out, List.length_map])
      have hB : Hid (B.length = m) := Lib.hid (by rw [← hm.out, List.length_map])
      have oA8 : Hid (∀ x ∈ A, okL 8 x) := Lib.hid (fun x hx => okL_mono (oA x hx) t2)
      have oB8 : Hid (∀ x ∈ B, okL 8 x) := Lib.hid (fun x hx => okL_mono (oB x hx) t2)
      have hnm : n * m ≤ 1600 := Nat.mul_le_mul hn4 hm4
      have hN : (sumS K A B (K + 1)).length ≤ 10000 := by
        have h := sumS_len K A B (K + 1)
        rw [hA.out, hB.out] at h
        have : (K + 1) * (n * m) ≤ 5 * 1600 := Nat.mul_le_mul (by omega) hnm
        omega
      refine ⟨(sumS K A B (K + 1)).map pad5, _, 0, List.length_map _, hN, fun a b ca cb w c1 c2 ra rb => (psum_ok t K a b n m ca cb A B w (by omega) (by omega) hA hB (by omega) (by omega) (by omega) c1 c2 oA8 oB8 ra rb (Lib.hid hr) _ _ (Lib.hid rfl) (Lib.hid rfl)).mono fun e w' h => ?_,
        fun a b ca cb w ra rb => (rsum_ok t K a b n m ca cb A B w (by omega) (by omega) hA hB (by omega) (by omega) oA8 oB8 (Lib.hid aA) (Lib.hid aB) ra rb (Lib.hid hr)).mono fun e w' h => ?_⟩
      · obtain ⟨p, cp, e1, r1, b1, _⟩ := h
        exact ⟨p, cp, e1, r1, b1⟩
      · obtain ⟨p, cp, N, e1, l1, r1, b1, _⟩ := h
        subst l1
        exact ⟨p, cp, e1, r1, b1⟩
  · have HQ : rngE r k = r := by unfold rngE; rw [if_neg (by omega)]
    exact ⟨[], 0, r, rfl, by omega, fun a b ca cb w _ _ ra rb => (psum_bad t k a b n m ca cb la lb w hn hm (by omega) (by omega) ra rb r (Lib.hid hr) (bne0 h0)).mono fun e w' h => retx_no h,
      fun a b ca cb w ra rb => (rsum_bad t k a b n m ca cb la lb w hn hm (by omega) (by omega) ra rb r r (Lib.hid hr) (Lib.hid HQ) (bne0 h0)).mono fun e w' h => retx_no h⟩
theorem cut_pair (t k : Int) (la : List V5) (n : Nat) (hn : Hid (la.length = n)) (hn4 : n ≤ 40) : ∃ (X : List V5) (N : Nat) (q : Int), X.length = N ∧ N ≤ 10000 ∧
    (∀ (a : Option Addr) (ca : Nat) (w : World), Hid (Reads5 w a la) → Calls Try.prog 32 #[.int .i64 t, .int .i64 k, .slice a n ca] w (RetX w X N q)) ∧
    (∀ (a : Option Addr) (ca : Nat) (w : World), Hid (Reads5 w a la) → Calls Try.prog 33 #[.int .i64 t, .int .i64 k, .slice a n ca] w (RetX w X N q)) := by
  obtain ⟨r, hr⟩ : ∃ r, chkS t la = r := ⟨_, rfl⟩
  by_cases h0 : r = 0
  · subst h0
    by_cases hk : k < 1 ∨ 4 < k
    · have HQ : rngE 0 k = 2 := by unfold rngE; rw [if_pos ⟨rfl, hk⟩]
      exact ⟨[], 0, 2, rfl, by omega, fun a ca w ra => (pcut_k t k a n ca la w hn (by omega) ra (Lib.hid hr) hk).mono fun e w' h => retx_no h,
        fun a ca w ra => (rcut_bad t k a n ca la w hn (by omega) ra 0 2 (Lib.hid hr) (Lib.hid HQ) (by rfl)).mono fun e w' h => retx_no h⟩
    · obtain ⟨t1, t2, _⟩ := chkS_t hr
      obtain ⟨A, rfl, aA, oA⟩ := chkS_set hr
      obtain ⟨K, rfl⟩ : ∃ K : Nat, k = (K : Int) := ⟨k.toNat, by omega⟩
      have hA : Hid (A.length = n) := Lib.hid (by rw [← hn.out, List.length_map])
      have oA8 : Hid (∀ x ∈ A, okL 8 x) := Lib.hid (fun x hx => okL_mono (oA x hx) t2)
      have hN : (cutS K A).length ≤ 10000 := by
        have h := cutS_len K A
        rw [hA.out] at h
        omega
      refine ⟨(cutS K A).map pad5, _, 0, List.length_map _, hN, fun a ca w ra => (pcut_ok t K a n ca A w (by omega) (by omega) hA (by omega) oA8 ra (Lib.hid hr) _ _ (Lib.hid rfl) (Lib.hid rfl)).mono fun e w' h => ?_,
        fun a ca w ra => (rcut_ok t K a n ca A w (by omega) (by omega) hA (by omega) oA8 (Lib.hid aA) ra (Lib.hid hr)).mono fun e w' h => ?_⟩
      · obtain ⟨p, cp, e1, r1, b1, _⟩ := h
        exact ⟨p, cp, e1, r1, b1⟩
      · obtain ⟨p, cp, N, e1, l1, r1, b1, _⟩ := h
        subst l1
        exact ⟨p, cp, e1, r1, b1⟩
  · have HQ : rngE r k = r := by unfold rngE; rw [if_neg (by omega)]
    exact ⟨[], 0, r, rfl, by omega, fun a ca w ra => (pcut_bad t k a n ca la w hn (by omega) ra r (Lib.hid hr) (bne0 h0)).mono fun e w' h => retx_no h,
      fun a ca w ra => (rcut_bad t k a n ca la w hn (by omega) ra r r (Lib.hid hr) (Lib.hid HQ) (bne0 h0)).mono fun e w' h => retx_no h⟩
end Go.Proofs.Ytdahaajfkjmflaa.s14
