/-
  Layer 13: the program's Compare. Layer 13: the reference's Plus. A region that draws its order: first operations that only read and calls that make blocks of their own, then a forced tail (a store, a call). One walk in the text's order serves every order. Derived/StillTail's text, turned over the class of Derived/Deep/Quiet. Layer 13: the reference's Join, Cut, Order, Compare, Begins. Layer 13: the reference's Compare and Begins.
-/
import Derived.Test.YtdahaajfkjmflaaG03
import Derived.BigRegion
import Derived.StillTail
import Derived.BigQuiet
import Derived.Test.YtdahaajfkjmflaaG01
import Derived.Test.YtdahaajfkjmflaaG02
namespace Go.Proofs.Ytdahaajfkjmflaa.s13
set_option linter.unusedVariables false
set_option linter.unusedSimpArgs false
open Go.RowKit
open kit

set_option maxRecDepth 100000 in
set_option maxHeartbeats 1000000 in
theorem ccompare_any (x y : Int) (w : World) : Calls Try.prog 83 #[.int .i64 x, .int .i64 y] w fun e w' => e = .returned (.int .i64 (if x < y then -1 else if y < x then 1 else 0)) ∧ w = w' := by
  by_cases h1 : x < y
  · rw [if_pos h1]
    go_enter Try.func83, Try.ntmps83
    go_wp2
    go_ret
    exact ⟨rfl, rfl⟩
  · rw [if_neg h1]
    by_cases h2 : y < x
    · rw [if_pos h2]
      go_enter Try.func83, Try.ntmps83
      go_wp2
      go_ret
      exact ⟨rfl, rfl⟩
    · rw [if_neg h2]
      go_enter Try.func83, Try.ntmps83
      go_wp2
      go_ret
      exact ⟨rfl, rfl⟩
theorem cmpL_cons (x y : Int) (l m : List Int) : cmpL (x :: l) (y :: m) = if x < y then -1 else if y < x then 1 else cmpL l m := rfl
set_option maxRecDepth 100000 in
set_option maxHeartbeats 2000000 in
theorem slcompare_any (a b : Option Addr) (n ca cb : Nat) (xs ys : List Int) (r : Int) (w : World) (hn : n ≤ 1000) (hx : Hid (xs.length = n)) (hy : Hid (ys.length = n)) (ra : Hid (ReadsI w a xs)) (rb : Hid (ReadsI w b ys)) (HR : Hid (cmpL xs ys = r)) :
    Calls Try.prog 84 #[.slice a n ca, .slice b n cb] w fun e w' => e = .returned (.int .i64 r) ∧ w = w' := by
  go_enter Try.func84, Try.ntmps84
  go_wp2
  go_loop [11] (fun i => ∃ k : Nat, i = .int .i64 k ∧ k ≤ n ∧ Hid (cmpL (xs.drop k) (ys.drop k) = r)) (fun i => n - (intOf i).toNat)
  case atStart => exact ⟨0, rfl, by omega, HR⟩
  case round =>
    obtain ⟨k, rfl, hk, HK⟩ := hrel
    by_cases hlt : k < n
    · have hkx : k < xs.length := by have := hx.out; omega
      have hky : k < ys.length := by have := hy.out; omega
      obtain ⟨b1, o1, rfl, _, c1⟩ := ra.out k hkx
      obtain ⟨b2, o2, rfl, _, c2⟩ := rb.out k hky
      have hd : xs.drop k = xs[k]?.getD 0 :: xs.drop (k + 1) := by rw [List.getElem?_eq_getElem hkx]; exact List.drop_eq_getElem_cons hkx
      have he : ys.drop k = ys[k]?.getD 0 :: ys.drop (k + 1) := by rw [List.getElem?_eq_getElem hky]; exact List.drop_eq_getElem_cons hky
      have hh := HK.out
      rw [hd, he] at hh
      generalize xs[k]?.getD 0 = x at c1 hh
      generalize ys[k]?.getD 0 = y at c2 hh
      rw [cmpL_cons] at hh
      clear hd he HK
      by_cases h1 : x < y
      · rw [if_pos h1] at hh
        have HH := Lib.hid hh
        have hc := Lib.hid (if_pos h1 : (if x < y then (-1 : Int) else if y < x then 1 else 0) = -1)
        clear hh h1
        go_wp2_with (go_at_call 83; refine (ccompare_any x y _).mono ?_; rintro e w1 ⟨rfl, rfl⟩; rw [hc.out])
        go_ret
        exact ⟨ret_int HH.out, rfl⟩
      · rw [if_neg h1] at hh
        by_cases h2 : y < x
        · rw [if_pos h2] at hh
          have HH := Lib.hid hh
          have hc := Lib.hid ((if_neg h1).trans (if_pos h2) : (if x < y then (-1 : Int) else if y < x then 1 else 0) = 1)
          clear hh h1 h2
          go_wp2_with (go_at_call 83; refine (ccompare_any x y _).mono ?_; rintro e w1 ⟨rfl, rfl⟩; rw [hc.out])
          go_ret
          exact ⟨ret_int HH.out, rfl⟩
        · rw [if_neg h2] at hh
          have HH := Lib.hid hh
          have hc := Lib.hid ((if_neg h1).trans (if_neg h2) : (if x < y then (-1 : Int) else if y < x then 1 else 0) = 0)
          clear hh h1 h2
          go_wp2_with (go_at_call 83; refine (ccompare_any x y _).mono ?_; rintro e w1 ⟨rfl, rfl⟩; rw [hc.out])
          go_round
          case rel => exact ⟨k + 1, by go_num, by omega, HH⟩
          case measure => simp [intOf]; omega
    · obtain rfl : k = n := by omega
      have h0 := HK.out
      rw [List.drop_of_length_le (by have := hx.out; omega), List.drop_of_length_le (by have := hy.out; omega)] at h0
      have H0 := Lib.hid h0
      clear h0
      go_wp2
      go_ret
      exact ⟨ret_int H0.out, rfl⟩
theorem cmpL_zeros (m : List Int) : ∀ p, p = m.length → (∀ x ∈ m, 0 ≤ x) → cmpL (List.replicate p 0) m ≤ 0 := by
  induction m with
  | nil => intro p hp _; subst hp; simp [cmpL]
  | cons y m ih =>
    intro p hp hm
    subst hp
    rw [List.length_cons, List.replicate_succ, cmpL_cons]
    have := hm y List.mem_cons_self
    by_cases h : (0 : Int) < y
    · rw [if_pos h]; omega
    · rw [if_neg h, if_neg (by omega)]
      exact ih _ rfl fun x hx => hm x (List.mem_cons_of_mem _ hx)
/-- by length alone -/
def lenC (n m : Nat) : Int := if n < m then -1 else if m < n then 1 else 0
theorem cmpL_padded (l : List Int) : ∀ (m : List Int) (p q : Nat), l.length + p = m.length + q → (∀ x ∈ l, 0 ≤ x) → (∀ x ∈ m, 0 ≤ x) →
    cmpL l m = if l ++ List.replicate p 0 = m ++ List.replicate q 0 then lenC l.length m.length else cmpL (l ++ List.replicate p 0) (m ++ List.replicate q 0) := by
  induction l with
  | nil =>
    intro m p q h _ hm
    cases m with
    | nil =>
      simp only [List.length_nil] at h
      have : p = q := by omega
      subst this
      simp [cmpL, lenC]
    | cons y m =>
      simp only [List.length_cons, List.length_nil, List.nil_append] at h ⊢
      have hz := cmpL_zeros ((y :: m) ++ List.replicate q 0) p (by simp; omega) (fun x hx => by
        rcases List.mem_append.1 hx with hx | hx
        · exact hm x hx
        · rw [List.eq_of_mem_replicate hx]; omega)
      by_cases e : List.replicate p 0 = y :: m ++ List.replicate q 0
      · rw [if_pos e]; simp [cmpL, lenC]
      · rw [if_neg e]
        rcases cmpL_range (List.replicate p 0) (y :: m ++ List.replicate q 0) with h1 | h1 | h1
        · rw [h1]; rfl
        · exact absurd (cmpL_zero h1) e
        · omega
  | cons x l ih =>
    intro m p q h hl hm
    cases m with
    | nil =>
      simp only [List.length_cons, List.length_nil, List.nil_append] at h ⊢
      have hz := cmpL_zeros ((x :: l) ++ List.replicate p 0) q (by simp; omega) (fun z hx => by
        rcases List.mem_append.1 hx with hx | hx
        · exact hl z hx
        · rw [List.eq_of_mem_replicate hx]; omega)
      have hneg := cmpL_neg (List.replicate q 0) (x :: l ++ List.replicate p 0)
      by_cases e : x :: l ++ List.replicate p 0 = List.replicate q 0
      · rw [if_pos e]; simp [cmpL, lenC]
      · rw [if_neg e, hneg]
        rcases cmpL_range (List.replicate q 0) (x :: l ++ List.replicate p 0) with h1 | h1 | h1
        · rw [h1]; rfl
        · exact absurd (cmpL_zero h1).symm e
        · omega
    | cons y m =>
      simp only [List.length_cons, List.cons_append] at h ⊢
      rw [cmpL_cons, cmpL_cons]
      by_cases h1 : x < y
      · rw [if_pos h1, if_neg (fun e => by injection e; omega), if_pos h1]
      · rw [if_neg h1]
        by_cases h2 : y < x
        · rw [if_pos h2, if_neg (fun e => by injection e; omega), if_neg h1, if_pos h2]
        · rw [if_neg h2]
          have hxy : x = y := by omega
          subst hxy
          rw [ih m p q (by omega) (fun z hz => hl z (List.mem_cons_of_mem _ hz)) (fun z hz => hm z (List.mem_cons_of_mem _ hz))]
          by_cases e : l ++ List.replicate p 0 = m ++ List.replicate q 0
          · rw [if_pos e, if_pos (by rw [e])]
            simp [lenC]
          · rw [if_neg e, if_neg (fun k => e (by injection k)), if_neg h1, if_neg h2]
theorem pad_list {l : List Int} {N : Nat} {a b c d : Int} (hl : l.length ≤ 4) (hp : pad5 l = ((N : Int), a, b, c, d)) : [a, b, c, d] = l ++ List.replicate (4 - l.length) 0 := by
  simp only [pad5, Prod.mk.injEq] at hp
  obtain ⟨_, rfl, rfl, rfl, rfl⟩ := hp
  match l, hl with
  | [], _ => rfl
  | [a], _ => rfl
  | [a, b], _ => rfl
  | [a, b, c], _ => rfl
  | [a, b, c, d], _ => rfl
def cmpE (x y : V5) : Int × Int := if bothP x.1 x.2.1 x.2.2.1 x.2.2.2.1 x.2.2.2.2 y.1 y.2.1 y.2.2.1 y.2.2.2.1 y.2.2.2.2 ≠ 0 then (0, bothP x.1 x.2.1 x.2.2.1 x.2.2.2.1 x.2.2.2.2 y.1 y.2.1 y.2.2.1 y.2.2.2.1 y.2.2.2.2) else (cmpL (lst x) (lst y), 0)
theorem ret_ii {a b c d : Int} (h : (a, b) = (c, d)) : Ending.returned (.tuple #[.int .i64 a, .int .i64 b]) = .returned (.tuple #[.int .i64 c, .int .i64 d]) := by cases h; rfl
set_option maxRecDepth 100000 in
set_option maxHeartbeats 2000000 in
theorem pcompare_bad (n a b c d n' a' b' c' d' r : Int) (w : World) (HR : Hid (bothP n a b c d n' a' b' c' d' = r)) (hr : (r != 0) = true) : Calls Try.prog 70 #[.agg #[.int .i64 n, .int .i64 a, .int .i64 b, .int .i64 c, .int .i64 d], .agg #[.int .i64 n', .int .i64 a', .int .i64 b', .int .i64 c', .int .i64 d']] w fun e w' => e = .returned (.tuple #[.int .i64 0, .int .i64 r]) ∧ Below w.heap.size w w' := by
  go_enter Try.func70, Try.ntmps70
  go_wp2_with (go_at_call 81; refine (checkall_two n a b c d n' a' b' c' d' r _ _ (new3 _ _ _ _ _) HR).mono ?_; rintro e w1 ⟨rfl, hB⟩; obtain ⟨X1, Y1, Z1, hB1⟩ := made3 hB; have B1 := Lib.hid hB1; clear hB hB1 X1 Y1 Z1)
  go_ret2
  exact ⟨rfl, B1.out⟩
set_option maxRecDepth 100000 in
set_option maxHeartbeats 2000000 in
theorem pcompare_same (N M : Nat) (a b c d : Int) (w : World) (HR : Hid (bothP N a b c d M a b c d = 0)) : Calls Try.prog 70 #[.agg #[.int .i64 N, .int .i64 a, .int .i64 b, .int .i64 c, .int .i64 d], .agg #[.int .i64 M, .int .i64 a, .int .i64 b, .int .i64 c, .int .i64 d]] w fun e w' => e = .returned (.tuple #[.int .i64 (lenC N M), .int .i64 0]) ∧ Below w.heap.size w w' := by
  have zq : ∀ W, (binOp .eql 23 (.agg #[.int .i64 a, .int .i64 b, .int .i64 c, .int .i64 d]) (.agg #[.int .i64 a, .int .i64 b, .int .i64 c, .int .i64 d])).run Try.prog W = .ok (.bool true) W := fun W => by rw [eql_arr]; simp
  have zg := guard_arr
  have HL : Hid ((if (N : Int) < M then (-1 : Int) else if (M : Int) < N then 1 else 0) = lenC N M) := Lib.hid (by
    unfold lenC
    by_cases h1 : N < M
    · rw [if_pos h1, if_pos (by omega)]
    · rw [if_neg h1, if_neg (by omega)]
      by_cases h2 : M < N
      · rw [if_pos h2, if_pos (by omega)]
      · rw [if_neg h2, if_neg (by omega)])
  go_enter Try.func70, Try.ntmps70
  go_wp2_with (first
    | (go_at_call 81; refine (checkall_two N a b c d M a b c d 0 _ _ (new3 _ _ _ _ _) HR).mono ?_; rintro e w1 ⟨rfl, hB⟩; obtain ⟨X1, Y1, Z1, hB1⟩ := made3 hB; have B1 := Lib.hid hB1; obtain ⟨x0, x1, x2, x3, x4⟩ := X1.cell5; obtain ⟨y0, y1, y2, y3, y4⟩ := Y1.cell5; clear hB hB1 X1 Y1 Z1)
    | (go_at_call 83; refine (ccompare_any N M _).mono ?_; rintro e w2 ⟨rfl, rfl⟩; rw [HL.out]))
  go_ret2
  exact ⟨rfl, B1.out⟩
set_option maxRecDepth 100000 in
set_option maxHeartbeats 2000000 in
theorem pcompare_other (N M : Nat) (a b c d a' b' c' d' r : Int) (w : World) (HR : Hid (bothP N a b c d M a' b' c' d' = 0)) (hne : ¬ (a = a' ∧ b = b' ∧ c = c' ∧ d = d')) (HC : Hid (cmpL [a, b, c, d] [a', b', c', d'] = r)) : Calls Try.prog 70 #[.agg #[.int .i64 N, .int .i64 a, .int .i64 b, .int .i64 c, .int .i64 d], .agg #[.int .i64 M, .int .i64 a', .int .i64 b', .int .i64 c', .int .i64 d']] w fun e w' => e = .returned (.tuple #[.int .i64 r, .int .i64 0]) ∧ Below w.heap.size w w' := by
  have hq : decide (a = a' ∧ b = b' ∧ c = c' ∧ d = d') = false := decide_eq_false hne
  have zq : ∀ W, (binOp .eql 23 (.agg #[.int .i64 a, .int .i64 b, .int .i64 c, .int .i64 d]) (.agg #[.int .i64 a', .int .i64 b', .int .i64 c', .int .i64 d'])).run Try.prog W = .ok (.bool false) W := fun W => by rw [eql_arr, hq]
  have zg := guard_arr
  clear hq hne
  go_enter Try.func70, Try.ntmps70
  go_wp2_with (go_at_call 81; refine (checkall_two N a b c d M a' b' c' d' 0 _ _ (new3 _ _ _ _ _) HR).mono ?_; rintro e w1 ⟨rfl, hB⟩; obtain ⟨X1, Y1, Z1, hB1⟩ := made3 hB; have B1 := Lib.hid hB1; obtain ⟨x0, x1, x2, x3, x4⟩ := X1.cell5; obtain ⟨y0, y1, y2, y3, y4⟩ := Y1.cell5; have X1 := Lib.hid X1; have Y1 := Lib.hid Y1; clear hB hB1 Z1)
  have RX : ∀ n, ReadsI (w1.drewN n) (some ⟨w.heap.size, 1, none⟩) [a, b, c, d] := fun n i hi => ⟨w.heap.size, 1, rfl, (X1.out.drewN n).lt, by
    have hi4 : i < 4 := hi
    rw [(X1.out.drewN n).place i hi4]
    have hm : i = 0 ∨ i = 1 ∨ i = 2 ∨ i = 3 := by omega
    rcases hm with rfl | rfl | rfl | rfl <;> rfl⟩
  have RY : ∀ n, ReadsI (w1.drewN n) (some ⟨w.heap.size + 1, 1, none⟩) [a', b', c', d'] := fun n i hi => ⟨w.heap.size + 1, 1, rfl, (Y1.out.drewN n).lt, by
    have hi4 : i < 4 := hi
    rw [(Y1.out.drewN n).place i hi4]
    have hm : i = 0 ∨ i = 1 ∨ i = 2 ∨ i = 3 := by omega
    rcases hm with rfl | rfl | rfl | rfl <;> rfl⟩
  have RXH := Lib.hid RX
  have RYH := Lib.hid RY
  clear RX RY zq zg x0 x1 x2 x3 x4 y0 y1 y2 y3 y4
  go_quiet ((go_at_call 84; exact Calls.quiet_of_same ((slcompare_any _ _ 4 4 4 [a, b, c, d] [a', b', c', d'] r _ (by omega) (Lib.hid rfl) (Lib.hid rfl) (Lib.hid (RXH.out _)) (Lib.hid (RYH.out _)) HC).mono fun e w' h => ⟨h.1, h.2.symm⟩)))
  go_wp2
  go_ret2
  exact ⟨rfl, below_drewN B1.out _⟩
theorem pcompare_any (n a b c d n' a' b' c' d' : Int) (w : World) (v r : Int) (H : Hid (cmpE (n, a, b, c, d) (n', a', b', c', d') = (v, r))) : Calls Try.prog 70 #[.agg #[.int .i64 n, .int .i64 a, .int .i64 b, .int .i64 c, .int .i64 d], .agg #[.int .i64 n', .int .i64 a', .int .i64 b', .int .i64 c', .int .i64 d']] w fun e w' => e = .returned (.tuple #[.int .i64 v, .int .i64 r]) ∧ Below w.heap.size w w' := by
  have h := H.out
  unfold cmpE at h
  simp only at h
  by_cases hc : bothP n a b c d n' a' b' c' d' = 0
  · rw [if_neg (by simpa using hc)] at h
    cases h
    obtain ⟨h1, h2⟩ := both_yes hc
    obtain ⟨k1, _, _⟩ := lst_ok h1
    obtain ⟨k2, _, _⟩ := lst_ok h2
    obtain ⟨N, hN, hN4, hl, hp⟩ := lst_nat h1
    obtain ⟨M, hM, hM4, hm, hq⟩ := lst_nat h2
    subst hN hM
    have e := cmpL_padded (lst ((N : Int), a, b, c, d)) (lst ((M : Int), a', b', c', d')) (4 - N) (4 - M) (by omega) (fun x hx => (k1.2 x hx).1) (fun x hx => (k2.2 x hx).1)
    have e1 := pad_list (by omega) hp
    have e2 := pad_list (by omega) hq
    rw [hl] at e1
    rw [hm] at e2
    rw [← e1, ← e2, hl, hm] at e
    rw [e]
    by_cases hs : a = a' ∧ b = b' ∧ c = c' ∧ d = d'
    · obtain ⟨rfl, rfl, rfl, rfl⟩ := hs
      rw [if_pos rfl]
      exact pcompare_same N M a b c d w (Lib.hid hc)
    · rw [if_neg (by simpa using hs)]
      exact pcompare_other N M a b c d a' b' c' d' _ w (Lib.hid hc) hs (Lib.hid rfl)
  · rw [if_pos hc] at h; cases h
    exact pcompare_bad n a b c d n' a' b' c' d' _ w (Lib.hid rfl) (by simpa using hc)
end Go.Proofs.Ytdahaajfkjmflaa.s13

namespace Go.Proofs.Ytdahaajfkjmflaa.s13
set_option linter.unusedVariables false
set_option linter.unusedSimpArgs false
open Go.RowKit
open kit

theorem upd_snoc {f : Nat → Int} {s : List Int} {n : Nat} (hn : s.length = n) (hf : ∀ j, f j = s[j]?.getD 0) (z : Int) : ∀ j, upd f n z j = (s ++ [z])[j]?.getD 0 := by
  intro j
  unfold upd
  subst hn
  by_cases e : j = s.length
  · subst e; rw [if_pos rfl, List.getElem?_append_right (Nat.le_refl _), Nat.sub_self]; rfl
  · rw [if_neg e, hf]
    by_cases h : j < s.length
    · rw [List.getElem?_append_left h]
    · rw [List.getElem?_eq_none (by omega), List.getElem?_eq_none (by simp; omega)]
/-- the sum's variable -/
def SumBox (w : World) (g : Nat) (s : List Int) : Prop := ∃ f : Nat → Int, (∀ j, f j = s[j]?.getD 0) ∧ Box w 25 g #[.int .i64 s.length, .int .i64 (f 0), .int .i64 (f 1), .int .i64 (f 2), .int .i64 (f 3)]
set_option maxRecDepth 100000 in
set_option maxHeartbeats 4000000 in
theorem rplus_any (l m : List Int) (k N M : Nat) (a b c d a' b' c' d' : Int) (w : World) (hk : k ≤ 4) (hN : N ≤ 4) (hM : M ≤ 4) (HL : Hid (l.length = N)) (HM : Hid (m.length = M)) (HP : Hid (pad5 l = ((N : Int), a, b, c, d))) (HQ : Hid (pad5 m = ((M : Int), a', b', c', d')))
    (y0 y1 y2 y3 y4 : Int) (HY : Hid (pad5 ((l ++ m).take k) = (y0, y1, y2, y3, y4))) :
    Calls Try.prog 90 #[.int .i64 k, .agg #[.int .i64 N, .int .i64 a, .int .i64 b, .int .i64 c, .int .i64 d], .agg #[.int .i64 M, .int .i64 a', .int .i64 b', .int .i64 c', .int .i64 d']] w fun e w' => e = .returned (.agg #[.int .i64 y0, .int .i64 y1, .int .i64 y2, .int .i64 y3, .int .i64 y4]) ∧ Below w.heap.size w w' := by
  have i2 : (k : Int) ≤ 4 := by omega
  have n2 : (N : Int) ≤ 4 := by omega
  have m2 : (M : Int) ≤ 4 := by omega
  have X0 := Lib.hid (((Box.new w 25 #[.int .i64 N, .int .i64 a, .int .i64 b, .int .i64 c, .int .i64 d]).alloc (.cells #[.int .i64 M, .int .i64 a', .int .i64 b', .int .i64 c', .int .i64 d'] 25)).alloc (.cells #[.int .i64 0, .int .i64 0, .int .i64 0, .int .i64 0, .int .i64 0] 25) |>.alloc (.cells #[.int .i64 0, .int .i64 0, .int .i64 0, .int .i64 0, .int .i64 0] 25))
  have Y0 := Lib.hid (((new2 w (.cells #[.int .i64 N, .int .i64 a, .int .i64 b, .int .i64 c, .int .i64 d] 25) 25 #[.int .i64 M, .int .i64 a', .int .i64 b', .int .i64 c', .int .i64 d']).alloc (.cells #[.int .i64 0, .int .i64 0, .int .i64 0, .int .i64 0, .int .i64 0] 25)).alloc (.cells #[.int .i64 0, .int .i64 0, .int .i64 0, .int .i64 0, .int .i64 0] 25))
  have R0 := Lib.hid ((new3 w (.cells #[.int .i64 N, .int .i64 a, .int .i64 b, .int .i64 c, .int .i64 d] 25) (.cells #[.int .i64 M, .int .i64 a', .int .i64 b', .int .i64 c', .int .i64 d'] 25) 25 #[.int .i64 0, .int .i64 0, .int .i64 0, .int .i64 0, .int .i64 0]).alloc (.cells #[.int .i64 0, .int .i64 0, .int .i64 0, .int .i64 0, .int .i64 0] 25))
  have S0 := Lib.hid (new4 w (.cells #[.int .i64 N, .int .i64 a, .int .i64 b, .int .i64 c, .int .i64 d] 25) (.cells #[.int .i64 M, .int .i64 a', .int .i64 b', .int .i64 c', .int .i64 d'] 25) (.cells #[.int .i64 0, .int .i64 0, .int .i64 0, .int .i64 0, .int .i64 0] 25) 25 #[.int .i64 0, .int .i64 0, .int .i64 0, .int .i64 0, .int .i64 0])
  have B0 : Hid (Below w.heap.size w ((((w.alloc (.cells #[.int .i64 N, .int .i64 a, .int .i64 b, .int .i64 c, .int .i64 d] 25)).alloc (.cells #[.int .i64 M, .int .i64 a', .int .i64 b', .int .i64 c', .int .i64 d'] 25)).alloc (.cells #[.int .i64 0, .int .i64 0, .int .i64 0, .int .i64 0, .int .i64 0] 25)).alloc (.cells #[.int .i64 0, .int .i64 0, .int .i64 0, .int .i64 0, .int .i64 0] 25))) := Lib.hid (((((Below.refl w.heap.size w).alloc (Nat.le_refl _) _).alloc (by simp) _).alloc (by simp; omega) _).alloc (by simp; omega) _)
  go_enter Try.func90, Try.ntmps90
  go_wp2
  go_loopw [8] (fun i wr => ∃ (j : Nat) (f : Nat → Int), i = .int .i64 j ∧ j ≤ N ∧ j ≤ k ∧ Hid (∀ i, f i = (l.take j)[i]?.getD 0) ∧ Hid (Box wr 25 (w.heap.size + 1 + 1 + 1) #[.int .i64 j, .int .i64 (f 0), .int .i64 (f 1), .int .i64 (f 2), .int .i64 (f 3)]) ∧ Hid (Box wr 25 w.heap.size #[.int .i64 N, .int .i64 a, .int .i64 b, .int .i64 c, .int .i64 d]) ∧ Hid (Box wr 25 (w.heap.size + 1) #[.int .i64 M, .int .i64 a', .int .i64 b', .int .i64 c', .int .i64 d']) ∧ Hid (Box wr 25 (w.heap.size + 1 + 1) #[.int .i64 0, .int .i64 0, .int .i64 0, .int .i64 0, .int .i64 0]) ∧ Hid (Below w.heap.size w wr)) (fun i _ => N - (intOf i).toNat)
  case atStart => exact ⟨0, fun _ => 0, rfl, by omega, by omega, Lib.hid (fun i => by simp), S0, X0, Y0, R0, B0⟩
  case round =>
    obtain ⟨j, f, rfl, hj, hjk, HF, HS, HX, HYB, HRB, HB⟩ := hrel
    have s0 := HS.out.cell 0
    have x0 := HX.out.cell 0
    have y0' := HYB.out.cell 0
    have sf0 := HS.out.free 0
    simp at s0 x0 y0'
    by_cases hlt : j < N ∧ j < k
    · obtain ⟨hl1, hl2⟩ := hlt
      have j4 : j < 4 := by omega
      have xk := HX.out.place j j4
      have sk : wr.cell? ⟨w.heap.size + 1 + 1 + 1, 1 + j, none⟩ = some (.int .i64 (pl (f 0) (f 1) (f 2) (f 3) j)) := HS.out.place j j4
      have sf := HS.out.free (1 + j)
      have hz := Lib.hid (pad5_pl (l := l) (by have := HL.out; omega) HP.out j)
      have hF2 : Hid (∀ i, upd f j (pl a b c d j) i = (l.take (j + 1))[i]?.getD 0) := Lib.hid (by
        have hjl : j < l.length := by have := HL.out; omega
        rw [List.take_succ_eq_append_getElem hjl]
        have e : pl a b c d j = l[j] := by rw [hz.out, List.getElem?_eq_getElem hjl]; rfl
        rw [e]
        exact upd_snoc (by rw [List.length_take]; omega) HF.out _)
      generalize pl a b c d j = z at xk hF2 hz
      have S2 := Lib.hid ((b5_set HS.out j j4 z).set 0 (by simp) (.int .i64 (j + 1 : Nat)))
      have X2 := Lib.hid ((HX.out.other (b' := w.heap.size + 1 + 1 + 1) (i := 1 + j) (by omega) (.int .i64 z)).other (b' := w.heap.size + 1 + 1 + 1) (i := 0) (by omega) (.int .i64 (j + 1 : Nat)))
      have Y2 := Lib.hid ((HYB.out.other (b' := w.heap.size + 1 + 1 + 1) (i := 1 + j) (by omega) (.int .i64 z)).other (b' := w.heap.size + 1 + 1 + 1) (i := 0) (by omega) (.int .i64 (j + 1 : Nat)))
      have R2 := Lib.hid ((HRB.out.other (b' := w.heap.size + 1 + 1 + 1) (i := 1 + j) (by omega) (.int .i64 z)).other (b' := w.heap.size + 1 + 1 + 1) (i := 0) (by omega) (.int .i64 (j + 1 : Nat)))
      have B2 := Lib.hid ((HB.out.drew.setCell (p := ⟨w.heap.size + 1 + 1 + 1, 1 + j, none⟩) (by simp; omega) (.int .i64 z)).setCell (p := ⟨w.heap.size + 1 + 1 + 1, 0, none⟩) (by simp; omega) (.int .i64 (j + 1 : Nat)))
      go_wp2
      go_region
      go_wp2
      go_roundw
      case rel => exact ⟨j + 1, upd f j z, by go_num, by omega, by omega, hF2, S2, X2, Y2, R2, B2⟩
      case measure => simp [intOf]; omega
    · have hq : j = min N k := by omega
      have hs2 : Hid (∀ i, f i = (l.take j ++ m.take 0)[i]?.getD 0) := Lib.hid (by simpa using HF.out)
      have hor : (¬ (j : Int) < N) ∨ ((j : Int) < N ∧ decide (j < k) = false) := by
        by_cases h1 : j < N
        · exact .inr ⟨by omega, decide_eq_false (by omega)⟩
        · exact .inl (by omega)
      have HQQ := Lib.hid hq
      clear hlt hq
      rcases hor with t1 | ⟨t1, t2⟩
      all_goals
        go_wp2
        clear s0 x0 y0' sf0
        go_loopw [9] (fun i wx => ∃ (j2 : Nat) (f2 : Nat → Int), i = .int .i64 j2 ∧ j2 ≤ M ∧ j + j2 ≤ k ∧ Hid (∀ i, f2 i = (l.take j ++ m.take j2)[i]?.getD 0) ∧ Hid (Box wx 25 (w.heap.size + 1 + 1 + 1) #[.int .i64 (j + j2 : Nat), .int .i64 (f2 0), .int .i64 (f2 1), .int .i64 (f2 2), .int .i64 (f2 3)]) ∧ Hid (Box wx 25 (w.heap.size + 1) #[.int .i64 M, .int .i64 a', .int .i64 b', .int .i64 c', .int .i64 d']) ∧ Hid (Box wx 25 (w.heap.size + 1 + 1) #[.int .i64 0, .int .i64 0, .int .i64 0, .int .i64 0, .int .i64 0]) ∧ Hid (Below w.heap.size w wx)) (fun i _ => M - (intOf i).toNat)
        case atStart => exact ⟨0, f, rfl, by omega, by omega, hs2, HS, HYB, HRB, HB⟩
        case round =>
          obtain ⟨j2, f2, rfl, hj2, hjk2, HF2, HS2, HY2, HR2, HB2⟩ := hrel
          have s0 := HS2.out.cell 0
          have y0' := HY2.out.cell 0
          have sf0 := HS2.out.free 0
          simp at s0 y0'
          by_cases hlt2 : j2 < M ∧ j + j2 < k
          · obtain ⟨hl1, hl2⟩ := hlt2
            have j4 : j2 < 4 := by omega
            have jj4 : j + j2 < 4 := by omega
            have yk := HY2.out.place j2 j4
            have sk : wr.cell? ⟨w.heap.size + 1 + 1 + 1, 1 + (j + j2), none⟩ = some (.int .i64 (pl (f2 0) (f2 1) (f2 2) (f2 3) (j + j2))) := HS2.out.place (j + j2) jj4
            have sf := HS2.out.free (1 + (j + j2))
            have hz := Lib.hid (pad5_pl (l := m) (by have := HM.out; omega) HQ.out j2)
            have hF2 : Hid (∀ i, upd f2 (j + j2) (pl a' b' c' d' j2) i = (l.take j ++ m.take (j2 + 1))[i]?.getD 0) := Lib.hid (by
              have hjl : j2 < m.length := by have := HM.out; omega
              rw [List.take_succ_eq_append_getElem hjl, ← List.append_assoc]
              have e : pl a' b' c' d' j2 = m[j2] := by rw [hz.out, List.getElem?_eq_getElem hjl]; rfl
              rw [e]
              have hll := HL.out
              exact upd_snoc (by rw [List.length_append, List.length_take, List.length_take]; omega) HF2.out _)
            generalize pl a' b' c' d' j2 = z at yk hF2 hz
            have S3 := Lib.hid ((b5_set HS2.out (j + j2) jj4 z).set 0 (by simp) (.int .i64 (j + (j2 + 1) : Nat)))
            have Y3 := Lib.hid ((HY2.out.other (b' := w.heap.size + 1 + 1 + 1) (i := 1 + (j + j2)) (by omega) (.int .i64 z)).other (b' := w.heap.size + 1 + 1 + 1) (i := 0) (by omega) (.int .i64 (j + (j2 + 1) : Nat)))
            have R3 := Lib.hid ((HR2.out.other (b' := w.heap.size + 1 + 1 + 1) (i := 1 + (j + j2)) (by omega) (.int .i64 z)).other (b' := w.heap.size + 1 + 1 + 1) (i := 0) (by omega) (.int .i64 (j + (j2 + 1) : Nat)))
            have B3 := Lib.hid ((HB2.out.drew.setCell (p := ⟨w.heap.size + 1 + 1 + 1, 1 + (j + j2), none⟩) (by simp; omega) (.int .i64 z)).setCell (p := ⟨w.heap.size + 1 + 1 + 1, 0, none⟩) (by simp; omega) (.int .i64 (j + (j2 + 1) : Nat)))
            go_wp2
            go_region
            go_wp2
            go_roundw
            case rel => exact ⟨j2 + 1, upd f2 (j + j2) z, by go_num, by omega, by omega, hF2, S3, Y3, R3, B3⟩
            case measure => simp [intOf]; omega
          · have hor2 : (¬ (j2 : Int) < M) ∨ ((j2 : Int) < M ∧ decide ((j : Int) + (j2 : Int) < (k : Int)) = false) := by
              by_cases h1 : j2 < M
              · exact .inr ⟨by omega, decide_eq_false (by omega)⟩
              · exact .inl (by omega)
            have hfin : l.take j ++ m.take j2 = (l ++ m).take k := by
              have e1 := HL.out
              have e2 := HM.out
              have e3 := HQQ.out
              rw [List.take_append]
              by_cases h1 : N ≤ k
              · have : j = N := by omega
                rw [List.take_of_length_le (l := l) (i := j) (by omega), List.take_of_length_le (l := l) (i := k) (by omega)]
                congr 1
                by_cases h2 : j2 < M
                · congr 1; omega
                · rw [List.take_of_length_le (by omega), List.take_of_length_le (by omega)]
              · have h3 : j = k := by omega
                have h4 : j2 = 0 := by omega
                rw [h3, h4, show k - l.length = 0 by omega]
            have hy := HY.out
            rw [← hfin] at hy
            simp only [pad5, Prod.mk.injEq] at hy
            obtain ⟨p0, p1, p2, p3, p4⟩ := hy
            have p5 : (j : Int) + (j2 : Int) = y0 := by
              rw [← p0, List.length_append, List.length_take, List.length_take, HL.out, HM.out]
              have := HQQ.out
              omega
            have SN := HS2.out
            rw [HF2.out 0, HF2.out 1, HF2.out 2, HF2.out 3, p1, p2, p3, p4] at SN
            obtain ⟨q0, q1, q2, q3, q4⟩ := SN.cell5
            obtain ⟨v0, v1, v2, v3, v4⟩ := HR2.out.cell5
            obtain ⟨g0, g1, g2, g3, g4⟩ := HR2.out.free5
            have P5 := Lib.hid p5
            clear hfin p0 p1 p2 p3 p4 p5 SN hlt2
            rcases hor2 with t3 | ⟨t3, t4⟩
            all_goals
              go_wp2
              obtain ⟨z0, z1, z2, z3, z4⟩ := (HR2.out.put5 (.int .i64 ((j : Int) + (j2 : Int))) (.int .i64 y1) (.int .i64 y2) (.int .i64 y3) (.int .i64 y4)).cell5
              exact bodyPost_ret (v := .agg #[.int .i64 ((j : Int) + (j2 : Int)), .int .i64 y1, .int .i64 y2, .int .i64 y3, .int .i64 y4]) (by simp [results, Try.results90, go_sem, z0, z1, z2, z3, z4]) rfl ⟨by rw [P5.out], below_put5 HB2.out (by omega) _ _ _ _ _⟩
end Go.Proofs.Ytdahaajfkjmflaa.s13

namespace Go.Proofs.Ytdahaajfkjmflaa.kit
set_option linter.unusedVariables false
set_option linter.unusedSimpArgs false
open Go Go.RowKit

section
variable {P : Program} {ops : Array Oper} {md : Region.Mode} {C : World → Prop}

def wpAnyLQ (P : Program) (md : Region.Mode) (ops : Array Oper) (C : World → Prop) (nh : Nat) (L : Array Bool → Act → Prop) : Nat → Array Bool → Act → Prop
  | 0, listed, a => L listed a
  | f + 1, listed, a =>
    Region.ready md ops listed ≠ [] ∧ ∀ i ∈ Region.ready md ops listed, i < nh ∧ qOp P ops C i (wpAnyLQ P md ops C nh L f (listed.setIfInBounds i true)) a

theorem wpAny_of_headQ {nh g : Nat} {L : Array Bool → Act → Prop} {Q' : Exit → Act → World → Prop} (hL : ∀ listed a w, C w → L listed a → wpAny P md ops Q' g listed a w) :
    ∀ (f : Nat) (listed : Array Bool) (a : Act) (w : World), C w → wpAnyLQ P md ops C nh L f listed a → wpAny P md ops Q' (f + g) listed a w
  | 0, listed, a, w, hw, h => by rw [Nat.zero_add]; exact hL _ _ _ hw h
  | f + 1, listed, a, w, hw, h => by
    rw [show f + 1 + g = (f + g) + 1 by omega]
    exact ⟨fun h0 => absurd h0 h.1, fun i hi => wpOp_of_qOp hw (fun a' w' hw' h' => wpAny_of_headQ hL f _ a' w' hw' h') (h.2 i hi).2⟩

theorem wpAnyLQ_first {nh i : Nat} {oi : Oper} {v : Value} {L : Array Bool → Act → Prop} (hi : ops[i]? = some oi) (hsel : ∀ (j : Nat) (o : Oper) cs b, ops[j]? = some o → o.op ≠ .select cs b)
    (hs : Region.sinkB md ops nh = true) (hc : Region.chainB md ops nh = true) (hn : nh < ops.size) (hin : i < nh)
    (hdone : ∀ listed a, L listed a → ∀ j ∈ Region.ready md ops listed, nh ≤ j) :
    ∀ (f : Nat) (listed : Array Bool) (a : Act), HeadInv md ops nh listed →
      (∀ j oj, ops[j]? = some oj → j ≠ i → listed.getD j true = false → (∀ e ∈ oj.after, Region.binds md e = true → e.on ≠ i) → oi.apart ops oj = true) →
      i ∈ Region.ready md ops listed → YieldsIn P ops C oi v a →
      wpAnyLQ P md ops C nh L f (listed.setIfInBounds i true) (a.put oi.dst v) → wpAnyLQ P md ops C nh L (f + 1) listed a := by
  intro f
  induction f with
  | zero =>
    intro listed a inv _ hr hy H
    have hun := (mem_ready.1 hr).1
    refine ⟨fun h => (by rw [h] at hr; cases hr), fun j hj => ?_⟩
    have hjn : j < nh := by
      rcases Nat.lt_or_ge j nh with h | h
      · exact h
      · exact absurd hj (tail_waits hs hc hn inv _ i rfl hin hun j h)
    refine ⟨hjn, ?_⟩
    by_cases hji : j = i
    · subst hji; exact hy.qOp hi H
    · have := hdone _ _ H j (ready_mono hj hji)
      omega
  | succ f ih =>
    intro listed a inv hfree hr hy H
    have hun := (mem_ready.1 hr).1
    refine ⟨fun h => (by rw [h] at hr; cases hr), fun j hj => ?_⟩
    have hjn : j < nh := by
      rcases Nat.lt_or_ge j nh with h | h
      · exact h
      · exact absurd hj (tail_waits hs hc hn inv _ i rfl hin hun j h)
    refine ⟨hjn, ?_⟩
    by_cases hji : j = i
    · subst hji; exact hy.qOp hi H
    · have h1 := (H.2 j (ready_mono hj hji)).2
      obtain ⟨hjun, oj, hoj, hall⟩ := mem_ready.1 hj
      have hnot : ∀ e ∈ oj.after, Region.binds md e = true → e.on ≠ i := fun e he hb heq => by
        have h1 := hall e he hb
        rw [heq, getD_both hun] at h1
        cases h1
      have h2 := qOp_put hoj (hfree j oj hoj hji hjun hnot) (fun cs b => hsel i oi cs b hi) (fun cs b => hsel j oj cs b hoj) hy h1
      have hfree' : ∀ k ok, ops[k]? = some ok → k ≠ i → (listed.setIfInBounds j true).getD k true = false →
          (∀ e ∈ ok.after, Region.binds md e = true → e.on ≠ i) → oi.apart ops ok = true := fun k ok hk hki hun hno => by
        refine hfree k ok hk hki ?_ hno
        by_cases hjk : j = k
        · subst hjk; exact hjun
        · rw [getD_set_ne true hjk] at hun; exact hun
      refine qOp_mono (fun a' h3 => ih (listed.setIfInBounds j true) a' (inv.set hj hjn) hfree' (ready_mono hr (Ne.symm hji)) h3.1 ?_) h2
      rw [Array.setIfInBounds_comm _ _ hji]
      exact h3.2

theorem wpAnyLQ_lex {nh g : Nat} {Lq : Act → Prop} (hsel : Region.noSelect ops = true) (hs : Region.sinkB md ops nh = true) (hc : Region.chainB md ops nh = true) (hn : nh < ops.size) :
    ∀ (l : List Oper) (k : Nat) (listed : Array Bool) (a : Act), (∀ j, j < l.length → l[j]? = ops[k + j]?) → k + l.length = nh → HeadInv md ops nh listed →
    Region.lexHead md ops g l.length k listed = true → wpQuiet P ops C Lq l a →
    wpAnyLQ P md ops C nh (fun listed' a' => Region.seqB md ops g nh listed' = true ∧ Lq a') l.length listed a
  | [], k, listed, a, _, hk, _, hB, h => by
    have : k = nh := by simpa using hk
    subst this
    exact ⟨by simpa [Region.lexHead] using hB, h⟩
  | o :: l, k, listed, a, hl, hk, inv, hB, h => by
    have h0 : ops[k]? = some o := by simpa using (hl 0 (by simp)).symm
    simp only [List.length_cons, Region.lexHead, Bool.and_eq_true] at hB
    obtain ⟨⟨hr, hf⟩, hB'⟩ := hB
    have hkn : k < nh := by simp only [List.length_cons] at hk; omega
    have hr' : k ∈ Region.ready md ops listed := by simpa using hr
    have hst : qOp P ops C k (wpQuiet P ops C Lq l) a := by unfold qOp; simp only [h0]; exact h
    obtain ⟨v, hy, hK⟩ := yieldsIn_of_qOp h0 hst
    exact wpAnyLQ_first h0 (Region.noSelect_spec hsel) hs hc hn hkn (fun listed' a' hL => seqB_ready hL.1) l.length listed a inv (Region.free_spec h0 hf) hr' hy
      (wpAnyLQ_lex hsel hs hc hn l (k + 1) _ _ (fun j hj => by have := hl (j + 1) (by simp; omega); simpa [Nat.add_assoc, Nat.add_comm 1 j] using this) (by simp only [List.length_cons] at hk; omega) (inv.set hr' hkn) hB' hK)

theorem wpQuiet_weaken {C : World → Prop} {Q1 Q2 : Act → Prop} (h : ∀ a, Q1 a → Q2 a) : ∀ (l : List Oper) (a : Act), wpQuiet P ops C Q1 l a → wpQuiet P ops C Q2 l a
  | [], a, hh => h a hh
  | o :: rest, a, hh => by
    unfold wpQuiet at hh ⊢
    split at hh
    · rename_i hw
      rw [if_pos hw]
      exact Oper.quiet_mono (fun a' => wpQuiet_weaken h rest a') hh
    · rename_i hw
      rw [if_neg hw]
      exact wpQuiet_weaken h rest _ hh
/-- reads first, then a forced tail -/
theorem wp_region_class_tail {id : Nat} {Q : Exit → Act → World → Prop} {a : Act} {w : World} {l : List Oper} {C : World → Prop} (nh : Nat) (hC : C w.drew) (hm : P.follows .mixedOrders = true) (hB : Region.lexTailB .any l.toArray nh = true)
    (h : wpQuiet P l.toArray C (fun a' => ∀ w', C w' → wpList P l.toArray Q (l.drop nh) a' w') (l.take nh) a) : (Code.region id l.toArray true).wp P Q a w := by
  simp only [Region.lexTailB, Bool.and_eq_true, decide_eq_true_eq] at hB
  obtain ⟨⟨⟨⟨hsel, hn⟩, hs⟩, hc⟩, hlex⟩ := hB
  have hn' : nh < l.length := by simpa using hn
  have htl : (l.take nh).length = nh := by simp; omega
  have hdl : (l.drop nh).length = l.toArray.size - nh := by simp
  have inv0 : HeadInv .any l.toArray nh (Array.replicate l.toArray.size false) :=
    ⟨by simp, fun j oj _ hl => (by rw [getD_replicate_false] at hl; cases hl), fun t _ ht => getD_in (by simpa using ht) (getD_replicate_false _ _)⟩
  have H := wpAnyLQ_lex (P := P) (C := C) (md := .any) (g := l.toArray.size - nh) hsel hs hc hn (l.take nh) 0 _ a (fun j hj => by
    have hj' : j < nh := by rw [htl] at hj; exact hj
    simp [hj']) (by simpa using htl) inv0 (by rw [htl]; exact hlex) h
  refine wp_region_any hm ?_
  have := wpAny_of_headQ (P := P) (md := .any) (ops := l.toArray) (C := C) (nh := nh) (L := fun listed' a' => Region.seqB .any l.toArray (l.toArray.size - nh) nh listed' = true ∧ ∀ w', C w' → wpList P l.toArray Q (l.drop nh) a' w') (Q' := Q) (g := l.toArray.size - nh) (fun listed a' w' hw' hL => by
    have := wpAny_of_seq (P := P) (ops := l.toArray) (md := .any) (Q' := Q) (l.drop nh) nh listed a' w' (fun j => by simp [List.getElem?_drop]) (by rw [hdl]; exact hL.1) (hL.2 w' hw')
    rwa [hdl] at this) _ _ _ w.drew hC H
  rw [htl, show nh + (l.toArray.size - nh) = l.toArray.size by omega] at this
  exact this
/-- reads and calls that make blocks of their own, then a forced tail -/
theorem wp_region_later_tail {id : Nat} {Q : Exit → Act → World → Prop} {a : Act} {w : World} {l : List Oper} (nh : Nat) (hm : P.follows .mixedOrders = true) (hB : Region.lexTailB .any l.toArray nh = true)
    (h : wpQuiet P l.toArray (fun w' => ∃ p : Later w, w' = p.W) (fun a' => ∀ p : Later w, wpList P l.toArray Q (l.drop nh) a' p.W) (l.take nh) a) : (Code.region id l.toArray true).wp P Q a w := by
  refine wp_region_class_tail (C := fun w' => ∃ p : Later w, w' = p.W) nh ⟨⟨w.drew, (Below.refl _ _).drew⟩, rfl⟩ hm hB ?_
  exact wpQuiet_weaken (fun a' ha w' ⟨p, hp⟩ => hp ▸ ha p) _ _ h
end
end Go.Proofs.Ytdahaajfkjmflaa.kit

namespace Go.Proofs.Ytdahaajfkjmflaa.s13
set_option linter.unusedVariables false
set_option linter.unusedSimpArgs false
open Go.RowKit
open kit

set_option maxRecDepth 100000 in
set_option maxHeartbeats 2000000 in
theorem rjoin_any (k n a b c d n' a' b' c' d' : Int) (w : World) (y : V5) (r : Int) (H : Hid (joinE k (n, a, b, c, d) (n', a', b', c', d') = (y, r))) : Calls Try.prog 82 #[.int .i64 k, .agg #[.int .i64 n, .int .i64 a, .int .i64 b, .int .i64 c, .int .i64 d], .agg #[.int .i64 n', .int .i64 a', .int .i64 b', .int .i64 c', .int .i64 d']] w fun e w' => e = .returned (LE y r) ∧ Below w.heap.size w w' := by
  have h := H.out
  unfold joinE at h
  simp only at h
  by_cases hc : bothP n a b c d n' a' b' c' d' = 0
  · rw [if_neg (by simpa using hc)] at h
    have HC := Lib.hid hc
    by_cases hk : k < 1 ∨ 4 < k
    · rw [if_pos hk] at h; cases h
      clear hc H
      by_cases h1 : k < 1
      · clear hk
        go_enter Try.func82, Try.ntmps82
        go_wp2_with (go_at_call 85; refine (rboth_any n a b c d n' a' b' c' d' 0 _ HC).mono ?_; rintro e w1 ⟨rfl, hB⟩; obtain ⟨X1, Y1, Z1, hB1⟩ := made3 hB; have B1 := Lib.hid hB1; have Z1 := Lib.hid Z1; clear hB hB1 X1 Y1; obtain ⟨v0, v1, v2, v3, v4⟩ := Z1.out.cell5; obtain ⟨g0, g1, g2, g3, g4⟩ := Z1.out.free5)
        obtain ⟨z0, z1, z2, z3, z4⟩ := (Z1.out.put5 (.int .i64 0) (.int .i64 0) (.int .i64 0) (.int .i64 0) (.int .i64 0)).cell5
        exact bodyPost_ret (v := .tuple #[.agg #[.int .i64 0, .int .i64 0, .int .i64 0, .int .i64 0, .int .i64 0], .int .i64 2]) (by simp [results, Try.results82, go_sem, z0, z1, z2, z3, z4]) rfl ⟨rfl, below_put5 B1.out (by omega) _ _ _ _ _⟩
      · have h2 : 4 < k := by omega
        have h3 : decide (k < 1) = false := decide_eq_false h1
        clear hk h1
        go_enter Try.func82, Try.ntmps82
        go_wp2_with (go_at_call 85; refine (rboth_any n a b c d n' a' b' c' d' 0 _ HC).mono ?_; rintro e w1 ⟨rfl, hB⟩; obtain ⟨X1, Y1, Z1, hB1⟩ := made3 hB; have B1 := Lib.hid hB1; have Z1 := Lib.hid Z1; clear hB hB1 X1 Y1; obtain ⟨v0, v1, v2, v3, v4⟩ := Z1.out.cell5; obtain ⟨g0, g1, g2, g3, g4⟩ := Z1.out.free5)
        obtain ⟨z0, z1, z2, z3, z4⟩ := (Z1.out.put5 (.int .i64 0) (.int .i64 0) (.int .i64 0) (.int .i64 0) (.int .i64 0)).cell5
        exact bodyPost_ret (v := .tuple #[.agg #[.int .i64 0, .int .i64 0, .int .i64 0, .int .i64 0, .int .i64 0], .int .i64 2]) (by simp [results, Try.results82, go_sem, z0, z1, z2, z3, z4]) rfl ⟨rfl, below_put5 B1.out (by omega) _ _ _ _ _⟩
    · rw [if_neg hk] at h; cases h
      obtain ⟨h1, h2⟩ := both_yes hc
      obtain ⟨N, hN, hN4, hl, hp⟩ := lst_nat h1
      obtain ⟨M, hM, hM4, hm, hq⟩ := lst_nat h2
      obtain ⟨K, rfl⟩ : ∃ K : Nat, k = K := ⟨k.toNat, by omega⟩
      have k1 : (1 : Int) ≤ K := by omega
      have k2 : (K : Int) ≤ 4 := by omega
      have k3 : K ≤ 4 := by omega
      have k4 : decide ((K : Int) < 1) = false := decide_eq_false (by omega)
      have k5 : decide (4 < (K : Int)) = false := decide_eq_false (by omega)
      rw [Int.toNat_natCast]
      subst hN hM
      have HL := Lib.hid hl
      have HM := Lib.hid hm
      have HP := Lib.hid hp
      have HQ := Lib.hid hq
      generalize lst ((N : Int), a, b, c, d) = l at HL HP ⊢
      generalize lst ((M : Int), a', b', c', d') = m at HM HQ ⊢
      obtain ⟨⟨y0, y1, y2, y3, y4⟩, hy⟩ : ∃ y, pad5 ((l ++ m).take K) = y := ⟨_, rfl⟩
      rw [hy]
      have HY := Lib.hid hy
      clear hl hm hp hq h1 h2 hc hk H hy
      go_enter Try.func82, Try.ntmps82
      go_wp2_with (first
        | (go_at_call 85; refine (rboth_any N a b c d M a' b' c' d' 0 _ HC).mono ?_; rintro e w1 ⟨rfl, hB⟩; obtain ⟨X1, Y1, Z1, hB1⟩ := made3 hB; have B1 := Lib.hid hB1; have Z1 := Lib.hid Z1; obtain ⟨x0, x1, x2, x3, x4⟩ := X1.cell5; obtain ⟨u0, u1, u2, u3, u4⟩ := Y1.cell5; clear hB hB1 X1 Y1)
        | (go_at_call 90; refine (rplus_any l m K N M a b c d a' b' c' d' _ k3 hN4 hM4 HL HM HP HQ y0 y1 y2 y3 y4 HY).mono ?_; rintro e w2 ⟨rfl, hB⟩; have B2 := Lib.hid (below_on B1.out (Nat.le_refl _) hB); have Z2 := Lib.hid (Z1.out.below hB); clear hB; obtain ⟨v0, v1, v2, v3, v4⟩ := Z2.out.cell5; obtain ⟨g0, g1, g2, g3, g4⟩ := Z2.out.free5))
      obtain ⟨z0, z1, z2, z3, z4⟩ := (Z2.out.put5 (.int .i64 y0) (.int .i64 y1) (.int .i64 y2) (.int .i64 y3) (.int .i64 y4)).cell5
      exact bodyPost_ret (v := .tuple #[.agg #[.int .i64 y0, .int .i64 y1, .int .i64 y2, .int .i64 y3, .int .i64 y4], .int .i64 0]) (by simp [results, Try.results82, go_sem, z0, z1, z2, z3, z4]) rfl ⟨rfl, below_put5 B2.out (by omega) _ _ _ _ _⟩
  · rw [if_pos hc] at h; cases h
    have hr : (bothP n a b c d n' a' b' c' d' != 0) = true := by simpa using hc
    have hr2 : (bothP n a b c d n' a' b' c' d' == 0) = false := by simpa using hc
    obtain ⟨r, hq⟩ : ∃ r, bothP n a b c d n' a' b' c' d' = r := ⟨_, rfl⟩
    rw [hq] at hr hr2 ⊢
    have HR := Lib.hid hq
    clear hc hq H
    go_enter Try.func82, Try.ntmps82
    go_wp2_with (go_at_call 85; refine (rboth_any n a b c d n' a' b' c' d' r _ HR).mono ?_; rintro e w1 ⟨rfl, hB⟩; obtain ⟨X1, Y1, Z1, hB1⟩ := made3 hB; have B1 := Lib.hid hB1; have Z1 := Lib.hid Z1; clear hB hB1 X1 Y1; obtain ⟨v0, v1, v2, v3, v4⟩ := Z1.out.cell5; obtain ⟨g0, g1, g2, g3, g4⟩ := Z1.out.free5)
    obtain ⟨z0, z1, z2, z3, z4⟩ := (Z1.out.put5 (.int .i64 0) (.int .i64 0) (.int .i64 0) (.int .i64 0) (.int .i64 0)).cell5
    exact bodyPost_ret (v := .tuple #[.agg #[.int .i64 0, .int .i64 0, .int .i64 0, .int .i64 0, .int .i64 0], .int .i64 r]) (by simp [results, Try.results82, go_sem, z0, z1, z2, z3, z4]) rfl ⟨rfl, below_put5 B1.out (by omega) _ _ _ _ _⟩
set_option maxRecDepth 100000 in
set_option maxHeartbeats 2000000 in
theorem rorder_any (l m : List Int) (N M : Nat) (a b c d a' b' c' d' r : Int) (w : World) (hN : N ≤ 4) (hM : M ≤ 4) (HL : Hid (l.length = N)) (HM : Hid (m.length = M)) (HP : Hid (pad5 l = ((N : Int), a, b, c, d))) (HQ : Hid (pad5 m = ((M : Int), a', b', c', d'))) (HR : Hid (cmpL l m = r)) :
    Calls Try.prog 86 #[.agg #[.int .i64 N, .int .i64 a, .int .i64 b, .int .i64 c, .int .i64 d], .agg #[.int .i64 M, .int .i64 a', .int .i64 b', .int .i64 c', .int .i64 d']] w fun e w' => e = .returned (.int .i64 r) ∧ Below w.heap.size w w' := by
  have n2 : (N : Int) ≤ 4 := by omega
  have m2 : (M : Int) ≤ 4 := by omega
  have X0 := Lib.hid ((Box.new w 25 #[.int .i64 N, .int .i64 a, .int .i64 b, .int .i64 c, .int .i64 d]).alloc (.cells #[.int .i64 M, .int .i64 a', .int .i64 b', .int .i64 c', .int .i64 d'] 25))
  have Y0 := Lib.hid (new2 w (.cells #[.int .i64 N, .int .i64 a, .int .i64 b, .int .i64 c, .int .i64 d] 25) 25 #[.int .i64 M, .int .i64 a', .int .i64 b', .int .i64 c', .int .i64 d'])
  have B0 : Hid (Below w.heap.size w ((w.alloc (.cells #[.int .i64 N, .int .i64 a, .int .i64 b, .int .i64 c, .int .i64 d] 25)).alloc (.cells #[.int .i64 M, .int .i64 a', .int .i64 b', .int .i64 c', .int .i64 d'] 25))) := Lib.hid (((Below.refl w.heap.size w).alloc (Nat.le_refl _) _).alloc (by simp) _)
  go_enter Try.func86, Try.ntmps86
  go_wp2
  generalize (w.alloc (.cells #[.int .i64 N, .int .i64 a, .int .i64 b, .int .i64 c, .int .i64 d] 25)).alloc (.cells #[.int .i64 M, .int .i64 a', .int .i64 b', .int .i64 c', .int .i64 d'] 25) = W at X0 Y0 B0 ⊢
  go_loopw [5] (fun i wr => ∃ j n : Nat, i = .int .i64 j ∧ j ≤ N ∧ j ≤ M ∧ Hid (cmpL (l.drop j) (m.drop j) = r) ∧ wr = W.drewN n) (fun i _ => N - (intOf i).toNat)
  case atStart => exact ⟨0, 0, rfl, by omega, by omega, HR, rfl⟩
  case round =>
    obtain ⟨j, n, rfl, hj, hjm, HK, rfl⟩ := hrel
    have x0 := X0.out.cell 0
    have y0 := Y0.out.cell 0
    simp at x0 y0
    by_cases hlt : j < N ∧ j < M
    · obtain ⟨hl1, hl2⟩ := hlt
      have hjl : j < l.length := by have := HL.out; omega
      have hjm2 : j < m.length := by have := HM.out; omega
      have j4 : j < 4 := by omega
      have xk := X0.out.place j j4
      have yk := Y0.out.place j j4
      have e1 := pad5_pl (l := l) (by have := HL.out; omega) HP.out j
      have e2 := pad5_pl (l := m) (by have := HM.out; omega) HQ.out j
      have hh := HK.out
      have hd : l.drop j = l[j]?.getD 0 :: l.drop (j + 1) := by rw [List.getElem?_eq_getElem hjl]; exact List.drop_eq_getElem_cons hjl
      have he : m.drop j = m[j]?.getD 0 :: m.drop (j + 1) := by rw [List.getElem?_eq_getElem hjm2]; exact List.drop_eq_getElem_cons hjm2
      rw [hd, he, ← e1, ← e2, cmpL_cons] at hh
      generalize pl a b c d j = x at xk hh
      generalize pl a' b' c' d' j = y at yk hh
      clear hd he e1 e2 HK
      by_cases h1 : x < y
      · rw [if_pos h1] at hh
        have HH := Lib.hid hh
        have hne : (x != y) = true := by simp; omega
        clear hh
        go_wp2
        go_quiet (fail)
        go_wp2
        go_quiet (fail)
        go_wp2
        go_ret
        exact ⟨ret_int HH.out, below_drewN (below_drewN (below_drewN B0.out _) _) _⟩
      · rw [if_neg h1] at hh
        have hd1 : decide (x < y) = false := decide_eq_false h1
        by_cases h2 : y < x
        · rw [if_pos h2] at hh
          have HH := Lib.hid hh
          have hne : (x != y) = true := by simp; omega
          clear hh h1
          go_wp2
          go_quiet (fail)
          go_wp2
          go_quiet (fail)
          go_wp2
          go_ret
          exact ⟨ret_int HH.out, below_drewN (below_drewN (below_drewN B0.out _) _) _⟩
        · rw [if_neg h2] at hh
          have HH := Lib.hid hh
          obtain rfl : x = y := by omega
          clear hh h1 h2 hd1
          go_wp2
          go_quiet (fail)
          go_wp2
          go_roundw
          case rel => exact ⟨j + 1, _, by go_num, by omega, by omega, HH, rfl⟩
          case measure => simp [intOf]; omega
    · have hh := HK.out
      have hL := HL.out
      have hM2 := HM.out
      by_cases hjN : j = N
      · subst hjN
        rw [List.drop_of_length_le (by omega)] at hh
        by_cases hjM : j = M
        · subst hjM
          rw [List.drop_of_length_le (by omega)] at hh
          have HH : Hid ((0 : Int) = r) := Lib.hid hh
          clear hlt hh hL hM2 hjm
          go_wp2
          go_ret
          exact ⟨ret_int HH.out, below_drewN B0.out _⟩
        · have hlt2 : j < M := by omega
          have hd : m.drop j = m[j]'(by omega) :: m.drop (j + 1) := List.drop_eq_getElem_cons (by omega)
          rw [hd] at hh
          have HH : Hid ((-1 : Int) = r) := Lib.hid hh
          clear hlt hh hL hM2 hd hjM
          go_wp2
          go_ret
          exact ⟨ret_int HH.out, below_drewN B0.out _⟩
      · have hjM : j = M := by omega
        subst hjM
        rw [List.drop_of_length_le (l := m) (by omega)] at hh
        have hlt2 : j < N := by omega
        have hd : l.drop j = l[j]'(by omega) :: l.drop (j + 1) := List.drop_eq_getElem_cons (by omega)
        rw [hd] at hh
        have HH : Hid ((1 : Int) = r) := Lib.hid hh
        have t1 : decide (N < j) = false := decide_eq_false (by omega)
        clear hlt hh hL hM2 hd hjN
        go_wp2
        go_ret
        exact ⟨ret_int HH.out, below_drewN B0.out _⟩
end Go.Proofs.Ytdahaajfkjmflaa.s13

namespace Go.Proofs.Ytdahaajfkjmflaa.s13
set_option linter.unusedVariables false
set_option linter.unusedSimpArgs false
open Go.RowKit
open kit

set_option maxRecDepth 100000 in
set_option maxHeartbeats 2000000 in
theorem rcompare_any (n a b c d n' a' b' c' d' : Int) (w : World) (v r : Int) (H : Hid (cmpE (n, a, b, c, d) (n', a', b', c', d') = (v, r))) : Calls Try.prog 71 #[.agg #[.int .i64 n, .int .i64 a, .int .i64 b, .int .i64 c, .int .i64 d], .agg #[.int .i64 n', .int .i64 a', .int .i64 b', .int .i64 c', .int .i64 d']] w fun e w' => e = .returned (.tuple #[.int .i64 v, .int .i64 r]) ∧ Below w.heap.size w w' := by
  have h := H.out
  unfold cmpE at h
  simp only at h
  by_cases hc : bothP n a b c d n' a' b' c' d' = 0
  · rw [if_neg (by simpa using hc)] at h
    have HC := Lib.hid hc
    obtain ⟨h1, h2⟩ := both_yes hc
    obtain ⟨N, hN, hN4, hl, hp⟩ := lst_nat h1
    obtain ⟨M, hM, hM4, hm, hq⟩ := lst_nat h2
    subst hN hM
    have HL := Lib.hid hl
    have HM := Lib.hid hm
    have HP := Lib.hid hp
    have HQ := Lib.hid hq
    generalize lst ((N : Int), a, b, c, d) = l at HL HP h
    generalize lst ((M : Int), a', b', c', d') = m at HM HQ h
    simp only [Prod.mk.injEq] at h
    obtain ⟨hv, rfl⟩ := h
    have HV := Lib.hid hv
    clear hl hm hp hq h1 h2 hc H hv
    go_enter Try.func71, Try.ntmps71
    go_wp2_with (first
      | (go_at_call 85; refine (rboth_any N a b c d M a' b' c' d' 0 _ HC).mono ?_; rintro e w1 ⟨rfl, hB⟩; obtain ⟨X1, Y1, hB1⟩ := made2 hB; have B1 := Lib.hid hB1; obtain ⟨x0, x1, x2, x3, x4⟩ := X1.cell5; obtain ⟨u0, u1, u2, u3, u4⟩ := Y1.cell5; clear hB hB1 X1 Y1)
      | (go_at_call 86; refine (rorder_any l m N M a b c d a' b' c' d' v _ hN4 hM4 HL HM HP HQ HV).mono ?_; rintro e w2 ⟨rfl, hB⟩; have B2 := Lib.hid (below_on B1.out (Nat.le_refl _) hB); clear hB))
    go_ret2
    exact ⟨rfl, B2.out⟩
  · rw [if_pos hc] at h; cases h
    have hr : (bothP n a b c d n' a' b' c' d' != 0) = true := by simpa using hc
    obtain ⟨r, hq⟩ : ∃ r, bothP n a b c d n' a' b' c' d' = r := ⟨_, rfl⟩
    rw [hq] at hr ⊢
    have HR := Lib.hid hq
    clear hc hq H
    go_enter Try.func71, Try.ntmps71
    go_wp2_with (go_at_call 85; refine (rboth_any n a b c d n' a' b' c' d' r _ HR).mono ?_; rintro e w1 ⟨rfl, hB⟩; obtain ⟨X1, Y1, hB1⟩ := made2 hB; have B1 := Lib.hid hB1; clear hB hB1 X1 Y1)
    go_ret2
    exact ⟨rfl, B1.out⟩
theorem ret_bi {b b' : Bool} {c c' : Int} (h : (b, c) = (b', c')) : Ending.returned (.tuple #[.bool b, .int .i64 c]) = .returned (.tuple #[.bool b', .int .i64 c']) := by cases h; rfl
/-- whether one look begins another -/
def begB (l m : List Int) : Bool := decide (m.take l.length = l)
def begE (x y : V5) : Bool × Int := if bothP x.1 x.2.1 x.2.2.1 x.2.2.2.1 x.2.2.2.2 y.1 y.2.1 y.2.2.1 y.2.2.2.1 y.2.2.2.2 ≠ 0 then (false, bothP x.1 x.2.1 x.2.2.1 x.2.2.2.1 x.2.2.2.2 y.1 y.2.1 y.2.2.1 y.2.2.2.1 y.2.2.2.2) else (begB (lst x) (lst y), 0)
end Go.Proofs.Ytdahaajfkjmflaa.s13
