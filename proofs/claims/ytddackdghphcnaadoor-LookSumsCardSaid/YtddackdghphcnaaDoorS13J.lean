/-
  Layer 13: the program's Compare.
-/
import Derived.Test.YtddackdghphcnaaDoorS13D
namespace Go.Proofs.YtddackdghphcnaaDoor.s13
set_option linter.unusedVariables false
set_option linter.unusedSimpArgs false
open Go.RowKit
open kit

set_option maxRecDepth 100000 in
set_option maxHeartbeats 1000000 in
theorem ccompare_any (x y : Int) (w : World) : Calls Tryd.prog 55 #[.int .i64 x, .int .i64 y] w fun e w' => e = .returned (.int .i64 (if x < y then -1 else if y < x then 1 else 0)) ∧ w = w' := by
  by_cases h1 : x < y
  · rw [if_pos h1]
    go_enter Tryd.func55, Tryd.ntmps55
    go_wp2
    go_ret
    exact ⟨rfl, rfl⟩
  · rw [if_neg h1]
    by_cases h2 : y < x
    · rw [if_pos h2]
      go_enter Tryd.func55, Tryd.ntmps55
      go_wp2
      go_ret
      exact ⟨rfl, rfl⟩
    · rw [if_neg h2]
      go_enter Tryd.func55, Tryd.ntmps55
      go_wp2
      go_ret
      exact ⟨rfl, rfl⟩
theorem cmpL_cons (x y : Int) (l m : List Int) : cmpL (x :: l) (y :: m) = if x < y then -1 else if y < x then 1 else cmpL l m := rfl
set_option maxRecDepth 100000 in
set_option maxHeartbeats 2000000 in
theorem slcompare_any (a b : Option Addr) (n ca cb : Nat) (xs ys : List Int) (r : Int) (w : World) (hn : n ≤ 1000) (hx : Hid (xs.length = n)) (hy : Hid (ys.length = n)) (ra : Hid (ReadsI w a xs)) (rb : Hid (ReadsI w b ys)) (HR : Hid (cmpL xs ys = r)) :
    Calls Tryd.prog 56 #[.slice a n ca, .slice b n cb] w fun e w' => e = .returned (.int .i64 r) ∧ w = w' := by
  go_enter Tryd.func56, Tryd.ntmps56
  go_wp2
  go_loop [11] (fun i => ∃ k : Nat, i = .int .i64 k ∧ k ≤ n ∧ Hid (cmpL (xs.drop k) (ys.drop k) = r)) (fun i => n - (intOf i).toNat)
  case atStart => exact ⟨0, rfl, by omega, HR⟩
  case round =>
    obtain ⟨k, rfl, hk, HK⟩ := hrel
    by_cases hlt : k < n
    · have hkx : k < xs.length := by have := hx.out; omega
      have hky : k < ys.length := by have := hy.out; omega
      obtain ⟨b1, o1, rfl, _, c1⟩ := ra.out k hkx
      obtain ⟨b2, o2, rfl, _, c2⟩ := rb.out k hky
      have hd : xs.drop k = xs[k]?.getD 0 :: xs.drop (k + 1) := by rw [List.getElem?_eq_getElem hkx]; exact List.drop_eq_getElem_cons hkx
      have he : ys.drop k = ys[k]?.getD 0 :: ys.drop (k + 1) := by rw [List.getElem?_eq_getElem hky]; exact List.drop_eq_getElem_cons hky
      have hh := HK.out
      rw [hd, he] at hh
      generalize xs[k]?.getD 0 = x at c1 hh
      generalize ys[k]?.getD 0 = y at c2 hh
      rw [cmpL_cons] at hh
      clear hd he HK
      by_cases h1 : x < y
      · rw [if_pos h1] at hh
        have HH := Lib.hid hh
        have hc := Lib.hid (if_pos h1 : (if x < y then (-1 : Int) else if y < x then 1 else 0) = -1)
        clear hh h1
        go_wp2_with (go_at_call 55; refine (ccompare_any x y _).mono ?_; rintro e w1 ⟨rfl, rfl⟩; rw [hc.out])
        go_ret
        exact ⟨ret_int HH.out, rfl⟩
      · rw [if_neg h1] at hh
        by_cases h2 : y < x
        · rw [if_pos h2] at hh
          have HH := Lib.hid hh
          have hc := Lib.hid ((if_neg h1).trans (if_pos h2) : (if x < y then (-1 : Int) else if y < x then 1 else 0) = 1)
          clear hh h1 h2
          go_wp2_with (go_at_call 55; refine (ccompare_any x y _).mono ?_; rintro e w1 ⟨rfl, rfl⟩; rw [hc.out])
          go_ret
          exact ⟨ret_int HH.out, rfl⟩
        · rw [if_neg h2] at hh
          have HH := Lib.hid hh
          have hc := Lib.hid ((if_neg h1).trans (if_neg h2) : (if x < y then (-1 : Int) else if y < x then 1 else 0) = 0)
          clear hh h1 h2
          go_wp2_with (go_at_call 55; refine (ccompare_any x y _).mono ?_; rintro e w1 ⟨rfl, rfl⟩; rw [hc.out])
          go_round
          case rel => exact ⟨k + 1, by go_num, by omega, HH⟩
          case measure => simp [intOf]; omega
    · obtain rfl : k = n := by omega
      have h0 := HK.out
      rw [List.drop_of_length_le (by have := hx.out; omega), List.drop_of_length_le (by have := hy.out; omega)] at h0
      have H0 := Lib.hid h0
      clear h0
      go_wp2
      go_ret
      exact ⟨ret_int H0.out, rfl⟩
theorem cmpL_zeros (m : List Int) : ∀ p, p = m.length → (∀ x ∈ m, 0 ≤ x) → cmpL (List.replicate p 0) m ≤ 0 := by
  induction m with
  | nil => intro p hp _; subst hp; simp [cmpL]
  | cons y m ih =>
    intro p hp hm
    subst hp
    rw [List.length_cons, List.replicate_succ, cmpL_cons]
    have := hm y List.mem_cons_self
    by_cases h : (0 : Int) < y
    · rw [if_pos h]; omega
    · rw [if_neg h, if_neg (by omega)]
      exact ih _ rfl fun x hx => hm x (List.mem_cons_of_mem _ hx)
/-- by length alone -/
def lenC (n m : Nat) : Int := if n < m then -1 else if m < n then 1 else 0
theorem cmpL_padded (l : List Int) : ∀ (m : List Int) (p q : Nat), l.length + p = m.length + q → (∀ x ∈ l, 0 ≤ x) → (∀ x ∈ m, 0 ≤ x) →
    cmpL l m = if l ++ List.replicate p 0 = m ++ List.replicate q 0 then lenC l.length m.length else cmpL (l ++ List.replicate p 0) (m ++ List.replicate q 0) := by
  induction l with
  | nil =>
    intro m p q h _ hm
    cases m with
    | nil =>
      simp only [List.length_nil] at h
      have : p = q := by omega
      subst this
      simp [cmpL, lenC]
    | cons y m =>
      simp only [List.length_cons, List.length_nil, List.nil_append] at h ⊢
      have hz := cmpL_zeros ((y :: m) ++ List.replicate q 0) p (by simp; omega) (fun x hx => by
        rcases List.mem_append.1 hx with hx | hx
        · exact hm x hx
        · rw [List.eq_of_mem_replicate hx]; omega)
      by_cases e : List.replicate p 0 = y :: m ++ List.replicate q 0
      · rw [if_pos e]; simp [cmpL, lenC]
      · rw [if_neg e]
        rcases cmpL_range (List.replicate p 0) (y :: m ++ List.replicate q 0) with h1 | h1 | h1
        · rw [h1]; rfl
        · exact absurd (cmpL_zero h1) e
        · omega
  | cons x l ih =>
    intro m p q h hl hm
    cases m with
    | nil =>
      simp only [List.length_cons, List.length_nil, List.nil_append] at h ⊢
      have hz := cmpL_zeros ((x :: l) ++ List.replicate p 0) q (by simp; omega) (fun z hx => by
        rcases List.mem_append.1 hx with hx | hx
        · exact hl z hx
        · rw [List.eq_of_mem_replicate hx]; omega)
      have hneg := cmpL_neg (List.replicate q 0) (x :: l ++ List.replicate p 0)
      by_cases e : x :: l ++ List.replicate p 0 = List.replicate q 0
      · rw [if_pos e]; simp [cmpL, lenC]
      · rw [if_neg e, hneg]
        rcases cmpL_range (List.replicate q 0) (x :: l ++ List.replicate p 0) with h1 | h1 | h1
        · rw [h1]; rfl
        · exact absurd (cmpL_zero h1).symm e
        · omega
    | cons y m =>
      simp only [List.length_cons, List.cons_append] at h ⊢
      rw [cmpL_cons, cmpL_cons]
      by_cases h1 : x < y
      · rw [if_pos h1, if_neg (fun e => by injection e; omega), if_pos h1]
      · rw [if_neg h1]
        by_cases h2 : y < x
        · rw [if_pos h2, if_neg (fun e => by injection e; omega), if_neg h1, if_pos h2]
        · rw [if_neg h2]
          have hxy : x = y := by omega
          subst hxy
          rw [ih m p q (by omega) (fun z hz => hl z (List.mem_cons_of_mem _ hz)) (fun z hz => hm z (List.mem_cons_of_mem _ hz))]
          by_cases e : l ++ List.replicate p 0 = m ++ List.replicate q 0
          · rw [if_pos e, if_pos (by rw [e])]
            simp [lenC]
          · rw [if_neg e, if_neg (fun k => e (by injection k)), if_neg h1, if_neg h2]
theorem pad_list {l : List Int} {N : Nat} {a b c d : Int} (hl : l.length ≤ 4) (hp : pad5 l = ((N : Int), a, b, c, d)) : [a, b, c, d] = l ++ List.replicate (4 - l.length) 0 := by
  simp only [pad5, Prod.mk.injEq] at hp
  obtain ⟨_, rfl, rfl, rfl, rfl⟩ := hp
  match l, hl with
  | [], _ => rfl
  | [a], _ => rfl
  | [a, b], _ => rfl
  | [a, b, c], _ => rfl
  | [a, b, c, d], _ => rfl
def cmpE (x y : V5) : Int × Int := if bothP x.1 x.2.1 x.2.2.1 x.2.2.2.1 x.2.2.2.2 y.1 y.2.1 y.2.2.1 y.2.2.2.1 y.2.2.2.2 ≠ 0 then (0, bothP x.1 x.2.1 x.2.2.1 x.2.2.2.1 x.2.2.2.2 y.1 y.2.1 y.2.2.1 y.2.2.2.1 y.2.2.2.2) else (cmpL (lst x) (lst y), 0)
theorem ret_ii {a b c d : Int} (h : (a, b) = (c, d)) : Ending.returned (.tuple #[.int .i64 a, .int .i64 b]) = .returned (.tuple #[.int .i64 c, .int .i64 d]) := by cases h; rfl
set_option maxRecDepth 100000 in
set_option maxHeartbeats 2000000 in
theorem pcompare_bad (n a b c d n' a' b' c' d' r : Int) (w : World) (HR : Hid (bothP n a b c d n' a' b' c' d' = r)) (hr : (r != 0) = true) : Calls Tryd.prog 25 #[.agg #[.int .i64 n, .int .i64 a, .int .i64 b, .int .i64 c, .int .i64 d], .agg #[.int .i64 n', .int .i64 a', .int .i64 b', .int .i64 c', .int .i64 d']] w fun e w' => e = .returned (.tuple #[.int .i64 0, .int .i64 r]) ∧ Below w.heap.size w w' := by
  go_enter Tryd.func25, Tryd.ntmps25
  go_wp2_with (go_at_call 46; refine (checkall_two n a b c d n' a' b' c' d' r _ _ (new3 _ _ _ _ _) HR).mono ?_; rintro e w1 ⟨rfl, hB⟩; obtain ⟨X1, Y1, Z1, hB1⟩ := made3 hB; have B1 := Lib.hid hB1; clear hB hB1 X1 Y1 Z1)
  go_ret2
  exact ⟨rfl, B1.out⟩
set_option maxRecDepth 100000 in
set_option maxHeartbeats 2000000 in
theorem pcompare_same (N M : Nat) (a b c d : Int) (w : World) (HR : Hid (bothP N a b c d M a b c d = 0)) : Calls Tryd.prog 25 #[.agg #[.int .i64 N, .int .i64 a, .int .i64 b, .int .i64 c, .int .i64 d], .agg #[.int .i64 M, .int .i64 a, .int .i64 b, .int .i64 c, .int .i64 d]] w fun e w' => e = .returned (.tuple #[.int .i64 (lenC N M), .int .i64 0]) ∧ Below w.heap.size w w' := by
  have zq : ∀ W, (binOp .eql 23 (.agg #[.int .i64 a, .int .i64 b, .int .i64 c, .int .i64 d]) (.agg #[.int .i64 a, .int .i64 b, .int .i64 c, .int .i64 d])).run Tryd.prog W = .ok (.bool true) W := fun W => by rw [eql_arr]; simp
  have zg := guard_arr
  have HL : Hid ((if (N : Int) < M then (-1 : Int) else if (M : Int) < N then 1 else 0) = lenC N M) := Lib.hid (by
    unfold lenC
    by_cases h1 : N < M
    · rw [if_pos h1, if_pos (by omega)]
    · rw [if_neg h1, if_neg (by omega)]
      by_cases h2 : M < N
      · rw [if_pos h2, if_pos (by omega)]
      · rw [if_neg h2, if_neg (by omega)])
  go_enter Tryd.func25, Tryd.ntmps25
  go_wp2_with (first
    | (go_at_call 46; refine (checkall_two N a b c d M a b c d 0 _ _ (new3 _ _ _ _ _) HR).mono ?_; rintro e w1 ⟨rfl, hB⟩; obtain ⟨X1, Y1, Z1, hB1⟩ := made3 hB; have B1 := Lib.hid hB1; obtain ⟨x0, x1, x2, x3, x4⟩ := X1.cell5; obtain ⟨y0, y1, y2, y3, y4⟩ := Y1.cell5; clear hB hB1 X1 Y1 Z1)
    | (go_at_call 55; refine (ccompare_any N M _).mono ?_; rintro e w2 ⟨rfl, rfl⟩; rw [HL.out]))
  go_ret2
  exact ⟨rfl, B1.out⟩
set_option maxRecDepth 100000 in
set_option maxHeartbeats 2000000 in
theorem pcompare_other (N M : Nat) (a b c d a' b' c' d' r : Int) (w : World) (HR : Hid (bothP N a b c d M a' b' c' d' = 0)) (hne : ¬ (a = a' ∧ b = b' ∧ c = c' ∧ d = d')) (HC : Hid (cmpL [a, b, c, d] [a', b', c', d'] = r)) : Calls Tryd.prog 25 #[.agg #[.int .i64 N, .int .i64 a, .int .i64 b, .int .i64 c, .int .i64 d], .agg #[.int .i64 M, .int .i64 a', .int .i64 b', .int .i64 c', .int .i64 d']] w fun e w' => e = .returned (.tuple #[.int .i64 r, .int .i64 0]) ∧ Below w.heap.size w w' := by
  have hq : decide (a = a' ∧ b = b' ∧ c = c' ∧ d = d') = false := decide_eq_false hne
  have zq : ∀ W, (binOp .eql 23 (.agg #[.int .i64 a, .int .i64 b, .int .i64 c, .int .i64 d]) (.agg #[.int .i64 a', .int .i64 b', .int .i64 c', .int .i64 d'])).run Tryd.prog W = .ok (.bool false) W := fun W => by rw [eql_arr, hq]
  have zg := guard_arr
  clear hq hne
  go_enter Tryd.func25, Tryd.ntmps25
  go_wp2_with (go_at_call 46; refine (checkall_two N a b c d M a' b' c' d' 0 _ _ (new3 _ _ _ _ _) HR).mono ?_; rintro e w1 ⟨rfl, hB⟩; obtain ⟨X1, Y1, Z1, hB1⟩ := made3 hB; have B1 := Lib.hid hB1; obtain ⟨x0, x1, x2, x3, x4⟩ := X1.cell5; obtain ⟨y0, y1, y2, y3, y4⟩ := Y1.cell5; have X1 := Lib.hid X1; have Y1 := Lib.hid Y1; clear hB hB1 Z1)
  have RX : ∀ n, ReadsI (w1.drewN n) (some ⟨w.heap.size, 1, none⟩) [a, b, c, d] := fun n i hi => ⟨w.heap.size, 1, rfl, (X1.out.drewN n).lt, by
    have hi4 : i < 4 := hi
    rw [(X1.out.drewN n).place i hi4]
    have hm : i = 0 ∨ i = 1 ∨ i = 2 ∨ i = 3 := by omega
    rcases hm with rfl | rfl | rfl | rfl <;> rfl⟩
  have RY : ∀ n, ReadsI (w1.drewN n) (some ⟨w.heap.size + 1, 1, none⟩) [a', b', c', d'] := fun n i hi => ⟨w.heap.size + 1, 1, rfl, (Y1.out.drewN n).lt, by
    have hi4 : i < 4 := hi
    rw [(Y1.out.drewN n).place i hi4]
    have hm : i = 0 ∨ i = 1 ∨ i = 2 ∨ i = 3 := by omega
    rcases hm with rfl | rfl | rfl | rfl <;> rfl⟩
  have RXH := Lib.hid RX
  have RYH := Lib.hid RY
  clear RX RY zq zg x0 x1 x2 x3 x4 y0 y1 y2 y3 y4
  go_quiet ((go_at_call 56; exact Calls.quiet_of_same ((slcompare_any _ _ 4 4 4 [a, b, c, d] [a', b', c', d'] r _ (by omega) (Lib.hid rfl) (Lib.hid rfl) (Lib.hid (RXH.out _)) (Lib.hid (RYH.out _)) HC).mono fun e w' h => ⟨h.1, h.2.symm⟩)))
  go_wp2
  go_ret2
  exact ⟨rfl, below_drewN B1.out _⟩
theorem pcompare_any (n a b c d n' a' b' c' d' : Int) (w : World) (v r : Int) (H : Hid (cmpE (n, a, b, c, d) (n', a', b', c', d') = (v, r))) : Calls Tryd.prog 25 #[.agg #[.int .i64 n, .int .i64 a, .int .i64 b, .int .i64 c, .int .i64 d], .agg #[.int .i64 n', .int .i64 a', .int .i64 b', .int .i64 c', .int .i64 d']] w fun e w' => e = .returned (.tuple #[.int .i64 v, .int .i64 r]) ∧ Below w.heap.size w w' := by
  have h := H.out
  unfold cmpE at h
  simp only at h
  by_cases hc : bothP n a b c d n' a' b' c' d' = 0
  · rw [if_neg (by simpa using hc)] at h
    cases h
    obtain ⟨h1, h2⟩ := both_yes hc
    obtain ⟨k1, _, _⟩ := lst_ok h1
    obtain ⟨k2, _, _⟩ := lst_ok h2
    obtain ⟨N, hN, hN4, hl, hp⟩ := lst_nat h1
    obtain ⟨M, hM, hM4, hm, hq⟩ := lst_nat h2
    subst hN hM
    have e := cmpL_padded (lst ((N : Int), a, b, c, d)) (lst ((M : Int), a', b', c', d')) (4 - N) (4 - M) (by omega) (fun x hx => (k1.2 x hx).1) (fun x hx => (k2.2 x hx).1)
    have e1 := pad_list (by omega) hp
    have e2 := pad_list (by omega) hq
    rw [hl] at e1
    rw [hm] at e2
    rw [← e1, ← e2, hl, hm] at e
    rw [e]
    by_cases hs : a = a' ∧ b = b' ∧ c = c' ∧ d = d'
    · obtain ⟨rfl, rfl, rfl, rfl⟩ := hs
      rw [if_pos rfl]
      exact pcompare_same N M a b c d w (Lib.hid hc)
    · rw [if_neg (by simpa using hs)]
      exact pcompare_other N M a b c d a' b' c' d' _ w (Lib.hid hc) hs (Lib.hid rfl)
  · rw [if_pos hc] at h; cases h
    exact pcompare_bad n a b c d n' a' b' c' d' _ w (Lib.hid rfl) (by simpa using hc)
end Go.Proofs.YtddackdghphcnaaDoor.s13
