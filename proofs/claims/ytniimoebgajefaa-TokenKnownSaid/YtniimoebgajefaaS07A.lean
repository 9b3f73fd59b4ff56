/-
  Layer 7: the specification, and the small functions of both sides.
-/
import Derived.Test.YtniimoebgajefaaS07L
namespace Go.Proofs.Ytniimoebgajefaa.s07
set_option linter.unusedVariables false
set_option linter.unusedSimpArgs false
open Go.RowKit
open kit

/-- the error of a number of terminals -/
def termR (t : Int) : Int := if t < 1 ∨ 8 < t then 2 else 0
/-- all of a token but where it is -/
def chkP (y : Int) (n : Nat) (t : Int) : Int := if t < 1 ∨ 8 < t then 2 else if y < 0 ∨ t < y then 14 else if 24 < n then 4 else 0
/-- Check's answer -/
def chkR (y : Int) (n : Nat) (p t : Int) : Int := if t < 1 ∨ 8 < t then 2 else if y < 0 ∨ t < y then 14 else if 24 < n then 4 else if p < 0 ∨ 1099511627776 < p then 2 else 0
theorem chkR_of (y : Int) (n : Nat) (p t : Int) : chkR y n p t = if chkP y n t = 0 then (if p < 0 ∨ 1099511627776 < p then 2 else 0) else chkP y n t := by
  unfold chkR chkP
  repeat' split
  all_goals first | rfl | omega | simp_all
theorem chkP_ok {y : Int} {n : Nat} {t : Int} (h : chkP y n t = 0) : 1 ≤ t ∧ t ≤ 8 ∧ 0 ≤ y ∧ y ≤ t ∧ n ≤ 24 := by
  unfold chkP at h
  repeat' split at h
  all_goals first | omega | simp_all
theorem chkR_ok {y : Int} {n : Nat} {p t : Int} (h : chkR y n p t = 0) : chkP y n t = 0 ∧ 0 ≤ p ∧ p ≤ 1099511627776 := by
  rw [chkR_of] at h
  split at h
  · rename_i h0
    refine ⟨h0, ?_⟩
    split at h <;> omega
  · rename_i h0; exact absurd h h0
theorem isTerms_yes (t : Int) (w : World) (h1 : 1 ≤ t) (h2 : t ≤ 8) : Calls Try.prog 36 #[.int .i64 t] w fun e w' => e = .returned (.bool true) ∧ w = w' := by
  go_enter Try.func36, Try.ntmps36
  go_wp2
  go_ret
  exact ⟨rfl, rfl⟩
theorem isTerms_no (t : Int) (w : World) (h : t < 1 ∨ 8 < t) : Calls Try.prog 36 #[.int .i64 t] w fun e w' => e = .returned (.bool false) ∧ w = w' := by
  by_cases h1 : t < 1
  · clear h
    go_enter Try.func36, Try.ntmps36
    go_wp2
    go_ret
    exact ⟨rfl, rfl⟩
  · have h2 : 8 < t := by omega
    clear h
    go_enter Try.func36, Try.ntmps36
    go_wp2
    go_ret
    exact ⟨ret_bool (decide_eq_false (by omega)), rfl⟩
theorem isOffset_yes (t : Int) (w : World) (h1 : 0 ≤ t) (h2 : t ≤ 1099511627776) : Calls Try.prog 39 #[.int .i64 t] w fun e w' => e = .returned (.bool true) ∧ w = w' := by
  go_enter Try.func39, Try.ntmps39
  go_wp2
  go_ret
  exact ⟨rfl, rfl⟩
theorem isOffset_no (t : Int) (w : World) (h : t < 0 ∨ 1099511627776 < t) : Calls Try.prog 39 #[.int .i64 t] w fun e w' => e = .returned (.bool false) ∧ w = w' := by
  by_cases h1 : t < 0
  · clear h
    go_enter Try.func39, Try.ntmps39
    go_wp2
    go_ret
    exact ⟨rfl, rfl⟩
  · have h2 : 1099511627776 < t := by omega
    clear h
    go_enter Try.func39, Try.ntmps39
    go_wp2
    go_ret
    exact ⟨ret_bool (decide_eq_false (by omega)), rfl⟩
theorem terminals_yes (t : Int) (w : World) (h1 : 1 ≤ t) (h2 : t ≤ 8) : Calls Try.prog 42 #[.int .i64 t] w fun e w' => e = .returned (.int .i64 0) ∧ w = w' := by
  go_enter Try.func42, Try.ntmps42
  go_wp2
  go_ret
  exact ⟨rfl, rfl⟩
theorem terminals_no (t : Int) (w : World) (h : t < 1 ∨ 8 < t) : Calls Try.prog 42 #[.int .i64 t] w fun e w' => e = .returned (.int .i64 2) ∧ w = w' := by
  by_cases h1 : t < 1
  · clear h
    go_enter Try.func42, Try.ntmps42
    go_wp2
    go_ret
    exact ⟨rfl, rfl⟩
  · have h2 : 8 < t := by omega
    clear h
    go_enter Try.func42, Try.ntmps42
    go_wp2
    go_ret
    exact ⟨rfl, rfl⟩
theorem size_any (y p : Int) (x : ByteArray) (hx : x.size ≤ 9223372036854775805) (w : World) : Calls Try.prog 11 #[.agg #[.int .i64 y, .string x, .int .i64 p]] w fun e w' => e = .returned (.int .i64 (2 + (x.size : Int))) ∧ Below w.heap.size w w' := by
  go_enter Try.func11, Try.ntmps11
  go_wp2
  go_ret
  exact ⟨rfl, (Below.refl _ _).alloc (Nat.le_refl _) _⟩
theorem rsize_any (y p : Int) (x : ByteArray) (hx : x.size ≤ 9223372036854775805) (w : World) : Calls Try.prog 23 #[.agg #[.int .i64 y, .string x, .int .i64 p]] w fun e w' => e = .returned (.int .i64 (2 + (x.size : Int))) ∧ Below w.heap.size w w' := by
  go_enter Try.func23, Try.ntmps23
  go_wp2
  go_ret
  exact ⟨rfl, (Below.refl _ _).alloc (Nat.le_refl _) _⟩
theorem box1 (y p : Int) (x : ByteArray) (w : World) : Hid (Below w.heap.size w (w.alloc (.cells #[.int .i64 y, .string x, .int .i64 p] 23))) := Lib.hid ((Below.refl w.heap.size w).alloc (Nat.le_refl _) (.cells #[.int .i64 y, .string x, .int .i64 p] 23))
theorem box2 (y p : Int) (x : ByteArray) (w : World) : Hid (Box (w.alloc (.cells #[.int .i64 y, .string x, .int .i64 p] 23)) 23 w.heap.size #[.int .i64 y, .string x, .int .i64 p]) := Lib.hid (Box.new w 23 #[.int .i64 y, .string x, .int .i64 p])
set_option maxRecDepth 100000 in
set_option maxHeartbeats 1000000 in
theorem checkParts_any (y p t : Int) (x : ByteArray) (w : World) (c : Int) (H : Hid (chkP y x.size t = c)) :
    Calls Try.prog 38 #[.agg #[.int .i64 y, .string x, .int .i64 p], .int .i64 t] w fun e w' => e = .returned (.int .i64 c) ∧ Below w.heap.size w w' := by
  have HB := box1 y p x w
  have hc := H.out
  unfold chkP at hc
  clear H
  by_cases ht : t < 1 ∨ 8 < t
  · rw [if_pos ht] at hc
    have HC := Lib.hid hc
    clear hc
    go_enter Try.func38, Try.ntmps38
    go_wp2_with (go_at_call 36; refine (isTerms_no t _ ht).mono ?_; rintro e w1 ⟨rfl, rfl⟩)
    go_ret
    exact ⟨ret_int HC.out, HB.out⟩
  · rw [if_neg ht] at hc
    have h1 : 1 ≤ t := by omega
    have h2 : t ≤ 8 := by omega
    clear ht
    by_cases hy : y < 0 ∨ t < y
    · rw [if_pos hy] at hc
      have HC := Lib.hid hc
      clear hc
      by_cases hy1 : y < 0
      · clear hy
        go_enter Try.func38, Try.ntmps38
        go_wp2_with (go_at_call 36; refine (isTerms_yes t _ h1 h2).mono ?_; rintro e w1 ⟨rfl, rfl⟩)
        go_ret
        exact ⟨ret_int HC.out, HB.out⟩
      · have hy2 : t < y := by omega
        clear hy
        go_enter Try.func38, Try.ntmps38
        go_wp2_with (go_at_call 36; refine (isTerms_yes t _ h1 h2).mono ?_; rintro e w1 ⟨rfl, rfl⟩)
        go_ret
        exact ⟨ret_int HC.out, HB.out⟩
    · rw [if_neg hy] at hc
      have y1 : ¬ y < 0 := by omega
      have y2 : ¬ t < y := by omega
      clear hy
      by_cases hx : 24 < x.size
      · rw [if_pos hx] at hc
        have HC := Lib.hid hc
        clear hc
        have hx2 : (24 : Int) < (x.size : Int) := by omega
        go_enter Try.func38, Try.ntmps38
        go_wp2_with (go_at_call 36; refine (isTerms_yes t _ h1 h2).mono ?_; rintro e w1 ⟨rfl, rfl⟩)
        go_ret
        exact ⟨ret_int HC.out, HB.out⟩
      · rw [if_neg hx] at hc
        have HC := Lib.hid hc
        clear hc
        have hx2 : ¬ (24 : Int) < (x.size : Int) := by omega
        go_enter Try.func38, Try.ntmps38
        go_wp2_with (go_at_call 36; refine (isTerms_yes t _ h1 h2).mono ?_; rintro e w1 ⟨rfl, rfl⟩)
        go_ret
        exact ⟨ret_int HC.out, HB.out⟩
set_option maxRecDepth 100000 in
set_option maxHeartbeats 1000000 in
theorem check_any (y p t : Int) (x : ByteArray) (w : World) (c : Int) (H : Hid (chkR y x.size p t = c)) :
    Calls Try.prog 15 #[.agg #[.int .i64 y, .string x, .int .i64 p], .int .i64 t] w fun e w' => e = .returned (.int .i64 c) ∧ Below w.heap.size w w' := by
  have HB := box1 y p x w
  have HX := box2 y p x w
  obtain ⟨k, hk⟩ : ∃ k, chkP y x.size t = k := ⟨_, rfl⟩
  have HK := Lib.hid hk
  have hc := H.out
  rw [chkR_of, hk] at hc
  clear H hk
  by_cases hk0 : k = 0
  · rw [if_pos hk0] at hc
    subst hk0
    by_cases hp : p < 0 ∨ 1099511627776 < p
    · rw [if_pos hp] at hc
      have HC := Lib.hid hc
      clear hc
      go_enter Try.func15, Try.ntmps15
      go_wp2_with (first
        | (go_at_call 38; refine (checkParts_any y p t x _ 0 HK).mono ?_; rintro e w1 ⟨rfl, hB⟩; obtain ⟨c0, c1, c2⟩ := (HX.out.below hB).cell3)
        | (go_at_call 39; refine (isOffset_no p _ hp).mono ?_; rintro e w2 ⟨rfl, rfl⟩))
      go_ret
      exact ⟨ret_int HC.out, HB.out.trans (hB.mono HB.out.size)⟩
    · rw [if_neg hp] at hc
      have HC := Lib.hid hc
      clear hc
      have p1 : 0 ≤ p := by omega
      have p2 : p ≤ 1099511627776 := by omega
      clear hp
      go_enter Try.func15, Try.ntmps15
      go_wp2_with (first
        | (go_at_call 38; refine (checkParts_any y p t x _ 0 HK).mono ?_; rintro e w1 ⟨rfl, hB⟩; obtain ⟨c0, c1, c2⟩ := (HX.out.below hB).cell3)
        | (go_at_call 39; refine (isOffset_yes p _ p1 p2).mono ?_; rintro e w2 ⟨rfl, rfl⟩))
      go_ret
      exact ⟨ret_int HC.out, HB.out.trans (hB.mono HB.out.size)⟩
  · rw [if_neg hk0] at hc
    have HC := Lib.hid hc
    have t0 : (k != 0) = true := by rw [bne_iff_ne]; exact hk0
    clear hc hk0
    go_enter Try.func15, Try.ntmps15
    go_wp2_with (go_at_call 38; refine (checkParts_any y p t x _ k HK).mono ?_; rintro e w1 ⟨rfl, hB⟩)
    go_ret
    exact ⟨ret_int HC.out, HB.out.trans (hB.mono HB.out.size)⟩
set_option maxRecDepth 100000 in
set_option maxHeartbeats 1000000 in
theorem rcheck_any (y p t : Int) (x : ByteArray) (w : World) (c : Int) (H : Hid (chkR y x.size p t = c)) :
    Calls Try.prog 22 #[.agg #[.int .i64 y, .string x, .int .i64 p], .int .i64 t] w fun e w' => e = .returned (.int .i64 c) ∧ Below w.heap.size w w' := by
  have HB := box1 y p x w
  have hc := H.out
  unfold chkR at hc
  clear H
  by_cases ht : t < 1 ∨ 8 < t
  · rw [if_pos ht] at hc
    have HC := Lib.hid hc
    clear hc
    go_enter Try.func22, Try.ntmps22
    go_wp2_with (go_at_call 42; refine (terminals_no t _ ht).mono ?_; rintro e w1 ⟨rfl, rfl⟩)
    go_ret
    exact ⟨ret_int HC.out, HB.out⟩
  · rw [if_neg ht] at hc
    have h1 : 1 ≤ t := by omega
    have h2 : t ≤ 8 := by omega
    clear ht
    by_cases hy : y < 0 ∨ t < y
    · rw [if_pos hy] at hc
      have HC := Lib.hid hc
      clear hc
      by_cases hy1 : y < 0
      · clear hy
        go_enter Try.func22, Try.ntmps22
        go_wp2_with (go_at_call 42; refine (terminals_yes t _ h1 h2).mono ?_; rintro e w1 ⟨rfl, rfl⟩)
        go_ret
        exact ⟨ret_int HC.out, HB.out⟩
      · have hy2 : t < y := by omega
        clear hy
        go_enter Try.func22, Try.ntmps22
        go_wp2_with (go_at_call 42; refine (terminals_yes t _ h1 h2).mono ?_; rintro e w1 ⟨rfl, rfl⟩)
        go_ret
        exact ⟨ret_int HC.out, HB.out⟩
    · rw [if_neg hy] at hc
      have y1 : ¬ y < 0 := by omega
      have y2 : ¬ t < y := by omega
      clear hy
      by_cases hx : 24 < x.size
      · rw [if_pos hx] at hc
        have HC := Lib.hid hc
        clear hc
        have hx2 : (24 : Int) < (x.size : Int) := by omega
        go_enter Try.func22, Try.ntmps22
        go_wp2_with (go_at_call 42; refine (terminals_yes t _ h1 h2).mono ?_; rintro e w1 ⟨rfl, rfl⟩)
        go_ret
        exact ⟨ret_int HC.out, HB.out⟩
      · rw [if_neg hx] at hc
        have hx2 : ¬ (24 : Int) < (x.size : Int) := by omega
        by_cases hp : p < 0 ∨ 1099511627776 < p
        · rw [if_pos hp] at hc
          have HC := Lib.hid hc
          clear hc
          by_cases hp1 : p < 0
          · clear hp
            go_enter Try.func22, Try.ntmps22
            go_wp2_with (go_at_call 42; refine (terminals_yes t _ h1 h2).mono ?_; rintro e w1 ⟨rfl, rfl⟩)
            go_ret
            exact ⟨ret_int HC.out, HB.out⟩
          · have hp2 : 1099511627776 < p := by omega
            clear hp
            go_enter Try.func22, Try.ntmps22
            go_wp2_with (go_at_call 42; refine (terminals_yes t _ h1 h2).mono ?_; rintro e w1 ⟨rfl, rfl⟩)
            go_ret
            exact ⟨ret_int HC.out, HB.out⟩
        · rw [if_neg hp] at hc
          have HC := Lib.hid hc
          clear hc
          have p1 : ¬ p < 0 := by omega
          have p2 : ¬ 1099511627776 < p := by omega
          clear hp
          go_enter Try.func22, Try.ntmps22
          go_wp2_with (go_at_call 42; refine (terminals_yes t _ h1 h2).mono ?_; rintro e w1 ⟨rfl, rfl⟩)
          go_ret
          exact ⟨ret_int HC.out, HB.out⟩
end Go.Proofs.Ytniimoebgajefaa.s07
