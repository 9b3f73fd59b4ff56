/-
  Layer 13: the reference's Compare and Begins.
-/
import Derived.Test.YtddackdghphcnaaDoorS13RD
import Derived.Test.YtddackdghphcnaaDoorS13E
namespace Go.Proofs.YtddackdghphcnaaDoor.s13
set_option linter.unusedVariables false
set_option linter.unusedSimpArgs false
open Go.RowKit
open kit

set_option maxRecDepth 100000 in
set_option maxHeartbeats 2000000 in
theorem rcompare_any (n a b c d n' a' b' c' d' : Int) (w : World) (v r : Int) (H : Hid (cmpE (n, a, b, c, d) (n', a', b', c', d') = (v, r))) : Calls Tryd.prog 26 #[.agg #[.int .i64 n, .int .i64 a, .int .i64 b, .int .i64 c, .int .i64 d], .agg #[.int .i64 n', .int .i64 a', .int .i64 b', .int .i64 c', .int .i64 d']] w fun e w' => e = .returned (.tuple #[.int .i64 v, .int .i64 r]) ∧ Below w.heap.size w w' := by
  have h := H.out
  unfold cmpE at h
  simp only at h
  by_cases hc : bothP n a b c d n' a' b' c' d' = 0
  · rw [if_neg (by simpa using hc)] at h
    have HC := Lib.hid hc
    obtain ⟨h1, h2⟩ := both_yes hc
    obtain ⟨N, hN, hN4, hl, hp⟩ := lst_nat h1
    obtain ⟨M, hM, hM4, hm, hq⟩ := lst_nat h2
    subst hN hM
    have HL := Lib.hid hl
    have HM := Lib.hid hm
    have HP := Lib.hid hp
    have HQ := Lib.hid hq
    generalize lst ((N : Int), a, b, c, d) = l at HL HP h
    generalize lst ((M : Int), a', b', c', d') = m at HM HQ h
    simp only [Prod.mk.injEq] at h
    obtain ⟨hv, rfl⟩ := h
    have HV := Lib.hid hv
    clear hl hm hp hq h1 h2 hc H hv
    go_enter Tryd.func26, Tryd.ntmps26
    go_wp2_with (first
      | (go_at_call 53; refine (rboth_any N a b c d M a' b' c' d' 0 _ HC).mono ?_; rintro e w1 ⟨rfl, hB⟩; obtain ⟨X1, Y1, hB1⟩ := made2 hB; have B1 := Lib.hid hB1; obtain ⟨x0, x1, x2, x3, x4⟩ := X1.cell5; obtain ⟨u0, u1, u2, u3, u4⟩ := Y1.cell5; clear hB hB1 X1 Y1)
      | (go_at_call 57; refine (rorder_any l m N M a b c d a' b' c' d' v _ hN4 hM4 HL HM HP HQ HV).mono ?_; rintro e w2 ⟨rfl, hB⟩; have B2 := Lib.hid (below_on B1.out (Nat.le_refl _) hB); clear hB))
    go_ret2
    exact ⟨rfl, B2.out⟩
  · rw [if_pos hc] at h; cases h
    have hr : (bothP n a b c d n' a' b' c' d' != 0) = true := by simpa using hc
    obtain ⟨r, hq⟩ : ∃ r, bothP n a b c d n' a' b' c' d' = r := ⟨_, rfl⟩
    rw [hq] at hr ⊢
    have HR := Lib.hid hq
    clear hc hq H
    go_enter Tryd.func26, Tryd.ntmps26
    go_wp2_with (go_at_call 53; refine (rboth_any n a b c d n' a' b' c' d' r _ HR).mono ?_; rintro e w1 ⟨rfl, hB⟩; obtain ⟨X1, Y1, hB1⟩ := made2 hB; have B1 := Lib.hid hB1; clear hB hB1 X1 Y1)
    go_ret2
    exact ⟨rfl, B1.out⟩
theorem ret_bi {b b' : Bool} {c c' : Int} (h : (b, c) = (b', c')) : Ending.returned (.tuple #[.bool b, .int .i64 c]) = .returned (.tuple #[.bool b', .int .i64 c']) := by cases h; rfl
/-- whether one look begins another -/
def begB (l m : List Int) : Bool := decide (m.take l.length = l)
def begE (x y : V5) : Bool × Int := if bothP x.1 x.2.1 x.2.2.1 x.2.2.2.1 x.2.2.2.2 y.1 y.2.1 y.2.2.1 y.2.2.2.1 y.2.2.2.2 ≠ 0 then (false, bothP x.1 x.2.1 x.2.2.1 x.2.2.2.1 x.2.2.2.2 y.1 y.2.1 y.2.2.1 y.2.2.2.1 y.2.2.2.2) else (begB (lst x) (lst y), 0)
set_option maxRecDepth 100000 in
set_option maxHeartbeats 2000000 in
theorem rbegins_any (n a b c d n' a' b' c' d' : Int) (w : World) (v : Bool) (r : Int) (H : Hid (begE (n, a, b, c, d) (n', a', b', c', d') = (v, r))) : Calls Tryd.prog 28 #[.agg #[.int .i64 n, .int .i64 a, .int .i64 b, .int .i64 c, .int .i64 d], .agg #[.int .i64 n', .int .i64 a', .int .i64 b', .int .i64 c', .int .i64 d']] w fun e w' => e = .returned (.tuple #[.bool v, .int .i64 r]) ∧ Below w.heap.size w w' := by
  have h := H.out
  unfold begE at h
  simp only at h
  by_cases hc : bothP n a b c d n' a' b' c' d' = 0
  · rw [if_neg (by simpa using hc)] at h
    have HC := Lib.hid hc
    obtain ⟨h1, h2⟩ := both_yes hc
    obtain ⟨N, hN, hN4, hl, hp⟩ := lst_nat h1
    obtain ⟨M, hM, hM4, hm, hq⟩ := lst_nat h2
    subst hN hM
    have HL := Lib.hid hl
    have HM := Lib.hid hm
    have HP := Lib.hid hp
    have HQ := Lib.hid hq
    generalize lst ((N : Int), a, b, c, d) = l at HL HP h
    generalize lst ((M : Int), a', b', c', d') = m at HM HQ h
    simp only [Prod.mk.injEq] at h
    obtain ⟨hv, rfl⟩ := h
    have HV := Lib.hid hv
    clear hl hm hp hq h1 h2 hc H hv
    by_cases hlt : M < N
    · have hb : Hid (v = false) := Lib.hid (by
        rw [← HV.out]
        unfold begB
        refine decide_eq_false fun e => ?_
        have := congrArg List.length e
        rw [List.length_take, HL.out, HM.out] at this
        omega)
      have hlt2 : (M : Int) < N := by omega
      clear hlt
      go_enter Tryd.func28, Tryd.ntmps28
      go_wp2_with (go_at_call 53; refine (rboth_any N a b c d M a' b' c' d' 0 _ HC).mono ?_; rintro e w1 ⟨rfl, hB⟩; obtain ⟨X1, Y1, hB1⟩ := made2 hB; have B1 := Lib.hid hB1; obtain ⟨x0, x1, x2, x3, x4⟩ := X1.cell5; obtain ⟨u0, u1, u2, u3, u4⟩ := Y1.cell5; clear hB hB1 X1 Y1)
      go_ret2
      exact ⟨ret_bi (by rw [hb.out]), B1.out⟩
    · have hle : decide (M < N) = false := decide_eq_false hlt
      have hle2 : decide ((M : Int) < N) = false := decide_eq_false (by omega)
      obtain ⟨⟨y0, y1, y2, y3, y4⟩, hy⟩ : ∃ y, pad5 (m.take N) = y := ⟨_, rfl⟩
      have HY : Hid (pad5 ((m ++ []).take N) = (y0, y1, y2, y3, y4)) := Lib.hid (by rw [List.append_nil]; exact hy)
      have hvv : v = decide (y0 = (N : Int) ∧ y1 = a ∧ y2 = b ∧ y3 = c ∧ y4 = d) := by
        rw [← HV.out]
        unfold begB
        rw [HL.out]
        have e : (m.take N = l) ↔ (y0 = (N : Int) ∧ y1 = a ∧ y2 = b ∧ y3 = c ∧ y4 = d) := by
          constructor
          · intro e
            rw [e, HP.out] at hy
            simp only [Prod.mk.injEq] at hy
            obtain ⟨rfl, rfl, rfl, rfl, rfl⟩ := hy
            exact ⟨rfl, rfl, rfl, rfl, rfl⟩
          · rintro ⟨rfl, rfl, rfl, rfl, rfl⟩
            refine pad5_inj ?_ (hy.trans HP.out.symm)
            rw [List.length_take]; omega
        exact decide_eq_decide.2 e
      have zq : ∀ W, (binOp .eql 25 (.agg #[.int .i64 y0, .int .i64 y1, .int .i64 y2, .int .i64 y3, .int .i64 y4]) (.agg #[.int .i64 N, .int .i64 a, .int .i64 b, .int .i64 c, .int .i64 d])).run Tryd.prog W = .ok (.bool v) W := fun W => by rw [eql_look, ← hvv]
      have zg := guard_look
      clear hlt hy hvv HV
      go_enter Tryd.func28, Tryd.ntmps28
      go_wp2_with (go_at_call 53; refine (rboth_any N a b c d M a' b' c' d' 0 _ HC).mono ?_; rintro e w1 ⟨rfl, hB⟩; obtain ⟨X1, Y1, hB1⟩ := made2 hB; have B1 := Lib.hid hB1; have X1 := Lib.hid X1; have Y1 := Lib.hid Y1; obtain ⟨x0, x1, x2, x3, x4⟩ := X1.out.cell5; obtain ⟨u0, u1, u2, u3, u4⟩ := Y1.out.cell5; clear hB hB1)
      have qx := fun p : Later w1 => (X1.out.below p.h).cell5
      have qy := fun p : Later w1 => (Y1.out.below p.h).cell5
      have qx0 := fun p : Later w1 => (qx p).1
      have qx1 := fun p : Later w1 => (qx p).2.1
      have qx2 := fun p : Later w1 => (qx p).2.2.1
      have qx3 := fun p : Later w1 => (qx p).2.2.2.1
      have qx4 := fun p : Later w1 => (qx p).2.2.2.2
      have qy0 := fun p : Later w1 => (qy p).1
      have qy1 := fun p : Later w1 => (qy p).2.1
      have qy2 := fun p : Later w1 => (qy p).2.2.1
      have qy3 := fun p : Later w1 => (qy p).2.2.2.1
      have qy4 := fun p : Later w1 => (qy p).2.2.2.2
      clear qx qy x0 x1 x2 x3 x4 u0 u1 u2 u3 u4
      refine wp_region_later (by kernel_rfl) (by kernel_rfl) ?_
      repeat (go_big_quiet_step ((go_at_call 54; exact calls_later (rplus_any m [] N M 0 a' b' c' d' 0 0 0 0 _ hN4 hM4 (by omega) HM (Lib.hid rfl) HQ (Lib.hid rfl) y0 y1 y2 y3 y4 HY))))
      refine wpQuiet_nil ?_
      rintro w5 ⟨p5, rfl⟩
      have B5 := Lib.hid (below_on B1.out (Nat.le_refl _) p5.h)
      generalize p5.W = w6 at B5 ⊢
      go_wp2
      go_ret2
      exact ⟨rfl, B5.out⟩
  · rw [if_pos hc] at h; cases h
    have hr : (bothP n a b c d n' a' b' c' d' != 0) = true := by simpa using hc
    obtain ⟨r, hq⟩ : ∃ r, bothP n a b c d n' a' b' c' d' = r := ⟨_, rfl⟩
    rw [hq] at hr ⊢
    have HR := Lib.hid hq
    clear hc hq H
    go_enter Tryd.func28, Tryd.ntmps28
    go_wp2_with (go_at_call 53; refine (rboth_any n a b c d n' a' b' c' d' r _ HR).mono ?_; rintro e w1 ⟨rfl, hB⟩; obtain ⟨X1, Y1, hB1⟩ := made2 hB; have B1 := Lib.hid hB1; clear hB hB1 X1 Y1)
    go_ret2
    exact ⟨rfl, B1.out⟩
end Go.Proofs.YtddackdghphcnaaDoor.s13
