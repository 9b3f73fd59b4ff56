/-
  Layer 13: a map whose keys are looks. Layer 13: the reference's Compare and Begins. Layer 13: the program's Begins. Layer 13: the table that the library reads. Layer 13: the program's times and count. Layer 13: the program's count and Number. Layer 13: the program's Number and Numbered, whole. stenotypekit.Mod.
-/
import Derived.Test.YtddackdghphcnaaDoorG02
import Derived.Maps.OwnSet
import Derived.DeepKeys4
import Derived.ChangeKeys
import Derived.Test.YtddackdghphcnaaDoorG04
import Derived.Lib.SmallJoins
import Derived.Lib.LaidTab
import Derived.Test.YtddackdghphcnaaDoorG05
import Derived.Test.YtddackdghphcnaaDoorG03
import Derived.BigRegion
import Derived.Test.YtddackdghphcnaaDoorG01
namespace Go.Proofs.YtddackdghphcnaaDoor.s13
set_option linter.unusedVariables false
set_option linter.unusedSimpArgs false
open Go.RowKit
open kit

theorem laidOut9 : laidOutB Tryd.prog = true := by kernel_rfl
theorem levLook : Tryd.prog.keyTypeAt 3 25 = true := by kernel_rfl
theorem rowLook : (25 : TypeId) < Tryd.prog.types.size := of_decide_eq_true (by kernel_rfl)
theorem wideLook : (match Tryd.prog.underlying 25 with | some (.array _ _) | some (.struct _) => true | _ => false) = true := by rw [Tryd.underlying25]
set_option maxRecDepth 100000 in
set_option maxHeartbeats 1000000 in
theorem lawLook : Maps.Keyed Tryd.prog 25 := Maps.Keyed.of_law (deep_law_laid laidOut9 (m := 3) (by omega) rowLook levLook wideLook)
def inK (x : Int) : Prop := -9223372036854775808 ≤ x ∧ x ≤ 9223372036854775807
theorem wf_int {x : Int} (h : inK x) : (Lit.int .i64 x).wf = true := by
  obtain ⟨h1, h2⟩ := h
  simp [Lit.wf, IntKind.min, IntKind.max, IntKind.signed, IntKind.bits]
  omega
def lits (x : V5) : List Lit := [.int .i64 x.1, .int .i64 x.2.1, .int .i64 x.2.2.1, .int .i64 x.2.2.2.1, .int .i64 x.2.2.2.2]
theorem lits_of (n a b c d : Int) (hn : inK n) (ha : inK a) (hb : inK b) (hc : inK c) (hd : inK d) (D : Nat) : Tryd.prog.keyLits (D + 3) 25 [.int .i64 n, .int .i64 a, .int .i64 b, .int .i64 c, .int .i64 d] = some (lits (n, a, b, c, d)) := by
  have one : ∀ (E : Nat) (x : Int), inK x → Tryd.prog.keyLits (E + 1) 3 [.int .i64 x] = some [.int .i64 x] := fun E x hx => by
    unfold Program.keyLits
    rw [Tryd.underlying3]
    simp [wf_int hx]
  have c3 : Tryd.prog.cellsOf 3 = 1 := by kernel_rfl
  have c23 : Tryd.prog.cellsOf 23 = 4 := by kernel_rfl
  have c25 : Tryd.prog.cellsOf 25 = 5 := by kernel_rfl
  have arr : Tryd.prog.keyLits (D + 2) 23 [.int .i64 a, .int .i64 b, .int .i64 c, .int .i64 d] = some [.int .i64 a, .int .i64 b, .int .i64 c, .int .i64 d] := by
    unfold Program.keyLits
    rw [Tryd.underlying23]
    simp only [c3, c23, Nat.mul_one]
    show (if _ then Option.map List.flatten ([0, 1, 2, 3].mapM _) else none) = _
    simp [one D a ha, one D b hb, one D c hc, one D d hd]
  unfold Program.keyLits
  rw [Tryd.underlying25]
  simp [c3, c23, c25, one (D + 1) n hn, arr, lits]
def kL (x : V5) : Lit := .string (keyBytes (lits x))
theorem types_size : ∃ D, Tryd.prog.types.size + 1 = D + 3 := ⟨Tryd.prog.types.size - 2, by have : (2 : Nat) < Tryd.prog.types.size := of_decide_eq_true (by kernel_rfl); omega⟩
def inV (x : V5) : Prop := inK x.1 ∧ inK x.2.1 ∧ inK x.2.2.1 ∧ inK x.2.2.2.1 ∧ inK x.2.2.2.2
set_option maxRecDepth 100000 in
set_option maxHeartbeats 1000000 in
theorem key_of (n a b c d : Int) (h : inV (n, a, b, c, d)) : keyOf Tryd.prog 25 (.agg #[.int .i64 n, .int .i64 a, .int .i64 b, .int .i64 c, .int .i64 d]) = some (kL (n, a, b, c, d)) := by
  obtain ⟨D, hD⟩ := types_size
  have h1 : Tryd.prog.keyType 25 = true := by kernel_rfl
  have h2 : (.agg #[.int .i64 n, .int .i64 a, .int .i64 b, .int .i64 c, .int .i64 d] : Value).formed Tryd.prog 25 = true := by kernel_rfl
  unfold keyOf
  rw [Tryd.underlying25]
  simp only [h1, h2, Bool.and_self, if_true]
  rw [hD, show (.agg #[.int .i64 n, .int .i64 a, .int .i64 b, .int .i64 c, .int .i64 d] : Value).cells.toList = [.int .i64 n, .int .i64 a, .int .i64 b, .int .i64 c, .int .i64 d] from rfl, lits_of n a b c d h.1 h.2.1 h.2.2.1 h.2.2.2.1 h.2.2.2.2]
  rfl
theorem kL_inj {x y : V5} (hx : inV x) (hy : inV y) (h : kL x = kL y) : x = y := by
  obtain ⟨n, a, b, c, d⟩ := x
  obtain ⟨n', a', b', c', d'⟩ := y
  have e := keyLits_inj (lits_of n a b c d hx.1 hx.2.1 hx.2.2.1 hx.2.2.2.1 hx.2.2.2.2 0) (lits_of n' a' b' c' d' hy.1 hy.2.1 hy.2.2.1 hy.2.2.2.1 hy.2.2.2.2 0) (by unfold kL at h; simpa using h)
  simp only [lits, List.cons.injEq, Lit.int.injEq, true_and, and_true] at e
  obtain ⟨rfl, rfl, rfl, rfl, rfl⟩ := e
  rfl
theorem kL_key (x : V5) : WideAt.IsKeyLit (kL x) := by unfold kL; trivial
theorem zeroBool (w : World) : (zeroValue 4).run Tryd.prog w = .ok (.bool false) w := by kernel_rfl
/-- a map of looks that are in it -/
def MapB (w : World) (g k : Nat) (q : V5 → Bool) : Prop := ∃ D : DataW Unit, w.ownsMap Tryd.prog 25 (plainElem Tryd.prog 4) g k D ∧ ∀ x, inV x → D.atKey (kL x) (.lit (.bool false)) = .lit (.bool (q x))
theorem MapB.new (w : World) : MapB (w.alloc (.map #[] 0)) w.heap.size 0 (fun _ => false) := ⟨_, World.ownsMap_made w _ _ _, fun x _ => rfl⟩
theorem MapB.below {w w1 : World} {g k : Nat} {q : V5 → Bool} (h : MapB w g k q) (hB : Below w.heap.size w w1) : MapB w1 g k q := by
  obtain ⟨D, h1, h2⟩ := h
  exact ⟨D, h1.kept (row := none) ⟨hB.os, hB.tape, hB.output, hB.size, fun i hi _ => hB.block i hi⟩ (by simp), h2⟩
theorem MapB.lt {w : World} {g k : Nat} {q : V5 → Bool} (h : MapB w g k q) : g < w.heap.size := by obtain ⟨D, h1, h2⟩ := h; exact h1.lt
theorem MapB.step {D : DataW Unit} {q : V5 → Bool} (hm : Maps.IsMap D) (h : ∀ x, inV x → D.atKey (kL x) (.lit (.bool false)) = .lit (.bool (q x))) {y : V5} (hy : inV y) :
    ∀ x, inV x → (D.put (kL y) (.lit (.bool true))).atKey (kL x) (.lit (.bool false)) = .lit (.bool (q x || decide (x = y))) := by
  intro x hx
  by_cases e : x = y
  · subst e
    rw [Maps.atKey_put_same hm (kL_key x)]; simp
  · rw [Maps.atKey_put_other (fun h => e (kL_inj hx hy h)), h x hx]; simp [e]
set_option maxRecDepth 100000 in
set_option maxHeartbeats 1000000 in
theorem MapB.look {w : World} {g k : Nat} {q : V5 → Bool} (h : MapB w g k q) (n a b c d : Int) (hx : inV (n, a, b, c, d)) : (Instr.lookup 74 (.map (some g)) (.agg #[.int .i64 n, .int .i64 a, .int .i64 b, .int .i64 c, .int .i64 d]) false).run Tryd.prog w = .ok (.bool (q (n, a, b, c, d))) w := by
  obtain ⟨D, h1, h2⟩ := h
  obtain ⟨v, ps, hr, hv⟩ := h1.lookup lawLook Tryd.underlying74 (zeroBool w) (plainElem_bool Tryd.underlying4 false) (key_of n a b c d hx)
  rw [h2 _ hx] at hv
  unfold plainElem at hv
  rw [Tryd.underlying4] at hv
  cases v <;> simp at hv
  obtain ⟨e, _⟩ := hv
  rw [hr, e]
end Go.Proofs.YtddackdghphcnaaDoor.s13

namespace Go.Proofs.YtddackdghphcnaaDoor.s13
set_option linter.unusedVariables false
set_option linter.unusedSimpArgs false
open Go.RowKit
open kit

set_option maxRecDepth 100000 in
set_option maxHeartbeats 2000000 in
theorem rcompare_any (n a b c d n' a' b' c' d' : Int) (w : World) (v r : Int) (H : Hid (cmpE (n, a, b, c, d) (n', a', b', c', d') = (v, r))) : Calls Tryd.prog 26 #[.agg #[.int .i64 n, .int .i64 a, .int .i64 b, .int .i64 c, .int .i64 d], .agg #[.int .i64 n', .int .i64 a', .int .i64 b', .int .i64 c', .int .i64 d']] w fun e w' => e = .returned (.tuple #[.int .i64 v, .int .i64 r]) ∧ Below w.heap.size w w' := by
  have h := H.out
  unfold cmpE at h
  simp only at h
  by_cases hc : bothP n a b c d n' a' b' c' d' = 0
  · rw [if_neg (by simpa using hc)] at h
    have HC := Lib.hid hc
    obtain ⟨h1, h2⟩ := both_yes hc
    obtain ⟨N, hN, hN4, hl, hp⟩ := lst_nat h1
    obtain ⟨M, hM, hM4, hm, hq⟩ := lst_nat h2
    subst hN hM
    have HL := Lib.hid hl
    have HM := Lib.hid hm
    have HP := Lib.hid hp
    have HQ := Lib.hid hq
    generalize lst ((N : Int), a, b, c, d) = l at HL HP h
    generalize lst ((M : Int), a', b', c', d') = m at HM HQ h
    simp only [Prod.mk.injEq] at h
    obtain ⟨hv, rfl⟩ := h
    have HV := Lib.hid hv
    clear hl hm hp hq h1 h2 hc H hv
    go_enter Tryd.func26, Tryd.ntmps26
    go_wp2_with (first
      | (go_at_call 53; refine (rboth_any N a b c d M a' b' c' d' 0 _ HC).mono ?_; rintro e w1 ⟨rfl, hB⟩; obtain ⟨X1, Y1, hB1⟩ := made2 hB; have B1 := Lib.hid hB1; obtain ⟨x0, x1, x2, x3, x4⟩ := X1.cell5; obtain ⟨u0, u1, u2, u3, u4⟩ := Y1.cell5; clear hB hB1 X1 Y1)
      | (go_at_call 57; refine (rorder_any l m N M a b c d a' b' c' d' v _ hN4 hM4 HL HM HP HQ HV).mono ?_; rintro e w2 ⟨rfl, hB⟩; have B2 := Lib.hid (below_on B1.out (Nat.le_refl _) hB); clear hB))
    go_ret2
    exact ⟨rfl, B2.out⟩
  · rw [if_pos hc] at h; cases h
    have hr : (bothP n a b c d n' a' b' c' d' != 0) = true := by simpa using hc
    obtain ⟨r, hq⟩ : ∃ r, bothP n a b c d n' a' b' c' d' = r := ⟨_, rfl⟩
    rw [hq] at hr ⊢
    have HR := Lib.hid hq
    clear hc hq H
    go_enter Tryd.func26, Tryd.ntmps26
    go_wp2_with (go_at_call 53; refine (rboth_any n a b c d n' a' b' c' d' r _ HR).mono ?_; rintro e w1 ⟨rfl, hB⟩; obtain ⟨X1, Y1, hB1⟩ := made2 hB; have B1 := Lib.hid hB1; clear hB hB1 X1 Y1)
    go_ret2
    exact ⟨rfl, B1.out⟩
theorem ret_bi {b b' : Bool} {c c' : Int} (h : (b, c) = (b', c')) : Ending.returned (.tuple #[.bool b, .int .i64 c]) = .returned (.tuple #[.bool b', .int .i64 c']) := by cases h; rfl
/-- whether one look begins another -/
def begB (l m : List Int) : Bool := decide (m.take l.length = l)
def begE (x y : V5) : Bool × Int := if bothP x.1 x.2.1 x.2.2.1 x.2.2.2.1 x.2.2.2.2 y.1 y.2.1 y.2.2.1 y.2.2.2.1 y.2.2.2.2 ≠ 0 then (false, bothP x.1 x.2.1 x.2.2.1 x.2.2.2.1 x.2.2.2.2 y.1 y.2.1 y.2.2.1 y.2.2.2.1 y.2.2.2.2) else (begB (lst x) (lst y), 0)
set_option maxRecDepth 100000 in
set_option maxHeartbeats 2000000 in
theorem rbegins_any (n a b c d n' a' b' c' d' : Int) (w : World) (v : Bool) (r : Int) (H : Hid (begE (n, a, b, c, d) (n', a', b', c', d') = (v, r))) : Calls Tryd.prog 28 #[.agg #[.int .i64 n, .int .i64 a, .int .i64 b, .int .i64 c, .int .i64 d], .agg #[.int .i64 n', .int .i64 a', .int .i64 b', .int .i64 c', .int .i64 d']] w fun e w' => e = .returned (.tuple #[.bool v, .int .i64 r]) ∧ Below w.heap.size w w' := by
  have h := H.out
  unfold begE at h
  simp only at h
  by_cases hc : bothP n a b c d n' a' b' c' d' = 0
  · rw [if_neg (by simpa using hc)] at h
    have HC := Lib.hid hc
    obtain ⟨h1, h2⟩ := both_yes hc
    obtain ⟨N, hN, hN4, hl, hp⟩ := lst_nat h1
    obtain ⟨M, hM, hM4, hm, hq⟩ := lst_nat h2
    subst hN hM
    have HL := Lib.hid hl
    have HM := Lib.hid hm
    have HP := Lib.hid hp
    have HQ := Lib.hid hq
    generalize lst ((N : Int), a, b, c, d) = l at HL HP h
    generalize lst ((M : Int), a', b', c', d') = m at HM HQ h
    simp only [Prod.mk.injEq] at h
    obtain ⟨hv, rfl⟩ := h
    have HV := Lib.hid hv
    clear hl hm hp hq h1 h2 hc H hv
    by_cases hlt : M < N
    · have hb : Hid (v = false) := Lib.hid (by
        rw [← HV.out]
        unfold begB
        refine decide_eq_false fun e => ?_
        have := congrArg List.length e
        rw [List.length_take, HL.out, HM.out] at this
        omega)
      have hlt2 : (M : Int) < N := by omega
      clear hlt
      go_enter Tryd.func28, Tryd.ntmps28
      go_wp2_with (go_at_call 53; refine (rboth_any N a b c d M a' b' c' d' 0 _ HC).mono ?_; rintro e w1 ⟨rfl, hB⟩; obtain ⟨X1, Y1, hB1⟩ := made2 hB; have B1 := Lib.hid hB1; obtain ⟨x0, x1, x2, x3, x4⟩ := X1.cell5; obtain ⟨u0, u1, u2, u3, u4⟩ := Y1.cell5; clear hB hB1 X1 Y1)
      go_ret2
      exact ⟨ret_bi (by rw [hb.out]), B1.out⟩
    · have hle : decide (M < N) = false := decide_eq_false hlt
      have hle2 : decide ((M : Int) < N) = false := decide_eq_false (by omega)
      obtain ⟨⟨y0, y1, y2, y3, y4⟩, hy⟩ : ∃ y, pad5 (m.take N) = y := ⟨_, rfl⟩
      have HY : Hid (pad5 ((m ++ []).take N) = (y0, y1, y2, y3, y4)) := Lib.hid (by rw [List.append_nil]; exact hy)
      have hvv : v = decide (y0 = (N : Int) ∧ y1 = a ∧ y2 = b ∧ y3 = c ∧ y4 = d) := by
        rw [← HV.out]
        unfold begB
        rw [HL.out]
        have e : (m.take N = l) ↔ (y0 = (N : Int) ∧ y1 = a ∧ y2 = b ∧ y3 = c ∧ y4 = d) := by
          constructor
          · intro e
            rw [e, HP.out] at hy
            simp only [Prod.mk.injEq] at hy
            obtain ⟨rfl, rfl, rfl, rfl, rfl⟩ := hy
            exact ⟨rfl, rfl, rfl, rfl, rfl⟩
          · rintro ⟨rfl, rfl, rfl, rfl, rfl⟩
            refine pad5_inj ?_ (hy.trans HP.out.symm)
            rw [List.length_take]; omega
        exact decide_eq_decide.2 e
      have zq : ∀ W, (binOp .eql 25 (.agg #[.int .i64 y0, .int .i64 y1, .int .i64 y2, .int .i64 y3, .int .i64 y4]) (.agg #[.int .i64 N, .int .i64 a, .int .i64 b, .int .i64 c, .int .i64 d])).run Tryd.prog W = .ok (.bool v) W := fun W => by rw [eql_look, ← hvv]
      have zg := guard_look
      clear hlt hy hvv HV
      go_enter Tryd.func28, Tryd.ntmps28
      go_wp2_with (go_at_call 53; refine (rboth_any N a b c d M a' b' c' d' 0 _ HC).mono ?_; rintro e w1 ⟨rfl, hB⟩; obtain ⟨X1, Y1, hB1⟩ := made2 hB; have B1 := Lib.hid hB1; have X1 := Lib.hid X1; have Y1 := Lib.hid Y1; obtain ⟨x0, x1, x2, x3, x4⟩ := X1.out.cell5; obtain ⟨u0, u1, u2, u3, u4⟩ := Y1.out.cell5; clear hB hB1)
      have qx := fun p : Later w1 => (X1.out.below p.h).cell5
      have qy := fun p : Later w1 => (Y1.out.below p.h).cell5
      have qx0 := fun p : Later w1 => (qx p).1
      have qx1 := fun p : Later w1 => (qx p).2.1
      have qx2 := fun p : Later w1 => (qx p).2.2.1
      have qx3 := fun p : Later w1 => (qx p).2.2.2.1
      have qx4 := fun p : Later w1 => (qx p).2.2.2.2
      have qy0 := fun p : Later w1 => (qy p).1
      have qy1 := fun p : Later w1 => (qy p).2.1
      have qy2 := fun p : Later w1 => (qy p).2.2.1
      have qy3 := fun p : Later w1 => (qy p).2.2.2.1
      have qy4 := fun p : Later w1 => (qy p).2.2.2.2
      clear qx qy x0 x1 x2 x3 x4 u0 u1 u2 u3 u4
      refine wp_region_later (by kernel_rfl) (by kernel_rfl) ?_
      repeat (go_big_quiet_step ((go_at_call 54; exact calls_later (rplus_any m [] N M 0 a' b' c' d' 0 0 0 0 _ hN4 hM4 (by omega) HM (Lib.hid rfl) HQ (Lib.hid rfl) y0 y1 y2 y3 y4 HY))))
      refine wpQuiet_nil ?_
      rintro w5 ⟨p5, rfl⟩
      have B5 := Lib.hid (below_on B1.out (Nat.le_refl _) p5.h)
      generalize p5.W = w6 at B5 ⊢
      go_wp2
      go_ret2
      exact ⟨rfl, B5.out⟩
  · rw [if_pos hc] at h; cases h
    have hr : (bothP n a b c d n' a' b' c' d' != 0) = true := by simpa using hc
    obtain ⟨r, hq⟩ : ∃ r, bothP n a b c d n' a' b' c' d' = r := ⟨_, rfl⟩
    rw [hq] at hr ⊢
    have HR := Lib.hid hq
    clear hc hq H
    go_enter Tryd.func28, Tryd.ntmps28
    go_wp2_with (go_at_call 53; refine (rboth_any n a b c d n' a' b' c' d' r _ HR).mono ?_; rintro e w1 ⟨rfl, hB⟩; obtain ⟨X1, Y1, hB1⟩ := made2 hB; have B1 := Lib.hid hB1; clear hB hB1 X1 Y1)
    go_ret2
    exact ⟨rfl, B1.out⟩
end Go.Proofs.YtddackdghphcnaaDoor.s13

namespace Go.Proofs.YtddackdghphcnaaDoor.s13
set_option linter.unusedVariables false
set_option linter.unusedSimpArgs false
open Go.RowKit
open kit

set_option maxRecDepth 100000 in
set_option maxHeartbeats 2000000 in
theorem pbegins_bad (n a b c d n' a' b' c' d' r : Int) (w : World) (HR : Hid (bothP n a b c d n' a' b' c' d' = r)) (hr : (r != 0) = true) : Calls Tryd.prog 27 #[.agg #[.int .i64 n, .int .i64 a, .int .i64 b, .int .i64 c, .int .i64 d], .agg #[.int .i64 n', .int .i64 a', .int .i64 b', .int .i64 c', .int .i64 d']] w fun e w' => e = .returned (.tuple #[.bool false, .int .i64 r]) ∧ Below w.heap.size w w' := by
  go_enter Tryd.func27, Tryd.ntmps27
  go_wp2_with (go_at_call 46; refine (checkall_two n a b c d n' a' b' c' d' r _ _ (new3 _ _ _ _ _) HR).mono ?_; rintro e w1 ⟨rfl, hB⟩; obtain ⟨X1, Y1, Z1, hB1⟩ := made3 hB; have B1 := Lib.hid hB1; clear hB hB1 X1 Y1 Z1)
  go_ret2
  exact ⟨rfl, B1.out⟩
theorem inV_pad {l : List Int} (h : okL 8 l) : inV (pad5 l) := by
  have h0 := okL_at0 h (by omega) 0
  have h1 := okL_at0 h (by omega) 1
  have h2 := okL_at0 h (by omega) 2
  have h3 := okL_at0 h (by omega) 3
  have h4 := h.1
  unfold inV inK pad5
  simp only
  refine ⟨⟨by omega, by omega⟩, ⟨by omega, by omega⟩, ⟨by omega, by omega⟩, ⟨by omega, by omega⟩, ⟨by omega, by omega⟩⟩
/-- the first k beginnings of a look -/
def inAny (m : List Int) (k : Nat) (x : V5) : Bool := (List.range k).any fun j => decide (x = pad5 (m.take j))
theorem inAny_succ (m : List Int) (k : Nat) (x : V5) : inAny m (k + 1) x = (inAny m k x || decide (x = pad5 (m.take k))) := by
  unfold inAny; rw [List.range_succ, List.any_append]; simp
theorem inAny_beg {l m : List Int} (hl : l.length ≤ 4) : inAny m (m.length + 1) (pad5 l) = begB l m := by
  unfold inAny begB
  rw [Bool.eq_iff_iff, List.any_eq_true, decide_eq_true_eq]
  constructor
  · rintro ⟨j, hj, e⟩
    have hj2 : j < m.length + 1 := List.mem_range.1 hj
    have e2 := pad5_inj hl (of_decide_eq_true e)
    subst e2
    rw [List.length_take, Nat.min_eq_left (by omega)]
  · intro e
    have h := congrArg List.length e
    rw [List.length_take] at h
    exact ⟨l.length, List.mem_range.2 (by omega), decide_eq_true (by rw [e])⟩
set_option maxRecDepth 100000 in
set_option maxHeartbeats 4000000 in
theorem pbegins_ok (l m : List Int) (N M : Nat) (a b c d a' b' c' d' : Int) (v : Bool) (w : World) (HR : Hid (bothP N a b c d M a' b' c' d' = 0)) (hN : N ≤ 4) (hM : M ≤ 4) (HL : Hid (l.length = N)) (HM : Hid (m.length = M)) (HP : Hid (pad5 l = ((N : Int), a, b, c, d))) (HQ : Hid (pad5 m = ((M : Int), a', b', c', d'))) (hl : Hid (okL 8 l)) (hm : Hid (okL 8 m)) (HV : Hid (begB l m = v)) :
    Calls Tryd.prog 27 #[.agg #[.int .i64 N, .int .i64 a, .int .i64 b, .int .i64 c, .int .i64 d], .agg #[.int .i64 M, .int .i64 a', .int .i64 b', .int .i64 c', .int .i64 d']] w fun e w' => e = .returned (.tuple #[.bool v, .int .i64 0]) ∧ Below w.heap.size w w' := by
  have n2 : (N : Int) ≤ 4 := by omega
  have m2 : (M : Int) ≤ 4 := by omega
  have hmm := @run_makeMap Tryd.prog
  go_enter Tryd.func27, Tryd.ntmps27
  go_wp2_with (go_at_call 46; refine (checkall_two N a b c d M a' b' c' d' 0 _ _ (new3 _ _ _ _ _) HR).mono ?_; rintro e w1 ⟨rfl, hB⟩; obtain ⟨X1, Y1, Z1, hB1⟩ := made3 hB; have B1 := Lib.hid hB1; have X1 := Lib.hid X1; have Y1 := Lib.hid Y1; obtain ⟨u0, u1, u2, u3, u4⟩ := (Y1.out.alloc (.map #[] 0)).cell5; clear hB hB1 Z1)
  have MP := Lib.hid (MapB.new w1)
  have X2 := Lib.hid (X1.out.alloc (.map #[] 0))
  have Y2 := Lib.hid (Y1.out.alloc (.map #[] 0))
  have B2 := Lib.hid (B1.out.alloc B1.out.size (.map #[] 0))
  have hg1 : w.heap.size + 1 < w1.heap.size := Y1.out.lt
  clear u0 u1 u2 u3 u4 X1 Y1 B1 hmm
  go_loopw [20] (fun i wr => ∃ k : Nat, i = .int .i64 k ∧ k ≤ M + 1 ∧ Hid (MapB wr w1.heap.size k (inAny m k)) ∧ Hid (Box wr 25 w.heap.size #[.int .i64 N, .int .i64 a, .int .i64 b, .int .i64 c, .int .i64 d]) ∧ Hid (Box wr 25 (w.heap.size + 1) #[.int .i64 M, .int .i64 a', .int .i64 b', .int .i64 c', .int .i64 d']) ∧ Hid (Below w.heap.size w wr)) (fun i _ => M + 1 - (intOf i).toNat)
  case atStart => exact ⟨0, rfl, by omega, MP, X2, Y2, B2⟩
  case round =>
    obtain ⟨k, rfl, hk, HMp, HX, HY, HB⟩ := hrel
    by_cases hlt : k < M + 1
    · have hkm : min M k = k := by omega
      have hcut := cutP_look (l := m) (by have := HM.out; omega) (pad5_of HQ.out) k
      obtain ⟨⟨q, c0, c1, c2, c3⟩, hq⟩ : ∃ u, cutP M k a' b' c' d' = u := ⟨_, rfl⟩
      have hqk : q = k := by have := congrArg Prod.fst hq; simpa [cutP, hkm] using this.symm
      subst hqk
      rw [hq] at hcut
      have HC := Lib.hid hq
      have hy : pad5 (m.take q) = ((q : Int), c0, c1, c2, c3) := by
        have h9 := hcut.symm
        simp only [pad, pad5, Prod.mk.injEq] at h9 ⊢
        exact ⟨by omega, h9.2⟩
      have hin : inV ((q : Int), c0, c1, c2, c3) := by rw [← hy]; exact inV_pad (okL_take hm.out q)
      have HK := Lib.hid (key_of q c0 c1 c2 c3 hin)
      have HIN := Lib.hid hin
      have HYY := Lib.hid hy
      have hlt2 : (q : Int) < (M : Int) + 1 := by omega
      obtain ⟨u0, u1, u2, u3, u4⟩ := HY.out.cell5
      clear hq hcut hy hin
      go_wp2_with (first
        | (go_at_call 52; refine (cut_any M q a' b' c' d' _ (by omega) q c0 c1 c2 c3 HC).mono ?_; rintro e w2 ⟨rfl, hB⟩; have B3 := Lib.hid (below_then HB.out hB); have M3 := Lib.hid (HMp.out.below hB); have X3 := Lib.hid (HX.out.below hB); have Y3 := Lib.hid (HY.out.below hB); clear hB u0 u1 u2 u3 u4; obtain ⟨D, hown, hD⟩ := M3.out; have HD := Lib.hid hD; have HO := Lib.hid hown; clear hown hD)
        | (at_mapUpdate; refine wpList_mapUpdate_own _ rfl _ _ _ 74 rfl 25 4 lawLook Tryd.underlying74 _ w1.heap.size q D rfl HO.out (by unfold maxLen; omega) _ _ _ rfl rfl HK.out _ [] (plainElem_bool Tryd.underlying4 true) ?_; intro w3 hown1 hgrow1; have B4 := Lib.hid (B3.out.grown hgrow1 B3.out.size (fun j e => by cases e; omega)); have M4 : Hid (MapB w3 w1.heap.size (q + 1) (inAny m (q + 1))) := Lib.hid ⟨_, hown1, fun x hx => by rw [MapB.step HO.out.isMap HD.out HIN.out x hx, inAny_succ, HYY.out]⟩; have X4 := Lib.hid ((hgrow1.block _ X3.out.lt (by simp; omega)).trans X3.out); have Y4 := Lib.hid ((hgrow1.block _ Y3.out.lt (by simp; omega)).trans Y3.out); clear hown1 hgrow1))
      go_roundw
      case rel => exact ⟨q + 1, by go_num, by omega, M4, X4, Y4, B4⟩
      case measure => simp [intOf]; omega
    · obtain rfl : k = M + 1 := by omega
      have hx : inV ((N : Int), a, b, c, d) := by rw [← HP.out]; exact inV_pad hl.out
      have hlk := HMp.out.look N a b c d hx
      have e : inAny m (M + 1) ((N : Int), a, b, c, d) = v := by
        rw [← HP.out, ← HM.out, inAny_beg (by have := HL.out; omega)]; exact HV.out
      rw [e] at hlk
      obtain ⟨x0, x1, x2, x3, x4⟩ := HX.out.cell5
      clear hx e
      go_wp2
      go_ret2
      exact ⟨rfl, HB.out⟩
theorem pbegins_any (n a b c d n' a' b' c' d' : Int) (w : World) (v : Bool) (r : Int) (H : Hid (begE (n, a, b, c, d) (n', a', b', c', d') = (v, r))) : Calls Tryd.prog 27 #[.agg #[.int .i64 n, .int .i64 a, .int .i64 b, .int .i64 c, .int .i64 d], .agg #[.int .i64 n', .int .i64 a', .int .i64 b', .int .i64 c', .int .i64 d']] w fun e w' => e = .returned (.tuple #[.bool v, .int .i64 r]) ∧ Below w.heap.size w w' := by
  have h := H.out
  unfold begE at h
  simp only at h
  by_cases hc : bothP n a b c d n' a' b' c' d' = 0
  · rw [if_neg (by simpa using hc)] at h
    cases h
    obtain ⟨h1, h2⟩ := both_yes hc
    obtain ⟨k1, _, _⟩ := lst_ok h1
    obtain ⟨k2, _, _⟩ := lst_ok h2
    obtain ⟨N, hN, hN4, hl, hp⟩ := lst_nat h1
    obtain ⟨M, hM, hM4, hm, hq⟩ := lst_nat h2
    subst hN hM
    exact pbegins_ok _ _ N M a b c d a' b' c' d' _ w (Lib.hid hc) hN4 hM4 (Lib.hid hl) (Lib.hid hm) (Lib.hid hp) (Lib.hid hq) (Lib.hid k1) (Lib.hid k2) (Lib.hid rfl)
  · rw [if_pos hc] at h; cases h
    exact pbegins_bad n a b c d n' a' b' c' d' _ w (Lib.hid rfl) (by simpa using hc)
end Go.Proofs.YtddackdghphcnaaDoor.s13

namespace Go.Proofs.YtddackdghphcnaaDoor.s13
set_option linter.unusedVariables false
set_option linter.unusedSimpArgs false
open Go.RowKit
open kit

/-- the listed table of 64 numbers lies -/
def Tab (w : World) : Prop := Lib.TabIs Tryd.prog w "math/bits.deBruijn64tab" .u8 [0, 1, 56, 2, 57, 49, 28, 3, 61, 58, 42, 50, 38, 29, 17, 4, 62, 47, 59, 36, 45, 43, 51, 22, 53, 39, 33, 30, 24, 18, 12, 5, 63, 55, 48, 27, 60, 41, 37, 16, 46, 35, 44, 21, 52, 32, 23, 11, 54, 26, 40, 15, 34, 20, 31, 10, 25, 14, 19, 9, 13, 8, 7, 6]
theorem Tab.below {w w1 : World} (h : Tab w) (hB : Below w.heap.size w w1) : Tab w1 := Joins.tab_stays (g := 3) (by kernel_rfl) h hB (Nat.le_refl _)
end Go.Proofs.YtddackdghphcnaaDoor.s13

namespace Go.Proofs.YtddackdghphcnaaDoor.s13
set_option linter.unusedVariables false
set_option linter.unusedSimpArgs false
set_option linter.unnecessarySimpa false
open Go.RowKit
open kit

abbrev ZS : List Int := [0, 1, 56, 2, 57, 49, 28, 3, 61, 58, 42, 50, 38, 29, 17, 4, 62, 47, 59, 36, 45, 43, 51, 22, 53, 39, 33, 30, 24, 18, 12, 5, 63, 55, 48, 27, 60, 41, 37, 16, 46, 35, 44, 21, 52, 32, 23, 11, 54, 26, 40, 15, 34, 20, 31, 10, 25, 14, 19, 9, 13, 8, 7, 6]
theorem tab_at {w : World} (h : Tab w) (i : Nat) (hi : i < 64) : w.cell? ⟨3, i, none⟩ = some (.int .u8 (ZS.getD i 0)) := Lib.TabIs.cell h (by kernel_rfl) i hi
set_option maxRecDepth 100000 in
set_option maxHeartbeats 2000000 in
theorem ones64_1 (w : World) : Calls Tryd.prog 83 #[.int .u64 1] w fun e w' => e = .returned (.int .i64 1) ∧ w' = w := by
  go_enter Tryd.func83, Tryd.ntmps83
  go_wp2
  go_ret
  exact ⟨by kernel_rfl, rfl⟩
set_option maxRecDepth 100000 in
set_option maxHeartbeats 2000000 in
theorem ones_1 (w : World) : Calls Tryd.prog 74 #[.int .u64 1] w fun e w' => e = .returned (.int .i64 1) ∧ w' = w := by
  go_enter Tryd.func74, Tryd.ntmps74
  go_wp2_with (go_at_call 83; refine (ones64_1 _).mono ?_; rintro e w1 ⟨rfl, rfl⟩)
  go_ret
  exact ⟨rfl, rfl⟩
set_option maxRecDepth 100000 in
set_option maxHeartbeats 2000000 in
theorem ones64_2 (w : World) : Calls Tryd.prog 83 #[.int .u64 2] w fun e w' => e = .returned (.int .i64 1) ∧ w' = w := by
  go_enter Tryd.func83, Tryd.ntmps83
  go_wp2
  go_ret
  exact ⟨by kernel_rfl, rfl⟩
set_option maxRecDepth 100000 in
set_option maxHeartbeats 2000000 in
theorem ones_2 (w : World) : Calls Tryd.prog 74 #[.int .u64 2] w fun e w' => e = .returned (.int .i64 1) ∧ w' = w := by
  go_enter Tryd.func74, Tryd.ntmps74
  go_wp2_with (go_at_call 83; refine (ones64_2 _).mono ?_; rintro e w1 ⟨rfl, rfl⟩)
  go_ret
  exact ⟨rfl, rfl⟩
set_option maxRecDepth 100000 in
set_option maxHeartbeats 2000000 in
theorem ones64_3 (w : World) : Calls Tryd.prog 83 #[.int .u64 3] w fun e w' => e = .returned (.int .i64 2) ∧ w' = w := by
  go_enter Tryd.func83, Tryd.ntmps83
  go_wp2
  go_ret
  exact ⟨by kernel_rfl, rfl⟩
set_option maxRecDepth 100000 in
set_option maxHeartbeats 2000000 in
theorem ones_3 (w : World) : Calls Tryd.prog 74 #[.int .u64 3] w fun e w' => e = .returned (.int .i64 2) ∧ w' = w := by
  go_enter Tryd.func74, Tryd.ntmps74
  go_wp2_with (go_at_call 83; refine (ones64_3 _).mono ?_; rintro e w1 ⟨rfl, rfl⟩)
  go_ret
  exact ⟨rfl, rfl⟩
set_option maxRecDepth 100000 in
set_option maxHeartbeats 2000000 in
theorem ones64_4 (w : World) : Calls Tryd.prog 83 #[.int .u64 4] w fun e w' => e = .returned (.int .i64 1) ∧ w' = w := by
  go_enter Tryd.func83, Tryd.ntmps83
  go_wp2
  go_ret
  exact ⟨by kernel_rfl, rfl⟩
set_option maxRecDepth 100000 in
set_option maxHeartbeats 2000000 in
theorem ones_4 (w : World) : Calls Tryd.prog 74 #[.int .u64 4] w fun e w' => e = .returned (.int .i64 1) ∧ w' = w := by
  go_enter Tryd.func74, Tryd.ntmps74
  go_wp2_with (go_at_call 83; refine (ones64_4 _).mono ?_; rintro e w1 ⟨rfl, rfl⟩)
  go_ret
  exact ⟨rfl, rfl⟩
set_option maxRecDepth 100000 in
set_option maxHeartbeats 2000000 in
theorem ones64_5 (w : World) : Calls Tryd.prog 83 #[.int .u64 5] w fun e w' => e = .returned (.int .i64 2) ∧ w' = w := by
  go_enter Tryd.func83, Tryd.ntmps83
  go_wp2
  go_ret
  exact ⟨by kernel_rfl, rfl⟩
set_option maxRecDepth 100000 in
set_option maxHeartbeats 2000000 in
theorem ones_5 (w : World) : Calls Tryd.prog 74 #[.int .u64 5] w fun e w' => e = .returned (.int .i64 2) ∧ w' = w := by
  go_enter Tryd.func74, Tryd.ntmps74
  go_wp2_with (go_at_call 83; refine (ones64_5 _).mono ?_; rintro e w1 ⟨rfl, rfl⟩)
  go_ret
  exact ⟨rfl, rfl⟩
set_option maxRecDepth 100000 in
set_option maxHeartbeats 2000000 in
theorem ones64_6 (w : World) : Calls Tryd.prog 83 #[.int .u64 6] w fun e w' => e = .returned (.int .i64 2) ∧ w' = w := by
  go_enter Tryd.func83, Tryd.ntmps83
  go_wp2
  go_ret
  exact ⟨by kernel_rfl, rfl⟩
set_option maxRecDepth 100000 in
set_option maxHeartbeats 2000000 in
theorem ones_6 (w : World) : Calls Tryd.prog 74 #[.int .u64 6] w fun e w' => e = .returned (.int .i64 2) ∧ w' = w := by
  go_enter Tryd.func74, Tryd.ntmps74
  go_wp2_with (go_at_call 83; refine (ones64_6 _).mono ?_; rintro e w1 ⟨rfl, rfl⟩)
  go_ret
  exact ⟨rfl, rfl⟩
set_option maxRecDepth 100000 in
set_option maxHeartbeats 2000000 in
theorem ones64_7 (w : World) : Calls Tryd.prog 83 #[.int .u64 7] w fun e w' => e = .returned (.int .i64 3) ∧ w' = w := by
  go_enter Tryd.func83, Tryd.ntmps83
  go_wp2
  go_ret
  exact ⟨by kernel_rfl, rfl⟩
set_option maxRecDepth 100000 in
set_option maxHeartbeats 2000000 in
theorem ones_7 (w : World) : Calls Tryd.prog 74 #[.int .u64 7] w fun e w' => e = .returned (.int .i64 3) ∧ w' = w := by
  go_enter Tryd.func74, Tryd.ntmps74
  go_wp2_with (go_at_call 83; refine (ones64_7 _).mono ?_; rintro e w1 ⟨rfl, rfl⟩)
  go_ret
  exact ⟨rfl, rfl⟩
set_option maxRecDepth 100000 in
set_option maxHeartbeats 2000000 in
theorem ones64_8 (w : World) : Calls Tryd.prog 83 #[.int .u64 8] w fun e w' => e = .returned (.int .i64 1) ∧ w' = w := by
  go_enter Tryd.func83, Tryd.ntmps83
  go_wp2
  go_ret
  exact ⟨by kernel_rfl, rfl⟩
set_option maxRecDepth 100000 in
set_option maxHeartbeats 2000000 in
theorem ones_8 (w : World) : Calls Tryd.prog 74 #[.int .u64 8] w fun e w' => e = .returned (.int .i64 1) ∧ w' = w := by
  go_enter Tryd.func74, Tryd.ntmps74
  go_wp2_with (go_at_call 83; refine (ones64_8 _).mono ?_; rintro e w1 ⟨rfl, rfl⟩)
  go_ret
  exact ⟨rfl, rfl⟩
set_option maxRecDepth 100000 in
set_option maxHeartbeats 2000000 in
theorem ctz64_1 (w : World) (hT : Tab w) : Calls Tryd.prog 85 #[.int .u64 1] w fun e w' => e = .returned (.int .i64 0) ∧ w' = w := by
  have c := tab_at hT 0 (by decide)
  rw [show (ZS.getD 0 0 : Int) = 0 by decide] at c
  have hix : IntKind.u64.wrap (bits BinOp.and IntKind.u64 1 (IntKind.u64.wrap (-1)) * 285870213051353865) / 288230376151711744 = 0 := by kernel_rfl
  go_enter Tryd.func85, Tryd.ntmps85
  go_wp2

  go_ret
  exact ⟨by kernel_rfl, rfl⟩
set_option maxRecDepth 100000 in
set_option maxHeartbeats 2000000 in
theorem ctz_1 (w : World) (hT : Tab w) : Calls Tryd.prog 75 #[.int .u64 1] w fun e w' => e = .returned (.int .i64 0) ∧ w' = w := by
  go_enter Tryd.func75, Tryd.ntmps75
  go_wp2_with (go_at_call 85; refine (ctz64_1 _ hT).mono ?_; rintro e w1 ⟨rfl, rfl⟩)
  go_ret
  exact ⟨rfl, rfl⟩
set_option maxRecDepth 100000 in
set_option maxHeartbeats 2000000 in
theorem ctz64_2 (w : World) (hT : Tab w) : Calls Tryd.prog 85 #[.int .u64 2] w fun e w' => e = .returned (.int .i64 1) ∧ w' = w := by
  have c := tab_at hT 1 (by decide)
  rw [show (ZS.getD 1 0 : Int) = 1 by decide] at c
  have hix : IntKind.u64.wrap (bits BinOp.and IntKind.u64 2 (IntKind.u64.wrap (-2)) * 285870213051353865) / 288230376151711744 = 1 := by kernel_rfl
  go_enter Tryd.func85, Tryd.ntmps85
  go_wp2

  go_ret
  exact ⟨by kernel_rfl, rfl⟩
set_option maxRecDepth 100000 in
set_option maxHeartbeats 2000000 in
theorem ctz_2 (w : World) (hT : Tab w) : Calls Tryd.prog 75 #[.int .u64 2] w fun e w' => e = .returned (.int .i64 1) ∧ w' = w := by
  go_enter Tryd.func75, Tryd.ntmps75
  go_wp2_with (go_at_call 85; refine (ctz64_2 _ hT).mono ?_; rintro e w1 ⟨rfl, rfl⟩)
  go_ret
  exact ⟨rfl, rfl⟩
set_option maxRecDepth 100000 in
set_option maxHeartbeats 2000000 in
theorem ctz64_4 (w : World) (hT : Tab w) : Calls Tryd.prog 85 #[.int .u64 4] w fun e w' => e = .returned (.int .i64 2) ∧ w' = w := by
  have c := tab_at hT 3 (by decide)
  rw [show (ZS.getD 3 0 : Int) = 2 by decide] at c
  have hix : IntKind.u64.wrap (bits BinOp.and IntKind.u64 4 (IntKind.u64.wrap (-4)) * 285870213051353865) / 288230376151711744 = 3 := by kernel_rfl
  go_enter Tryd.func85, Tryd.ntmps85
  go_wp2

  go_ret
  exact ⟨by kernel_rfl, rfl⟩
set_option maxRecDepth 100000 in
set_option maxHeartbeats 2000000 in
theorem ctz_4 (w : World) (hT : Tab w) : Calls Tryd.prog 75 #[.int .u64 4] w fun e w' => e = .returned (.int .i64 2) ∧ w' = w := by
  go_enter Tryd.func75, Tryd.ntmps75
  go_wp2_with (go_at_call 85; refine (ctz64_4 _ hT).mono ?_; rintro e w1 ⟨rfl, rfl⟩)
  go_ret
  exact ⟨rfl, rfl⟩
set_option maxRecDepth 100000 in
set_option maxHeartbeats 2000000 in
theorem ctz64_8 (w : World) (hT : Tab w) : Calls Tryd.prog 85 #[.int .u64 8] w fun e w' => e = .returned (.int .i64 3) ∧ w' = w := by
  have c := tab_at hT 7 (by decide)
  rw [show (ZS.getD 7 0 : Int) = 3 by decide] at c
  have hix : IntKind.u64.wrap (bits BinOp.and IntKind.u64 8 (IntKind.u64.wrap (-8)) * 285870213051353865) / 288230376151711744 = 7 := by kernel_rfl
  go_enter Tryd.func85, Tryd.ntmps85
  go_wp2

  go_ret
  exact ⟨by kernel_rfl, rfl⟩
set_option maxRecDepth 100000 in
set_option maxHeartbeats 2000000 in
theorem ctz_8 (w : World) (hT : Tab w) : Calls Tryd.prog 75 #[.int .u64 8] w fun e w' => e = .returned (.int .i64 3) ∧ w' = w := by
  go_enter Tryd.func75, Tryd.ntmps75
  go_wp2_with (go_at_call 85; refine (ctz64_8 _ hT).mono ?_; rintro e w1 ⟨rfl, rfl⟩)
  go_ret
  exact ⟨rfl, rfl⟩
set_option maxRecDepth 100000 in
set_option maxHeartbeats 2000000 in
theorem times_1 (n : Int) (w : World) (hT : Tab w) (n0 : 0 ≤ n) (n1 : n ≤ 100000) : Calls Tryd.prog 68 #[.int .i64 n, .int .i64 1] w fun e w' => e = .returned (.int .i64 (n * 1)) ∧ w' = w := by
  have hw : IntKind.u64.wrap (1 : Int) = 1 := by kernel_rfl
  go_enter Tryd.func68, Tryd.ntmps68
  go_wp2_with (first
    | (go_at_call 74; refine (ones_1 _).mono ?_; rintro e w1 ⟨rfl, rfl⟩)
    | (go_at_call 75; refine (ctz_1 _ hT).mono ?_; rintro e w1 ⟨rfl, rfl⟩))
  go_ret
  exact ⟨by show Ending.returned (.int .i64 n) = _; rw [Int.mul_one], rfl⟩
set_option maxRecDepth 100000 in
set_option maxHeartbeats 2000000 in
theorem times_2 (n : Int) (w : World) (hT : Tab w) (n0 : 0 ≤ n) (n1 : n ≤ 100000) : Calls Tryd.prog 68 #[.int .i64 n, .int .i64 2] w fun e w' => e = .returned (.int .i64 (n * 2)) ∧ w' = w := by
  have hw : IntKind.u64.wrap (2 : Int) = 2 := by kernel_rfl
  go_enter Tryd.func68, Tryd.ntmps68
  go_wp2_with (first
    | (go_at_call 74; refine (ones_2 _).mono ?_; rintro e w1 ⟨rfl, rfl⟩)
    | (go_at_call 75; refine (ctz_2 _ hT).mono ?_; rintro e w1 ⟨rfl, rfl⟩))
  go_ret
  exact ⟨rfl, rfl⟩
set_option maxRecDepth 100000 in
set_option maxHeartbeats 2000000 in
theorem times_3 (n : Int) (w : World) (hT : Tab w) (n0 : 0 ≤ n) (n1 : n ≤ 100000) : Calls Tryd.prog 68 #[.int .i64 n, .int .i64 3] w fun e w' => e = .returned (.int .i64 (n * 3)) ∧ w' = w := by
  have hw : IntKind.u64.wrap (3 : Int) = 3 := by kernel_rfl
  go_enter Tryd.func68, Tryd.ntmps68
  go_wp2_with (first
    | (go_at_call 74; refine (ones_3 _).mono ?_; rintro e w1 ⟨rfl, rfl⟩))
  go_ret
  exact ⟨rfl, rfl⟩
set_option maxRecDepth 100000 in
set_option maxHeartbeats 2000000 in
theorem times_4 (n : Int) (w : World) (hT : Tab w) (n0 : 0 ≤ n) (n1 : n ≤ 100000) : Calls Tryd.prog 68 #[.int .i64 n, .int .i64 4] w fun e w' => e = .returned (.int .i64 (n * 4)) ∧ w' = w := by
  have hw : IntKind.u64.wrap (4 : Int) = 4 := by kernel_rfl
  go_enter Tryd.func68, Tryd.ntmps68
  go_wp2_with (first
    | (go_at_call 74; refine (ones_4 _).mono ?_; rintro e w1 ⟨rfl, rfl⟩)
    | (go_at_call 75; refine (ctz_4 _ hT).mono ?_; rintro e w1 ⟨rfl, rfl⟩))
  go_ret
  exact ⟨rfl, rfl⟩
set_option maxRecDepth 100000 in
set_option maxHeartbeats 2000000 in
theorem times_5 (n : Int) (w : World) (hT : Tab w) (n0 : 0 ≤ n) (n1 : n ≤ 100000) : Calls Tryd.prog 68 #[.int .i64 n, .int .i64 5] w fun e w' => e = .returned (.int .i64 (n * 5)) ∧ w' = w := by
  have hw : IntKind.u64.wrap (5 : Int) = 5 := by kernel_rfl
  go_enter Tryd.func68, Tryd.ntmps68
  go_wp2_with (first
    | (go_at_call 74; refine (ones_5 _).mono ?_; rintro e w1 ⟨rfl, rfl⟩))
  go_ret
  exact ⟨rfl, rfl⟩
set_option maxRecDepth 100000 in
set_option maxHeartbeats 2000000 in
theorem times_6 (n : Int) (w : World) (hT : Tab w) (n0 : 0 ≤ n) (n1 : n ≤ 100000) : Calls Tryd.prog 68 #[.int .i64 n, .int .i64 6] w fun e w' => e = .returned (.int .i64 (n * 6)) ∧ w' = w := by
  have hw : IntKind.u64.wrap (6 : Int) = 6 := by kernel_rfl
  go_enter Tryd.func68, Tryd.ntmps68
  go_wp2_with (first
    | (go_at_call 74; refine (ones_6 _).mono ?_; rintro e w1 ⟨rfl, rfl⟩))
  go_ret
  exact ⟨rfl, rfl⟩
set_option maxRecDepth 100000 in
set_option maxHeartbeats 2000000 in
theorem times_7 (n : Int) (w : World) (hT : Tab w) (n0 : 0 ≤ n) (n1 : n ≤ 100000) : Calls Tryd.prog 68 #[.int .i64 n, .int .i64 7] w fun e w' => e = .returned (.int .i64 (n * 7)) ∧ w' = w := by
  have hw : IntKind.u64.wrap (7 : Int) = 7 := by kernel_rfl
  go_enter Tryd.func68, Tryd.ntmps68
  go_wp2_with (first
    | (go_at_call 74; refine (ones_7 _).mono ?_; rintro e w1 ⟨rfl, rfl⟩))
  go_ret
  exact ⟨rfl, rfl⟩
set_option maxRecDepth 100000 in
set_option maxHeartbeats 2000000 in
theorem times_8 (n : Int) (w : World) (hT : Tab w) (n0 : 0 ≤ n) (n1 : n ≤ 100000) : Calls Tryd.prog 68 #[.int .i64 n, .int .i64 8] w fun e w' => e = .returned (.int .i64 (n * 8)) ∧ w' = w := by
  have hw : IntKind.u64.wrap (8 : Int) = 8 := by kernel_rfl
  go_enter Tryd.func68, Tryd.ntmps68
  go_wp2_with (first
    | (go_at_call 74; refine (ones_8 _).mono ?_; rintro e w1 ⟨rfl, rfl⟩)
    | (go_at_call 75; refine (ctz_8 _ hT).mono ?_; rintro e w1 ⟨rfl, rfl⟩))
  go_ret
  exact ⟨rfl, rfl⟩
theorem times_any (n t : Int) (w : World) (hT : Tab w) (h1 : 1 ≤ t) (h2 : t ≤ 8) (n0 : 0 ≤ n) (n1 : n ≤ 100000) : Calls Tryd.prog 68 #[.int .i64 n, .int .i64 t] w fun e w' => e = .returned (.int .i64 (n * t)) ∧ w' = w := by
  have ht : t = 1 ∨ t = 2 ∨ t = 3 ∨ t = 4 ∨ t = 5 ∨ t = 6 ∨ t = 7 ∨ t = 8 := by omega
  rcases ht with rfl | rfl | rfl | rfl | rfl | rfl | rfl | rfl
  · exact times_1 n w hT n0 n1
  · exact times_2 n w hT n0 n1
  · exact times_3 n w hT n0 n1
  · exact times_4 n w hT n0 n1
  · exact times_5 n w hT n0 n1
  · exact times_6 n w hT n0 n1
  · exact times_7 n w hT n0 n1
  · exact times_8 n w hT n0 n1
end Go.Proofs.YtddackdghphcnaaDoor.s13

namespace Go.Proofs.YtddackdghphcnaaDoor.s13
set_option linter.unusedVariables false
set_option linter.unusedSimpArgs false
set_option linter.unnecessarySimpa false
open Go.RowKit
open kit

theorem cnt_le (t : Int) (h1 : 1 ≤ t) (h2 : t ≤ 8) (k : Nat) (hk : k ≤ 4) : 1 ≤ cnt t k ∧ cnt t k ≤ 4681 := by
  have ht : t = 1 ∨ t = 2 ∨ t = 3 ∨ t = 4 ∨ t = 5 ∨ t = 6 ∨ t = 7 ∨ t = 8 := by omega
  have hkk : k = 0 ∨ k = 1 ∨ k = 2 ∨ k = 3 ∨ k = 4 := by omega
  rcases ht with rfl | rfl | rfl | rfl | rfl | rfl | rfl | rfl <;> rcases hkk with rfl | rfl | rfl | rfl | rfl <;> decide
set_option maxRecDepth 100000 in
set_option maxHeartbeats 2000000 in
theorem count_any (t : Int) (k : Nat) (r : Int) (w : World) (hT : Hid (Tab w)) (h1 : 1 ≤ t) (h2 : t ≤ 8) (hk : k ≤ 4) (HR : Hid (cnt t k = r)) : Calls Tryd.prog 59 #[.int .i64 t, .int .i64 k] w fun e w' => e = .returned (.int .i64 r) ∧ w' = w := by
  go_enter Tryd.func59, Tryd.ntmps59
  go_wp2
  go_loopw [5, 7] (fun v i wr => ∃ (j : Nat) (m : Int), i = .int .i64 j ∧ j ≤ k ∧ v = .int .i64 m ∧ 1 ≤ m ∧ m ≤ 4681 ∧ Hid (cnt t j = m) ∧ wr = w) (fun _ i _ => k - (intOf i).toNat)
  case atStart => exact ⟨0, 1, rfl, by omega, rfl, by omega, by omega, Lib.hid rfl, rfl⟩
  case round =>
    obtain ⟨j, m, rfl, hj, rfl, m1, m2, HM, rfl⟩ := hrel
    by_cases hlt : j < k
    · have hb := cnt_le t h1 h2 (j + 1) (by omega)
      simp only [cnt, HM.out] at hb
      have HN : Hid (cnt t (j + 1) = 1 + m * t) := Lib.hid (by simp only [cnt, HM.out])
      obtain ⟨p, hp⟩ : ∃ p, m * t = p := ⟨_, rfl⟩
      rw [hp] at hb HN
      obtain ⟨b1, b2⟩ := hb
      have HP := Lib.hid hp
      clear hp
      go_wp2_with (go_at_call 68; refine (times_any m t _ hT.out h1 h2 (by omega) (by omega)).mono ?_; rintro e w1 ⟨rfl, rfl⟩; rw [HP.out])
      go_roundw
      case rel => exact ⟨j + 1, 1 + p, by go_num, by omega, by go_num, by omega, by omega, HN, trivial⟩
      case measure => simp [intOf]; omega
    · obtain rfl : j = k := by omega
      have HE := Lib.hid (HM.out.symm.trans HR.out)
      go_wp2
      go_ret
      exact ⟨by rw [HE.out]; rfl, rfl⟩
theorem numL_drop (t : Int) (l : List Int) (i : Nat) (k : Nat) (hi : i < l.length) : numL t (k + 1) (l.drop i) = 1 + l[i]?.getD 0 * cnt t k + numL t k (l.drop (i + 1)) := by
  rw [List.drop_eq_getElem_cons hi, List.getElem?_eq_getElem hi]
  rfl
/-- the number of a look, and the error -/
def numE (x : V5) (t : Int) : Int × Int := if chkP x.1 x.2.1 x.2.2.1 x.2.2.2.1 x.2.2.2.2 t ≠ 0 then (0, chkP x.1 x.2.1 x.2.2.1 x.2.2.2.1 x.2.2.2.2 t) else (numL t 4 (lst x), 0)
set_option maxRecDepth 100000 in
set_option maxHeartbeats 2000000 in
theorem pnumber_bad (n a b c d t r : Int) (w : World) (HR : Hid (chkP n a b c d t = r)) (hr : (r != 0) = true) : Calls Tryd.prog 31 #[.agg #[.int .i64 n, .int .i64 a, .int .i64 b, .int .i64 c, .int .i64 d], .int .i64 t] w fun e w' => e = .returned (.tuple #[.int .i64 0, .int .i64 r]) ∧ Below w.heap.size w w' := by
  go_enter Tryd.func31, Tryd.ntmps31
  go_wp2_with (go_at_call 18; refine (pcheck_any n a b c d t r _ HR).mono ?_; rintro e w1 ⟨rfl, hB⟩; have B1 := Lib.hid (made1 hB).2; clear hB)
  go_ret2
  exact ⟨rfl, B1.out⟩
set_option maxRecDepth 100000 in
set_option maxHeartbeats 4000000 in
theorem pnumber_ok (l : List Int) (N : Nat) (a b c d t r : Int) (w : World) (hT : Hid (Tab w)) (HR : Hid (chkP N a b c d t = 0)) (h1 : 1 ≤ t) (h2 : t ≤ 8) (hN : N ≤ 4) (HL : Hid (l.length = N)) (HP : Hid (pad5 l = ((N : Int), a, b, c, d))) (HK : Hid (okL t l)) (HE : Hid (numL t 4 l = r)) :
    Calls Tryd.prog 31 #[.agg #[.int .i64 N, .int .i64 a, .int .i64 b, .int .i64 c, .int .i64 d], .int .i64 t] w fun e w' => e = .returned (.tuple #[.int .i64 r, .int .i64 0]) ∧ Below w.heap.size w w' := by
  have n1 : (0 : Int) ≤ N := by omega
  have n2 : (N : Int) ≤ 4 := by omega
  have hcb : Hid (0 ≤ r ∧ r < 4681) := Lib.hid (by
    obtain ⟨e1, e2⟩ := numL_range t h1 4 l (by have := HL.out; omega) HK.out.2
    have := (cnt_le t h1 h2 4 (by omega)).2
    rw [HE.out] at e1 e2
    omega)
  go_enter Tryd.func31, Tryd.ntmps31
  go_wp2_with (go_at_call 18; refine (pcheck_any N a b c d t 0 _ HR).mono ?_; rintro e w1 ⟨rfl, hB⟩; have B1 := Lib.hid (made1 hB).2; have X1 := Lib.hid (made1 hB).1; clear hB; have x0 := X1.out.cell 0; simp at x0)
  go_loopw [7, 8, 9, 21] (fun v p q i wr => ∃ (j : Nat) (m : Int), i = .int .i64 j ∧ j ≤ N ∧ v = .int .i64 m ∧ 0 ≤ m ∧ Hid (m + numL t (4 - j) (l.drop j) = r) ∧ Hid (Box wr 25 w.heap.size #[.int .i64 N, .int .i64 a, .int .i64 b, .int .i64 c, .int .i64 d]) ∧ Hid (Tab wr) ∧ Hid (Below w.heap.size w wr)) (fun _ _ _ i _ => N - (intOf i).toNat)
  case atStart => exact ⟨0, 0, rfl, by omega, rfl, by omega, Lib.hid (by simpa using HE.out), X1, Lib.hid (hT.out.below B1.out), B1⟩
  case round =>
    obtain ⟨j, m, rfl, hj, rfl, m1, HM, HX, HT, HB⟩ := hrel
    by_cases hlt : j < N
    · have hj4 : j < 4 := by omega
      have xk := HX.out.place j hj4
      have hp := pad5_pl (l := l) (by have := HL.out; omega) HP.out j
      have hz := okL_at HK.out j (by have := HL.out; omega)
      rw [← hp] at hz
      obtain ⟨z0, z1⟩ := hz
      have hn := HM.out
      rw [show 4 - j = (3 - j) + 1 by omega, numL_drop t l j (3 - j) (by have := HL.out; omega), ← hp] at hn
      have hcc := cnt_le t h1 h2 (3 - j) (by omega)
      obtain ⟨g1, _⟩ := numL_range t h1 (3 - j) (l.drop (j + 1)) (by rw [List.length_drop]; have := HL.out; omega) (fun x hx => HK.out.2 x (List.mem_of_mem_drop hx))
      generalize pl a b c d j = z at xk hp z0 z1 hn
      obtain ⟨cc, hcq⟩ : ∃ cc, cnt t (3 - j) = cc := ⟨_, rfl⟩
      rw [hcq] at hn hcc
      obtain ⟨p, hpq⟩ : ∃ p, z * cc = p := ⟨_, rfl⟩
      have p0 : 0 ≤ p := by rw [← hpq]; exact Int.mul_nonneg z0 (by omega)
      rw [hpq] at hn
      have HC := Lib.hid hcq
      have HPQ := Lib.hid hpq
      obtain ⟨c1, c2⟩ := hcc
      have hq : m + (1 + p) ≤ 4681 := by have := hcb.out; omega
      have HN : Hid (m + (1 + p) + numL t (4 - (j + 1)) (l.drop (j + 1)) = r) := Lib.hid (by rw [show 4 - (j + 1) = 3 - j by omega]; omega)
      have hsub : (3 : Int) - j = ((3 - j : Nat) : Int) := by omega
      clear hn g1 hcq hp
      go_wp2_with (go_at_call 59; (try rw [hsub]); refine (count_any t (3 - j) cc _ HT h1 h2 (by omega) HC).mono ?_; rintro e w2 ⟨rfl, rfl⟩)
      go_roundw
      case rel => exact ⟨j + 1, m + (1 + p), by go_num, by omega, by go_num, by omega, HN, HX, HT, HB⟩
      case measure => simp [intOf]; omega
    · obtain rfl : j = N := by omega
      have HF : Hid (m = r) := Lib.hid (by
        have := HM.out
        rw [List.drop_of_length_le (by have := HL.out; omega)] at this
        have e : ∀ k, numL t k [] = 0 := fun k => by cases k <;> rfl
        rw [e] at this; omega)
      go_wp2
      go_ret2
      exact ⟨by rw [HF.out]; rfl, HB.out⟩
end Go.Proofs.YtddackdghphcnaaDoor.s13

namespace Go.Proofs.YtddackdghphcnaaDoor.s13
set_option linter.unusedVariables false
set_option linter.unusedSimpArgs false
set_option linter.unnecessarySimpa false
open Go.RowKit
open kit

theorem pnumber_any (n a b c d t : Int) (w : World) (hT : Hid (Tab w)) (v r : Int) (H : Hid (numE (n, a, b, c, d) t = (v, r))) : Calls Tryd.prog 31 #[.agg #[.int .i64 n, .int .i64 a, .int .i64 b, .int .i64 c, .int .i64 d], .int .i64 t] w fun e w' => e = .returned (.tuple #[.int .i64 v, .int .i64 r]) ∧ Below w.heap.size w w' := by
  have h := H.out
  unfold numE at h
  simp only at h
  by_cases hc : chkP n a b c d t = 0
  · rw [if_neg (by simpa using hc)] at h; cases h
    obtain ⟨h1, h2, h3⟩ := lst_ok hc
    obtain ⟨t1, t2, _⟩ := chkP_yes hc
    have := h1.1
    obtain ⟨N, hN⟩ : ∃ N : Nat, n = N := ⟨(lst (n, a, b, c, d)).length, h3.symm⟩
    subst hN
    exact pnumber_ok (lst (N, a, b, c, d)) N a b c d t _ w hT (Lib.hid hc) t1 t2 (by omega) (Lib.hid (by omega)) (Lib.hid h2) (Lib.hid h1) (Lib.hid rfl)
  · rw [if_pos hc] at h; cases h
    exact pnumber_bad n a b c d t _ w (Lib.hid rfl) (by simpa using hc)
/-- the look of a number, and the error -/
def decE (n t : Int) : V5 × Int := if t < 1 ∨ 8 < t then (no5, 2) else if n < 0 then (no5, 2) else if cnt t 4 ≤ n then (no5, 2) else (pad5 (decL t 4 n), 0)
set_option maxRecDepth 100000 in
set_option maxHeartbeats 2000000 in
theorem pnumbered_terms (n t : Int) (w : World) (h : t < 1 ∨ 8 < t) : Calls Tryd.prog 33 #[.int .i64 n, .int .i64 t] w fun e w' => e = .returned (LE no5 2) ∧ Below w.heap.size w w' := by
  have X0 := Lib.hid (Box.new w 25 #[.int .i64 0, .int .i64 0, .int .i64 0, .int .i64 0, .int .i64 0])
  go_enter Tryd.func33, Tryd.ntmps33
  go_wp2_with (go_at_call 50; refine (isterms_no t _ h).mono ?_; rintro e w1 ⟨rfl, rfl⟩)
  obtain ⟨z0, z1, z2, z3, z4⟩ := X0.out.cell5
  exact bodyPost_ret (v := .tuple #[.agg #[.int .i64 0, .int .i64 0, .int .i64 0, .int .i64 0, .int .i64 0], .int .i64 2]) (by simp [results, Tryd.results33, go_sem, z0, z1, z2, z3, z4]) rfl ⟨rfl, (Below.refl _ _).alloc (Nat.le_refl _) _⟩
set_option maxRecDepth 100000 in
set_option maxHeartbeats 2000000 in
theorem pnumbered_neg (n t : Int) (w : World) (h1 : 1 ≤ t) (h2 : t ≤ 8) (h : n < 0) : Calls Tryd.prog 33 #[.int .i64 n, .int .i64 t] w fun e w' => e = .returned (LE no5 2) ∧ Below w.heap.size w w' := by
  have X0 := Lib.hid (Box.new w 25 #[.int .i64 0, .int .i64 0, .int .i64 0, .int .i64 0, .int .i64 0])
  go_enter Tryd.func33, Tryd.ntmps33
  go_wp2_with (go_at_call 50; refine (isterms_yes t _ h1 h2).mono ?_; rintro e w1 ⟨rfl, rfl⟩)
  obtain ⟨z0, z1, z2, z3, z4⟩ := X0.out.cell5
  exact bodyPost_ret (v := .tuple #[.agg #[.int .i64 0, .int .i64 0, .int .i64 0, .int .i64 0, .int .i64 0], .int .i64 2]) (by simp [results, Tryd.results33, go_sem, z0, z1, z2, z3, z4]) rfl ⟨rfl, (Below.refl _ _).alloc (Nat.le_refl _) _⟩
set_option maxRecDepth 100000 in
set_option maxHeartbeats 2000000 in
theorem pnumbered_big (n t c : Int) (w : World) (hT : Hid (Tab w)) (h1 : 1 ≤ t) (h2 : t ≤ 8) (h0 : 0 ≤ n) (HC : Hid (cnt t 4 = c)) (h : c ≤ n) : Calls Tryd.prog 33 #[.int .i64 n, .int .i64 t] w fun e w' => e = .returned (LE no5 2) ∧ Below w.heap.size w w' := by
  have X0 := Lib.hid (Box.new w 25 #[.int .i64 0, .int .i64 0, .int .i64 0, .int .i64 0, .int .i64 0])
  have T0 := Lib.hid (hT.out.below ((Below.refl w.heap.size w).alloc (Nat.le_refl _) (.cells #[.int .i64 0, .int .i64 0, .int .i64 0, .int .i64 0, .int .i64 0] 25)))
  have hn : decide (n < 0) = false := decide_eq_false (by omega)
  have hg : decide (c ≤ n) = true := decide_eq_true h
  go_enter Tryd.func33, Tryd.ntmps33
  go_wp2_with (first
    | (go_at_call 50; refine (isterms_yes t _ h1 h2).mono ?_; rintro e w1 ⟨rfl, rfl⟩)
    | (go_at_call 59; refine (count_any t 4 c _ T0 h1 h2 (by omega) HC).mono ?_; rintro e w2 ⟨rfl, rfl⟩))
  obtain ⟨z0, z1, z2, z3, z4⟩ := X0.out.cell5
  exact bodyPost_ret (v := .tuple #[.agg #[.int .i64 0, .int .i64 0, .int .i64 0, .int .i64 0, .int .i64 0], .int .i64 2]) (by simp [results, Tryd.results33, go_sem, z0, z1, z2, z3, z4]) rfl ⟨rfl, (Below.refl _ _).alloc (Nat.le_refl _) _⟩
set_option maxRecDepth 100000 in
set_option maxHeartbeats 4000000 in
theorem pnumbered_ok (n t c : Int) (w : World) (hT : Hid (Tab w)) (h1 : 1 ≤ t) (h2 : t ≤ 8) (h0 : 0 ≤ n) (HC : Hid (cnt t 4 = c)) (h : n < c) (y0 y1 y2 y3 y4 : Int) (HY : Hid (pad5 (decL t 4 n) = (y0, y1, y2, y3, y4))) : Calls Tryd.prog 33 #[.int .i64 n, .int .i64 t] w fun e w' => e = .returned (LE (y0, y1, y2, y3, y4) 0) ∧ Below w.heap.size w w' := by
  have R0 := Lib.hid ((Box.new w 25 #[.int .i64 0, .int .i64 0, .int .i64 0, .int .i64 0, .int .i64 0]).alloc (.cells #[.int .i64 0, .int .i64 0, .int .i64 0, .int .i64 0, .int .i64 0] 25))
  have S0 := Lib.hid (new2 w (.cells #[.int .i64 0, .int .i64 0, .int .i64 0, .int .i64 0, .int .i64 0] 25) 25 #[.int .i64 0, .int .i64 0, .int .i64 0, .int .i64 0, .int .i64 0])
  have T0 := Lib.hid (hT.out.below ((Below.refl w.heap.size w).alloc (Nat.le_refl _) (.cells #[.int .i64 0, .int .i64 0, .int .i64 0, .int .i64 0, .int .i64 0] 25)))
  have B0 : Hid (Below w.heap.size w ((w.alloc (.cells #[.int .i64 0, .int .i64 0, .int .i64 0, .int .i64 0, .int .i64 0] 25)).alloc (.cells #[.int .i64 0, .int .i64 0, .int .i64 0, .int .i64 0, .int .i64 0] 25))) := Lib.hid (((Below.refl _ w).alloc (Nat.le_refl _) _).alloc (by simp) _)
  have T1 := Lib.hid (hT.out.below B0.out)
  have hn : decide (n < 0) = false := decide_eq_false (by omega)
  have hg : decide (c ≤ n) = false := decide_eq_false (by omega)
  have HB : Hid (c ≤ 4681) := Lib.hid (by have := (cnt_le t h1 h2 4 (by omega)).2; rw [HC.out] at this; exact this)
  have hnc : Hid (n < cnt t (4 - 0)) := Lib.hid (by rw [Nat.sub_zero, HC.out]; exact h)
  go_enter Tryd.func33, Tryd.ntmps33
  go_wp2_with (first
    | (go_at_call 50; refine (isterms_yes t _ h1 h2).mono ?_; rintro e w1 ⟨rfl, rfl⟩)
    | (go_at_call 59; refine (count_any t 4 c _ T0 h1 h2 (by omega) HC).mono ?_; rintro e w2 ⟨rfl, rfl⟩))
  clear hn hg h
  go_loopw [0, 7] (fun v q wr => ∃ (j : Nat) (m : Int) (p : List Int) (f : Nat → Int), v = .int .i64 m ∧ j ≤ 4 ∧ 0 ≤ m ∧ Hid (m < cnt t (4 - j)) ∧ Hid (p.length = j) ∧ Hid (decL t 4 n = p ++ decL t (4 - j) m) ∧ Hid (∀ i, f i = p[i]?.getD 0) ∧ Hid (Box wr 25 (w.heap.size + 1) #[.int .i64 j, .int .i64 (f 0), .int .i64 (f 1), .int .i64 (f 2), .int .i64 (f 3)]) ∧ Hid (Box wr 25 w.heap.size #[.int .i64 0, .int .i64 0, .int .i64 0, .int .i64 0, .int .i64 0]) ∧ Hid (Tab wr) ∧ Hid (Below w.heap.size w wr)) (fun v _ _ => (intOf v).toNat)
  case atStart => exact ⟨0, n, [], fun _ => 0, rfl, by omega, h0, hnc, Lib.hid rfl, Lib.hid rfl, Lib.hid (fun i => by simp), S0, R0, T1, B0⟩
  case round =>
    obtain ⟨j, m, p, f, rfl, hj, m0, HM, HPL, HD, HF, HS, HR, HT, HBw⟩ := hrel
    have s0 := HS.out.cell 0
    have sf0 := HS.out.free 0
    simp at s0
    by_cases hlt : 0 < m
    · have hj4 : j < 4 := by
        rcases Nat.lt_or_ge j 4 with h | h
        · exact h
        · exfalso
          have e : 4 - j = 0 := by omega
          have := HM.out
          rw [e] at this
          simp only [cnt] at this
          omega
      have hm := HM.out
      have hd := HD.out
      rw [show 4 - j = (3 - j) + 1 by omega] at hm hd
      have hds : decL t (3 - j + 1) m = (m - 1) / cnt t (3 - j) :: decL t (3 - j) ((m - 1) % cnt t (3 - j)) := by rw [decL, if_neg (show ¬ m ≤ 0 by omega)]
      rw [hds] at hd
      rw [cnt] at hm
      have hcb := cnt_le t h1 h2 (3 - j) (by omega)
      obtain ⟨cc, hcq⟩ : ∃ cc, cnt t (3 - j) = cc := ⟨_, rfl⟩
      rw [hcq] at hm hd hcb
      obtain ⟨c1, c2⟩ := hcb
      obtain ⟨q, hq⟩ : ∃ q, (m - 1) / cc = q := ⟨_, rfl⟩
      obtain ⟨r, hr⟩ : ∃ r, (m - 1) % cc = r := ⟨_, rfl⟩
      have q0 : 0 ≤ q := by rw [← hq]; exact Int.ediv_nonneg (by omega) (by omega)
      have hmc : m ≤ 4681 := by
        have h3 := (cnt_le t h1 h2 (3 - j + 1) (by omega)).2
        rw [cnt, hcq] at h3
        omega
      have q1 : q ≤ 4681 := by
        rw [← hq]
        exact Int.le_trans (Int.ediv_le_self _ (by omega)) (by omega)
      have r0 : 0 ≤ r := by rw [← hr]; exact Int.emod_nonneg _ (by omega)
      have r1 : r < cc := by rw [← hr]; exact Int.emod_lt_of_pos _ (by omega)
      have r2 : r < m := by
        have e1 := Int.emod_add_mul_ediv (m - 1) cc
        have e2 : 0 ≤ cc * q := Int.mul_nonneg (by omega) q0
        rw [hq, hr] at e1
        omega
      have hq2 : (m - 1).tdiv cc = q := by rw [Int.tdiv_eq_ediv_of_nonneg (by omega), hq]
      have hr2 : (m - 1).tmod cc = r := by rw [Int.tmod_eq_emod_of_nonneg (by omega), hr]
      rw [hq, hr] at hd
      have HM2 : Hid (r < cnt t (4 - (j + 1))) := Lib.hid (by rw [show 4 - (j + 1) = 3 - j by omega, hcq]; exact r1)
      have HD2 : Hid (decL t 4 n = (p ++ [q]) ++ decL t (4 - (j + 1)) r) := Lib.hid (by rw [show 4 - (j + 1) = 3 - j by omega, hd, List.append_assoc]; rfl)
      have HL2 : Hid ((p ++ [q]).length = j + 1) := Lib.hid (by rw [List.length_append, HPL.out]; rfl)
      have HF2 : Hid (∀ i, upd f j q i = (p ++ [q])[i]?.getD 0) := Lib.hid (upd_snoc HPL.out HF.out q)
      have sk : wr.cell? ⟨w.heap.size + 1, 1 + j, none⟩ = some (.int .i64 (pl (f 0) (f 1) (f 2) (f 3) j)) := HS.out.place j hj4
      have sf := HS.out.free (1 + j)
      have S2 := Lib.hid ((b5_set HS.out j hj4 q).set 0 (by simp) (.int .i64 (j + 1 : Nat)))
      have R2 := Lib.hid ((HR.out.other (b' := w.heap.size + 1) (i := 1 + j) (by omega) (.int .i64 q)).other (b' := w.heap.size + 1) (i := 0) (by omega) (.int .i64 (j + 1 : Nat)))
      have B2 := Lib.hid ((HBw.out.drew.setCell (p := ⟨w.heap.size + 1, 1 + j, none⟩) (by simp) (.int .i64 q)).setCell (p := ⟨w.heap.size + 1, 0, none⟩) (by simp) (.int .i64 (j + 1 : Nat)))
      have T2 := Lib.hid (hT.out.below B2.out)
      have HCQ := Lib.hid hcq
      have hsub : (3 : Int) - j = ((3 - j : Nat) : Int) := by omega
      have hcc0 : ¬ cc = 0 := by omega
      clear hm hd hcq hq hr hds
      go_wp2_with (go_at_call 59; (try rw [hsub]); refine (count_any t (3 - j) cc _ HT h1 h2 (by omega) HCQ).mono ?_; rintro e w2 ⟨rfl, rfl⟩)
      go_region
      go_wp2
      go_roundw
      case rel => exact ⟨j + 1, r, p ++ [q], upd f j q, by go_num, by omega, r0, HM2, HL2, HD2, HF2, S2, R2, T2, B2⟩
      case measure => simp [intOf]; omega
    · obtain rfl : m = 0 := by omega
      have e0 : ∀ k, decL t k 0 = [] := fun k => by cases k <;> simp [decL]
      have hy := HY.out
      rw [HD.out, e0, List.append_nil] at hy
      simp only [pad5, Prod.mk.injEq] at hy
      obtain ⟨p0, p1, p2, p3, p4⟩ := hy
      have SN := HS.out
      rw [HF.out 0, HF.out 1, HF.out 2, HF.out 3, p1, p2, p3, p4, ← HPL.out, p0] at SN
      obtain ⟨q0, q1, q2, q3, q4⟩ := SN.cell5
      obtain ⟨v0, v1, v2, v3, v4⟩ := HR.out.cell5
      obtain ⟨g0, g1, g2, g3, g4⟩ := HR.out.free5
      clear p0 p1 p2 p3 p4 SN hlt s0
      go_wp2
      obtain ⟨z0, z1, z2, z3, z4⟩ := (HR.out.put5 (.int .i64 y0) (.int .i64 y1) (.int .i64 y2) (.int .i64 y3) (.int .i64 y4)).cell5
      exact bodyPost_ret (v := .tuple #[.agg #[.int .i64 y0, .int .i64 y1, .int .i64 y2, .int .i64 y3, .int .i64 y4], .int .i64 0]) (by simp [results, Tryd.results33, go_sem, z0, z1, z2, z3, z4]) rfl ⟨rfl, below_put5 HBw.out (by omega) _ _ _ _ _⟩
theorem pnumbered_any (n t : Int) (w : World) (hT : Hid (Tab w)) (y : V5) (r : Int) (H : Hid (decE n t = (y, r))) : Calls Tryd.prog 33 #[.int .i64 n, .int .i64 t] w fun e w' => e = .returned (LE y r) ∧ Below w.heap.size w w' := by
  have h := H.out
  unfold decE at h
  by_cases ht : t < 1 ∨ 8 < t
  · rw [if_pos ht] at h; cases h
    exact pnumbered_terms n t w ht
  · rw [if_neg ht] at h
    by_cases hn : n < 0
    · rw [if_pos hn] at h; cases h
      exact pnumbered_neg n t w (by omega) (by omega) hn
    · rw [if_neg hn] at h
      by_cases hc : cnt t 4 ≤ n
      · rw [if_pos hc] at h; cases h
        exact pnumbered_big n t _ w hT (by omega) (by omega) (by omega) (Lib.hid rfl) hc
      · rw [if_neg hc] at h; cases h
        exact pnumbered_ok n t _ w hT (by omega) (by omega) (by omega) (Lib.hid rfl) (by omega) _ _ _ _ _ (Lib.hid rfl)
end Go.Proofs.YtddackdghphcnaaDoor.s13

namespace Go.Proofs.YtddackdghphcnaaDoor.kit
set_option linter.unusedVariables false
set_option linter.unusedSimpArgs false
open Go.RowKit

theorem tmod_fix (n m : Int) (hm : 0 < m) : (if n.tmod m < 0 then n.tmod m + m else n.tmod m) = n % m := by
  have h1 := Int.tmod_eq_emod (a := n) (b := m)
  have h2 := Int.emod_nonneg n (by omega : m ≠ 0)
  have h3 := Int.emod_lt_of_pos n hm
  rw [h1]
  have ha : (m.natAbs : Int) = m := by omega
  split <;> split <;> omega
theorem mod_any (n m : Int) (h1 : -9223372036854775808 ≤ n) (h2 : n ≤ 9223372036854775807) (m1 : 1 ≤ m) (m2 : m ≤ 2000000000) (w : World) :
    Calls Tryd.prog 45 #[.int .i64 n, .int .i64 m] w fun e w' => e = .returned (.int .i64 (n % m)) ∧ w = w' := by
  have H := Lib.hid (tmod_fix n m (by omega))
  go_enter Tryd.func45, Tryd.ntmps45
  have hlo : -m ≤ n.tmod m := by
    have := H.out
    have h2 := Int.emod_nonneg n (by omega : m ≠ 0)
    split at this <;> omega
  go_wp2
  · have hl : n.tmod m < 0 := by assumption
    go_ret
    exact ⟨ret_int (by rw [← H.out, if_pos hl]), rfl⟩
  · have hl : 0 ≤ n.tmod m := by assumption
    go_ret
    exact ⟨ret_int (by rw [← H.out, if_neg (by omega)]), rfl⟩
end Go.Proofs.YtddackdghphcnaaDoor.kit
