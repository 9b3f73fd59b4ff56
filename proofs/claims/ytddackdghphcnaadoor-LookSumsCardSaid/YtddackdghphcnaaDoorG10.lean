/-
  Layer 13: a map whose keys are looks. Layer 13: the reference's Compare and Begins. Layer 13: the program's Begins. Layer 13: the table that the library reads. Layer 13: the program's times and count.
-/
import Derived.Test.YtddackdghphcnaaDoorG03
import Derived.Maps.OwnSet
import Derived.DeepKeys4
import Derived.ChangeKeys
import Derived.Test.YtddackdghphcnaaDoorG06
import Derived.Test.YtddackdghphcnaaDoorG02
import Derived.Lib.SmallJoins
import Derived.Lib.LaidTab
import Derived.Test.YtddackdghphcnaaDoorG07
namespace Go.Proofs.YtddackdghphcnaaDoor.s13
set_option linter.unusedVariables false
set_option linter.unusedSimpArgs false
open Go.RowKit
open kit

theorem laidOut9 : laidOutB Tryd.prog = true := by kernel_rfl
theorem levLook : Tryd.prog.keyTypeAt 3 25 = true := by kernel_rfl
theorem rowLook : (25 : TypeId) < Tryd.prog.types.size := of_decide_eq_true (by kernel_rfl)
theorem wideLook : (match Tryd.prog.underlying 25 with | some (.array _ _) | some (.struct _) => true | _ => false) = true := by rw [Tryd.underlying25]
set_option maxRecDepth 100000 in
set_option maxHeartbeats 1000000 in
theorem lawLook : Maps.Keyed Tryd.prog 25 := Maps.Keyed.of_law (deep_law_laid laidOut9 (m := 3) (by omega) rowLook levLook wideLook)
def inK (x : Int) : Prop := -9223372036854775808 ≤ x ∧ x ≤ 9223372036854775807
theorem wf_int {x : Int} (h : inK x) : (Lit.int .i64 x).wf = true := by
  obtain ⟨h1, h2⟩ := h
  simp [Lit.wf, IntKind.min, IntKind.max, IntKind.signed, IntKind.bits]
  omega
def lits (x : V5) : List Lit := [.int .i64 x.1, .int .i64 x.2.1, .int .i64 x.2.2.1, .int .i64 x.2.2.2.1, .int .i64 x.2.2.2.2]
theorem lits_of (n a b c d : Int) (hn : inK n) (ha : inK a) (hb : inK b) (hc : inK c) (hd : inK d) (D : Nat) : Tryd.prog.keyLits (D + 3) 25 [.int .i64 n, .int .i64 a, .int .i64 b, .int .i64 c, .int .i64 d] = some (lits (n, a, b, c, d)) := by
  have one : ∀ (E : Nat) (x : Int), inK x → Tryd.prog.keyLits (E + 1) 3 [.int .i64 x] = some [.int .i64 x] := fun E x hx => by
    unfold Program.keyLits
    rw [Tryd.underlying3]
    simp [wf_int hx]
  have c3 : Tryd.prog.cellsOf 3 = 1 := by kernel_rfl
  have c23 : Tryd.prog.cellsOf 23 = 4 := by kernel_rfl
  have c25 : Tryd.prog.cellsOf 25 = 5 := by kernel_rfl
  have arr : Tryd.prog.keyLits (D + 2) 23 [.int .i64 a, .int .i64 b, .int .i64 c, .int .i64 d] = some [.int .i64 a, .int .i64 b, .int .i64 c, .int .i64 d] := by
    unfold Program.keyLits
    rw [Tryd.underlying23]
    simp only [c3, c23, Nat.mul_one]
    show (if _ then Option.map List.flatten ([0, 1, 2, 3].mapM _) else none) = _
    simp [one D a ha, one D b hb, one D c hc, one D d hd]
  unfold Program.keyLits
  rw [Tryd.underlying25]
  simp [c3, c23, c25, one (D + 1) n hn, arr, lits]
def kL (x : V5) : Lit := .string (keyBytes (lits x))
theorem types_size : ∃ D, Tryd.prog.types.size + 1 = D + 3 := ⟨Tryd.prog.types.size - 2, by have : (2 : Nat) < Tryd.prog.types.size := of_decide_eq_true (by kernel_rfl); omega⟩
def inV (x : V5) : Prop := inK x.1 ∧ inK x.2.1 ∧ inK x.2.2.1 ∧ inK x.2.2.2.1 ∧ inK x.2.2.2.2
set_option maxRecDepth 100000 in
set_option maxHeartbeats 1000000 in
theorem key_of (n a b c d : Int) (h : inV (n, a, b, c, d)) : keyOf Tryd.prog 25 (.agg #[.int .i64 n, .int .i64 a, .int .i64 b, .int .i64 c, .int .i64 d]) = some (kL (n, a, b, c, d)) := by
  obtain ⟨D, hD⟩ := types_size
  have h1 : Tryd.prog.keyType 25 = true := by kernel_rfl
  have h2 : (.agg #[.int .i64 n, .int .i64 a, .int .i64 b, .int .i64 c, .int .i64 d] : Value).formed Tryd.prog 25 = true := by kernel_rfl
  unfold keyOf
  rw [Tryd.underlying25]
  simp only [h1, h2, Bool.and_self, if_true]
  rw [hD, show (.agg #[.int .i64 n, .int .i64 a, .int .i64 b, .int .i64 c, .int .i64 d] : Value).cells.toList = [.int .i64 n, .int .i64 a, .int .i64 b, .int .i64 c, .int .i64 d] from rfl, lits_of n a b c d h.1 h.2.1 h.2.2.1 h.2.2.2.1 h.2.2.2.2]
  rfl
theorem kL_inj {x y : V5} (hx : inV x) (hy : inV y) (h : kL x = kL y) : x = y := by
  obtain ⟨n, a, b, c, d⟩ := x
  obtain ⟨n', a', b', c', d'⟩ := y
  have e := keyLits_inj (lits_of n a b c d hx.1 hx.2.1 hx.2.2.1 hx.2.2.2.1 hx.2.2.2.2 0) (lits_of n' a' b' c' d' hy.1 hy.2.1 hy.2.2.1 hy.2.2.2.1 hy.2.2.2.2 0) (by unfold kL at h; simpa using h)
  simp only [lits, List.cons.injEq, Lit.int.injEq, true_and, and_true] at e
  obtain ⟨rfl, rfl, rfl, rfl, rfl⟩ := e
  rfl
theorem kL_key (x : V5) : WideAt.IsKeyLit (kL x) := by unfold kL; trivial
theorem zeroBool (w : World) : (zeroValue 4).run Tryd.prog w = .ok (.bool false) w := by kernel_rfl
/-- a map of looks that are in it -/
def MapB (w : World) (g k : Nat) (q : V5 → Bool) : Prop := ∃ D : DataW Unit, w.ownsMap Tryd.prog 25 (plainElem Tryd.prog 4) g k D ∧ ∀ x, inV x → D.atKey (kL x) (.lit (.bool false)) = .lit (.bool (q x))
theorem MapB.new (w : World) : MapB (w.alloc (.map #[] 0)) w.heap.size 0 (fun _ => false) := ⟨_, World.ownsMap_made w _ _ _, fun x _ => rfl⟩
theorem MapB.below {w w1 : World} {g k : Nat} {q : V5 → Bool} (h : MapB w g k q) (hB : Below w.heap.size w w1) : MapB w1 g k q := by
  obtain ⟨D, h1, h2⟩ := h
  exact ⟨D, h1.kept (row := none) ⟨hB.os, hB.tape, hB.output, hB.size, fun i hi _ => hB.block i hi⟩ (by simp), h2⟩
theorem MapB.lt {w : World} {g k : Nat} {q : V5 → Bool} (h : MapB w g k q) : g < w.heap.size := by obtain ⟨D, h1, h2⟩ := h; exact h1.lt
theorem MapB.step {D : DataW Unit} {q : V5 → Bool} (hm : Maps.IsMap D) (h : ∀ x, inV x → D.atKey (kL x) (.lit (.bool false)) = .lit (.bool (q x))) {y : V5} (hy : inV y) :
    ∀ x, inV x → (D.put (kL y) (.lit (.bool true))).atKey (kL x) (.lit (.bool false)) = .lit (.bool (q x || decide (x = y))) := by
  intro x hx
  by_cases e : x = y
  · subst e
    rw [Maps.atKey_put_same hm (kL_key x)]; simp
  · rw [Maps.atKey_put_other (fun h => e (kL_inj hx hy h)), h x hx]; simp [e]
set_option maxRecDepth 100000 in
set_option maxHeartbeats 1000000 in
theorem MapB.look {w : World} {g k : Nat} {q : V5 → Bool} (h : MapB w g k q) (n a b c d : Int) (hx : inV (n, a, b, c, d)) : (Instr.lookup 74 (.map (some g)) (.agg #[.int .i64 n, .int .i64 a, .int .i64 b, .int .i64 c, .int .i64 d]) false).run Tryd.prog w = .ok (.bool (q (n, a, b, c, d))) w := by
  obtain ⟨D, h1, h2⟩ := h
  obtain ⟨v, ps, hr, hv⟩ := h1.lookup lawLook Tryd.underlying74 (zeroBool w) (plainElem_bool Tryd.underlying4 false) (key_of n a b c d hx)
  rw [h2 _ hx] at hv
  unfold plainElem at hv
  rw [Tryd.underlying4] at hv
  cases v <;> simp at hv
  obtain ⟨e, _⟩ := hv
  rw [hr, e]
end Go.Proofs.YtddackdghphcnaaDoor.s13

namespace Go.Proofs.YtddackdghphcnaaDoor.s13
set_option linter.unusedVariables false
set_option linter.unusedSimpArgs false
open Go.RowKit
open kit

set_option maxRecDepth 100000 in
set_option maxHeartbeats 2000000 in
theorem rcompare_any (n a b c d n' a' b' c' d' : Int) (w : World) (v r : Int) (H : Hid (cmpE (n, a, b, c, d) (n', a', b', c', d') = (v, r))) : Calls Tryd.prog 26 #[.agg #[.int .i64 n, .int .i64 a, .int .i64 b, .int .i64 c, .int .i64 d], .agg #[.int .i64 n', .int .i64 a', .int .i64 b', .int .i64 c', .int .i64 d']] w fun e w' => e = .returned (.tuple #[.int .i64 v, .int .i64 r]) ∧ Below w.heap.size w w' := by
  have h := H.out
  unfold cmpE at h
  simp only at h
  by_cases hc : bothP n a b c d n' a' b' c' d' = 0
  · rw [if_neg (by simpa using hc)] at h
    have HC := Lib.hid hc
    obtain ⟨h1, h2⟩ := both_yes hc
    obtain ⟨N, hN, hN4, hl, hp⟩ := lst_nat h1
    obtain ⟨M, hM, hM4, hm, hq⟩ := lst_nat h2
    subst hN hM
    have HL := Lib.hid hl
    have HM := Lib.hid hm
    have HP := Lib.hid hp
    have HQ := Lib.hid hq
    generalize lst ((N : Int), a, b, c, d) = l at HL HP h
    generalize lst ((M : Int), a', b', c', d') = m at HM HQ h
    simp only [Prod.mk.injEq] at h
    obtain ⟨hv, rfl⟩ := h
    have HV := Lib.hid hv
    clear hl hm hp hq h1 h2 hc H hv
    go_enter Tryd.func26, Tryd.ntmps26
    go_wp2_with (first
      | (go_at_call 53; refine (rboth_any N a b c d M a' b' c' d' 0 _ HC).mono ?_; rintro e w1 ⟨rfl, hB⟩; obtain ⟨X1, Y1, hB1⟩ := made2 hB; have B1 := Lib.hid hB1; obtain ⟨x0, x1, x2, x3, x4⟩ := X1.cell5; obtain ⟨u0, u1, u2, u3, u4⟩ := Y1.cell5; clear hB hB1 X1 Y1)
      | (go_at_call 57; refine (rorder_any l m N M a b c d a' b' c' d' v _ hN4 hM4 HL HM HP HQ HV).mono ?_; rintro e w2 ⟨rfl, hB⟩; have B2 := Lib.hid (below_on B1.out (Nat.le_refl _) hB); clear hB))
    go_ret2
    exact ⟨rfl, B2.out⟩
  · rw [if_pos hc] at h; cases h
    have hr : (bothP n a b c d n' a' b' c' d' != 0) = true := by simpa using hc
    obtain ⟨r, hq⟩ : ∃ r, bothP n a b c d n' a' b' c' d' = r := ⟨_, rfl⟩
    rw [hq] at hr ⊢
    have HR := Lib.hid hq
    clear hc hq H
    go_enter Tryd.func26, Tryd.ntmps26
    go_wp2_with (go_at_call 53; refine (rboth_any n a b c d n' a' b' c' d' r _ HR).mono ?_; rintro e w1 ⟨rfl, hB⟩; obtain ⟨X1, Y1, hB1⟩ := made2 hB; have B1 := Lib.hid hB1; clear hB hB1 X1 Y1)
    go_ret2
    exact ⟨rfl, B1.out⟩
theorem ret_bi {b b' : Bool} {c c' : Int} (h : (b, c) = (b', c')) : Ending.returned (.tuple #[.bool b, .int .i64 c]) = .returned (.tuple #[.bool b', .int .i64 c']) := by cases h; rfl
/-- whether one look begins another -/
def begB (l m : List Int) : Bool := decide (m.take l.length = l)
def begE (x y : V5) : Bool × Int := if bothP x.1 x.2.1 x.2.2.1 x.2.2.2.1 x.2.2.2.2 y.1 y.2.1 y.2.2.1 y.2.2.2.1 y.2.2.2.2 ≠ 0 then (false, bothP x.1 x.2.1 x.2.2.1 x.2.2.2.1 x.2.2.2.2 y.1 y.2.1 y.2.2.1 y.2.2.2.1 y.2.2.2.2) else (begB (lst x) (lst y), 0)
set_option maxRecDepth 100000 in
set_option maxHeartbeats 2000000 in
theorem rbegins_any (n a b c d n' a' b' c' d' : Int) (w : World) (v : Bool) (r : Int) (H : Hid (begE (n, a, b, c, d) (n', a', b', c', d') = (v, r))) : Calls Tryd.prog 28 #[.agg #[.int .i64 n, .int .i64 a, .int .i64 b, .int .i64 c, .int .i64 d], .agg #[.int .i64 n', .int .i64 a', .int .i64 b', .int .i64 c', .int .i64 d']] w fun e w' => e = .returned (.tuple #[.bool v, .int .i64 r]) ∧ Below w.heap.size w w' := by
  have h := H.out
  unfold begE at h
  simp only at h
  by_cases hc : bothP n a b c d n' a' b' c' d' = 0
  · rw [if_neg (by simpa using hc)] at h
    have HC := Lib.hid hc
    obtain ⟨h1, h2⟩ := both_yes hc
    obtain ⟨N, hN, hN4, hl, hp⟩ := lst_nat h1
    obtain ⟨M, hM, hM4, hm, hq⟩ := lst_nat h2
    subst hN hM
    have HL := Lib.hid hl
    have HM := Lib.hid hm
    have HP := Lib.hid hp
    have HQ := Lib.hid hq
    generalize lst ((N : Int), a, b, c, d) = l at HL HP h
    generalize lst ((M : Int), a', b', c', d') = m at HM HQ h
    simp only [Prod.mk.injEq] at h
    obtain ⟨hv, rfl⟩ := h
    have HV := Lib.hid hv
    clear hl hm hp hq h1 h2 hc H hv
    by_cases hlt : M < N
    · have hb : Hid (v = false) := Lib.hid (by
        rw [← HV.out]
        unfold begB
        refine decide_eq_false fun e => ?_
        have := congrArg List.length e
        rw [List.length_take, HL.out, HM.out] at this
        omega)
      have hlt2 : (M : Int) < N := by omega
      clear hlt
      go_enter Tryd.func28, Tryd.ntmps28
      go_wp2_with (go_at_call 53; refine (rboth_any N a b c d M a' b' c' d' 0 _ HC).mono ?_; rintro e w1 ⟨rfl, hB⟩; obtain ⟨X1, Y1, hB1⟩ := made2 hB; have B1 := Lib.hid hB1; obtain ⟨x0, x1, x2, x3, x4⟩ := X1.cell5; obtain ⟨u0, u1, u2, u3, u4⟩ := Y1.cell5; clear hB hB1 X1 Y1)
      go_ret2
      exact ⟨ret_bi (by rw [hb.out]), B1.out⟩
    · have hle : decide (M < N) = false := decide_eq_false hlt
      have hle2 : decide ((M : Int) < N) = false := decide_eq_false (by omega)
      obtain ⟨⟨y0, y1, y2, y3, y4⟩, hy⟩ : ∃ y, pad5 (m.take N) = y := ⟨_, rfl⟩
      have HY : Hid (pad5 ((m ++ []).take N) = (y0, y1, y2, y3, y4)) := Lib.hid (by rw [List.append_nil]; exact hy)
      have hvv : v = decide (y0 = (N : Int) ∧ y1 = a ∧ y2 = b ∧ y3 = c ∧ y4 = d) := by
        rw [← HV.out]
        unfold begB
        rw [HL.out]
        have e : (m.take N = l) ↔ (y0 = (N : Int) ∧ y1 = a ∧ y2 = b ∧ y3 = c ∧ y4 = d) := by
          constructor
          · intro e
            rw [e, HP.out] at hy
            simp only [Prod.mk.injEq] at hy
            obtain ⟨rfl, rfl, rfl, rfl, rfl⟩ := hy
            exact ⟨rfl, rfl, rfl, rfl, rfl⟩
          · rintro ⟨rfl, rfl, rfl, rfl, rfl⟩
            refine pad5_inj ?_ (hy.trans HP.out.symm)
            rw [List.length_take]; omega
        exact decide_eq_decide.2 e
      have zq : ∀ W, (binOp .eql 25 (.agg #[.int .i64 y0, .int .i64 y1, .int .i64 y2, .int .i64 y3, .int .i64 y4]) (.agg #[.int .i64 N, .int .i64 a, .int .i64 b, .int .i64 c, .int .i64 d])).run Tryd.prog W = .ok (.bool v) W := fun W => by rw [eql_look, ← hvv]
      have zg := guard_look
      clear hlt hy hvv HV
      go_enter Tryd.func28, Tryd.ntmps28
      go_wp2_with (go_at_call 53; refine (rboth_any N a b c d M a' b' c' d' 0 _ HC).mono ?_; rintro e w1 ⟨rfl, hB⟩; obtain ⟨X1, Y1, hB1⟩ := made2 hB; have B1 := Lib.hid hB1; have X1 := Lib.hid X1; have Y1 := Lib.hid Y1; obtain ⟨x0, x1, x2, x3, x4⟩ := X1.out.cell5; obtain ⟨u0, u1, u2, u3, u4⟩ := Y1.out.cell5; clear hB hB1)
      have qx := fun p : Later w1 => (X1.out.below p.h).cell5
      have qy := fun p : Later w1 => (Y1.out.below p.h).cell5
      have qx0 := fun p : Later w1 => (qx p).1
      have qx1 := fun p : Later w1 => (qx p).2.1
      have qx2 := fun p : Later w1 => (qx p).2.2.1
      have qx3 := fun p : Later w1 => (qx p).2.2.2.1
      have qx4 := fun p : Later w1 => (qx p).2.2.2.2
      have qy0 := fun p : Later w1 => (qy p).1
      have qy1 := fun p : Later w1 => (qy p).2.1
      have qy2 := fun p : Later w1 => (qy p).2.2.1
      have qy3 := fun p : Later w1 => (qy p).2.2.2.1
      have qy4 := fun p : Later w1 => (qy p).2.2.2.2
      clear qx qy x0 x1 x2 x3 x4 u0 u1 u2 u3 u4
      refine wp_region_later (by kernel_rfl) (by kernel_rfl) ?_
      repeat (go_big_quiet_step ((go_at_call 54; exact calls_later (rplus_any m [] N M 0 a' b' c' d' 0 0 0 0 _ hN4 hM4 (by omega) HM (Lib.hid rfl) HQ (Lib.hid rfl) y0 y1 y2 y3 y4 HY))))
      refine wpQuiet_nil ?_
      rintro w5 ⟨p5, rfl⟩
      have B5 := Lib.hid (below_on B1.out (Nat.le_refl _) p5.h)
      generalize p5.W = w6 at B5 ⊢
      go_wp2
      go_ret2
      exact ⟨rfl, B5.out⟩
  · rw [if_pos hc] at h; cases h
    have hr : (bothP n a b c d n' a' b' c' d' != 0) = true := by simpa using hc
    obtain ⟨r, hq⟩ : ∃ r, bothP n a b c d n' a' b' c' d' = r := ⟨_, rfl⟩
    rw [hq] at hr ⊢
    have HR := Lib.hid hq
    clear hc hq H
    go_enter Tryd.func28, Tryd.ntmps28
    go_wp2_with (go_at_call 53; refine (rboth_any n a b c d n' a' b' c' d' r _ HR).mono ?_; rintro e w1 ⟨rfl, hB⟩; obtain ⟨X1, Y1, hB1⟩ := made2 hB; have B1 := Lib.hid hB1; clear hB hB1 X1 Y1)
    go_ret2
    exact ⟨rfl, B1.out⟩
end Go.Proofs.YtddackdghphcnaaDoor.s13

namespace Go.Proofs.YtddackdghphcnaaDoor.s13
set_option linter.unusedVariables false
set_option linter.unusedSimpArgs false
open Go.RowKit
open kit

set_option maxRecDepth 100000 in
set_option maxHeartbeats 2000000 in
theorem pbegins_bad (n a b c d n' a' b' c' d' r : Int) (w : World) (HR : Hid (bothP n a b c d n' a' b' c' d' = r)) (hr : (r != 0) = true) : Calls Tryd.prog 27 #[.agg #[.int .i64 n, .int .i64 a, .int .i64 b, .int .i64 c, .int .i64 d], .agg #[.int .i64 n', .int .i64 a', .int .i64 b', .int .i64 c', .int .i64 d']] w fun e w' => e = .returned (.tuple #[.bool false, .int .i64 r]) ∧ Below w.heap.size w w' := by
  go_enter Tryd.func27, Tryd.ntmps27
  go_wp2_with (go_at_call 46; refine (checkall_two n a b c d n' a' b' c' d' r _ _ (new3 _ _ _ _ _) HR).mono ?_; rintro e w1 ⟨rfl, hB⟩; obtain ⟨X1, Y1, Z1, hB1⟩ := made3 hB; have B1 := Lib.hid hB1; clear hB hB1 X1 Y1 Z1)
  go_ret2
  exact ⟨rfl, B1.out⟩
theorem inV_pad {l : List Int} (h : okL 8 l) : inV (pad5 l) := by
  have h0 := okL_at0 h (by omega) 0
  have h1 := okL_at0 h (by omega) 1
  have h2 := okL_at0 h (by omega) 2
  have h3 := okL_at0 h (by omega) 3
  have h4 := h.1
  unfold inV inK pad5
  simp only
  refine ⟨⟨by omega, by omega⟩, ⟨by omega, by omega⟩, ⟨by omega, by omega⟩, ⟨by omega, by omega⟩, ⟨by omega, by omega⟩⟩
/-- the first k beginnings of a look -/
def inAny (m : List Int) (k : Nat) (x : V5) : Bool := (List.range k).any fun j => decide (x = pad5 (m.take j))
theorem inAny_succ (m : List Int) (k : Nat) (x : V5) : inAny m (k + 1) x = (inAny m k x || decide (x = pad5 (m.take k))) := by
  unfold inAny; rw [List.range_succ, List.any_append]; simp
theorem inAny_beg {l m : List Int} (hl : l.length ≤ 4) : inAny m (m.length + 1) (pad5 l) = begB l m := by
  unfold inAny begB
  rw [Bool.eq_iff_iff, List.any_eq_true, decide_eq_true_eq]
  constructor
  · rintro ⟨j, hj, e⟩
    have hj2 : j < m.length + 1 := List.mem_range.1 hj
    have e2 := pad5_inj hl (of_decide_eq_true e)
    subst e2
    rw [List.length_take, Nat.min_eq_left (by omega)]
  · intro e
    have h := congrArg List.length e
    rw [List.length_take] at h
    exact ⟨l.length, List.mem_range.2 (by omega), decide_eq_true (by rw [e])⟩
set_option maxRecDepth 100000 in
set_option maxHeartbeats 4000000 in
theorem pbegins_ok (l m : List Int) (N M : Nat) (a b c d a' b' c' d' : Int) (v : Bool) (w : World) (HR : Hid (bothP N a b c d M a' b' c' d' = 0)) (hN : N ≤ 4) (hM : M ≤ 4) (HL : Hid (l.length = N)) (HM : Hid (m.length = M)) (HP : Hid (pad5 l = ((N : Int), a, b, c, d))) (HQ : Hid (pad5 m = ((M : Int), a', b', c', d'))) (hl : Hid (okL 8 l)) (hm : Hid (okL 8 m)) (HV : Hid (begB l m = v)) :
    Calls Tryd.prog 27 #[.agg #[.int .i64 N, .int .i64 a, .int .i64 b, .int .i64 c, .int .i64 d], .agg #[.int .i64 M, .int .i64 a', .int .i64 b', .int .i64 c', .int .i64 d']] w fun e w' => e = .returned (.tuple #[.bool v, .int .i64 0]) ∧ Below w.heap.size w w' := by
  have n2 : (N : Int) ≤ 4 := by omega
  have m2 : (M : Int) ≤ 4 := by omega
  have hmm := @run_makeMap Tryd.prog
  go_enter Tryd.func27, Tryd.ntmps27
  go_wp2_with (go_at_call 46; refine (checkall_two N a b c d M a' b' c' d' 0 _ _ (new3 _ _ _ _ _) HR).mono ?_; rintro e w1 ⟨rfl, hB⟩; obtain ⟨X1, Y1, Z1, hB1⟩ := made3 hB; have B1 := Lib.hid hB1; have X1 := Lib.hid X1; have Y1 := Lib.hid Y1; obtain ⟨u0, u1, u2, u3, u4⟩ := (Y1.out.alloc (.map #[] 0)).cell5; clear hB hB1 Z1)
  have MP := Lib.hid (MapB.new w1)
  have X2 := Lib.hid (X1.out.alloc (.map #[] 0))
  have Y2 := Lib.hid (Y1.out.alloc (.map #[] 0))
  have B2 := Lib.hid (B1.out.alloc B1.out.size (.map #[] 0))
  have hg1 : w.heap.size + 1 < w1.heap.size := Y1.out.lt
  clear u0 u1 u2 u3 u4 X1 Y1 B1 hmm
  go_loopw [20] (fun i wr => ∃ k : Nat, i = .int .i64 k ∧ k ≤ M + 1 ∧ Hid (MapB wr w1.heap.size k (inAny m k)) ∧ Hid (Box wr 25 w.heap.size #[.int .i64 N, .int .i64 a, .int .i64 b, .int .i64 c, .int .i64 d]) ∧ Hid (Box wr 25 (w.heap.size + 1) #[.int .i64 M, .int .i64 a', .int .i64 b', .int .i64 c', .int .i64 d']) ∧ Hid (Below w.heap.size w wr)) (fun i _ => M + 1 - (intOf i).toNat)
  case atStart => exact ⟨0, rfl, by omega, MP, X2, Y2, B2⟩
  case round =>
    obtain ⟨k, rfl, hk, HMp, HX, HY, HB⟩ := hrel
    by_cases hlt : k < M + 1
    · have hkm : min M k = k := by omega
      have hcut := cutP_look (l := m) (by have := HM.out; omega) (pad5_of HQ.out) k
      obtain ⟨⟨q, c0, c1, c2, c3⟩, hq⟩ : ∃ u, cutP M k a' b' c' d' = u := ⟨_, rfl⟩
      have hqk : q = k := by have := congrArg Prod.fst hq; simpa [cutP, hkm] using this.symm
      subst hqk
      rw [hq] at hcut
      have HC := Lib.hid hq
      have hy : pad5 (m.take q) = ((q : Int), c0, c1, c2, c3) := by
        have h9 := hcut.symm
        simp only [pad, pad5, Prod.mk.injEq] at h9 ⊢
        exact ⟨by omega, h9.2⟩
      have hin : inV ((q : Int), c0, c1, c2, c3) := by rw [← hy]; exact inV_pad (okL_take hm.out q)
      have HK := Lib.hid (key_of q c0 c1 c2 c3 hin)
      have HIN := Lib.hid hin
      have HYY := Lib.hid hy
      have hlt2 : (q : Int) < (M : Int) + 1 := by omega
      obtain ⟨u0, u1, u2, u3, u4⟩ := HY.out.cell5
      clear hq hcut hy hin
      go_wp2_with (first
        | (go_at_call 52; refine (cut_any M q a' b' c' d' _ (by omega) q c0 c1 c2 c3 HC).mono ?_; rintro e w2 ⟨rfl, hB⟩; have B3 := Lib.hid (below_then HB.out hB); have M3 := Lib.hid (HMp.out.below hB); have X3 := Lib.hid (HX.out.below hB); have Y3 := Lib.hid (HY.out.below hB); clear hB u0 u1 u2 u3 u4; obtain ⟨D, hown, hD⟩ := M3.out; have HD := Lib.hid hD; have HO := Lib.hid hown; clear hown hD)
        | (at_mapUpdate; refine wpList_mapUpdate_own _ rfl _ _ _ 74 rfl 25 4 lawLook Tryd.underlying74 _ w1.heap.size q D rfl HO.out (by unfold maxLen; omega) _ _ _ rfl rfl HK.out _ [] (plainElem_bool Tryd.underlying4 true) ?_; intro w3 hown1 hgrow1; have B4 := Lib.hid (B3.out.grown hgrow1 B3.out.size (fun j e => by cases e; omega)); have M4 : Hid (MapB w3 w1.heap.size (q + 1) (inAny m (q + 1))) := Lib.hid ⟨_, hown1, fun x hx => by rw [MapB.step HO.out.isMap HD.out HIN.out x hx, inAny_succ, HYY.out]⟩; have X4 := Lib.hid ((hgrow1.block _ X3.out.lt (by simp; omega)).trans X3.out); have Y4 := Lib.hid ((hgrow1.block _ Y3.out.lt (by simp; omega)).trans Y3.out); clear hown1 hgrow1))
      go_roundw
      case rel => exact ⟨q + 1, by go_num, by omega, M4, X4, Y4, B4⟩
      case measure => simp [intOf]; omega
    · obtain rfl : k = M + 1 := by omega
      have hx : inV ((N : Int), a, b, c, d) := by rw [← HP.out]; exact inV_pad hl.out
      have hlk := HMp.out.look N a b c d hx
      have e : inAny m (M + 1) ((N : Int), a, b, c, d) = v := by
        rw [← HP.out, ← HM.out, inAny_beg (by have := HL.out; omega)]; exact HV.out
      rw [e] at hlk
      obtain ⟨x0, x1, x2, x3, x4⟩ := HX.out.cell5
      clear hx e
      go_wp2
      go_ret2
      exact ⟨rfl, HB.out⟩
theorem pbegins_any (n a b c d n' a' b' c' d' : Int) (w : World) (v : Bool) (r : Int) (H : Hid (begE (n, a, b, c, d) (n', a', b', c', d') = (v, r))) : Calls Tryd.prog 27 #[.agg #[.int .i64 n, .int .i64 a, .int .i64 b, .int .i64 c, .int .i64 d], .agg #[.int .i64 n', .int .i64 a', .int .i64 b', .int .i64 c', .int .i64 d']] w fun e w' => e = .returned (.tuple #[.bool v, .int .i64 r]) ∧ Below w.heap.size w w' := by
  have h := H.out
  unfold begE at h
  simp only at h
  by_cases hc : bothP n a b c d n' a' b' c' d' = 0
  · rw [if_neg (by simpa using hc)] at h
    cases h
    obtain ⟨h1, h2⟩ := both_yes hc
    obtain ⟨k1, _, _⟩ := lst_ok h1
    obtain ⟨k2, _, _⟩ := lst_ok h2
    obtain ⟨N, hN, hN4, hl, hp⟩ := lst_nat h1
    obtain ⟨M, hM, hM4, hm, hq⟩ := lst_nat h2
    subst hN hM
    exact pbegins_ok _ _ N M a b c d a' b' c' d' _ w (Lib.hid hc) hN4 hM4 (Lib.hid hl) (Lib.hid hm) (Lib.hid hp) (Lib.hid hq) (Lib.hid k1) (Lib.hid k2) (Lib.hid rfl)
  · rw [if_pos hc] at h; cases h
    exact pbegins_bad n a b c d n' a' b' c' d' _ w (Lib.hid rfl) (by simpa using hc)
end Go.Proofs.YtddackdghphcnaaDoor.s13

namespace Go.Proofs.YtddackdghphcnaaDoor.s13
set_option linter.unusedVariables false
set_option linter.unusedSimpArgs false
open Go.RowKit
open kit

/-- the listed table of 64 numbers lies -/
def Tab (w : World) : Prop := Lib.TabIs Tryd.prog w "math/bits.deBruijn64tab" .u8 [0, 1, 56, 2, 57, 49, 28, 3, 61, 58, 42, 50, 38, 29, 17, 4, 62, 47, 59, 36, 45, 43, 51, 22, 53, 39, 33, 30, 24, 18, 12, 5, 63, 55, 48, 27, 60, 41, 37, 16, 46, 35, 44, 21, 52, 32, 23, 11, 54, 26, 40, 15, 34, 20, 31, 10, 25, 14, 19, 9, 13, 8, 7, 6]
theorem Tab.below {w w1 : World} (h : Tab w) (hB : Below w.heap.size w w1) : Tab w1 := Joins.tab_stays (g := 3) (by kernel_rfl) h hB (Nat.le_refl _)
end Go.Proofs.YtddackdghphcnaaDoor.s13

namespace Go.Proofs.YtddackdghphcnaaDoor.s13
set_option linter.unusedVariables false
set_option linter.unusedSimpArgs false
set_option linter.unnecessarySimpa false
open Go.RowKit
open kit

abbrev ZS : List Int := [0, 1, 56, 2, 57, 49, 28, 3, 61, 58, 42, 50, 38, 29, 17, 4, 62, 47, 59, 36, 45, 43, 51, 22, 53, 39, 33, 30, 24, 18, 12, 5, 63, 55, 48, 27, 60, 41, 37, 16, 46, 35, 44, 21, 52, 32, 23, 11, 54, 26, 40, 15, 34, 20, 31, 10, 25, 14, 19, 9, 13, 8, 7, 6]
theorem tab_at {w : World} (h : Tab w) (i : Nat) (hi : i < 64) : w.cell? ⟨3, i, none⟩ = some (.int .u8 (ZS.getD i 0)) := Lib.TabIs.cell h (by kernel_rfl) i hi
set_option maxRecDepth 100000 in
set_option maxHeartbeats 2000000 in
theorem ones64_1 (w : World) : Calls Tryd.prog 83 #[.int .u64 1] w fun e w' => e = .returned (.int .i64 1) ∧ w' = w := by
  go_enter Tryd.func83, Tryd.ntmps83
  go_wp2
  go_ret
  exact ⟨by kernel_rfl, rfl⟩
set_option maxRecDepth 100000 in
set_option maxHeartbeats 2000000 in
theorem ones_1 (w : World) : Calls Tryd.prog 74 #[.int .u64 1] w fun e w' => e = .returned (.int .i64 1) ∧ w' = w := by
  go_enter Tryd.func74, Tryd.ntmps74
  go_wp2_with (go_at_call 83; refine (ones64_1 _).mono ?_; rintro e w1 ⟨rfl, rfl⟩)
  go_ret
  exact ⟨rfl, rfl⟩
set_option maxRecDepth 100000 in
set_option maxHeartbeats 2000000 in
theorem ones64_2 (w : World) : Calls Tryd.prog 83 #[.int .u64 2] w fun e w' => e = .returned (.int .i64 1) ∧ w' = w := by
  go_enter Tryd.func83, Tryd.ntmps83
  go_wp2
  go_ret
  exact ⟨by kernel_rfl, rfl⟩
set_option maxRecDepth 100000 in
set_option maxHeartbeats 2000000 in
theorem ones_2 (w : World) : Calls Tryd.prog 74 #[.int .u64 2] w fun e w' => e = .returned (.int .i64 1) ∧ w' = w := by
  go_enter Tryd.func74, Tryd.ntmps74
  go_wp2_with (go_at_call 83; refine (ones64_2 _).mono ?_; rintro e w1 ⟨rfl, rfl⟩)
  go_ret
  exact ⟨rfl, rfl⟩
set_option maxRecDepth 100000 in
set_option maxHeartbeats 2000000 in
theorem ones64_3 (w : World) : Calls Tryd.prog 83 #[.int .u64 3] w fun e w' => e = .returned (.int .i64 2) ∧ w' = w := by
  go_enter Tryd.func83, Tryd.ntmps83
  go_wp2
  go_ret
  exact ⟨by kernel_rfl, rfl⟩
set_option maxRecDepth 100000 in
set_option maxHeartbeats 2000000 in
theorem ones_3 (w : World) : Calls Tryd.prog 74 #[.int .u64 3] w fun e w' => e = .returned (.int .i64 2) ∧ w' = w := by
  go_enter Tryd.func74, Tryd.ntmps74
  go_wp2_with (go_at_call 83; refine (ones64_3 _).mono ?_; rintro e w1 ⟨rfl, rfl⟩)
  go_ret
  exact ⟨rfl, rfl⟩
set_option maxRecDepth 100000 in
set_option maxHeartbeats 2000000 in
theorem ones64_4 (w : World) : Calls Tryd.prog 83 #[.int .u64 4] w fun e w' => e = .returned (.int .i64 1) ∧ w' = w := by
  go_enter Tryd.func83, Tryd.ntmps83
  go_wp2
  go_ret
  exact ⟨by kernel_rfl, rfl⟩
set_option maxRecDepth 100000 in
set_option maxHeartbeats 2000000 in
theorem ones_4 (w : World) : Calls Tryd.prog 74 #[.int .u64 4] w fun e w' => e = .returned (.int .i64 1) ∧ w' = w := by
  go_enter Tryd.func74, Tryd.ntmps74
  go_wp2_with (go_at_call 83; refine (ones64_4 _).mono ?_; rintro e w1 ⟨rfl, rfl⟩)
  go_ret
  exact ⟨rfl, rfl⟩
set_option maxRecDepth 100000 in
set_option maxHeartbeats 2000000 in
theorem ones64_5 (w : World) : Calls Tryd.prog 83 #[.int .u64 5] w fun e w' => e = .returned (.int .i64 2) ∧ w' = w := by
  go_enter Tryd.func83, Tryd.ntmps83
  go_wp2
  go_ret
  exact ⟨by kernel_rfl, rfl⟩
set_option maxRecDepth 100000 in
set_option maxHeartbeats 2000000 in
theorem ones_5 (w : World) : Calls Tryd.prog 74 #[.int .u64 5] w fun e w' => e = .returned (.int .i64 2) ∧ w' = w := by
  go_enter Tryd.func74, Tryd.ntmps74
  go_wp2_with (go_at_call 83; refine (ones64_5 _).mono ?_; rintro e w1 ⟨rfl, rfl⟩)
  go_ret
  exact ⟨rfl, rfl⟩
set_option maxRecDepth 100000 in
set_option maxHeartbeats 2000000 in
theorem ones64_6 (w : World) : Calls Tryd.prog 83 #[.int .u64 6] w fun e w' => e = .returned (.int .i64 2) ∧ w' = w := by
  go_enter Tryd.func83, Tryd.ntmps83
  go_wp2
  go_ret
  exact ⟨by kernel_rfl, rfl⟩
set_option maxRecDepth 100000 in
set_option maxHeartbeats 2000000 in
theorem ones_6 (w : World) : Calls Tryd.prog 74 #[.int .u64 6] w fun e w' => e = .returned (.int .i64 2) ∧ w' = w := by
  go_enter Tryd.func74, Tryd.ntmps74
  go_wp2_with (go_at_call 83; refine (ones64_6 _).mono ?_; rintro e w1 ⟨rfl, rfl⟩)
  go_ret
  exact ⟨rfl, rfl⟩
set_option maxRecDepth 100000 in
set_option maxHeartbeats 2000000 in
theorem ones64_7 (w : World) : Calls Tryd.prog 83 #[.int .u64 7] w fun e w' => e = .returned (.int .i64 3) ∧ w' = w := by
  go_enter Tryd.func83, Tryd.ntmps83
  go_wp2
  go_ret
  exact ⟨by kernel_rfl, rfl⟩
set_option maxRecDepth 100000 in
set_option maxHeartbeats 2000000 in
theorem ones_7 (w : World) : Calls Tryd.prog 74 #[.int .u64 7] w fun e w' => e = .returned (.int .i64 3) ∧ w' = w := by
  go_enter Tryd.func74, Tryd.ntmps74
  go_wp2_with (go_at_call 83; refine (ones64_7 _).mono ?_; rintro e w1 ⟨rfl, rfl⟩)
  go_ret
  exact ⟨rfl, rfl⟩
set_option maxRecDepth 100000 in
set_option maxHeartbeats 2000000 in
theorem ones64_8 (w : World) : Calls Tryd.prog 83 #[.int .u64 8] w fun e w' => e = .returned (.int .i64 1) ∧ w' = w := by
  go_enter Tryd.func83, Tryd.ntmps83
  go_wp2
  go_ret
  exact ⟨by kernel_rfl, rfl⟩
set_option maxRecDepth 100000 in
set_option maxHeartbeats 2000000 in
theorem ones_8 (w : World) : Calls Tryd.prog 74 #[.int .u64 8] w fun e w' => e = .returned (.int .i64 1) ∧ w' = w := by
  go_enter Tryd.func74, Tryd.ntmps74
  go_wp2_with (go_at_call 83; refine (ones64_8 _).mono ?_; rintro e w1 ⟨rfl, rfl⟩)
  go_ret
  exact ⟨rfl, rfl⟩
set_option maxRecDepth 100000 in
set_option maxHeartbeats 2000000 in
theorem ctz64_1 (w : World) (hT : Tab w) : Calls Tryd.prog 85 #[.int .u64 1] w fun e w' => e = .returned (.int .i64 0) ∧ w' = w := by
  have c := tab_at hT 0 (by decide)
  rw [show (ZS.getD 0 0 : Int) = 0 by decide] at c
  have hix : IntKind.u64.wrap (bits BinOp.and IntKind.u64 1 (IntKind.u64.wrap (-1)) * 285870213051353865) / 288230376151711744 = 0 := by kernel_rfl
  go_enter Tryd.func85, Tryd.ntmps85
  go_wp2

  go_ret
  exact ⟨by kernel_rfl, rfl⟩
set_option maxRecDepth 100000 in
set_option maxHeartbeats 2000000 in
theorem ctz_1 (w : World) (hT : Tab w) : Calls Tryd.prog 75 #[.int .u64 1] w fun e w' => e = .returned (.int .i64 0) ∧ w' = w := by
  go_enter Tryd.func75, Tryd.ntmps75
  go_wp2_with (go_at_call 85; refine (ctz64_1 _ hT).mono ?_; rintro e w1 ⟨rfl, rfl⟩)
  go_ret
  exact ⟨rfl, rfl⟩
set_option maxRecDepth 100000 in
set_option maxHeartbeats 2000000 in
theorem ctz64_2 (w : World) (hT : Tab w) : Calls Tryd.prog 85 #[.int .u64 2] w fun e w' => e = .returned (.int .i64 1) ∧ w' = w := by
  have c := tab_at hT 1 (by decide)
  rw [show (ZS.getD 1 0 : Int) = 1 by decide] at c
  have hix : IntKind.u64.wrap (bits BinOp.and IntKind.u64 2 (IntKind.u64.wrap (-2)) * 285870213051353865) / 288230376151711744 = 1 := by kernel_rfl
  go_enter Tryd.func85, Tryd.ntmps85
  go_wp2

  go_ret
  exact ⟨by kernel_rfl, rfl⟩
set_option maxRecDepth 100000 in
set_option maxHeartbeats 2000000 in
theorem ctz_2 (w : World) (hT : Tab w) : Calls Tryd.prog 75 #[.int .u64 2] w fun e w' => e = .returned (.int .i64 1) ∧ w' = w := by
  go_enter Tryd.func75, Tryd.ntmps75
  go_wp2_with (go_at_call 85; refine (ctz64_2 _ hT).mono ?_; rintro e w1 ⟨rfl, rfl⟩)
  go_ret
  exact ⟨rfl, rfl⟩
set_option maxRecDepth 100000 in
set_option maxHeartbeats 2000000 in
theorem ctz64_4 (w : World) (hT : Tab w) : Calls Tryd.prog 85 #[.int .u64 4] w fun e w' => e = .returned (.int .i64 2) ∧ w' = w := by
  have c := tab_at hT 3 (by decide)
  rw [show (ZS.getD 3 0 : Int) = 2 by decide] at c
  have hix : IntKind.u64.wrap (bits BinOp.and IntKind.u64 4 (IntKind.u64.wrap (-4)) * 285870213051353865) / 288230376151711744 = 3 := by kernel_rfl
  go_enter Tryd.func85, Tryd.ntmps85
  go_wp2

  go_ret
  exact ⟨by kernel_rfl, rfl⟩
set_option maxRecDepth 100000 in
set_option maxHeartbeats 2000000 in
theorem ctz_4 (w : World) (hT : Tab w) : Calls Tryd.prog 75 #[.int .u64 4] w fun e w' => e = .returned (.int .i64 2) ∧ w' = w := by
  go_enter Tryd.func75, Tryd.ntmps75
  go_wp2_with (go_at_call 85; refine (ctz64_4 _ hT).mono ?_; rintro e w1 ⟨rfl, rfl⟩)
  go_ret
  exact ⟨rfl, rfl⟩
set_option maxRecDepth 100000 in
set_option maxHeartbeats 2000000 in
theorem ctz64_8 (w : World) (hT : Tab w) : Calls Tryd.prog 85 #[.int .u64 8] w fun e w' => e = .returned (.int .i64 3) ∧ w' = w := by
  have c := tab_at hT 7 (by decide)
  rw [show (ZS.getD 7 0 : Int) = 3 by decide] at c
  have hix : IntKind.u64.wrap (bits BinOp.and IntKind.u64 8 (IntKind.u64.wrap (-8)) * 285870213051353865) / 288230376151711744 = 7 := by kernel_rfl
  go_enter Tryd.func85, Tryd.ntmps85
  go_wp2

  go_ret
  exact ⟨by kernel_rfl, rfl⟩
set_option maxRecDepth 100000 in
set_option maxHeartbeats 2000000 in
theorem ctz_8 (w : World) (hT : Tab w) : Calls Tryd.prog 75 #[.int .u64 8] w fun e w' => e = .returned (.int .i64 3) ∧ w' = w := by
  go_enter Tryd.func75, Tryd.ntmps75
  go_wp2_with (go_at_call 85; refine (ctz64_8 _ hT).mono ?_; rintro e w1 ⟨rfl, rfl⟩)
  go_ret
  exact ⟨rfl, rfl⟩
set_option maxRecDepth 100000 in
set_option maxHeartbeats 2000000 in
theorem times_1 (n : Int) (w : World) (hT : Tab w) (n0 : 0 ≤ n) (n1 : n ≤ 100000) : Calls Tryd.prog 68 #[.int .i64 n, .int .i64 1] w fun e w' => e = .returned (.int .i64 (n * 1)) ∧ w' = w := by
  have hw : IntKind.u64.wrap (1 : Int) = 1 := by kernel_rfl
  go_enter Tryd.func68, Tryd.ntmps68
  go_wp2_with (first
    | (go_at_call 74; refine (ones_1 _).mono ?_; rintro e w1 ⟨rfl, rfl⟩)
    | (go_at_call 75; refine (ctz_1 _ hT).mono ?_; rintro e w1 ⟨rfl, rfl⟩))
  go_ret
  exact ⟨by show Ending.returned (.int .i64 n) = _; rw [Int.mul_one], rfl⟩
set_option maxRecDepth 100000 in
set_option maxHeartbeats 2000000 in
theorem times_2 (n : Int) (w : World) (hT : Tab w) (n0 : 0 ≤ n) (n1 : n ≤ 100000) : Calls Tryd.prog 68 #[.int .i64 n, .int .i64 2] w fun e w' => e = .returned (.int .i64 (n * 2)) ∧ w' = w := by
  have hw : IntKind.u64.wrap (2 : Int) = 2 := by kernel_rfl
  go_enter Tryd.func68, Tryd.ntmps68
  go_wp2_with (first
    | (go_at_call 74; refine (ones_2 _).mono ?_; rintro e w1 ⟨rfl, rfl⟩)
    | (go_at_call 75; refine (ctz_2 _ hT).mono ?_; rintro e w1 ⟨rfl, rfl⟩))
  go_ret
  exact ⟨rfl, rfl⟩
set_option maxRecDepth 100000 in
set_option maxHeartbeats 2000000 in
theorem times_3 (n : Int) (w : World) (hT : Tab w) (n0 : 0 ≤ n) (n1 : n ≤ 100000) : Calls Tryd.prog 68 #[.int .i64 n, .int .i64 3] w fun e w' => e = .returned (.int .i64 (n * 3)) ∧ w' = w := by
  have hw : IntKind.u64.wrap (3 : Int) = 3 := by kernel_rfl
  go_enter Tryd.func68, Tryd.ntmps68
  go_wp2_with (first
    | (go_at_call 74; refine (ones_3 _).mono ?_; rintro e w1 ⟨rfl, rfl⟩))
  go_ret
  exact ⟨rfl, rfl⟩
set_option maxRecDepth 100000 in
set_option maxHeartbeats 2000000 in
theorem times_4 (n : Int) (w : World) (hT : Tab w) (n0 : 0 ≤ n) (n1 : n ≤ 100000) : Calls Tryd.prog 68 #[.int .i64 n, .int .i64 4] w fun e w' => e = .returned (.int .i64 (n * 4)) ∧ w' = w := by
  have hw : IntKind.u64.wrap (4 : Int) = 4 := by kernel_rfl
  go_enter Tryd.func68, Tryd.ntmps68
  go_wp2_with (first
    | (go_at_call 74; refine (ones_4 _).mono ?_; rintro e w1 ⟨rfl, rfl⟩)
    | (go_at_call 75; refine (ctz_4 _ hT).mono ?_; rintro e w1 ⟨rfl, rfl⟩))
  go_ret
  exact ⟨rfl, rfl⟩
set_option maxRecDepth 100000 in
set_option maxHeartbeats 2000000 in
theorem times_5 (n : Int) (w : World) (hT : Tab w) (n0 : 0 ≤ n) (n1 : n ≤ 100000) : Calls Tryd.prog 68 #[.int .i64 n, .int .i64 5] w fun e w' => e = .returned (.int .i64 (n * 5)) ∧ w' = w := by
  have hw : IntKind.u64.wrap (5 : Int) = 5 := by kernel_rfl
  go_enter Tryd.func68, Tryd.ntmps68
  go_wp2_with (first
    | (go_at_call 74; refine (ones_5 _).mono ?_; rintro e w1 ⟨rfl, rfl⟩))
  go_ret
  exact ⟨rfl, rfl⟩
set_option maxRecDepth 100000 in
set_option maxHeartbeats 2000000 in
theorem times_6 (n : Int) (w : World) (hT : Tab w) (n0 : 0 ≤ n) (n1 : n ≤ 100000) : Calls Tryd.prog 68 #[.int .i64 n, .int .i64 6] w fun e w' => e = .returned (.int .i64 (n * 6)) ∧ w' = w := by
  have hw : IntKind.u64.wrap (6 : Int) = 6 := by kernel_rfl
  go_enter Tryd.func68, Tryd.ntmps68
  go_wp2_with (first
    | (go_at_call 74; refine (ones_6 _).mono ?_; rintro e w1 ⟨rfl, rfl⟩))
  go_ret
  exact ⟨rfl, rfl⟩
set_option maxRecDepth 100000 in
set_option maxHeartbeats 2000000 in
theorem times_7 (n : Int) (w : World) (hT : Tab w) (n0 : 0 ≤ n) (n1 : n ≤ 100000) : Calls Tryd.prog 68 #[.int .i64 n, .int .i64 7] w fun e w' => e = .returned (.int .i64 (n * 7)) ∧ w' = w := by
  have hw : IntKind.u64.wrap (7 : Int) = 7 := by kernel_rfl
  go_enter Tryd.func68, Tryd.ntmps68
  go_wp2_with (first
    | (go_at_call 74; refine (ones_7 _).mono ?_; rintro e w1 ⟨rfl, rfl⟩))
  go_ret
  exact ⟨rfl, rfl⟩
set_option maxRecDepth 100000 in
set_option maxHeartbeats 2000000 in
theorem times_8 (n : Int) (w : World) (hT : Tab w) (n0 : 0 ≤ n) (n1 : n ≤ 100000) : Calls Tryd.prog 68 #[.int .i64 n, .int .i64 8] w fun e w' => e = .returned (.int .i64 (n * 8)) ∧ w' = w := by
  have hw : IntKind.u64.wrap (8 : Int) = 8 := by kernel_rfl
  go_enter Tryd.func68, Tryd.ntmps68
  go_wp2_with (first
    | (go_at_call 74; refine (ones_8 _).mono ?_; rintro e w1 ⟨rfl, rfl⟩)
    | (go_at_call 75; refine (ctz_8 _ hT).mono ?_; rintro e w1 ⟨rfl, rfl⟩))
  go_ret
  exact ⟨rfl, rfl⟩
theorem times_any (n t : Int) (w : World) (hT : Tab w) (h1 : 1 ≤ t) (h2 : t ≤ 8) (n0 : 0 ≤ n) (n1 : n ≤ 100000) : Calls Tryd.prog 68 #[.int .i64 n, .int .i64 t] w fun e w' => e = .returned (.int .i64 (n * t)) ∧ w' = w := by
  have ht : t = 1 ∨ t = 2 ∨ t = 3 ∨ t = 4 ∨ t = 5 ∨ t = 6 ∨ t = 7 ∨ t = 8 := by omega
  rcases ht with rfl | rfl | rfl | rfl | rfl | rfl | rfl | rfl
  · exact times_1 n w hT n0 n1
  · exact times_2 n w hT n0 n1
  · exact times_3 n w hT n0 n1
  · exact times_4 n w hT n0 n1
  · exact times_5 n w hT n0 n1
  · exact times_6 n w hT n0 n1
  · exact times_7 n w hT n0 n1
  · exact times_8 n w hT n0 n1
end Go.Proofs.YtddackdghphcnaaDoor.s13
