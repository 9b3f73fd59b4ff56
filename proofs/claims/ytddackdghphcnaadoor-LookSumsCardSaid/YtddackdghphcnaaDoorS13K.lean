/-
  Layer 13: a map whose keys are looks.
-/
import Derived.Test.YtddackdghphcnaaDoorS13E
import Derived.Test.YtddackdghphcnaaDoorS13CP
import Derived.Maps.OwnSet
import Derived.DeepKeys4
import Derived.ChangeKeys
namespace Go.Proofs.YtddackdghphcnaaDoor.s13
set_option linter.unusedVariables false
set_option linter.unusedSimpArgs false
open Go.RowKit
open kit

theorem laidOut9 : laidOutB Tryd.prog = true := by kernel_rfl
theorem levLook : Tryd.prog.keyTypeAt 3 25 = true := by kernel_rfl
theorem rowLook : (25 : TypeId) < Tryd.prog.types.size := of_decide_eq_true (by kernel_rfl)
theorem wideLook : (match Tryd.prog.underlying 25 with | some (.array _ _) | some (.struct _) => true | _ => false) = true := by rw [Tryd.underlying25]
set_option maxRecDepth 100000 in
set_option maxHeartbeats 1000000 in
theorem lawLook : Maps.Keyed Tryd.prog 25 := Maps.Keyed.of_law (deep_law_laid laidOut9 (m := 3) (by omega) rowLook levLook wideLook)
def inK (x : Int) : Prop := -9223372036854775808 ≤ x ∧ x ≤ 9223372036854775807
theorem wf_int {x : Int} (h : inK x) : (Lit.int .i64 x).wf = true := by
  obtain ⟨h1, h2⟩ := h
  simp [Lit.wf, IntKind.min, IntKind.max, IntKind.signed, IntKind.bits]
  omega
def lits (x : V5) : List Lit := [.int .i64 x.1, .int .i64 x.2.1, .int .i64 x.2.2.1, .int .i64 x.2.2.2.1, .int .i64 x.2.2.2.2]
theorem lits_of (n a b c d : Int) (hn : inK n) (ha : inK a) (hb : inK b) (hc : inK c) (hd : inK d) (D : Nat) : Tryd.prog.keyLits (D + 3) 25 [.int .i64 n, .int .i64 a, .int .i64 b, .int .i64 c, .int .i64 d] = some (lits (n, a, b, c, d)) := by
  have one : ∀ (E : Nat) (x : Int), inK x → Tryd.prog.keyLits (E + 1) 3 [.int .i64 x] = some [.int .i64 x] := fun E x hx => by
    unfold Program.keyLits
    rw [Tryd.underlying3]
    simp [wf_int hx]
  have c3 : Tryd.prog.cellsOf 3 = 1 := by kernel_rfl
  have c23 : Tryd.prog.cellsOf 23 = 4 := by kernel_rfl
  have c25 : Tryd.prog.cellsOf 25 = 5 := by kernel_rfl
  have arr : Tryd.prog.keyLits (D + 2) 23 [.int .i64 a, .int .i64 b, .int .i64 c, .int .i64 d] = some [.int .i64 a, .int .i64 b, .int .i64 c, .int .i64 d] := by
    unfold Program.keyLits
    rw [Tryd.underlying23]
    simp only [c3, c23, Nat.mul_one]
    show (if _ then Option.map List.flatten ([0, 1, 2, 3].mapM _) else none) = _
    simp [one D a ha, one D b hb, one D c hc, one D d hd]
  unfold Program.keyLits
  rw [Tryd.underlying25]
  simp [c3, c23, c25, one (D + 1) n hn, arr, lits]
def kL (x : V5) : Lit := .string (keyBytes (lits x))
theorem types_size : ∃ D, Tryd.prog.types.size + 1 = D + 3 := ⟨Tryd.prog.types.size - 2, by have : (2 : Nat) < Tryd.prog.types.size := of_decide_eq_true (by kernel_rfl); omega⟩
def inV (x : V5) : Prop := inK x.1 ∧ inK x.2.1 ∧ inK x.2.2.1 ∧ inK x.2.2.2.1 ∧ inK x.2.2.2.2
set_option maxRecDepth 100000 in
set_option maxHeartbeats 1000000 in
theorem key_of (n a b c d : Int) (h : inV (n, a, b, c, d)) : keyOf Tryd.prog 25 (.agg #[.int .i64 n, .int .i64 a, .int .i64 b, .int .i64 c, .int .i64 d]) = some (kL (n, a, b, c, d)) := by
  obtain ⟨D, hD⟩ := types_size
  have h1 : Tryd.prog.keyType 25 = true := by kernel_rfl
  have h2 : (.agg #[.int .i64 n, .int .i64 a, .int .i64 b, .int .i64 c, .int .i64 d] : Value).formed Tryd.prog 25 = true := by kernel_rfl
  unfold keyOf
  rw [Tryd.underlying25]
  simp only [h1, h2, Bool.and_self, if_true]
  rw [hD, show (.agg #[.int .i64 n, .int .i64 a, .int .i64 b, .int .i64 c, .int .i64 d] : Value).cells.toList = [.int .i64 n, .int .i64 a, .int .i64 b, .int .i64 c, .int .i64 d] from rfl, lits_of n a b c d h.1 h.2.1 h.2.2.1 h.2.2.2.1 h.2.2.2.2]
  rfl
theorem kL_inj {x y : V5} (hx : inV x) (hy : inV y) (h : kL x = kL y) : x = y := by
  obtain ⟨n, a, b, c, d⟩ := x
  obtain ⟨n', a', b', c', d'⟩ := y
  have e := keyLits_inj (lits_of n a b c d hx.1 hx.2.1 hx.2.2.1 hx.2.2.2.1 hx.2.2.2.2 0) (lits_of n' a' b' c' d' hy.1 hy.2.1 hy.2.2.1 hy.2.2.2.1 hy.2.2.2.2 0) (by unfold kL at h; simpa using h)
  simp only [lits, List.cons.injEq, Lit.int.injEq, true_and, and_true] at e
  obtain ⟨rfl, rfl, rfl, rfl, rfl⟩ := e
  rfl
theorem kL_key (x : V5) : WideAt.IsKeyLit (kL x) := by unfold kL; trivial
theorem zeroBool (w : World) : (zeroValue 4).run Tryd.prog w = .ok (.bool false) w := by kernel_rfl
/-- a map of looks that are in it -/
def MapB (w : World) (g k : Nat) (q : V5 → Bool) : Prop := ∃ D : DataW Unit, w.ownsMap Tryd.prog 25 (plainElem Tryd.prog 4) g k D ∧ ∀ x, inV x → D.atKey (kL x) (.lit (.bool false)) = .lit (.bool (q x))
theorem MapB.new (w : World) : MapB (w.alloc (.map #[] 0)) w.heap.size 0 (fun _ => false) := ⟨_, World.ownsMap_made w _ _ _, fun x _ => rfl⟩
theorem MapB.below {w w1 : World} {g k : Nat} {q : V5 → Bool} (h : MapB w g k q) (hB : Below w.heap.size w w1) : MapB w1 g k q := by
  obtain ⟨D, h1, h2⟩ := h
  exact ⟨D, h1.kept (row := none) ⟨hB.os, hB.tape, hB.output, hB.size, fun i hi _ => hB.block i hi⟩ (by simp), h2⟩
theorem MapB.lt {w : World} {g k : Nat} {q : V5 → Bool} (h : MapB w g k q) : g < w.heap.size := by obtain ⟨D, h1, h2⟩ := h; exact h1.lt
theorem MapB.step {D : DataW Unit} {q : V5 → Bool} (hm : Maps.IsMap D) (h : ∀ x, inV x → D.atKey (kL x) (.lit (.bool false)) = .lit (.bool (q x))) {y : V5} (hy : inV y) :
    ∀ x, inV x → (D.put (kL y) (.lit (.bool true))).atKey (kL x) (.lit (.bool false)) = .lit (.bool (q x || decide (x = y))) := by
  intro x hx
  by_cases e : x = y
  · subst e
    rw [Maps.atKey_put_same hm (kL_key x)]; simp
  · rw [Maps.atKey_put_other (fun h => e (kL_inj hx hy h)), h x hx]; simp [e]
set_option maxRecDepth 100000 in
set_option maxHeartbeats 1000000 in
theorem MapB.look {w : World} {g k : Nat} {q : V5 → Bool} (h : MapB w g k q) (n a b c d : Int) (hx : inV (n, a, b, c, d)) : (Instr.lookup 74 (.map (some g)) (.agg #[.int .i64 n, .int .i64 a, .int .i64 b, .int .i64 c, .int .i64 d]) false).run Tryd.prog w = .ok (.bool (q (n, a, b, c, d))) w := by
  obtain ⟨D, h1, h2⟩ := h
  obtain ⟨v, ps, hr, hv⟩ := h1.lookup lawLook Tryd.underlying74 (zeroBool w) (plainElem_bool Tryd.underlying4 false) (key_of n a b c d hx)
  rw [h2 _ hx] at hv
  unfold plainElem at hv
  rw [Tryd.underlying4] at hv
  cases v <;> simp at hv
  obtain ⟨e, _⟩ := hv
  rw [hr, e]
end Go.Proofs.YtddackdghphcnaaDoor.s13
