/-
  Layer 13: looks that are compared.
-/
import Derived.Test.YtddackdghphcnaaDoorS13A
import Derived.ChangeKeysEq
import Derived.Laws.StructEq
namespace Go.Proofs.YtddackdghphcnaaDoor.s13
set_option linter.unusedVariables false
set_option linter.unusedSimpArgs false
open Go.RowKit
open kit

theorem info_int : ∃ i, Tryd.prog.info? 3 = some i := info_of_underlying Tryd.underlying3
theorem cells_int : Tryd.prog.cellsOf 3 = 1 := by kernel_rfl
theorem eq_item (D i : Nat) (is : List Nat) (xs ys : Array Value) (x y : Int) (w : World) (hx : xs[i]? = some (.int .i64 x)) (hy : ys[i]? = some (.int .i64 y)) :
    (Op.eqItems (D + 1) 3 1 xs ys (i :: is)).run Tryd.prog w = if x = y then (Op.eqItems (D + 1) 3 1 xs ys is).run Tryd.prog w else .ok false w := by
  have hp : Tryd.prog.plainKey 3 = true := by kernel_rfl
  have p1 := run_part_plain (P := Tryd.prog) w hp (xs := xs) (off := i * 1) (by rw [Nat.mul_one]; exact hx)
  have p2 := run_part_plain (P := Tryd.prog) w hp (xs := ys) (off := i * 1) (by rw [Nat.mul_one]; exact hy)
  have p3 := run_equalIn_int (P := Tryd.prog) w D 3 .i64 .i64 x y Tryd.underlying3
  simp only [Op.eqItems, Sem.run_bind, p1, p2, p3, Result.andThen_ok]
  by_cases e : x = y
  · rw [if_pos e, beq_iff_eq.2 e]; simp
  · rw [if_neg e, beq_eq_false_iff_ne.2 e]; simp
theorem eq_arr (D : Nat) (a b c d a' b' c' d' : Int) (w : World) : (Op.equalIn (D + 2) 23 (.agg #[.int .i64 a, .int .i64 b, .int .i64 c, .int .i64 d]) (.agg #[.int .i64 a', .int .i64 b', .int .i64 c', .int .i64 d'])).run Tryd.prog w = .ok (decide (a = a' ∧ b = b' ∧ c = c' ∧ d = d')) w := by
  obtain ⟨i, hi⟩ := info_int
  rw [run_equalIn_array (P := Tryd.prog) w (D + 1) _ _ Tryd.underlying23 hi, cells_int]
  show (Op.eqItems (D + 1) 3 1 _ _ [0, 1, 2, 3]).run Tryd.prog w = _
  rw [eq_item D 0 _ _ _ a a' w rfl rfl, eq_item D 1 _ _ _ b b' w rfl rfl, eq_item D 2 _ _ _ c c' w rfl rfl, eq_item D 3 _ _ _ d d' w rfl rfl]
  by_cases h0 : a = a'
  · by_cases h1 : b = b'
    · by_cases h2 : c = c'
      · by_cases h3 : d = d'
        · rw [if_pos h0, if_pos h1, if_pos h2, if_pos h3, decide_eq_true ⟨h0, h1, h2, h3⟩]; simp [Op.eqItems]
        · rw [if_pos h0, if_pos h1, if_pos h2, if_neg h3, decide_eq_false (fun h => h3 h.2.2.2)]
      · rw [if_pos h0, if_pos h1, if_neg h2, decide_eq_false (fun h => h2 h.2.2.1)]
    · rw [if_pos h0, if_neg h1, decide_eq_false (fun h => h1 h.2.1)]
  · rw [if_neg h0, decide_eq_false (fun h => h0 h.1)]
theorem look_fields : Tryd.prog.fieldsOf 25 = Tryd.prog.fieldsOf 25 := rfl
theorem look_under : Tryd.prog.underlying 25 = some (.struct (Tryd.prog.fieldsOf 25)) := by kernel_rfl
theorem look_stood : Tryd.prog.stoodInHeld 25 = false := by kernel_rfl
theorem guard_arr (op : BinOp) (x y : Operand) (xs ys : Array Value) (w : World) : (eqGuard op 23 x y (.agg xs) (.agg ys)).run Tryd.prog w = .ok () w := run_eqGuard_agg w op _ x y xs ys (by kernel_rfl)
theorem guard_look (op : BinOp) (x y : Operand) (xs ys : Array Value) (w : World) : (eqGuard op 25 x y (.agg xs) (.agg ys)).run Tryd.prog w = .ok () w := run_eqGuard_agg w op _ x y xs ys (by kernel_rfl)
theorem eq_look (D : Nat) (n a b c d n' a' b' c' d' : Int) (w : World) : (Op.equalIn (D + 3) 25 (.agg #[.int .i64 n, .int .i64 a, .int .i64 b, .int .i64 c, .int .i64 d]) (.agg #[.int .i64 n', .int .i64 a', .int .i64 b', .int .i64 c', .int .i64 d'])).run Tryd.prog w = .ok (decide (n = n' ∧ a = a' ∧ b = b' ∧ c = c' ∧ d = d')) w := by
  rw [run_equalIn_struct (P := Tryd.prog) w (D + 2) 25 _ _ look_under look_stood]
  unfold Program.fieldsOf
  rw [Tryd.underlying25]
  have p1 : ∀ x y z u v : Value, (part 3 #[x, y, z, u, v] 0).run Tryd.prog w = .ok x w := fun x y z u v => run_part_plain (P := Tryd.prog) w (by kernel_rfl) (by rfl)
  have p2 : ∀ x y z u v : Value, (part 23 #[x, y, z, u, v] 1).run Tryd.prog w = .ok (.agg #[y, z, u, v]) w := fun x y z u v => by kernel_rfl
  have p3 := run_equalIn_int (P := Tryd.prog) w (D + 1) 3 .i64 .i64 n n' Tryd.underlying3
  have p4 := eq_arr D a b c d a' b' c' d' w
  have n1 : ¬ "N" = "_" := by decide
  have n2 : ¬ "S" = "_" := by decide
  simp only [Op.eqFields, n1, n2, ne_eq, not_false_eq_true, if_true, Sem.run_bind, p1, p2, p3, p4, Result.andThen_ok]
  by_cases h : n = n'
  · rw [beq_iff_eq.2 h]
    by_cases k : a = a' ∧ b = b' ∧ c = c' ∧ d = d'
    · rw [decide_eq_true k] at p4
      rw [decide_eq_true ⟨h, k⟩]
      simp [p2, p4, Op.eqFields]
    · rw [decide_eq_false k] at p4
      rw [decide_eq_false (fun e => k e.2)]
      simp [p2, p4, Op.eqFields]
  · rw [beq_eq_false_iff_ne.2 h]
    simp [h]
theorem eql_arr (a b c d a' b' c' d' : Int) (w : World) : (binOp .eql 23 (.agg #[.int .i64 a, .int .i64 b, .int .i64 c, .int .i64 d]) (.agg #[.int .i64 a', .int .i64 b', .int .i64 c', .int .i64 d'])).run Tryd.prog w = .ok (.bool (decide (a = a' ∧ b = b' ∧ c = c' ∧ d = d'))) w := by
  rw [run_eql_struct, eq_arr 9998]; rfl
theorem neq_arr (a b c d a' b' c' d' : Int) (w : World) : (binOp .neq 23 (.agg #[.int .i64 a, .int .i64 b, .int .i64 c, .int .i64 d]) (.agg #[.int .i64 a', .int .i64 b', .int .i64 c', .int .i64 d'])).run Tryd.prog w = .ok (.bool (!decide (a = a' ∧ b = b' ∧ c = c' ∧ d = d'))) w := by
  rw [run_neq_struct, eq_arr 9998]; rfl
theorem eql_look (n a b c d n' a' b' c' d' : Int) (w : World) : (binOp .eql 25 (.agg #[.int .i64 n, .int .i64 a, .int .i64 b, .int .i64 c, .int .i64 d]) (.agg #[.int .i64 n', .int .i64 a', .int .i64 b', .int .i64 c', .int .i64 d'])).run Tryd.prog w = .ok (.bool (decide (n = n' ∧ a = a' ∧ b = b' ∧ c = c' ∧ d = d'))) w := by
  rw [run_eql_struct, eq_look 9997]; rfl
theorem neq_look (n a b c d n' a' b' c' d' : Int) (w : World) : (binOp .neq 25 (.agg #[.int .i64 n, .int .i64 a, .int .i64 b, .int .i64 c, .int .i64 d]) (.agg #[.int .i64 n', .int .i64 a', .int .i64 b', .int .i64 c', .int .i64 d'])).run Tryd.prog w = .ok (.bool (!decide (n = n' ∧ a = a' ∧ b = b' ∧ c = c' ∧ d = d'))) w := by
  rw [run_neq_struct, eq_look 9997]; rfl
end Go.Proofs.YtddackdghphcnaaDoor.s13
