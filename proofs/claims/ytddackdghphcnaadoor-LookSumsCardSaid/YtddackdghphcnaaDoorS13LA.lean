/-
  Layer 13: the laws' of, joins, compares.
-/
import Derived.Test.YtddackdghphcnaaDoorS13D
import Derived.Test.YtddackdghphcnaaDoorS13RD
namespace Go.Proofs.YtddackdghphcnaaDoor.s13
set_option linter.unusedVariables false
set_option linter.unusedSimpArgs false
open Go.RowKit
open kit

set_option maxRecDepth 100000 in
set_option maxHeartbeats 2000000 in
theorem lof_any (a : Option Addr) (cp : Nat) (l : List Int) (w : World) (h2 : l.length ≤ 9223372036854775807) (hr : Hid (ReadsI w a l)) (y0 y1 y2 y3 y4 : Int) (r : Int) (H : Hid (ofP l = ((y0, y1, y2, y3, y4), r))) :
    Calls Tryd.prog 37 #[.slice a l.length cp] w fun e w' => e = .returned (.agg #[.int .i64 y0, .int .i64 y1, .int .i64 y2, .int .i64 y3, .int .i64 y4]) ∧ Below w.heap.size w w' := by
  go_enter Tryd.func37, Tryd.ntmps37
  go_wp2_with (go_at_call 12; refine (of_any a cp l _ h2 (hr.out.below ((Below.refl _ _).alloc (Nat.le_refl _) _)) _ r H).mono ?_; rintro e w1 ⟨rfl, hB⟩; obtain ⟨X1, hB1⟩ := made1 hB; have B1 := Lib.hid hB1; have hlt := X1.lt; obtain ⟨g0, g1, g2, g3, g4⟩ := X1.free5; obtain ⟨v0, v1, v2, v3, v4⟩ := X1.cell5; have X1 := Lib.hid X1; clear hB hB1)
  obtain ⟨z0, z1, z2, z3, z4⟩ := ((X1.out.put5 (.int .i64 y0) (.int .i64 y1) (.int .i64 y2) (.int .i64 y3) (.int .i64 y4)).alloc (.cells #[.int .i64 y0, .int .i64 y1, .int .i64 y2, .int .i64 y3, .int .i64 y4] 25)).cell5
  exact bodyPost_ret (v := .agg #[.int .i64 y0, .int .i64 y1, .int .i64 y2, .int .i64 y3, .int .i64 y4]) (by simp [results, Tryd.results37, go_sem, z0, z1, z2, z3, z4]) rfl ⟨rfl, (below_put5 B1.out (Nat.le_refl _) _ _ _ _ _).alloc (by simpa using Nat.le_of_lt hlt) _⟩
set_option maxRecDepth 100000 in
set_option maxHeartbeats 2000000 in
theorem ljoins_any (k n a b c d n' a' b' c' d' y0 y1 y2 y3 y4 z0 z1 z2 z3 z4 r : Int) (w : World) (H : Hid (joinE k (n, a, b, c, d) (n', a', b', c', d') = ((y0, y1, y2, y3, y4), r))) (hr : r = 0) (v : Bool) (hv : v = decide (y0 = z0 ∧ y1 = z1 ∧ y2 = z2 ∧ y3 = z3 ∧ y4 = z4)) :
    Calls Tryd.prog 38 #[.int .i64 k, .agg #[.int .i64 n, .int .i64 a, .int .i64 b, .int .i64 c, .int .i64 d], .agg #[.int .i64 n', .int .i64 a', .int .i64 b', .int .i64 c', .int .i64 d'], .agg #[.int .i64 z0, .int .i64 z1, .int .i64 z2, .int .i64 z3, .int .i64 z4]] w fun e w' => e = .returned (.bool v) ∧ Below w.heap.size w w' := by
  subst hr
  have zq : ∀ W, (binOp .eql 25 (.agg #[.int .i64 y0, .int .i64 y1, .int .i64 y2, .int .i64 y3, .int .i64 y4]) (.agg #[.int .i64 z0, .int .i64 z1, .int .i64 z2, .int .i64 z3, .int .i64 z4])).run Tryd.prog W = .ok (.bool v) W := fun W => by rw [eql_look, ← hv]
  have zg := guard_look
  clear hv
  go_enter Tryd.func38, Tryd.ntmps38
  go_wp2_with (go_at_call 21; refine (pjoin_any k n a b c d n' a' b' c' d' _ _ 0 H).mono ?_; rintro e w1 ⟨rfl, hB⟩; obtain ⟨X1, Y1, Z1, hB1⟩ := made3 hB; have B1 := Lib.hid hB1; obtain ⟨v0, v1, v2, v3, v4⟩ := Z1.cell5; have hlt := Z1.lt; clear hB hB1 X1 Y1 Z1)
  go_ret
  exact ⟨rfl, B1.out.alloc B1.out.size _⟩
set_option maxRecDepth 100000 in
set_option maxHeartbeats 2000000 in
theorem lcompares_any (n a b c d n' a' b' c' d' : Int) (w : World) (v x r : Int) (hr : r = 0) (H : Hid (cmpE (n, a, b, c, d) (n', a', b', c', d') = (v, r))) :
    Calls Tryd.prog 43 #[.agg #[.int .i64 n, .int .i64 a, .int .i64 b, .int .i64 c, .int .i64 d], .agg #[.int .i64 n', .int .i64 a', .int .i64 b', .int .i64 c', .int .i64 d'], .int .i64 x] w fun e w' => e = .returned (.bool (decide (v = x))) ∧ Below w.heap.size w w' := by
  subst hr
  go_enter Tryd.func43, Tryd.ntmps43
  go_wp2_with (go_at_call 25; refine (pcompare_any n a b c d n' a' b' c' d' _ v 0 H).mono ?_; rintro e w1 ⟨rfl, hB⟩; obtain ⟨X1, Y1, hB1⟩ := made2 hB; have B1 := Lib.hid hB1; clear hB hB1 X1 Y1)
  go_ret
  exact ⟨rfl, B1.out⟩
end Go.Proofs.YtddackdghphcnaaDoor.s13
