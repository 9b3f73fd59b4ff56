/-
  Layer 13: the program's Cut and List.
-/
import Derived.Test.YtddackdghphcnaaDoorS13F
namespace Go.Proofs.YtddackdghphcnaaDoor.s13
set_option linter.unusedVariables false
set_option linter.unusedSimpArgs false
open Go.RowKit
open kit

set_option maxRecDepth 100000 in
set_option maxHeartbeats 2000000 in
theorem pcut_bad (n a b c d k r : Int) (w : World) (HR : Hid (chkP n a b c d 8 = r)) (hr : (r != 0) = true) : Calls Tryd.prog 23 #[.agg #[.int .i64 n, .int .i64 a, .int .i64 b, .int .i64 c, .int .i64 d], .int .i64 k] w fun e w' => e = .returned (LE no5 r) ∧ Below w.heap.size w w' := by
  go_enter Tryd.func23, Tryd.ntmps23
  go_wp2_with (go_at_call 46; refine (checkall_one n a b c d r _ _ (new3 _ _ _ _ _) HR).mono ?_; rintro e w1 ⟨rfl, hB⟩; obtain ⟨X1, Y1, _, hB1⟩ := made3 hB; have B1 := Lib.hid hB1; have Y1 := Lib.hid Y1; clear hB hB1 X1; obtain ⟨v0, v1, v2, v3, v4⟩ := Y1.out.cell5; obtain ⟨g0, g1, g2, g3, g4⟩ := Y1.out.free5)
  obtain ⟨z0, z1, z2, z3, z4⟩ := (Y1.out.put5 (.int .i64 0) (.int .i64 0) (.int .i64 0) (.int .i64 0) (.int .i64 0)).cell5
  exact bodyPost_ret (v := .tuple #[.agg #[.int .i64 0, .int .i64 0, .int .i64 0, .int .i64 0, .int .i64 0], .int .i64 r]) (by simp [results, Tryd.results23, go_sem, z0, z1, z2, z3, z4]) rfl ⟨rfl, below_put5 B1.out (by omega) _ _ _ _ _⟩
set_option maxRecDepth 100000 in
set_option maxHeartbeats 2000000 in
theorem pcut_range (n a b c d k : Int) (w : World) (HR : Hid (chkP n a b c d 8 = 0)) (hk : k < 0 ∨ 4 < k) : Calls Tryd.prog 23 #[.agg #[.int .i64 n, .int .i64 a, .int .i64 b, .int .i64 c, .int .i64 d], .int .i64 k] w fun e w' => e = .returned (LE no5 2) ∧ Below w.heap.size w w' := by
  have HK := Lib.hid hk
  clear hk
  go_enter Tryd.func23, Tryd.ntmps23
  go_wp2_with (first
    | (go_at_call 46; refine (checkall_one n a b c d 0 _ _ (new3 _ _ _ _ _) HR).mono ?_; rintro e w1 ⟨rfl, hB⟩; obtain ⟨X1, Y1, _, hB1⟩ := made3 hB; have B1 := Lib.hid hB1; have Y1 := Lib.hid Y1; clear hB hB1 X1; obtain ⟨v0, v1, v2, v3, v4⟩ := Y1.out.cell5; obtain ⟨g0, g1, g2, g3, g4⟩ := Y1.out.free5)
    | (go_at_call 51; refine (islen_no k _ HK.out).mono ?_; rintro e w2 ⟨rfl, rfl⟩))
  obtain ⟨z0, z1, z2, z3, z4⟩ := (Y1.out.put5 (.int .i64 0) (.int .i64 0) (.int .i64 0) (.int .i64 0) (.int .i64 0)).cell5
  exact bodyPost_ret (v := .tuple #[.agg #[.int .i64 0, .int .i64 0, .int .i64 0, .int .i64 0, .int .i64 0], .int .i64 2]) (by simp [results, Tryd.results23, go_sem, z0, z1, z2, z3, z4]) rfl ⟨rfl, below_put5 B1.out (by omega) _ _ _ _ _⟩
set_option maxRecDepth 100000 in
set_option maxHeartbeats 2000000 in
theorem pcut_ok (N k : Nat) (a b c d : Int) (w : World) (HR : Hid (chkP N a b c d 8 = 0)) (hN : N ≤ 4) (hk : k ≤ 4) (m : Nat) (a' b' c' d' : Int) (H : Hid (cutP N k a b c d = (m, a', b', c', d'))) :
    Calls Tryd.prog 23 #[.agg #[.int .i64 N, .int .i64 a, .int .i64 b, .int .i64 c, .int .i64 d], .int .i64 k] w fun e w' => e = .returned (LE (m, a', b', c', d') 0) ∧ Below w.heap.size w w' := by
  have k1 : (0 : Int) ≤ k := by omega
  have k2 : (k : Int) ≤ 4 := by omega
  go_enter Tryd.func23, Tryd.ntmps23
  go_wp2_with (first
    | (go_at_call 46; refine (checkall_one N a b c d 0 _ _ (new3 _ _ _ _ _) HR).mono ?_; rintro e w1 ⟨rfl, hB⟩; obtain ⟨X1, Y1, _, hB1⟩ := made3 hB; have B1 := Lib.hid hB1; have Y1 := Lib.hid Y1; clear hB hB1; obtain ⟨x0, x1, x2, x3, x4⟩ := X1.cell5; clear X1)
    | (go_at_call 51; refine (islen_yes k _ k1 k2).mono ?_; rintro e w2 ⟨rfl, rfl⟩)
    | (go_at_call 52; refine (cut_any N k a b c d _ (by omega) m a' b' c' d' H).mono ?_; rintro e w3 ⟨rfl, hB⟩; have B3 := Lib.hid (below_on B1.out (Nat.le_refl _) hB); have Y3 := Lib.hid (Y1.out.below hB); clear hB; obtain ⟨v0, v1, v2, v3, v4⟩ := Y3.out.cell5; obtain ⟨g0, g1, g2, g3, g4⟩ := Y3.out.free5))
  obtain ⟨z0, z1, z2, z3, z4⟩ := (Y3.out.put5 (.int .i64 m) (.int .i64 a') (.int .i64 b') (.int .i64 c') (.int .i64 d')).cell5
  exact bodyPost_ret (v := .tuple #[.agg #[.int .i64 m, .int .i64 a', .int .i64 b', .int .i64 c', .int .i64 d'], .int .i64 0]) (by simp [results, Tryd.results23, go_sem, z0, z1, z2, z3, z4]) rfl ⟨rfl, below_put5 B3.out (by omega) _ _ _ _ _⟩
end Go.Proofs.YtddackdghphcnaaDoor.s13
