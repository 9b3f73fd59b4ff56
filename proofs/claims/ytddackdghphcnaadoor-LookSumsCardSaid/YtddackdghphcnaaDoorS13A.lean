/-
  Layer 13: isTerms, isLength, cut.
-/
import Derived.Test.YtddackdghphcnaaDoorS13X
import Derived.Test.YtddackdghphcnaaDoorS13M
namespace Go.Proofs.YtddackdghphcnaaDoor.s13
set_option linter.unusedVariables false
set_option linter.unusedSimpArgs false
open Go.RowKit
open kit

theorem isterms_yes (t : Int) (w : World) (h1 : 1 ≤ t) (h2 : t ≤ 8) : Calls Tryd.prog 50 #[.int .i64 t] w fun e w' => e = .returned (.bool true) ∧ w = w' := by
  go_enter Tryd.func50, Tryd.ntmps50
  go_wp2
  go_ret
  exact ⟨rfl, rfl⟩
theorem isterms_no (t : Int) (w : World) (h : t < 1 ∨ 8 < t) : Calls Tryd.prog 50 #[.int .i64 t] w fun e w' => e = .returned (.bool false) ∧ w = w' := by
  rcases h with h | h
  · go_enter Tryd.func50, Tryd.ntmps50
    go_wp2
    go_ret
    exact ⟨rfl, rfl⟩
  · have h1 : 1 ≤ t := by omega
    have h2 : ¬ t ≤ 8 := by omega
    have h3 : decide (t ≤ 8) = false := decide_eq_false h2
    go_enter Tryd.func50, Tryd.ntmps50
    go_wp2
    go_ret
    exact ⟨rfl, rfl⟩
theorem islen_yes (t : Int) (w : World) (h1 : 0 ≤ t) (h2 : t ≤ 4) : Calls Tryd.prog 51 #[.int .i64 t] w fun e w' => e = .returned (.bool true) ∧ w = w' := by
  go_enter Tryd.func51, Tryd.ntmps51
  go_wp2
  go_ret
  exact ⟨rfl, rfl⟩
theorem islen_no (t : Int) (w : World) (h : t < 0 ∨ 4 < t) : Calls Tryd.prog 51 #[.int .i64 t] w fun e w' => e = .returned (.bool false) ∧ w = w' := by
  rcases h with h | h
  · go_enter Tryd.func51, Tryd.ntmps51
    go_wp2
    go_ret
    exact ⟨rfl, rfl⟩
  · have h1 : 0 ≤ t := by omega
    have h2 : ¬ t ≤ 4 := by omega
    have h3 : decide (t ≤ 4) = false := decide_eq_false h2
    go_enter Tryd.func51, Tryd.ntmps51
    go_wp2
    go_ret
    exact ⟨rfl, rfl⟩
set_option maxRecDepth 100000 in
/-- the world behind the clearing, from place 0 on -/
theorem clear_0 (a b c d : Int) (w : World) : ∃ W, (∀ ty, (Builtin.clear_ #[22] ty #[.slice (some ⟨w.heap.size, 1, none⟩) 4 4]).run Tryd.prog ((w.alloc (.cells #[.int .i64 0, .int .i64 a, .int .i64 b, .int .i64 c, .int .i64 d] 25)).alloc (.cells #[.int .i64 0, .int .i64 0, .int .i64 0, .int .i64 0, .int .i64 0] 25)) = .ok (.tuple #[]) W) ∧
      Box W 25 w.heap.size #[.int .i64 0, .int .i64 0, .int .i64 0, .int .i64 0, .int .i64 0] ∧ Box W 25 (w.heap.size + 1) #[.int .i64 0, .int .i64 0, .int .i64 0, .int .i64 0, .int .i64 0] ∧ Below w.heap.size w W := by
  have X0 := Box.new w 25 #[.int .i64 0, .int .i64 a, .int .i64 b, .int .i64 c, .int .i64 d]
  have X := X0.alloc (.cells #[.int .i64 0, .int .i64 0, .int .i64 0, .int .i64 0, .int .i64 0] 25)
  have Y := Box.new (w.alloc (.cells #[.int .i64 0, .int .i64 a, .int .i64 b, .int .i64 c, .int .i64 d] 25)) 25 #[.int .i64 0, .int .i64 0, .int .i64 0, .int .i64 0, .int .i64 0]
  rw [show (w.alloc (.cells #[.int .i64 0, .int .i64 a, .int .i64 b, .int .i64 c, .int .i64 d] 25)).heap.size = w.heap.size + 1 from Array.size_push ..] at Y
  have B : Below w.heap.size w ((w.alloc (.cells #[.int .i64 0, .int .i64 a, .int .i64 b, .int .i64 c, .int .i64 d] 25)).alloc (.cells #[.int .i64 0, .int .i64 0, .int .i64 0, .int .i64 0, .int .i64 0] 25)) := ((Below.refl _ w).alloc (Nat.le_refl _) _).alloc (by simp) _
  obtain ⟨W, hcl, XW, hO, hBW, hsz⟩ := clear_box 0 (by omega) X
  exact ⟨W, hcl, XW, hO _ _ _ (by omega) Y, hBW _ _ (Nat.le_refl _) B⟩
set_option maxRecDepth 100000 in
set_option maxHeartbeats 1000000 in
theorem cut_n0 (a b c d k : Int) (w : World) (h : 0 ≤ k) : Calls Tryd.prog 52 #[.agg #[.int .i64 0, .int .i64 a, .int .i64 b, .int .i64 c, .int .i64 d], .int .i64 k] w fun e w' => e = .returned (Value.agg #[.int .i64 0, .int .i64 0, .int .i64 0, .int .i64 0, .int .i64 0]) ∧ Below w.heap.size w w' := by
  obtain ⟨W, hcl, XW, YW, hB⟩ := clear_0 a b c d w
  have BW := Lib.hid hB
  have hz := YW.lt
  have Y2 := YW.put5 (.int .i64 0) (.int .i64 0) (.int .i64 0) (.int .i64 0) (.int .i64 0)
  obtain ⟨f0, f1, f2, f3, f4⟩ := YW.free5
  obtain ⟨u0, u1, u2, u3, u4⟩ := YW.cell5
  obtain ⟨x0, x1, x2, x3, x4⟩ := XW.cell5
  have Y3 := Lib.hid Y2.cell5
  clear XW YW Y2 hB
  go_enter Tryd.func52, Tryd.ntmps52
  go_wp2
  obtain ⟨y0, y1, y2, y3, y4⟩ := Y3.out
  exact bodyPost_ret (v := .agg #[.int .i64 0, .int .i64 0, .int .i64 0, .int .i64 0, .int .i64 0]) (by simp [results, Tryd.results52, go_sem, y0, y1, y2, y3, y4]) rfl ⟨rfl, below_put5 BW.out (by omega) _ _ _ _ _⟩
set_option maxRecDepth 100000 in
set_option maxHeartbeats 1000000 in
theorem cut_k0 (N a b c d : Int) (w : World) (h : 0 < N) : Calls Tryd.prog 52 #[.agg #[.int .i64 N, .int .i64 a, .int .i64 b, .int .i64 c, .int .i64 d], .int .i64 0] w fun e w' => e = .returned (Value.agg #[.int .i64 0, .int .i64 0, .int .i64 0, .int .i64 0, .int .i64 0]) ∧ Below w.heap.size w w' := by
  obtain ⟨W, hcl, XW, YW, hB⟩ := clear_0 a b c d w
  have BW := Lib.hid hB
  have hz := YW.lt
  have Y2 := YW.put5 (.int .i64 0) (.int .i64 0) (.int .i64 0) (.int .i64 0) (.int .i64 0)
  obtain ⟨f0, f1, f2, f3, f4⟩ := YW.free5
  obtain ⟨u0, u1, u2, u3, u4⟩ := YW.cell5
  obtain ⟨x0, x1, x2, x3, x4⟩ := XW.cell5
  have Y3 := Lib.hid Y2.cell5
  clear XW YW Y2 hB
  go_enter Tryd.func52, Tryd.ntmps52
  go_wp2
  obtain ⟨y0, y1, y2, y3, y4⟩ := Y3.out
  exact bodyPost_ret (v := .agg #[.int .i64 0, .int .i64 0, .int .i64 0, .int .i64 0, .int .i64 0]) (by simp [results, Tryd.results52, go_sem, y0, y1, y2, y3, y4]) rfl ⟨rfl, below_put5 BW.out (by omega) _ _ _ _ _⟩
set_option maxRecDepth 100000 in
/-- the world behind the clearing, from place 1 on -/
theorem clear_1 (a b c d : Int) (w : World) : ∃ W, (∀ ty, (Builtin.clear_ #[22] ty #[.slice (some ⟨w.heap.size, 2, none⟩) 3 3]).run Tryd.prog ((w.alloc (.cells #[.int .i64 1, .int .i64 a, .int .i64 b, .int .i64 c, .int .i64 d] 25)).alloc (.cells #[.int .i64 0, .int .i64 0, .int .i64 0, .int .i64 0, .int .i64 0] 25)) = .ok (.tuple #[]) W) ∧
      Box W 25 w.heap.size #[.int .i64 1, .int .i64 a, .int .i64 0, .int .i64 0, .int .i64 0] ∧ Box W 25 (w.heap.size + 1) #[.int .i64 0, .int .i64 0, .int .i64 0, .int .i64 0, .int .i64 0] ∧ Below w.heap.size w W := by
  have X0 := Box.new w 25 #[.int .i64 1, .int .i64 a, .int .i64 b, .int .i64 c, .int .i64 d]
  have X := X0.alloc (.cells #[.int .i64 0, .int .i64 0, .int .i64 0, .int .i64 0, .int .i64 0] 25)
  have Y := Box.new (w.alloc (.cells #[.int .i64 1, .int .i64 a, .int .i64 b, .int .i64 c, .int .i64 d] 25)) 25 #[.int .i64 0, .int .i64 0, .int .i64 0, .int .i64 0, .int .i64 0]
  rw [show (w.alloc (.cells #[.int .i64 1, .int .i64 a, .int .i64 b, .int .i64 c, .int .i64 d] 25)).heap.size = w.heap.size + 1 from Array.size_push ..] at Y
  have B : Below w.heap.size w ((w.alloc (.cells #[.int .i64 1, .int .i64 a, .int .i64 b, .int .i64 c, .int .i64 d] 25)).alloc (.cells #[.int .i64 0, .int .i64 0, .int .i64 0, .int .i64 0, .int .i64 0] 25)) := ((Below.refl _ w).alloc (Nat.le_refl _) _).alloc (by simp) _
  obtain ⟨W, hcl, XW, hO, hBW, hsz⟩ := clear_box 1 (by omega) X
  exact ⟨W, hcl, XW, hO _ _ _ (by omega) Y, hBW _ _ (Nat.le_refl _) B⟩
set_option maxRecDepth 100000 in
set_option maxHeartbeats 1000000 in
theorem cut_n1 (a b c d k : Int) (w : World) (h : 1 ≤ k) : Calls Tryd.prog 52 #[.agg #[.int .i64 1, .int .i64 a, .int .i64 b, .int .i64 c, .int .i64 d], .int .i64 k] w fun e w' => e = .returned (Value.agg #[.int .i64 1, .int .i64 a, .int .i64 0, .int .i64 0, .int .i64 0]) ∧ Below w.heap.size w w' := by
  obtain ⟨W, hcl, XW, YW, hB⟩ := clear_1 a b c d w
  have BW := Lib.hid hB
  have hz := YW.lt
  have Y2 := YW.put5 (.int .i64 1) (.int .i64 a) (.int .i64 0) (.int .i64 0) (.int .i64 0)
  obtain ⟨f0, f1, f2, f3, f4⟩ := YW.free5
  obtain ⟨u0, u1, u2, u3, u4⟩ := YW.cell5
  obtain ⟨x0, x1, x2, x3, x4⟩ := XW.cell5
  have Y3 := Lib.hid Y2.cell5
  clear XW YW Y2 hB
  go_enter Tryd.func52, Tryd.ntmps52
  go_wp2
  obtain ⟨y0, y1, y2, y3, y4⟩ := Y3.out
  exact bodyPost_ret (v := .agg #[.int .i64 1, .int .i64 a, .int .i64 0, .int .i64 0, .int .i64 0]) (by simp [results, Tryd.results52, go_sem, y0, y1, y2, y3, y4]) rfl ⟨rfl, below_put5 BW.out (by omega) _ _ _ _ _⟩
set_option maxRecDepth 100000 in
set_option maxHeartbeats 1000000 in
theorem cut_k1 (N a b c d : Int) (w : World) (h : 1 < N) : Calls Tryd.prog 52 #[.agg #[.int .i64 N, .int .i64 a, .int .i64 b, .int .i64 c, .int .i64 d], .int .i64 1] w fun e w' => e = .returned (Value.agg #[.int .i64 1, .int .i64 a, .int .i64 0, .int .i64 0, .int .i64 0]) ∧ Below w.heap.size w w' := by
  obtain ⟨W, hcl, XW, YW, hB⟩ := clear_1 a b c d w
  have BW := Lib.hid hB
  have hz := YW.lt
  have Y2 := YW.put5 (.int .i64 1) (.int .i64 a) (.int .i64 0) (.int .i64 0) (.int .i64 0)
  obtain ⟨f0, f1, f2, f3, f4⟩ := YW.free5
  obtain ⟨u0, u1, u2, u3, u4⟩ := YW.cell5
  obtain ⟨x0, x1, x2, x3, x4⟩ := XW.cell5
  have Y3 := Lib.hid Y2.cell5
  clear XW YW Y2 hB
  go_enter Tryd.func52, Tryd.ntmps52
  go_wp2
  obtain ⟨y0, y1, y2, y3, y4⟩ := Y3.out
  exact bodyPost_ret (v := .agg #[.int .i64 1, .int .i64 a, .int .i64 0, .int .i64 0, .int .i64 0]) (by simp [results, Tryd.results52, go_sem, y0, y1, y2, y3, y4]) rfl ⟨rfl, below_put5 BW.out (by omega) _ _ _ _ _⟩
set_option maxRecDepth 100000 in
/-- the world behind the clearing, from place 2 on -/
theorem clear_2 (a b c d : Int) (w : World) : ∃ W, (∀ ty, (Builtin.clear_ #[22] ty #[.slice (some ⟨w.heap.size, 3, none⟩) 2 2]).run Tryd.prog ((w.alloc (.cells #[.int .i64 2, .int .i64 a, .int .i64 b, .int .i64 c, .int .i64 d] 25)).alloc (.cells #[.int .i64 0, .int .i64 0, .int .i64 0, .int .i64 0, .int .i64 0] 25)) = .ok (.tuple #[]) W) ∧
      Box W 25 w.heap.size #[.int .i64 2, .int .i64 a, .int .i64 b, .int .i64 0, .int .i64 0] ∧ Box W 25 (w.heap.size + 1) #[.int .i64 0, .int .i64 0, .int .i64 0, .int .i64 0, .int .i64 0] ∧ Below w.heap.size w W := by
  have X0 := Box.new w 25 #[.int .i64 2, .int .i64 a, .int .i64 b, .int .i64 c, .int .i64 d]
  have X := X0.alloc (.cells #[.int .i64 0, .int .i64 0, .int .i64 0, .int .i64 0, .int .i64 0] 25)
  have Y := Box.new (w.alloc (.cells #[.int .i64 2, .int .i64 a, .int .i64 b, .int .i64 c, .int .i64 d] 25)) 25 #[.int .i64 0, .int .i64 0, .int .i64 0, .int .i64 0, .int .i64 0]
  rw [show (w.alloc (.cells #[.int .i64 2, .int .i64 a, .int .i64 b, .int .i64 c, .int .i64 d] 25)).heap.size = w.heap.size + 1 from Array.size_push ..] at Y
  have B : Below w.heap.size w ((w.alloc (.cells #[.int .i64 2, .int .i64 a, .int .i64 b, .int .i64 c, .int .i64 d] 25)).alloc (.cells #[.int .i64 0, .int .i64 0, .int .i64 0, .int .i64 0, .int .i64 0] 25)) := ((Below.refl _ w).alloc (Nat.le_refl _) _).alloc (by simp) _
  obtain ⟨W, hcl, XW, hO, hBW, hsz⟩ := clear_box 2 (by omega) X
  exact ⟨W, hcl, XW, hO _ _ _ (by omega) Y, hBW _ _ (Nat.le_refl _) B⟩
set_option maxRecDepth 100000 in
set_option maxHeartbeats 1000000 in
theorem cut_n2 (a b c d k : Int) (w : World) (h : 2 ≤ k) : Calls Tryd.prog 52 #[.agg #[.int .i64 2, .int .i64 a, .int .i64 b, .int .i64 c, .int .i64 d], .int .i64 k] w fun e w' => e = .returned (Value.agg #[.int .i64 2, .int .i64 a, .int .i64 b, .int .i64 0, .int .i64 0]) ∧ Below w.heap.size w w' := by
  obtain ⟨W, hcl, XW, YW, hB⟩ := clear_2 a b c d w
  have BW := Lib.hid hB
  have hz := YW.lt
  have Y2 := YW.put5 (.int .i64 2) (.int .i64 a) (.int .i64 b) (.int .i64 0) (.int .i64 0)
  obtain ⟨f0, f1, f2, f3, f4⟩ := YW.free5
  obtain ⟨u0, u1, u2, u3, u4⟩ := YW.cell5
  obtain ⟨x0, x1, x2, x3, x4⟩ := XW.cell5
  have Y3 := Lib.hid Y2.cell5
  clear XW YW Y2 hB
  go_enter Tryd.func52, Tryd.ntmps52
  go_wp2
  obtain ⟨y0, y1, y2, y3, y4⟩ := Y3.out
  exact bodyPost_ret (v := .agg #[.int .i64 2, .int .i64 a, .int .i64 b, .int .i64 0, .int .i64 0]) (by simp [results, Tryd.results52, go_sem, y0, y1, y2, y3, y4]) rfl ⟨rfl, below_put5 BW.out (by omega) _ _ _ _ _⟩
set_option maxRecDepth 100000 in
set_option maxHeartbeats 1000000 in
theorem cut_k2 (N a b c d : Int) (w : World) (h : 2 < N) : Calls Tryd.prog 52 #[.agg #[.int .i64 N, .int .i64 a, .int .i64 b, .int .i64 c, .int .i64 d], .int .i64 2] w fun e w' => e = .returned (Value.agg #[.int .i64 2, .int .i64 a, .int .i64 b, .int .i64 0, .int .i64 0]) ∧ Below w.heap.size w w' := by
  obtain ⟨W, hcl, XW, YW, hB⟩ := clear_2 a b c d w
  have BW := Lib.hid hB
  have hz := YW.lt
  have Y2 := YW.put5 (.int .i64 2) (.int .i64 a) (.int .i64 b) (.int .i64 0) (.int .i64 0)
  obtain ⟨f0, f1, f2, f3, f4⟩ := YW.free5
  obtain ⟨u0, u1, u2, u3, u4⟩ := YW.cell5
  obtain ⟨x0, x1, x2, x3, x4⟩ := XW.cell5
  have Y3 := Lib.hid Y2.cell5
  clear XW YW Y2 hB
  go_enter Tryd.func52, Tryd.ntmps52
  go_wp2
  obtain ⟨y0, y1, y2, y3, y4⟩ := Y3.out
  exact bodyPost_ret (v := .agg #[.int .i64 2, .int .i64 a, .int .i64 b, .int .i64 0, .int .i64 0]) (by simp [results, Tryd.results52, go_sem, y0, y1, y2, y3, y4]) rfl ⟨rfl, below_put5 BW.out (by omega) _ _ _ _ _⟩
set_option maxRecDepth 100000 in
/-- the world behind the clearing, from place 3 on -/
theorem clear_3 (a b c d : Int) (w : World) : ∃ W, (∀ ty, (Builtin.clear_ #[22] ty #[.slice (some ⟨w.heap.size, 4, none⟩) 1 1]).run Tryd.prog ((w.alloc (.cells #[.int .i64 3, .int .i64 a, .int .i64 b, .int .i64 c, .int .i64 d] 25)).alloc (.cells #[.int .i64 0, .int .i64 0, .int .i64 0, .int .i64 0, .int .i64 0] 25)) = .ok (.tuple #[]) W) ∧
      Box W 25 w.heap.size #[.int .i64 3, .int .i64 a, .int .i64 b, .int .i64 c, .int .i64 0] ∧ Box W 25 (w.heap.size + 1) #[.int .i64 0, .int .i64 0, .int .i64 0, .int .i64 0, .int .i64 0] ∧ Below w.heap.size w W := by
  have X0 := Box.new w 25 #[.int .i64 3, .int .i64 a, .int .i64 b, .int .i64 c, .int .i64 d]
  have X := X0.alloc (.cells #[.int .i64 0, .int .i64 0, .int .i64 0, .int .i64 0, .int .i64 0] 25)
  have Y := Box.new (w.alloc (.cells #[.int .i64 3, .int .i64 a, .int .i64 b, .int .i64 c, .int .i64 d] 25)) 25 #[.int .i64 0, .int .i64 0, .int .i64 0, .int .i64 0, .int .i64 0]
  rw [show (w.alloc (.cells #[.int .i64 3, .int .i64 a, .int .i64 b, .int .i64 c, .int .i64 d] 25)).heap.size = w.heap.size + 1 from Array.size_push ..] at Y
  have B : Below w.heap.size w ((w.alloc (.cells #[.int .i64 3, .int .i64 a, .int .i64 b, .int .i64 c, .int .i64 d] 25)).alloc (.cells #[.int .i64 0, .int .i64 0, .int .i64 0, .int .i64 0, .int .i64 0] 25)) := ((Below.refl _ w).alloc (Nat.le_refl _) _).alloc (by simp) _
  obtain ⟨W, hcl, XW, hO, hBW, hsz⟩ := clear_box 3 (by omega) X
  exact ⟨W, hcl, XW, hO _ _ _ (by omega) Y, hBW _ _ (Nat.le_refl _) B⟩
set_option maxRecDepth 100000 in
set_option maxHeartbeats 1000000 in
theorem cut_n3 (a b c d k : Int) (w : World) (h : 3 ≤ k) : Calls Tryd.prog 52 #[.agg #[.int .i64 3, .int .i64 a, .int .i64 b, .int .i64 c, .int .i64 d], .int .i64 k] w fun e w' => e = .returned (Value.agg #[.int .i64 3, .int .i64 a, .int .i64 b, .int .i64 c, .int .i64 0]) ∧ Below w.heap.size w w' := by
  obtain ⟨W, hcl, XW, YW, hB⟩ := clear_3 a b c d w
  have BW := Lib.hid hB
  have hz := YW.lt
  have Y2 := YW.put5 (.int .i64 3) (.int .i64 a) (.int .i64 b) (.int .i64 c) (.int .i64 0)
  obtain ⟨f0, f1, f2, f3, f4⟩ := YW.free5
  obtain ⟨u0, u1, u2, u3, u4⟩ := YW.cell5
  obtain ⟨x0, x1, x2, x3, x4⟩ := XW.cell5
  have Y3 := Lib.hid Y2.cell5
  clear XW YW Y2 hB
  go_enter Tryd.func52, Tryd.ntmps52
  go_wp2
  obtain ⟨y0, y1, y2, y3, y4⟩ := Y3.out
  exact bodyPost_ret (v := .agg #[.int .i64 3, .int .i64 a, .int .i64 b, .int .i64 c, .int .i64 0]) (by simp [results, Tryd.results52, go_sem, y0, y1, y2, y3, y4]) rfl ⟨rfl, below_put5 BW.out (by omega) _ _ _ _ _⟩
set_option maxRecDepth 100000 in
set_option maxHeartbeats 1000000 in
theorem cut_k3 (N a b c d : Int) (w : World) (h : 3 < N) : Calls Tryd.prog 52 #[.agg #[.int .i64 N, .int .i64 a, .int .i64 b, .int .i64 c, .int .i64 d], .int .i64 3] w fun e w' => e = .returned (Value.agg #[.int .i64 3, .int .i64 a, .int .i64 b, .int .i64 c, .int .i64 0]) ∧ Below w.heap.size w w' := by
  obtain ⟨W, hcl, XW, YW, hB⟩ := clear_3 a b c d w
  have BW := Lib.hid hB
  have hz := YW.lt
  have Y2 := YW.put5 (.int .i64 3) (.int .i64 a) (.int .i64 b) (.int .i64 c) (.int .i64 0)
  obtain ⟨f0, f1, f2, f3, f4⟩ := YW.free5
  obtain ⟨u0, u1, u2, u3, u4⟩ := YW.cell5
  obtain ⟨x0, x1, x2, x3, x4⟩ := XW.cell5
  have Y3 := Lib.hid Y2.cell5
  clear XW YW Y2 hB
  go_enter Tryd.func52, Tryd.ntmps52
  go_wp2
  obtain ⟨y0, y1, y2, y3, y4⟩ := Y3.out
  exact bodyPost_ret (v := .agg #[.int .i64 3, .int .i64 a, .int .i64 b, .int .i64 c, .int .i64 0]) (by simp [results, Tryd.results52, go_sem, y0, y1, y2, y3, y4]) rfl ⟨rfl, below_put5 BW.out (by omega) _ _ _ _ _⟩
set_option maxRecDepth 100000 in
set_option maxHeartbeats 1000000 in
theorem cut_n4 (a b c d k : Int) (w : World) (h : 4 ≤ k) : Calls Tryd.prog 52 #[.agg #[.int .i64 4, .int .i64 a, .int .i64 b, .int .i64 c, .int .i64 d], .int .i64 k] w fun e w' => e = .returned (Value.agg #[.int .i64 4, .int .i64 a, .int .i64 b, .int .i64 c, .int .i64 d]) ∧ Below w.heap.size w w' := by
  have hcl : ∀ W ty a c, (Builtin.clear_ #[22] ty #[.slice a 0 c]).run Tryd.prog W = .ok (.tuple #[]) W := fun W ty a c => by cases a <;> simp [Builtin.clear_, run_underlying Tryd.underlying22]
  go_enter Tryd.func52, Tryd.ntmps52
  go_wp2
  exact bodyPost_ret (v := .agg #[.int .i64 4, .int .i64 a, .int .i64 b, .int .i64 c, .int .i64 d]) (by simp [results, Tryd.results52, go_sem]) rfl ⟨rfl, ((Below.refl _ _).alloc (Nat.le_refl _) _).alloc (by simp) _⟩
set_option maxRecDepth 100000 in
set_option maxHeartbeats 1000000 in
theorem cut_k4 (N a b c d : Int) (w : World) (h : 4 < N) : Calls Tryd.prog 52 #[.agg #[.int .i64 N, .int .i64 a, .int .i64 b, .int .i64 c, .int .i64 d], .int .i64 4] w fun e w' => e = .returned (Value.agg #[.int .i64 4, .int .i64 a, .int .i64 b, .int .i64 c, .int .i64 d]) ∧ Below w.heap.size w w' := by
  have hcl : ∀ W ty a c, (Builtin.clear_ #[22] ty #[.slice a 0 c]).run Tryd.prog W = .ok (.tuple #[]) W := fun W ty a c => by cases a <;> simp [Builtin.clear_, run_underlying Tryd.underlying22]
  go_enter Tryd.func52, Tryd.ntmps52
  go_wp2
  exact bodyPost_ret (v := .agg #[.int .i64 4, .int .i64 a, .int .i64 b, .int .i64 c, .int .i64 d]) (by simp [results, Tryd.results52, go_sem]) rfl ⟨rfl, ((Below.refl _ _).alloc (Nat.le_refl _) _).alloc (by simp) _⟩
/-- what is left of a look -/
def cutP (N k : Nat) (a b c d : Int) : Nat × Int × Int × Int × Int := (min N k, if 0 < min N k then a else 0, if 1 < min N k then b else 0, if 2 < min N k then c else 0, if 3 < min N k then d else 0)
theorem cut_any (N k : Nat) (a b c d : Int) (w : World) (h : min N k ≤ 4) (m : Nat) (a' b' c' d' : Int) (H : Hid (cutP N k a b c d = (m, a', b', c', d'))) :
    Calls Tryd.prog 52 #[.agg #[.int .i64 N, .int .i64 a, .int .i64 b, .int .i64 c, .int .i64 d], .int .i64 k] w fun e w' => e = .returned (Value.agg #[.int .i64 m, .int .i64 a', .int .i64 b', .int .i64 c', .int .i64 d']) ∧ Below w.heap.size w w' := by
  have hh := H.out
  unfold cutP at hh
  by_cases hnk : N ≤ k
  · rw [Nat.min_eq_left hnk] at hh h
    have hm : N = 0 ∨ N = 1 ∨ N = 2 ∨ N = 3 ∨ N = 4 := by omega
    rcases hm with rfl | rfl | rfl | rfl | rfl
    all_goals
      cases hh
      first
        | exact cut_n0 a b c d k w (by omega)
        | exact cut_n1 a b c d k w (by omega)
        | exact cut_n2 a b c d k w (by omega)
        | exact cut_n3 a b c d k w (by omega)
        | exact cut_n4 a b c d k w (by omega)
  · rw [Nat.min_eq_right (by omega)] at hh h
    have hm : k = 0 ∨ k = 1 ∨ k = 2 ∨ k = 3 ∨ k = 4 := by omega
    rcases hm with rfl | rfl | rfl | rfl | rfl
    all_goals
      cases hh
      first
        | exact cut_k0 N a b c d w (by omega)
        | exact cut_k1 N a b c d w (by omega)
        | exact cut_k2 N a b c d w (by omega)
        | exact cut_k3 N a b c d w (by omega)
        | exact cut_k4 N a b c d w (by omega)
theorem cutP_look {l : List Int} {n : Nat} {a b c d : Int} (hl : l.length ≤ 4) (hp : pad l = (n, a, b, c, d)) (k : Nat) : cutP n k a b c d = pad (l.take k) := by
  simp only [pad, Prod.mk.injEq] at hp
  obtain ⟨rfl, rfl, rfl, rfl, rfl⟩ := hp
  have e : ∀ i, (l.take k)[i]?.getD 0 = if i < min l.length k then l[i]?.getD 0 else 0 := fun i => by
    rw [List.getElem?_take]
    by_cases h1 : i < k
    · rw [if_pos h1]
      by_cases h2 : i < l.length
      · rw [if_pos (by omega)]
      · rw [if_neg (by omega), List.getElem?_eq_none (by omega)]; rfl
    · rw [if_neg h1, if_neg (by omega)]; rfl
  unfold cutP pad
  rw [e 0, e 1, e 2, e 3, List.length_take, Nat.min_comm]
end Go.Proofs.YtddackdghphcnaaDoor.s13
