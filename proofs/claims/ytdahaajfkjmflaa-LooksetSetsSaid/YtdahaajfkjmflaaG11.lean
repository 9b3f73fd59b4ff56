/-
  The contract of look.cut with the count of draws. The contract of look.Check with the count of draws. The contract of look.checkAll with the count of draws. The contract of look.Compare with the count of draws.
-/
import Derived.Test.YtdahaajfkjmflaaG10
namespace Go.Proofs.Ytdahaajfkjmflaa.s14
set_option linter.unusedVariables false
set_option linter.unusedSimpArgs false
set_option linter.unnecessarySimpa false
open Go.RowKit
open kit s13

/-- as Below, and the draws are not fewer -/
structure BelowD (B : Nat) (w w' : World) : Prop where
  b : Below B w w'
  d : w.drawn ≤ w'.drawn
instance {B : Nat} {w w' : World} : Coe (BelowD B w w') (Below B w w') := ⟨BelowD.b⟩
theorem BelowD.refl (B : Nat) (w : World) : BelowD B w w := ⟨Below.refl B w, Nat.le_refl _⟩
theorem BelowD.alloc {B : Nat} {w w1 : World} (h : BelowD B w w1) (hB : B ≤ w1.heap.size) (o : Obj) : BelowD B w (w1.alloc o) := ⟨h.b.alloc hB o, h.d⟩
theorem BelowD.setCell {B : Nat} {w w1 : World} (h : BelowD B w w1) {p : Addr} (hB : B ≤ p.block) (u : Value) : BelowD B w (w1.setCell p u) := ⟨h.b.setCell hB u, h.d⟩
theorem BelowD.drew {B : Nat} {w w1 : World} (h : BelowD B w w1) : BelowD B w w1.drew := ⟨h.b.drew, Nat.le_succ_of_le h.d⟩
theorem BelowD.trans {B : Nat} {w w1 w2 : World} (h : BelowD B w w1) (k : BelowD B w1 w2) : BelowD B w w2 := ⟨h.b.trans k.b, Nat.le_trans h.d k.d⟩
theorem BelowD.mono {B C : Nat} {w w1 : World} (h : BelowD B w w1) (hC : C ≤ B) : BelowD C w w1 := ⟨h.b.mono hC, h.d⟩
theorem BelowD.size {B : Nat} {w w1 : World} (h : BelowD B w w1) : w.heap.size ≤ w1.heap.size := h.b.size
theorem below_onD {B : Nat} {w w1 w2 : World} (h : BelowD B w w1) (hB : B ≤ w.heap.size) (k : BelowD w1.heap.size w1 w2) : BelowD B w w2 := ⟨below_on h.b hB k.b, Nat.le_trans h.d k.d⟩
theorem below_thenD {w w1 w2 : World} (h : BelowD w.heap.size w w1) (k : BelowD w1.heap.size w1 w2) : BelowD w.heap.size w w2 := below_onD h (Nat.le_refl _) k
theorem below_drewND {B : Nat} {w w1 : World} (h : BelowD B w w1) (n : Nat) : BelowD B w (w1.drewN n) := ⟨below_drewN h.b n, Nat.le_trans h.d (Nat.le_add_right _ _)⟩
theorem below_put5D {B b : Nat} {w w1 : World} (h : BelowD B w w1) (hb : B ≤ b) (u0 u1 u2 u3 u4 : Value) : BelowD B w (((((w1.setCell ⟨b, 0, none⟩ u0).setCell ⟨b, 1, none⟩ u1).setCell ⟨b, 2, none⟩ u2).setCell ⟨b, 3, none⟩ u3).setCell ⟨b, 4, none⟩ u4) := ⟨below_put5 h.b hb u0 u1 u2 u3 u4, h.d⟩
structure LaterD (w : World) where
  W : World
  h : BelowD w.heap.size w W
instance (w : World) : Inhabited (LaterD w) := ⟨⟨w, BelowD.refl _ _⟩⟩
theorem wp_region_laterD {P : Program} {id : Nat} {Q : Exit → Act → World → Prop} {a : Act} {w : World} {l : List Oper} (hm : P.follows .mixedOrders = true) (hB : Region.lexB .any l.toArray = true)
    (h : wpQuiet P l.toArray (fun w' => ∃ p : LaterD w, w' = p.W) (fun a' => ∀ w', (∃ p : LaterD w, w' = p.W) → Q .normal a' w') l a) : (Code.region id l.toArray true).wp P Q a w :=
  wp_region_quiet (C := fun w' => ∃ p : LaterD w, w' = p.W) hm hB ⟨⟨w.drew, (BelowD.refl _ _).drew⟩, rfl⟩ (by simpa using h)
theorem calls_laterD {P : Program} {f : FuncId} {args : Array Value} {w : World} {p : LaterD w} {v : Value}
    (h : Calls P f args p.W fun e w' => e = .returned v ∧ BelowD p.W.heap.size p.W w') : Calls P f args p.W fun e w'' => e = .returned v ∧ ∃ q : LaterD w, w'' = q.W :=
  h.mono fun _ W' ⟨he, hB⟩ => ⟨he, ⟨⟨W', below_thenD p.h hB⟩, rfl⟩⟩
theorem calls_sameD {P : Program} {f : FuncId} {args : Array Value} {w : World} {p : LaterD w} {v : Value}
    (h : Calls P f args p.W fun e w' => e = .returned v ∧ p.W = w') : Calls P f args p.W fun e w'' => e = .returned v ∧ ∃ q : LaterD w, w'' = q.W :=
  h.mono fun _ W' ⟨he, hB⟩ => ⟨he, p, hB.symm⟩
/-- clear, from place m on -/
theorem clear_boxD {w : World} {g : Nat} {x : Value} {a b c d : Int} (m : Nat) (hm : m < 4) (h : Box w 25 g #[x, .int .i64 a, .int .i64 b, .int .i64 c, .int .i64 d]) :
    ∃ W, (∀ ty, (Builtin.clear_ #[47] ty #[.slice (some ⟨g, 1 + m, none⟩) (4 - m) (4 - m)]).run Try.prog w = .ok (.tuple #[]) W) ∧
      Box W 25 g #[x, .int .i64 (if 0 < m then a else 0), .int .i64 (if 1 < m then b else 0), .int .i64 (if 2 < m then c else 0), .int .i64 0] ∧
      (∀ t' g' xs, g' ≠ g → Box w t' g' xs → Box W t' g' xs) ∧ (∀ B w0, B ≤ g → BelowD B w0 w → BelowD B w0 W) ∧ W.heap.size = w.heap.size := by
  have hcl := fun ty => Lib.run_clear_slice (P := Try.prog) w 47 3 ty (.int .i64 0) Try.underlying47 zero_int rfl rfl g (1 + m) (4 - m) (4 - m) (by omega) (fun j hj => by rw [show 1 + m + j = 1 + (m + j) by omega, h.place (m + j) (by omega)]; rfl) (fun j hj => h.free _)
  have hs : ∀ (v : World) (p : Addr) (u : Value), (v.setCell p u).heap.size = v.heap.size := fun v p u => by simp
  have hmm : m = 0 ∨ m = 1 ∨ m = 2 ∨ m = 3 := by omega
  rcases hmm with rfl | rfl | rfl | rfl
  · exact ⟨_, hcl, ((((h.set 1 (by simp) (.int .i64 0)).set 2 (by simp) (.int .i64 0)).set 3 (by simp) (.int .i64 0)).set 4 (by simp) (.int .i64 0)), fun t' g' xs hne hb => (((hb.other hne _).other hne _).other hne _).other hne _, fun B w0 hB hb => (((hb.setCell (p := ⟨g, 1, none⟩) hB _).setCell (p := ⟨g, 2, none⟩) hB _).setCell (p := ⟨g, 3, none⟩) hB _).setCell (p := ⟨g, 4, none⟩) hB _, (hs _ _ _).trans ((hs _ _ _).trans ((hs _ _ _).trans (hs _ _ _)))⟩
  · exact ⟨_, hcl, (((h.set 2 (by simp) (.int .i64 0)).set 3 (by simp) (.int .i64 0)).set 4 (by simp) (.int .i64 0)), fun t' g' xs hne hb => ((hb.other hne _).other hne _).other hne _, fun B w0 hB hb => ((hb.setCell (p := ⟨g, 2, none⟩) hB _).setCell (p := ⟨g, 3, none⟩) hB _).setCell (p := ⟨g, 4, none⟩) hB _, (hs _ _ _).trans ((hs _ _ _).trans (hs _ _ _))⟩
  · exact ⟨_, hcl, ((h.set 3 (by simp) (.int .i64 0)).set 4 (by simp) (.int .i64 0)), fun t' g' xs hne hb => (hb.other hne _).other hne _, fun B w0 hB hb => (hb.setCell (p := ⟨g, 3, none⟩) hB _).setCell (p := ⟨g, 4, none⟩) hB _, (hs _ _ _).trans (hs _ _ _)⟩
  · exact ⟨_, hcl, (h.set 4 (by simp) (.int .i64 0)), fun t' g' xs hne hb => hb.other hne _, fun B w0 hB hb => hb.setCell (p := ⟨g, 4, none⟩) hB _, hs _ _ _⟩
set_option maxRecDepth 100000 in
/-- the world behind the clearing, from place 0 on -/
theorem clear_0D (a b c d : Int) (w : World) : ∃ W, (∀ ty, (Builtin.clear_ #[47] ty #[.slice (some ⟨w.heap.size, 1, none⟩) 4 4]).run Try.prog ((w.alloc (.cells #[.int .i64 0, .int .i64 a, .int .i64 b, .int .i64 c, .int .i64 d] 25)).alloc (.cells #[.int .i64 0, .int .i64 0, .int .i64 0, .int .i64 0, .int .i64 0] 25)) = .ok (.tuple #[]) W) ∧
      Box W 25 w.heap.size #[.int .i64 0, .int .i64 0, .int .i64 0, .int .i64 0, .int .i64 0] ∧ Box W 25 (w.heap.size + 1) #[.int .i64 0, .int .i64 0, .int .i64 0, .int .i64 0, .int .i64 0] ∧ BelowD w.heap.size w W := by
  have X0 := Box.new w 25 #[.int .i64 0, .int .i64 a, .int .i64 b, .int .i64 c, .int .i64 d]
  have X := X0.alloc (.cells #[.int .i64 0, .int .i64 0, .int .i64 0, .int .i64 0, .int .i64 0] 25)
  have Y := Box.new (w.alloc (.cells #[.int .i64 0, .int .i64 a, .int .i64 b, .int .i64 c, .int .i64 d] 25)) 25 #[.int .i64 0, .int .i64 0, .int .i64 0, .int .i64 0, .int .i64 0]
  rw [show (w.alloc (.cells #[.int .i64 0, .int .i64 a, .int .i64 b, .int .i64 c, .int .i64 d] 25)).heap.size = w.heap.size + 1 from Array.size_push ..] at Y
  have B : BelowD w.heap.size w ((w.alloc (.cells #[.int .i64 0, .int .i64 a, .int .i64 b, .int .i64 c, .int .i64 d] 25)).alloc (.cells #[.int .i64 0, .int .i64 0, .int .i64 0, .int .i64 0, .int .i64 0] 25)) := ((BelowD.refl _ w).alloc (Nat.le_refl _) _).alloc (by simp) _
  obtain ⟨W, hcl, XW, hO, hBW, hsz⟩ := clear_boxD 0 (by omega) X
  exact ⟨W, hcl, XW, hO _ _ _ (by omega) Y, hBW _ _ (Nat.le_refl _) B⟩
set_option maxRecDepth 100000 in
set_option maxHeartbeats 1000000 in
theorem cut_n0D (a b c d k : Int) (w : World) (h : 0 ≤ k) : Calls Try.prog 69 #[.agg #[.int .i64 0, .int .i64 a, .int .i64 b, .int .i64 c, .int .i64 d], .int .i64 k] w fun e w' => e = .returned (Value.agg #[.int .i64 0, .int .i64 0, .int .i64 0, .int .i64 0, .int .i64 0]) ∧ BelowD w.heap.size w w' := by
  obtain ⟨W, hcl, XW, YW, hB⟩ := clear_0D a b c d w
  have BW := Lib.hid hB
  have hz := YW.lt
  have Y2 := YW.put5 (.int .i64 0) (.int .i64 0) (.int .i64 0) (.int .i64 0) (.int .i64 0)
  obtain ⟨f0, f1, f2, f3, f4⟩ := YW.free5
  obtain ⟨u0, u1, u2, u3, u4⟩ := YW.cell5
  obtain ⟨x0, x1, x2, x3, x4⟩ := XW.cell5
  have Y3 := Lib.hid Y2.cell5
  clear XW YW Y2 hB
  go_enter Try.func69, Try.ntmps69
  go_wp2
  obtain ⟨y0, y1, y2, y3, y4⟩ := Y3.out
  exact bodyPost_ret (v := .agg #[.int .i64 0, .int .i64 0, .int .i64 0, .int .i64 0, .int .i64 0]) (by simp [results, Try.results69, go_sem, y0, y1, y2, y3, y4]) rfl ⟨rfl, below_put5D BW.out (by omega) _ _ _ _ _⟩
set_option maxRecDepth 100000 in
set_option maxHeartbeats 1000000 in
theorem cut_k0D (N a b c d : Int) (w : World) (h : 0 < N) : Calls Try.prog 69 #[.agg #[.int .i64 N, .int .i64 a, .int .i64 b, .int .i64 c, .int .i64 d], .int .i64 0] w fun e w' => e = .returned (Value.agg #[.int .i64 0, .int .i64 0, .int .i64 0, .int .i64 0, .int .i64 0]) ∧ BelowD w.heap.size w w' := by
  obtain ⟨W, hcl, XW, YW, hB⟩ := clear_0D a b c d w
  have BW := Lib.hid hB
  have hz := YW.lt
  have Y2 := YW.put5 (.int .i64 0) (.int .i64 0) (.int .i64 0) (.int .i64 0) (.int .i64 0)
  obtain ⟨f0, f1, f2, f3, f4⟩ := YW.free5
  obtain ⟨u0, u1, u2, u3, u4⟩ := YW.cell5
  obtain ⟨x0, x1, x2, x3, x4⟩ := XW.cell5
  have Y3 := Lib.hid Y2.cell5
  clear XW YW Y2 hB
  go_enter Try.func69, Try.ntmps69
  go_wp2
  obtain ⟨y0, y1, y2, y3, y4⟩ := Y3.out
  exact bodyPost_ret (v := .agg #[.int .i64 0, .int .i64 0, .int .i64 0, .int .i64 0, .int .i64 0]) (by simp [results, Try.results69, go_sem, y0, y1, y2, y3, y4]) rfl ⟨rfl, below_put5D BW.out (by omega) _ _ _ _ _⟩
set_option maxRecDepth 100000 in
/-- the world behind the clearing, from place 1 on -/
theorem clear_1D (a b c d : Int) (w : World) : ∃ W, (∀ ty, (Builtin.clear_ #[47] ty #[.slice (some ⟨w.heap.size, 2, none⟩) 3 3]).run Try.prog ((w.alloc (.cells #[.int .i64 1, .int .i64 a, .int .i64 b, .int .i64 c, .int .i64 d] 25)).alloc (.cells #[.int .i64 0, .int .i64 0, .int .i64 0, .int .i64 0, .int .i64 0] 25)) = .ok (.tuple #[]) W) ∧
      Box W 25 w.heap.size #[.int .i64 1, .int .i64 a, .int .i64 0, .int .i64 0, .int .i64 0] ∧ Box W 25 (w.heap.size + 1) #[.int .i64 0, .int .i64 0, .int .i64 0, .int .i64 0, .int .i64 0] ∧ BelowD w.heap.size w W := by
  have X0 := Box.new w 25 #[.int .i64 1, .int .i64 a, .int .i64 b, .int .i64 c, .int .i64 d]
  have X := X0.alloc (.cells #[.int .i64 0, .int .i64 0, .int .i64 0, .int .i64 0, .int .i64 0] 25)
  have Y := Box.new (w.alloc (.cells #[.int .i64 1, .int .i64 a, .int .i64 b, .int .i64 c, .int .i64 d] 25)) 25 #[.int .i64 0, .int .i64 0, .int .i64 0, .int .i64 0, .int .i64 0]
  rw [show (w.alloc (.cells #[.int .i64 1, .int .i64 a, .int .i64 b, .int .i64 c, .int .i64 d] 25)).heap.size = w.heap.size + 1 from Array.size_push ..] at Y
  have B : BelowD w.heap.size w ((w.alloc (.cells #[.int .i64 1, .int .i64 a, .int .i64 b, .int .i64 c, .int .i64 d] 25)).alloc (.cells #[.int .i64 0, .int .i64 0, .int .i64 0, .int .i64 0, .int .i64 0] 25)) := ((BelowD.refl _ w).alloc (Nat.le_refl _) _).alloc (by simp) _
  obtain ⟨W, hcl, XW, hO, hBW, hsz⟩ := clear_boxD 1 (by omega) X
  exact ⟨W, hcl, XW, hO _ _ _ (by omega) Y, hBW _ _ (Nat.le_refl _) B⟩
set_option maxRecDepth 100000 in
set_option maxHeartbeats 1000000 in
theorem cut_n1D (a b c d k : Int) (w : World) (h : 1 ≤ k) : Calls Try.prog 69 #[.agg #[.int .i64 1, .int .i64 a, .int .i64 b, .int .i64 c, .int .i64 d], .int .i64 k] w fun e w' => e = .returned (Value.agg #[.int .i64 1, .int .i64 a, .int .i64 0, .int .i64 0, .int .i64 0]) ∧ BelowD w.heap.size w w' := by
  obtain ⟨W, hcl, XW, YW, hB⟩ := clear_1D a b c d w
  have BW := Lib.hid hB
  have hz := YW.lt
  have Y2 := YW.put5 (.int .i64 1) (.int .i64 a) (.int .i64 0) (.int .i64 0) (.int .i64 0)
  obtain ⟨f0, f1, f2, f3, f4⟩ := YW.free5
  obtain ⟨u0, u1, u2, u3, u4⟩ := YW.cell5
  obtain ⟨x0, x1, x2, x3, x4⟩ := XW.cell5
  have Y3 := Lib.hid Y2.cell5
  clear XW YW Y2 hB
  go_enter Try.func69, Try.ntmps69
  go_wp2
  obtain ⟨y0, y1, y2, y3, y4⟩ := Y3.out
  exact bodyPost_ret (v := .agg #[.int .i64 1, .int .i64 a, .int .i64 0, .int .i64 0, .int .i64 0]) (by simp [results, Try.results69, go_sem, y0, y1, y2, y3, y4]) rfl ⟨rfl, below_put5D BW.out (by omega) _ _ _ _ _⟩
set_option maxRecDepth 100000 in
set_option maxHeartbeats 1000000 in
theorem cut_k1D (N a b c d : Int) (w : World) (h : 1 < N) : Calls Try.prog 69 #[.agg #[.int .i64 N, .int .i64 a, .int .i64 b, .int .i64 c, .int .i64 d], .int .i64 1] w fun e w' => e = .returned (Value.agg #[.int .i64 1, .int .i64 a, .int .i64 0, .int .i64 0, .int .i64 0]) ∧ BelowD w.heap.size w w' := by
  obtain ⟨W, hcl, XW, YW, hB⟩ := clear_1D a b c d w
  have BW := Lib.hid hB
  have hz := YW.lt
  have Y2 := YW.put5 (.int .i64 1) (.int .i64 a) (.int .i64 0) (.int .i64 0) (.int .i64 0)
  obtain ⟨f0, f1, f2, f3, f4⟩ := YW.free5
  obtain ⟨u0, u1, u2, u3, u4⟩ := YW.cell5
  obtain ⟨x0, x1, x2, x3, x4⟩ := XW.cell5
  have Y3 := Lib.hid Y2.cell5
  clear XW YW Y2 hB
  go_enter Try.func69, Try.ntmps69
  go_wp2
  obtain ⟨y0, y1, y2, y3, y4⟩ := Y3.out
  exact bodyPost_ret (v := .agg #[.int .i64 1, .int .i64 a, .int .i64 0, .int .i64 0, .int .i64 0]) (by simp [results, Try.results69, go_sem, y0, y1, y2, y3, y4]) rfl ⟨rfl, below_put5D BW.out (by omega) _ _ _ _ _⟩
set_option maxRecDepth 100000 in
/-- the world behind the clearing, from place 2 on -/
theorem clear_2D (a b c d : Int) (w : World) : ∃ W, (∀ ty, (Builtin.clear_ #[47] ty #[.slice (some ⟨w.heap.size, 3, none⟩) 2 2]).run Try.prog ((w.alloc (.cells #[.int .i64 2, .int .i64 a, .int .i64 b, .int .i64 c, .int .i64 d] 25)).alloc (.cells #[.int .i64 0, .int .i64 0, .int .i64 0, .int .i64 0, .int .i64 0] 25)) = .ok (.tuple #[]) W) ∧
      Box W 25 w.heap.size #[.int .i64 2, .int .i64 a, .int .i64 b, .int .i64 0, .int .i64 0] ∧ Box W 25 (w.heap.size + 1) #[.int .i64 0, .int .i64 0, .int .i64 0, .int .i64 0, .int .i64 0] ∧ BelowD w.heap.size w W := by
  have X0 := Box.new w 25 #[.int .i64 2, .int .i64 a, .int .i64 b, .int .i64 c, .int .i64 d]
  have X := X0.alloc (.cells #[.int .i64 0, .int .i64 0, .int .i64 0, .int .i64 0, .int .i64 0] 25)
  have Y := Box.new (w.alloc (.cells #[.int .i64 2, .int .i64 a, .int .i64 b, .int .i64 c, .int .i64 d] 25)) 25 #[.int .i64 0, .int .i64 0, .int .i64 0, .int .i64 0, .int .i64 0]
  rw [show (w.alloc (.cells #[.int .i64 2, .int .i64 a, .int .i64 b, .int .i64 c, .int .i64 d] 25)).heap.size = w.heap.size + 1 from Array.size_push ..] at Y
  have B : BelowD w.heap.size w ((w.alloc (.cells #[.int .i64 2, .int .i64 a, .int .i64 b, .int .i64 c, .int .i64 d] 25)).alloc (.cells #[.int .i64 0, .int .i64 0, .int .i64 0, .int .i64 0, .int .i64 0] 25)) := ((BelowD.refl _ w).alloc (Nat.le_refl _) _).alloc (by simp) _
  obtain ⟨W, hcl, XW, hO, hBW, hsz⟩ := clear_boxD 2 (by omega) X
  exact ⟨W, hcl, XW, hO _ _ _ (by omega) Y, hBW _ _ (Nat.le_refl _) B⟩
set_option maxRecDepth 100000 in
set_option maxHeartbeats 1000000 in
theorem cut_n2D (a b c d k : Int) (w : World) (h : 2 ≤ k) : Calls Try.prog 69 #[.agg #[.int .i64 2, .int .i64 a, .int .i64 b, .int .i64 c, .int .i64 d], .int .i64 k] w fun e w' => e = .returned (Value.agg #[.int .i64 2, .int .i64 a, .int .i64 b, .int .i64 0, .int .i64 0]) ∧ BelowD w.heap.size w w' := by
  obtain ⟨W, hcl, XW, YW, hB⟩ := clear_2D a b c d w
  have BW := Lib.hid hB
  have hz := YW.lt
  have Y2 := YW.put5 (.int .i64 2) (.int .i64 a) (.int .i64 b) (.int .i64 0) (.int .i64 0)
  obtain ⟨f0, f1, f2, f3, f4⟩ := YW.free5
  obtain ⟨u0, u1, u2, u3, u4⟩ := YW.cell5
  obtain ⟨x0, x1, x2, x3, x4⟩ := XW.cell5
  have Y3 := Lib.hid Y2.cell5
  clear XW YW Y2 hB
  go_enter Try.func69, Try.ntmps69
  go_wp2
  obtain ⟨y0, y1, y2, y3, y4⟩ := Y3.out
  exact bodyPost_ret (v := .agg #[.int .i64 2, .int .i64 a, .int .i64 b, .int .i64 0, .int .i64 0]) (by simp [results, Try.results69, go_sem, y0, y1, y2, y3, y4]) rfl ⟨rfl, below_put5D BW.out (by omega) _ _ _ _ _⟩
set_option maxRecDepth 100000 in
set_option maxHeartbeats 1000000 in
theorem cut_k2D (N a b c d : Int) (w : World) (h : 2 < N) : Calls Try.prog 69 #[.agg #[.int .i64 N, .int .i64 a, .int .i64 b, .int .i64 c, .int .i64 d], .int .i64 2] w fun e w' => e = .returned (Value.agg #[.int .i64 2, .int .i64 a, .int .i64 b, .int .i64 0, .int .i64 0]) ∧ BelowD w.heap.size w w' := by
  obtain ⟨W, hcl, XW, YW, hB⟩ := clear_2D a b c d w
  have BW := Lib.hid hB
  have hz := YW.lt
  have Y2 := YW.put5 (.int .i64 2) (.int .i64 a) (.int .i64 b) (.int .i64 0) (.int .i64 0)
  obtain ⟨f0, f1, f2, f3, f4⟩ := YW.free5
  obtain ⟨u0, u1, u2, u3, u4⟩ := YW.cell5
  obtain ⟨x0, x1, x2, x3, x4⟩ := XW.cell5
  have Y3 := Lib.hid Y2.cell5
  clear XW YW Y2 hB
  go_enter Try.func69, Try.ntmps69
  go_wp2
  obtain ⟨y0, y1, y2, y3, y4⟩ := Y3.out
  exact bodyPost_ret (v := .agg #[.int .i64 2, .int .i64 a, .int .i64 b, .int .i64 0, .int .i64 0]) (by simp [results, Try.results69, go_sem, y0, y1, y2, y3, y4]) rfl ⟨rfl, below_put5D BW.out (by omega) _ _ _ _ _⟩
set_option maxRecDepth 100000 in
/-- the world behind the clearing, from place 3 on -/
theorem clear_3D (a b c d : Int) (w : World) : ∃ W, (∀ ty, (Builtin.clear_ #[47] ty #[.slice (some ⟨w.heap.size, 4, none⟩) 1 1]).run Try.prog ((w.alloc (.cells #[.int .i64 3, .int .i64 a, .int .i64 b, .int .i64 c, .int .i64 d] 25)).alloc (.cells #[.int .i64 0, .int .i64 0, .int .i64 0, .int .i64 0, .int .i64 0] 25)) = .ok (.tuple #[]) W) ∧
      Box W 25 w.heap.size #[.int .i64 3, .int .i64 a, .int .i64 b, .int .i64 c, .int .i64 0] ∧ Box W 25 (w.heap.size + 1) #[.int .i64 0, .int .i64 0, .int .i64 0, .int .i64 0, .int .i64 0] ∧ BelowD w.heap.size w W := by
  have X0 := Box.new w 25 #[.int .i64 3, .int .i64 a, .int .i64 b, .int .i64 c, .int .i64 d]
  have X := X0.alloc (.cells #[.int .i64 0, .int .i64 0, .int .i64 0, .int .i64 0, .int .i64 0] 25)
  have Y := Box.new (w.alloc (.cells #[.int .i64 3, .int .i64 a, .int .i64 b, .int .i64 c, .int .i64 d] 25)) 25 #[.int .i64 0, .int .i64 0, .int .i64 0, .int .i64 0, .int .i64 0]
  rw [show (w.alloc (.cells #[.int .i64 3, .int .i64 a, .int .i64 b, .int .i64 c, .int .i64 d] 25)).heap.size = w.heap.size + 1 from Array.size_push ..] at Y
  have B : BelowD w.heap.size w ((w.alloc (.cells #[.int .i64 3, .int .i64 a, .int .i64 b, .int .i64 c, .int .i64 d] 25)).alloc (.cells #[.int .i64 0, .int .i64 0, .int .i64 0, .int .i64 0, .int .i64 0] 25)) := ((BelowD.refl _ w).alloc (Nat.le_refl _) _).alloc (by simp) _
  obtain ⟨W, hcl, XW, hO, hBW, hsz⟩ := clear_boxD 3 (by omega) X
  exact ⟨W, hcl, XW, hO _ _ _ (by omega) Y, hBW _ _ (Nat.le_refl _) B⟩
set_option maxRecDepth 100000 in
set_option maxHeartbeats 1000000 in
theorem cut_n3D (a b c d k : Int) (w : World) (h : 3 ≤ k) : Calls Try.prog 69 #[.agg #[.int .i64 3, .int .i64 a, .int .i64 b, .int .i64 c, .int .i64 d], .int .i64 k] w fun e w' => e = .returned (Value.agg #[.int .i64 3, .int .i64 a, .int .i64 b, .int .i64 c, .int .i64 0]) ∧ BelowD w.heap.size w w' := by
  obtain ⟨W, hcl, XW, YW, hB⟩ := clear_3D a b c d w
  have BW := Lib.hid hB
  have hz := YW.lt
  have Y2 := YW.put5 (.int .i64 3) (.int .i64 a) (.int .i64 b) (.int .i64 c) (.int .i64 0)
  obtain ⟨f0, f1, f2, f3, f4⟩ := YW.free5
  obtain ⟨u0, u1, u2, u3, u4⟩ := YW.cell5
  obtain ⟨x0, x1, x2, x3, x4⟩ := XW.cell5
  have Y3 := Lib.hid Y2.cell5
  clear XW YW Y2 hB
  go_enter Try.func69, Try.ntmps69
  go_wp2
  obtain ⟨y0, y1, y2, y3, y4⟩ := Y3.out
  exact bodyPost_ret (v := .agg #[.int .i64 3, .int .i64 a, .int .i64 b, .int .i64 c, .int .i64 0]) (by simp [results, Try.results69, go_sem, y0, y1, y2, y3, y4]) rfl ⟨rfl, below_put5D BW.out (by omega) _ _ _ _ _⟩
set_option maxRecDepth 100000 in
set_option maxHeartbeats 1000000 in
theorem cut_k3D (N a b c d : Int) (w : World) (h : 3 < N) : Calls Try.prog 69 #[.agg #[.int .i64 N, .int .i64 a, .int .i64 b, .int .i64 c, .int .i64 d], .int .i64 3] w fun e w' => e = .returned (Value.agg #[.int .i64 3, .int .i64 a, .int .i64 b, .int .i64 c, .int .i64 0]) ∧ BelowD w.heap.size w w' := by
  obtain ⟨W, hcl, XW, YW, hB⟩ := clear_3D a b c d w
  have BW := Lib.hid hB
  have hz := YW.lt
  have Y2 := YW.put5 (.int .i64 3) (.int .i64 a) (.int .i64 b) (.int .i64 c) (.int .i64 0)
  obtain ⟨f0, f1, f2, f3, f4⟩ := YW.free5
  obtain ⟨u0, u1, u2, u3, u4⟩ := YW.cell5
  obtain ⟨x0, x1, x2, x3, x4⟩ := XW.cell5
  have Y3 := Lib.hid Y2.cell5
  clear XW YW Y2 hB
  go_enter Try.func69, Try.ntmps69
  go_wp2
  obtain ⟨y0, y1, y2, y3, y4⟩ := Y3.out
  exact bodyPost_ret (v := .agg #[.int .i64 3, .int .i64 a, .int .i64 b, .int .i64 c, .int .i64 0]) (by simp [results, Try.results69, go_sem, y0, y1, y2, y3, y4]) rfl ⟨rfl, below_put5D BW.out (by omega) _ _ _ _ _⟩
set_option maxRecDepth 100000 in
set_option maxHeartbeats 1000000 in
theorem cut_n4D (a b c d k : Int) (w : World) (h : 4 ≤ k) : Calls Try.prog 69 #[.agg #[.int .i64 4, .int .i64 a, .int .i64 b, .int .i64 c, .int .i64 d], .int .i64 k] w fun e w' => e = .returned (Value.agg #[.int .i64 4, .int .i64 a, .int .i64 b, .int .i64 c, .int .i64 d]) ∧ BelowD w.heap.size w w' := by
  have hcl : ∀ W ty a c, (Builtin.clear_ #[47] ty #[.slice a 0 c]).run Try.prog W = .ok (.tuple #[]) W := fun W ty a c => by cases a <;> simp [Builtin.clear_, run_underlying Try.underlying47]
  go_enter Try.func69, Try.ntmps69
  go_wp2
  exact bodyPost_ret (v := .agg #[.int .i64 4, .int .i64 a, .int .i64 b, .int .i64 c, .int .i64 d]) (by simp [results, Try.results69, go_sem]) rfl ⟨rfl, ((BelowD.refl _ _).alloc (Nat.le_refl _) _).alloc (by simp) _⟩
set_option maxRecDepth 100000 in
set_option maxHeartbeats 1000000 in
theorem cut_k4D (N a b c d : Int) (w : World) (h : 4 < N) : Calls Try.prog 69 #[.agg #[.int .i64 N, .int .i64 a, .int .i64 b, .int .i64 c, .int .i64 d], .int .i64 4] w fun e w' => e = .returned (Value.agg #[.int .i64 4, .int .i64 a, .int .i64 b, .int .i64 c, .int .i64 d]) ∧ BelowD w.heap.size w w' := by
  have hcl : ∀ W ty a c, (Builtin.clear_ #[47] ty #[.slice a 0 c]).run Try.prog W = .ok (.tuple #[]) W := fun W ty a c => by cases a <;> simp [Builtin.clear_, run_underlying Try.underlying47]
  go_enter Try.func69, Try.ntmps69
  go_wp2
  exact bodyPost_ret (v := .agg #[.int .i64 4, .int .i64 a, .int .i64 b, .int .i64 c, .int .i64 d]) (by simp [results, Try.results69, go_sem]) rfl ⟨rfl, ((BelowD.refl _ _).alloc (Nat.le_refl _) _).alloc (by simp) _⟩
theorem cut_anyD (N k : Nat) (a b c d : Int) (w : World) (h : min N k ≤ 4) (m : Nat) (a' b' c' d' : Int) (H : Hid (cutP N k a b c d = (m, a', b', c', d'))) :
    Calls Try.prog 69 #[.agg #[.int .i64 N, .int .i64 a, .int .i64 b, .int .i64 c, .int .i64 d], .int .i64 k] w fun e w' => e = .returned (Value.agg #[.int .i64 m, .int .i64 a', .int .i64 b', .int .i64 c', .int .i64 d']) ∧ BelowD w.heap.size w w' := by
  have hh := H.out
  unfold cutP at hh
  by_cases hnk : N ≤ k
  · rw [Nat.min_eq_left hnk] at hh h
    have hm : N = 0 ∨ N = 1 ∨ N = 2 ∨ N = 3 ∨ N = 4 := by omega
    rcases hm with rfl | rfl | rfl | rfl | rfl
    all_goals
      cases hh
      first
        | exact cut_n0D a b c d k w (by omega)
        | exact cut_n1D a b c d k w (by omega)
        | exact cut_n2D a b c d k w (by omega)
        | exact cut_n3D a b c d k w (by omega)
        | exact cut_n4D a b c d k w (by omega)
  · rw [Nat.min_eq_right (by omega)] at hh h
    have hm : k = 0 ∨ k = 1 ∨ k = 2 ∨ k = 3 ∨ k = 4 := by omega
    rcases hm with rfl | rfl | rfl | rfl | rfl
    all_goals
      cases hh
      first
        | exact cut_k0D N a b c d w (by omega)
        | exact cut_k1D N a b c d w (by omega)
        | exact cut_k2D N a b c d w (by omega)
        | exact cut_k3D N a b c d w (by omega)
        | exact cut_k4D N a b c d w (by omega)
end Go.Proofs.Ytdahaajfkjmflaa.s14

namespace Go.Proofs.Ytdahaajfkjmflaa.s14
set_option linter.unusedVariables false
set_option linter.unusedSimpArgs false
set_option linter.unnecessarySimpa false
open Go.RowKit
open kit s13

theorem later_cellsD {W : World} {t : TypeId} {g : Nat} {x0 x1 x2 x3 x4 : Value} (X : Box W t g #[x0, x1, x2, x3, x4]) (p : LaterD W) : p.W.cell? ⟨g, 0, none⟩ = some x0 ∧ p.W.cell? ⟨g, 1, none⟩ = some x1 ∧ p.W.cell? ⟨g, 2, none⟩ = some x2 ∧ p.W.cell? ⟨g, 3, none⟩ = some x3 ∧ p.W.cell? ⟨g, 4, none⟩ = some x4 :=
  (X.below p.h).cell5
set_option maxRecDepth 100000 in
set_option maxHeartbeats 1000000 in
theorem check_termsD (n a b c d t : Int) (w : World) (h : t < 1 ∨ 8 < t) : Calls Try.prog 41 #[.agg #[.int .i64 n, .int .i64 a, .int .i64 b, .int .i64 c, .int .i64 d], .int .i64 t] w fun e w' => e = .returned (.int .i64 2) ∧ BelowD w.heap.size w w' := by
  go_enter Try.func41, Try.ntmps41
  go_wp2_with (go_at_call 67; refine (s13.isterms_no t _ h).mono ?_; rintro e w1 ⟨rfl, rfl⟩)
  go_ret
  exact ⟨rfl, (BelowD.refl _ _).alloc (Nat.le_refl _) _⟩
set_option maxRecDepth 100000 in
set_option maxHeartbeats 1000000 in
theorem check_lengthD (n a b c d t : Int) (w : World) (h1 : 1 ≤ t) (h2 : t ≤ 8) (h : n < 0 ∨ 4 < n) : Calls Try.prog 41 #[.agg #[.int .i64 n, .int .i64 a, .int .i64 b, .int .i64 c, .int .i64 d], .int .i64 t] w fun e w' => e = .returned (.int .i64 3) ∧ BelowD w.heap.size w w' := by
  go_enter Try.func41, Try.ntmps41
  go_wp2_with (go_at_call 67; refine (s13.isterms_yes t _ h1 h2).mono ?_; rintro e w1 ⟨rfl, rfl⟩)
  have X := Box.new w 25 #[.int .i64 n, .int .i64 a, .int .i64 b, .int .i64 c, .int .i64 d]
  have B := Lib.hid ((BelowD.refl w.heap.size w).alloc (Nat.le_refl _) (.cells #[.int .i64 n, .int .i64 a, .int .i64 b, .int .i64 c, .int .i64 d] 25))
  generalize w.alloc (.cells #[.int .i64 n, .int .i64 a, .int .i64 b, .int .i64 c, .int .i64 d] 25) = W at X B ⊢
  have z0 : ∀ p : LaterD W, p.W.cell? ⟨w.heap.size, 0, none⟩ = some (.int .i64 n) := fun p => (later_cellsD X p).1
  clear X
  refine wp_region_laterD (by kernel_rfl) (by kernel_rfl) ?_
  repeat (go_big_quiet_step ((go_at_call 68; exact calls_sameD (s13.islen_no n _ h))))
  refine wpQuiet_nil ?_
  rintro w5 ⟨p5, rfl⟩
  have B5 := Lib.hid (below_onD B.out (Nat.le_refl _) p5.h)
  generalize p5.W = w6 at B5 ⊢
  go_wp2
  go_ret
  exact ⟨rfl, B5.out⟩
set_option maxRecDepth 100000 in
set_option maxHeartbeats 2000000 in
theorem check_formD (N : Nat) (a b c d a' b' c' d' t : Int) (w : World) (h1 : 1 ≤ t) (h2 : t ≤ 8) (hN : N ≤ 4) (H : Hid (cutP N N a b c d = (N, a', b', c', d'))) (hne : ¬ (a' = a ∧ b' = b ∧ c' = c ∧ d' = d)) : Calls Try.prog 41 #[.agg #[.int .i64 N, .int .i64 a, .int .i64 b, .int .i64 c, .int .i64 d], .int .i64 t] w fun e w' => e = .returned (.int .i64 3) ∧ BelowD w.heap.size w w' := by
  have n1 : (0 : Int) ≤ N := by omega
  have n2 : (N : Int) ≤ 4 := by omega
  go_enter Try.func41, Try.ntmps41
  go_wp2_with (go_at_call 67; refine (s13.isterms_yes t _ h1 h2).mono ?_; rintro e w1 ⟨rfl, rfl⟩)
  have X := Box.new w 25 #[.int .i64 N, .int .i64 a, .int .i64 b, .int .i64 c, .int .i64 d]
  have B := Lib.hid ((BelowD.refl w.heap.size w).alloc (Nat.le_refl _) (.cells #[.int .i64 N, .int .i64 a, .int .i64 b, .int .i64 c, .int .i64 d] 25))
  generalize w.alloc (.cells #[.int .i64 N, .int .i64 a, .int .i64 b, .int .i64 c, .int .i64 d] 25) = W at X B ⊢
  have z := fun p : LaterD W => later_cellsD X p
  have z0 := fun p : LaterD W => (z p).1
  have z1 := fun p : LaterD W => (z p).2.1
  have z2 := fun p : LaterD W => (z p).2.2.1
  have z3 := fun p : LaterD W => (z p).2.2.2.1
  have z4 := fun p : LaterD W => (z p).2.2.2.2
  have zs := lkS N a' b' c' d'
  have hq : decide (a' = a ∧ b' = b ∧ c' = c ∧ d' = d) = false := decide_eq_false hne
  have zq : ∀ W, (binOp .neq 23 (.agg #[.int .i64 a', .int .i64 b', .int .i64 c', .int .i64 d']) (.agg #[.int .i64 a, .int .i64 b, .int .i64 c, .int .i64 d])).run Try.prog W = .ok (.bool true) W := fun W => by rw [neq_arr, hq]; rfl
  have zg := guard_arr
  clear hq hne
  clear z X
  refine wp_region_laterD (by kernel_rfl) (by kernel_rfl) ?_
  repeat (go_big_quiet_step ((first | (go_at_call 68; exact calls_sameD (s13.islen_yes N _ n1 n2)) | (go_at_call 69; exact calls_laterD (cut_anyD N N a b c d _ (by omega) N a' b' c' d' H)))))
  refine wpQuiet_nil ?_
  rintro w5 ⟨p5, rfl⟩
  have B5 := Lib.hid (below_onD B.out (Nat.le_refl _) p5.h)
  generalize p5.W = w6 at B5 ⊢
  go_wp2
  go_ret
  exact ⟨rfl, B5.out⟩
set_option maxRecDepth 100000 in
set_option maxHeartbeats 2000000 in
theorem check_placesD (N : Nat) (a b c d t r : Int) (w : World) (h1 : 1 ≤ t) (h2 : t ≤ 8) (hN : N ≤ 4) (H : Hid (cutP N N a b c d = (N, a, b, c, d)))
    (hbad : Hid (∀ i, i < N → (pl a b c d i < 0 ∨ t ≤ pl a b c d i) → r = 14)) (hok : Hid ((∀ i, i < N → 0 ≤ pl a b c d i ∧ pl a b c d i < t) → r = 0)) : Calls Try.prog 41 #[.agg #[.int .i64 N, .int .i64 a, .int .i64 b, .int .i64 c, .int .i64 d], .int .i64 t] w fun e w' => e = .returned (.int .i64 r) ∧ BelowD w.heap.size w w' := by
  have n1 : (0 : Int) ≤ N := by omega
  have n2 : (N : Int) ≤ 4 := by omega
  go_enter Try.func41, Try.ntmps41
  go_wp2_with (go_at_call 67; refine (s13.isterms_yes t _ h1 h2).mono ?_; rintro e w1 ⟨rfl, rfl⟩)
  have X := Box.new w 25 #[.int .i64 N, .int .i64 a, .int .i64 b, .int .i64 c, .int .i64 d]
  have B := Lib.hid ((BelowD.refl w.heap.size w).alloc (Nat.le_refl _) (.cells #[.int .i64 N, .int .i64 a, .int .i64 b, .int .i64 c, .int .i64 d] 25))
  generalize w.alloc (.cells #[.int .i64 N, .int .i64 a, .int .i64 b, .int .i64 c, .int .i64 d] 25) = W at X B ⊢
  have z := fun p : LaterD W => later_cellsD X p
  have z0 := fun p : LaterD W => (z p).1
  have z1 := fun p : LaterD W => (z p).2.1
  have z2 := fun p : LaterD W => (z p).2.2.1
  have z3 := fun p : LaterD W => (z p).2.2.2.1
  have z4 := fun p : LaterD W => (z p).2.2.2.2
  have zs := lkS N a b c d
  have zq : ∀ W, (binOp .neq 23 (.agg #[.int .i64 a, .int .i64 b, .int .i64 c, .int .i64 d]) (.agg #[.int .i64 a, .int .i64 b, .int .i64 c, .int .i64 d])).run Try.prog W = .ok (.bool false) W := fun W => by rw [neq_arr]; simp
  have zg := guard_arr
  have HX := Lib.hid X
  clear z X
  refine wp_region_laterD (by kernel_rfl) (by kernel_rfl) ?_
  repeat (go_big_quiet_step ((first | (go_at_call 68; exact calls_sameD (s13.islen_yes N _ n1 n2)) | (go_at_call 69; exact calls_laterD (cut_anyD N N a b c d _ (by omega) N a b c d H)))))
  refine wpQuiet_nil ?_
  rintro w5 ⟨p5, rfl⟩
  have B5 := Lib.hid (below_onD B.out (Nat.le_refl _) p5.h)
  have X5 := HX.out.below p5.h.b
  clear z0 z1 z2 z3 z4 zs zq zg HX
  generalize p5.W = w6 at B5 X5 ⊢
  have y0 := (X5.cell 0)
  simp at y0
  have yp := Lib.hid X5.place
  clear X5
  go_wp2
  go_loop [29] (fun i => ∃ k : Nat, i = .int .i64 k ∧ k ≤ N ∧ Hid (∀ j, j < k → 0 ≤ pl a b c d j ∧ pl a b c d j < t)) (fun i => N - (intOf i).toNat)
  case atStart => exact ⟨0, rfl, by omega, Lib.hid (fun j hj => by omega)⟩
  case round =>
    obtain ⟨k, rfl, hk, HK⟩ := hrel
    by_cases hlt : k < N
    · have hk4 : k < 4 := by omega
      have hc := yp.out k hk4
      have hbk := Lib.hid (hbad.out k hlt)
      have hs := Lib.hid (fun h : 0 ≤ pl a b c d k ∧ pl a b c d k < t => (fun j (hj : j < k + 1) => if e : j = k then e ▸ h else HK.out j (by omega) : ∀ j, j < k + 1 → 0 ≤ pl a b c d j ∧ pl a b c d j < t))
      generalize pl a b c d k = x at hc hbk hs
      by_cases hx : x < 0
      · go_wp2
        go_ret
        exact ⟨ret_int (hbk.out (.inl hx)).symm, B5.out⟩
      · have hx0 : 0 ≤ x := by omega
        clear hx
        by_cases hx : t ≤ x
        · go_wp2
          go_ret
          exact ⟨ret_int (hbk.out (.inr hx)).symm, B5.out⟩
        · have hx1 : x < t := by omega
          have hx2 : decide (t ≤ x) = false := decide_eq_false hx
          clear hx
          go_wp2
          go_round
          case rel => exact ⟨k + 1, by go_num, by omega, Lib.hid (hs.out ⟨hx0, hx1⟩)⟩
          case measure => simp [intOf]; omega
    · obtain rfl : k = N := by omega
      go_wp2
      go_ret
      exact ⟨ret_int (hok.out HK.out).symm, B5.out⟩
end Go.Proofs.Ytdahaajfkjmflaa.s14

namespace Go.Proofs.Ytdahaajfkjmflaa.s14
set_option linter.unusedVariables false
set_option linter.unusedSimpArgs false
set_option linter.unnecessarySimpa false
open Go.RowKit
open kit s13

theorem pcheck_anyD (n a b c d t r : Int) (w : World) (H : Hid (chkP n a b c d t = r)) : Calls Try.prog 41 #[.agg #[.int .i64 n, .int .i64 a, .int .i64 b, .int .i64 c, .int .i64 d], .int .i64 t] w fun e w' => e = .returned (.int .i64 r) ∧ BelowD w.heap.size w w' := by
  have h := H.out
  unfold chkP at h
  by_cases ht : t < 1 ∨ 8 < t
  · rw [if_pos ht] at h; subst h
    exact check_termsD n a b c d t w ht
  · rw [if_neg ht] at h
    by_cases hn : n < 0 ∨ 4 < n
    · rw [if_pos hn] at h; subst h
      exact check_lengthD n a b c d t w (by omega) (by omega) hn
    · rw [if_neg hn] at h
      obtain ⟨N, rfl⟩ : ∃ N : Nat, n = N := ⟨n.toNat, by omega⟩
      by_cases hf : ((N : Int) ≤ 0 ∧ a ≠ 0) ∨ ((N : Int) ≤ 1 ∧ b ≠ 0) ∨ ((N : Int) ≤ 2 ∧ c ≠ 0) ∨ ((N : Int) ≤ 3 ∧ d ≠ 0)
      · rw [if_pos hf] at h; subst h
        obtain ⟨a', b', c', d', e, e1, e2, e3, e4⟩ := cutP_self N a b c d
        refine check_formD N a b c d a' b' c' d' t w (by omega) (by omega) (by omega) (Lib.hid e) ?_
        rintro ⟨f1, f2, f3, f4⟩
        subst f1 f2 f3 f4
        rcases hf with ⟨k, hk⟩ | ⟨k, hk⟩ | ⟨k, hk⟩ | ⟨k, hk⟩
        · rw [if_neg (by omega)] at e1; exact hk e1
        · rw [if_neg (by omega)] at e2; exact hk e2
        · rw [if_neg (by omega)] at e3; exact hk e3
        · rw [if_neg (by omega)] at e4; exact hk e4
      · rw [if_neg hf] at h
        have e : cutP N N a b c d = (N, a, b, c, d) := by
          obtain ⟨a', b', c', d', e, e1, e2, e3, e4⟩ := cutP_self N a b c d
          rw [e]
          have g1 : a' = a := by by_cases k : 0 < N <;> simp [k] at e1 <;> omega
          have g2 : b' = b := by by_cases k : 1 < N <;> simp [k] at e2 <;> omega
          have g3 : c' = c := by by_cases k : 2 < N <;> simp [k] at e3 <;> omega
          have g4 : d' = d := by by_cases k : 3 < N <;> simp [k] at e4 <;> omega
          rw [g1, g2, g3, g4]
        refine check_placesD N a b c d t r w (by omega) (by omega) (by omega) (Lib.hid e) (Lib.hid fun i hi hb => ?_) (Lib.hid fun hk => ?_)
        · rw [← h]
          refine if_pos ?_
          have hm : i = 0 ∨ i = 1 ∨ i = 2 ∨ i = 3 := by omega
          rcases hm with rfl | rfl | rfl | rfl
          · exact .inl ⟨by omega, hb⟩
          · exact .inr (.inl ⟨by omega, hb⟩)
          · exact .inr (.inr (.inl ⟨by omega, hb⟩))
          · exact .inr (.inr (.inr ⟨by omega, hb⟩))
        · obtain ⟨k1, k2, k3, k4⟩ := pl_lt hk
          rw [← h]
          exact if_neg (by omega)
set_option maxRecDepth 100000 in
set_option maxHeartbeats 2000000 in
theorem checkall_anyD (a : Option Addr) (cp : Nat) (l : List V5) (w : World) (hl : l.length ≤ 1000) (r : Int) (hr : Hid (Reads5 w a l)) (H : Hid (chkAll l = r)) : Calls Try.prog 81 #[.slice a l.length cp] w fun e w' => e = .returned (.int .i64 r) ∧ BelowD w.heap.size w w' := by
  go_enter Try.func81, Try.ntmps81
  go_wp2
  go_loopw [8] (fun i wr => ∃ k : Nat, i = .int .i64 k ∧ k ≤ l.length ∧ Hid (chkAll (l.drop k) = r) ∧ Hid (BelowD w.heap.size w wr)) (fun i _ => l.length - (intOf i).toNat)
  case atStart => exact ⟨0, rfl, by omega, H, Lib.hid (BelowD.refl _ _)⟩
  case round =>
    obtain ⟨k, rfl, hk, HK, HB⟩ := hrel
    by_cases hlt : k < l.length
    · obtain ⟨b, off, rfl, hb, c0, c1, c2, c3, c4⟩ := (hr.out.below HB.out.b) k hlt
      have hd : l.drop k = (l[k]?.getD no5) :: l.drop (k + 1) := by rw [List.getElem?_eq_getElem hlt]; exact List.drop_eq_getElem_cons hlt
      have HD := HK.out
      rw [hd] at HD
      have HBs := HB.out.size
      generalize l[k]?.getD no5 = x at c0 c1 c2 c3 c4 HD
      obtain ⟨n, x0, x1, x2, x3⟩ := x
      simp only at c0 c1 c2 c3 c4
      unfold chkAll at HD
      simp only at HD
      clear hd
      by_cases hz : chkP n x0 x1 x2 x3 8 = 0
      · rw [if_pos hz] at HD
        have HZ := Lib.hid hz
        have HD2 := Lib.hid HD
        clear hz HD
        go_wp2_with (go_at_call 41; refine (pcheck_anyD n x0 x1 x2 x3 8 0 _ HZ).mono ?_; rintro e w1 ⟨rfl, hB⟩; have B1 := Lib.hid (below_onD (HB.out.alloc HBs (.cells #[.int .i64 n, .int .i64 x0, .int .i64 x1, .int .i64 x2, .int .i64 x3] 25)) (Nat.le_refl _) hB); clear hB)
        go_roundw
        case rel => exact ⟨k + 1, by go_num, by omega, HD2, B1⟩
        case measure => simp [intOf]; omega
      · rw [if_neg hz] at HD
        have hz2 : (r != 0) = true := by rw [HD] at hz; simpa using hz
        have HZ := Lib.hid HD
        clear hz HD
        go_wp2_with (go_at_call 41; refine (pcheck_anyD n x0 x1 x2 x3 8 r _ HZ).mono ?_; rintro e w1 ⟨rfl, hB⟩; have B1 := Lib.hid (below_onD (HB.out.alloc HBs (.cells #[.int .i64 n, .int .i64 x0, .int .i64 x1, .int .i64 x2, .int .i64 x3] 25)) (Nat.le_refl _) hB); clear hB)
        go_ret
        exact ⟨rfl, B1.out⟩
    · obtain rfl : k = l.length := by omega
      have h0 := HK.out
      rw [List.drop_length] at h0
      have H0 := Lib.hid h0
      clear h0
      go_wp2
      go_ret
      exact ⟨ret_int H0.out, HB.out⟩
/-- one look, in a row of its own -/
theorem checkall_oneD (n a b c d r : Int) (g : Nat) (w : World) (X : Box w 25 g #[.int .i64 n, .int .i64 a, .int .i64 b, .int .i64 c, .int .i64 d]) (H : Hid (chkP n a b c d 8 = r)) : Calls Try.prog 81 #[.slice (some ⟨g, 0, none⟩) 1 1] w fun e w' => e = .returned (.int .i64 r) ∧ BelowD w.heap.size w w' :=
  checkall_anyD _ 1 [(n, a, b, c, d)] w (by simp) r (Lib.hid (reads5_block X rfl)) (Lib.hid (by
    unfold chkAll
    by_cases h : chkP n a b c d 8 = 0
    · rw [if_pos h]; unfold chkAll; rw [← H.out, h]
    · rw [if_neg h]; exact H.out))
/-- two looks -/
theorem checkall_twoD (n a b c d n' a' b' c' d' r : Int) (g : Nat) (w : World) (X : w.heap[g]? = some (.cells #[.int .i64 n, .int .i64 a, .int .i64 b, .int .i64 c, .int .i64 d, .int .i64 n', .int .i64 a', .int .i64 b', .int .i64 c', .int .i64 d'] 25 (0, 0)))
    (H : Hid ((if chkP n a b c d 8 = 0 then chkP n' a' b' c' d' 8 else chkP n a b c d 8) = r)) : Calls Try.prog 81 #[.slice (some ⟨g, 0, none⟩) 2 2] w fun e w' => e = .returned (.int .i64 r) ∧ BelowD w.heap.size w w' :=
  checkall_anyD _ 2 [(n, a, b, c, d), (n', a', b', c', d')] w (by simp) r (Lib.hid (reads5_block X rfl)) (Lib.hid (by
    have h9 := H.out
    unfold chkAll
    by_cases h : chkP n a b c d 8 = 0
    · rw [if_pos h] at h9 ⊢
      unfold chkAll
      by_cases k : chkP n' a' b' c' d' 8 = 0
      · rw [if_pos k]; unfold chkAll; rw [← h9, k]
      · rw [if_neg k]; exact h9
    · rw [if_neg h] at h9 ⊢; exact h9))
/-- what a block that was made before a call holds behind it -/
theorem made1D {w w1 : World} {t : TypeId} {xs : Array Value} (hB : BelowD (w.alloc (.cells xs t)).heap.size (w.alloc (.cells xs t)) w1) : Box w1 t w.heap.size xs ∧ BelowD w.heap.size w w1 :=
  ⟨(Box.new w t xs).below hB.b, below_onD ((BelowD.refl w.heap.size w).alloc (Nat.le_refl _) _) (Nat.le_refl _) hB⟩
theorem made2D {w w1 : World} {t t' : TypeId} {xs ys : Array Value} (hB : BelowD ((w.alloc (.cells xs t)).alloc (.cells ys t')).heap.size ((w.alloc (.cells xs t)).alloc (.cells ys t')) w1) : Box w1 t w.heap.size xs ∧ Box w1 t' (w.heap.size + 1) ys ∧ BelowD w.heap.size w w1 := by
  have Y := Box.new (w.alloc (.cells xs t)) t' ys
  rw [show (w.alloc (.cells xs t)).heap.size = w.heap.size + 1 from Array.size_push ..] at Y
  exact ⟨((Box.new w t xs).alloc _).below hB.b, Y.below hB.b, below_onD (((BelowD.refl w.heap.size w).alloc (Nat.le_refl _) _).alloc (by simp) _) (Nat.le_refl _) hB⟩
theorem made3D {w w1 : World} {t t' t'' : TypeId} {xs ys zs : Array Value} (hB : BelowD (((w.alloc (.cells xs t)).alloc (.cells ys t')).alloc (.cells zs t'')).heap.size (((w.alloc (.cells xs t)).alloc (.cells ys t')).alloc (.cells zs t'')) w1) :
    Box w1 t w.heap.size xs ∧ Box w1 t' (w.heap.size + 1) ys ∧ Box w1 t'' (w.heap.size + 1 + 1) zs ∧ BelowD w.heap.size w w1 := by
  have Y := Box.new (w.alloc (.cells xs t)) t' ys
  rw [show (w.alloc (.cells xs t)).heap.size = w.heap.size + 1 from Array.size_push ..] at Y
  have Z := Box.new ((w.alloc (.cells xs t)).alloc (.cells ys t')) t'' zs
  rw [show ((w.alloc (.cells xs t)).alloc (.cells ys t')).heap.size = w.heap.size + 1 + 1 by rw [show ((w.alloc (.cells xs t)).alloc (.cells ys t')).heap.size = (w.alloc (.cells xs t)).heap.size + 1 from Array.size_push ..]; rw [show (w.alloc (.cells xs t)).heap.size = w.heap.size + 1 from Array.size_push ..]] at Z
  exact ⟨(((Box.new w t xs).alloc _).alloc _).below hB.b, (Y.alloc _).below hB.b, Z.below hB.b, below_onD ((((BelowD.refl w.heap.size w).alloc (Nat.le_refl _) _).alloc (by simp) _).alloc (by simp; omega) _) (Nat.le_refl _) hB⟩
end Go.Proofs.Ytdahaajfkjmflaa.s14

namespace Go.Proofs.Ytdahaajfkjmflaa.s14
set_option linter.unusedVariables false
set_option linter.unusedSimpArgs false
set_option linter.unnecessarySimpa false
open Go.RowKit
open kit s13

set_option maxRecDepth 100000 in
set_option maxHeartbeats 2000000 in
theorem pcompare_badD (n a b c d n' a' b' c' d' r : Int) (w : World) (HR : Hid (bothP n a b c d n' a' b' c' d' = r)) (hr : (r != 0) = true) : Calls Try.prog 70 #[.agg #[.int .i64 n, .int .i64 a, .int .i64 b, .int .i64 c, .int .i64 d], .agg #[.int .i64 n', .int .i64 a', .int .i64 b', .int .i64 c', .int .i64 d']] w fun e w' => e = .returned (.tuple #[.int .i64 0, .int .i64 r]) ∧ BelowD w.heap.size w w' := by
  go_enter Try.func70, Try.ntmps70
  go_wp2_with (go_at_call 81; refine (checkall_twoD n a b c d n' a' b' c' d' r _ _ (new3 _ _ _ _ _) HR).mono ?_; rintro e w1 ⟨rfl, hB⟩; obtain ⟨X1, Y1, Z1, hB1⟩ := made3D hB; have B1 := Lib.hid hB1; clear hB hB1 X1 Y1 Z1)
  go_ret2
  exact ⟨rfl, B1.out⟩
set_option maxRecDepth 100000 in
set_option maxHeartbeats 2000000 in
theorem pcompare_sameD (N M : Nat) (a b c d : Int) (w : World) (HR : Hid (bothP N a b c d M a b c d = 0)) : Calls Try.prog 70 #[.agg #[.int .i64 N, .int .i64 a, .int .i64 b, .int .i64 c, .int .i64 d], .agg #[.int .i64 M, .int .i64 a, .int .i64 b, .int .i64 c, .int .i64 d]] w fun e w' => e = .returned (.tuple #[.int .i64 (lenC N M), .int .i64 0]) ∧ BelowD w.heap.size w w' := by
  have zq : ∀ W, (binOp .eql 23 (.agg #[.int .i64 a, .int .i64 b, .int .i64 c, .int .i64 d]) (.agg #[.int .i64 a, .int .i64 b, .int .i64 c, .int .i64 d])).run Try.prog W = .ok (.bool true) W := fun W => by rw [eql_arr]; simp
  have zg := guard_arr
  have HL : Hid ((if (N : Int) < M then (-1 : Int) else if (M : Int) < N then 1 else 0) = lenC N M) := Lib.hid (by
    unfold lenC
    by_cases h1 : N < M
    · rw [if_pos h1, if_pos (by omega)]
    · rw [if_neg h1, if_neg (by omega)]
      by_cases h2 : M < N
      · rw [if_pos h2, if_pos (by omega)]
      · rw [if_neg h2, if_neg (by omega)])
  go_enter Try.func70, Try.ntmps70
  go_wp2_with (first
    | (go_at_call 81; refine (checkall_twoD N a b c d M a b c d 0 _ _ (new3 _ _ _ _ _) HR).mono ?_; rintro e w1 ⟨rfl, hB⟩; obtain ⟨X1, Y1, Z1, hB1⟩ := made3D hB; have B1 := Lib.hid hB1; obtain ⟨x0, x1, x2, x3, x4⟩ := X1.cell5; obtain ⟨y0, y1, y2, y3, y4⟩ := Y1.cell5; clear hB hB1 X1 Y1 Z1)
    | (go_at_call 83; refine (ccompare_any N M _).mono ?_; rintro e w2 ⟨rfl, rfl⟩; rw [HL.out]))
  go_ret2
  exact ⟨rfl, B1.out⟩
set_option maxRecDepth 100000 in
set_option maxHeartbeats 2000000 in
theorem pcompare_otherD (N M : Nat) (a b c d a' b' c' d' r : Int) (w : World) (HR : Hid (bothP N a b c d M a' b' c' d' = 0)) (hne : ¬ (a = a' ∧ b = b' ∧ c = c' ∧ d = d')) (HC : Hid (cmpL [a, b, c, d] [a', b', c', d'] = r)) : Calls Try.prog 70 #[.agg #[.int .i64 N, .int .i64 a, .int .i64 b, .int .i64 c, .int .i64 d], .agg #[.int .i64 M, .int .i64 a', .int .i64 b', .int .i64 c', .int .i64 d']] w fun e w' => e = .returned (.tuple #[.int .i64 r, .int .i64 0]) ∧ BelowD w.heap.size w w' := by
  have hq : decide (a = a' ∧ b = b' ∧ c = c' ∧ d = d') = false := decide_eq_false hne
  have zq : ∀ W, (binOp .eql 23 (.agg #[.int .i64 a, .int .i64 b, .int .i64 c, .int .i64 d]) (.agg #[.int .i64 a', .int .i64 b', .int .i64 c', .int .i64 d'])).run Try.prog W = .ok (.bool false) W := fun W => by rw [eql_arr, hq]
  have zg := guard_arr
  clear hq hne
  go_enter Try.func70, Try.ntmps70
  go_wp2_with (go_at_call 81; refine (checkall_twoD N a b c d M a' b' c' d' 0 _ _ (new3 _ _ _ _ _) HR).mono ?_; rintro e w1 ⟨rfl, hB⟩; obtain ⟨X1, Y1, Z1, hB1⟩ := made3D hB; have B1 := Lib.hid hB1; obtain ⟨x0, x1, x2, x3, x4⟩ := X1.cell5; obtain ⟨y0, y1, y2, y3, y4⟩ := Y1.cell5; have X1 := Lib.hid X1; have Y1 := Lib.hid Y1; clear hB hB1 Z1)
  have RX : ∀ n, ReadsI (w1.drewN n) (some ⟨w.heap.size, 1, none⟩) [a, b, c, d] := fun n i hi => ⟨w.heap.size, 1, rfl, (X1.out.drewN n).lt, by
    have hi4 : i < 4 := hi
    rw [(X1.out.drewN n).place i hi4]
    have hm : i = 0 ∨ i = 1 ∨ i = 2 ∨ i = 3 := by omega
    rcases hm with rfl | rfl | rfl | rfl <;> rfl⟩
  have RY : ∀ n, ReadsI (w1.drewN n) (some ⟨w.heap.size + 1, 1, none⟩) [a', b', c', d'] := fun n i hi => ⟨w.heap.size + 1, 1, rfl, (Y1.out.drewN n).lt, by
    have hi4 : i < 4 := hi
    rw [(Y1.out.drewN n).place i hi4]
    have hm : i = 0 ∨ i = 1 ∨ i = 2 ∨ i = 3 := by omega
    rcases hm with rfl | rfl | rfl | rfl <;> rfl⟩
  have RXH := Lib.hid RX
  have RYH := Lib.hid RY
  clear RX RY zq zg x0 x1 x2 x3 x4 y0 y1 y2 y3 y4
  go_quiet ((go_at_call 84; exact Calls.quiet_of_same ((slcompare_any _ _ 4 4 4 [a, b, c, d] [a', b', c', d'] r _ (by omega) (Lib.hid rfl) (Lib.hid rfl) (Lib.hid (RXH.out _)) (Lib.hid (RYH.out _)) HC).mono fun e w' h => ⟨h.1, h.2.symm⟩)))
  go_wp2
  go_ret2
  exact ⟨rfl, below_drewND B1.out _⟩
theorem pcompare_anyD (n a b c d n' a' b' c' d' : Int) (w : World) (v r : Int) (H : Hid (cmpE (n, a, b, c, d) (n', a', b', c', d') = (v, r))) : Calls Try.prog 70 #[.agg #[.int .i64 n, .int .i64 a, .int .i64 b, .int .i64 c, .int .i64 d], .agg #[.int .i64 n', .int .i64 a', .int .i64 b', .int .i64 c', .int .i64 d']] w fun e w' => e = .returned (.tuple #[.int .i64 v, .int .i64 r]) ∧ BelowD w.heap.size w w' := by
  have h := H.out
  unfold cmpE at h
  simp only at h
  by_cases hc : bothP n a b c d n' a' b' c' d' = 0
  · rw [if_neg (by simpa using hc)] at h
    cases h
    obtain ⟨h1, h2⟩ := both_yes hc
    obtain ⟨k1, _, _⟩ := lst_ok h1
    obtain ⟨k2, _, _⟩ := lst_ok h2
    obtain ⟨N, hN, hN4, hl, hp⟩ := lst_nat h1
    obtain ⟨M, hM, hM4, hm, hq⟩ := lst_nat h2
    subst hN hM
    have e := cmpL_padded (lst ((N : Int), a, b, c, d)) (lst ((M : Int), a', b', c', d')) (4 - N) (4 - M) (by omega) (fun x hx => (k1.2 x hx).1) (fun x hx => (k2.2 x hx).1)
    have e1 := pad_list (by omega) hp
    have e2 := pad_list (by omega) hq
    rw [hl] at e1
    rw [hm] at e2
    rw [← e1, ← e2, hl, hm] at e
    rw [e]
    by_cases hs : a = a' ∧ b = b' ∧ c = c' ∧ d = d'
    · obtain ⟨rfl, rfl, rfl, rfl⟩ := hs
      rw [if_pos rfl]
      exact pcompare_sameD N M a b c d w (Lib.hid hc)
    · rw [if_neg (by simpa using hs)]
      exact pcompare_otherD N M a b c d a' b' c' d' _ w (Lib.hid hc) hs (Lib.hid rfl)
  · rw [if_pos hc] at h; cases h
    exact pcompare_badD n a b c d n' a' b' c' d' _ w (Lib.hid rfl) (by simpa using hc)

set_option maxRecDepth 100000 in
set_option maxHeartbeats 1000000 in
theorem pcmpD_anyD (n a b c d n' a' b' c' d' v : Int) (w : World) (H : Hid (cmpE (n, a, b, c, d) (n', a', b', c', d') = (v, 0))) : Calls Try.prog 42 #[.agg #[.int .i64 n, .int .i64 a, .int .i64 b, .int .i64 c, .int .i64 d], .agg #[.int .i64 n', .int .i64 a', .int .i64 b', .int .i64 c', .int .i64 d']] w fun e w' => e = .returned (.int .i64 v) ∧ BelowD w.heap.size w w' := by
  go_enter Try.func42, Try.ntmps42
  go_wp2_with (go_at_call 70; refine (pcompare_anyD n a b c d n' a' b' c' d' _ v 0 H).mono ?_; rintro e w1 ⟨rfl, hB⟩; have B1 := Lib.hid (made2D hB).2.2; clear hB)
  go_ret
  exact ⟨rfl, B1.out⟩
end Go.Proofs.Ytdahaajfkjmflaa.s14
