/-
  Variables of some cells, carried through calls and stores. Layer 13: isTerms, isLength, cut. Layer 13: looks that are compared. Layer 13: the program's Check. Layer 13: lists of looks in memory (five cells each).
-/
import Derived.Test.YtdahaajfkjmflaaG01
import Derived.Lib.SliceRun
import Derived.ChangeKeysEq
import Derived.Laws.StructEq
namespace Go.Proofs.Ytdahaajfkjmflaa.s13
set_option linter.unusedVariables false
set_option linter.unusedSimpArgs false
open Go.RowKit
open kit

/-- block b is a variable of these cells -/
def Box (w : World) (t : TypeId) (b : Nat) (xs : Array Value) : Prop := w.heap[b]? = some (.cells xs t (0, 0))
theorem Box.new (w : World) (t : TypeId) (xs : Array Value) : Box (w.alloc (.cells xs t)) t w.heap.size xs := World.alloc_heap_new w _
theorem Box.lt {w : World} {t : TypeId} {b : Nat} {xs : Array Value} (h : Box w t b xs) : b < w.heap.size := (Array.getElem?_eq_some_iff.1 h).1
theorem Box.cell {w : World} {t : TypeId} {b : Nat} {xs : Array Value} (h : Box w t b xs) (i : Nat) : w.cell? ⟨b, i, none⟩ = xs[i]? := by
  unfold World.cell?; rw [show w.heap[b]? = _ from h]; rfl
theorem Box.free {w : World} {t : TypeId} {b : Nat} {xs : Array Value} (h : Box w t b xs) (i : Nat) : w.frozen? ⟨b, i, none⟩ = false := by
  unfold World.frozen?; rw [show w.heap[b]? = _ from h]; simp
theorem Box.below {w w1 : World} {t : TypeId} {b : Nat} {xs : Array Value} (h : Box w t b xs) (hB : Below w.heap.size w w1) : Box w1 t b xs := (hB.block b h.lt).trans h
theorem Box.alloc {w : World} {t : TypeId} {b : Nat} {xs : Array Value} (h : Box w t b xs) (o : Obj) : Box (w.alloc o) t b xs := (Below.heap_alloc w o b h.lt).trans h
theorem Box.set {w : World} {t : TypeId} {b : Nat} {xs : Array Value} (h : Box w t b xs) (i : Nat) (hi : i < xs.size) (u : Value) : Box (w.setCell ⟨b, i, none⟩ u) t b (xs.set i u) := by
  obtain ⟨hlt, hk⟩ := Array.getElem?_eq_some_iff.1 h
  show (w.heap.modify b _)[b]? = _
  rw [Array.getElem?_eq_getElem (by rw [Array.size_modify]; exact hlt), Array.getElem_modify_self, hk]
  simp [Array.set!_eq_setIfInBounds, Array.setIfInBounds, hi]
theorem Box.other {w : World} {t : TypeId} {b b' i : Nat} {xs : Array Value} (h : Box w t b xs) (hne : b ≠ b') (u : Value) : Box (w.setCell ⟨b', i, none⟩ u) t b xs :=
  (Below.heap_setCell _ _ _ _ hne).trans h
theorem Box.cell2 {w : World} {t : TypeId} {b : Nat} {x y : Value} (h : Box w t b #[x, y]) : w.cell? ⟨b, 0, none⟩ = some x ∧ w.cell? ⟨b, 1, none⟩ = some y := ⟨h.cell 0, h.cell 1⟩
theorem Box.cell3 {w : World} {t : TypeId} {b : Nat} {x y z : Value} (h : Box w t b #[x, y, z]) : w.cell? ⟨b, 0, none⟩ = some x ∧ w.cell? ⟨b, 1, none⟩ = some y ∧ w.cell? ⟨b, 2, none⟩ = some z := ⟨h.cell 0, h.cell 1, h.cell 2⟩
theorem Box.free2 {w : World} {t : TypeId} {b : Nat} {x y : Value} (h : Box w t b #[x, y]) : w.frozen? ⟨b, 0, none⟩ = false ∧ w.frozen? ⟨b, 1, none⟩ = false := ⟨h.free 0, h.free 1⟩
theorem Box.free3 {w : World} {t : TypeId} {b : Nat} {x y z : Value} (h : Box w t b #[x, y, z]) : w.frozen? ⟨b, 0, none⟩ = false ∧ w.frozen? ⟨b, 1, none⟩ = false ∧ w.frozen? ⟨b, 2, none⟩ = false := ⟨h.free 0, h.free 1, h.free 2⟩
theorem Box.drew {w : World} {t : TypeId} {b : Nat} {xs : Array Value} (h : Box w t b xs) : Box w.drew t b xs := h
theorem Box.drewN {w : World} {t : TypeId} {b : Nat} {xs : Array Value} (h : Box w t b xs) (n : Nat) : Box (w.drewN n) t b xs := h
theorem Box.cell5 {w : World} {t : TypeId} {b : Nat} {x0 x1 x2 x3 x4 : Value} (h : Box w t b #[x0, x1, x2, x3, x4]) : w.cell? ⟨b, 0, none⟩ = some x0 ∧ w.cell? ⟨b, 1, none⟩ = some x1 ∧ w.cell? ⟨b, 2, none⟩ = some x2 ∧ w.cell? ⟨b, 3, none⟩ = some x3 ∧ w.cell? ⟨b, 4, none⟩ = some x4 := ⟨h.cell 0, h.cell 1, h.cell 2, h.cell 3, h.cell 4⟩
theorem Box.free5 {w : World} {t : TypeId} {b : Nat} {x0 x1 x2 x3 x4 : Value} (h : Box w t b #[x0, x1, x2, x3, x4]) : w.frozen? ⟨b, 0, none⟩ = false ∧ w.frozen? ⟨b, 1, none⟩ = false ∧ w.frozen? ⟨b, 2, none⟩ = false ∧ w.frozen? ⟨b, 3, none⟩ = false ∧ w.frozen? ⟨b, 4, none⟩ = false := ⟨h.free 0, h.free 1, h.free 2, h.free 3, h.free 4⟩
/-- the places of a look, by number -/
def pl (a b c d : Int) (i : Nat) : Int := if i = 0 then a else if i = 1 then b else if i = 2 then c else if i = 3 then d else 0
theorem Box.place {w : World} {t : TypeId} {g : Nat} {x : Value} {a b c d : Int} (h : Box w t g #[x, .int .i64 a, .int .i64 b, .int .i64 c, .int .i64 d]) (i : Nat) (hi : i < 4) : w.cell? ⟨g, 1 + i, none⟩ = some (.int .i64 (pl a b c d i)) := by
  rw [h.cell (1 + i)]
  match i, hi with
  | 0, _ => rfl
  | 1, _ => rfl
  | 2, _ => rfl
  | 3, _ => rfl
theorem Box.put5 {w : World} {t : TypeId} {b : Nat} {x0 x1 x2 x3 x4 : Value} (h : Box w t b #[x0, x1, x2, x3, x4]) (u0 u1 u2 u3 u4 : Value) : Box (((((w.setCell ⟨b, 0, none⟩ u0).setCell ⟨b, 1, none⟩ u1).setCell ⟨b, 2, none⟩ u2).setCell ⟨b, 3, none⟩ u3).setCell ⟨b, 4, none⟩ u4) t b #[u0, u1, u2, u3, u4] :=
  ((((h.set 0 (by simp) u0).set 1 (by simp) u1).set 2 (by simp) u2).set 3 (by simp) u3).set 4 (by simp) u4
theorem Box.far5 {w : World} {t : TypeId} {b b' : Nat} {xs : Array Value} (h : Box w t b xs) (hne : b ≠ b') (u0 u1 u2 u3 u4 : Value) : Box (((((w.setCell ⟨b', 0, none⟩ u0).setCell ⟨b', 1, none⟩ u1).setCell ⟨b', 2, none⟩ u2).setCell ⟨b', 3, none⟩ u3).setCell ⟨b', 4, none⟩ u4) t b xs :=
  ((((h.other hne u0).other hne u1).other hne u2).other hne u3).other hne u4
theorem below_put5 {B b : Nat} {w w1 : World} (h : Below B w w1) (hb : B ≤ b) (u0 u1 u2 u3 u4 : Value) : Below B w (((((w1.setCell ⟨b, 0, none⟩ u0).setCell ⟨b, 1, none⟩ u1).setCell ⟨b, 2, none⟩ u2).setCell ⟨b, 3, none⟩ u3).setCell ⟨b, 4, none⟩ u4) :=
  ((((h.setCell (p := ⟨b, 0, none⟩) hb u0).setCell (p := ⟨b, 1, none⟩) hb u1).setCell (p := ⟨b, 2, none⟩) hb u2).setCell (p := ⟨b, 3, none⟩) hb u3).setCell (p := ⟨b, 4, none⟩) hb u4
theorem zero_int (w : World) : (zeroValue 3).run Try.prog w = .ok (.int .i64 0) w := by kernel_rfl
/-- clear, from place m on -/
theorem clear_box {w : World} {g : Nat} {x : Value} {a b c d : Int} (m : Nat) (hm : m < 4) (h : Box w 25 g #[x, .int .i64 a, .int .i64 b, .int .i64 c, .int .i64 d]) :
    ∃ W, (∀ ty, (Builtin.clear_ #[47] ty #[.slice (some ⟨g, 1 + m, none⟩) (4 - m) (4 - m)]).run Try.prog w = .ok (.tuple #[]) W) ∧
      Box W 25 g #[x, .int .i64 (if 0 < m then a else 0), .int .i64 (if 1 < m then b else 0), .int .i64 (if 2 < m then c else 0), .int .i64 0] ∧
      (∀ t' g' xs, g' ≠ g → Box w t' g' xs → Box W t' g' xs) ∧ (∀ B w0, B ≤ g → Below B w0 w → Below B w0 W) ∧ W.heap.size = w.heap.size := by
  have hcl := fun ty => Lib.run_clear_slice (P := Try.prog) w 47 3 ty (.int .i64 0) Try.underlying47 zero_int rfl rfl g (1 + m) (4 - m) (4 - m) (by omega) (fun j hj => by rw [show 1 + m + j = 1 + (m + j) by omega, h.place (m + j) (by omega)]; rfl) (fun j hj => h.free _)
  have hs : ∀ (v : World) (p : Addr) (u : Value), (v.setCell p u).heap.size = v.heap.size := fun v p u => by simp
  have hmm : m = 0 ∨ m = 1 ∨ m = 2 ∨ m = 3 := by omega
  rcases hmm with rfl | rfl | rfl | rfl
  · exact ⟨_, hcl, ((((h.set 1 (by simp) (.int .i64 0)).set 2 (by simp) (.int .i64 0)).set 3 (by simp) (.int .i64 0)).set 4 (by simp) (.int .i64 0)), fun t' g' xs hne hb => (((hb.other hne _).other hne _).other hne _).other hne _, fun B w0 hB hb => (((hb.setCell (p := ⟨g, 1, none⟩) hB _).setCell (p := ⟨g, 2, none⟩) hB _).setCell (p := ⟨g, 3, none⟩) hB _).setCell (p := ⟨g, 4, none⟩) hB _, (hs _ _ _).trans ((hs _ _ _).trans ((hs _ _ _).trans (hs _ _ _)))⟩
  · exact ⟨_, hcl, (((h.set 2 (by simp) (.int .i64 0)).set 3 (by simp) (.int .i64 0)).set 4 (by simp) (.int .i64 0)), fun t' g' xs hne hb => ((hb.other hne _).other hne _).other hne _, fun B w0 hB hb => ((hb.setCell (p := ⟨g, 2, none⟩) hB _).setCell (p := ⟨g, 3, none⟩) hB _).setCell (p := ⟨g, 4, none⟩) hB _, (hs _ _ _).trans ((hs _ _ _).trans (hs _ _ _))⟩
  · exact ⟨_, hcl, ((h.set 3 (by simp) (.int .i64 0)).set 4 (by simp) (.int .i64 0)), fun t' g' xs hne hb => (hb.other hne _).other hne _, fun B w0 hB hb => (hb.setCell (p := ⟨g, 3, none⟩) hB _).setCell (p := ⟨g, 4, none⟩) hB _, (hs _ _ _).trans (hs _ _ _)⟩
  · exact ⟨_, hcl, (h.set 4 (by simp) (.int .i64 0)), fun t' g' xs hne hb => hb.other hne _, fun B w0 hB hb => hb.setCell (p := ⟨g, 4, none⟩) hB _, hs _ _ _⟩
/-- new blocks, and block b alone may have changed -/
def GB (b : Nat) (w w' : World) : Prop := w.grownBy w' (some b)
theorem GB.refl (b : Nat) (w : World) : GB b w w := World.grownBy.refl w _
theorem GB.trans {b : Nat} {w w1 w2 : World} (h : GB b w w1) (k : GB b w1 w2) : GB b w w2 := World.grownBy.trans h k
theorem GB.then {b : Nat} {w w1 w2 : World} (h : GB b w w1) (k : Below w1.heap.size w1 w2) : GB b w w2 := h.trans ⟨k.os, k.tape, k.output, k.size, fun i hi _ => k.block i hi⟩
theorem GB.alloc {b : Nat} {w w1 : World} (h : GB b w w1) (o : Obj) : GB b w (w1.alloc o) := h.then ((Below.refl _ _).alloc (Nat.le_refl _) o)
theorem GB.drewN {b : Nat} {w w1 : World} (h : GB b w w1) (n : Nat) : GB b w (w1.drewN n) := h.then (below_drewN (Below.refl _ _) n)
theorem GB.drew {b : Nat} {w w1 : World} (h : GB b w w1) : GB b w w1.drew := h.then (Below.refl _ _).drew
theorem GB.set {b : Nat} {w w1 : World} (h : GB b w w1) (i : Nat) (u : Value) : GB b w (w1.setCell ⟨b, i, none⟩ u) :=
  h.trans ⟨rfl, rfl, rfl, by simp, fun k _ hk => Below.heap_setCell _ _ _ _ (fun e => hk (by rw [e]))⟩
theorem GB.below {b B : Nat} {w w' : World} (h : GB b w w') (hB : B ≤ b) (hb : B ≤ w.heap.size) : Below B w w' := ⟨h.os, h.tape, h.output, h.size, fun k hk => h.block k (Nat.lt_of_lt_of_le hk hb) (fun e => by cases e; omega)⟩
theorem GB.box {w w1 : World} {t : TypeId} {b c : Nat} {xs : Array Value} (h : Box w t c xs) (hg : GB b w w1) (hne : c ≠ b) : Box w1 t c xs := (hg.block c h.lt (fun e => hne (by cases e; rfl))).trans h
end Go.Proofs.Ytdahaajfkjmflaa.s13

namespace Go.Proofs.Ytdahaajfkjmflaa.s13
set_option linter.unusedVariables false
set_option linter.unusedSimpArgs false
open Go.RowKit
open kit

theorem isterms_yes (t : Int) (w : World) (h1 : 1 ≤ t) (h2 : t ≤ 8) : Calls Try.prog 67 #[.int .i64 t] w fun e w' => e = .returned (.bool true) ∧ w = w' := by
  go_enter Try.func67, Try.ntmps67
  go_wp2
  go_ret
  exact ⟨rfl, rfl⟩
theorem isterms_no (t : Int) (w : World) (h : t < 1 ∨ 8 < t) : Calls Try.prog 67 #[.int .i64 t] w fun e w' => e = .returned (.bool false) ∧ w = w' := by
  rcases h with h | h
  · go_enter Try.func67, Try.ntmps67
    go_wp2
    go_ret
    exact ⟨rfl, rfl⟩
  · have h1 : 1 ≤ t := by omega
    have h2 : ¬ t ≤ 8 := by omega
    have h3 : decide (t ≤ 8) = false := decide_eq_false h2
    go_enter Try.func67, Try.ntmps67
    go_wp2
    go_ret
    exact ⟨rfl, rfl⟩
theorem islen_yes (t : Int) (w : World) (h1 : 0 ≤ t) (h2 : t ≤ 4) : Calls Try.prog 68 #[.int .i64 t] w fun e w' => e = .returned (.bool true) ∧ w = w' := by
  go_enter Try.func68, Try.ntmps68
  go_wp2
  go_ret
  exact ⟨rfl, rfl⟩
theorem islen_no (t : Int) (w : World) (h : t < 0 ∨ 4 < t) : Calls Try.prog 68 #[.int .i64 t] w fun e w' => e = .returned (.bool false) ∧ w = w' := by
  rcases h with h | h
  · go_enter Try.func68, Try.ntmps68
    go_wp2
    go_ret
    exact ⟨rfl, rfl⟩
  · have h1 : 0 ≤ t := by omega
    have h2 : ¬ t ≤ 4 := by omega
    have h3 : decide (t ≤ 4) = false := decide_eq_false h2
    go_enter Try.func68, Try.ntmps68
    go_wp2
    go_ret
    exact ⟨rfl, rfl⟩
set_option maxRecDepth 100000 in
/-- the world behind the clearing, from place 0 on -/
theorem clear_0 (a b c d : Int) (w : World) : ∃ W, (∀ ty, (Builtin.clear_ #[47] ty #[.slice (some ⟨w.heap.size, 1, none⟩) 4 4]).run Try.prog ((w.alloc (.cells #[.int .i64 0, .int .i64 a, .int .i64 b, .int .i64 c, .int .i64 d] 25)).alloc (.cells #[.int .i64 0, .int .i64 0, .int .i64 0, .int .i64 0, .int .i64 0] 25)) = .ok (.tuple #[]) W) ∧
      Box W 25 w.heap.size #[.int .i64 0, .int .i64 0, .int .i64 0, .int .i64 0, .int .i64 0] ∧ Box W 25 (w.heap.size + 1) #[.int .i64 0, .int .i64 0, .int .i64 0, .int .i64 0, .int .i64 0] ∧ Below w.heap.size w W := by
  have X0 := Box.new w 25 #[.int .i64 0, .int .i64 a, .int .i64 b, .int .i64 c, .int .i64 d]
  have X := X0.alloc (.cells #[.int .i64 0, .int .i64 0, .int .i64 0, .int .i64 0, .int .i64 0] 25)
  have Y := Box.new (w.alloc (.cells #[.int .i64 0, .int .i64 a, .int .i64 b, .int .i64 c, .int .i64 d] 25)) 25 #[.int .i64 0, .int .i64 0, .int .i64 0, .int .i64 0, .int .i64 0]
  rw [show (w.alloc (.cells #[.int .i64 0, .int .i64 a, .int .i64 b, .int .i64 c, .int .i64 d] 25)).heap.size = w.heap.size + 1 from Array.size_push ..] at Y
  have B : Below w.heap.size w ((w.alloc (.cells #[.int .i64 0, .int .i64 a, .int .i64 b, .int .i64 c, .int .i64 d] 25)).alloc (.cells #[.int .i64 0, .int .i64 0, .int .i64 0, .int .i64 0, .int .i64 0] 25)) := ((Below.refl _ w).alloc (Nat.le_refl _) _).alloc (by simp) _
  obtain ⟨W, hcl, XW, hO, hBW, hsz⟩ := clear_box 0 (by omega) X
  exact ⟨W, hcl, XW, hO _ _ _ (by omega) Y, hBW _ _ (Nat.le_refl _) B⟩
set_option maxRecDepth 100000 in
set_option maxHeartbeats 1000000 in
theorem cut_n0 (a b c d k : Int) (w : World) (h : 0 ≤ k) : Calls Try.prog 69 #[.agg #[.int .i64 0, .int .i64 a, .int .i64 b, .int .i64 c, .int .i64 d], .int .i64 k] w fun e w' => e = .returned (Value.agg #[.int .i64 0, .int .i64 0, .int .i64 0, .int .i64 0, .int .i64 0]) ∧ Below w.heap.size w w' := by
  obtain ⟨W, hcl, XW, YW, hB⟩ := clear_0 a b c d w
  have BW := Lib.hid hB
  have hz := YW.lt
  have Y2 := YW.put5 (.int .i64 0) (.int .i64 0) (.int .i64 0) (.int .i64 0) (.int .i64 0)
  obtain ⟨f0, f1, f2, f3, f4⟩ := YW.free5
  obtain ⟨u0, u1, u2, u3, u4⟩ := YW.cell5
  obtain ⟨x0, x1, x2, x3, x4⟩ := XW.cell5
  have Y3 := Lib.hid Y2.cell5
  clear XW YW Y2 hB
  go_enter Try.func69, Try.ntmps69
  go_wp2
  obtain ⟨y0, y1, y2, y3, y4⟩ := Y3.out
  exact bodyPost_ret (v := .agg #[.int .i64 0, .int .i64 0, .int .i64 0, .int .i64 0, .int .i64 0]) (by simp [results, Try.results69, go_sem, y0, y1, y2, y3, y4]) rfl ⟨rfl, below_put5 BW.out (by omega) _ _ _ _ _⟩
set_option maxRecDepth 100000 in
set_option maxHeartbeats 1000000 in
theorem cut_k0 (N a b c d : Int) (w : World) (h : 0 < N) : Calls Try.prog 69 #[.agg #[.int .i64 N, .int .i64 a, .int .i64 b, .int .i64 c, .int .i64 d], .int .i64 0] w fun e w' => e = .returned (Value.agg #[.int .i64 0, .int .i64 0, .int .i64 0, .int .i64 0, .int .i64 0]) ∧ Below w.heap.size w w' := by
  obtain ⟨W, hcl, XW, YW, hB⟩ := clear_0 a b c d w
  have BW := Lib.hid hB
  have hz := YW.lt
  have Y2 := YW.put5 (.int .i64 0) (.int .i64 0) (.int .i64 0) (.int .i64 0) (.int .i64 0)
  obtain ⟨f0, f1, f2, f3, f4⟩ := YW.free5
  obtain ⟨u0, u1, u2, u3, u4⟩ := YW.cell5
  obtain ⟨x0, x1, x2, x3, x4⟩ := XW.cell5
  have Y3 := Lib.hid Y2.cell5
  clear XW YW Y2 hB
  go_enter Try.func69, Try.ntmps69
  go_wp2
  obtain ⟨y0, y1, y2, y3, y4⟩ := Y3.out
  exact bodyPost_ret (v := .agg #[.int .i64 0, .int .i64 0, .int .i64 0, .int .i64 0, .int .i64 0]) (by simp [results, Try.results69, go_sem, y0, y1, y2, y3, y4]) rfl ⟨rfl, below_put5 BW.out (by omega) _ _ _ _ _⟩
set_option maxRecDepth 100000 in
/-- the world behind the clearing, from place 1 on -/
theorem clear_1 (a b c d : Int) (w : World) : ∃ W, (∀ ty, (Builtin.clear_ #[47] ty #[.slice (some ⟨w.heap.size, 2, none⟩) 3 3]).run Try.prog ((w.alloc (.cells #[.int .i64 1, .int .i64 a, .int .i64 b, .int .i64 c, .int .i64 d] 25)).alloc (.cells #[.int .i64 0, .int .i64 0, .int .i64 0, .int .i64 0, .int .i64 0] 25)) = .ok (.tuple #[]) W) ∧
      Box W 25 w.heap.size #[.int .i64 1, .int .i64 a, .int .i64 0, .int .i64 0, .int .i64 0] ∧ Box W 25 (w.heap.size + 1) #[.int .i64 0, .int .i64 0, .int .i64 0, .int .i64 0, .int .i64 0] ∧ Below w.heap.size w W := by
  have X0 := Box.new w 25 #[.int .i64 1, .int .i64 a, .int .i64 b, .int .i64 c, .int .i64 d]
  have X := X0.alloc (.cells #[.int .i64 0, .int .i64 0, .int .i64 0, .int .i64 0, .int .i64 0] 25)
  have Y := Box.new (w.alloc (.cells #[.int .i64 1, .int .i64 a, .int .i64 b, .int .i64 c, .int .i64 d] 25)) 25 #[.int .i64 0, .int .i64 0, .int .i64 0, .int .i64 0, .int .i64 0]
  rw [show (w.alloc (.cells #[.int .i64 1, .int .i64 a, .int .i64 b, .int .i64 c, .int .i64 d] 25)).heap.size = w.heap.size + 1 from Array.size_push ..] at Y
  have B : Below w.heap.size w ((w.alloc (.cells #[.int .i64 1, .int .i64 a, .int .i64 b, .int .i64 c, .int .i64 d] 25)).alloc (.cells #[.int .i64 0, .int .i64 0, .int .i64 0, .int .i64 0, .int .i64 0] 25)) := ((Below.refl _ w).alloc (Nat.le_refl _) _).alloc (by simp) _
  obtain ⟨W, hcl, XW, hO, hBW, hsz⟩ := clear_box 1 (by omega) X
  exact ⟨W, hcl, XW, hO _ _ _ (by omega) Y, hBW _ _ (Nat.le_refl _) B⟩
set_option maxRecDepth 100000 in
set_option maxHeartbeats 1000000 in
theorem cut_n1 (a b c d k : Int) (w : World) (h : 1 ≤ k) : Calls Try.prog 69 #[.agg #[.int .i64 1, .int .i64 a, .int .i64 b, .int .i64 c, .int .i64 d], .int .i64 k] w fun e w' => e = .returned (Value.agg #[.int .i64 1, .int .i64 a, .int .i64 0, .int .i64 0, .int .i64 0]) ∧ Below w.heap.size w w' := by
  obtain ⟨W, hcl, XW, YW, hB⟩ := clear_1 a b c d w
  have BW := Lib.hid hB
  have hz := YW.lt
  have Y2 := YW.put5 (.int .i64 1) (.int .i64 a) (.int .i64 0) (.int .i64 0) (.int .i64 0)
  obtain ⟨f0, f1, f2, f3, f4⟩ := YW.free5
  obtain ⟨u0, u1, u2, u3, u4⟩ := YW.cell5
  obtain ⟨x0, x1, x2, x3, x4⟩ := XW.cell5
  have Y3 := Lib.hid Y2.cell5
  clear XW YW Y2 hB
  go_enter Try.func69, Try.ntmps69
  go_wp2
  obtain ⟨y0, y1, y2, y3, y4⟩ := Y3.out
  exact bodyPost_ret (v := .agg #[.int .i64 1, .int .i64 a, .int .i64 0, .int .i64 0, .int .i64 0]) (by simp [results, Try.results69, go_sem, y0, y1, y2, y3, y4]) rfl ⟨rfl, below_put5 BW.out (by omega) _ _ _ _ _⟩
set_option maxRecDepth 100000 in
set_option maxHeartbeats 1000000 in
theorem cut_k1 (N a b c d : Int) (w : World) (h : 1 < N) : Calls Try.prog 69 #[.agg #[.int .i64 N, .int .i64 a, .int .i64 b, .int .i64 c, .int .i64 d], .int .i64 1] w fun e w' => e = .returned (Value.agg #[.int .i64 1, .int .i64 a, .int .i64 0, .int .i64 0, .int .i64 0]) ∧ Below w.heap.size w w' := by
  obtain ⟨W, hcl, XW, YW, hB⟩ := clear_1 a b c d w
  have BW := Lib.hid hB
  have hz := YW.lt
  have Y2 := YW.put5 (.int .i64 1) (.int .i64 a) (.int .i64 0) (.int .i64 0) (.int .i64 0)
  obtain ⟨f0, f1, f2, f3, f4⟩ := YW.free5
  obtain ⟨u0, u1, u2, u3, u4⟩ := YW.cell5
  obtain ⟨x0, x1, x2, x3, x4⟩ := XW.cell5
  have Y3 := Lib.hid Y2.cell5
  clear XW YW Y2 hB
  go_enter Try.func69, Try.ntmps69
  go_wp2
  obtain ⟨y0, y1, y2, y3, y4⟩ := Y3.out
  exact bodyPost_ret (v := .agg #[.int .i64 1, .int .i64 a, .int .i64 0, .int .i64 0, .int .i64 0]) (by simp [results, Try.results69, go_sem, y0, y1, y2, y3, y4]) rfl ⟨rfl, below_put5 BW.out (by omega) _ _ _ _ _⟩
set_option maxRecDepth 100000 in
/-- the world behind the clearing, from place 2 on -/
theorem clear_2 (a b c d : Int) (w : World) : ∃ W, (∀ ty, (Builtin.clear_ #[47] ty #[.slice (some ⟨w.heap.size, 3, none⟩) 2 2]).run Try.prog ((w.alloc (.cells #[.int .i64 2, .int .i64 a, .int .i64 b, .int .i64 c, .int .i64 d] 25)).alloc (.cells #[.int .i64 0, .int .i64 0, .int .i64 0, .int .i64 0, .int .i64 0] 25)) = .ok (.tuple #[]) W) ∧
      Box W 25 w.heap.size #[.int .i64 2, .int .i64 a, .int .i64 b, .int .i64 0, .int .i64 0] ∧ Box W 25 (w.heap.size + 1) #[.int .i64 0, .int .i64 0, .int .i64 0, .int .i64 0, .int .i64 0] ∧ Below w.heap.size w W := by
  have X0 := Box.new w 25 #[.int .i64 2, .int .i64 a, .int .i64 b, .int .i64 c, .int .i64 d]
  have X := X0.alloc (.cells #[.int .i64 0, .int .i64 0, .int .i64 0, .int .i64 0, .int .i64 0] 25)
  have Y := Box.new (w.alloc (.cells #[.int .i64 2, .int .i64 a, .int .i64 b, .int .i64 c, .int .i64 d] 25)) 25 #[.int .i64 0, .int .i64 0, .int .i64 0, .int .i64 0, .int .i64 0]
  rw [show (w.alloc (.cells #[.int .i64 2, .int .i64 a, .int .i64 b, .int .i64 c, .int .i64 d] 25)).heap.size = w.heap.size + 1 from Array.size_push ..] at Y
  have B : Below w.heap.size w ((w.alloc (.cells #[.int .i64 2, .int .i64 a, .int .i64 b, .int .i64 c, .int .i64 d] 25)).alloc (.cells #[.int .i64 0, .int .i64 0, .int .i64 0, .int .i64 0, .int .i64 0] 25)) := ((Below.refl _ w).alloc (Nat.le_refl _) _).alloc (by simp) _
  obtain ⟨W, hcl, XW, hO, hBW, hsz⟩ := clear_box 2 (by omega) X
  exact ⟨W, hcl, XW, hO _ _ _ (by omega) Y, hBW _ _ (Nat.le_refl _) B⟩
set_option maxRecDepth 100000 in
set_option maxHeartbeats 1000000 in
theorem cut_n2 (a b c d k : Int) (w : World) (h : 2 ≤ k) : Calls Try.prog 69 #[.agg #[.int .i64 2, .int .i64 a, .int .i64 b, .int .i64 c, .int .i64 d], .int .i64 k] w fun e w' => e = .returned (Value.agg #[.int .i64 2, .int .i64 a, .int .i64 b, .int .i64 0, .int .i64 0]) ∧ Below w.heap.size w w' := by
  obtain ⟨W, hcl, XW, YW, hB⟩ := clear_2 a b c d w
  have BW := Lib.hid hB
  have hz := YW.lt
  have Y2 := YW.put5 (.int .i64 2) (.int .i64 a) (.int .i64 b) (.int .i64 0) (.int .i64 0)
  obtain ⟨f0, f1, f2, f3, f4⟩ := YW.free5
  obtain ⟨u0, u1, u2, u3, u4⟩ := YW.cell5
  obtain ⟨x0, x1, x2, x3, x4⟩ := XW.cell5
  have Y3 := Lib.hid Y2.cell5
  clear XW YW Y2 hB
  go_enter Try.func69, Try.ntmps69
  go_wp2
  obtain ⟨y0, y1, y2, y3, y4⟩ := Y3.out
  exact bodyPost_ret (v := .agg #[.int .i64 2, .int .i64 a, .int .i64 b, .int .i64 0, .int .i64 0]) (by simp [results, Try.results69, go_sem, y0, y1, y2, y3, y4]) rfl ⟨rfl, below_put5 BW.out (by omega) _ _ _ _ _⟩
set_option maxRecDepth 100000 in
set_option maxHeartbeats 1000000 in
theorem cut_k2 (N a b c d : Int) (w : World) (h : 2 < N) : Calls Try.prog 69 #[.agg #[.int .i64 N, .int .i64 a, .int .i64 b, .int .i64 c, .int .i64 d], .int .i64 2] w fun e w' => e = .returned (Value.agg #[.int .i64 2, .int .i64 a, .int .i64 b, .int .i64 0, .int .i64 0]) ∧ Below w.heap.size w w' := by
  obtain ⟨W, hcl, XW, YW, hB⟩ := clear_2 a b c d w
  have BW := Lib.hid hB
  have hz := YW.lt
  have Y2 := YW.put5 (.int .i64 2) (.int .i64 a) (.int .i64 b) (.int .i64 0) (.int .i64 0)
  obtain ⟨f0, f1, f2, f3, f4⟩ := YW.free5
  obtain ⟨u0, u1, u2, u3, u4⟩ := YW.cell5
  obtain ⟨x0, x1, x2, x3, x4⟩ := XW.cell5
  have Y3 := Lib.hid Y2.cell5
  clear XW YW Y2 hB
  go_enter Try.func69, Try.ntmps69
  go_wp2
  obtain ⟨y0, y1, y2, y3, y4⟩ := Y3.out
  exact bodyPost_ret (v := .agg #[.int .i64 2, .int .i64 a, .int .i64 b, .int .i64 0, .int .i64 0]) (by simp [results, Try.results69, go_sem, y0, y1, y2, y3, y4]) rfl ⟨rfl, below_put5 BW.out (by omega) _ _ _ _ _⟩
set_option maxRecDepth 100000 in
/-- the world behind the clearing, from place 3 on -/
theorem clear_3 (a b c d : Int) (w : World) : ∃ W, (∀ ty, (Builtin.clear_ #[47] ty #[.slice (some ⟨w.heap.size, 4, none⟩) 1 1]).run Try.prog ((w.alloc (.cells #[.int .i64 3, .int .i64 a, .int .i64 b, .int .i64 c, .int .i64 d] 25)).alloc (.cells #[.int .i64 0, .int .i64 0, .int .i64 0, .int .i64 0, .int .i64 0] 25)) = .ok (.tuple #[]) W) ∧
      Box W 25 w.heap.size #[.int .i64 3, .int .i64 a, .int .i64 b, .int .i64 c, .int .i64 0] ∧ Box W 25 (w.heap.size + 1) #[.int .i64 0, .int .i64 0, .int .i64 0, .int .i64 0, .int .i64 0] ∧ Below w.heap.size w W := by
  have X0 := Box.new w 25 #[.int .i64 3, .int .i64 a, .int .i64 b, .int .i64 c, .int .i64 d]
  have X := X0.alloc (.cells #[.int .i64 0, .int .i64 0, .int .i64 0, .int .i64 0, .int .i64 0] 25)
  have Y := Box.new (w.alloc (.cells #[.int .i64 3, .int .i64 a, .int .i64 b, .int .i64 c, .int .i64 d] 25)) 25 #[.int .i64 0, .int .i64 0, .int .i64 0, .int .i64 0, .int .i64 0]
  rw [show (w.alloc (.cells #[.int .i64 3, .int .i64 a, .int .i64 b, .int .i64 c, .int .i64 d] 25)).heap.size = w.heap.size + 1 from Array.size_push ..] at Y
  have B : Below w.heap.size w ((w.alloc (.cells #[.int .i64 3, .int .i64 a, .int .i64 b, .int .i64 c, .int .i64 d] 25)).alloc (.cells #[.int .i64 0, .int .i64 0, .int .i64 0, .int .i64 0, .int .i64 0] 25)) := ((Below.refl _ w).alloc (Nat.le_refl _) _).alloc (by simp) _
  obtain ⟨W, hcl, XW, hO, hBW, hsz⟩ := clear_box 3 (by omega) X
  exact ⟨W, hcl, XW, hO _ _ _ (by omega) Y, hBW _ _ (Nat.le_refl _) B⟩
set_option maxRecDepth 100000 in
set_option maxHeartbeats 1000000 in
theorem cut_n3 (a b c d k : Int) (w : World) (h : 3 ≤ k) : Calls Try.prog 69 #[.agg #[.int .i64 3, .int .i64 a, .int .i64 b, .int .i64 c, .int .i64 d], .int .i64 k] w fun e w' => e = .returned (Value.agg #[.int .i64 3, .int .i64 a, .int .i64 b, .int .i64 c, .int .i64 0]) ∧ Below w.heap.size w w' := by
  obtain ⟨W, hcl, XW, YW, hB⟩ := clear_3 a b c d w
  have BW := Lib.hid hB
  have hz := YW.lt
  have Y2 := YW.put5 (.int .i64 3) (.int .i64 a) (.int .i64 b) (.int .i64 c) (.int .i64 0)
  obtain ⟨f0, f1, f2, f3, f4⟩ := YW.free5
  obtain ⟨u0, u1, u2, u3, u4⟩ := YW.cell5
  obtain ⟨x0, x1, x2, x3, x4⟩ := XW.cell5
  have Y3 := Lib.hid Y2.cell5
  clear XW YW Y2 hB
  go_enter Try.func69, Try.ntmps69
  go_wp2
  obtain ⟨y0, y1, y2, y3, y4⟩ := Y3.out
  exact bodyPost_ret (v := .agg #[.int .i64 3, .int .i64 a, .int .i64 b, .int .i64 c, .int .i64 0]) (by simp [results, Try.results69, go_sem, y0, y1, y2, y3, y4]) rfl ⟨rfl, below_put5 BW.out (by omega) _ _ _ _ _⟩
set_option maxRecDepth 100000 in
set_option maxHeartbeats 1000000 in
theorem cut_k3 (N a b c d : Int) (w : World) (h : 3 < N) : Calls Try.prog 69 #[.agg #[.int .i64 N, .int .i64 a, .int .i64 b, .int .i64 c, .int .i64 d], .int .i64 3] w fun e w' => e = .returned (Value.agg #[.int .i64 3, .int .i64 a, .int .i64 b, .int .i64 c, .int .i64 0]) ∧ Below w.heap.size w w' := by
  obtain ⟨W, hcl, XW, YW, hB⟩ := clear_3 a b c d w
  have BW := Lib.hid hB
  have hz := YW.lt
  have Y2 := YW.put5 (.int .i64 3) (.int .i64 a) (.int .i64 b) (.int .i64 c) (.int .i64 0)
  obtain ⟨f0, f1, f2, f3, f4⟩ := YW.free5
  obtain ⟨u0, u1, u2, u3, u4⟩ := YW.cell5
  obtain ⟨x0, x1, x2, x3, x4⟩ := XW.cell5
  have Y3 := Lib.hid Y2.cell5
  clear XW YW Y2 hB
  go_enter Try.func69, Try.ntmps69
  go_wp2
  obtain ⟨y0, y1, y2, y3, y4⟩ := Y3.out
  exact bodyPost_ret (v := .agg #[.int .i64 3, .int .i64 a, .int .i64 b, .int .i64 c, .int .i64 0]) (by simp [results, Try.results69, go_sem, y0, y1, y2, y3, y4]) rfl ⟨rfl, below_put5 BW.out (by omega) _ _ _ _ _⟩
set_option maxRecDepth 100000 in
set_option maxHeartbeats 1000000 in
theorem cut_n4 (a b c d k : Int) (w : World) (h : 4 ≤ k) : Calls Try.prog 69 #[.agg #[.int .i64 4, .int .i64 a, .int .i64 b, .int .i64 c, .int .i64 d], .int .i64 k] w fun e w' => e = .returned (Value.agg #[.int .i64 4, .int .i64 a, .int .i64 b, .int .i64 c, .int .i64 d]) ∧ Below w.heap.size w w' := by
  have hcl : ∀ W ty a c, (Builtin.clear_ #[47] ty #[.slice a 0 c]).run Try.prog W = .ok (.tuple #[]) W := fun W ty a c => by cases a <;> simp [Builtin.clear_, run_underlying Try.underlying47]
  go_enter Try.func69, Try.ntmps69
  go_wp2
  exact bodyPost_ret (v := .agg #[.int .i64 4, .int .i64 a, .int .i64 b, .int .i64 c, .int .i64 d]) (by simp [results, Try.results69, go_sem]) rfl ⟨rfl, ((Below.refl _ _).alloc (Nat.le_refl _) _).alloc (by simp) _⟩
set_option maxRecDepth 100000 in
set_option maxHeartbeats 1000000 in
theorem cut_k4 (N a b c d : Int) (w : World) (h : 4 < N) : Calls Try.prog 69 #[.agg #[.int .i64 N, .int .i64 a, .int .i64 b, .int .i64 c, .int .i64 d], .int .i64 4] w fun e w' => e = .returned (Value.agg #[.int .i64 4, .int .i64 a, .int .i64 b, .int .i64 c, .int .i64 d]) ∧ Below w.heap.size w w' := by
  have hcl : ∀ W ty a c, (Builtin.clear_ #[47] ty #[.slice a 0 c]).run Try.prog W = .ok (.tuple #[]) W := fun W ty a c => by cases a <;> simp [Builtin.clear_, run_underlying Try.underlying47]
  go_enter Try.func69, Try.ntmps69
  go_wp2
  exact bodyPost_ret (v := .agg #[.int .i64 4, .int .i64 a, .int .i64 b, .int .i64 c, .int .i64 d]) (by simp [results, Try.results69, go_sem]) rfl ⟨rfl, ((Below.refl _ _).alloc (Nat.le_refl _) _).alloc (by simp) _⟩
/-- what is left of a look -/
def cutP (N k : Nat) (a b c d : Int) : Nat × Int × Int × Int × Int := (min N k, if 0 < min N k then a else 0, if 1 < min N k then b else 0, if 2 < min N k then c else 0, if 3 < min N k then d else 0)
theorem cut_any (N k : Nat) (a b c d : Int) (w : World) (h : min N k ≤ 4) (m : Nat) (a' b' c' d' : Int) (H : Hid (cutP N k a b c d = (m, a', b', c', d'))) :
    Calls Try.prog 69 #[.agg #[.int .i64 N, .int .i64 a, .int .i64 b, .int .i64 c, .int .i64 d], .int .i64 k] w fun e w' => e = .returned (Value.agg #[.int .i64 m, .int .i64 a', .int .i64 b', .int .i64 c', .int .i64 d']) ∧ Below w.heap.size w w' := by
  have hh := H.out
  unfold cutP at hh
  by_cases hnk : N ≤ k
  · rw [Nat.min_eq_left hnk] at hh h
    have hm : N = 0 ∨ N = 1 ∨ N = 2 ∨ N = 3 ∨ N = 4 := by omega
    rcases hm with rfl | rfl | rfl | rfl | rfl
    all_goals
      cases hh
      first
        | exact cut_n0 a b c d k w (by omega)
        | exact cut_n1 a b c d k w (by omega)
        | exact cut_n2 a b c d k w (by omega)
        | exact cut_n3 a b c d k w (by omega)
        | exact cut_n4 a b c d k w (by omega)
  · rw [Nat.min_eq_right (by omega)] at hh h
    have hm : k = 0 ∨ k = 1 ∨ k = 2 ∨ k = 3 ∨ k = 4 := by omega
    rcases hm with rfl | rfl | rfl | rfl | rfl
    all_goals
      cases hh
      first
        | exact cut_k0 N a b c d w (by omega)
        | exact cut_k1 N a b c d w (by omega)
        | exact cut_k2 N a b c d w (by omega)
        | exact cut_k3 N a b c d w (by omega)
        | exact cut_k4 N a b c d w (by omega)
theorem cutP_look {l : List Int} {n : Nat} {a b c d : Int} (hl : l.length ≤ 4) (hp : pad l = (n, a, b, c, d)) (k : Nat) : cutP n k a b c d = pad (l.take k) := by
  simp only [pad, Prod.mk.injEq] at hp
  obtain ⟨rfl, rfl, rfl, rfl, rfl⟩ := hp
  have e : ∀ i, (l.take k)[i]?.getD 0 = if i < min l.length k then l[i]?.getD 0 else 0 := fun i => by
    rw [List.getElem?_take]
    by_cases h1 : i < k
    · rw [if_pos h1]
      by_cases h2 : i < l.length
      · rw [if_pos (by omega)]
      · rw [if_neg (by omega), List.getElem?_eq_none (by omega)]; rfl
    · rw [if_neg h1, if_neg (by omega)]; rfl
  unfold cutP pad
  rw [e 0, e 1, e 2, e 3, List.length_take, Nat.min_comm]
end Go.Proofs.Ytdahaajfkjmflaa.s13

namespace Go.Proofs.Ytdahaajfkjmflaa.s13
set_option linter.unusedVariables false
set_option linter.unusedSimpArgs false
open Go.RowKit
open kit

theorem info_int : ∃ i, Try.prog.info? 3 = some i := info_of_underlying Try.underlying3
theorem cells_int : Try.prog.cellsOf 3 = 1 := by kernel_rfl
theorem eq_item (D i : Nat) (is : List Nat) (xs ys : Array Value) (x y : Int) (w : World) (hx : xs[i]? = some (.int .i64 x)) (hy : ys[i]? = some (.int .i64 y)) :
    (Op.eqItems (D + 1) 3 1 xs ys (i :: is)).run Try.prog w = if x = y then (Op.eqItems (D + 1) 3 1 xs ys is).run Try.prog w else .ok false w := by
  have hp : Try.prog.plainKey 3 = true := by kernel_rfl
  have p1 := run_part_plain (P := Try.prog) w hp (xs := xs) (off := i * 1) (by rw [Nat.mul_one]; exact hx)
  have p2 := run_part_plain (P := Try.prog) w hp (xs := ys) (off := i * 1) (by rw [Nat.mul_one]; exact hy)
  have p3 := run_equalIn_int (P := Try.prog) w D 3 .i64 .i64 x y Try.underlying3
  simp only [Op.eqItems, Sem.run_bind, p1, p2, p3, Result.andThen_ok]
  by_cases e : x = y
  · rw [if_pos e, beq_iff_eq.2 e]; simp
  · rw [if_neg e, beq_eq_false_iff_ne.2 e]; simp
theorem eq_arr (D : Nat) (a b c d a' b' c' d' : Int) (w : World) : (Op.equalIn (D + 2) 23 (.agg #[.int .i64 a, .int .i64 b, .int .i64 c, .int .i64 d]) (.agg #[.int .i64 a', .int .i64 b', .int .i64 c', .int .i64 d'])).run Try.prog w = .ok (decide (a = a' ∧ b = b' ∧ c = c' ∧ d = d')) w := by
  obtain ⟨i, hi⟩ := info_int
  rw [run_equalIn_array (P := Try.prog) w (D + 1) _ _ Try.underlying23 hi, cells_int]
  show (Op.eqItems (D + 1) 3 1 _ _ [0, 1, 2, 3]).run Try.prog w = _
  rw [eq_item D 0 _ _ _ a a' w rfl rfl, eq_item D 1 _ _ _ b b' w rfl rfl, eq_item D 2 _ _ _ c c' w rfl rfl, eq_item D 3 _ _ _ d d' w rfl rfl]
  by_cases h0 : a = a'
  · by_cases h1 : b = b'
    · by_cases h2 : c = c'
      · by_cases h3 : d = d'
        · rw [if_pos h0, if_pos h1, if_pos h2, if_pos h3, decide_eq_true ⟨h0, h1, h2, h3⟩]; simp [Op.eqItems]
        · rw [if_pos h0, if_pos h1, if_pos h2, if_neg h3, decide_eq_false (fun h => h3 h.2.2.2)]
      · rw [if_pos h0, if_pos h1, if_neg h2, decide_eq_false (fun h => h2 h.2.2.1)]
    · rw [if_pos h0, if_neg h1, decide_eq_false (fun h => h1 h.2.1)]
  · rw [if_neg h0, decide_eq_false (fun h => h0 h.1)]
theorem look_fields : Try.prog.fieldsOf 25 = Try.prog.fieldsOf 25 := rfl
theorem look_under : Try.prog.underlying 25 = some (.struct (Try.prog.fieldsOf 25)) := by kernel_rfl
theorem look_stood : Try.prog.stoodInHeld 25 = false := by kernel_rfl
theorem guard_arr (op : BinOp) (x y : Operand) (xs ys : Array Value) (w : World) : (eqGuard op 23 x y (.agg xs) (.agg ys)).run Try.prog w = .ok () w := run_eqGuard_agg w op _ x y xs ys (by kernel_rfl)
theorem guard_look (op : BinOp) (x y : Operand) (xs ys : Array Value) (w : World) : (eqGuard op 25 x y (.agg xs) (.agg ys)).run Try.prog w = .ok () w := run_eqGuard_agg w op _ x y xs ys (by kernel_rfl)
theorem eq_look (D : Nat) (n a b c d n' a' b' c' d' : Int) (w : World) : (Op.equalIn (D + 3) 25 (.agg #[.int .i64 n, .int .i64 a, .int .i64 b, .int .i64 c, .int .i64 d]) (.agg #[.int .i64 n', .int .i64 a', .int .i64 b', .int .i64 c', .int .i64 d'])).run Try.prog w = .ok (decide (n = n' ∧ a = a' ∧ b = b' ∧ c = c' ∧ d = d')) w := by
  rw [run_equalIn_struct (P := Try.prog) w (D + 2) 25 _ _ look_under look_stood]
  unfold Program.fieldsOf
  rw [Try.underlying25]
  have p1 : ∀ x y z u v : Value, (part 3 #[x, y, z, u, v] 0).run Try.prog w = .ok x w := fun x y z u v => run_part_plain (P := Try.prog) w (by kernel_rfl) (by rfl)
  have p2 : ∀ x y z u v : Value, (part 23 #[x, y, z, u, v] 1).run Try.prog w = .ok (.agg #[y, z, u, v]) w := fun x y z u v => by kernel_rfl
  have p3 := run_equalIn_int (P := Try.prog) w (D + 1) 3 .i64 .i64 n n' Try.underlying3
  have p4 := eq_arr D a b c d a' b' c' d' w
  have n1 : ¬ "N" = "_" := by decide
  have n2 : ¬ "S" = "_" := by decide
  simp only [Op.eqFields, n1, n2, ne_eq, not_false_eq_true, if_true, Sem.run_bind, p1, p2, p3, p4, Result.andThen_ok]
  by_cases h : n = n'
  · rw [beq_iff_eq.2 h]
    by_cases k : a = a' ∧ b = b' ∧ c = c' ∧ d = d'
    · rw [decide_eq_true k] at p4
      rw [decide_eq_true ⟨h, k⟩]
      simp [p2, p4, Op.eqFields]
    · rw [decide_eq_false k] at p4
      rw [decide_eq_false (fun e => k e.2)]
      simp [p2, p4, Op.eqFields]
  · rw [beq_eq_false_iff_ne.2 h]
    simp [h]
theorem eql_arr (a b c d a' b' c' d' : Int) (w : World) : (binOp .eql 23 (.agg #[.int .i64 a, .int .i64 b, .int .i64 c, .int .i64 d]) (.agg #[.int .i64 a', .int .i64 b', .int .i64 c', .int .i64 d'])).run Try.prog w = .ok (.bool (decide (a = a' ∧ b = b' ∧ c = c' ∧ d = d'))) w := by
  rw [run_eql_struct, eq_arr 9998]; rfl
theorem neq_arr (a b c d a' b' c' d' : Int) (w : World) : (binOp .neq 23 (.agg #[.int .i64 a, .int .i64 b, .int .i64 c, .int .i64 d]) (.agg #[.int .i64 a', .int .i64 b', .int .i64 c', .int .i64 d'])).run Try.prog w = .ok (.bool (!decide (a = a' ∧ b = b' ∧ c = c' ∧ d = d'))) w := by
  rw [run_neq_struct, eq_arr 9998]; rfl
theorem eql_look (n a b c d n' a' b' c' d' : Int) (w : World) : (binOp .eql 25 (.agg #[.int .i64 n, .int .i64 a, .int .i64 b, .int .i64 c, .int .i64 d]) (.agg #[.int .i64 n', .int .i64 a', .int .i64 b', .int .i64 c', .int .i64 d'])).run Try.prog w = .ok (.bool (decide (n = n' ∧ a = a' ∧ b = b' ∧ c = c' ∧ d = d'))) w := by
  rw [run_eql_struct, eq_look 9997]; rfl
theorem neq_look (n a b c d n' a' b' c' d' : Int) (w : World) : (binOp .neq 25 (.agg #[.int .i64 n, .int .i64 a, .int .i64 b, .int .i64 c, .int .i64 d]) (.agg #[.int .i64 n', .int .i64 a', .int .i64 b', .int .i64 c', .int .i64 d'])).run Try.prog w = .ok (.bool (!decide (n = n' ∧ a = a' ∧ b = b' ∧ c = c' ∧ d = d'))) w := by
  rw [run_neq_struct, eq_look 9997]; rfl
end Go.Proofs.Ytdahaajfkjmflaa.s13

namespace Go.Proofs.Ytdahaajfkjmflaa.s13
set_option linter.unusedVariables false
set_option linter.unusedSimpArgs false
open Go.RowKit
open kit

theorem later_cells {W : World} {t : TypeId} {g : Nat} {x0 x1 x2 x3 x4 : Value} (X : Box W t g #[x0, x1, x2, x3, x4]) (p : Later W) : p.W.cell? ⟨g, 0, none⟩ = some x0 ∧ p.W.cell? ⟨g, 1, none⟩ = some x1 ∧ p.W.cell? ⟨g, 2, none⟩ = some x2 ∧ p.W.cell? ⟨g, 3, none⟩ = some x3 ∧ p.W.cell? ⟨g, 4, none⟩ = some x4 :=
  (X.below p.h).cell5
theorem lkS (n a b c d : Int) (w : World) : (Instr.field 25 (.agg #[.int .i64 n, .int .i64 a, .int .i64 b, .int .i64 c, .int .i64 d]) 1).run Try.prog w = .ok (.agg #[.int .i64 a, .int .i64 b, .int .i64 c, .int .i64 d]) w := by kernel_rfl
set_option maxRecDepth 100000 in
set_option maxHeartbeats 1000000 in
theorem check_terms (n a b c d t : Int) (w : World) (h : t < 1 ∨ 8 < t) : Calls Try.prog 41 #[.agg #[.int .i64 n, .int .i64 a, .int .i64 b, .int .i64 c, .int .i64 d], .int .i64 t] w fun e w' => e = .returned (.int .i64 2) ∧ Below w.heap.size w w' := by
  go_enter Try.func41, Try.ntmps41
  go_wp2_with (go_at_call 67; refine (isterms_no t _ h).mono ?_; rintro e w1 ⟨rfl, rfl⟩)
  go_ret
  exact ⟨rfl, (Below.refl _ _).alloc (Nat.le_refl _) _⟩
set_option maxRecDepth 100000 in
set_option maxHeartbeats 1000000 in
theorem check_length (n a b c d t : Int) (w : World) (h1 : 1 ≤ t) (h2 : t ≤ 8) (h : n < 0 ∨ 4 < n) : Calls Try.prog 41 #[.agg #[.int .i64 n, .int .i64 a, .int .i64 b, .int .i64 c, .int .i64 d], .int .i64 t] w fun e w' => e = .returned (.int .i64 3) ∧ Below w.heap.size w w' := by
  go_enter Try.func41, Try.ntmps41
  go_wp2_with (go_at_call 67; refine (isterms_yes t _ h1 h2).mono ?_; rintro e w1 ⟨rfl, rfl⟩)
  have X := Box.new w 25 #[.int .i64 n, .int .i64 a, .int .i64 b, .int .i64 c, .int .i64 d]
  have B := Lib.hid ((Below.refl w.heap.size w).alloc (Nat.le_refl _) (.cells #[.int .i64 n, .int .i64 a, .int .i64 b, .int .i64 c, .int .i64 d] 25))
  generalize w.alloc (.cells #[.int .i64 n, .int .i64 a, .int .i64 b, .int .i64 c, .int .i64 d] 25) = W at X B ⊢
  have z0 : ∀ p : Later W, p.W.cell? ⟨w.heap.size, 0, none⟩ = some (.int .i64 n) := fun p => (later_cells X p).1
  clear X
  refine wp_region_later (by kernel_rfl) (by kernel_rfl) ?_
  repeat (go_big_quiet_step ((go_at_call 68; exact calls_same (islen_no n _ h))))
  refine wpQuiet_nil ?_
  rintro w5 ⟨p5, rfl⟩
  have B5 := Lib.hid (below_on B.out (Nat.le_refl _) p5.h)
  generalize p5.W = w6 at B5 ⊢
  go_wp2
  go_ret
  exact ⟨rfl, B5.out⟩
theorem cutP_self (N : Nat) (a b c d : Int) : ∃ a' b' c' d', cutP N N a b c d = (N, a', b', c', d') ∧ a' = (if 0 < N then a else 0) ∧ b' = (if 1 < N then b else 0) ∧ c' = (if 2 < N then c else 0) ∧ d' = (if 3 < N then d else 0) := by
  unfold cutP; rw [Nat.min_self]; exact ⟨_, _, _, _, rfl, rfl, rfl, rfl, rfl⟩
set_option maxRecDepth 100000 in
set_option maxHeartbeats 2000000 in
theorem check_form (N : Nat) (a b c d a' b' c' d' t : Int) (w : World) (h1 : 1 ≤ t) (h2 : t ≤ 8) (hN : N ≤ 4) (H : Hid (cutP N N a b c d = (N, a', b', c', d'))) (hne : ¬ (a' = a ∧ b' = b ∧ c' = c ∧ d' = d)) : Calls Try.prog 41 #[.agg #[.int .i64 N, .int .i64 a, .int .i64 b, .int .i64 c, .int .i64 d], .int .i64 t] w fun e w' => e = .returned (.int .i64 3) ∧ Below w.heap.size w w' := by
  have n1 : (0 : Int) ≤ N := by omega
  have n2 : (N : Int) ≤ 4 := by omega
  go_enter Try.func41, Try.ntmps41
  go_wp2_with (go_at_call 67; refine (isterms_yes t _ h1 h2).mono ?_; rintro e w1 ⟨rfl, rfl⟩)
  have X := Box.new w 25 #[.int .i64 N, .int .i64 a, .int .i64 b, .int .i64 c, .int .i64 d]
  have B := Lib.hid ((Below.refl w.heap.size w).alloc (Nat.le_refl _) (.cells #[.int .i64 N, .int .i64 a, .int .i64 b, .int .i64 c, .int .i64 d] 25))
  generalize w.alloc (.cells #[.int .i64 N, .int .i64 a, .int .i64 b, .int .i64 c, .int .i64 d] 25) = W at X B ⊢
  have z := fun p : Later W => later_cells X p
  have z0 := fun p : Later W => (z p).1
  have z1 := fun p : Later W => (z p).2.1
  have z2 := fun p : Later W => (z p).2.2.1
  have z3 := fun p : Later W => (z p).2.2.2.1
  have z4 := fun p : Later W => (z p).2.2.2.2
  have zs := lkS N a' b' c' d'
  have hq : decide (a' = a ∧ b' = b ∧ c' = c ∧ d' = d) = false := decide_eq_false hne
  have zq : ∀ W, (binOp .neq 23 (.agg #[.int .i64 a', .int .i64 b', .int .i64 c', .int .i64 d']) (.agg #[.int .i64 a, .int .i64 b, .int .i64 c, .int .i64 d])).run Try.prog W = .ok (.bool true) W := fun W => by rw [neq_arr, hq]; rfl
  have zg := guard_arr
  clear hq hne
  clear z X
  refine wp_region_later (by kernel_rfl) (by kernel_rfl) ?_
  repeat (go_big_quiet_step ((first | (go_at_call 68; exact calls_same (islen_yes N _ n1 n2)) | (go_at_call 69; exact calls_later (cut_any N N a b c d _ (by omega) N a' b' c' d' H)))))
  refine wpQuiet_nil ?_
  rintro w5 ⟨p5, rfl⟩
  have B5 := Lib.hid (below_on B.out (Nat.le_refl _) p5.h)
  generalize p5.W = w6 at B5 ⊢
  go_wp2
  go_ret
  exact ⟨rfl, B5.out⟩
set_option maxRecDepth 100000 in
set_option maxHeartbeats 2000000 in
theorem check_places (N : Nat) (a b c d t r : Int) (w : World) (h1 : 1 ≤ t) (h2 : t ≤ 8) (hN : N ≤ 4) (H : Hid (cutP N N a b c d = (N, a, b, c, d)))
    (hbad : Hid (∀ i, i < N → (pl a b c d i < 0 ∨ t ≤ pl a b c d i) → r = 14)) (hok : Hid ((∀ i, i < N → 0 ≤ pl a b c d i ∧ pl a b c d i < t) → r = 0)) : Calls Try.prog 41 #[.agg #[.int .i64 N, .int .i64 a, .int .i64 b, .int .i64 c, .int .i64 d], .int .i64 t] w fun e w' => e = .returned (.int .i64 r) ∧ Below w.heap.size w w' := by
  have n1 : (0 : Int) ≤ N := by omega
  have n2 : (N : Int) ≤ 4 := by omega
  go_enter Try.func41, Try.ntmps41
  go_wp2_with (go_at_call 67; refine (isterms_yes t _ h1 h2).mono ?_; rintro e w1 ⟨rfl, rfl⟩)
  have X := Box.new w 25 #[.int .i64 N, .int .i64 a, .int .i64 b, .int .i64 c, .int .i64 d]
  have B := Lib.hid ((Below.refl w.heap.size w).alloc (Nat.le_refl _) (.cells #[.int .i64 N, .int .i64 a, .int .i64 b, .int .i64 c, .int .i64 d] 25))
  generalize w.alloc (.cells #[.int .i64 N, .int .i64 a, .int .i64 b, .int .i64 c, .int .i64 d] 25) = W at X B ⊢
  have z := fun p : Later W => later_cells X p
  have z0 := fun p : Later W => (z p).1
  have z1 := fun p : Later W => (z p).2.1
  have z2 := fun p : Later W => (z p).2.2.1
  have z3 := fun p : Later W => (z p).2.2.2.1
  have z4 := fun p : Later W => (z p).2.2.2.2
  have zs := lkS N a b c d
  have zq : ∀ W, (binOp .neq 23 (.agg #[.int .i64 a, .int .i64 b, .int .i64 c, .int .i64 d]) (.agg #[.int .i64 a, .int .i64 b, .int .i64 c, .int .i64 d])).run Try.prog W = .ok (.bool false) W := fun W => by rw [neq_arr]; simp
  have zg := guard_arr
  have HX := Lib.hid X
  clear z X
  refine wp_region_later (by kernel_rfl) (by kernel_rfl) ?_
  repeat (go_big_quiet_step ((first | (go_at_call 68; exact calls_same (islen_yes N _ n1 n2)) | (go_at_call 69; exact calls_later (cut_any N N a b c d _ (by omega) N a b c d H)))))
  refine wpQuiet_nil ?_
  rintro w5 ⟨p5, rfl⟩
  have B5 := Lib.hid (below_on B.out (Nat.le_refl _) p5.h)
  have X5 := HX.out.below p5.h
  clear z0 z1 z2 z3 z4 zs zq zg HX
  generalize p5.W = w6 at B5 X5 ⊢
  have y0 := (X5.cell 0)
  simp at y0
  have yp := Lib.hid X5.place
  clear X5
  go_wp2
  go_loop [29] (fun i => ∃ k : Nat, i = .int .i64 k ∧ k ≤ N ∧ Hid (∀ j, j < k → 0 ≤ pl a b c d j ∧ pl a b c d j < t)) (fun i => N - (intOf i).toNat)
  case atStart => exact ⟨0, rfl, by omega, Lib.hid (fun j hj => by omega)⟩
  case round =>
    obtain ⟨k, rfl, hk, HK⟩ := hrel
    by_cases hlt : k < N
    · have hk4 : k < 4 := by omega
      have hc := yp.out k hk4
      have hbk := Lib.hid (hbad.out k hlt)
      have hs := Lib.hid (fun h : 0 ≤ pl a b c d k ∧ pl a b c d k < t => (fun j (hj : j < k + 1) => if e : j = k then e ▸ h else HK.out j (by omega) : ∀ j, j < k + 1 → 0 ≤ pl a b c d j ∧ pl a b c d j < t))
      generalize pl a b c d k = x at hc hbk hs
      by_cases hx : x < 0
      · go_wp2
        go_ret
        exact ⟨ret_int (hbk.out (.inl hx)).symm, B5.out⟩
      · have hx0 : 0 ≤ x := by omega
        clear hx
        by_cases hx : t ≤ x
        · go_wp2
          go_ret
          exact ⟨ret_int (hbk.out (.inr hx)).symm, B5.out⟩
        · have hx1 : x < t := by omega
          have hx2 : decide (t ≤ x) = false := decide_eq_false hx
          clear hx
          go_wp2
          go_round
          case rel => exact ⟨k + 1, by go_num, by omega, Lib.hid (hs.out ⟨hx0, hx1⟩)⟩
          case measure => simp [intOf]; omega
    · obtain rfl : k = N := by omega
      go_wp2
      go_ret
      exact ⟨ret_int (hok.out HK.out).symm, B5.out⟩
end Go.Proofs.Ytdahaajfkjmflaa.s13

namespace Go.Proofs.Ytdahaajfkjmflaa.s13
set_option linter.unusedVariables false
set_option linter.unusedSimpArgs false
open Go.RowKit
open kit

/-- a look's cells, whatever they hold -/
abbrev V5 := Int × Int × Int × Int × Int
def no5 : V5 := (0, 0, 0, 0, 0)
def cells5 (x : V5) : List Value := [.int .i64 x.1, .int .i64 x.2.1, .int .i64 x.2.2.1, .int .i64 x.2.2.2.1, .int .i64 x.2.2.2.2]
def flat5 (l : List V5) : List Value := l.flatMap cells5
theorem flat5_len (l : List V5) : (flat5 l).length = l.length * 5 := by
  induction l with
  | nil => rfl
  | cons x r ih => unfold flat5 at *; rw [List.flatMap_cons, List.length_append, ih]; simp [cells5]; omega
theorem flat5_app (l r : List V5) : flat5 (l ++ r) = flat5 l ++ flat5 r := by unfold flat5; rw [List.flatMap_append]
theorem flat5_one (x : V5) : flat5 [x] = cells5 x := by simp [flat5]
theorem flat5_at (l : List V5) : ∀ (i : Nat), i < l.length → ∀ (j : Nat), j < 5 → (flat5 l)[i * 5 + j]? = (cells5 (l[i]?.getD no5))[j]? := by
  induction l with
  | nil => intro i h; simp at h
  | cons x r ih =>
    intro i hi j hj
    unfold flat5
    rw [List.flatMap_cons]
    have hl : (cells5 x).length = 5 := rfl
    cases i with
    | zero => rw [List.getElem?_append_left (by rw [hl]; omega)]; simp
    | succ i =>
      rw [List.getElem?_append_right (by rw [hl]; omega), hl, show (i + 1) * 5 + j - 5 = i * 5 + j by omega]
      have := ih i (by simpa using hi) j hj
      unfold flat5 at this
      rw [this]; simp
/-- a look's cells at an address -/
def At5 (w : World) (b o : Nat) (x : V5) : Prop := w.cell? ⟨b, o, none⟩ = some (.int .i64 x.1) ∧ w.cell? ⟨b, o + 1, none⟩ = some (.int .i64 x.2.1) ∧ w.cell? ⟨b, o + 2, none⟩ = some (.int .i64 x.2.2.1) ∧ w.cell? ⟨b, o + 3, none⟩ = some (.int .i64 x.2.2.2.1) ∧ w.cell? ⟨b, o + 4, none⟩ = some (.int .i64 x.2.2.2.2)
theorem At5.below {w w' : World} {b o : Nat} {x : V5} (h : At5 w b o x) (hB : Below w.heap.size w w') : At5 w' b o x := by
  have hb := cell_lt h.1
  exact ⟨(hB.cell (p := ⟨b, _, none⟩) hb).trans h.1, (hB.cell (p := ⟨b, _, none⟩) hb).trans h.2.1, (hB.cell (p := ⟨b, _, none⟩) hb).trans h.2.2.1, (hB.cell (p := ⟨b, _, none⟩) hb).trans h.2.2.2.1, (hB.cell (p := ⟨b, _, none⟩) hb).trans h.2.2.2.2⟩
/-- a slice of looks that reads as l -/
def Reads5 (w : World) (a : Option Addr) (l : List V5) : Prop := ∀ i, i < l.length → ∃ b off, a = some ⟨b, off, none⟩ ∧ b < w.heap.size ∧ At5 w b (off + i * 5) (l[i]?.getD no5)
theorem Reads5.below {w w' : World} {a : Option Addr} {l : List V5} (h : Reads5 w a l) (hB : Below w.heap.size w w') : Reads5 w' a l := fun i hi => by
  obtain ⟨b, off, e, hb, h0⟩ := h i hi
  exact ⟨b, off, e, Nat.lt_of_lt_of_le hb hB.size, h0.below hB⟩
theorem Reads5.alloc {w : World} {a : Option Addr} {l : List V5} (h : Reads5 w a l) (o : Obj) : Reads5 (w.alloc o) a l := h.below ((Below.refl _ _).alloc (Nat.le_refl _) o)
theorem Reads5.drewN {w : World} {a : Option Addr} {l : List V5} (h : Reads5 w a l) (n : Nat) : Reads5 (w.drewN n) a l := h
theorem Reads5.nil (w : World) (a : Option Addr) : Reads5 w a [] := fun i hi => by simp at hi
theorem reads5_of_row {E : TypeId} {W : World} {base cap n : Nat} {a : Option Addr} {l : List V5} (hn : l.length = n) (h : W.ownsRow base E 5 (.slice a n cap) n (flat5 l)) : Reads5 W a l := by
  intro i hi
  rcases h.2 with ⟨_, h0⟩ | ⟨g, cap', cur, e, _, _, _⟩
  · omega
  · cases e
    have c : ∀ j, j < 5 → W.cell? ⟨g, i * 5 + j, none⟩ = (cells5 (l[i]?.getD no5))[j]? := fun j hj => by
      rw [h.cellAt (i * 5 + j) (by omega), flat5_at l i hi j hj]
    have c0 := c 0 (by omega)
    refine ⟨g, 0, rfl, cell_lt c0, ?_⟩
    rw [Nat.zero_add]
    exact ⟨c0, c 1 (by omega), c 2 (by omega), c 3 (by omega), c 4 (by omega)⟩
theorem info5 : (Try.prog.info? 25).map (fun i => (i.zero, i.size, i.bytes)) = some (some (.agg #[.int .i64 0, .int .i64 0, .int .i64 0, .int .i64 0, .int .i64 0]), 5, 40) := by kernel_rfl
/-- a block that holds looks -/
theorem reads5_block {w : World} {t : TypeId} {g : Nat} {cs : Array Value} {l : List V5} (h : w.heap[g]? = some (.cells cs t (0, 0))) (e : cs.toList = flat5 l) : Reads5 w (some ⟨g, 0, none⟩) l := by
  intro i hi
  have hlt := (Array.getElem?_eq_some_iff.1 h).1
  have c : ∀ j, j < 5 → w.cell? ⟨g, i * 5 + j, none⟩ = (cells5 (l[i]?.getD no5))[j]? := fun j hj => by
    have := flat5_at l i hi j hj
    rw [← e] at this
    unfold World.cell?
    rw [h]
    simpa using this
  refine ⟨g, 0, rfl, hlt, ?_⟩
  rw [Nat.zero_add]
  exact ⟨c 0 (by omega), c 1 (by omega), c 2 (by omega), c 3 (by omega), c 4 (by omega)⟩
end Go.Proofs.Ytdahaajfkjmflaa.s13
