/-
  Layer 5, the program's side: list and its closure.
-/
import Derived.Test.YtkepnjnindolbaaS05F
import Derived.Test.YtkepnjnindolbaaKitInts
import Derived.Deep.LoopGhost
namespace Go.Proofs.Ytkepnjnindolbaa.s05
set_option linter.unusedVariables false
set_option linter.unusedSimpArgs false
open Go.RowKit
open kit

theorem src_at (W0 : World) (n : Nat) (hn : n = W0.heap.size) (v : Value) (t : TypeId) : Src (W0.alloc (.cells #[v] t)) (some ⟨n, 0, none⟩) 1 [v] := hn ▸ src_one W0 v t
/-- the variables of list, and the list that it makes -/
structure LSt (W : World) (z : Nat) (s : ByteArray) (least greatest q f0 f1 : Int) (v : Value) (d : List Int) : Prop where
  S : Box W 9 z #[.string s]
  L : Box W 3 (z + 1) #[.int .i64 least]
  G : Box W 3 (z + 2) #[.int .i64 greatest]
  X : Box W 35 (z + 3) #[v]
  N : Box W 3 (z + 4) #[.int .i64 q]
  F : Box W 24 (z + 5) #[.int .i64 f0, .int .i64 f1]
  row : W.ownsRow (z + 6) 3 1 v d.length (d.map (Value.int .i64))
  size : z + 6 ≤ W.heap.size
theorem LSt.below {W W' : World} {z : Nat} {s : ByteArray} {least greatest q f0 f1 : Int} {v : Value} {d : List Int} (h : LSt W z s least greatest q f0 f1 v d) (hB : Below W.heap.size W W') : LSt W' z s least greatest q f0 f1 v d :=
  ⟨h.S.below hB, h.L.below hB, h.G.below hB, h.X.below hB, h.N.below hB, h.F.below hB, row_below h.row hB, Nat.le_trans h.size hB.size⟩
theorem LSt.next {W : World} {z : Nat} {s : ByteArray} {least greatest q f0 f1 : Int} {v : Value} {d : List Int} (h : LSt W z s least greatest q f0 f1 v d) (q' : Int) : LSt (W.setCell ⟨z + 4, 0, none⟩ (.int .i64 q')) z s least greatest q' f0 f1 v d :=
  ⟨h.S.other (by omega) _, h.L.other (by omega) _, h.G.other (by omega) _, h.X.other (by omega) _, h.N.set1 _, h.F.other (by omega) _, row_other h.row _ _ (by omega) _, by simpa using h.size⟩
theorem LSt.fault {W : World} {z : Nat} {s : ByteArray} {least greatest q f0 f1 : Int} {v : Value} {d : List Int} (h : LSt W z s least greatest q f0 f1 v d) (g0 g1 : Int) : LSt ((W.setCell ⟨z + 5, 0, none⟩ (.int .i64 g0)).setCell ⟨z + 5, 1, none⟩ (.int .i64 g1)) z s least greatest q g0 g1 v d :=
  ⟨(h.S.other (by omega) _).other (by omega) _, (h.L.other (by omega) _).other (by omega) _, (h.G.other (by omega) _).other (by omega) _, (h.X.other (by omega) _).other (by omega) _, (h.N.other (by omega) _).other (by omega) _, h.F.set2 _ _, row_other (row_other h.row _ _ (by omega) _) _ _ (by omega) _, by simpa using h.size⟩
/-- what is appended to -/
theorem LSt.grown {W W' : World} {z : Nat} {s : ByteArray} {least greatest q f0 f1 : Int} {v v' : Value} {d : List Int} {x : Int} (h : LSt W z s least greatest q f0 f1 v d) (hr : W'.ownsRow (z + 6) 3 1 v' (d.length + 1) (d.map (Value.int .i64) ++ [.int .i64 x])) (hB : Below (z + 6) W W') :
    LSt (W'.setCell ⟨z + 3, 0, none⟩ v') z s least greatest q f0 f1 v' (d ++ [x]) := by
  have k : ∀ {t : TypeId} {c : Nat} {xs : Array Value}, Box W t c xs → c < z + 6 → Box W' t c xs := fun hb hc => (hB.block _ hc).trans hb
  refine ⟨(k h.S (by omega)).other (by omega) _, (k h.L (by omega)).other (by omega) _, (k h.G (by omega)).other (by omega) _, (k h.X (by omega)).set1 _, (k h.N (by omega)).other (by omega) _, (k h.F (by omega)).other (by omega) _, row_other (row_snoc rfl hr) _ _ (by omega) _, ?_⟩
  have := hB.size
  have := h.size
  simp
  omega
theorem below_lift {B B' : Nat} {w w1 w2 : World} (h : Below B w w1) (hB : B ≤ B') (k : Below B' w1 w2) : Below B w w2 := h.trans (k.mono hB)
/-- what one round of list leaves -/
def Rounded (W : World) (z : Nat) (s : ByteArray) (least greatest nx er p : Int) (d : List Int) (b : Bool) (en : Ending) (W' : World) : Prop :=
  ∃ v, en = .returned (.bool b) ∧ LSt W' z s least greatest nx er p v d ∧ Below z W W'
set_option maxRecDepth 100000 in
set_option maxHeartbeats 1000000 in
theorem listone_bad (z : Nat) (s : ByteArray) (least greatest q f0 f1 : Int) (v : Value) (d : List Int) (hs : s.size ≤ 20000) (h1 : 0 ≤ q) (h2 : q ≤ s.size) (h5 : -9223372036854775808 ≤ least) (h6 : least ≤ 9223372036854775807) (h7 : -9223372036854775808 ≤ greatest) (h8 : greatest ≤ 9223372036854775807)
    (er p : Int) (he : Hid ((er != 0) = true)) (H : Hid (sgnF least greatest s q = (0, 0, er, p))) (W : World) (R : Hid (LSt W z s least greatest q f0 f1 v d)) :
    Calls Try.prog 89 #[.pointer (some ⟨z, 0, none⟩), .pointer (some ⟨z + 4, 0, none⟩), .pointer (some ⟨z + 1, 0, none⟩), .pointer (some ⟨z + 2, 0, none⟩), .pointer (some ⟨z + 5, 0, none⟩), .pointer (some ⟨z + 3, 0, none⟩)] W (Rounded W z s least greatest 0 er p d false) := by
  have e0 := R.out.S.c1
  have e1 := R.out.L.c1
  have e2 := R.out.G.c1
  have e4 := R.out.N.c1
  have te := he.out
  go_enter Try.func89, Try.ntmps89
  go_wp2_with (go_at_call 90; refine (signed_any s q least greatest hs h1 h2 h5 h6 h7 h8 0 0 er p H _).mono ?_; rintro en W1 ⟨rfl, hB1⟩; have R1 := Lib.hid (R.out.below hB1); have B1 := Lib.hid (hB1.mono (show z ≤ W.heap.size by have := R.out.size; omega)); clear hB1 e0 e1 e2 e4; have c4 := R1.out.N.c1; have f4 := Box.free R1.out.N 0; obtain ⟨c5, c6⟩ := R1.out.F.cell2; obtain ⟨f5, f6⟩ := R1.out.F.free2)
  go_ret
  exact ⟨v, rfl, (R1.out.next 0).fault er p, ((B1.out.setCell (p := ⟨z + 4, 0, none⟩) (by simp) _).setCell (p := ⟨z + 5, 0, none⟩) (by simp) _).setCell (p := ⟨z + 5, 1, none⟩) (by simp) _⟩
set_option maxRecDepth 100000 in
set_option maxHeartbeats 1000000 in
theorem listone_ok (z : Nat) (s : ByteArray) (least greatest q f0 f1 : Int) (v : Value) (d : List Int) (hs : s.size ≤ 20000) (h1 : 0 ≤ q) (h2 : q ≤ s.size) (h5 : -9223372036854775808 ≤ least) (h6 : least ≤ 9223372036854775807) (h7 : -9223372036854775808 ≤ greatest) (h8 : greatest ≤ 9223372036854775807) (hd : d.length ≤ 20000)
    (x nx : Int) (H : Hid (sgnF least greatest s q = (x, nx, 0, 0))) (W : World) (R : Hid (LSt W z s least greatest q f0 f1 v d)) :
    Calls Try.prog 89 #[.pointer (some ⟨z, 0, none⟩), .pointer (some ⟨z + 4, 0, none⟩), .pointer (some ⟨z + 1, 0, none⟩), .pointer (some ⟨z + 2, 0, none⟩), .pointer (some ⟨z + 5, 0, none⟩), .pointer (some ⟨z + 3, 0, none⟩)] W (Rounded W z s least greatest nx 0 0 (d ++ [x]) true) := by
  have e0 := R.out.S.c1
  have e1 := R.out.L.c1
  have e2 := R.out.G.c1
  have e4 := R.out.N.c1
  have hsz := R.out.size
  go_enter Try.func89, Try.ntmps89
  go_wp2_with (first
    | (go_at_call 90; refine (signed_any s q least greatest hs h1 h2 h5 h6 h7 h8 x nx 0 0 H _).mono ?_; rintro en W1 ⟨rfl, hB1⟩; have R1 := Lib.hid (R.out.below hB1); have B1 := Lib.hid (hB1.mono (show z ≤ W.heap.size by omega)); clear hB1 e0 e1 e2 e4; have c3 := R1.out.X.c1; have f3 := Box.free R1.out.X 0; have c4 := R1.out.N.c1; have f4 := Box.free R1.out.N 0; obtain ⟨c5, c6⟩ := R1.out.F.cell2; obtain ⟨f5, f6⟩ := R1.out.F.free2; have R4 := Lib.hid ((R1.out.next nx).fault 0 0); have B4 := Lib.hid (((B1.out.setCell (p := ⟨z + 4, 0, none⟩) (by simp) (.int .i64 nx)).setCell (p := ⟨z + 5, 0, none⟩) (by simp) (.int .i64 0)).setCell (p := ⟨z + 5, 1, none⟩) (by simp) (.int .i64 0)))
    | (at_builtin; refine append_in Try.underlying35 info3 rfl (by omega) rfl (.tmp 20) (.tmp 22) rfl (z + 6) _ d.length (d.map (Value.int .i64)) rfl (row_alloc R4.out.row _) _ [.int .i64 x] 1 1 rfl rfl (src_at _ _ (by simp) _ _) (by simp [Value.oneCell']) (by omega) (by have := R4.out.size; simp at *; omega) ?_; intro v1 wA hv1 hBA; obtain ⟨a1, k1, rfl⟩ := row_shape hv1; have X5 := Lib.hid ((hBA.block (z + 3) (by omega)).trans (R4.out.X.alloc _)); have R5 := Lib.hid ((R4.out.below ((Below.refl _ _).alloc (Nat.le_refl _) _)).grown hv1 hBA); have B5 := Lib.hid (below_lift (B4.out.alloc (by have := R4.out.size; simp at *; omega) _) (by omega) hBA); clear hv1 hBA c3 f3 c4 f4 c5 c6 f5 f6; have c3 := Box.c1 X5.out; have f3 := Box.free X5.out 0))
  go_ret
  exact ⟨_, rfl, R5.out, B5.out.setCell (p := ⟨z + 3, 0, none⟩) (by simp) _⟩
end Go.Proofs.Ytkepnjnindolbaa.s05
