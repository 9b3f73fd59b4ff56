/-
  The contract of VarintKnown: the chapter's examples.
-/
import Derived.Test.YtjobmgnabfnhbaaWalksK
namespace Go.Proofs.Ytjobmgnabfnhbaa
open Go.RowKit

/-- variables of faults -/
def Bx (w : World) (l : List (Nat × Int × Int)) : Prop := ∀ t ∈ l, Box2 w t.1 (.int .i64 t.2.1) (.int .i64 t.2.2)
theorem Bx.nil (w : World) : Bx w [] := fun _ h => by cases h
theorem Bx.below {w w1 : World} {l : List (Nat × Int × Int)} (h : Bx w l) (hB : Below w.heap.size w w1) : Bx w1 l := fun t ht => (h t ht).below hB
theorem Bx.push {w : World} {l : List (Nat × Int × Int)} (h : Bx w l) (x y : Int) : Bx (w.alloc (.cells #[.int .i64 x, .int .i64 y] 26)) ((w.heap.size, x, y) :: l) := fun t ht => by
  rcases List.mem_cons.1 ht with rfl | ht
  · exact Box2.new _ _ _
  · exact (h t ht).alloc _
theorem Bx.alloc {w : World} {l : List (Nat × Int × Int)} (h : Bx w l) (o : Obj) : Bx (w.alloc o) l := fun t ht => (h t ht).alloc o
theorem Bx.cells {w : World} {l : List (Nat × Int × Int)} (h : Bx w l) {b : Nat} {x y : Int} (hm : (b, x, y) ∈ l) : w.cell? ⟨b, 0, none⟩ = some (.int .i64 x) ∧ w.cell? ⟨b, 1, none⟩ = some (.int .i64 y) := (h _ hm).cells
theorem Bx.lt {w : World} {l : List (Nat × Int × Int)} (h : Bx w l) {b : Nat} {x y : Int} (hm : (b, x, y) ∈ l) : b < w.heap.size := (h _ hm).lt

theorem read_c (w : World) : Calls Try.prog 11 #[.string { data := #[172, 2, 5] }, .int .i64 3] w fun e w' => e = .returned (.tuple #[.int .u64 0, .int .i64 0, .agg #[.int .i64 5, .int .i64 3]]) ∧ Below w.heap.size w w' :=
  read_any _ _ (by decide) (by decide) (by decide) _ _ _ _ (Lib.hid (by decide +kernel)) w
theorem read_d (w : World) : Calls Try.prog 11 #[.string { data := #[172, 2, 5] }, .int .i64 4] w fun e w' => e = .returned (.tuple #[.int .u64 0, .int .i64 0, .agg #[.int .i64 2, .int .i64 0]]) ∧ Below w.heap.size w w' :=
  read_any _ _ (by decide) (by decide) (by decide) _ _ _ _ (Lib.hid (by decide +kernel)) w
theorem bound_a (w : World) : Calls Try.prog 15 #[.string { data := #[5, 172, 2] }, .int .i64 1, .int .u64 300] w fun e w' => e = .returned (.tuple #[.int .u64 300, .int .i64 3, .agg #[.int .i64 0, .int .i64 0]]) ∧ Below w.heap.size w w' :=
  bound_any _ _ _ (by decide) (by decide) (by decide) _ _ _ _ (Lib.hid (by decide +kernel)) w
theorem bound_b (w : World) : Calls Try.prog 15 #[.string { data := #[5, 172, 2] }, .int .i64 1, .int .u64 299] w fun e w' => e = .returned (.tuple #[.int .u64 0, .int .i64 0, .agg #[.int .i64 2, .int .i64 1]]) ∧ Below w.heap.size w w' :=
  bound_any _ _ _ (by decide) (by decide) (by decide) _ _ _ _ (Lib.hid (by decide +kernel)) w
theorem rl_a (w : World) : Calls Try.prog 25 #[.string { data := #[1, 172, 2] }, .int .i64 2] w (Listed w [1, 300] 0 0) := rlist_any _ _ (by decide) _ _ _ (Lib.hid (by decide +kernel)) w
theorem rl_b (w : World) : Calls Try.prog 25 #[.string { data := #[1, 172, 2] }, .int .i64 1] w (Listed w [] 4 1) := rlist_any _ _ (by decide) _ _ _ (Lib.hid (by decide +kernel)) w
theorem rl_c (w : World) : Calls Try.prog 25 #[.string { data := #[1, 172, 2] }, .int .i64 3] w (Listed w [] 5 3) := rlist_any _ _ (by decide) _ _ _ (Lib.hid (by decide +kernel)) w
theorem rl_d (w : World) : Calls Try.prog 25 #[.string { data := #[] }, .int .i64 0] w (Listed w [] 0 0) := rlist_any _ _ (by decide) _ _ _ (Lib.hid (by decide +kernel)) w
theorem row_zero {W : World} {base : Nat} {v : Value} {xs : List Value} (h : W.ownsRow base 22 1 v 0 xs) : ∃ a cap, v = .slice a 0 cap := by
  rcases h.2 with ⟨rfl, _⟩ | ⟨g, cap, _, rfl, _⟩
  · exact ⟨_, _, rfl⟩
  · exact ⟨_, _, rfl⟩

theorem row_two {W : World} {base : Nat} {v : Value} {xs : List Value} (h : W.ownsRow base 22 1 v 2 xs) : ∃ g cap, v = .slice (some ⟨g, 0, none⟩) 2 cap := by
  rcases h.2 with ⟨_, h0⟩ | ⟨g, cap, _, rfl, _⟩
  · omega
  · exact ⟨_, _, rfl⟩
theorem row_two_cells {W : World} {base g cap : Nat} {x y : Value} (h : W.ownsRow base 22 1 (.slice (some ⟨g, 0, none⟩) 2 cap) 2 [x, y]) : W.cell? ⟨g, 0, none⟩ = some x ∧ W.cell? ⟨g, 1, none⟩ = some y :=
  ⟨(h.cellAt 0 (by omega)).trans rfl, (h.cellAt 1 (by omega)).trans rfl⟩
theorem below_alloc_then {w w1 w2 : World} {o : Obj} (h : Below w.heap.size w w1) (k : Below (w1.alloc o).heap.size (w1.alloc o) w2) : Below w.heap.size w w2 := below_on (h.alloc h.size o) (Nat.le_refl _) k
theorem digs0 : strOfNums (digs 0) = { data := #[0] } := by rw [digs_last (by omega)]; rfl
theorem digs127 : strOfNums (digs 127) = { data := #[127] } := by rw [digs_last (by omega)]; rfl
theorem digs128 : strOfNums (digs 128) = { data := #[128, 1] } := by rw [digs_more (by omega), digs_last (by omega)]; rfl
theorem digs1300 : strOfNums ([1, 300].flatMap digs) = { data := #[1, 172, 2] } := by
  rw [List.flatMap_cons, List.flatMap_cons, List.flatMap_nil, digs_last (r := 1) (by omega), digs_more (r := 300) (by omega), digs_last (by omega)]; rfl
theorem lenMax : ((digs 18446744073709551615).length : Int) = 10 := by
  have h1 := digs_len10 (r := 18446744073709551615) (by decide)
  have h2 := digs_len_gt 9 18446744073709551615 (by decide)
  omega
theorem bytes0 (w : World) : Calls Try.prog 17 #[.int .u64 0] w fun e w' => e = .returned (.string { data := #[0] }) ∧ Below w.heap.size w w' :=
  (bytes_any 0 (by omega) (by omega) w).mono fun e w' h => by rw [← digs0]; exact h
theorem bytes127 (w : World) : Calls Try.prog 17 #[.int .u64 127] w fun e w' => e = .returned (.string { data := #[127] }) ∧ Below w.heap.size w w' :=
  (bytes_any 127 (by omega) (by omega) w).mono fun e w' h => by rw [← digs127]; exact h
theorem bytes128 (w : World) : Calls Try.prog 17 #[.int .u64 128] w fun e w' => e = .returned (.string { data := #[128, 1] }) ∧ Below w.heap.size w w' :=
  (bytes_any 128 (by omega) (by omega) w).mono fun e w' h => by rw [← digs128]; exact h
theorem sizeMax (w : World) : Calls Try.prog 19 #[.int .u64 18446744073709551615] w fun e w' => e = .returned (.int .i64 10) ∧ w = w' :=
  (size_any 18446744073709551615 (by decide) (by decide) w).mono fun e w' h => by rw [← lenMax]; exact h
theorem list2 (W : World) : Calls Try.prog 27 #[.slice (some ⟨W.heap.size, 0, none⟩) 2 2] (W.alloc (.cells #[.int .u64 1, .int .u64 300] 22)) fun e w' => e = .returned (.string { data := #[1, 172, 2] }) ∧ Below (W.alloc (.cells #[.int .u64 1, .int .u64 300] 22)).heap.size (W.alloc (.cells #[.int .u64 1, .int .u64 300] 22)) w' := by
  refine (list_any (some ⟨W.heap.size, 0, none⟩) 2 [1, 300] _ (by simp) (by simp) ?_).mono ?_
  · intro i hi
    have hk : (W.alloc (.cells #[.int .u64 1, .int .u64 300] 22)).heap[W.heap.size]? = some (.cells #[.int .u64 1, .int .u64 300] 22 (0, 0)) := World.alloc_heap_new W _
    have : i = 0 ∨ i = 1 := by simp at hi; omega
    rcases this with rfl | rfl
    · exact ⟨_, _, rfl, by simp, by unfold World.cell?; rw [hk]; rfl⟩
    · exact ⟨_, _, rfl, by simp, by unfold World.cell?; rw [hk]; rfl⟩
  · rintro e w' ⟨rfl, hB⟩
    exact ⟨by rw [digs1300], hB⟩
theorem zig_0 (w : World) : Calls Try.prog 21 #[.int .i64 0] w fun e w' => e = .returned (.int .u64 0) ∧ w = w' := zig_any 0 (by omega) (by omega) w
theorem zig_1 (w : World) : Calls Try.prog 21 #[.int .i64 1] w fun e w' => e = .returned (.int .u64 2) ∧ w = w' := zig_any 1 (by omega) (by omega) w
theorem zig_min (w : World) : Calls Try.prog 21 #[.int .i64 (-9223372036854775808)] w fun e w' => e = .returned (.int .u64 18446744073709551615) ∧ w = w' := zig_any (-9223372036854775808) (by decide) (by decide) w
theorem reads_b (w : World) : Calls Try.prog 29 #[.string { data := #[172, 2, 5] }, .int .i64 2, .int .u64 5, .int .i64 3] w fun e w' => e = .returned (.bool true) ∧ Below w.heap.size w w' := reads_true _ _ _ _ (by decide) (by omega) (by omega) (Lib.hid (by decide +kernel)) w
theorem fault_c (w : World) : Calls Try.prog 30 #[.string { data := #[] }, .int .i64 5, .int .i64 0] w fun e w' => e = .returned (.bool true) ∧ Below w.heap.size w w' := fault_true _ _ _ (by decide) (Lib.hid (by decide +kernel)) w
theorem fault_d (w : World) : Calls Try.prog 30 #[.string { data := #[5, 6] }, .int .i64 4, .int .i64 1] w fun e w' => e = .returned (.bool true) ∧ Below w.heap.size w w' := fault_true _ _ _ (by decide) (Lib.hid (by decide +kernel)) w

set_option maxRecDepth 100000 in
set_option maxHeartbeats 4000000 in
theorem known_any (w : World) : Calls Try.prog 6 #[] w fun e w' => e = .returned (.bool true) ∧ Below w.heap.size w w' := by
  go_enter Try.func6, Try.ntmps6
  go_wp2_with (first
    | (go_at_call 11; (with_reducible refine (read_c _).mono ?_); rintro e w1 ⟨rfl, hB1⟩; have X1 := Bx.nil w1)
    | (go_at_call 11; (with_reducible refine (read_d _).mono ?_); rintro e w2 ⟨rfl, hB2⟩; have X2 := (X1.push 5 3).below hB2)
    | (go_at_call 13; refine (parse_any _ (by decide +kernel) 18446744073709551615 0 0 (Lib.hid (by decide +kernel)) _).mono ?_; rintro e w3 ⟨rfl, hB3⟩; have X3 := (X2.push 2 0).below hB3)
    | (go_at_call 15; (with_reducible refine (bound_a _).mono ?_); rintro e w4 ⟨rfl, hB4⟩; have X4 := (X3.push 0 0).below hB4)
    | (go_at_call 15; (with_reducible refine (bound_b _).mono ?_); rintro e w5 ⟨rfl, hB5⟩; have X5 := (X4.push 0 0).below hB5)
    | (go_at_call 25; (with_reducible refine (rl_a _).mono ?_); rintro e w6 ⟨v6, rfl, hr6, hB6⟩; have X6 := (X5.push 2 1).below hB6; obtain ⟨g6, k6, rfl⟩ := row_two hr6)
    | (go_at_call 25; (with_reducible refine (rl_b _).mono ?_); rintro e w7 ⟨v7, rfl, hr7, hB7⟩; have X7 := (X6.push 0 0).below hB7; have r7 := row_below (hr6.alloc _) hB7; clear hr7)
    | (go_at_call 25; (with_reducible refine (rl_c _).mono ?_); rintro e w8 ⟨v8, rfl, hr8, hB8⟩; have X8 := (X7.push 4 1).below hB8; have r8 := row_below (r7.alloc _) hB8; clear hr8)
    | (go_at_call 25; (with_reducible refine (rl_d _).mono ?_); rintro e w9 ⟨v9, rfl, hr9, hB9⟩; have X9 := (X8.push 5 3).below hB9; have r9 := row_below (r8.alloc _) hB9; obtain ⟨a9, k9, rfl⟩ := row_zero hr9; clear hr9)
    | (go_at_call 17; (with_reducible refine (bytes0 _).mono ?_); rintro e w10 ⟨rfl, hB10⟩; have X10 := (X9.push 0 0).below hB10; have r10 := row_below (r9.alloc _) hB10)
    | (go_at_call 17; (with_reducible refine (bytes127 _).mono ?_); rintro e w11 ⟨rfl, hB11⟩; have X11 := X10.below hB11; have r11 := row_below r10 hB11)
    | (go_at_call 17; (with_reducible refine (bytes128 _).mono ?_); rintro e w12 ⟨rfl, hB12⟩; have X12 := X11.below hB12; have r12 := row_below r11 hB12)
    | (go_at_call 19; refine (sizeMax _).mono ?_; rintro e w2 ⟨rfl, rfl⟩)
    | (go_at_call 29; refine (reads_b _).mono ?_; rintro e w13 ⟨rfl, hB13⟩; have X13 := X12.below hB13; have r13 := row_below r12 hB13; obtain ⟨c40, c41⟩ := X13.cells (b := w1.heap.size) (x := 5) (y := 3) (by simp); obtain ⟨c70, c71⟩ := X13.cells (b := w2.heap.size) (x := 2) (y := 0) (by simp))
    | (go_at_call 30; (with_reducible refine (fault_c _).mono ?_); rintro e w14 ⟨rfl, hB14⟩; clear c40 c41 c70 c71; have X14 := X13.below hB14; have r14 := row_below r13 hB14)
    | (go_at_call 30; (with_reducible refine (fault_d _).mono ?_); rintro e w15 ⟨rfl, hB15⟩; have X15 := X14.below hB15; have r15 := row_below r14 hB15; obtain ⟨c90, c91⟩ := X15.cells (b := w3.heap.size) (x := 0) (y := 0) (by simp))
    | (go_at_call 30; refine (fault_true _ 26 9 (by decide +kernel) (Lib.hid (by decide +kernel)) _).mono ?_; rintro e w16 ⟨rfl, hB16⟩; clear c90 c91; have X16 := X15.below hB16; have r16 := row_below r15 hB16; obtain ⟨c120, c121⟩ := X16.cells (b := w4.heap.size) (x := 0) (y := 0) (by simp); obtain ⟨c150, c151⟩ := X16.cells (b := w5.heap.size) (x := 2) (y := 1) (by simp))
    | (go_at_call 27; refine (list2 _).mono ?_; rintro e w17 ⟨rfl, hB17⟩; clear c120 c121 c150 c151; have X17 := (X16.alloc _).below hB17; have r17 := row_below (r16.alloc _) hB17; obtain ⟨d0, d1⟩ := row_two_cells r17; obtain ⟨c170, c171⟩ := X17.cells (b := w6.heap.size) (x := 0) (y := 0) (by simp); obtain ⟨c190, c191⟩ := X17.cells (b := w7.heap.size) (x := 4) (y := 1) (by simp); obtain ⟨c210, c211⟩ := X17.cells (b := w8.heap.size) (x := 5) (y := 3) (by simp); obtain ⟨c230, c231⟩ := X17.cells (b := w9.heap.size) (x := 0) (y := 0) (by simp))
    | (go_at_call 10; refine (awake_any _).mono ?_; rintro e w18 ⟨rfl, hB18⟩)
    | (go_at_call 21; (with_reducible refine (zig_0 _).mono ?_); rintro e w2 ⟨rfl, rfl⟩)
    | (go_at_call 21; (with_reducible refine (zig_1 _).mono ?_); rintro e w2 ⟨rfl, rfl⟩)
    | (go_at_call 21; refine (zig_min _).mono ?_; rintro e w2 ⟨rfl, rfl⟩))
  go_ret
  have k5 := below_alloc_then (below_alloc_then (below_alloc_then (below_alloc_then hB1 hB2) hB3) hB4) hB5
  have k10 := below_alloc_then (below_alloc_then (below_alloc_then (below_alloc_then (below_alloc_then k5 hB6) hB7) hB8) hB9) hB10
  have k16 := below_then (below_then (below_then (below_then (below_then (below_then k10 hB11) hB12) hB13) hB14) hB15) hB16
  exact ⟨rfl, below_then (below_alloc_then k16 hB17) hB18⟩
end Go.Proofs.Ytjobmgnabfnhbaa
