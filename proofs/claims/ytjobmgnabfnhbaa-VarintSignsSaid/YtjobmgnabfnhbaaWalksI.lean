/-
  The contracts of the laws' helpers: reads, fault, awake.
-/
import Derived.Test.YtjobmgnabfnhbaaWalksD
import Derived.Test.YtjobmgnabfnhbaaWalksH
namespace Go.Proofs.Ytjobmgnabfnhbaa
open Go.RowKit

theorem below_then {w w1 w2 : World} (h : Below w.heap.size w w1) (k : Below w1.heap.size w1 w2) : Below w.heap.size w w2 := h.trans (k.mono h.size)

set_option maxRecDepth 100000 in
theorem reads_true (s : ByteArray) (a n nx : Int) (hs : s.size ≤ 9223372036854775807) (h1 : -9223372036854775808 ≤ a) (h2 : a ≤ 9223372036854775807) (H : Hid (rd s a = (n, nx, 0, 0))) (w : World) :
    Calls Try.prog 29 #[.string s, .int .i64 a, .int .u64 n, .int .i64 nx] w fun e w' => e = .returned (.bool true) ∧ Below w.heap.size w w' := by
  go_enter Try.func29, Try.ntmps29
  go_wp2_with (go_at_call 11; refine (read_any s _ hs (by omega) (by omega) n nx 0 0 H _).mono ?_; rintro e w1 ⟨rfl, hB⟩)
  go_ret
  exact ⟨rfl, hB.alloc hB.size _⟩

set_option maxRecDepth 100000 in
theorem fault_true (s : ByteArray) (er p : Int) (hs : s.size ≤ 9223372036854775807) (H : Hid (prs s = (0, er, p))) (w : World) :
    Calls Try.prog 30 #[.string s, .int .i64 er, .int .i64 p] w fun e w' => e = .returned (.bool true) ∧ Below w.heap.size w w' := by
  go_enter Try.func30, Try.ntmps30
  go_wp2_with (go_at_call 13; refine (parse_any s hs 0 er p H _).mono ?_; rintro e w1 ⟨rfl, hB⟩)
  go_ret
  exact ⟨rfl, hB.alloc hB.size _⟩

theorem digs300 : strOfNums (digs 300) = { data := #[172, 2] } := by
  rw [digs_more (by omega), digs_last (by omega)]; rfl
theorem len300 : ((digs 300).length : Int) = 2 := by
  rw [digs_more (by omega), digs_last (by omega)]; rfl
theorem bytes300 (w : World) : Calls Try.prog 17 #[.int .u64 300] w fun e w' => e = .returned (.string { data := #[172, 2] }) ∧ Below w.heap.size w w' :=
  (bytes_any 300 (by omega) (by omega) w).mono fun e w' h => by rw [← digs300]; exact h
theorem size300 (w : World) : Calls Try.prog 19 #[.int .u64 300] w fun e w' => e = .returned (.int .i64 2) ∧ w = w' :=
  (size_any 300 (by omega) (by omega) w).mono fun e w' h => by rw [← len300]; exact h
theorem rd_a : rd { data := #[172, 2, 5] } 0 = (300, 2, 0, 0) := by decide +kernel
theorem prs_a : prs { data := #[128, 0] } = (0, 26, 1) := by decide +kernel
theorem prs_b : prs { data := #[128] } = (0, 5, 1) := by decide +kernel
theorem reads_a (w : World) : Calls Try.prog 29 #[.string { data := #[172, 2, 5] }, .int .i64 0, .int .u64 300, .int .i64 2] w fun e w' => e = .returned (.bool true) ∧ Below w.heap.size w w' := reads_true _ _ _ _ (by decide) (by omega) (by omega) (Lib.hid rd_a) w
theorem fault_a (w : World) : Calls Try.prog 30 #[.string { data := #[128, 0] }, .int .i64 26, .int .i64 1] w fun e w' => e = .returned (.bool true) ∧ Below w.heap.size w w' := fault_true _ _ _ (by decide) (Lib.hid prs_a) w
theorem fault_b (w : World) : Calls Try.prog 30 #[.string { data := #[128] }, .int .i64 5, .int .i64 1] w fun e w' => e = .returned (.bool true) ∧ Below w.heap.size w w' := fault_true _ _ _ (by decide) (Lib.hid prs_b) w
theorem zig_m1 (w : World) : Calls Try.prog 21 #[.int .i64 (-1)] w fun e w' => e = .returned (.int .u64 1) ∧ w = w' := zig_any (-1) (by omega) (by omega) w
theorem unz_3 (w : World) : Calls Try.prog 23 #[.int .u64 3] w fun e w' => e = .returned (.int .i64 (-2)) ∧ w = w' := unz_any 3 (by omega) (by omega) w

set_option maxRecDepth 100000 in
set_option maxHeartbeats 1000000 in
theorem awake_any (w : World) : Calls Try.prog 10 #[] w fun e w' => e = .returned (.bool true) ∧ Below w.heap.size w w' := by
  go_enter Try.func10, Try.ntmps10
  go_wp2_with (first
    | (go_at_call 17; refine (bytes300 _).mono ?_; rintro e w1 ⟨rfl, hB1⟩)
    | (go_at_call 19; refine (size300 _).mono ?_; rintro e w2 ⟨rfl, rfl⟩)
    | (go_at_call 29; (with_reducible refine (reads_a _).mono ?_); rintro e w3 ⟨rfl, hB3⟩)
    | (go_at_call 30; (with_reducible refine (fault_a _).mono ?_); rintro e w4 ⟨rfl, hB4⟩)
    | (go_at_call 30; (with_reducible refine (fault_b _).mono ?_); rintro e w5 ⟨rfl, hB5⟩)
    | (go_at_call 21; refine (zig_m1 _).mono ?_; rintro e w6 ⟨rfl, rfl⟩)
    | (go_at_call 23; refine (unz_3 _).mono ?_; rintro e w7 ⟨rfl, rfl⟩))
  go_ret
  exact ⟨rfl, below_then (below_then (below_then hB1 hB3) hB4) hB5⟩
end Go.Proofs.Ytjobmgnabfnhbaa
