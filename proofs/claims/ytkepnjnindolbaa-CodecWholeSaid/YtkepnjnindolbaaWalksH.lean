/-
  The contracts of Bounded, of the program and of the reference.
-/
import Derived.Test.YtkepnjnindolbaaWalksG
import Derived.Test.YtkepnjnindolbaaMathB
namespace Go.Proofs.Ytkepnjnindolbaa
set_option linter.unusedVariables false
open Go.RowKit

theorem two_set {W : World} {b : Nat} {x y u v : Value} (h0 : W.cell? ⟨b, 0, none⟩ = some u) (h1 : W.cell? ⟨b, 1, none⟩ = some v) :
    ((W.setCell ⟨b, 0, none⟩ x).setCell ⟨b, 1, none⟩ y).cell? ⟨b, 0, none⟩ = some x ∧ ((W.setCell ⟨b, 0, none⟩ x).setCell ⟨b, 1, none⟩ y).cell? ⟨b, 1, none⟩ = some y := by
  constructor
  · have e := World.cell?_setCell_other (w := W.setCell ⟨b, 0, none⟩ x) (v := y) (a := ⟨b, 1, none⟩) (b := ⟨b, 0, none⟩) (by simp)
    rw [e]
    exact World.cell?_setCell_same' _ _ _ (by rw [h0]; rfl)
  · have e := World.cell?_setCell_other (w := W) (v := x) (a := ⟨b, 0, none⟩) (b := ⟨b, 1, none⟩) (by simp)
    exact World.cell?_setCell_same' _ _ _ (by rw [e, h1]; rfl)

/-- what Bounded answers -/
def bnd (s : ByteArray) (a m : Int) : Int × Int × Int × Int :=
  if (rd s a).2.2.1 = 0 then (if m < (rd s a).1 then (0, 0, 2, a) else rd s a) else rd s a

set_option maxRecDepth 100000 in
set_option maxHeartbeats 1000000 in
theorem bound_bad (s : ByteArray) (a m : Int) (hs : s.size ≤ 9223372036854775807) (h1 : -9223372036854775808 ≤ a) (h2 : a ≤ 9223372036854775807) (nx er p : Int) (H : Hid (rd s a = (0, nx, er, p))) (hnx : nx = 0) (he : (er != 0) = true) (he2 : (er == 0) = false) (w : World) :
    Calls Try.prog 55 #[.string s, .int .i64 a, .int .u64 m] w fun e w' => e = .returned (.tuple #[.int .u64 0, .int .i64 0, .agg #[.int .i64 er, .int .i64 p]]) ∧ Below w.heap.size w w' := by
  subst hnx
  go_enter Try.func55, Try.ntmps55
  go_wp2_with (go_at_call 84; refine (read_any s _ hs (by omega) (by omega) 0 0 er p H _).mono ?_; rintro e w1 ⟨rfl, hB⟩; obtain ⟨⟨hc0, hc1⟩, ⟨hf0, hf1⟩, hz⟩ := box2 hB)
  go_region
  all_goals
    go_wp2
    have t1 := two_set (x := .int .i64 er) (y := .int .i64 p) hc0 hc1
    have t2 := two_set (x := .int .i64 er) (y := .int .i64 p) t1.1 t1.2
    refine bodyPost_ret (v := .tuple #[.int .u64 0, .int .i64 0, .agg #[.int .i64 er, .int .i64 p]]) (by simp [results, Try.results55, go_sem, t2.1, t2.2]) rfl ⟨rfl, ?_⟩
    have HB := ((Below.refl w.heap.size w).alloc (Nat.le_refl _) (.cells #[.int .i64 0, .int .i64 0] 24)).trans (hB.mono (by simp))
    repeat (first | exact HB | apply Below.drew | refine Below.setCell ?_ (by first | exact Nat.le_refl _ | (simp; omega)) _ | refine Below.alloc ?_ (by simp; omega) _)

set_option maxRecDepth 100000 in
set_option maxHeartbeats 1000000 in
theorem bound_great (s : ByteArray) (a m : Int) (hs : s.size ≤ 9223372036854775807) (h1 : -9223372036854775808 ≤ a) (h2 : a ≤ 9223372036854775807) (n nx p : Int) (H : Hid (rd s a = (n, nx, 0, p))) (hm : m < n) (w : World) :
    Calls Try.prog 55 #[.string s, .int .i64 a, .int .u64 m] w fun e w' => e = .returned (.tuple #[.int .u64 0, .int .i64 0, .agg #[.int .i64 2, .int .i64 a]]) ∧ Below w.heap.size w w' := by
  go_enter Try.func55, Try.ntmps55
  go_wp2_with (first | (go_at_call 84; refine (read_any s _ hs (by omega) (by omega) n nx 0 p H _).mono ?_; rintro e w1 ⟨rfl, hB⟩; obtain ⟨⟨hc0, hc1⟩, ⟨hf0, hf1⟩, hz⟩ := box2 hB) | (go_at_call 85; refine (fault_any _ _ _).mono ?_; rintro e w' ⟨rfl, rfl⟩))
  have t1 := two_set (x := .int .i64 0) (y := .int .i64 p) hc0 hc1
  have t2 := two_set (x := .int .i64 2) (y := .int .i64 a) t1.1 t1.2
  refine bodyPost_ret (v := .tuple #[.int .u64 0, .int .i64 0, .agg #[.int .i64 2, .int .i64 a]]) (by simp [results, Try.results55, go_sem, t2.1, t2.2]) rfl ⟨rfl, ?_⟩
  have HB := ((Below.refl w.heap.size w).alloc (Nat.le_refl _) (.cells #[.int .i64 0, .int .i64 0] 24)).trans (hB.mono (by simp))
  repeat (first | exact HB | apply Below.drew | refine Below.setCell ?_ (by first | exact Nat.le_refl _ | (simp; omega)) _ | refine Below.alloc ?_ (by simp; omega) _)

set_option maxRecDepth 100000 in
set_option maxHeartbeats 1000000 in
theorem bound_ok (s : ByteArray) (a m : Int) (hs : s.size ≤ 9223372036854775807) (h1 : -9223372036854775808 ≤ a) (h2 : a ≤ 9223372036854775807) (n nx : Int) (H : Hid (rd s a = (n, nx, 0, 0))) (hm : ¬ m < n) (w : World) :
    Calls Try.prog 55 #[.string s, .int .i64 a, .int .u64 m] w fun e w' => e = .returned (.tuple #[.int .u64 n, .int .i64 nx, .agg #[.int .i64 0, .int .i64 0]]) ∧ Below w.heap.size w w' := by
  go_enter Try.func55, Try.ntmps55
  go_wp2_with (go_at_call 84; refine (read_any s _ hs (by omega) (by omega) n nx 0 0 H _).mono ?_; rintro e w1 ⟨rfl, hB⟩; obtain ⟨⟨hc0, hc1⟩, ⟨hf0, hf1⟩, hz⟩ := box2 hB)
  all_goals (try go_region)
  all_goals
    go_wp2
    have t1 := two_set (x := .int .i64 0) (y := .int .i64 0) hc0 hc1
    have t2 := two_set (x := .int .i64 0) (y := .int .i64 0) t1.1 t1.2
    refine bodyPost_ret (v := .tuple #[.int .u64 n, .int .i64 nx, .agg #[.int .i64 0, .int .i64 0]]) (by simp [results, Try.results55, go_sem, t2.1, t2.2]) rfl ⟨rfl, ?_⟩
    have HB := ((Below.refl w.heap.size w).alloc (Nat.le_refl _) (.cells #[.int .i64 0, .int .i64 0] 24)).trans (hB.mono (by simp))
    repeat (first | exact HB | apply Below.drew | refine Below.setCell ?_ (by first | exact Nat.le_refl _ | (simp; omega)) _ | refine Below.alloc ?_ (by simp; omega) _)
theorem bound_any (s : ByteArray) (a m : Int) (hs : s.size ≤ 9223372036854775807) (h1 : -9223372036854775808 ≤ a) (h2 : a ≤ 9223372036854775807) (n nx er p : Int) (H : Hid (bnd s a m = (n, nx, er, p))) (w : World) :
    Calls Try.prog 55 #[.string s, .int .i64 a, .int .u64 m] w fun e w' => e = .returned (.tuple #[.int .u64 n, .int .i64 nx, .agg #[.int .i64 er, .int .i64 p]]) ∧ Below w.heap.size w w' := by
  have h := H.out
  unfold bnd at h
  obtain ⟨n', nx', er', p', hr⟩ : ∃ n' nx' er' p', rd s a = (n', nx', er', p') := ⟨_, _, _, _, rfl⟩
  obtain ⟨b1, b2⟩ := rd_bounds s a hr
  rw [hr] at h
  simp only [] at h
  by_cases he : er' = 0
  · subst he
    rw [if_pos rfl] at h
    obtain ⟨_, _, _, _, _, rfl⟩ := b1 rfl
    by_cases hl : m < n'
    · rw [if_pos hl] at h; cases h
      exact bound_great s a m hs h1 h2 n' nx' _ hr hl w
    · rw [if_neg hl] at h; cases h
      exact bound_ok s a m hs h1 h2 _ _ hr hl w
  · rw [if_neg he] at h; cases h
    obtain ⟨rfl, rfl, _⟩ := b2 he
    exact bound_bad s a m hs h1 h2 _ _ _ hr rfl (by simpa using he) (by simpa using he) w

end Go.Proofs.Ytkepnjnindolbaa
