/-
  The contracts of Parse and Bounded, of the program and of the reference.
-/
import Derived.Test.YtjobmgnabfnhbaaWalksF
import Derived.RegionTactic
import Derived.RangeFuncRecord
namespace Go.Proofs.Ytjobmgnabfnhbaa
set_option linter.unusedVariables false
open Go.RowKit

theorem bcell {W w1 : World} (hb : Below W.heap.size W w1) : (∀ b o, b < W.heap.size → w1.cell? ⟨b, o, none⟩ = W.cell? ⟨b, o, none⟩) ∧ (∀ b o, b < W.heap.size → w1.frozen? ⟨b, o, none⟩ = W.frozen? ⟨b, o, none⟩) :=
  ⟨fun b o h => hb.cell (p := ⟨b, o, none⟩) h, fun b o h => hb.frozen (p := ⟨b, o, none⟩) h⟩

theorem box2 {w w1 : World} {x y : Value} {t : TypeId} (hb : Below (w.alloc (.cells #[x, y] t)).heap.size (w.alloc (.cells #[x, y] t)) w1) :
    (w1.cell? ⟨w.heap.size, 0, none⟩ = some x ∧ w1.cell? ⟨w.heap.size, 1, none⟩ = some y) ∧ (w1.frozen? ⟨w.heap.size, 0, none⟩ = false ∧ w1.frozen? ⟨w.heap.size, 1, none⟩ = false) ∧ w.heap.size < w1.heap.size := by
  have hs : w.heap.size < (w.alloc (.cells #[x, y] t)).heap.size := by simp
  obtain ⟨hc, hf⟩ := bcell hb
  have hk : (w.alloc (.cells #[x, y] t)).heap[w.heap.size]? = some (.cells #[x, y] t) := World.alloc_heap_new w _
  refine ⟨⟨?_, ?_⟩, ⟨?_, ?_⟩, Nat.lt_of_lt_of_le hs hb.size⟩
  · rw [hc _ _ hs]; unfold World.cell?; rw [hk]; rfl
  · rw [hc _ _ hs]; unfold World.cell?; rw [hk]; rfl
  · rw [hf _ _ hs]; unfold World.frozen?; rw [hk]; rfl
  · rw [hf _ _ hs]; unfold World.frozen?; rw [hk]; rfl


set_option maxRecDepth 100000 in
set_option maxHeartbeats 1000000 in
theorem parse_bad (s : ByteArray) (hs : s.size ≤ 9223372036854775807) (n nx er p : Int) (H : Hid (rd s 0 = (n, nx, er, p))) (he : (er != 0) = true) (he2 : (er == 0) = false) (w : World) :
    Calls Try.prog 13 #[.string s] w fun e w' => e = .returned (.tuple #[.int .u64 0, .agg #[.int .i64 er, .int .i64 p]]) ∧ Below w.heap.size w w' := by
  go_enter Try.func13, Try.ntmps13
  go_wp2_with (go_at_call 11; refine (read_any s _ hs (by omega) (by omega) n nx er p H _).mono ?_; rintro e w1 ⟨rfl, hB⟩; obtain ⟨⟨hc0, hc1⟩, ⟨hf0, hf1⟩, hz⟩ := box2 hB)
  go_region
  all_goals
    go_wp2
    refine bodyPost_ret (v := .tuple #[.int .u64 0, .agg #[.int .i64 er, .int .i64 p]]) (by simp [results, Try.results13, go_sem, hc0, hc1, hz]) rfl ⟨rfl, ?_⟩
    have HB := ((Below.refl w.heap.size w).alloc (Nat.le_refl _) (.cells #[.int .i64 0, .int .i64 0] 26)).trans (hB.mono (by simp))
    repeat (first | exact HB | apply Below.drew | refine Below.setCell ?_ (by first | exact Nat.le_refl _ | (simp; omega)) _ | refine Below.alloc ?_ (by simp; omega) _)

set_option maxRecDepth 100000 in
set_option maxHeartbeats 1000000 in
theorem parse_long (s : ByteArray) (hs : s.size ≤ 9223372036854775807) (n nx p : Int) (H : Hid (rd s 0 = (n, nx, 0, p))) (hl : nx < s.size) (w : World) :
    Calls Try.prog 13 #[.string s] w fun e w' => e = .returned (.tuple #[.int .u64 0, .agg #[.int .i64 4, .int .i64 nx]]) ∧ Below w.heap.size w w' := by
  go_enter Try.func13, Try.ntmps13
  go_wp2_with (go_at_call 11; refine (read_any s _ hs (by omega) (by omega) n nx 0 p H _).mono ?_; rintro e w1 ⟨rfl, hB⟩; obtain ⟨⟨hc0, hc1⟩, ⟨hf0, hf1⟩, hz⟩ := box2 hB)
  all_goals (try go_region)
  all_goals
    go_wp2
    refine bodyPost_ret (v := .tuple #[.int .u64 0, .agg #[.int .i64 4, .int .i64 nx]]) (by simp [results, Try.results13, go_sem, hc0, hc1, hz]) rfl ⟨rfl, ?_⟩
    have HB := ((Below.refl w.heap.size w).alloc (Nat.le_refl _) (.cells #[.int .i64 0, .int .i64 0] 26)).trans (hB.mono (by simp))
    repeat (first | exact HB | apply Below.drew | refine Below.setCell ?_ (by first | exact Nat.le_refl _ | (simp; omega)) _ | refine Below.alloc ?_ (by simp; omega) _)

set_option maxRecDepth 100000 in
set_option maxHeartbeats 1000000 in
theorem parse_ok (s : ByteArray) (hs : s.size ≤ 9223372036854775807) (n nx p : Int) (H : Hid (rd s 0 = (n, nx, 0, p))) (hl : ¬ nx < s.size) (w : World) :
    Calls Try.prog 13 #[.string s] w fun e w' => e = .returned (.tuple #[.int .u64 n, .agg #[.int .i64 0, .int .i64 0]]) ∧ Below w.heap.size w w' := by
  go_enter Try.func13, Try.ntmps13
  go_wp2_with (go_at_call 11; refine (read_any s _ hs (by omega) (by omega) n nx 0 p H _).mono ?_; rintro e w1 ⟨rfl, hB⟩; obtain ⟨⟨hc0, hc1⟩, ⟨hf0, hf1⟩, hz⟩ := box2 hB)
  refine bodyPost_ret (v := .tuple #[.int .u64 n, .agg #[.int .i64 0, .int .i64 0]]) (by simp [results, Try.results13, go_sem, hc0, hc1, hz]) rfl ⟨rfl, ?_⟩
  have HB := ((Below.refl w.heap.size w).alloc (Nat.le_refl _) (.cells #[.int .i64 0, .int .i64 0] 26)).trans (hB.mono (by simp))
  repeat (first | exact HB | apply Below.drew | refine Below.setCell ?_ (by first | exact Nat.le_refl _ | (simp; omega)) _ | refine Below.alloc ?_ (by simp; omega) _)

set_option maxRecDepth 100000 in
set_option maxHeartbeats 1000000 in
theorem parser_bad (s : ByteArray) (hs : s.size ≤ 9223372036854775807) (n nx er p : Int) (H : Hid (rd s 0 = (n, nx, er, p))) (he : (er != 0) = true) (he2 : (er == 0) = false) (w : World) :
    Calls Try.prog 14 #[.string s] w fun e w' => e = .returned (.tuple #[.int .u64 0, .agg #[.int .i64 er, .int .i64 p]]) ∧ Below w.heap.size w w' := by
  go_enter Try.func14, Try.ntmps14
  go_wp2_with (go_at_call 12; refine (readr_any s _ hs (by omega) (by omega) n nx er p H _).mono ?_; rintro e w1 ⟨rfl, hB⟩; obtain ⟨⟨hc0, hc1⟩, ⟨hf0, hf1⟩, hz⟩ := box2 hB)
  go_region
  all_goals
    go_wp2
    refine bodyPost_ret (v := .tuple #[.int .u64 0, .agg #[.int .i64 er, .int .i64 p]]) (by simp [results, Try.results14, go_sem, hc0, hc1, hz]) rfl ⟨rfl, ?_⟩
    have HB := ((Below.refl w.heap.size w).alloc (Nat.le_refl _) (.cells #[.int .i64 0, .int .i64 0] 26)).trans (hB.mono (by simp))
    repeat (first | exact HB | apply Below.drew | refine Below.setCell ?_ (by first | exact Nat.le_refl _ | (simp; omega)) _ | refine Below.alloc ?_ (by simp; omega) _)

set_option maxRecDepth 100000 in
set_option maxHeartbeats 1000000 in
theorem parser_long (s : ByteArray) (hs : s.size ≤ 9223372036854775807) (n nx p : Int) (H : Hid (rd s 0 = (n, nx, 0, p))) (hl : nx < s.size) (w : World) :
    Calls Try.prog 14 #[.string s] w fun e w' => e = .returned (.tuple #[.int .u64 0, .agg #[.int .i64 4, .int .i64 nx]]) ∧ Below w.heap.size w w' := by
  go_enter Try.func14, Try.ntmps14
  go_wp2_with (go_at_call 12; refine (readr_any s _ hs (by omega) (by omega) n nx 0 p H _).mono ?_; rintro e w1 ⟨rfl, hB⟩; obtain ⟨⟨hc0, hc1⟩, ⟨hf0, hf1⟩, hz⟩ := box2 hB)
  all_goals (try go_region)
  all_goals
    go_wp2
    refine bodyPost_ret (v := .tuple #[.int .u64 0, .agg #[.int .i64 4, .int .i64 nx]]) (by simp [results, Try.results14, go_sem, hc0, hc1, hz]) rfl ⟨rfl, ?_⟩
    have HB := ((Below.refl w.heap.size w).alloc (Nat.le_refl _) (.cells #[.int .i64 0, .int .i64 0] 26)).trans (hB.mono (by simp))
    repeat (first | exact HB | apply Below.drew | refine Below.setCell ?_ (by first | exact Nat.le_refl _ | (simp; omega)) _ | refine Below.alloc ?_ (by simp; omega) _)

set_option maxRecDepth 100000 in
set_option maxHeartbeats 1000000 in
theorem parser_ok (s : ByteArray) (hs : s.size ≤ 9223372036854775807) (n nx p : Int) (H : Hid (rd s 0 = (n, nx, 0, p))) (hl : ¬ nx < s.size) (w : World) :
    Calls Try.prog 14 #[.string s] w fun e w' => e = .returned (.tuple #[.int .u64 n, .agg #[.int .i64 0, .int .i64 0]]) ∧ Below w.heap.size w w' := by
  go_enter Try.func14, Try.ntmps14
  go_wp2_with (go_at_call 12; refine (readr_any s _ hs (by omega) (by omega) n nx 0 p H _).mono ?_; rintro e w1 ⟨rfl, hB⟩; obtain ⟨⟨hc0, hc1⟩, ⟨hf0, hf1⟩, hz⟩ := box2 hB)
  refine bodyPost_ret (v := .tuple #[.int .u64 n, .agg #[.int .i64 0, .int .i64 0]]) (by simp [results, Try.results14, go_sem, hc0, hc1, hz]) rfl ⟨rfl, ?_⟩
  have HB := ((Below.refl w.heap.size w).alloc (Nat.le_refl _) (.cells #[.int .i64 0, .int .i64 0] 26)).trans (hB.mono (by simp))
  repeat (first | exact HB | apply Below.drew | refine Below.setCell ?_ (by first | exact Nat.le_refl _ | (simp; omega)) _ | refine Below.alloc ?_ (by simp; omega) _)

/-- what Parse answers: number, error, its offset -/
def prs (s : ByteArray) : Int × Int × Int :=
  if (rd s 0).2.2.1 = 0 then (if (rd s 0).2.1 < s.size then (0, 4, (rd s 0).2.1) else ((rd s 0).1, 0, 0)) else (0, (rd s 0).2.2.1, (rd s 0).2.2.2)
theorem parse_any (s : ByteArray) (hs : s.size ≤ 9223372036854775807) (n er p : Int) (H : Hid (prs s = (n, er, p))) (w : World) :
    Calls Try.prog 13 #[.string s] w fun e w' => e = .returned (.tuple #[.int .u64 n, .agg #[.int .i64 er, .int .i64 p]]) ∧ Below w.heap.size w w' := by
  have h := H.out
  unfold prs at h
  obtain ⟨n', nx', er', p', hr⟩ : ∃ n' nx' er' p', rd s 0 = (n', nx', er', p') := ⟨_, _, _, _, rfl⟩
  rw [hr] at h
  simp only [] at h
  by_cases he : er' = 0
  · subst he
    rw [if_pos rfl] at h
    by_cases hl : nx' < s.size
    · rw [if_pos hl] at h; cases h
      exact parse_long s hs n' _ p' hr hl w
    · rw [if_neg hl] at h; cases h
      exact parse_ok s hs _ nx' p' hr hl w
  · rw [if_neg he] at h; cases h
    exact parse_bad s hs n' nx' _ _ hr (by simpa using he) (by simpa using he) w
theorem parser_any (s : ByteArray) (hs : s.size ≤ 9223372036854775807) (n er p : Int) (H : Hid (prs s = (n, er, p))) (w : World) :
    Calls Try.prog 14 #[.string s] w fun e w' => e = .returned (.tuple #[.int .u64 n, .agg #[.int .i64 er, .int .i64 p]]) ∧ Below w.heap.size w w' := by
  have h := H.out
  unfold prs at h
  obtain ⟨n', nx', er', p', hr⟩ : ∃ n' nx' er' p', rd s 0 = (n', nx', er', p') := ⟨_, _, _, _, rfl⟩
  rw [hr] at h
  simp only [] at h
  by_cases he : er' = 0
  · subst he
    rw [if_pos rfl] at h
    by_cases hl : nx' < s.size
    · rw [if_pos hl] at h; cases h
      exact parser_long s hs n' _ p' hr hl w
    · rw [if_neg hl] at h; cases h
      exact parser_ok s hs _ nx' p' hr hl w
  · rw [if_neg he] at h; cases h
    exact parser_bad s hs n' nx' _ _ hr (by simpa using he) (by simpa using he) w
end Go.Proofs.Ytjobmgnabfnhbaa
