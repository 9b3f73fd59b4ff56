/-
  Layer 5, the program's side: number, length, fixed, sized, signed.
-/
import Derived.Test.YtkepnjnindolbaaS05M
import Derived.Test.YtkepnjnindolbaaS05C
namespace Go.Proofs.Ytkepnjnindolbaa.s05
set_option linter.unusedVariables false
set_option linter.unusedSimpArgs false
open Go.RowKit
open kit

theorem tup_of {k : IntKind} {n n' nx nx' er er' p p' : Int} (h : (n, nx, er, p) = (n', nx', er', p')) : Ending.returned (.tuple #[.int k n, .int .i64 nx, .agg #[.int .i64 er, .int .i64 p]]) = .returned (.tuple #[.int k n', .int .i64 nx', .agg #[.int .i64 er', .int .i64 p']]) := by
  cases h; rfl
set_option maxRecDepth 100000 in
set_option maxHeartbeats 1000000 in
theorem number_any (s : ByteArray) (a least most : Int) (hs : s.size ≤ 20000) (h1 : 0 ≤ a) (h2 : a ≤ s.size) (h3 : -9223372036854775808 ≤ least) (h4 : least ≤ 9223372036854775807) (h5 : -9223372036854775808 ≤ most) (h6 : most ≤ 9223372036854775807) (n nx er p : Int) (H : Hid (numF least most s a = (n, nx, er, p))) (w : World) :
    Calls Try.prog 49 #[.string s, .int .i64 a, .int .i64 least, .int .i64 most] w fun e w' => e = .returned (.tuple #[.int .i64 n, .int .i64 nx, .agg #[.int .i64 er, .int .i64 p]]) ∧ Below w.heap.size w w' := by
  have X2 := Lib.hid ((Box.new w 24 #[.int .i64 0, .int .i64 0]).alloc (.cells #[.int .i64 2, .int .i64 a] 24))
  have Y2 := Lib.hid (Box.new2 w (.cells #[.int .i64 0, .int .i64 0] 24) 24 #[.int .i64 2, .int .i64 a])
  have B2 := Lib.hid (((Below.refl w.heap.size w).alloc (Nat.le_refl _) (.cells #[.int .i64 0, .int .i64 0] 24)).alloc (by simp) (.cells #[.int .i64 2, .int .i64 a] 24))
  by_cases hr : least < 0 ∨ most < least
  · have HX : Hid (((0 : Int), (0 : Int), (2 : Int), a) = (n, nx, er, p)) := Lib.hid (by rw [← H.out]; unfold numF; rw [if_pos hr])
    by_cases hl : least < 0
    · clear hr
      go_enter Try.func49, Try.ntmps49
      go_wp2
      go_region
      go_wp2
      refine bodyPost_ret (v := .tuple #[.int .i64 0, .int .i64 0, .agg #[.int .i64 2, .int .i64 a]]) (by simp [results, Try.results49, go_sem]) rfl ⟨tup_of HX.out, ?_⟩
      first | exact B2.out.drew | exact (((Below.refl w.heap.size w).alloc (Nat.le_refl _) _).alloc (by simp) _).drew | exact ((Below.refl w.heap.size w).alloc (Nat.le_refl _) _).drew | exact (Below.refl w.heap.size w).alloc (Nat.le_refl _) _
    · have hl2 : most < least := by omega
      clear hr
      go_enter Try.func49, Try.ntmps49
      go_wp2
      go_region
      go_wp2
      refine bodyPost_ret (v := .tuple #[.int .i64 0, .int .i64 0, .agg #[.int .i64 2, .int .i64 a]]) (by simp [results, Try.results49, go_sem]) rfl ⟨tup_of HX.out, ?_⟩
      first | exact B2.out.drew | exact (((Below.refl w.heap.size w).alloc (Nat.le_refl _) _).alloc (by simp) _).drew | exact ((Below.refl w.heap.size w).alloc (Nat.le_refl _) _).drew | exact (Below.refl w.heap.size w).alloc (Nat.le_refl _) _
  · have hl1 : ¬ least < 0 := by omega
    have hl2 : ¬ most < least := by omega
    have hl3 : 0 ≤ least := by omega
    have hl4 : 0 ≤ most := by omega
    obtain ⟨n', nx', er', p', hb⟩ : ∃ n' nx' er' p', bnd s a most = (n', nx', er', p') := ⟨_, _, _, _, rfl⟩
    obtain ⟨b1, b2⟩ := bnd_bounds s a most hb h1 h2
    have HB := Lib.hid hb
    have hx := H.out
    unfold numF at hx
    rw [if_neg hr, hb] at hx
    simp only [] at hx
    clear hr hb H
    by_cases he : er' = 0
    · subst he
      obtain ⟨g1, g2, g3, g4, g5, rfl⟩ := b1 rfl
      rw [if_pos rfl] at hx
      clear b1 b2
      by_cases hlow : n' < least
      · rw [if_pos hlow] at hx
        have HX := Lib.hid hx
        clear hx
        go_enter Try.func49, Try.ntmps49
        go_wp2_with (go_at_call 55; refine (bound_any s a _ (by omega) (by omega) (by omega) n' nx' 0 0 HB _).mono ?_; rintro en w1 ⟨rfl, hB⟩; have X3 := Lib.hid (X2.out.below hB); have Y3 := Lib.hid (Y2.out.below hB); have B3 := Lib.hid (below_then B2.out hB); have hz : w.heap.size + 1 < w1.heap.size := (by have := hB.size; simp at this; omega); clear hB; obtain ⟨c0, c1⟩ := X3.out.cell2; obtain ⟨f0, f1⟩ := X3.out.free2; obtain ⟨y0, y1⟩ := Y3.out.cell2)
        go_region
        go_wp2
        obtain ⟨d0, d1⟩ := ((X3.out.set2 (.int .i64 0) (.int .i64 0)).set2 (.int .i64 2) (.int .i64 a)).cell2
        refine bodyPost_ret (v := .tuple #[.int .i64 0, .int .i64 0, .agg #[.int .i64 2, .int .i64 a]]) (by simp [results, Try.results49, go_sem, d0, d1]) rfl ⟨tup_of HX.out, ?_⟩
        have Q := Below.set2 (Below.set2 B3.out w.heap.size (Nat.le_refl _) (.int .i64 0) (.int .i64 0)) w.heap.size (Nat.le_refl _) (.int .i64 2) (.int .i64 a)
        first | exact Q.drew | exact Q
      · rw [if_neg hlow] at hx
        have HX := Lib.hid hx
        have hlow2 : least ≤ n' := by omega
        clear hx hlow
        go_enter Try.func49, Try.ntmps49
        go_wp2_with (go_at_call 55; refine (bound_any s a _ (by omega) (by omega) (by omega) n' nx' 0 0 HB _).mono ?_; rintro en w1 ⟨rfl, hB⟩; have X3 := Lib.hid (X2.out.below hB); have Y3 := Lib.hid (Y2.out.below hB); have B3 := Lib.hid (below_then B2.out hB); have hz : w.heap.size + 1 < w1.heap.size := (by have := hB.size; simp at this; omega); clear hB; obtain ⟨c0, c1⟩ := X3.out.cell2; obtain ⟨f0, f1⟩ := X3.out.free2; obtain ⟨y0, y1⟩ := Y3.out.cell2)
        go_wp2
        obtain ⟨d0, d1⟩ := ((X3.out.set2 (.int .i64 0) (.int .i64 0)).set2 (.int .i64 0) (.int .i64 0)).cell2
        refine bodyPost_ret (v := .tuple #[.int .i64 n', .int .i64 nx', .agg #[.int .i64 0, .int .i64 0]]) (by simp [results, Try.results49, go_sem, d0, d1]) rfl ⟨tup_of HX.out, ?_⟩
        have Q := Below.set2 (Below.set2 B3.out w.heap.size (Nat.le_refl _) (.int .i64 0) (.int .i64 0)) w.heap.size (Nat.le_refl _) (.int .i64 0) (.int .i64 0)
        first | exact Q.drew | exact Q
    · rw [if_neg he] at hx
      obtain ⟨rfl, rfl, g3, g4, g5⟩ := b2 he
      have te : (er' != 0) = true := by simpa using he
      have HX := Lib.hid hx
      clear hx he b1 b2
      go_enter Try.func49, Try.ntmps49
      go_wp2_with (go_at_call 55; refine (bound_any s a _ (by omega) (by omega) (by omega) 0 0 er' p' HB _).mono ?_; rintro en w1 ⟨rfl, hB⟩; have X3 := Lib.hid (X2.out.below hB); have Y3 := Lib.hid (Y2.out.below hB); have B3 := Lib.hid (below_then B2.out hB); have hz : w.heap.size + 1 < w1.heap.size := (by have := hB.size; simp at this; omega); clear hB; obtain ⟨c0, c1⟩ := X3.out.cell2; obtain ⟨f0, f1⟩ := X3.out.free2; obtain ⟨y0, y1⟩ := Y3.out.cell2)
      go_region
      go_wp2
      obtain ⟨d0, d1⟩ := ((X3.out.set2 (.int .i64 er') (.int .i64 p')).set2 (.int .i64 er') (.int .i64 p')).cell2
      refine bodyPost_ret (v := .tuple #[.int .i64 0, .int .i64 0, .agg #[.int .i64 er', .int .i64 p']]) (by simp [results, Try.results49, go_sem, d0, d1]) rfl ⟨tup_of HX.out, ?_⟩
      have Q := Below.set2 (Below.set2 B3.out w.heap.size (Nat.le_refl _) (.int .i64 er') (.int .i64 p')) w.heap.size (Nat.le_refl _) (.int .i64 er') (.int .i64 p')
      first | exact Q.drew | exact Q
set_option maxRecDepth 100000 in
set_option maxHeartbeats 1000000 in
theorem length_any (s : ByteArray) (a most : Int) (hs : s.size ≤ 20000) (h1 : 0 ≤ a) (h2 : a ≤ s.size) (h5 : -9223372036854775808 ≤ most) (h6 : most ≤ 9223372036854775807) (n nx er p : Int) (H : Hid (lenF most s a = (n, nx, er, p))) (w : World) :
    Calls Try.prog 87 #[.string s, .int .i64 a, .int .i64 most] w fun en w' => en = .returned (.tuple #[.int .i64 n, .int .i64 nx, .agg #[.int .i64 er, .int .i64 p]]) ∧ Below w.heap.size w w' := by
  have X1 := Lib.hid (Box.new w 24 #[.int .i64 0, .int .i64 0])
  have B1 := Lib.hid ((Below.refl w.heap.size w).alloc (Nat.le_refl _) (.cells #[.int .i64 0, .int .i64 0] 24))
  by_cases hr : most < 0
  · have HX : Hid (((0 : Int), (0 : Int), (2 : Int), a) = (n, nx, er, p)) := Lib.hid (by rw [← H.out]; unfold lenF; rw [if_pos hr])
    go_enter Try.func87, Try.ntmps87
    go_wp2
    refine bodyPost_ret (v := .tuple #[.int .i64 0, .int .i64 0, .agg #[.int .i64 2, .int .i64 a]]) (by simp [results, Try.results87, go_sem]) rfl ⟨tup_of HX.out, ?_⟩
    exact (Below.refl w.heap.size w).alloc (Nat.le_refl _) _
  · have hm : 0 ≤ most := by omega
    obtain ⟨n', nx', er', p', hb⟩ : ∃ n' nx' er' p', rd s a = (n', nx', er', p') := ⟨_, _, _, _, rfl⟩
    obtain ⟨b1, b2⟩ := rd_bounds s a hb
    have HB := Lib.hid hb
    have hx := H.out
    unfold lenF at hx
    rw [if_neg hr, hb] at hx
    simp only [] at hx
    clear hb H
    by_cases he : er' = 0
    · subst he
      obtain ⟨g1, g2, g3, g4, g5, rfl⟩ := b1 rfl
      rw [if_pos rfl] at hx
      clear b1 b2
      by_cases hlow : most < n'
      · rw [if_pos hlow] at hx
        have HX := Lib.hid hx
        clear hx
        go_enter Try.func87, Try.ntmps87
        go_wp2_with (go_at_call 84; refine (read_any s a (by omega) (by omega) (by omega) n' nx' 0 0 HB _).mono ?_; rintro en w1 ⟨rfl, hB⟩; have X3 := Lib.hid (X1.out.below hB); have B3 := Lib.hid (below_then B1.out hB); have hz : w.heap.size < w1.heap.size := (by have := hB.size; simp at this; omega); clear hB; obtain ⟨c0, c1⟩ := X3.out.cell2; obtain ⟨f0, f1⟩ := X3.out.free2)
        go_wp2
        obtain ⟨d0, d1⟩ := ((X3.out.set2 (.int .i64 0) (.int .i64 0)).set2 (.int .i64 4) (.int .i64 a)).cell2
        refine bodyPost_ret (v := .tuple #[.int .i64 0, .int .i64 0, .agg #[.int .i64 4, .int .i64 a]]) (by simp [results, Try.results87, go_sem, d0, d1]) rfl ⟨tup_of HX.out, ?_⟩
        have Q := (Below.set2 (Below.set2 B3.out w.heap.size (Nat.le_refl _) (.int .i64 0) (.int .i64 0)) w.heap.size (Nat.le_refl _) (.int .i64 4) (.int .i64 a))
        first | exact Q.drew | exact Q
      · rw [if_neg hlow] at hx
        have HX := Lib.hid hx
        have hlow2 : n' ≤ most := by omega
        clear hx
        go_enter Try.func87, Try.ntmps87
        go_wp2_with (go_at_call 84; refine (read_any s a (by omega) (by omega) (by omega) n' nx' 0 0 HB _).mono ?_; rintro en w1 ⟨rfl, hB⟩; have X3 := Lib.hid (X1.out.below hB); have B3 := Lib.hid (below_then B1.out hB); have hz : w.heap.size < w1.heap.size := (by have := hB.size; simp at this; omega); clear hB; obtain ⟨c0, c1⟩ := X3.out.cell2; obtain ⟨f0, f1⟩ := X3.out.free2)
        go_wp2
        obtain ⟨d0, d1⟩ := ((X3.out.set2 (.int .i64 0) (.int .i64 0)).set2 (.int .i64 0) (.int .i64 0)).cell2
        refine bodyPost_ret (v := .tuple #[.int .i64 n', .int .i64 nx', .agg #[.int .i64 0, .int .i64 0]]) (by simp [results, Try.results87, go_sem, d0, d1]) rfl ⟨tup_of HX.out, ?_⟩
        have Q := (Below.set2 (Below.set2 B3.out w.heap.size (Nat.le_refl _) (.int .i64 0) (.int .i64 0)) w.heap.size (Nat.le_refl _) (.int .i64 0) (.int .i64 0))
        first | exact Q.drew | exact Q
    · rw [if_neg he] at hx
      obtain ⟨rfl, rfl, g3, g4, g5⟩ := b2 he
      have te : (er' != 0) = true := by simpa using he
      have HX := Lib.hid hx
      clear hx he b1 b2
      go_enter Try.func87, Try.ntmps87
      go_wp2_with (go_at_call 84; refine (read_any s a (by omega) (by omega) (by omega) 0 0 er' p' HB _).mono ?_; rintro en w1 ⟨rfl, hB⟩; have X3 := Lib.hid (X1.out.below hB); have B3 := Lib.hid (below_then B1.out hB); have hz : w.heap.size < w1.heap.size := (by have := hB.size; simp at this; omega); clear hB; obtain ⟨c0, c1⟩ := X3.out.cell2; obtain ⟨f0, f1⟩ := X3.out.free2)
      go_region
      go_wp2
      obtain ⟨d0, d1⟩ := ((X3.out.set2 (.int .i64 er') (.int .i64 p')).set2 (.int .i64 er') (.int .i64 p')).cell2
      refine bodyPost_ret (v := .tuple #[.int .i64 0, .int .i64 0, .agg #[.int .i64 er', .int .i64 p']]) (by simp [results, Try.results87, go_sem, d0, d1]) rfl ⟨tup_of HX.out, ?_⟩
      have Q := (Below.set2 (Below.set2 B3.out w.heap.size (Nat.le_refl _) (.int .i64 er') (.int .i64 p')) w.heap.size (Nat.le_refl _) (.int .i64 er') (.int .i64 p'))
      first | exact Q.drew | exact Q
set_option maxRecDepth 100000 in
set_option maxHeartbeats 1000000 in
theorem signed_any (s : ByteArray) (a least greatest : Int) (hs : s.size ≤ 20000) (h1 : 0 ≤ a) (h2 : a ≤ s.size) (h5 : -9223372036854775808 ≤ least) (h6 : least ≤ 9223372036854775807) (h7 : -9223372036854775808 ≤ greatest) (h8 : greatest ≤ 9223372036854775807) (n nx er p : Int) (H : Hid (sgnF least greatest s a = (n, nx, er, p))) (w : World) :
    Calls Try.prog 90 #[.string s, .int .i64 a, .int .i64 least, .int .i64 greatest] w fun en w' => en = .returned (.tuple #[.int .i64 n, .int .i64 nx, .agg #[.int .i64 er, .int .i64 p]]) ∧ Below w.heap.size w w' := by
  have X1 := Lib.hid (Box.new w 24 #[.int .i64 0, .int .i64 0])
  have B1 := Lib.hid ((Below.refl w.heap.size w).alloc (Nat.le_refl _) (.cells #[.int .i64 0, .int .i64 0] 24))
  obtain ⟨n', nx', er', p', hb⟩ : ∃ n' nx' er' p', rd s a = (n', nx', er', p') := ⟨_, _, _, _, rfl⟩
  obtain ⟨b1, b2⟩ := rd_bounds s a hb
  have HB := Lib.hid hb
  have hx := H.out
  unfold sgnF at hx
  rw [hb] at hx
  simp only [] at hx
  clear hb H
  by_cases he : er' = 0
  · subst he
    obtain ⟨g1, g2, g3, g4, g5, rfl⟩ := b1 rfl
    rw [if_pos rfl] at hx
    clear b1 b2
    have hu := uz_range g1 g2
    obtain ⟨u1, u2⟩ := hu
    obtain ⟨x, hxu⟩ : ∃ x, x = uz n' := ⟨_, rfl⟩
    rw [← hxu] at hx u1 u2
    have HU := Lib.hid hxu
    clear hxu
    by_cases hlow : x < least ∨ greatest < x
    · rw [if_pos hlow] at hx
      have HX := Lib.hid hx
      clear hx
      by_cases hl : x < least
      · clear hlow
        go_enter Try.func90, Try.ntmps90
        go_wp2_with (first | (go_at_call 84; refine (read_any s a (by omega) (by omega) (by omega) n' nx' 0 0 HB _).mono ?_; rintro en w1 ⟨rfl, hB⟩; have X3 := Lib.hid (X1.out.below hB); have B3 := Lib.hid (below_then B1.out hB); have hz : w.heap.size < w1.heap.size := (by have := hB.size; simp at this; omega); clear hB; obtain ⟨c0, c1⟩ := X3.out.cell2; obtain ⟨f0, f1⟩ := X3.out.free2) | (go_at_call 97; refine (unz_any n' (by omega) (by omega) _).mono ?_; rintro en w2 ⟨rfl, rfl⟩; rw [← HU.out]))
        go_wp2
        obtain ⟨d0, d1⟩ := ((X3.out.set2 (.int .i64 0) (.int .i64 0)).set2 (.int .i64 2) (.int .i64 a)).cell2
        refine bodyPost_ret (v := .tuple #[.int .i64 0, .int .i64 0, .agg #[.int .i64 2, .int .i64 a]]) (by simp [results, Try.results90, go_sem, d0, d1]) rfl ⟨tup_of HX.out, ?_⟩
        have Q := (Below.set2 (Below.set2 B3.out w.heap.size (Nat.le_refl _) (.int .i64 0) (.int .i64 0)) w.heap.size (Nat.le_refl _) (.int .i64 2) (.int .i64 a))
        first | exact Q.drew | exact Q
      · have hl2 : greatest < x := by omega
        clear hlow
        go_enter Try.func90, Try.ntmps90
        go_wp2_with (first | (go_at_call 84; refine (read_any s a (by omega) (by omega) (by omega) n' nx' 0 0 HB _).mono ?_; rintro en w1 ⟨rfl, hB⟩; have X3 := Lib.hid (X1.out.below hB); have B3 := Lib.hid (below_then B1.out hB); have hz : w.heap.size < w1.heap.size := (by have := hB.size; simp at this; omega); clear hB; obtain ⟨c0, c1⟩ := X3.out.cell2; obtain ⟨f0, f1⟩ := X3.out.free2) | (go_at_call 97; refine (unz_any n' (by omega) (by omega) _).mono ?_; rintro en w2 ⟨rfl, rfl⟩; rw [← HU.out]))
        go_wp2
        obtain ⟨d0, d1⟩ := ((X3.out.set2 (.int .i64 0) (.int .i64 0)).set2 (.int .i64 2) (.int .i64 a)).cell2
        refine bodyPost_ret (v := .tuple #[.int .i64 0, .int .i64 0, .agg #[.int .i64 2, .int .i64 a]]) (by simp [results, Try.results90, go_sem, d0, d1]) rfl ⟨tup_of HX.out, ?_⟩
        have Q := (Below.set2 (Below.set2 B3.out w.heap.size (Nat.le_refl _) (.int .i64 0) (.int .i64 0)) w.heap.size (Nat.le_refl _) (.int .i64 2) (.int .i64 a))
        first | exact Q.drew | exact Q
    · rw [if_neg hlow] at hx
      have HX := Lib.hid hx
      have hl1 : ¬ x < least := by omega
      have hl2 : ¬ greatest < x := by omega
      clear hx hlow
      go_enter Try.func90, Try.ntmps90
      go_wp2_with (first | (go_at_call 84; refine (read_any s a (by omega) (by omega) (by omega) n' nx' 0 0 HB _).mono ?_; rintro en w1 ⟨rfl, hB⟩; have X3 := Lib.hid (X1.out.below hB); have B3 := Lib.hid (below_then B1.out hB); have hz : w.heap.size < w1.heap.size := (by have := hB.size; simp at this; omega); clear hB; obtain ⟨c0, c1⟩ := X3.out.cell2; obtain ⟨f0, f1⟩ := X3.out.free2) | (go_at_call 97; refine (unz_any n' (by omega) (by omega) _).mono ?_; rintro en w2 ⟨rfl, rfl⟩; rw [← HU.out]))
      go_wp2
      obtain ⟨d0, d1⟩ := ((X3.out.set2 (.int .i64 0) (.int .i64 0)).set2 (.int .i64 0) (.int .i64 0)).cell2
      refine bodyPost_ret (v := .tuple #[.int .i64 x, .int .i64 nx', .agg #[.int .i64 0, .int .i64 0]]) (by simp [results, Try.results90, go_sem, d0, d1]) rfl ⟨tup_of HX.out, ?_⟩
      have Q := (Below.set2 (Below.set2 B3.out w.heap.size (Nat.le_refl _) (.int .i64 0) (.int .i64 0)) w.heap.size (Nat.le_refl _) (.int .i64 0) (.int .i64 0))
      first | exact Q.drew | exact Q
  · rw [if_neg he] at hx
    obtain ⟨rfl, rfl, g3, g4, g5⟩ := b2 he
    have te : (er' != 0) = true := by simpa using he
    have HX := Lib.hid hx
    clear hx he b1 b2
    go_enter Try.func90, Try.ntmps90
    go_wp2_with (go_at_call 84; refine (read_any s a (by omega) (by omega) (by omega) 0 0 er' p' HB _).mono ?_; rintro en w1 ⟨rfl, hB⟩; have X3 := Lib.hid (X1.out.below hB); have B3 := Lib.hid (below_then B1.out hB); have hz : w.heap.size < w1.heap.size := (by have := hB.size; simp at this; omega); clear hB; obtain ⟨c0, c1⟩ := X3.out.cell2; obtain ⟨f0, f1⟩ := X3.out.free2)
    go_region
    go_wp2
    obtain ⟨d0, d1⟩ := ((X3.out.set2 (.int .i64 er') (.int .i64 p')).set2 (.int .i64 er') (.int .i64 p')).cell2
    refine bodyPost_ret (v := .tuple #[.int .i64 0, .int .i64 0, .agg #[.int .i64 er', .int .i64 p']]) (by simp [results, Try.results90, go_sem, d0, d1]) rfl ⟨tup_of HX.out, ?_⟩
    have Q := (Below.set2 (Below.set2 B3.out w.heap.size (Nat.le_refl _) (.int .i64 er') (.int .i64 p')) w.heap.size (Nat.le_refl _) (.int .i64 er') (.int .i64 p'))
    first | exact Q.drew | exact Q
theorem tup_ofS {n n' : ByteArray} {nx nx' er er' p p' : Int} (h : (n, nx, er, p) = (n', nx', er', p')) : Ending.returned (.tuple #[.string n, .int .i64 nx, .agg #[.int .i64 er, .int .i64 p]]) = .returned (.tuple #[.string n', .int .i64 nx', .agg #[.int .i64 er', .int .i64 p']]) := by
  cases h; rfl
set_option maxRecDepth 100000 in
set_option maxHeartbeats 1000000 in
theorem fixed_any (s : ByteArray) (a n : Int) (hs : s.size ≤ 20000) (h1 : 0 ≤ a) (h2 : a ≤ s.size) (h5 : -9223372036854775808 ≤ n) (h6 : n ≤ 9223372036854775807) (t : ByteArray) (nx er p : Int) (H : Hid (fixF n s a = (t, nx, er, p))) (w : World) :
    Calls Try.prog 62 #[.string s, .int .i64 a, .int .i64 n] w fun en w' => en = .returned (.tuple #[.string t, .int .i64 nx, .agg #[.int .i64 er, .int .i64 p]]) ∧ Below w.heap.size w w' := by
  have hx := H.out
  unfold fixF at hx
  by_cases hn : n < 0
  · rw [if_pos hn] at hx
    have HX := Lib.hid hx
    clear hx
    go_enter Try.func62, Try.ntmps62
    go_wp2
    refine bodyPost_ret (v := .tuple #[.string ⟨#[]⟩, .int .i64 0, .agg #[.int .i64 2, .int .i64 a]]) (by simp [results, Try.results62, go_sem]) rfl ⟨tup_ofS HX.out, ?_⟩
    exact (Below.refl w.heap.size w).alloc (Nat.le_refl _) _
  · rw [if_neg hn] at hx
    have hn0 : 0 ≤ n := by omega
    by_cases hg : (s.size : Int) - a < n
    · rw [if_pos hg] at hx
      have HX := Lib.hid hx
      clear hx
      go_enter Try.func62, Try.ntmps62
      go_wp2
      refine bodyPost_ret (v := .tuple #[.string ⟨#[]⟩, .int .i64 0, .agg #[.int .i64 5, .int .i64 a]]) (by simp [results, Try.results62, go_sem]) rfl ⟨tup_ofS HX.out, ?_⟩
      exact (Below.refl w.heap.size w).alloc (Nat.le_refl _) _
    · rw [if_neg hg] at hx
      have HX := Lib.hid hx
      have hg2 : n ≤ (s.size : Int) - a := by omega
      have hg3 : a + n ≤ (s.size : Int) := by omega
      clear hx hg
      go_enter Try.func62, Try.ntmps62
      go_wp2
      refine bodyPost_ret (v := .tuple #[.string (s.extract a.toNat (a + n).toNat), .int .i64 (a + n), .agg #[.int .i64 0, .int .i64 0]]) (by simp [results, Try.results62, go_sem]) rfl ⟨tup_ofS HX.out, ?_⟩
      exact (Below.refl w.heap.size w).alloc (Nat.le_refl _) _
set_option maxRecDepth 100000 in
set_option maxHeartbeats 1000000 in
theorem sized_any (s : ByteArray) (a most : Int) (hs : s.size ≤ 20000) (h1 : 0 ≤ a) (h2 : a ≤ s.size) (h5 : -9223372036854775808 ≤ most) (h6 : most ≤ 9223372036854775807) (t : ByteArray) (nx er p : Int) (H : Hid (sizF most s a = (t, nx, er, p))) (w : World) :
    Calls Try.prog 60 #[.string s, .int .i64 a, .int .i64 most] w fun en w' => en = .returned (.tuple #[.string t, .int .i64 nx, .agg #[.int .i64 er, .int .i64 p]]) ∧ Below w.heap.size w w' := by
  have X1 := Lib.hid (Box.new w 24 #[.int .i64 0, .int .i64 0])
  have B1 := Lib.hid ((Below.refl w.heap.size w).alloc (Nat.le_refl _) (.cells #[.int .i64 0, .int .i64 0] 24))
  obtain ⟨n', nx', er', p', hb⟩ : ∃ n' nx' er' p', lenF most s a = (n', nx', er', p') := ⟨_, _, _, _, rfl⟩
  obtain ⟨b1, b2⟩ := lenF_bounds hb h1 h2
  have HB := Lib.hid hb
  have hx := H.out
  unfold sizF at hx
  rw [hb] at hx
  simp only [] at hx
  clear hb H
  by_cases he : er' = 0
  · subst he
    obtain ⟨g1, g2, g3, g4, rfl⟩ := b1 rfl
    rw [if_pos rfl] at hx
    have HF := Lib.hid hx
    clear b1 b2 hx
    go_enter Try.func60, Try.ntmps60
    go_wp2_with (first
      | (go_at_call 87; refine (length_any s a most hs (by omega) (by omega) (by omega) (by omega) n' nx' 0 0 HB _).mono ?_; rintro en w1 ⟨rfl, hB⟩; have X3 := Lib.hid (X1.out.below hB); have B3 := Lib.hid (below_then B1.out hB); have hz : w.heap.size < w1.heap.size := (by have := hB.size; simp at this; omega); clear hB; obtain ⟨c0, c1⟩ := X3.out.cell2; obtain ⟨f0, f1⟩ := X3.out.free2; have X4 := Lib.hid (X3.out.set2 (.int .i64 0) (.int .i64 0)); have B4 := Lib.hid (Below.set2 B3.out w.heap.size (Nat.le_refl _) (.int .i64 0) (.int .i64 0)))
      | (go_at_call 62; refine (fixed_any s nx' n' hs (by omega) (by omega) (by omega) (by omega) t nx er p HF _).mono ?_; rintro en w2 ⟨rfl, hB⟩; have X5 := Lib.hid (X4.out.below hB); have B5 := Lib.hid (below_then B4.out hB); have hz2 := hB.size; clear hB c0 c1 f0 f1; obtain ⟨c0, c1⟩ := X5.out.cell2; obtain ⟨f0, f1⟩ := X5.out.free2))
    go_wp2
    obtain ⟨d0, d1⟩ := (X5.out.set2 (.int .i64 er) (.int .i64 p)).cell2
    refine bodyPost_ret (v := .tuple #[.string t, .int .i64 nx, .agg #[.int .i64 er, .int .i64 p]]) (by simp [results, Try.results60, go_sem, d0, d1]) rfl ⟨rfl, ?_⟩
    exact Below.set2 B5.out w.heap.size (Nat.le_refl _) _ _
  · rw [if_neg he] at hx
    obtain ⟨rfl, rfl, g3, g4, g5⟩ := b2 he
    have te : (er' != 0) = true := by simpa using he
    have HX := Lib.hid hx
    clear hx he b1 b2
    go_enter Try.func60, Try.ntmps60
    go_wp2_with (go_at_call 87; refine (length_any s a most hs (by omega) (by omega) (by omega) (by omega) 0 0 er' p' HB _).mono ?_; rintro en w1 ⟨rfl, hB⟩; have X3 := Lib.hid (X1.out.below hB); have B3 := Lib.hid (below_then B1.out hB); have hz : w.heap.size < w1.heap.size := (by have := hB.size; simp at this; omega); clear hB; obtain ⟨c0, c1⟩ := X3.out.cell2; obtain ⟨f0, f1⟩ := X3.out.free2; have X4 := Lib.hid (X3.out.set2 (.int .i64 er') (.int .i64 p')); have B4 := Lib.hid (Below.set2 B3.out w.heap.size (Nat.le_refl _) (.int .i64 er') (.int .i64 p')))
    go_region
    go_wp2
    obtain ⟨d0, d1⟩ := ((X3.out.set2 (.int .i64 er') (.int .i64 p')).set2 (.int .i64 er') (.int .i64 p')).cell2
    refine bodyPost_ret (v := .tuple #[.string ⟨#[]⟩, .int .i64 0, .agg #[.int .i64 er', .int .i64 p']]) (by simp [results, Try.results60, go_sem, d0, d1]) rfl ⟨tup_ofS HX.out, ?_⟩
    have Q := (Below.set2 (Below.set2 B3.out w.heap.size (Nat.le_refl _) (.int .i64 er') (.int .i64 p')) w.heap.size (Nat.le_refl _) (.int .i64 er') (.int .i64 p'))
    first | exact Q.drew | exact Q
end Go.Proofs.Ytkepnjnindolbaa.s05
