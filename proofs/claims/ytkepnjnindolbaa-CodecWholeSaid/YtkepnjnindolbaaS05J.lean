/-
  Layer 5, the program's side: the readings.
-/
import Derived.Test.YtkepnjnindolbaaS05I
namespace Go.Proofs.Ytkepnjnindolbaa.s05
set_option linter.unusedVariables false
set_option linter.unusedSimpArgs false
open Go.RowKit
open kit

/-- the value is this one -/
def RelV (v : Value) (_ : Nat) (V : Value) (_ : World) : Prop := V = v
theorem RelV.stays (v : Value) : Stays (RelV v) := fun _ _ _ _ h _ _ => h
set_option maxRecDepth 100000 in
set_option maxHeartbeats 1000000 in
theorem cloI (s : ByteArray) (a : Int) (least : Int) (most : Int) (hs : s.size ≤ 20000) (h1 : 0 ≤ a) (h2 : a ≤ s.size) (hleast1 : -9223372036854775808 ≤ least) (hleast2 : least ≤ 9223372036854775807) (hmost1 : -9223372036854775808 ≤ most) (hmost2 : most ≤ 9223372036854775807) (n : Int) (nx er p : Int) (k1 k2 : Nat) (W : World) (hk1 : W.cell? ⟨k1, 0, none⟩ = some (.int .i64 least)) (hk2 : W.cell? ⟨k2, 0, none⟩ = some (.int .i64 most)) (H : Hid (numF least most s a = (n, nx, er, p))) :
    Calls Try.prog 48 #[.string s, .int .i64 a, .pointer (some ⟨k1, 0, none⟩), .pointer (some ⟨k2, 0, none⟩)] W (GivesC (RelV (.int .i64 n)) nx er p W) := by
  have X1 := Lib.hid (Box.new W 24 #[.int .i64 0, .int .i64 0])
  have B1 := Lib.hid ((Below.refl W.heap.size W).alloc (Nat.le_refl _) (.cells #[.int .i64 0, .int .i64 0] 24))
  have q1 := cell_lt hk1
  have q2 := cell_lt hk2
  go_enter Try.func48, Try.ntmps48
  go_wp2_with (go_at_call 49; refine (number_any s a least most hs h1 h2 hleast1 hleast2 hmost1 hmost2 n nx er p H _).mono ?_; rintro en w1 ⟨rfl, hB⟩; have X3 := Lib.hid (X1.out.below hB); have B3 := Lib.hid (below_then B1.out hB); clear hB; obtain ⟨c0, c1⟩ := X3.out.cell2; obtain ⟨f0, f1⟩ := X3.out.free2)
  have X4 := X3.out.set2 (.int .i64 er) (.int .i64 p)
  obtain ⟨d0, d1⟩ := X4.cell2
  exact bodyPost_ret (v := .tuple #[.int .i64 n, .int .i64 nx, .agg #[.int .i64 er, .int .i64 p]]) (by simp [results, Try.results48, go_sem, d0, d1]) rfl ⟨_, rfl, rfl, Below.set2 B3.out W.heap.size (Nat.le_refl _) _ _⟩
set_option maxRecDepth 100000 in
set_option maxHeartbeats 1000000 in
theorem pnumber_any (s : ByteArray) (p e o : Int) (least : Int) (most : Int) (hs : s.size ≤ 9223372036854775807) (hleast1 : -9223372036854775808 ≤ least) (hleast2 : least ≤ 9223372036854775807) (hmost1 : -9223372036854775808 ≤ most) (hmost2 : most ≤ 9223372036854775807) (s' : ByteArray) (p' e' o' : Int) (n : Int) (H : Hid (fldR (0 : Int) (numF least most) s p e o = ((s', p', e', o'), n))) (w : World) :
    Calls Try.prog 10 #[.agg #[.string s, .int .i64 p, .int .i64 e, .int .i64 o], .int .i64 least, .int .i64 most] w fun en w' => en = .returned (.tuple #[.agg #[.string s', .int .i64 p', .int .i64 e', .int .i64 o'], .int .i64 n]) ∧ Below w.heap.size w w' := by
  have P1 := Lib.hid (((nth_box (w.alloc (.cells #[.string s, .int .i64 p, .int .i64 e, .int .i64 o] 26)) (w.heap.size + 1) 3 #[.int .i64 least] (by simp)).alloc (.cells #[.int .i64 most] 3)).alloc (.cells #[.string ⟨#[]⟩, .int .i64 0, .int .i64 0, .int .i64 0] 26))
  have P2 := Lib.hid ((nth_box ((w.alloc (.cells #[.string s, .int .i64 p, .int .i64 e, .int .i64 o] 26)).alloc (.cells #[.int .i64 least] 3)) (w.heap.size + 2) 3 #[.int .i64 most] (by simp)).alloc (.cells #[.string ⟨#[]⟩, .int .i64 0, .int .i64 0, .int .i64 0] 26))
  have X1 := Lib.hid (nth_box (((w.alloc (.cells #[.string s, .int .i64 p, .int .i64 e, .int .i64 o] 26)).alloc (.cells #[.int .i64 least] 3)).alloc (.cells #[.int .i64 most] 3)) (w.heap.size + 3) 26 #[.string ⟨#[]⟩, .int .i64 0, .int .i64 0, .int .i64 0] (by simp))
  have B1 : Hid (Below w.heap.size w ((((w.alloc (.cells #[.string s, .int .i64 p, .int .i64 e, .int .i64 o] 26)).alloc (.cells #[.int .i64 least] 3)).alloc (.cells #[.int .i64 most] 3)).alloc (.cells #[.string ⟨#[]⟩, .int .i64 0, .int .i64 0, .int .i64 0] 26))) := Lib.hid (((((Below.refl w.heap.size w).alloc (by simp <;> omega) (.cells #[.string s, .int .i64 p, .int .i64 e, .int .i64 o] 26)).alloc (by simp <;> omega) (.cells #[.int .i64 least] 3)).alloc (by simp <;> omega) (.cells #[.int .i64 most] 3)).alloc (by simp <;> omega) (.cells #[.string ⟨#[]⟩, .int .i64 0, .int .i64 0, .int .i64 0] 26))
  obtain ⟨s0, p0, e0, o0, hc⟩ : ∃ s0 p0 e0 o0, cnt s p e o = (s0, p0, e0, o0) := ⟨_, _, _, _, rfl⟩
  obtain ⟨r1, r2, r3, r4, r5, r6, r7⟩ := cnt_ok hc
  have HC := Lib.hid hc
  by_cases he : e0 = 0
  · subst he
    obtain rfl := r7 rfl
    obtain ⟨v0, nx, er, of, hF⟩ : ∃ v0 nx er of, (numF least most) s0 p0 = (v0, nx, er, of) := ⟨_, _, _, _, rfl⟩
    have HF := Lib.hid hF
    by_cases hq : er = 0
    · subst hq
      obtain rfl : of = 0 := ((numF_bounds hF r2 r3).1 rfl).2.2.2.2.2
      have HX := Lib.hid (H.out.symm.trans (fldR_ok HC.out HF.out))
      clear H hc hF
      go_enter Try.func10, Try.ntmps10
      go_wp2_with (go_at_call 47; refine (field_okI s p e o hs s0 p0 HC (w.heap.size + 1) (w.heap.size + 2) nx (Lib.hid trivial) (RelV (.int .i64 v0)) (Lib.hid (RelV.stays _)) _ (Lib.hid (fun W hW => cloI s0 p0 least most r1 r2 r3 hleast1 hleast2 hmost1 hmost2 v0 nx 0 0 (w.heap.size + 1) (w.heap.size + 2) W (P1.out.below hW).c1 (P2.out.below hW).c1 HF))).mono ?_; rintro en w1 ⟨V, B, rfl, _, rfl, hBl⟩; have X2 := Lib.hid (X1.out.below hBl); have B2 := Lib.hid (below_then B1.out hBl); clear hBl; obtain ⟨c0, c1, c2, c3⟩ := X2.out.c4; obtain ⟨f0, f1, f2, f3⟩ := X2.out.f4)
      obtain ⟨d0, d1, d2, d3⟩ := (X2.out.set4 (.string s0) (.int .i64 nx) (.int .i64 0) (.int .i64 0)).c4
      refine bodyPost_ret (v := .tuple #[.agg #[.string s0, .int .i64 nx, .int .i64 0, .int .i64 0], .int .i64 v0]) (by simp [results, Try.results10, go_sem, d0, d1, d2, d3]) rfl ?_
      have BE := Below.set4 B2.out (w.heap.size + 3) (by omega) (.string s0) (.int .i64 nx) (.int .i64 0) (.int .i64 0)
      have hx := HX.out
      simp only [Prod.mk.injEq] at hx
      obtain ⟨⟨rfl, rfl, rfl, rfl⟩, rfl⟩ := hx
      exact ⟨rfl, BE⟩
    · have hq2 : Hid ((er != 0) = true) := Lib.hid (by simpa using hq)
      have HX := Lib.hid (H.out.symm.trans (fldR_new HC.out HF.out hq))
      clear H hc hF
      go_enter Try.func10, Try.ntmps10
      go_wp2_with (go_at_call 47; refine (field_newI s p e o hs s0 p0 HC (w.heap.size + 1) (w.heap.size + 2) nx er of hq2 (RelV (.int .i64 v0)) (Lib.hid (RelV.stays _)) _ (Lib.hid (fun W hW => cloI s0 p0 least most r1 r2 r3 hleast1 hleast2 hmost1 hmost2 v0 nx er of (w.heap.size + 1) (w.heap.size + 2) W (P1.out.below hW).c1 (P2.out.below hW).c1 HF))).mono ?_; rintro en w1 ⟨V, B, rfl, _, rfl, hBl⟩; have X2 := Lib.hid (X1.out.below hBl); have B2 := Lib.hid (below_then B1.out hBl); clear hBl; obtain ⟨c0, c1, c2, c3⟩ := X2.out.c4; obtain ⟨f0, f1, f2, f3⟩ := X2.out.f4)
      obtain ⟨d0, d1, d2, d3⟩ := (X2.out.set4 (.string s0) (.int .i64 p0) (.int .i64 er) (.int .i64 of)).c4
      refine bodyPost_ret (v := .tuple #[.agg #[.string s0, .int .i64 p0, .int .i64 er, .int .i64 of], .int .i64 v0]) (by simp [results, Try.results10, go_sem, d0, d1, d2, d3]) rfl ?_
      have BE := Below.set4 B2.out (w.heap.size + 3) (by omega) (.string s0) (.int .i64 p0) (.int .i64 er) (.int .i64 of)
      have hx := HX.out
      simp only [Prod.mk.injEq] at hx
      obtain ⟨⟨rfl, rfl, rfl, rfl⟩, rfl⟩ := hx
      exact ⟨rfl, BE⟩
  · have hq2 : Hid ((e0 != 0) = true) := Lib.hid (by simpa using he)
    have HX := Lib.hid (H.out.symm.trans (fldR_old HC.out he))
    clear H hc
    go_enter Try.func10, Try.ntmps10
    go_wp2_with (go_at_call 47; refine (field_oldI s p e o hs s0 p0 e0 o0 HC hq2 _ _).mono ?_; rintro en w1 ⟨rfl, hBl⟩; have X2 := Lib.hid (X1.out.below hBl); have B2 := Lib.hid (below_then B1.out hBl); clear hBl; obtain ⟨c0, c1, c2, c3⟩ := X2.out.c4; obtain ⟨f0, f1, f2, f3⟩ := X2.out.f4)
    obtain ⟨d0, d1, d2, d3⟩ := (X2.out.set4 (.string s0) (.int .i64 p0) (.int .i64 e0) (.int .i64 o0)).c4
    refine bodyPost_ret (v := .tuple #[.agg #[.string s0, .int .i64 p0, .int .i64 e0, .int .i64 o0], .int .i64 0]) (by simp [results, Try.results10, go_sem, d0, d1, d2, d3]) rfl ?_
    have BE := Below.set4 B2.out (w.heap.size + 3) (by omega) (.string s0) (.int .i64 p0) (.int .i64 e0) (.int .i64 o0)
    have hx := HX.out
    simp only [Prod.mk.injEq] at hx
    obtain ⟨⟨rfl, rfl, rfl, rfl⟩, rfl⟩ := hx
    exact ⟨rfl, BE⟩
set_option maxRecDepth 100000 in
set_option maxHeartbeats 1000000 in
theorem cloW (s : ByteArray) (a : Int) (most : Int) (hs : s.size ≤ 20000) (h1 : 0 ≤ a) (h2 : a ≤ s.size) (hmost1 : 0 ≤ most) (hmost2 : most ≤ 18446744073709551615) (n : Int) (nx er p : Int) (k1 : Nat) (W : World) (hk1 : W.cell? ⟨k1, 0, none⟩ = some (.int .u64 most)) (H : Hid ((fun s a => bnd s a most) s a = (n, nx, er, p))) :
    Calls Try.prog 54 #[.string s, .int .i64 a, .pointer (some ⟨k1, 0, none⟩)] W (GivesC (RelV (.int .u64 n)) nx er p W) := by
  have X1 := Lib.hid (Box.new W 24 #[.int .i64 0, .int .i64 0])
  have B1 := Lib.hid ((Below.refl W.heap.size W).alloc (Nat.le_refl _) (.cells #[.int .i64 0, .int .i64 0] 24))
  have q1 := cell_lt hk1
  go_enter Try.func54, Try.ntmps54
  go_wp2_with (go_at_call 55; refine (bound_any s a most (by omega) (by omega) (by omega) n nx er p H _).mono ?_; rintro en w1 ⟨rfl, hB⟩; have X3 := Lib.hid (X1.out.below hB); have B3 := Lib.hid (below_then B1.out hB); clear hB; obtain ⟨c0, c1⟩ := X3.out.cell2; obtain ⟨f0, f1⟩ := X3.out.free2)
  have X4 := X3.out.set2 (.int .i64 er) (.int .i64 p)
  obtain ⟨d0, d1⟩ := X4.cell2
  exact bodyPost_ret (v := .tuple #[.int .u64 n, .int .i64 nx, .agg #[.int .i64 er, .int .i64 p]]) (by simp [results, Try.results54, go_sem, d0, d1]) rfl ⟨_, rfl, rfl, Below.set2 B3.out W.heap.size (Nat.le_refl _) _ _⟩
set_option maxRecDepth 100000 in
set_option maxHeartbeats 1000000 in
theorem pwide_any (s : ByteArray) (p e o : Int) (most : Int) (hs : s.size ≤ 9223372036854775807) (hmost1 : 0 ≤ most) (hmost2 : most ≤ 18446744073709551615) (s' : ByteArray) (p' e' o' : Int) (n : Int) (H : Hid (fldR (0 : Int) ((fun s a => bnd s a most)) s p e o = ((s', p', e', o'), n))) (w : World) :
    Calls Try.prog 12 #[.agg #[.string s, .int .i64 p, .int .i64 e, .int .i64 o], .int .u64 most] w fun en w' => en = .returned (.tuple #[.agg #[.string s', .int .i64 p', .int .i64 e', .int .i64 o'], .int .u64 n]) ∧ Below w.heap.size w w' := by
  have P1 := Lib.hid ((nth_box (w.alloc (.cells #[.string s, .int .i64 p, .int .i64 e, .int .i64 o] 26)) (w.heap.size + 1) 27 #[.int .u64 most] (by simp)).alloc (.cells #[.string ⟨#[]⟩, .int .i64 0, .int .i64 0, .int .i64 0] 26))
  have X1 := Lib.hid (nth_box ((w.alloc (.cells #[.string s, .int .i64 p, .int .i64 e, .int .i64 o] 26)).alloc (.cells #[.int .u64 most] 27)) (w.heap.size + 2) 26 #[.string ⟨#[]⟩, .int .i64 0, .int .i64 0, .int .i64 0] (by simp))
  have B1 : Hid (Below w.heap.size w (((w.alloc (.cells #[.string s, .int .i64 p, .int .i64 e, .int .i64 o] 26)).alloc (.cells #[.int .u64 most] 27)).alloc (.cells #[.string ⟨#[]⟩, .int .i64 0, .int .i64 0, .int .i64 0] 26))) := Lib.hid ((((Below.refl w.heap.size w).alloc (by simp <;> omega) (.cells #[.string s, .int .i64 p, .int .i64 e, .int .i64 o] 26)).alloc (by simp <;> omega) (.cells #[.int .u64 most] 27)).alloc (by simp <;> omega) (.cells #[.string ⟨#[]⟩, .int .i64 0, .int .i64 0, .int .i64 0] 26))
  obtain ⟨s0, p0, e0, o0, hc⟩ : ∃ s0 p0 e0 o0, cnt s p e o = (s0, p0, e0, o0) := ⟨_, _, _, _, rfl⟩
  obtain ⟨r1, r2, r3, r4, r5, r6, r7⟩ := cnt_ok hc
  have HC := Lib.hid hc
  by_cases he : e0 = 0
  · subst he
    obtain rfl := r7 rfl
    obtain ⟨v0, nx, er, of, hF⟩ : ∃ v0 nx er of, ((fun s a => bnd s a most)) s0 p0 = (v0, nx, er, of) := ⟨_, _, _, _, rfl⟩
    have HF := Lib.hid hF
    by_cases hq : er = 0
    · subst hq
      obtain rfl : of = 0 := ((bnd_bounds s0 p0 most hF r2 r3).1 rfl).2.2.2.2.2
      have HX := Lib.hid (H.out.symm.trans (fldR_ok HC.out HF.out))
      clear H hc hF
      go_enter Try.func12, Try.ntmps12
      go_wp2_with (go_at_call 53; refine (field_okW s p e o hs s0 p0 HC (w.heap.size + 1) nx (Lib.hid trivial) (RelV (.int .u64 v0)) (Lib.hid (RelV.stays _)) _ (Lib.hid (fun W hW => cloW s0 p0 most r1 r2 r3 hmost1 hmost2 v0 nx 0 0 (w.heap.size + 1) W (P1.out.below hW).c1 HF))).mono ?_; rintro en w1 ⟨V, B, rfl, _, rfl, hBl⟩; have X2 := Lib.hid (X1.out.below hBl); have B2 := Lib.hid (below_then B1.out hBl); clear hBl; obtain ⟨c0, c1, c2, c3⟩ := X2.out.c4; obtain ⟨f0, f1, f2, f3⟩ := X2.out.f4)
      obtain ⟨d0, d1, d2, d3⟩ := (X2.out.set4 (.string s0) (.int .i64 nx) (.int .i64 0) (.int .i64 0)).c4
      refine bodyPost_ret (v := .tuple #[.agg #[.string s0, .int .i64 nx, .int .i64 0, .int .i64 0], .int .u64 v0]) (by simp [results, Try.results12, go_sem, d0, d1, d2, d3]) rfl ?_
      have BE := Below.set4 B2.out (w.heap.size + 2) (by omega) (.string s0) (.int .i64 nx) (.int .i64 0) (.int .i64 0)
      have hx := HX.out
      simp only [Prod.mk.injEq] at hx
      obtain ⟨⟨rfl, rfl, rfl, rfl⟩, rfl⟩ := hx
      exact ⟨rfl, BE⟩
    · have hq2 : Hid ((er != 0) = true) := Lib.hid (by simpa using hq)
      have HX := Lib.hid (H.out.symm.trans (fldR_new HC.out HF.out hq))
      clear H hc hF
      go_enter Try.func12, Try.ntmps12
      go_wp2_with (go_at_call 53; refine (field_newW s p e o hs s0 p0 HC (w.heap.size + 1) nx er of hq2 (RelV (.int .u64 v0)) (Lib.hid (RelV.stays _)) _ (Lib.hid (fun W hW => cloW s0 p0 most r1 r2 r3 hmost1 hmost2 v0 nx er of (w.heap.size + 1) W (P1.out.below hW).c1 HF))).mono ?_; rintro en w1 ⟨V, B, rfl, _, rfl, hBl⟩; have X2 := Lib.hid (X1.out.below hBl); have B2 := Lib.hid (below_then B1.out hBl); clear hBl; obtain ⟨c0, c1, c2, c3⟩ := X2.out.c4; obtain ⟨f0, f1, f2, f3⟩ := X2.out.f4)
      obtain ⟨d0, d1, d2, d3⟩ := (X2.out.set4 (.string s0) (.int .i64 p0) (.int .i64 er) (.int .i64 of)).c4
      refine bodyPost_ret (v := .tuple #[.agg #[.string s0, .int .i64 p0, .int .i64 er, .int .i64 of], .int .u64 v0]) (by simp [results, Try.results12, go_sem, d0, d1, d2, d3]) rfl ?_
      have BE := Below.set4 B2.out (w.heap.size + 2) (by omega) (.string s0) (.int .i64 p0) (.int .i64 er) (.int .i64 of)
      have hx := HX.out
      simp only [Prod.mk.injEq] at hx
      obtain ⟨⟨rfl, rfl, rfl, rfl⟩, rfl⟩ := hx
      exact ⟨rfl, BE⟩
  · have hq2 : Hid ((e0 != 0) = true) := Lib.hid (by simpa using he)
    have HX := Lib.hid (H.out.symm.trans (fldR_old HC.out he))
    clear H hc
    go_enter Try.func12, Try.ntmps12
    go_wp2_with (go_at_call 53; refine (field_oldW s p e o hs s0 p0 e0 o0 HC hq2 _ _).mono ?_; rintro en w1 ⟨rfl, hBl⟩; have X2 := Lib.hid (X1.out.below hBl); have B2 := Lib.hid (below_then B1.out hBl); clear hBl; obtain ⟨c0, c1, c2, c3⟩ := X2.out.c4; obtain ⟨f0, f1, f2, f3⟩ := X2.out.f4)
    obtain ⟨d0, d1, d2, d3⟩ := (X2.out.set4 (.string s0) (.int .i64 p0) (.int .i64 e0) (.int .i64 o0)).c4
    refine bodyPost_ret (v := .tuple #[.agg #[.string s0, .int .i64 p0, .int .i64 e0, .int .i64 o0], .int .u64 0]) (by simp [results, Try.results12, go_sem, d0, d1, d2, d3]) rfl ?_
    have BE := Below.set4 B2.out (w.heap.size + 2) (by omega) (.string s0) (.int .i64 p0) (.int .i64 e0) (.int .i64 o0)
    have hx := HX.out
    simp only [Prod.mk.injEq] at hx
    obtain ⟨⟨rfl, rfl, rfl, rfl⟩, rfl⟩ := hx
    exact ⟨rfl, BE⟩
set_option maxRecDepth 100000 in
set_option maxHeartbeats 1000000 in
theorem cloS (s : ByteArray) (a : Int) (most : Int) (hs : s.size ≤ 20000) (h1 : 0 ≤ a) (h2 : a ≤ s.size) (hmost1 : -9223372036854775808 ≤ most) (hmost2 : most ≤ 9223372036854775807) (n : ByteArray) (nx er p : Int) (k1 : Nat) (W : World) (hk1 : W.cell? ⟨k1, 0, none⟩ = some (.int .i64 most)) (H : Hid (sizF most s a = (n, nx, er, p))) :
    Calls Try.prog 59 #[.string s, .int .i64 a, .pointer (some ⟨k1, 0, none⟩)] W (GivesC (RelV (.string n)) nx er p W) := by
  have X1 := Lib.hid (Box.new W 24 #[.int .i64 0, .int .i64 0])
  have B1 := Lib.hid ((Below.refl W.heap.size W).alloc (Nat.le_refl _) (.cells #[.int .i64 0, .int .i64 0] 24))
  have q1 := cell_lt hk1
  go_enter Try.func59, Try.ntmps59
  go_wp2_with (go_at_call 60; refine (sized_any s a most hs h1 h2 hmost1 hmost2 n nx er p H _).mono ?_; rintro en w1 ⟨rfl, hB⟩; have X3 := Lib.hid (X1.out.below hB); have B3 := Lib.hid (below_then B1.out hB); clear hB; obtain ⟨c0, c1⟩ := X3.out.cell2; obtain ⟨f0, f1⟩ := X3.out.free2)
  have X4 := X3.out.set2 (.int .i64 er) (.int .i64 p)
  obtain ⟨d0, d1⟩ := X4.cell2
  exact bodyPost_ret (v := .tuple #[.string n, .int .i64 nx, .agg #[.int .i64 er, .int .i64 p]]) (by simp [results, Try.results59, go_sem, d0, d1]) rfl ⟨_, rfl, rfl, Below.set2 B3.out W.heap.size (Nat.le_refl _) _ _⟩
set_option maxRecDepth 100000 in
set_option maxHeartbeats 1000000 in
theorem pstring_any (s : ByteArray) (p e o : Int) (most : Int) (hs : s.size ≤ 9223372036854775807) (hmost1 : -9223372036854775808 ≤ most) (hmost2 : most ≤ 9223372036854775807) (s' : ByteArray) (p' e' o' : Int) (n : ByteArray) (H : Hid (fldR (⟨#[]⟩ : ByteArray) (sizF most) s p e o = ((s', p', e', o'), n))) (w : World) :
    Calls Try.prog 14 #[.agg #[.string s, .int .i64 p, .int .i64 e, .int .i64 o], .int .i64 most] w fun en w' => en = .returned (.tuple #[.agg #[.string s', .int .i64 p', .int .i64 e', .int .i64 o'], .string n]) ∧ Below w.heap.size w w' := by
  have P1 := Lib.hid ((nth_box (w.alloc (.cells #[.string s, .int .i64 p, .int .i64 e, .int .i64 o] 26)) (w.heap.size + 1) 3 #[.int .i64 most] (by simp)).alloc (.cells #[.string ⟨#[]⟩, .int .i64 0, .int .i64 0, .int .i64 0] 26))
  have X1 := Lib.hid (nth_box ((w.alloc (.cells #[.string s, .int .i64 p, .int .i64 e, .int .i64 o] 26)).alloc (.cells #[.int .i64 most] 3)) (w.heap.size + 2) 26 #[.string ⟨#[]⟩, .int .i64 0, .int .i64 0, .int .i64 0] (by simp))
  have B1 : Hid (Below w.heap.size w (((w.alloc (.cells #[.string s, .int .i64 p, .int .i64 e, .int .i64 o] 26)).alloc (.cells #[.int .i64 most] 3)).alloc (.cells #[.string ⟨#[]⟩, .int .i64 0, .int .i64 0, .int .i64 0] 26))) := Lib.hid ((((Below.refl w.heap.size w).alloc (by simp <;> omega) (.cells #[.string s, .int .i64 p, .int .i64 e, .int .i64 o] 26)).alloc (by simp <;> omega) (.cells #[.int .i64 most] 3)).alloc (by simp <;> omega) (.cells #[.string ⟨#[]⟩, .int .i64 0, .int .i64 0, .int .i64 0] 26))
  obtain ⟨s0, p0, e0, o0, hc⟩ : ∃ s0 p0 e0 o0, cnt s p e o = (s0, p0, e0, o0) := ⟨_, _, _, _, rfl⟩
  obtain ⟨r1, r2, r3, r4, r5, r6, r7⟩ := cnt_ok hc
  have HC := Lib.hid hc
  by_cases he : e0 = 0
  · subst he
    obtain rfl := r7 rfl
    obtain ⟨v0, nx, er, of, hF⟩ : ∃ v0 nx er of, (sizF most) s0 p0 = (v0, nx, er, of) := ⟨_, _, _, _, rfl⟩
    have HF := Lib.hid hF
    by_cases hq : er = 0
    · subst hq
      obtain rfl : of = 0 := ((sizF_bounds hF r2 r3).1 rfl).2.2.1
      have HX := Lib.hid (H.out.symm.trans (fldR_ok HC.out HF.out))
      clear H hc hF
      go_enter Try.func14, Try.ntmps14
      go_wp2_with (go_at_call 58; refine (field_okS s p e o hs s0 p0 HC (w.heap.size + 1) nx (Lib.hid trivial) (RelV (.string v0)) (Lib.hid (RelV.stays _)) _ (Lib.hid (fun W hW => cloS s0 p0 most r1 r2 r3 hmost1 hmost2 v0 nx 0 0 (w.heap.size + 1) W (P1.out.below hW).c1 HF))).mono ?_; rintro en w1 ⟨V, B, rfl, _, rfl, hBl⟩; have X2 := Lib.hid (X1.out.below hBl); have B2 := Lib.hid (below_then B1.out hBl); clear hBl; obtain ⟨c0, c1, c2, c3⟩ := X2.out.c4; obtain ⟨f0, f1, f2, f3⟩ := X2.out.f4)
      obtain ⟨d0, d1, d2, d3⟩ := (X2.out.set4 (.string s0) (.int .i64 nx) (.int .i64 0) (.int .i64 0)).c4
      refine bodyPost_ret (v := .tuple #[.agg #[.string s0, .int .i64 nx, .int .i64 0, .int .i64 0], .string v0]) (by simp [results, Try.results14, go_sem, d0, d1, d2, d3]) rfl ?_
      have BE := Below.set4 B2.out (w.heap.size + 2) (by omega) (.string s0) (.int .i64 nx) (.int .i64 0) (.int .i64 0)
      have hx := HX.out
      simp only [Prod.mk.injEq] at hx
      obtain ⟨⟨rfl, rfl, rfl, rfl⟩, rfl⟩ := hx
      exact ⟨rfl, BE⟩
    · have hq2 : Hid ((er != 0) = true) := Lib.hid (by simpa using hq)
      have HX := Lib.hid (H.out.symm.trans (fldR_new HC.out HF.out hq))
      clear H hc hF
      go_enter Try.func14, Try.ntmps14
      go_wp2_with (go_at_call 58; refine (field_newS s p e o hs s0 p0 HC (w.heap.size + 1) nx er of hq2 (RelV (.string v0)) (Lib.hid (RelV.stays _)) _ (Lib.hid (fun W hW => cloS s0 p0 most r1 r2 r3 hmost1 hmost2 v0 nx er of (w.heap.size + 1) W (P1.out.below hW).c1 HF))).mono ?_; rintro en w1 ⟨V, B, rfl, _, rfl, hBl⟩; have X2 := Lib.hid (X1.out.below hBl); have B2 := Lib.hid (below_then B1.out hBl); clear hBl; obtain ⟨c0, c1, c2, c3⟩ := X2.out.c4; obtain ⟨f0, f1, f2, f3⟩ := X2.out.f4)
      obtain ⟨d0, d1, d2, d3⟩ := (X2.out.set4 (.string s0) (.int .i64 p0) (.int .i64 er) (.int .i64 of)).c4
      refine bodyPost_ret (v := .tuple #[.agg #[.string s0, .int .i64 p0, .int .i64 er, .int .i64 of], .string v0]) (by simp [results, Try.results14, go_sem, d0, d1, d2, d3]) rfl ?_
      have BE := Below.set4 B2.out (w.heap.size + 2) (by omega) (.string s0) (.int .i64 p0) (.int .i64 er) (.int .i64 of)
      have hx := HX.out
      simp only [Prod.mk.injEq] at hx
      obtain ⟨⟨rfl, rfl, rfl, rfl⟩, rfl⟩ := hx
      exact ⟨rfl, BE⟩
  · have hq2 : Hid ((e0 != 0) = true) := Lib.hid (by simpa using he)
    have HX := Lib.hid (H.out.symm.trans (fldR_old HC.out he))
    clear H hc
    go_enter Try.func14, Try.ntmps14
    go_wp2_with (go_at_call 58; refine (field_oldS s p e o hs s0 p0 e0 o0 HC hq2 _ _).mono ?_; rintro en w1 ⟨rfl, hBl⟩; have X2 := Lib.hid (X1.out.below hBl); have B2 := Lib.hid (below_then B1.out hBl); clear hBl; obtain ⟨c0, c1, c2, c3⟩ := X2.out.c4; obtain ⟨f0, f1, f2, f3⟩ := X2.out.f4)
    obtain ⟨d0, d1, d2, d3⟩ := (X2.out.set4 (.string s0) (.int .i64 p0) (.int .i64 e0) (.int .i64 o0)).c4
    refine bodyPost_ret (v := .tuple #[.agg #[.string s0, .int .i64 p0, .int .i64 e0, .int .i64 o0], .string ⟨#[]⟩]) (by simp [results, Try.results14, go_sem, d0, d1, d2, d3]) rfl ?_
    have BE := Below.set4 B2.out (w.heap.size + 2) (by omega) (.string s0) (.int .i64 p0) (.int .i64 e0) (.int .i64 o0)
    have hx := HX.out
    simp only [Prod.mk.injEq] at hx
    obtain ⟨⟨rfl, rfl, rfl, rfl⟩, rfl⟩ := hx
    exact ⟨rfl, BE⟩
set_option maxRecDepth 100000 in
set_option maxHeartbeats 1000000 in
theorem cloX (s : ByteArray) (a : Int) (most : Int) (hs : s.size ≤ 20000) (h1 : 0 ≤ a) (h2 : a ≤ s.size) (hmost1 : -9223372036854775808 ≤ most) (hmost2 : most ≤ 9223372036854775807) (n : ByteArray) (nx er p : Int) (k1 : Nat) (W : World) (hk1 : W.cell? ⟨k1, 0, none⟩ = some (.int .i64 most)) (H : Hid (fixF most s a = (n, nx, er, p))) :
    Calls Try.prog 61 #[.string s, .int .i64 a, .pointer (some ⟨k1, 0, none⟩)] W (GivesC (RelV (.string n)) nx er p W) := by
  have X1 := Lib.hid (Box.new W 24 #[.int .i64 0, .int .i64 0])
  have B1 := Lib.hid ((Below.refl W.heap.size W).alloc (Nat.le_refl _) (.cells #[.int .i64 0, .int .i64 0] 24))
  have q1 := cell_lt hk1
  go_enter Try.func61, Try.ntmps61
  go_wp2_with (go_at_call 62; refine (fixed_any s a most hs h1 h2 hmost1 hmost2 n nx er p H _).mono ?_; rintro en w1 ⟨rfl, hB⟩; have X3 := Lib.hid (X1.out.below hB); have B3 := Lib.hid (below_then B1.out hB); clear hB; obtain ⟨c0, c1⟩ := X3.out.cell2; obtain ⟨f0, f1⟩ := X3.out.free2)
  have X4 := X3.out.set2 (.int .i64 er) (.int .i64 p)
  obtain ⟨d0, d1⟩ := X4.cell2
  exact bodyPost_ret (v := .tuple #[.string n, .int .i64 nx, .agg #[.int .i64 er, .int .i64 p]]) (by simp [results, Try.results61, go_sem, d0, d1]) rfl ⟨_, rfl, rfl, Below.set2 B3.out W.heap.size (Nat.le_refl _) _ _⟩
set_option maxRecDepth 100000 in
set_option maxHeartbeats 1000000 in
theorem pfixed_any (s : ByteArray) (p e o : Int) (most : Int) (hs : s.size ≤ 9223372036854775807) (hmost1 : -9223372036854775808 ≤ most) (hmost2 : most ≤ 9223372036854775807) (s' : ByteArray) (p' e' o' : Int) (n : ByteArray) (H : Hid (fldR (⟨#[]⟩ : ByteArray) (fixF most) s p e o = ((s', p', e', o'), n))) (w : World) :
    Calls Try.prog 16 #[.agg #[.string s, .int .i64 p, .int .i64 e, .int .i64 o], .int .i64 most] w fun en w' => en = .returned (.tuple #[.agg #[.string s', .int .i64 p', .int .i64 e', .int .i64 o'], .string n]) ∧ Below w.heap.size w w' := by
  have P1 := Lib.hid ((nth_box (w.alloc (.cells #[.string s, .int .i64 p, .int .i64 e, .int .i64 o] 26)) (w.heap.size + 1) 3 #[.int .i64 most] (by simp)).alloc (.cells #[.string ⟨#[]⟩, .int .i64 0, .int .i64 0, .int .i64 0] 26))
  have X1 := Lib.hid (nth_box ((w.alloc (.cells #[.string s, .int .i64 p, .int .i64 e, .int .i64 o] 26)).alloc (.cells #[.int .i64 most] 3)) (w.heap.size + 2) 26 #[.string ⟨#[]⟩, .int .i64 0, .int .i64 0, .int .i64 0] (by simp))
  have B1 : Hid (Below w.heap.size w (((w.alloc (.cells #[.string s, .int .i64 p, .int .i64 e, .int .i64 o] 26)).alloc (.cells #[.int .i64 most] 3)).alloc (.cells #[.string ⟨#[]⟩, .int .i64 0, .int .i64 0, .int .i64 0] 26))) := Lib.hid ((((Below.refl w.heap.size w).alloc (by simp <;> omega) (.cells #[.string s, .int .i64 p, .int .i64 e, .int .i64 o] 26)).alloc (by simp <;> omega) (.cells #[.int .i64 most] 3)).alloc (by simp <;> omega) (.cells #[.string ⟨#[]⟩, .int .i64 0, .int .i64 0, .int .i64 0] 26))
  obtain ⟨s0, p0, e0, o0, hc⟩ : ∃ s0 p0 e0 o0, cnt s p e o = (s0, p0, e0, o0) := ⟨_, _, _, _, rfl⟩
  obtain ⟨r1, r2, r3, r4, r5, r6, r7⟩ := cnt_ok hc
  have HC := Lib.hid hc
  by_cases he : e0 = 0
  · subst he
    obtain rfl := r7 rfl
    obtain ⟨v0, nx, er, of, hF⟩ : ∃ v0 nx er of, (fixF most) s0 p0 = (v0, nx, er, of) := ⟨_, _, _, _, rfl⟩
    have HF := Lib.hid hF
    by_cases hq : er = 0
    · subst hq
      obtain rfl : of = 0 := ((fixF_bounds hF r2 r3).1 rfl).2.2.2.2.1
      have HX := Lib.hid (H.out.symm.trans (fldR_ok HC.out HF.out))
      clear H hc hF
      go_enter Try.func16, Try.ntmps16
      go_wp2_with (go_at_call 58; refine (field_okX s p e o hs s0 p0 HC (w.heap.size + 1) nx (Lib.hid trivial) (RelV (.string v0)) (Lib.hid (RelV.stays _)) _ (Lib.hid (fun W hW => cloX s0 p0 most r1 r2 r3 hmost1 hmost2 v0 nx 0 0 (w.heap.size + 1) W (P1.out.below hW).c1 HF))).mono ?_; rintro en w1 ⟨V, B, rfl, _, rfl, hBl⟩; have X2 := Lib.hid (X1.out.below hBl); have B2 := Lib.hid (below_then B1.out hBl); clear hBl; obtain ⟨c0, c1, c2, c3⟩ := X2.out.c4; obtain ⟨f0, f1, f2, f3⟩ := X2.out.f4)
      obtain ⟨d0, d1, d2, d3⟩ := (X2.out.set4 (.string s0) (.int .i64 nx) (.int .i64 0) (.int .i64 0)).c4
      refine bodyPost_ret (v := .tuple #[.agg #[.string s0, .int .i64 nx, .int .i64 0, .int .i64 0], .string v0]) (by simp [results, Try.results16, go_sem, d0, d1, d2, d3]) rfl ?_
      have BE := Below.set4 B2.out (w.heap.size + 2) (by omega) (.string s0) (.int .i64 nx) (.int .i64 0) (.int .i64 0)
      have hx := HX.out
      simp only [Prod.mk.injEq] at hx
      obtain ⟨⟨rfl, rfl, rfl, rfl⟩, rfl⟩ := hx
      exact ⟨rfl, BE⟩
    · have hq2 : Hid ((er != 0) = true) := Lib.hid (by simpa using hq)
      have HX := Lib.hid (H.out.symm.trans (fldR_new HC.out HF.out hq))
      clear H hc hF
      go_enter Try.func16, Try.ntmps16
      go_wp2_with (go_at_call 58; refine (field_newX s p e o hs s0 p0 HC (w.heap.size + 1) nx er of hq2 (RelV (.string v0)) (Lib.hid (RelV.stays _)) _ (Lib.hid (fun W hW => cloX s0 p0 most r1 r2 r3 hmost1 hmost2 v0 nx er of (w.heap.size + 1) W (P1.out.below hW).c1 HF))).mono ?_; rintro en w1 ⟨V, B, rfl, _, rfl, hBl⟩; have X2 := Lib.hid (X1.out.below hBl); have B2 := Lib.hid (below_then B1.out hBl); clear hBl; obtain ⟨c0, c1, c2, c3⟩ := X2.out.c4; obtain ⟨f0, f1, f2, f3⟩ := X2.out.f4)
      obtain ⟨d0, d1, d2, d3⟩ := (X2.out.set4 (.string s0) (.int .i64 p0) (.int .i64 er) (.int .i64 of)).c4
      refine bodyPost_ret (v := .tuple #[.agg #[.string s0, .int .i64 p0, .int .i64 er, .int .i64 of], .string v0]) (by simp [results, Try.results16, go_sem, d0, d1, d2, d3]) rfl ?_
      have BE := Below.set4 B2.out (w.heap.size + 2) (by omega) (.string s0) (.int .i64 p0) (.int .i64 er) (.int .i64 of)
      have hx := HX.out
      simp only [Prod.mk.injEq] at hx
      obtain ⟨⟨rfl, rfl, rfl, rfl⟩, rfl⟩ := hx
      exact ⟨rfl, BE⟩
  · have hq2 : Hid ((e0 != 0) = true) := Lib.hid (by simpa using he)
    have HX := Lib.hid (H.out.symm.trans (fldR_old HC.out he))
    clear H hc
    go_enter Try.func16, Try.ntmps16
    go_wp2_with (go_at_call 58; refine (field_oldS s p e o hs s0 p0 e0 o0 HC hq2 _ _).mono ?_; rintro en w1 ⟨rfl, hBl⟩; have X2 := Lib.hid (X1.out.below hBl); have B2 := Lib.hid (below_then B1.out hBl); clear hBl; obtain ⟨c0, c1, c2, c3⟩ := X2.out.c4; obtain ⟨f0, f1, f2, f3⟩ := X2.out.f4)
    obtain ⟨d0, d1, d2, d3⟩ := (X2.out.set4 (.string s0) (.int .i64 p0) (.int .i64 e0) (.int .i64 o0)).c4
    refine bodyPost_ret (v := .tuple #[.agg #[.string s0, .int .i64 p0, .int .i64 e0, .int .i64 o0], .string ⟨#[]⟩]) (by simp [results, Try.results16, go_sem, d0, d1, d2, d3]) rfl ?_
    have BE := Below.set4 B2.out (w.heap.size + 2) (by omega) (.string s0) (.int .i64 p0) (.int .i64 e0) (.int .i64 o0)
    have hx := HX.out
    simp only [Prod.mk.injEq] at hx
    obtain ⟨⟨rfl, rfl, rfl, rfl⟩, rfl⟩ := hx
    exact ⟨rfl, BE⟩
set_option maxRecDepth 100000 in
set_option maxHeartbeats 1000000 in
theorem cloL (s : ByteArray) (a : Int) (most : Int) (least : Int) (greatest : Int) (hs : s.size ≤ 20000) (h1 : 0 ≤ a) (h2 : a ≤ s.size) (hmost1 : -9223372036854775808 ≤ most) (hmost2 : most ≤ 9223372036854775807) (hleast1 : -9223372036854775808 ≤ least) (hleast2 : least ≤ 9223372036854775807) (hgreatest1 : -9223372036854775808 ≤ greatest) (hgreatest2 : greatest ≤ 9223372036854775807) (n : List Int) (nx er p : Int) (k1 k2 k3 : Nat) (W : World) (hk1 : W.cell? ⟨k1, 0, none⟩ = some (.int .i64 most)) (hk2 : W.cell? ⟨k2, 0, none⟩ = some (.int .i64 least)) (hk3 : W.cell? ⟨k3, 0, none⟩ = some (.int .i64 greatest)) (H : Hid (lstF most least greatest s a = (n, nx, er, p))) :
    Calls Try.prog 64 #[.string s, .int .i64 a, .pointer (some ⟨k1, 0, none⟩), .pointer (some ⟨k2, 0, none⟩), .pointer (some ⟨k3, 0, none⟩)] W (GivesC (RelL n) nx er p W) := by
  have X1 := Lib.hid (Box.new W 24 #[.int .i64 0, .int .i64 0])
  have B1 := Lib.hid ((Below.refl W.heap.size W).alloc (Nat.le_refl _) (.cells #[.int .i64 0, .int .i64 0] 24))
  have q1 := cell_lt hk1
  have q2 := cell_lt hk2
  have q3 := cell_lt hk3
  go_enter Try.func64, Try.ntmps64
  go_wp2_with (go_at_call 65; refine (list_any s a most least greatest hs h1 h2 hmost1 hmost2 hleast1 hleast2 hgreatest1 hgreatest2 n nx er p H _).mono ?_; rintro en w1 ⟨V, rfl, hV, hB⟩; have HV := Lib.hid hV; obtain ⟨a9, c9, rfl, _⟩ := hV; have X3 := Lib.hid (X1.out.below hB); have B3 := Lib.hid (below_then B1.out hB); clear hB; obtain ⟨c0, c1⟩ := X3.out.cell2; obtain ⟨f0, f1⟩ := X3.out.free2)
  have X4 := X3.out.set2 (.int .i64 er) (.int .i64 p)
  obtain ⟨d0, d1⟩ := X4.cell2
  refine bodyPost_ret (v := .tuple #[.slice a9 n.length c9, .int .i64 nx, .agg #[.int .i64 er, .int .i64 p]]) (by simp [results, Try.results64, go_sem, d0, d1]) rfl ⟨_, rfl, ?_, Below.set2 B3.out W.heap.size (Nat.le_refl _) _ _⟩
  have KE := ((KS.refl [W.heap.size] w1).set W.heap.size 0 (.int .i64 er) (by simp)).set W.heap.size 1 (.int .i64 p) (by simp)
  exact (RelL.stays n _ _ _ _ HV.out KE.size (fun k hk1 hk2 => KE.block k hk2 (by simp at hk1; simp; omega))).mono (by simp)
set_option maxRecDepth 100000 in
set_option maxHeartbeats 1000000 in
theorem pints_any (s : ByteArray) (p e o : Int) (most : Int) (least : Int) (greatest : Int) (hs : s.size ≤ 9223372036854775807) (hmost1 : -9223372036854775808 ≤ most) (hmost2 : most ≤ 9223372036854775807) (hleast1 : -9223372036854775808 ≤ least) (hleast2 : least ≤ 9223372036854775807) (hgreatest1 : -9223372036854775808 ≤ greatest) (hgreatest2 : greatest ≤ 9223372036854775807) (s' : ByteArray) (p' e' o' : Int) (n : List Int) (H : Hid (fldR ([] : List Int) (lstF most least greatest) s p e o = ((s', p', e', o'), n))) (w : World) :
    Calls Try.prog 18 #[.agg #[.string s, .int .i64 p, .int .i64 e, .int .i64 o], .int .i64 most, .int .i64 least, .int .i64 greatest] w (GivesR (RelL n) s' p' e' o' w) := by
  have P1 := Lib.hid ((((nth_box (w.alloc (.cells #[.string s, .int .i64 p, .int .i64 e, .int .i64 o] 26)) (w.heap.size + 1) 3 #[.int .i64 most] (by simp)).alloc (.cells #[.int .i64 least] 3)).alloc (.cells #[.int .i64 greatest] 3)).alloc (.cells #[.string ⟨#[]⟩, .int .i64 0, .int .i64 0, .int .i64 0] 26))
  have P2 := Lib.hid (((nth_box ((w.alloc (.cells #[.string s, .int .i64 p, .int .i64 e, .int .i64 o] 26)).alloc (.cells #[.int .i64 most] 3)) (w.heap.size + 2) 3 #[.int .i64 least] (by simp)).alloc (.cells #[.int .i64 greatest] 3)).alloc (.cells #[.string ⟨#[]⟩, .int .i64 0, .int .i64 0, .int .i64 0] 26))
  have P3 := Lib.hid ((nth_box (((w.alloc (.cells #[.string s, .int .i64 p, .int .i64 e, .int .i64 o] 26)).alloc (.cells #[.int .i64 most] 3)).alloc (.cells #[.int .i64 least] 3)) (w.heap.size + 3) 3 #[.int .i64 greatest] (by simp)).alloc (.cells #[.string ⟨#[]⟩, .int .i64 0, .int .i64 0, .int .i64 0] 26))
  have X1 := Lib.hid (nth_box ((((w.alloc (.cells #[.string s, .int .i64 p, .int .i64 e, .int .i64 o] 26)).alloc (.cells #[.int .i64 most] 3)).alloc (.cells #[.int .i64 least] 3)).alloc (.cells #[.int .i64 greatest] 3)) (w.heap.size + 4) 26 #[.string ⟨#[]⟩, .int .i64 0, .int .i64 0, .int .i64 0] (by simp))
  have B1 : Hid (Below w.heap.size w (((((w.alloc (.cells #[.string s, .int .i64 p, .int .i64 e, .int .i64 o] 26)).alloc (.cells #[.int .i64 most] 3)).alloc (.cells #[.int .i64 least] 3)).alloc (.cells #[.int .i64 greatest] 3)).alloc (.cells #[.string ⟨#[]⟩, .int .i64 0, .int .i64 0, .int .i64 0] 26))) := Lib.hid ((((((Below.refl w.heap.size w).alloc (by simp <;> omega) (.cells #[.string s, .int .i64 p, .int .i64 e, .int .i64 o] 26)).alloc (by simp <;> omega) (.cells #[.int .i64 most] 3)).alloc (by simp <;> omega) (.cells #[.int .i64 least] 3)).alloc (by simp <;> omega) (.cells #[.int .i64 greatest] 3)).alloc (by simp <;> omega) (.cells #[.string ⟨#[]⟩, .int .i64 0, .int .i64 0, .int .i64 0] 26))
  obtain ⟨s0, p0, e0, o0, hc⟩ : ∃ s0 p0 e0 o0, cnt s p e o = (s0, p0, e0, o0) := ⟨_, _, _, _, rfl⟩
  obtain ⟨r1, r2, r3, r4, r5, r6, r7⟩ := cnt_ok hc
  have HC := Lib.hid hc
  by_cases he : e0 = 0
  · subst he
    obtain rfl := r7 rfl
    obtain ⟨v0, nx, er, of, hF⟩ : ∃ v0 nx er of, (lstF most least greatest) s0 p0 = (v0, nx, er, of) := ⟨_, _, _, _, rfl⟩
    have HF := Lib.hid hF
    by_cases hq : er = 0
    · subst hq
      obtain rfl : of = 0 := (lstF_zero hF)
      have HX := Lib.hid (H.out.symm.trans (fldR_ok HC.out HF.out))
      clear H hc hF
      go_enter Try.func18, Try.ntmps18
      go_wp2_with (go_at_call 63; refine (field_okL s p e o hs s0 p0 HC (w.heap.size + 1) (w.heap.size + 2) (w.heap.size + 3) nx (Lib.hid trivial) (RelL v0) (Lib.hid (RelL.stays v0)) _ (Lib.hid (fun W hW => cloL s0 p0 most least greatest r1 r2 r3 hmost1 hmost2 hleast1 hleast2 hgreatest1 hgreatest2 v0 nx 0 0 (w.heap.size + 1) (w.heap.size + 2) (w.heap.size + 3) W (P1.out.below hW).c1 (P2.out.below hW).c1 (P3.out.below hW).c1 HF))).mono ?_; rintro en w1 ⟨V, B, rfl, hb0, hV, hBl⟩; have HV := Lib.hid hV; obtain ⟨a9, c9, rfl, _⟩ := hV; have X2 := Lib.hid (X1.out.below hBl); have B2 := Lib.hid (below_then B1.out hBl); have hb : w.heap.size + 4 < B := (by simp at hb0; omega); clear hBl hb0; obtain ⟨c0, c1, c2, c3⟩ := X2.out.c4; obtain ⟨f0, f1, f2, f3⟩ := X2.out.f4)
      obtain ⟨d0, d1, d2, d3⟩ := (X2.out.set4 (.string s0) (.int .i64 nx) (.int .i64 0) (.int .i64 0)).c4
      refine bodyPost_ret (v := .tuple #[.agg #[.string s0, .int .i64 nx, .int .i64 0, .int .i64 0], .slice a9 v0.length c9]) (by simp [results, Try.results18, go_sem, d0, d1, d2, d3]) rfl ?_
      have BE := Below.set4 B2.out (w.heap.size + 4) (by omega) (.string s0) (.int .i64 nx) (.int .i64 0) (.int .i64 0)
      have KE := (KS.refl [w.heap.size + 4] w1).set4 (w.heap.size + 4) (by simp) (.string s0) (.int .i64 nx) (.int .i64 0) (.int .i64 0)
      have RE := RelL.stays v0 _ _ _ _ HV.out KE.size (fun k hk1 hk2 => KE.block k hk2 (by simp; omega))
      have hx := HX.out
      simp only [Prod.mk.injEq] at hx
      obtain ⟨⟨rfl, rfl, rfl, rfl⟩, rfl⟩ := hx
      exact ⟨_, B, rfl, by omega, RE, BE⟩
    · have hq2 : Hid ((er != 0) = true) := Lib.hid (by simpa using hq)
      have HX := Lib.hid (H.out.symm.trans (fldR_new HC.out HF.out hq))
      clear H hc hF
      go_enter Try.func18, Try.ntmps18
      go_wp2_with (go_at_call 63; refine (field_newL s p e o hs s0 p0 HC (w.heap.size + 1) (w.heap.size + 2) (w.heap.size + 3) nx er of hq2 (RelL v0) (Lib.hid (RelL.stays v0)) _ (Lib.hid (fun W hW => cloL s0 p0 most least greatest r1 r2 r3 hmost1 hmost2 hleast1 hleast2 hgreatest1 hgreatest2 v0 nx er of (w.heap.size + 1) (w.heap.size + 2) (w.heap.size + 3) W (P1.out.below hW).c1 (P2.out.below hW).c1 (P3.out.below hW).c1 HF))).mono ?_; rintro en w1 ⟨V, B, rfl, hb0, hV, hBl⟩; have HV := Lib.hid hV; obtain ⟨a9, c9, rfl, _⟩ := hV; have X2 := Lib.hid (X1.out.below hBl); have B2 := Lib.hid (below_then B1.out hBl); have hb : w.heap.size + 4 < B := (by simp at hb0; omega); clear hBl hb0; obtain ⟨c0, c1, c2, c3⟩ := X2.out.c4; obtain ⟨f0, f1, f2, f3⟩ := X2.out.f4)
      obtain ⟨d0, d1, d2, d3⟩ := (X2.out.set4 (.string s0) (.int .i64 p0) (.int .i64 er) (.int .i64 of)).c4
      refine bodyPost_ret (v := .tuple #[.agg #[.string s0, .int .i64 p0, .int .i64 er, .int .i64 of], .slice a9 v0.length c9]) (by simp [results, Try.results18, go_sem, d0, d1, d2, d3]) rfl ?_
      have BE := Below.set4 B2.out (w.heap.size + 4) (by omega) (.string s0) (.int .i64 p0) (.int .i64 er) (.int .i64 of)
      have KE := (KS.refl [w.heap.size + 4] w1).set4 (w.heap.size + 4) (by simp) (.string s0) (.int .i64 p0) (.int .i64 er) (.int .i64 of)
      have RE := RelL.stays v0 _ _ _ _ HV.out KE.size (fun k hk1 hk2 => KE.block k hk2 (by simp; omega))
      have hx := HX.out
      simp only [Prod.mk.injEq] at hx
      obtain ⟨⟨rfl, rfl, rfl, rfl⟩, rfl⟩ := hx
      exact ⟨_, B, rfl, by omega, RE, BE⟩
  · have hq2 : Hid ((e0 != 0) = true) := Lib.hid (by simpa using he)
    have HX := Lib.hid (H.out.symm.trans (fldR_old HC.out he))
    clear H hc
    go_enter Try.func18, Try.ntmps18
    go_wp2_with (go_at_call 63; refine (field_oldL s p e o hs s0 p0 e0 o0 HC hq2 _ _).mono ?_; rintro en w1 ⟨rfl, hBl⟩; have X2 := Lib.hid (X1.out.below hBl); have B2 := Lib.hid (below_then B1.out hBl); clear hBl; obtain ⟨c0, c1, c2, c3⟩ := X2.out.c4; obtain ⟨f0, f1, f2, f3⟩ := X2.out.f4)
    obtain ⟨d0, d1, d2, d3⟩ := (X2.out.set4 (.string s0) (.int .i64 p0) (.int .i64 e0) (.int .i64 o0)).c4
    refine bodyPost_ret (v := .tuple #[.agg #[.string s0, .int .i64 p0, .int .i64 e0, .int .i64 o0], .slice none 0 0]) (by simp [results, Try.results18, go_sem, d0, d1, d2, d3]) rfl ?_
    have BE := Below.set4 B2.out (w.heap.size + 4) (by omega) (.string s0) (.int .i64 p0) (.int .i64 e0) (.int .i64 o0)
    have hx := HX.out
    simp only [Prod.mk.injEq] at hx
    obtain ⟨⟨rfl, rfl, rfl, rfl⟩, rfl⟩ := hx
    exact ⟨_, w.heap.size, rfl, Nat.le_refl _, RelL.nil _ _, BE⟩
end Go.Proofs.Ytkepnjnindolbaa.s05
