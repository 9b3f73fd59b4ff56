/-
  Layer 5, the reference's side: writers.
-/
import Derived.Test.YtkepnjnindolbaaS05S
import Derived.Test.YtkepnjnindolbaaS05U
import Derived.Test.YtkepnjnindolbaaWalksB
namespace Go.Proofs.Ytkepnjnindolbaa.s05
set_option linter.unusedVariables false
set_option linter.unusedSimpArgs false
open Go.RowKit
open kit

theorem cntw_idem {s : ByteArray} {m e : Int} {s' : ByteArray} {m' e' : Int} (h : cntw s m e = (s', m', e')) : cntw s' m' e' = (s', m', e') := by
  have h0 := h
  unfold cntw at h
  split at h
  · cases h; exact h0
  · cases h; rfl
set_option maxRecDepth 100000 in
set_option maxHeartbeats 2000000 in
theorem rwriter_any (s : ByteArray) (m e : Int) (hs : s.size ≤ 9223372036854775807) (s' : ByteArray) (m' e' : Int) (H : Hid (cntw s m e = (s', m', e'))) (w : World) :
    Calls Try.prog 73 #[.agg #[.string s, .int .i64 m, .int .i64 e]] w fun en w' => en = .returned (.agg #[.string s', .int .i64 m', .int .i64 e']) ∧ Below w.heap.size w w' := by
  have BB := Lib.hid (fun o1 o2 => two_below w o1 o2)
  cases hv : vldw s m e
  · have HX : Hid (((⟨#[]⟩ : ByteArray), (0 : Int), (10 : Int)) = (s', m', e')) := Lib.hid (by rw [← H.out]; unfold cntw; rw [hv]; rfl)
    have HV := Lib.hid hv
    clear hv
    go_enter Try.func73, Try.ntmps73
    go_wp2
    all_goals first
      | (exfalso
         have h := HV.out
         unfold vldw at h
         rw [decide_eq_false_iff_not] at h
         try simp only [Bool.not_eq_eq_eq_not, Bool.not_false, Bool.not_true, beq_iff_eq, beq_eq_false_iff_ne, ne_eq, decide_eq_true_eq, decide_eq_false_iff_not] at *
         omega)
      | (refine bodyPost_ret (v := .agg #[.string ⟨#[]⟩, .int .i64 0, .int .i64 10]) (by simp [results, Try.results73, go_sem]) rfl ⟨ret_wr HX.out, BB.out _ _⟩)
  · have HX : Hid ((s, m, e) = (s', m', e')) := Lib.hid (by rw [← H.out]; unfold cntw; rw [hv]; rfl)
    have h := hv
    unfold vldw at h
    rw [decide_eq_true_eq] at h
    obtain ⟨q1, q2, q3, q4, q5⟩ := h
    clear hv
    go_enter Try.func73, Try.ntmps73
    go_wp2
    refine bodyPost_ret (v := .agg #[.string s, .int .i64 m, .int .i64 e]) (by simp [results, Try.results73, go_sem]) rfl ⟨ret_wr HX.out, BB.out _ _⟩
set_option maxRecDepth 100000 in
theorem rmake_any (m : Int) (s' : ByteArray) (m' e' : Int) (H : Hid (cntw ⟨#[]⟩ m 0 = (s', m', e'))) (w : World) :
    Calls Try.prog 33 #[.int .i64 m] w fun en w' => en = .returned (.agg #[.string s', .int .i64 m', .int .i64 e']) ∧ Below w.heap.size w w' := by
  have X1 := Lib.hid (Box.new w 45 #[.string ⟨#[]⟩, .int .i64 0, .int .i64 0])
  have B1 := Lib.hid ((Below.refl w.heap.size w).alloc (Nat.le_refl _) (.cells #[.string ⟨#[]⟩, .int .i64 0, .int .i64 0] 45))
  go_enter Try.func33, Try.ntmps33
  go_wp2_with (go_at_call 73; refine (rwriter_any ⟨#[]⟩ m 0 (by decide) s' m' e' H _).mono ?_; rintro en w1 ⟨rfl, hB⟩; have X3 := Lib.hid (X1.out.below hB); have B3 := Lib.hid (below_then B1.out hB); clear hB; obtain ⟨c0, c1, c2⟩ := X3.out.c3; obtain ⟨f0, f1, f2⟩ := X3.out.f3)
  obtain ⟨d0, d1, d2⟩ := (X3.out.set3 (.string s') (.int .i64 m') (.int .i64 e')).c3
  exact bodyPost_ret (v := .agg #[.string s', .int .i64 m', .int .i64 e']) (by simp [results, Try.results33, go_sem, d0, d1, d2]) rfl ⟨rfl, Below.set3 B3.out _ (Nat.le_refl _) _ _ _⟩
theorem mk_list (t : ByteArray) : (⟨t.data.toList.toArray⟩ : ByteArray) = t := congrArg ByteArray.mk (Array.toArray_toList (xs := t.data))
set_option maxRecDepth 100000 in
set_option maxHeartbeats 2000000 in
theorem radd_any (s : ByteArray) (m e : Int) (t : ByteArray) (hs : s.size ≤ 9223372036854775807) (ht : t.size ≤ 9223372036854775807) (s' : ByteArray) (m' e' : Int) (H : Hid (addR s m e t.data.toList = (s', m', e'))) (w : World) :
    Calls Try.prog 41 #[.agg #[.string s, .int .i64 m, .int .i64 e], .string t] w fun en w' => en = .returned (.agg #[.string s', .int .i64 m', .int .i64 e']) ∧ Below w.heap.size w w' := by
  have P1 := Lib.hid ((Box.new w 45 #[.string s, .int .i64 m, .int .i64 e]).alloc (.cells #[.string ⟨#[]⟩, .int .i64 0, .int .i64 0] 45))
  have X1 := Lib.hid (Box.new2 w (.cells #[.string s, .int .i64 m, .int .i64 e] 45) 45 #[.string ⟨#[]⟩, .int .i64 0, .int .i64 0])
  have B1 := Lib.hid (two_below w (.cells #[.string s, .int .i64 m, .int .i64 e] 45) (.cells #[.string ⟨#[]⟩, .int .i64 0, .int .i64 0] 45))
  obtain ⟨s0, m0, e0, hc⟩ : ∃ s0 m0 e0, cntw s m e = (s0, m0, e0) := ⟨_, _, _, rfl⟩
  obtain ⟨r1, r2, r3, r4, r5⟩ := cntw_ok hc
  have hx := H.out
  unfold addR at hx
  rw [hc] at hx
  simp only [] at hx
  have htl : t.data.toList.length = t.size := by rw [Array.length_toList]; rfl
  rw [mk_list, htl] at hx
  have HC := Lib.hid hc
  clear H hc htl
  by_cases he : e0 = 0
  · subst he
    rw [if_pos rfl] at hx
    by_cases hg : (t.size : Int) ≤ m0 - s0.size
    · rw [if_pos hg] at hx
      have HX := Lib.hid hx
      have hsum : s0.size + t.size ≤ 9223372036854775807 := by omega
      clear hx
      go_enter Try.func41, Try.ntmps41
      go_wp2_with (first
        | (go_at_call 73; (refine (rwriter_any s m e hs s0 m0 0 HC _).mono ?_); rintro en w2 ⟨rfl, hB⟩; have P2 := Lib.hid (P1.out.below hB); have X2 := Lib.hid (X1.out.below hB); have B2 := Lib.hid (below_then B1.out hB); clear hB; have lp := P2.out.lt; obtain ⟨cp0, cp1, cp2⟩ := P2.out.c3; obtain ⟨fp0, fp1, fp2⟩ := P2.out.f3; have lx := X2.out.lt; obtain ⟨cx0, cx1, cx2⟩ := X2.out.c3; obtain ⟨fx0, fx1, fx2⟩ := X2.out.f3; have P3 := Lib.hid (P2.out.set3 (.string s0) (.int .i64 m0) (.int .i64 0)); have X3 := Lib.hid (X2.out.other3 (b' := w.heap.size) (by omega) (.string s0) (.int .i64 m0) (.int .i64 0)); have B3 := Lib.hid (Below.set3 B2.out (w.heap.size) (by omega) (.string s0) (.int .i64 m0) (.int .i64 0))))
      have X4 := Lib.hid (X3.out.other (b' := w.heap.size) (i := 0) (by omega) (.string (s0 ++ t)))
      have B4 := Lib.hid (B3.out.setCell (p := ⟨w.heap.size, 0, none⟩) (by simp) (.string (s0 ++ t)))
      obtain ⟨d0, d1, d2⟩ := (X4.out.set3 (.string (s0 ++ t)) (.int .i64 m0) (.int .i64 0)).c3
      refine bodyPost_ret (v := .agg #[.string (s0 ++ t), .int .i64 m0, .int .i64 0]) (by simp [results, Try.results41, go_sem, d0, d1, d2]) rfl ⟨ret_wr HX.out, ?_⟩
      exact Below.set3 B4.out (w.heap.size + 1) (by omega) _ _ _
    · rw [if_neg hg] at hx
      have HX := Lib.hid hx
      have hg2 : m0 - s0.size < (t.size : Int) := by omega
      clear hx hg
      go_enter Try.func41, Try.ntmps41
      go_wp2_with (first
        | (go_at_call 73; (refine (rwriter_any s m e hs s0 m0 0 HC _).mono ?_); rintro en w2 ⟨rfl, hB⟩; have P2 := Lib.hid (P1.out.below hB); have X2 := Lib.hid (X1.out.below hB); have B2 := Lib.hid (below_then B1.out hB); clear hB; have lp := P2.out.lt; obtain ⟨cp0, cp1, cp2⟩ := P2.out.c3; obtain ⟨fp0, fp1, fp2⟩ := P2.out.f3; have lx := X2.out.lt; obtain ⟨cx0, cx1, cx2⟩ := X2.out.c3; obtain ⟨fx0, fx1, fx2⟩ := X2.out.f3; have P3 := Lib.hid (P2.out.set3 (.string s0) (.int .i64 m0) (.int .i64 0)); have X3 := Lib.hid (X2.out.other3 (b' := w.heap.size) (by omega) (.string s0) (.int .i64 m0) (.int .i64 0)); have B3 := Lib.hid (Below.set3 B2.out (w.heap.size) (by omega) (.string s0) (.int .i64 m0) (.int .i64 0)); have P9 : Box _ 45 w.heap.size #[.string s0, .int .i64 m0, .int .i64 4] := Box.set P3.out 2 (by simp) (.int .i64 4); obtain ⟨j0, j1, j2⟩ := P9.c3))
      have X4 := Lib.hid (X3.out.other (b' := w.heap.size) (i := 2) (by omega) (.int .i64 4))
      have B4 := Lib.hid (B3.out.setCell (p := ⟨w.heap.size, 2, none⟩) (by simp) (.int .i64 4))
      obtain ⟨d0, d1, d2⟩ := (X4.out.set3 (.string s0) (.int .i64 m0) (.int .i64 4)).c3
      refine bodyPost_ret (v := .agg #[.string s0, .int .i64 m0, .int .i64 4]) (by simp [results, Try.results41, go_sem, d0, d1, d2]) rfl ⟨ret_wr HX.out, ?_⟩
      exact Below.set3 B4.out (w.heap.size + 1) (by omega) _ _ _
  · rw [if_neg he] at hx
    have HX := Lib.hid hx
    have te : (e0 != 0) = true := by simpa using he
    clear hx he
    go_enter Try.func41, Try.ntmps41
    go_wp2_with (first
      | (go_at_call 73; (refine (rwriter_any s m e hs s0 m0 e0 HC _).mono ?_); rintro en w2 ⟨rfl, hB⟩; have P2 := Lib.hid (P1.out.below hB); have X2 := Lib.hid (X1.out.below hB); have B2 := Lib.hid (below_then B1.out hB); clear hB; have lp := P2.out.lt; obtain ⟨cp0, cp1, cp2⟩ := P2.out.c3; obtain ⟨fp0, fp1, fp2⟩ := P2.out.f3; have lx := X2.out.lt; obtain ⟨cx0, cx1, cx2⟩ := X2.out.c3; obtain ⟨fx0, fx1, fx2⟩ := X2.out.f3; have P3 := Lib.hid (P2.out.set3 (.string s0) (.int .i64 m0) (.int .i64 e0)); have X3 := Lib.hid (X2.out.other3 (b' := w.heap.size) (by omega) (.string s0) (.int .i64 m0) (.int .i64 e0)); have B3 := Lib.hid (Below.set3 B2.out (w.heap.size) (by omega) (.string s0) (.int .i64 m0) (.int .i64 e0))))
    obtain ⟨d0, d1, d2⟩ := (X3.out.set3 (.string s0) (.int .i64 m0) (.int .i64 e0)).c3
    refine bodyPost_ret (v := .agg #[.string s0, .int .i64 m0, .int .i64 e0]) (by simp [results, Try.results41, go_sem, d0, d1, d2]) rfl ⟨ret_wr HX.out, ?_⟩
    exact Below.set3 B3.out (w.heap.size + 1) (by omega) _ _ _
set_option maxRecDepth 100000 in
theorem rdone_any (s : ByteArray) (m e : Int) (hs : s.size ≤ 9223372036854775807) (t : ByteArray) (er : Int) (H : Hid (doneW s m e = (t, er))) (w : World) :
    Calls Try.prog 31 #[.agg #[.string s, .int .i64 m, .int .i64 e]] w fun en w' => en = .returned (.tuple #[.string t, .int .i64 er]) ∧ Below w.heap.size w w' := by
  obtain ⟨s0, m0, e0, hc⟩ : ∃ s0 m0 e0, cntw s m e = (s0, m0, e0) := ⟨_, _, _, rfl⟩
  have hx := H.out
  unfold doneW at hx
  rw [hc] at hx
  simp only [] at hx
  have HC := Lib.hid hc
  clear H hc
  have P1 := Lib.hid (Box.new w 45 #[.string s, .int .i64 m, .int .i64 e])
  have B1 := Lib.hid ((Below.refl w.heap.size w).alloc (by simp) (.cells #[.string s, .int .i64 m, .int .i64 e] 45))
  by_cases he : e0 = 0
  · subst he
    rw [if_pos rfl] at hx
    have HX := Lib.hid hx
    clear hx
    go_enter Try.func31, Try.ntmps31
    go_wp2_with (first
      | (go_at_call 73; (refine (rwriter_any s m e hs s0 m0 0 HC _).mono ?_); rintro en w2 ⟨rfl, hB⟩; have P2 := Lib.hid (P1.out.below hB); have B2 := Lib.hid (below_then B1.out hB); clear hB; have lp := P2.out.lt; obtain ⟨cp0, cp1, cp2⟩ := P2.out.c3; obtain ⟨fp0, fp1, fp2⟩ := P2.out.f3; have P3 := Lib.hid (P2.out.set3 (.string s0) (.int .i64 m0) (.int .i64 0)); have B3 := Lib.hid (Below.set3 B2.out (w.heap.size) (by omega) (.string s0) (.int .i64 m0) (.int .i64 0))))
    go_ret2
    exact ⟨ret_se HX.out, B3.out⟩
  · rw [if_neg he] at hx
    have HX := Lib.hid hx
    have te : (e0 != 0) = true := by simpa using he
    clear hx he
    go_enter Try.func31, Try.ntmps31
    go_wp2_with (first
      | (go_at_call 73; (refine (rwriter_any s m e hs s0 m0 e0 HC _).mono ?_); rintro en w2 ⟨rfl, hB⟩; have P2 := Lib.hid (P1.out.below hB); have B2 := Lib.hid (below_then B1.out hB); clear hB; have lp := P2.out.lt; obtain ⟨cp0, cp1, cp2⟩ := P2.out.c3; obtain ⟨fp0, fp1, fp2⟩ := P2.out.f3; have P3 := Lib.hid (P2.out.set3 (.string s0) (.int .i64 m0) (.int .i64 e0)); have B3 := Lib.hid (Below.set3 B2.out (w.heap.size) (by omega) (.string s0) (.int .i64 m0) (.int .i64 e0))))
    obtain ⟨W, hW⟩ : ∃ W, W = ((w2.setCell ⟨w.heap.size, 0, none⟩ (.string s0)).setCell ⟨w.heap.size, 1, none⟩ (.int .i64 m0)).setCell ⟨w.heap.size, 2, none⟩ (.int .i64 e0) := ⟨_, rfl⟩
    rw [← hW]
    have PW : Box W 45 w.heap.size #[.string s0, .int .i64 m0, .int .i64 e0] := by rw [hW]; exact P3.out
    have BW : Below w.heap.size w W := by rw [hW]; exact B3.out
    clear cp0 cp1 cp2 fp0 fp1 fp2 lp hW
    obtain ⟨cq0, cq1, cq2⟩ := PW.c3
    go_quiet (fail)
    go_wp2
    go_ret2
    exact ⟨ret_se HX.out, below_drewN BW _⟩
end Go.Proofs.Ytkepnjnindolbaa.s05
