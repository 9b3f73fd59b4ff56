/-
  Layer 7, the program's side: Begins, and Read.
-/
import Derived.Test.YtniimoebgajefaaS07F
namespace Go.Proofs.Ytniimoebgajefaa.s07
set_option linter.unusedVariables false
set_option linter.unusedSimpArgs false
open Go.RowKit
open kit

theorem bad_not5 (s : ByteArray) (t : Int) : badR s t ≠ 5 := by
  unfold badR
  repeat' split
  all_goals decide
theorem begins_of {s : ByteArray} {t y er : Int} {x : ByteArray} (h1 : 1 ≤ t) (h2 : t ≤ 8) (h : rdP s t = (y, x, er)) : beginsR s t = if er = 5 then (true, 0) else (false, er) := by
  unfold beginsR
  rw [if_neg (by omega)]
  unfold rdP at h
  by_cases hb : badR s t = 0
  · rw [if_pos hb] at h ⊢
    cases hw : wholeR s
    · rw [hw] at h
      simp only [Bool.false_eq_true, if_false, Prod.mk.injEq] at h
      obtain ⟨_, _, rfl⟩ := h
      rfl
    · rw [hw] at h
      simp only [if_true, Prod.mk.injEq] at h
      obtain ⟨_, _, rfl⟩ := h
      rfl
  · rw [if_neg hb] at h ⊢
    simp only [Prod.mk.injEq] at h
    obtain ⟨_, _, rfl⟩ := h
    rw [if_neg (bad_not5 s t)]
set_option maxRecDepth 100000 in
set_option maxHeartbeats 1000000 in
theorem begins_any (s : ByteArray) (t : Int) (w : World) (hs : s.size ≤ 9223372036854775806) (v : Bool) (c : Int) (H : Hid (beginsR s t = (v, c))) :
    Calls Try.prog 14 #[.string s, .int .i64 t] w fun e w' => e = .returned (.tuple #[.bool v, .int .i64 c]) ∧ Below w.heap.size w w' := by
  by_cases ht : t < 1 ∨ 8 < t
  · have HC : Hid ((false, 2) = (v, c)) := Lib.hid (by rw [← H.out]; unfold beginsR; rw [if_pos ht])
    go_enter Try.func14, Try.ntmps14
    go_wp2_with (go_at_call 36; refine (isTerms_no t _ ht).mono ?_; rintro e w1 ⟨rfl, rfl⟩)
    go_ret2
    exact ⟨ret_be HC.out, Below.refl _ _⟩
  · have h1 : 1 ≤ t := by omega
    have h2 : t ≤ 8 := by omega
    obtain ⟨y, x, er, hr⟩ : ∃ y x er, rdP s t = (y, x, er) := ⟨_, _, _, rfl⟩
    have hc := begins_of h1 h2 hr
    rw [H.out] at hc
    have HR := Lib.hid hr
    clear ht hr
    by_cases h5 : er = 5
    · rw [if_pos h5] at hc
      subst h5
      have HC := Lib.hid hc.symm
      clear hc
      go_enter Try.func14, Try.ntmps14
      go_wp2_with (first
        | (go_at_call 36; refine (isTerms_yes t _ h1 h2).mono ?_; rintro e w1 ⟨rfl, rfl⟩)
        | (go_at_call 37; refine (read_any s t _ hs y x 5 HR).mono ?_; rintro e w1 ⟨rfl, hB⟩))
      go_ret2
      exact ⟨ret_be HC.out, hB.alloc hB.size _⟩
    · rw [if_neg h5] at hc
      have HC := Lib.hid hc.symm
      have t5 : (er == 5) = false := by rw [beq_eq_false_iff_ne]; exact h5
      clear hc h5
      go_enter Try.func14, Try.ntmps14
      go_wp2_with (first
        | (go_at_call 36; refine (isTerms_yes t _ h1 h2).mono ?_; rintro e w1 ⟨rfl, rfl⟩)
        | (go_at_call 37; refine (read_any s t _ hs y x er HR).mono ?_; rintro e w1 ⟨rfl, hB⟩))
      go_ret2
      exact ⟨ret_be HC.out, hB.alloc hB.size _⟩
theorem pread_results (tm : Array Value) (W : World) (b b' : Nat) {y x p n er a : Value} (h6 : tm.getD 6 undef = .pointer (some ⟨b, 0, none⟩)) (h7 : tm.getD 7 undef = n) (h8 : tm.getD 8 undef = .pointer (some ⟨b', 0, none⟩))
    (X : Box W 23 b #[y, x, p]) (Y : Box W 41 b' #[er, a]) : (results Try.f25 tm).run Try.prog W = .ok (.tuple #[.agg #[y, x, p], n, .agg #[er, a]]) W := by
  obtain ⟨c0, c1, c2⟩ := X.cell3
  obtain ⟨d0, d1⟩ := Y.cell2
  simp only [Array.getD_eq_getD_getElem?] at h6 h7 h8
  simp [results, Try.results25, go_sem, h6, h7, h8, c0, c1, c2, d0, d1]
theorem readR_of {s : ByteArray} {t a y er : Int} {x : ByteArray} (h1 : 1 ≤ t) (h2 : t ≤ 8) (h3 : 0 ≤ a) (h4 : a ≤ 1099511627776) (h : rdP s t = (y, x, er)) : readR s t a = if er = 0 then ((y, x, a), 2 + (x.size : Int), 0, 0) else (noLi, 0, er, a) := by
  unfold readR
  rw [if_neg (by omega)]
  unfold rdP at h
  by_cases hb : badR s t = 0
  · rw [if_pos hb] at h ⊢
    cases hw : wholeR s
    · rw [hw] at h
      simp only [Bool.false_eq_true, if_false, Prod.mk.injEq] at h
      obtain ⟨_, _, rfl⟩ := h
      rfl
    · have h9 : 2 + atB s 1 ≤ s.size := by unfold wholeR at hw; exact (of_decide_eq_true hw).2
      rw [hw] at h
      simp only [if_true, Prod.mk.injEq] at h
      obtain ⟨rfl, rfl, rfl⟩ := h
      rw [if_pos rfl, ByteArray.size_extract]
      simp only [if_true, Prod.mk.injEq, true_and, and_true]
      omega
  · rw [if_neg hb] at h ⊢
    simp only [Prod.mk.injEq] at h
    obtain ⟨_, _, rfl⟩ := h
    rw [if_neg hb]
theorem rdP_small {s : ByteArray} {t y er : Int} {x : ByteArray} (h : rdP s t = (y, x, er)) : x.size ≤ s.size := by
  unfold rdP at h
  repeat' split at h
  all_goals simp only [Prod.mk.injEq] at h; obtain ⟨_, rfl, _⟩ := h
  · rw [ByteArray.size_extract]; omega
  · exact Nat.zero_le _
  · exact Nat.zero_le _
set_option maxRecDepth 100000 in
set_option maxHeartbeats 2000000 in
theorem pread_any (s : ByteArray) (t a : Int) (w : World) (hs : s.size ≤ 9223372036854775800) (y : Int) (x : ByteArray) (p n er at' : Int) (H : Hid (readR s t a = ((y, x, p), n, er, at'))) :
    Calls Try.prog 25 #[.string s, .int .i64 t, .int .i64 a] w fun e w' => e = .returned (ReadV y x p n er at') ∧ Below w.heap.size w w' := by
  by_cases hta : (t < 1 ∨ 8 < t) ∨ (a < 0 ∨ 1099511627776 < a)
  · have HC : Hid ((noLi, 0, 2, 0) = ((y, x, p), n, er, at')) := Lib.hid (by rw [← H.out]; unfold readR; rw [if_pos hta])
    by_cases ht : t < 1 ∨ 8 < t
    · clear hta
      go_enter Try.func25, Try.ntmps25
      go_wp2_with (go_at_call 36; refine (isTerms_no t _ ht).mono ?_; rintro e w1 ⟨rfl, rfl⟩)
      exact bodyPost_ret (pread_results _ _ w.heap.size (w.heap.size + 1) rfl rfl rfl (two_new w _ _).1 (two_new w _ _).2.1) rfl ⟨ret_rd HC.out, (two_new w _ _).2.2⟩
    · have h1 : 1 ≤ t := by omega
      have h2 : t ≤ 8 := by omega
      have ha : a < 0 ∨ 1099511627776 < a := by omega
      clear hta ht
      go_enter Try.func25, Try.ntmps25
      go_wp2_with (first
        | (go_at_call 36; refine (isTerms_yes t _ h1 h2).mono ?_; rintro e w1 ⟨rfl, rfl⟩)
        | (go_at_call 39; refine (isOffset_no a _ ha).mono ?_; rintro e w1 ⟨rfl, rfl⟩))
      exact bodyPost_ret (pread_results _ _ w.heap.size (w.heap.size + 1) rfl rfl rfl (two_new w _ _).1 (two_new w _ _).2.1) rfl ⟨ret_rd HC.out, (two_new w _ _).2.2⟩
  · have h1 : 1 ≤ t := by omega
    have h2 : t ≤ 8 := by omega
    have h3 : 0 ≤ a := by omega
    have h4 : a ≤ 1099511627776 := by omega
    clear hta
    obtain ⟨y1, x1, e1, hr⟩ : ∃ y x er, rdP s t = (y, x, er) := ⟨_, _, _, rfl⟩
    have hc := readR_of h1 h2 h3 h4 hr
    rw [H.out] at hc
    have hx1 := rdP_small hr
    have HR := Lib.hid hr
    have N0 := two_new w #[.int .i64 0, .string ⟨#[]⟩, .int .i64 0] #[.int .i64 0, .int .i64 0]
    have HN := Lib.hid N0
    clear N0 hr
    by_cases h0 : e1 = 0
    · rw [if_pos h0] at hc
      subst h0
      have HC := Lib.hid hc.symm
      clear hc
      go_enter Try.func25, Try.ntmps25
      go_wp2_with (first
        | (go_at_call 36; refine (isTerms_yes t _ h1 h2).mono ?_; rintro e w1 ⟨rfl, rfl⟩)
        | (go_at_call 39; refine (isOffset_yes a _ h3 h4).mono ?_; rintro e w1 ⟨rfl, rfl⟩)
        | (go_at_call 37; refine (read_any s t _ (by omega) y1 x1 0 HR).mono ?_; rintro e w2 ⟨rfl, hB⟩; have X2 := Lib.hid (HN.out.1.below hB); have Y2 := Lib.hid (HN.out.2.1.below hB); have B2 := Lib.hid (below_on HN.out.2.2 (Nat.le_refl _) hB); clear hB; obtain ⟨c0, c1, c2⟩ := X2.out.cell3; obtain ⟨f0, f1, f2⟩ := X2.out.free3))
      have X3 := Lib.hid ((X2.out.put3 (.int .i64 y1) (.string x1) (.int .i64 0)).set 2 (by simp) (.int .i64 a) : Box _ 23 w.heap.size #[.int .i64 y1, .string x1, .int .i64 a])
      have Y3 := Lib.hid ((Y2.out.far3 (b' := w.heap.size) (by omega) (.int .i64 y1) (.string x1) (.int .i64 0)).other (b' := w.heap.size) (i := 2) (by omega) (.int .i64 a))
      have B3 := Lib.hid ((below_put3 B2.out (Nat.le_refl _) (.int .i64 y1) (.string x1) (.int .i64 0)).setCell (p := ⟨w.heap.size, 2, none⟩) (Nat.le_refl _) (.int .i64 a))
      generalize (((w2.setCell ⟨w.heap.size, 0, none⟩ (.int .i64 y1)).setCell ⟨w.heap.size, 1, none⟩ (.string x1)).setCell ⟨w.heap.size, 2, none⟩ (.int .i64 0)).setCell ⟨w.heap.size, 2, none⟩ (.int .i64 a) = w3 at X3 Y3 B3 ⊢
      clear c0 c1 c2 f0 f1 f2 X2 Y2 B2
      have hX3 : Hid (Box w3.drew 23 w.heap.size #[.int .i64 y1, .string x1, .int .i64 a]) := Lib.hid X3.out
      have hY3 : Hid (Box w3.drew 41 (w.heap.size + 1) #[.int .i64 0, .int .i64 0]) := Lib.hid Y3.out
      have hB3 : Hid (Below w.heap.size w w3.drew) := Lib.hid B3.out.drew
      have hx2 : x1.size ≤ 9223372036854775805 := by omega
      obtain ⟨c0, c1, c2⟩ := hX3.out.cell3
      go_region_held3 (fun w' => w'.cell? ⟨w.heap.size, 0, none⟩ = some (.int .i64 y1) ∧ w'.cell? ⟨w.heap.size, 1, none⟩ = some (.string x1) ∧ w'.cell? ⟨w.heap.size, 2, none⟩ = some (.int .i64 a))
        (first
          | with_reducible exact ⟨c0, c1, c2⟩
          | with_reducible exact X4.out.cell3
          | with_reducible exact (X4.out.put3 _ _ _).cell3
          | with_reducible exact ((X4.out.put3 _ _ _).far2 (Nat.ne_of_lt (Nat.lt_succ_self _)) _ _).cell3)
        (first
          | (go_at_call 11; refine (size_any y1 a x1 hx2 _).mono ?_; rintro en w4 ⟨rfl, hB4⟩; have X4 := Lib.hid (hX3.out.below hB4); have Y4 := Lib.hid (hY3.out.below hB4); have B4 := Lib.hid (below_on hB3.out (Nat.le_refl _) hB4); clear hB4; obtain ⟨f0, f1, f2⟩ := X4.out.free3; obtain ⟨d0, d1⟩ := Y4.out.cell2; obtain ⟨g0, g1⟩ := Y4.out.free2))
      all_goals (go_wp2; exact bodyPost_ret (pread_results _ _ w.heap.size (w.heap.size + 1) rfl rfl rfl ((X4.out.put3 _ _ _).far2 (by omega) _ _) ((Y4.out.far3 (by omega) _ _ _).put2 _ _)) rfl ⟨ret_rd HC.out, below_put2 (below_put3 B4.out (Nat.le_refl _) _ _ _) (by omega) _ _⟩)
    · rw [if_neg h0] at hc
      have HC := Lib.hid hc.symm
      have t0 : (e1 != 0) = true := by rw [bne_iff_ne]; exact h0
      clear hc h0
      go_enter Try.func25, Try.ntmps25
      go_wp2_with (first
        | (go_at_call 36; refine (isTerms_yes t _ h1 h2).mono ?_; rintro e w1 ⟨rfl, rfl⟩)
        | (go_at_call 39; refine (isOffset_yes a _ h3 h4).mono ?_; rintro e w1 ⟨rfl, rfl⟩)
        | (go_at_call 37; refine (read_any s t _ (by omega) y1 x1 e1 HR).mono ?_; rintro e w2 ⟨rfl, hB⟩; have X2 := Lib.hid (HN.out.1.below hB); have Y2 := Lib.hid (HN.out.2.1.below hB); have B2 := Lib.hid (below_on HN.out.2.2 (Nat.le_refl _) hB); clear hB; obtain ⟨c0, c1, c2⟩ := X2.out.cell3; obtain ⟨f0, f1, f2⟩ := X2.out.free3; obtain ⟨d0, d1⟩ := Y2.out.cell2; obtain ⟨g0, g1⟩ := Y2.out.free2))
      exact bodyPost_ret (pread_results _ _ w.heap.size (w.heap.size + 1) rfl rfl rfl (((X2.out.put3 _ _ _).put3 _ _ _).far2 (by omega) _ _) (((Y2.out.far3 (by omega) _ _ _).far3 (by omega) _ _ _).put2 _ _)) rfl ⟨ret_rd HC.out, below_put2 (below_put3 (below_put3 B2.out (Nat.le_refl _) _ _ _) (Nat.le_refl _) _ _ _) (by omega) _ _⟩
end Go.Proofs.Ytniimoebgajefaa.s07
