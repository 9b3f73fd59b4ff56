/-
  Layer 5, the reference's side: reader, fine, with, fail, Read, Wide.
-/
import Derived.Test.YtkepnjnindolbaaS05C
import Derived.Test.YtkepnjnindolbaaS05M
import Derived.Test.YtkepnjnindolbaaS05K
namespace Go.Proofs.Ytkepnjnindolbaa.s05
set_option linter.unusedVariables false
set_option linter.unusedSimpArgs false
open Go.RowKit
open kit

theorem cnt_idem {s : ByteArray} {p e o : Int} {s' : ByteArray} {p' e' o' : Int} (h : cnt s p e o = (s', p', e', o')) : cnt s' p' e' o' = (s', p', e', o') := by
  have h0 := h
  unfold cnt at h
  split at h
  · cases h; exact h0
  · cases h; rfl
theorem cnt_of {s : ByteArray} {p : Int} (h1 : s.size ≤ 20000) (h2 : 0 ≤ p) (h3 : p ≤ s.size) : cnt s p 0 0 = (s, p, 0, 0) := by
  unfold cnt
  rw [if_pos]
  unfold vld
  rw [decide_eq_true_eq]
  omega
theorem two_below (w : World) (o1 o2 : Obj) : Below w.heap.size w ((w.alloc o1).alloc o2) := ((Below.refl w.heap.size w).alloc (by simp) _).alloc (by simp) _
set_option maxRecDepth 100000 in
set_option maxHeartbeats 2000000 in
theorem rreader_any (s : ByteArray) (p e o : Int) (hs : s.size ≤ 9223372036854775807) (s' : ByteArray) (p' e' o' : Int) (H : Hid (cnt s p e o = (s', p', e', o'))) (w : World) :
    Calls Try.prog 50 #[.agg #[.string s, .int .i64 p, .int .i64 e, .int .i64 o]] w fun en w' => en = .returned (.agg #[.string s', .int .i64 p', .int .i64 e', .int .i64 o']) ∧ Below w.heap.size w w' := by
  have BB := Lib.hid (fun o1 o2 => two_below w o1 o2)
  cases hv : vld s p e o
  · have HX : Hid (((⟨#[]⟩ : ByteArray), (0 : Int), (10 : Int), (0 : Int)) = (s', p', e', o')) := Lib.hid (by rw [← H.out]; unfold cnt; rw [hv]; rfl)
    have HV := Lib.hid hv
    clear hv
    go_enter Try.func50, Try.ntmps50
    go_wp2
    all_goals first
      | (exfalso
         have h := HV.out
         unfold vld at h
         rw [decide_eq_false_iff_not] at h
         simp only [Bool.not_eq_eq_eq_not, Bool.not_false, Bool.not_true, beq_iff_eq, beq_eq_false_iff_ne, ne_eq, decide_eq_true_eq, decide_eq_false_iff_not] at *
         omega)
      | (refine bodyPost_ret (v := .agg #[.string ⟨#[]⟩, .int .i64 0, .int .i64 10, .int .i64 0]) (by simp [results, Try.results50, go_sem]) rfl ⟨ret_rdr HX.out, BB.out _ _⟩)
  · have HX : Hid ((s, p, e, o) = (s', p', e', o')) := Lib.hid (by rw [← H.out]; unfold cnt; rw [hv]; rfl)
    have h := hv
    unfold vld at h
    rw [decide_eq_true_eq] at h
    obtain ⟨q1, q2, q3, q4, q5, q6, q7, q8⟩ := h
    clear hv
    by_cases he : e = 0
    · subst he
      obtain rfl := q7 rfl
      clear q7
      go_enter Try.func50, Try.ntmps50
      go_wp2
      refine bodyPost_ret (v := .agg #[.string s, .int .i64 p, .int .i64 0, .int .i64 0]) (by simp [results, Try.results50, go_sem]) rfl ⟨ret_rdr HX.out, BB.out _ _⟩
    · have he1 : 1 ≤ e := by omega
      have he2 : (e == 0) = false := by simpa using he
      clear he q7
      go_enter Try.func50, Try.ntmps50
      go_wp2
      refine bodyPost_ret (v := .agg #[.string s, .int .i64 p, .int .i64 e, .int .i64 o]) (by simp [results, Try.results50, go_sem]) rfl ⟨ret_rdr HX.out, BB.out _ _⟩
theorem rfine_any (s : ByteArray) (p e o : Int) (v : Bool) (H : Hid ((e == 0) = v)) (w : World) :
    Calls Try.prog 52 #[.agg #[.string s, .int .i64 p, .int .i64 e, .int .i64 o]] w fun en w' => en = .returned (.bool v) ∧ Below w.heap.size w w' := by
  go_enter Try.func52, Try.ntmps52
  go_wp2
  go_ret
  exact ⟨ret_bool H.out, (Below.refl _ _).alloc (Nat.le_refl _) _⟩
def withR (s : ByteArray) (p e o fe fo : Int) : ByteArray × Int × Int × Int := if e = 0 then (s, p, fe, fo) else (s, p, e, o)
set_option maxRecDepth 100000 in
set_option maxHeartbeats 2000000 in
theorem rwith_any (s : ByteArray) (p e o fe fo : Int) (s' : ByteArray) (p' e' o' : Int) (H : Hid (withR s p e o fe fo = (s', p', e', o'))) (w : World) :
    Calls Try.prog 57 #[.agg #[.string s, .int .i64 p, .int .i64 e, .int .i64 o], .agg #[.int .i64 fe, .int .i64 fo]] w fun en w' => en = .returned (.agg #[.string s', .int .i64 p', .int .i64 e', .int .i64 o']) ∧ Below w.heap.size w w' := by
  obtain ⟨W, hW⟩ : ∃ W, W = ((w.alloc (.cells #[.string s, .int .i64 p, .int .i64 e, .int .i64 o] 26)).alloc (.cells #[.int .i64 fe, .int .i64 fo] 24)).alloc (.cells #[.string ⟨#[]⟩, .int .i64 0, .int .i64 0, .int .i64 0] 26) := ⟨_, rfl⟩
  have P1 : Hid (Box W 26 w.heap.size #[.string s, .int .i64 p, .int .i64 e, .int .i64 o]) := Lib.hid (by rw [hW]; exact ((Box.new _ _ _).alloc _).alloc _)
  have F1 : Hid (Box W 24 (w.heap.size + 1) #[.int .i64 fe, .int .i64 fo]) := Lib.hid (by rw [hW]; exact (Box.new2 _ _ _ _).alloc _)
  have X1 : Hid (Box W 26 (w.heap.size + 2) #[.string ⟨#[]⟩, .int .i64 0, .int .i64 0, .int .i64 0]) := Lib.hid (by rw [hW]; exact nth_box _ _ _ _ (by simp))
  have B1 : Hid (Below w.heap.size w W) := Lib.hid (by rw [hW]; exact (((Below.refl w.heap.size w).alloc (by simp) _).alloc (by simp) _).alloc (by simp; omega) _)
  have hWh := Lib.hid hW
  clear hW
  by_cases he : e = 0
  · subst he
    have HX : Hid ((s, p, fe, fo) = (s', p', e', o')) := Lib.hid (by rw [← H.out]; rfl)
    clear H
    go_enter Try.func57, Try.ntmps57
    go_wp2_with fail
    rw [← hWh.out]
    refine (rfine_any s p 0 o true (Lib.hid rfl) _).mono ?_
    rintro en w1 ⟨rfl, hB⟩
    have P2 := Lib.hid (P1.out.below hB)
    have F2 := Lib.hid (F1.out.below hB)
    have X2 := Lib.hid (X1.out.below hB)
    have B2 := Lib.hid (below_then B1.out hB)
    clear hB
    obtain ⟨c0, c1, c2, c3⟩ := P2.out.c4
    obtain ⟨f0, f1, f2, f3⟩ := P2.out.f4
    obtain ⟨g0, g1⟩ := F2.out.cell2
    obtain ⟨x0, x1, x2, x3⟩ := X2.out.c4
    obtain ⟨y0, y1, y2, y3⟩ := X2.out.f4
    go_wp2
    have n1 : w.heap.size + 2 ≠ w.heap.size := by omega
    obtain ⟨d0, d1, d2, d3⟩ := (((X2.out.other (i := 2) n1 (.int .i64 fe)).other (i := 3) n1 (.int .i64 fo)).set4 (.string s) (.int .i64 p) (.int .i64 fe) (.int .i64 fo)).c4
    refine bodyPost_ret (v := .agg #[.string s, .int .i64 p, .int .i64 fe, .int .i64 fo]) (by simp [results, Try.results57, go_sem, d0, d1, d2, d3]) rfl ⟨ret_rdr HX.out, ?_⟩
    exact Below.set4 ((B2.out.setCell (p := ⟨w.heap.size, 2, none⟩) (by simp) (.int .i64 fe)).setCell (p := ⟨w.heap.size, 3, none⟩) (by simp) (.int .i64 fo)) (w.heap.size + 2) (by omega) _ _ _ _
  · have HX : Hid ((s, p, e, o) = (s', p', e', o')) := Lib.hid (by rw [← H.out]; unfold withR; rw [if_neg he])
    have HE : Hid ((e == 0) = false) := Lib.hid (by simpa using he)
    clear H he
    go_enter Try.func57, Try.ntmps57
    go_wp2_with fail
    rw [← hWh.out]
    refine (rfine_any s p e o false HE _).mono ?_
    rintro en w1 ⟨rfl, hB⟩
    have P2 := Lib.hid (P1.out.below hB)
    have F2 := Lib.hid (F1.out.below hB)
    have X2 := Lib.hid (X1.out.below hB)
    have B2 := Lib.hid (below_then B1.out hB)
    clear hB
    obtain ⟨c0, c1, c2, c3⟩ := P2.out.c4
    obtain ⟨f0, f1, f2, f3⟩ := P2.out.f4
    obtain ⟨g0, g1⟩ := F2.out.cell2
    obtain ⟨x0, x1, x2, x3⟩ := X2.out.c4
    obtain ⟨y0, y1, y2, y3⟩ := X2.out.f4
    go_wp2
    have n1 : w.heap.size + 2 ≠ w.heap.size := by omega
    obtain ⟨d0, d1, d2, d3⟩ := (X2.out.set4 (.string s) (.int .i64 p) (.int .i64 e) (.int .i64 o)).c4
    refine bodyPost_ret (v := .agg #[.string s, .int .i64 p, .int .i64 e, .int .i64 o]) (by simp [results, Try.results57, go_sem, d0, d1, d2, d3]) rfl ⟨ret_rdr HX.out, ?_⟩
    exact Below.set4 B2.out (w.heap.size + 2) (by omega) _ _ _ _
set_option maxRecDepth 100000 in
set_option maxHeartbeats 2000000 in
theorem rfail_any (s : ByteArray) (p e o er a : Int) (s' : ByteArray) (p' e' o' : Int) (H : Hid (withR s p e o er a = (s', p', e', o'))) (w : World) :
    Calls Try.prog 51 #[.agg #[.string s, .int .i64 p, .int .i64 e, .int .i64 o], .int .i64 er, .int .i64 a] w fun en w' => en = .returned (.agg #[.string s', .int .i64 p', .int .i64 e', .int .i64 o']) ∧ Below w.heap.size w w' := by
  have X1 := Lib.hid (Box.new2 w (.cells #[.string s, .int .i64 p, .int .i64 e, .int .i64 o] 26) 26 #[.string ⟨#[]⟩, .int .i64 0, .int .i64 0, .int .i64 0])
  have B1 := Lib.hid (two_below w (.cells #[.string s, .int .i64 p, .int .i64 e, .int .i64 o] 26) (.cells #[.string ⟨#[]⟩, .int .i64 0, .int .i64 0, .int .i64 0] 26))
  go_enter Try.func51, Try.ntmps51
  go_wp2_with (go_at_call 57; refine (rwith_any s p e o er a s' p' e' o' H _).mono ?_; rintro en w1 ⟨rfl, hB⟩; have X2 := Lib.hid (X1.out.below hB); have B2 := Lib.hid (below_then B1.out hB); clear hB; obtain ⟨x0, x1, x2, x3⟩ := X2.out.c4; obtain ⟨y0, y1, y2, y3⟩ := X2.out.f4)
  obtain ⟨d0, d1, d2, d3⟩ := (X2.out.set4 (.string s') (.int .i64 p') (.int .i64 e') (.int .i64 o')).c4
  refine bodyPost_ret (v := .agg #[.string s', .int .i64 p', .int .i64 e', .int .i64 o']) (by simp [results, Try.results51, go_sem, d0, d1, d2, d3]) rfl ⟨rfl, ?_⟩
  exact Below.set4 B2.out (w.heap.size + 1) (by omega) _ _ _ _
set_option maxRecDepth 100000 in
theorem rread_any (s : ByteArray) (hs : s.size ≤ 9223372036854775807) (s' : ByteArray) (p' e' o' : Int) (H : Hid (cnt s 0 0 0 = (s', p', e', o'))) (w : World) :
    Calls Try.prog 26 #[.string s] w fun en w' => en = .returned (.agg #[.string s', .int .i64 p', .int .i64 e', .int .i64 o']) ∧ Below w.heap.size w w' := by
  have X1 := Lib.hid (Box.new w 26 #[.string ⟨#[]⟩, .int .i64 0, .int .i64 0, .int .i64 0])
  have B1 := Lib.hid ((Below.refl w.heap.size w).alloc (Nat.le_refl _) (.cells #[.string ⟨#[]⟩, .int .i64 0, .int .i64 0, .int .i64 0] 26))
  go_enter Try.func26, Try.ntmps26
  go_wp2_with (go_at_call 50; refine (rreader_any s 0 0 0 hs s' p' e' o' H _).mono ?_; rintro en w1 ⟨rfl, hB⟩; have X2 := Lib.hid (X1.out.below hB); have B2 := Lib.hid (below_then B1.out hB); clear hB; obtain ⟨x0, x1, x2, x3⟩ := X2.out.c4; obtain ⟨y0, y1, y2, y3⟩ := X2.out.f4)
  obtain ⟨d0, d1, d2, d3⟩ := (X2.out.set4 (.string s') (.int .i64 p') (.int .i64 e') (.int .i64 o')).c4
  exact bodyPost_ret (v := .agg #[.string s', .int .i64 p', .int .i64 e', .int .i64 o']) (by simp [results, Try.results26, go_sem, d0, d1, d2, d3]) rfl ⟨rfl, Below.set4 B2.out _ (Nat.le_refl _) _ _ _ _⟩
end Go.Proofs.Ytkepnjnindolbaa.s05
