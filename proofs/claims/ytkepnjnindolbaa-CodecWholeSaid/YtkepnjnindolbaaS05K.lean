/-
  Layer 5, the program's side: Fail and End.
-/
import Derived.Test.YtkepnjnindolbaaS05C
import Derived.Test.YtkepnjnindolbaaS05M
namespace Go.Proofs.Ytkepnjnindolbaa.s05
set_option linter.unusedVariables false
set_option linter.unusedSimpArgs false
open Go.RowKit
open kit

def errF (err : Int) : Int := if 1 ≤ err ∧ err ≤ 31 then err else 3
def offF (s : ByteArray) (a : Int) : Int := min (max a 0) s.size
def failR (s : ByteArray) (p e o err a : Int) : ByteArray × Int × Int × Int :=
  if (cnt s p e o).2.2.1 = 0 then ((cnt s p e o).1, (cnt s p e o).2.1, errF err, offF (cnt s p e o).1 a) else cnt s p e o
def endF (s : ByteArray) (p e o : Int) : Int × Int :=
  if (cnt s p e o).2.2.1 = 0 ∧ (cnt s p e o).2.1 < (cnt s p e o).1.size then (4, (cnt s p e o).2.1) else (cnt s p e o).2.2
theorem errF_of {err : Int} {v : Bool} (h : decide (0 ≤ err ∧ err ≤ 31) = v) (hz : err ≠ 0) : errF err = if v = true then err else 3 := by
  unfold errF
  cases v
  · simp at h; rw [if_neg (by omega)]; simp
  · simp at h; rw [if_pos (by omega)]; simp
set_option maxRecDepth 100000 in
set_option maxHeartbeats 1000000 in
theorem pend_any (s : ByteArray) (p e o : Int) (hs : s.size ≤ 9223372036854775807) (fe fo : Int) (H : Hid (endF s p e o = (fe, fo))) (w : World) :
    Calls Try.prog 23 #[.agg #[.string s, .int .i64 p, .int .i64 e, .int .i64 o]] w fun en w' => en = .returned (.agg #[.int .i64 fe, .int .i64 fo]) ∧ Below w.heap.size w w' := by
  obtain ⟨s0, p0, e0, o0, hc⟩ : ∃ s0 p0 e0 o0, cnt s p e o = (s0, p0, e0, o0) := ⟨_, _, _, _, rfl⟩
  obtain ⟨r1, r2, r3, r4, r5, r6, r7⟩ := cnt_ok hc
  have hx := H.out
  unfold endF at hx
  rw [hc] at hx
  simp only [] at hx
  have HC := Lib.hid hc
  clear H hc
  have X1 := Lib.hid (Box.new2 w (.cells #[.string s, .int .i64 p, .int .i64 e, .int .i64 o] 26) 24 #[.int .i64 0, .int .i64 0])
  have B1 := Lib.hid (((Below.refl w.heap.size w).alloc (by simp) (.cells #[.string s, .int .i64 p, .int .i64 e, .int .i64 o] 26)).alloc (by simp) (.cells #[.int .i64 0, .int .i64 0] 24))
  by_cases hl : p0 < (s0.size : Int)
  · by_cases he : e0 = 0
    · subst he
      rw [if_pos ⟨rfl, hl⟩] at hx
      have HX := Lib.hid hx
      clear hx
      go_enter Try.func23, Try.ntmps23
      go_wp2_with (go_at_call 67; refine (readerOf_any s p e o hs s0 p0 0 o0 HC _).mono ?_; rintro en w1 ⟨b, rfl, hb, hR, hB⟩; have R1 := Lib.hid hR; have X2 := Lib.hid (X1.out.below hB); have B2 := Lib.hid (below_then B1.out hB); have hb2 : w.heap.size + 2 ≤ b := (by simp at hb; omega); clear hb hR hB; obtain ⟨c0, c1, c2, c3⟩ := R1.out.cells)
      go_quiet (fail)
      have R2 := Lib.hid (R1.out.drewN nq)
      have X3 : Hid (Box (w1.drewN nq) _ _ _) := Lib.hid X2.out
      have B3 := Lib.hid (below_drewN B2.out nq)
      go_wp2
      generalize w1.drewN nq = w2 at R2 X3 B3 ⊢
      clear c0 c1 c2 c3
      obtain ⟨c0, c1, c2, c3⟩ := R2.out.cells
      go_still_tail 8, (by kernel_rfl)
      have R4 : Hid (Rb w2.drew _ b s0 0 o0 p0) := Lib.hid R2.out
      have X4 : Hid (Box w2.drew _ _ _) := Lib.hid X3.out
      have B4 := Lib.hid B3.out.drew
      change wpList _ _ _ _ _ w2.drew
      generalize w2.drew = w3 at R4 X4 B4 ⊢
      clear c0 c1 c2 c3
      go_wp2_with (go_at_call 69; refine (keep_new _ b s0 o0 p0 4 p0 _ R4).mono ?_; rintro en w4 ⟨rfl, hR, hB⟩; have R5 := Lib.hid hR; have X5 := Lib.hid (GB.box X4.out hB (by omega)); have B5 := Lib.hid (B4.out.trans (hB.below (by omega) B4.out.size)); clear hR hB; obtain ⟨c0, c1, c2, c3⟩ := R5.out.cells; obtain ⟨x0, x1⟩ := X5.out.cell2; obtain ⟨f0, f1⟩ := X5.out.free2)
      obtain ⟨d0, d1⟩ := (X5.out.set2 (.int .i64 4) (.int .i64 p0)).cell2
      refine bodyPost_ret (v := .agg #[.int .i64 4, .int .i64 p0]) (by simp [results, Try.results23, go_sem, d0, d1]) rfl ?_
      have BE := Below.set2 B5.out (w.heap.size + 1) (by omega) (.int .i64 4) (.int .i64 p0)
      cases HX.out
      exact ⟨rfl, BE⟩
    · rw [if_neg (by omega)] at hx
      have HE : Hid ((e0 != 0) = true) := Lib.hid (by simpa using he)
      have HX := Lib.hid hx
      clear hx he
      go_enter Try.func23, Try.ntmps23
      go_wp2_with (go_at_call 67; refine (readerOf_any s p e o hs s0 p0 e0 o0 HC _).mono ?_; rintro en w1 ⟨b, rfl, hb, hR, hB⟩; have R1 := Lib.hid hR; have X2 := Lib.hid (X1.out.below hB); have B2 := Lib.hid (below_then B1.out hB); have hb2 : w.heap.size + 2 ≤ b := (by simp at hb; omega); clear hb hR hB; obtain ⟨c0, c1, c2, c3⟩ := R1.out.cells)
      go_quiet (fail)
      have R2 := Lib.hid (R1.out.drewN nq)
      have X3 : Hid (Box (w1.drewN nq) _ _ _) := Lib.hid X2.out
      have B3 := Lib.hid (below_drewN B2.out nq)
      go_wp2
      generalize w1.drewN nq = w2 at R2 X3 B3 ⊢
      clear c0 c1 c2 c3
      obtain ⟨c0, c1, c2, c3⟩ := R2.out.cells
      go_still_tail 8, (by kernel_rfl)
      have R4 : Hid (Rb w2.drew _ b s0 e0 o0 p0) := Lib.hid R2.out
      have X4 : Hid (Box w2.drew _ _ _) := Lib.hid X3.out
      have B4 := Lib.hid B3.out.drew
      change wpList _ _ _ _ _ w2.drew
      generalize w2.drew = w3 at R4 X4 B4 ⊢
      clear c0 c1 c2 c3
      go_wp2_with (go_at_call 69; refine (keep_old _ b s0 e0 o0 p0 4 p0 HE _ R4).mono ?_; rintro en w4 ⟨rfl, hB⟩; have R5 := Lib.hid (R4.out.below hB); have X5 := Lib.hid (X4.out.below hB); have B5 := Lib.hid (below_then B4.out hB); clear hB; obtain ⟨c0, c1, c2, c3⟩ := R5.out.cells; obtain ⟨x0, x1⟩ := X5.out.cell2; obtain ⟨f0, f1⟩ := X5.out.free2)
      obtain ⟨d0, d1⟩ := (X5.out.set2 (.int .i64 e0) (.int .i64 o0)).cell2
      refine bodyPost_ret (v := .agg #[.int .i64 e0, .int .i64 o0]) (by simp [results, Try.results23, go_sem, d0, d1]) rfl ?_
      have BE := Below.set2 B5.out (w.heap.size + 1) (by omega) (.int .i64 e0) (.int .i64 o0)
      cases HX.out
      exact ⟨rfl, BE⟩
  · rw [if_neg (by omega)] at hx
    have HX := Lib.hid hx
    clear hx
    have hl2 : (s0.size : Int) ≤ p0 := by omega
    clear hl
    go_enter Try.func23, Try.ntmps23
    go_wp2_with (go_at_call 67; refine (readerOf_any s p e o hs s0 p0 e0 o0 HC _).mono ?_; rintro en w1 ⟨b, rfl, hb, hR, hB⟩; have R1 := Lib.hid hR; have X2 := Lib.hid (X1.out.below hB); have B2 := Lib.hid (below_then B1.out hB); have hb2 : w.heap.size + 2 ≤ b := (by simp at hb; omega); clear hb hR hB; obtain ⟨c0, c1, c2, c3⟩ := R1.out.cells)
    go_quiet (fail)
    have X3 : Hid (Box (w1.drewN nq) _ _ _) := Lib.hid X2.out
    have B3 := Lib.hid (below_drewN B2.out nq)
    obtain ⟨x0, x1⟩ := X3.out.cell2
    obtain ⟨f0, f1⟩ := X3.out.free2
    obtain ⟨k0, k1, k2, k3⟩ := (R1.out.drewN nq).cells
    go_wp2
    obtain ⟨d0, d1⟩ := (X3.out.set2 (.int .i64 e0) (.int .i64 o0)).cell2
    refine bodyPost_ret (v := .agg #[.int .i64 e0, .int .i64 o0]) (by simp [results, Try.results23, go_sem, d0, d1]) rfl ?_
    have BE := Below.set2 B3.out (w.heap.size + 1) (by omega) (.int .i64 e0) (.int .i64 o0)
    cases HX.out
    exact ⟨rfl, BE⟩
set_option maxRecDepth 100000 in
set_option maxHeartbeats 1000000 in
theorem pfail_any (s : ByteArray) (p e o err a : Int) (hs : s.size ≤ 9223372036854775807) (h1 : -9223372036854775808 ≤ err) (h2 : err ≤ 9223372036854775807) (h3 : -9223372036854775808 ≤ a) (h4 : a ≤ 9223372036854775807) (s' : ByteArray) (p' e' o' : Int) (H : Hid (failR s p e o err a = (s', p', e', o'))) (w : World) :
    Calls Try.prog 21 #[.agg #[.string s, .int .i64 p, .int .i64 e, .int .i64 o], .int .i64 err, .int .i64 a] w fun en w' => en = .returned (.agg #[.string s', .int .i64 p', .int .i64 e', .int .i64 o']) ∧ Below w.heap.size w w' := by
  obtain ⟨s0, p0, e0, o0, hc⟩ : ∃ s0 p0 e0 o0, cnt s p e o = (s0, p0, e0, o0) := ⟨_, _, _, _, rfl⟩
  obtain ⟨r1, r2, r3, r4, r5, r6, r7⟩ := cnt_ok hc
  have hx := H.out
  unfold failR at hx
  rw [hc] at hx
  simp only [] at hx
  have HC := Lib.hid hc
  clear H hc
  have X1 := Lib.hid (Box.new2 w (.cells #[.string s, .int .i64 p, .int .i64 e, .int .i64 o] 26) 26 #[.string ⟨#[]⟩, .int .i64 0, .int .i64 0, .int .i64 0])
  have B1 := Lib.hid (((Below.refl w.heap.size w).alloc (by simp) (.cells #[.string s, .int .i64 p, .int .i64 e, .int .i64 o] 26)).alloc (by simp) (.cells #[.string ⟨#[]⟩, .int .i64 0, .int .i64 0, .int .i64 0] 26))
  obtain ⟨er, her⟩ : ∃ er, er = errF err := ⟨_, rfl⟩
  rw [← her] at hx
  have HER := Lib.hid her
  clear her
  obtain ⟨v, hv⟩ : ∃ v, decide (0 ≤ err ∧ err ≤ 31) = v := ⟨_, rfl⟩
  have HV := Lib.hid hv
  clear hv
  have HK : Hid (err = 0 ∧ er = 3 ∨ err ≠ 0 ∧ v = true ∧ er = err ∨ err ≠ 0 ∧ v = false ∧ er = 3) := Lib.hid (by
    by_cases hz : err = 0
    · refine .inl ⟨hz, ?_⟩; rw [HER.out, hz]; rfl
    · have h := errF_of HV.out hz
      rw [← HER.out] at h
      cases v
      · exact .inr (.inr ⟨hz, rfl, h⟩)
      · exact .inr (.inl ⟨hz, rfl, h⟩))
  have hk := HK.out
  clear HK HER
  rcases hk with ⟨rfl, rfl⟩ | ⟨hz, rfl, rfl⟩ | ⟨hz, rfl, rfl⟩
  · go_enter Try.func21, Try.ntmps21
    go_wp2_with (first
      | (go_at_call 67; refine (readerOf_any s p e o hs s0 p0 e0 o0 HC _).mono ?_; rintro en w1 ⟨b, rfl, hb, hR, hB⟩; have R1 := Lib.hid hR; have X2 := Lib.hid (X1.out.below hB); have B2 := Lib.hid (below_then B1.out hB); have hb2 : w.heap.size + 2 ≤ b := (by simp at hb; omega); clear hb hR hB; obtain ⟨c0, c1, c2, c3⟩ := R1.out.cells)
      | (go_at_call 68; refine (known_any _ _ HV _).mono ?_; rintro en w2 ⟨rfl, rfl⟩))
    go_still_tail 14, (by kernel_rfl)
    have R2 : Hid (Rb w1.drew _ b s0 e0 o0 p0) := Lib.hid R1.out
    have X3 : Hid (Box w1.drew _ _ _) := Lib.hid X2.out
    have B3 := Lib.hid B2.out.drew
    change wpList _ _ _ _ _ w1.drew
    generalize w1.drew = w3 at R2 X3 B3 ⊢
    clear c0 c1 c2 c3
    generalize hoff : (if (s0.size : Int) < (if a < 0 then 0 else a) then (s0.size : Int) else if a < 0 then 0 else a) = off
    have HO : Hid (offF s0 a = off) := Lib.hid (by rw [← hoff]; unfold offF; (repeat' split) <;> omega)
    clear hoff
    generalize (if a < 0 then (0 : Int) else a) = mx
    by_cases he : e0 = 0
    · subst he
      rw [if_pos rfl, HO.out] at hx
      have HX := Lib.hid hx
      clear hx
      go_wp2_with (first
        | (go_at_call 69; refine (keep_new _ b s0 o0 p0 _ off _ R2).mono ?_; rintro en w4 ⟨rfl, hR, hB⟩; have R5 := Lib.hid hR; have X5 := Lib.hid (GB.box X3.out hB (by omega)); have B5 := Lib.hid (B3.out.trans (hB.below (by omega) B3.out.size)); clear hR hB)
        | (go_at_call 70; refine (plain_any b s0 3 off p0 _ R5).mono ?_; rintro en w5 ⟨rfl, hB⟩; have X6 := Lib.hid (X5.out.below hB); have B6 := Lib.hid (below_then B5.out hB); clear hB; obtain ⟨x0, x1, x2, x3⟩ := X6.out.c4; obtain ⟨f0, f1, f2, f3⟩ := X6.out.f4))
      obtain ⟨d0, d1, d2, d3⟩ := (X6.out.set4 (.string s0) (.int .i64 p0) (.int .i64 3) (.int .i64 off)).c4
      refine bodyPost_ret (v := .agg #[.string s0, .int .i64 p0, .int .i64 3, .int .i64 off]) (by simp [results, Try.results21, go_sem, d0, d1, d2, d3]) rfl ?_
      have BE := Below.set4 B6.out (w.heap.size + 1) (by omega) (.string s0) (.int .i64 p0) (.int .i64 3) (.int .i64 off)
      cases HX.out
      exact ⟨rfl, BE⟩
    · rw [if_neg he] at hx
      have HE : Hid ((e0 != 0) = true) := Lib.hid (by simpa using he)
      have HX := Lib.hid hx
      clear hx he
      go_wp2_with (first
        | (go_at_call 69; refine (keep_old _ b s0 e0 o0 p0 _ off HE _ R2).mono ?_; rintro en w4 ⟨rfl, hB⟩; have R5 := Lib.hid (R2.out.below hB); have X5 := Lib.hid (X3.out.below hB); have B5 := Lib.hid (below_then B3.out hB); clear hB)
        | (go_at_call 70; refine (plain_any b s0 e0 o0 p0 _ R5).mono ?_; rintro en w5 ⟨rfl, hB⟩; have X6 := Lib.hid (X5.out.below hB); have B6 := Lib.hid (below_then B5.out hB); clear hB; obtain ⟨x0, x1, x2, x3⟩ := X6.out.c4; obtain ⟨f0, f1, f2, f3⟩ := X6.out.f4))
      obtain ⟨d0, d1, d2, d3⟩ := (X6.out.set4 (.string s0) (.int .i64 p0) (.int .i64 e0) (.int .i64 o0)).c4
      refine bodyPost_ret (v := .agg #[.string s0, .int .i64 p0, .int .i64 e0, .int .i64 o0]) (by simp [results, Try.results21, go_sem, d0, d1, d2, d3]) rfl ?_
      have BE := Below.set4 B6.out (w.heap.size + 1) (by omega) (.string s0) (.int .i64 p0) (.int .i64 e0) (.int .i64 o0)
      cases HX.out
      exact ⟨rfl, BE⟩
  · go_enter Try.func21, Try.ntmps21
    go_wp2_with (first
      | (go_at_call 67; refine (readerOf_any s p e o hs s0 p0 e0 o0 HC _).mono ?_; rintro en w1 ⟨b, rfl, hb, hR, hB⟩; have R1 := Lib.hid hR; have X2 := Lib.hid (X1.out.below hB); have B2 := Lib.hid (below_then B1.out hB); have hb2 : w.heap.size + 2 ≤ b := (by simp at hb; omega); clear hb hR hB; obtain ⟨c0, c1, c2, c3⟩ := R1.out.cells)
      | (go_at_call 68; refine (known_any _ _ HV _).mono ?_; rintro en w2 ⟨rfl, rfl⟩))
    go_still_tail 14, (by kernel_rfl)
    have R2 : Hid (Rb w1.drew _ b s0 e0 o0 p0) := Lib.hid R1.out
    have X3 : Hid (Box w1.drew _ _ _) := Lib.hid X2.out
    have B3 := Lib.hid B2.out.drew
    change wpList _ _ _ _ _ w1.drew
    generalize w1.drew = w3 at R2 X3 B3 ⊢
    clear c0 c1 c2 c3
    generalize hoff : (if (s0.size : Int) < (if a < 0 then 0 else a) then (s0.size : Int) else if a < 0 then 0 else a) = off
    have HO : Hid (offF s0 a = off) := Lib.hid (by rw [← hoff]; unfold offF; (repeat' split) <;> omega)
    clear hoff
    generalize (if a < 0 then (0 : Int) else a) = mx
    by_cases he : e0 = 0
    · subst he
      rw [if_pos rfl, HO.out] at hx
      have HX := Lib.hid hx
      clear hx
      go_wp2_with (first
        | (go_at_call 69; refine (keep_new _ b s0 o0 p0 _ off _ R2).mono ?_; rintro en w4 ⟨rfl, hR, hB⟩; have R5 := Lib.hid hR; have X5 := Lib.hid (GB.box X3.out hB (by omega)); have B5 := Lib.hid (B3.out.trans (hB.below (by omega) B3.out.size)); clear hR hB)
        | (go_at_call 70; refine (plain_any b s0 er off p0 _ R5).mono ?_; rintro en w5 ⟨rfl, hB⟩; have X6 := Lib.hid (X5.out.below hB); have B6 := Lib.hid (below_then B5.out hB); clear hB; obtain ⟨x0, x1, x2, x3⟩ := X6.out.c4; obtain ⟨f0, f1, f2, f3⟩ := X6.out.f4))
      obtain ⟨d0, d1, d2, d3⟩ := (X6.out.set4 (.string s0) (.int .i64 p0) (.int .i64 er) (.int .i64 off)).c4
      refine bodyPost_ret (v := .agg #[.string s0, .int .i64 p0, .int .i64 er, .int .i64 off]) (by simp [results, Try.results21, go_sem, d0, d1, d2, d3]) rfl ?_
      have BE := Below.set4 B6.out (w.heap.size + 1) (by omega) (.string s0) (.int .i64 p0) (.int .i64 er) (.int .i64 off)
      cases HX.out
      exact ⟨rfl, BE⟩
    · rw [if_neg he] at hx
      have HE : Hid ((e0 != 0) = true) := Lib.hid (by simpa using he)
      have HX := Lib.hid hx
      clear hx he
      go_wp2_with (first
        | (go_at_call 69; refine (keep_old _ b s0 e0 o0 p0 _ off HE _ R2).mono ?_; rintro en w4 ⟨rfl, hB⟩; have R5 := Lib.hid (R2.out.below hB); have X5 := Lib.hid (X3.out.below hB); have B5 := Lib.hid (below_then B3.out hB); clear hB)
        | (go_at_call 70; refine (plain_any b s0 e0 o0 p0 _ R5).mono ?_; rintro en w5 ⟨rfl, hB⟩; have X6 := Lib.hid (X5.out.below hB); have B6 := Lib.hid (below_then B5.out hB); clear hB; obtain ⟨x0, x1, x2, x3⟩ := X6.out.c4; obtain ⟨f0, f1, f2, f3⟩ := X6.out.f4))
      obtain ⟨d0, d1, d2, d3⟩ := (X6.out.set4 (.string s0) (.int .i64 p0) (.int .i64 e0) (.int .i64 o0)).c4
      refine bodyPost_ret (v := .agg #[.string s0, .int .i64 p0, .int .i64 e0, .int .i64 o0]) (by simp [results, Try.results21, go_sem, d0, d1, d2, d3]) rfl ?_
      have BE := Below.set4 B6.out (w.heap.size + 1) (by omega) (.string s0) (.int .i64 p0) (.int .i64 e0) (.int .i64 o0)
      cases HX.out
      exact ⟨rfl, BE⟩
  · go_enter Try.func21, Try.ntmps21
    go_wp2_with (first
      | (go_at_call 67; refine (readerOf_any s p e o hs s0 p0 e0 o0 HC _).mono ?_; rintro en w1 ⟨b, rfl, hb, hR, hB⟩; have R1 := Lib.hid hR; have X2 := Lib.hid (X1.out.below hB); have B2 := Lib.hid (below_then B1.out hB); have hb2 : w.heap.size + 2 ≤ b := (by simp at hb; omega); clear hb hR hB; obtain ⟨c0, c1, c2, c3⟩ := R1.out.cells)
      | (go_at_call 68; refine (known_any _ _ HV _).mono ?_; rintro en w2 ⟨rfl, rfl⟩))
    go_still_tail 14, (by kernel_rfl)
    have R2 : Hid (Rb w1.drew _ b s0 e0 o0 p0) := Lib.hid R1.out
    have X3 : Hid (Box w1.drew _ _ _) := Lib.hid X2.out
    have B3 := Lib.hid B2.out.drew
    change wpList _ _ _ _ _ w1.drew
    generalize w1.drew = w3 at R2 X3 B3 ⊢
    clear c0 c1 c2 c3
    generalize hoff : (if (s0.size : Int) < (if a < 0 then 0 else a) then (s0.size : Int) else if a < 0 then 0 else a) = off
    have HO : Hid (offF s0 a = off) := Lib.hid (by rw [← hoff]; unfold offF; (repeat' split) <;> omega)
    clear hoff
    generalize (if a < 0 then (0 : Int) else a) = mx
    by_cases he : e0 = 0
    · subst he
      rw [if_pos rfl, HO.out] at hx
      have HX := Lib.hid hx
      clear hx
      go_wp2_with (first
        | (go_at_call 69; refine (keep_new _ b s0 o0 p0 _ off _ R2).mono ?_; rintro en w4 ⟨rfl, hR, hB⟩; have R5 := Lib.hid hR; have X5 := Lib.hid (GB.box X3.out hB (by omega)); have B5 := Lib.hid (B3.out.trans (hB.below (by omega) B3.out.size)); clear hR hB)
        | (go_at_call 70; refine (plain_any b s0 3 off p0 _ R5).mono ?_; rintro en w5 ⟨rfl, hB⟩; have X6 := Lib.hid (X5.out.below hB); have B6 := Lib.hid (below_then B5.out hB); clear hB; obtain ⟨x0, x1, x2, x3⟩ := X6.out.c4; obtain ⟨f0, f1, f2, f3⟩ := X6.out.f4))
      obtain ⟨d0, d1, d2, d3⟩ := (X6.out.set4 (.string s0) (.int .i64 p0) (.int .i64 3) (.int .i64 off)).c4
      refine bodyPost_ret (v := .agg #[.string s0, .int .i64 p0, .int .i64 3, .int .i64 off]) (by simp [results, Try.results21, go_sem, d0, d1, d2, d3]) rfl ?_
      have BE := Below.set4 B6.out (w.heap.size + 1) (by omega) (.string s0) (.int .i64 p0) (.int .i64 3) (.int .i64 off)
      cases HX.out
      exact ⟨rfl, BE⟩
    · rw [if_neg he] at hx
      have HE : Hid ((e0 != 0) = true) := Lib.hid (by simpa using he)
      have HX := Lib.hid hx
      clear hx he
      go_wp2_with (first
        | (go_at_call 69; refine (keep_old _ b s0 e0 o0 p0 _ off HE _ R2).mono ?_; rintro en w4 ⟨rfl, hB⟩; have R5 := Lib.hid (R2.out.below hB); have X5 := Lib.hid (X3.out.below hB); have B5 := Lib.hid (below_then B3.out hB); clear hB)
        | (go_at_call 70; refine (plain_any b s0 e0 o0 p0 _ R5).mono ?_; rintro en w5 ⟨rfl, hB⟩; have X6 := Lib.hid (X5.out.below hB); have B6 := Lib.hid (below_then B5.out hB); clear hB; obtain ⟨x0, x1, x2, x3⟩ := X6.out.c4; obtain ⟨f0, f1, f2, f3⟩ := X6.out.f4))
      obtain ⟨d0, d1, d2, d3⟩ := (X6.out.set4 (.string s0) (.int .i64 p0) (.int .i64 e0) (.int .i64 o0)).c4
      refine bodyPost_ret (v := .agg #[.string s0, .int .i64 p0, .int .i64 e0, .int .i64 o0]) (by simp [results, Try.results21, go_sem, d0, d1, d2, d3]) rfl ?_
      have BE := Below.set4 B6.out (w.heap.size + 1) (by omega) (.string s0) (.int .i64 p0) (.int .i64 e0) (.int .i64 o0)
      cases HX.out
      exact ⟨rfl, BE⟩
end Go.Proofs.Ytkepnjnindolbaa.s05
