/-
  Layer 5, the program's side: writers: valid, writerOf, plain, Make, Done.
-/
import Derived.Test.YtkepnjnindolbaaS05C
namespace Go.Proofs.Ytkepnjnindolbaa.s05
set_option linter.unusedVariables false
set_option linter.unusedSimpArgs false
open Go.RowKit
open kit

theorem cntw_ok {s : ByteArray} {m e : Int} {s' : ByteArray} {m' e' : Int} (h : cntw s m e = (s', m', e')) : 0 ≤ m' ∧ m' ≤ 20000 ∧ s'.size ≤ m' ∧ 0 ≤ e' ∧ e' ≤ 31 := by
  unfold cntw at h
  split at h
  · rename_i hv
    cases h
    unfold vldw at hv
    have := of_decide_eq_true hv
    omega
  · cases h
    exact ⟨by omega, by omega, by decide, by omega, by omega⟩
set_option maxRecDepth 100000 in
set_option maxHeartbeats 1000000 in
theorem validw_any (b : Nat) (s : ByteArray) (e m : Int) (v : Bool) (hs : s.size ≤ 9223372036854775807) (H : Hid (vldw s m e = v)) (w : World) (R : Hid (Rb w 97 b s e 0 m)) :
    Calls Try.prog 93 #[.pointer (some ⟨b, 0, none⟩)] w fun en w' => en = .returned (.bool v) ∧ Below w.heap.size w w' := by
  obtain ⟨c0, c1, c2, c3⟩ := R.out.cells
  have hv : vldw s m e = (decide (0 ≤ m ∧ m ≤ 20000) && decide ((s.size : Int) ≤ m ∧ 0 ≤ e ∧ e ≤ 31)) := by
    unfold vldw
    rw [Bool.eq_iff_iff]
    simp
    omega
  have HV := Lib.hid (hv.symm.trans H.out)
  clear hv H
  cases hg : decide (0 ≤ m ∧ m ≤ 20000)
  · have HG := Lib.hid hg
    have HR : Hid (v = false) := Lib.hid (by rw [← HV.out, hg]; rfl)
    clear hg HV
    go_enter Try.func93, Try.ntmps93
    go_wp2
    go_quiet ((go_at_call 99; exact quiet_eq (within_any _ _ _ HG _)))
    go_wp2
    go_ret
    exact ⟨ret_bool HR.out.symm, below_drewN (Below.refl _ _) _⟩
  · have HG := Lib.hid hg
    have HR := Lib.hid (HV.out.symm.trans (by rw [hg, Bool.true_and] : _ = decide ((s.size : Int) ≤ m ∧ 0 ≤ e ∧ e ≤ 31)))
    clear hg HV
    go_enter Try.func93, Try.ntmps93
    go_wp2
    go_quiet (first
      | (go_at_call 99; exact quiet_eq (within_any _ _ _ HG _))
      | (go_at_call 98; exact quiet_eq (fits_any _ b s e 0 m m _ hs (Lib.hid HR.out.symm) _ (Lib.hid (R.out.drewN _)))))
    go_wp2
    go_ret
    exact ⟨rfl, below_drewN (Below.refl _ _) _⟩
set_option maxRecDepth 100000 in
theorem plainw_any (b : Nat) (s : ByteArray) (e o m : Int) (w : World) (R : Hid (Rb w 97 b s e o m)) :
    Calls Try.prog 74 #[.pointer (some ⟨b, 0, none⟩)] w fun en w' => en = .returned (.agg #[.string s, .int .i64 m, .int .i64 e]) ∧ Below w.heap.size w w' := by
  have R1 := R.out.below ((Below.refl _ w).alloc (Nat.le_refl _) (.cells #[.string ⟨#[]⟩, .int .i64 0, .int .i64 0] 45))
  obtain ⟨c0, c1, c2, c3⟩ := R1.cells
  go_enter Try.func74, Try.ntmps74
  go_wp2
  go_region
  go_wp2
  exact bodyPost_ret (v := .agg #[.string s, .int .i64 m, .int .i64 e]) (by simp [results, Try.results74, go_sem]) rfl ⟨rfl, ((Below.refl _ _).alloc (Nat.le_refl _) _).drew⟩
set_option maxRecDepth 100000 in
theorem writerOf_any (s : ByteArray) (m e : Int) (hs : s.size ≤ 9223372036854775807) (s' : ByteArray) (m' e' : Int) (H : Hid (cntw s m e = (s', m', e'))) (w : World) :
    Calls Try.prog 71 #[.agg #[.string s, .int .i64 m, .int .i64 e]] w (NewRb w 97 s' e' 0 m') := by
  have B1 := (Below.refl w.heap.size w).alloc (Nat.le_refl _) (.cells #[.string s, .int .i64 m, .int .i64 e] 45)
  have B2 := Lib.hid (B1.alloc (B1.size) (.cells #[.string s, .int .i64 e, .int .i64 0, .int .i64 m] 97))
  have R2 : Hid (Rb ((w.alloc (.cells #[.string s, .int .i64 m, .int .i64 e] 45)).alloc (.cells #[.string s, .int .i64 e, .int .i64 0, .int .i64 m] 97)) 97 (w.heap.size + 1) s e 0 m) := Lib.hid (by
    have h := Box.new (w.alloc (.cells #[.string s, .int .i64 m, .int .i64 e] 45)) 97 #[.string s, .int .i64 e, .int .i64 0, .int .i64 m]
    unfold Rb
    simpa using h)
  cases hv : vldw s m e
  · have HV := Lib.hid hv
    have HX : Hid (((⟨#[]⟩ : ByteArray), (0 : Int), (10 : Int)) = (s', m', e')) := Lib.hid (by rw [← H.out]; unfold cntw; rw [hv]; rfl)
    clear hv
    go_enter Try.func71, Try.ntmps71
    go_wp2_with (first
      | (go_at_call 93; refine (validw_any _ s e m _ hs HV _ R2).mono ?_; rintro en w1 ⟨rfl, hB1⟩; have B3 := Lib.hid (B2.out.trans (hB1.mono (by simp; omega))); clear hB1)
      | (go_at_call 92; refine (spoiled_any _).mono ?_; rintro en w1 ⟨rfl, hB1⟩; have B4 := Lib.hid (B3.out.trans (hB1.mono B3.out.size)); clear hB1))
    go_ret
    cases HX.out
    exact ⟨_, rfl, B4.out.size, Box.new _ _ _, B4.out.alloc B4.out.size _⟩
  · have HV := Lib.hid hv
    have HX : Hid ((s, m, e) = (s', m', e')) := Lib.hid (by rw [← H.out]; unfold cntw; rw [hv]; rfl)
    clear hv
    go_enter Try.func71, Try.ntmps71
    go_wp2_with (first
      | (go_at_call 93; refine (validw_any _ s e m _ hs HV _ R2).mono ?_; rintro en w1 ⟨rfl, hB1⟩; have B3 := Lib.hid (B2.out.trans (hB1.mono (by simp; omega))); have R3 := Lib.hid (R2.out.below hB1); clear hB1))
    go_ret
    cases HX.out
    exact ⟨_, rfl, by omega, R3.out, B3.out⟩
theorem Box.c3 {w : World} {t : TypeId} {b : Nat} {x y z : Value} (h : Box w t b #[x, y, z]) : w.cell? ⟨b, 0, none⟩ = some x ∧ w.cell? ⟨b, 1, none⟩ = some y ∧ w.cell? ⟨b, 2, none⟩ = some z := h.cell3
theorem Box.f3 {w : World} {t : TypeId} {b : Nat} {x y z : Value} (h : Box w t b #[x, y, z]) : w.frozen? ⟨b, 0, none⟩ = false ∧ w.frozen? ⟨b, 1, none⟩ = false ∧ w.frozen? ⟨b, 2, none⟩ = false := h.free3
set_option maxRecDepth 100000 in
theorem pmake_any (m : Int) (s' : ByteArray) (m' e' : Int) (H : Hid (cntw ⟨#[]⟩ m 0 = (s', m', e'))) (w : World) :
    Calls Try.prog 32 #[.int .i64 m] w fun en w' => en = .returned (.agg #[.string s', .int .i64 m', .int .i64 e']) ∧ Below w.heap.size w w' := by
  have X1 := Lib.hid (Box.new w 45 #[.string ⟨#[]⟩, .int .i64 0, .int .i64 0])
  have B1 := Lib.hid ((Below.refl w.heap.size w).alloc (Nat.le_refl _) (.cells #[.string ⟨#[]⟩, .int .i64 0, .int .i64 0] 45))
  go_enter Try.func32, Try.ntmps32
  go_wp2_with (first
    | (go_at_call 71; refine (writerOf_any ⟨#[]⟩ m 0 (by decide) s' m' e' H _).mono ?_; rintro en w1 ⟨b, rfl, hb, hR, hB⟩; have R1 := Lib.hid hR; have X2 := Lib.hid (X1.out.below hB); have B2 := Lib.hid (below_then B1.out hB); clear hb hR hB)
    | (go_at_call 74; refine (plainw_any b s' e' 0 m' _ R1).mono ?_; rintro en w2 ⟨rfl, hB⟩; have X3 := Lib.hid (X2.out.below hB); have B3 := Lib.hid (below_then B2.out hB); clear hB; obtain ⟨c0, c1, c2⟩ := X3.out.c3; obtain ⟨f0, f1, f2⟩ := X3.out.f3))
  obtain ⟨d0, d1, d2⟩ := (X3.out.set3 (.string s') (.int .i64 m') (.int .i64 e')).c3
  exact bodyPost_ret (v := .agg #[.string s', .int .i64 m', .int .i64 e']) (by simp [results, Try.results32, go_sem, d0, d1, d2]) rfl ⟨rfl, Below.set3 B3.out _ (Nat.le_refl _) _ _ _⟩
def doneW (s : ByteArray) (m e : Int) : ByteArray × Int := if (cntw s m e).2.2 = 0 then ((cntw s m e).1, 0) else (⟨#[]⟩, (cntw s m e).2.2)
set_option maxRecDepth 100000 in
theorem pdone_any (s : ByteArray) (m e : Int) (hs : s.size ≤ 9223372036854775807) (t : ByteArray) (er : Int) (H : Hid (doneW s m e = (t, er))) (w : World) :
    Calls Try.prog 30 #[.agg #[.string s, .int .i64 m, .int .i64 e]] w fun en w' => en = .returned (.tuple #[.string t, .int .i64 er]) ∧ Below w.heap.size w w' := by
  obtain ⟨s0, m0, e0, hc⟩ : ∃ s0 m0 e0, cntw s m e = (s0, m0, e0) := ⟨_, _, _, rfl⟩
  have hx := H.out
  unfold doneW at hx
  rw [hc] at hx
  simp only [] at hx
  have HC := Lib.hid hc
  clear H hc
  have B1 := Lib.hid ((Below.refl w.heap.size w).alloc (by simp) (.cells #[.string s, .int .i64 m, .int .i64 e] 45))
  by_cases he : e0 = 0
  · subst he
    rw [if_pos rfl] at hx
    have HX := Lib.hid hx
    clear hx
    go_enter Try.func30, Try.ntmps30
    go_wp2_with (first
      | (go_at_call 71; refine (writerOf_any s m e hs s0 m0 0 HC _).mono ?_; rintro en w1 ⟨b, rfl, hb, hR, hB⟩; have R1 := Lib.hid hR; have B2 := Lib.hid (below_then B1.out hB); clear hb hR hB; obtain ⟨c0, c1, c2, c3⟩ := R1.out.cells)
      | (go_at_call 72; refine (failed_any _ b s0 0 0 m0 false (Lib.hid rfl) _ R1).mono ?_; rintro en w2 ⟨rfl, rfl⟩))
    go_ret2
    exact ⟨ret_se HX.out, B2.out⟩
  · rw [if_neg he] at hx
    have HE : Hid ((e0 != 0) = true) := Lib.hid (by simpa using he)
    have HX := Lib.hid hx
    clear hx he
    go_enter Try.func30, Try.ntmps30
    go_wp2_with (first
      | (go_at_call 71; refine (writerOf_any s m e hs s0 m0 e0 HC _).mono ?_; rintro en w1 ⟨b, rfl, hb, hR, hB⟩; have R1 := Lib.hid hR; have B2 := Lib.hid (below_then B1.out hB); clear hb hR hB; obtain ⟨c0, c1, c2, c3⟩ := R1.out.cells)
      | (go_at_call 72; refine (failed_any _ b s0 e0 0 m0 true HE _ R1).mono ?_; rintro en w2 ⟨rfl, rfl⟩))
    go_quiet (fail)
    go_wp2
    go_ret2
    exact ⟨ret_se HX.out, below_drewN B2.out _⟩
end Go.Proofs.Ytkepnjnindolbaa.s05
