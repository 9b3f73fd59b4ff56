/-
  Layer 5: the program's valid, spoiled, plain, keep.
-/
import Derived.Test.YtkepnjnindolbaaS05A
namespace Go.Proofs.Ytkepnjnindolbaa.s05
set_option linter.unusedVariables false
set_option linter.unusedSimpArgs false
open Go.RowKit
open kit

theorem quiet_eq {P : Program} {f : FuncId} {args : Array Value} {w : World} {n : Nat} {v : Value}
    (h : Calls P f args (w.drewN n) fun e w' => e = .returned v ∧ w.drewN n = w') : Calls P f args (w.drewN n) fun e w'' => e = .returned v ∧ ∃ m, w'' = w.drewN m :=
  h.mono fun _ _ ⟨he, hm⟩ => ⟨he, n, hm.symm⟩
theorem Rb.drewN {w : World} {t : TypeId} {b : Nat} {s : ByteArray} {e o x : Int} (h : Rb w t b s e o x) (n : Nat) : Rb (w.drewN n) t b s e o x := h
def validR (s : ByteArray) (p e o : Int) : Bool := decide ((s.size : Int) ≤ 20000 ∧ 0 ≤ e ∧ e ≤ 31)
set_option maxRecDepth 100000 in
set_option maxHeartbeats 1000000 in
theorem valid_any (b : Nat) (s : ByteArray) (e o p : Int) (v : Bool) (hs : s.size ≤ 9223372036854775807) (H : Hid (vld s p e o = v)) (w : World) (R : Hid (Rb w 92 b s e o p)) :
    Calls Try.prog 91 #[.pointer (some ⟨b, 0, none⟩)] w fun en w' => en = .returned (.bool v) ∧ Below w.heap.size w w' := by
  obtain ⟨c0, c1, c2, c3⟩ := R.out.cells
  obtain ⟨l, hl⟩ : ∃ l : Int, l = if e = 0 then 0 else (s.size : Int) := ⟨_, rfl⟩
  have hv : vld s p e o = (decide ((s.size : Int) ≤ 20000 ∧ 0 ≤ e ∧ e ≤ 31) && decide (0 ≤ p ∧ p ≤ (s.size : Int)) && decide (0 ≤ o ∧ o ≤ l)) := by
    unfold vld
    rw [Bool.eq_iff_iff, hl]
    simp
    split <;> omega
  have HV := Lib.hid (hv.symm.trans H.out)
  clear hv H
  have HL := Lib.hid hl
  clear hl
  have HC : ∃ q : Bool, Hid ((e != 0) = q) ∧ (q = false ∧ l = 0 ∨ q = true ∧ l = (s.size : Int)) := by
    by_cases he : e = 0
    · exact ⟨false, Lib.hid (by simpa using he), .inl ⟨rfl, by rw [HL.out, if_pos he]⟩⟩
    · exact ⟨true, Lib.hid (by simpa using he), .inr ⟨rfl, by rw [HL.out, if_neg he]⟩⟩
  clear HL
  obtain ⟨q, HE, ⟨rfl, rfl⟩ | ⟨rfl, rfl⟩⟩ := HC
  all_goals
    cases hf : decide ((s.size : Int) ≤ 20000 ∧ 0 ≤ e ∧ e ≤ 31)
    · have HF := Lib.hid hf
      have HR : Hid (v = false) := Lib.hid (by rw [← HV.out, hf]; rfl)
      clear hf HV
      go_enter Try.func91, Try.ntmps91
      go_wp2_with (go_at_call 72; refine (failed_any _ b s e o p _ HE _ R).mono ?_; rintro en w1 ⟨rfl, rfl⟩)
      go_quiet ((go_at_call 98; exact quiet_eq (fits_any _ b s e o p 20000 _ hs HF _ (Lib.hid (R.out.drewN _)))))
      go_wp2
      go_ret
      exact ⟨ret_bool HR.out.symm, below_drewN (Below.refl _ _) _⟩
    · have HF := Lib.hid hf
      cases hg : decide (0 ≤ p ∧ p ≤ (s.size : Int))
      · have HG := Lib.hid hg
        have HR : Hid (v = false) := Lib.hid (by rw [← HV.out, hf, hg]; rfl)
        clear hf hg HV
        go_enter Try.func91, Try.ntmps91
        go_wp2_with (go_at_call 72; refine (failed_any _ b s e o p _ HE _ R).mono ?_; rintro en w1 ⟨rfl, rfl⟩)
        go_quiet (first
          | (go_at_call 98; exact quiet_eq (fits_any _ b s e o p 20000 _ hs HF _ (Lib.hid (R.out.drewN _))))
          | (go_at_call 99; exact quiet_eq (within_any _ _ _ HG _)))
        go_wp2
        go_ret
        exact ⟨ret_bool HR.out.symm, below_drewN (Below.refl _ _) _⟩
      · have HG := Lib.hid hg
        have HR := Lib.hid (HV.out.symm.trans (by rw [hf, hg, Bool.true_and, Bool.true_and] : _ = decide (0 ≤ o ∧ o ≤ _)))
        clear hf hg HV
        go_enter Try.func91, Try.ntmps91
        go_wp2_with (go_at_call 72; refine (failed_any _ b s e o p _ HE _ R).mono ?_; rintro en w1 ⟨rfl, rfl⟩)
        go_quiet (first
          | (go_at_call 98; exact quiet_eq (fits_any _ b s e o p 20000 _ hs HF _ (Lib.hid (R.out.drewN _))))
          | (go_at_call 99; with_reducible exact quiet_eq (within_any p _ _ HG _))
          | (go_at_call 99; with_reducible exact quiet_eq (within_any o _ _ (Lib.hid HR.out.symm) _)))
        go_wp2
        go_ret
        exact ⟨rfl, below_drewN (Below.refl _ _) _⟩
theorem spoiled_any (w : World) : Calls Try.prog 92 #[] w fun en w' => en = .returned (.agg #[.string ⟨#[]⟩, .int .i64 10, .int .i64 0]) ∧ Below w.heap.size w w' := by
  go_enter Try.func92, Try.ntmps92
  go_wp2
  exact bodyPost_ret (v := .agg #[.string ⟨#[]⟩, .int .i64 10, .int .i64 0]) (by simp [results, Try.results92, go_sem]) rfl ⟨rfl, (Below.refl _ _).alloc (Nat.le_refl _) _⟩
set_option maxRecDepth 100000 in
theorem plain_any (b : Nat) (s : ByteArray) (e o p : Int) (w : World) (R : Hid (Rb w 92 b s e o p)) :
    Calls Try.prog 70 #[.pointer (some ⟨b, 0, none⟩)] w fun en w' => en = .returned (.agg #[.string s, .int .i64 p, .int .i64 e, .int .i64 o]) ∧ Below w.heap.size w w' := by
  have R1 := R.out.below ((Below.refl _ w).alloc (Nat.le_refl _) (.cells #[.string ⟨#[]⟩, .int .i64 0, .int .i64 0, .int .i64 0] 26))
  obtain ⟨c0, c1, c2, c3⟩ := R1.cells
  go_enter Try.func70, Try.ntmps70
  go_wp2
  go_region
  go_wp2
  exact bodyPost_ret (v := .agg #[.string s, .int .i64 p, .int .i64 e, .int .i64 o]) (by simp [results, Try.results70, go_sem]) rfl ⟨rfl, ((Below.refl _ _).alloc (Nat.le_refl _) _).drew⟩
theorem Rb.keep {w : World} {t : TypeId} {b : Nat} {s : ByteArray} {e o x : Int} (h : Rb w t b s e o x) (e' o' : Int) : Rb ((w.setCell ⟨b, 1, none⟩ (.int .i64 e')).setCell ⟨b, 2, none⟩ (.int .i64 o')) t b s e' o' x :=
  (Box.set (Box.set h 1 (by simp) (.int .i64 e')) 2 (by simp) (.int .i64 o') :)
/-- keep: where there was no fault -/
theorem keep_new (t : TypeId) (b : Nat) (s : ByteArray) (o x e' o' : Int) (w : World) (R : Hid (Rb w t b s 0 o x)) :
    Calls Try.prog 69 #[.pointer (some ⟨b, 0, none⟩), .agg #[.int .i64 e', .int .i64 o']] w fun en w' => en = .returned (.tuple #[]) ∧ (Rb w' t b s e' o' x ∧ GB b w w') := by
  have R1 := Lib.hid (R.out.below ((Below.refl _ w).alloc (Nat.le_refl _) (.cells #[.int .i64 e', .int .i64 o'] 24)))
  have hlt := R.out.lt
  obtain ⟨c0, c1, c2, c3⟩ := R1.out.cells
  obtain ⟨f0, f1, f2, f3⟩ := R1.out.frees
  obtain ⟨d0, d1, d2, d3⟩ := R.out.cells
  obtain ⟨g0, g1, g2, g3⟩ := R.out.frees
  go_enter Try.func69, Try.ntmps69
  go_wp2_with (go_at_call 72; refine (failed_any _ b s 0 o x false (Lib.hid rfl) _ R1).mono ?_; rintro en w1 ⟨rfl, rfl⟩)
  go_end0
  exact ⟨rfl, Box.alloc (R.out.keep e' o') _, (((GB.refl b w).set 1 _).set 2 _).alloc _⟩
/-- keep: where there was one -/
theorem keep_old (t : TypeId) (b : Nat) (s : ByteArray) (e o x e' o' : Int) (he : Hid ((e != 0) = true)) (w : World) (R : Hid (Rb w t b s e o x)) :
    Calls Try.prog 69 #[.pointer (some ⟨b, 0, none⟩), .agg #[.int .i64 e', .int .i64 o']] w fun en w' => en = .returned (.tuple #[]) ∧ Below w.heap.size w w' := by
  have R1 := Lib.hid (R.out.below ((Below.refl _ w).alloc (Nat.le_refl _) (.cells #[.int .i64 e', .int .i64 o'] 24)))
  go_enter Try.func69, Try.ntmps69
  go_wp2_with (go_at_call 72; refine (failed_any _ b s e o x true he _ R1).mono ?_; rintro en w1 ⟨rfl, rfl⟩)
  go_end0
  exact ⟨rfl, (Below.refl _ _).alloc (Nat.le_refl _) _⟩
end Go.Proofs.Ytkepnjnindolbaa.s05
