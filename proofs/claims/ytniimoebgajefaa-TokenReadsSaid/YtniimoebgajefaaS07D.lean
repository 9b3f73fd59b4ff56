/-
  Layer 7: the reference's Read.
-/
import Derived.Test.YtniimoebgajefaaS07DB
namespace Go.Proofs.Ytniimoebgajefaa.s07
set_option linter.unusedVariables false
set_option linter.unusedSimpArgs false
open Go.RowKit
open kit

set_option maxRecDepth 100000 in
set_option maxHeartbeats 2000000 in
theorem rread_any (s : ByteArray) (t a : Int) (w : World) (hs : s.size ≤ 9223372036854775806) (y : Int) (x : ByteArray) (p n er at' : Int) (H : Hid (readR s t a = ((y, x, p), n, er, at'))) :
    Calls Try.prog 26 #[.string s, .int .i64 t, .int .i64 a] w fun e w' => e = .returned (ReadV y x p n er at') ∧ Below w.heap.size w w' := by
  have hc := H.out
  unfold readR at hc
  clear H
  by_cases hta : (t < 1 ∨ 8 < t) ∨ (a < 0 ∨ 1099511627776 < a)
  · rw [if_pos hta] at hc
    have HC := Lib.hid hc
    clear hc
    by_cases ht : t < 1 ∨ 8 < t
    · clear hta
      go_enter Try.func26, Try.ntmps26
      go_wp2_with (go_at_call 42; refine (terminals_no t _ ht).mono ?_; rintro e w1 ⟨rfl, rfl⟩)
      exact bodyPost_ret (rread_results _ _ w.heap.size (w.heap.size + 1) rfl rfl rfl (two_new w _ _).1 (two_new w _ _).2.1) rfl ⟨ret_rd HC.out, (two_new w _ _).2.2⟩
    · have h1 : 1 ≤ t := by omega
      have h2 : t ≤ 8 := by omega
      by_cases ha : a < 0
      · clear hta ht
        go_enter Try.func26, Try.ntmps26
        go_wp2_with (go_at_call 42; refine (terminals_yes t _ h1 h2).mono ?_; rintro e w1 ⟨rfl, rfl⟩)
        exact bodyPost_ret (rread_results _ _ w.heap.size (w.heap.size + 1) rfl rfl rfl (two_new w _ _).1 (two_new w _ _).2.1) rfl ⟨ret_rd HC.out, (two_new w _ _).2.2⟩
      · have ha2 : 1099511627776 < a := by omega
        clear hta ht
        go_enter Try.func26, Try.ntmps26
        go_wp2_with (go_at_call 42; refine (terminals_yes t _ h1 h2).mono ?_; rintro e w1 ⟨rfl, rfl⟩)
        exact bodyPost_ret (rread_results _ _ w.heap.size (w.heap.size + 1) rfl rfl rfl (two_new w _ _).1 (two_new w _ _).2.1) rfl ⟨ret_rd HC.out, (two_new w _ _).2.2⟩
  · rw [if_neg hta] at hc
    have h1 : 1 ≤ t := by omega
    have h2 : t ≤ 8 := by omega
    have ha1 : ¬ a < 0 := by omega
    have ha2 : ¬ 1099511627776 < a := by omega
    clear hta
    obtain ⟨k, hk⟩ : ∃ k, badR s t = k := ⟨_, rfl⟩
    rw [hk] at hc
    have HK := Lib.hid hk
    clear hk
    by_cases h0 : k = 0
    · rw [if_pos h0] at hc
      subst h0
      cases hw : wholeR s
      · have HW := Lib.hid hw
        have HC : Hid ((noLi, 0, 5, a) = ((y, x, p), n, er, at')) := Lib.hid (by rw [← hc, hw]; rfl)
        clear hc hw
        go_enter Try.func26, Try.ntmps26
        go_wp2_with (first
          | (go_at_call 42; refine (terminals_yes t _ h1 h2).mono ?_; rintro e w1 ⟨rfl, rfl⟩)
          | (go_at_call 43; refine (bad_any s t _ hs).mono ?_; rintro e w1 ⟨rfl, rfl⟩; rw [HK.out])
          | (go_at_call 44; refine (whole_any s _ hs false HW).mono ?_; rintro e w1 ⟨rfl, rfl⟩))
        exact bodyPost_ret (rread_results _ _ w.heap.size (w.heap.size + 1) rfl rfl rfl (two_new w _ _).1 (two_new w _ _).2.1) rfl ⟨ret_rd HC.out, (two_new w _ _).2.2⟩
      · have HW := Lib.hid hw
        have hw2 : 2 ≤ s.size ∧ 2 + atB s 1 ≤ s.size := by unfold wholeR at hw; exact of_decide_eq_true hw
        obtain ⟨g1, g2⟩ := hw2
        have g0 : 0 < s.size := by omega
        have g3 : 1 < s.size := by omega
        have HC : Hid ((((s[0].toNat : Int), s.extract 2 (2 + s[1].toNat), a), 2 + (s[1].toNat : Int), 0, 0) = ((y, x, p), n, er, at')) := Lib.hid (by rw [← hc, hw, at_in g0, at_in g3]; rfl)
        rw [at_in g3] at g2
        exact (rread_ok s t a w hs h1 h2 ha1 ha2 HK HW g1 g0 g3 g2).mono fun en w' ⟨he, hB⟩ => ⟨he.trans (ret_rd HC.out), hB⟩
    · rw [if_neg h0] at hc
      have HC := Lib.hid hc
      have t0 : (k != 0) = true := by rw [bne_iff_ne]; exact h0
      clear hc h0
      go_enter Try.func26, Try.ntmps26
      go_wp2_with (first
        | (go_at_call 42; refine (terminals_yes t _ h1 h2).mono ?_; rintro e w1 ⟨rfl, rfl⟩)
        | (go_at_call 43; refine (bad_any s t _ hs).mono ?_; rintro e w1 ⟨rfl, rfl⟩; rw [HK.out]))
      exact bodyPost_ret (rread_results _ _ w.heap.size (w.heap.size + 1) rfl rfl rfl (two_new w _ _).1 (two_new w _ _).2.1) rfl ⟨ret_rd HC.out, (two_new w _ _).2.2⟩
end Go.Proofs.Ytniimoebgajefaa.s07
