/-
  Layer 4, the program's side: Is and Check.
-/
import Derived.Test.YtjhmlmimgahnmaaDoorS04PR
namespace Go.Proofs.YtjhmlmimgahnmaaDoor.s04
set_option linter.unusedVariables false
set_option linter.unusedSimpArgs false
open Go.RowKit
open kit

def isB (kd kd' : Int) (tx tx' : ByteArray) : Bool := decide (kd = kd' ∧ tx = tx')
theorem is_any (kd kd' at' : Int) (tx tx' : ByteArray) (w : World) (b : Bool) (H : Hid (isB kd kd' tx tx' = b)) :
    Calls Tryd.prog 11 #[.agg #[.int .i64 kd, .string tx, .int .i64 at'], .int .i64 kd', .string tx'] w fun e w' => e = .returned (.bool b) ∧ Below w.heap.size w w' := by
  have HB := Lib.hid ((Below.refl w.heap.size w).alloc (Nat.le_refl _) (.cells #[.int .i64 kd, .string tx, .int .i64 at'] 23))
  by_cases hk : kd = kd'
  · have t1 : (kd == kd') = true := by rw [beq_iff_eq]; exact hk
    by_cases ht : tx = tx'
    · have t2 := str_beq_true ht
      have HX : Hid (b = true) := Lib.hid (by rw [← H.out]; unfold isB; rw [decide_eq_true ⟨hk, ht⟩])
      have t3 : tx.toList = tx'.toList := by rw [ht]
      clear hk ht
      go_enter Tryd.func11, Tryd.ntmps11
      go_wp2
      go_ret
      exact ⟨ret_bool HX.out.symm, HB.out⟩
    · have t2 := str_beq_false ht
      have HX : Hid (b = false) := Lib.hid (by rw [← H.out]; unfold isB; rw [decide_eq_false fun e => ht e.2])
      have t3 : ¬ tx.toList = tx'.toList := by rw [beq_eq_false_iff_ne] at t2; exact t2
      clear hk ht
      go_enter Tryd.func11, Tryd.ntmps11
      go_wp2
      go_ret
      exact ⟨ret_bool HX.out.symm, HB.out⟩
  · have t1 : (kd == kd') = false := by rw [beq_eq_false_iff_ne]; exact hk
    have HX : Hid (b = false) := Lib.hid (by rw [← H.out]; unfold isB; rw [decide_eq_false fun e => hk e.1])
    clear hk
    go_enter Tryd.func11, Tryd.ntmps11
    go_wp2
    go_ret
    exact ⟨ret_bool HX.out.symm, HB.out⟩
/-- the whole text is one lexeme of this kind -/
def formB (kd : Int) (tx : ByteArray) : Bool := decide (0 < tx.size ∧ ((begR tx).1 : Int) = kd ∧ (begR tx).2 = tx.size)
def checkR (kd : Int) (tx : ByteArray) (at' : Int) : Nat :=
  if kd < 1 ∨ 3 < kd then 11 else if formB kd tx = false then 3 else if at' < 0 then 2 else 0
theorem ext_whole (s : ByteArray) : s.extract 0 s.size = s := by
  apply bytes_ext
  simp
theorem ext_some {s : ByteArray} {p n : Nat} (h : s.extract p (p + n) = s) (hn : p + n ≤ s.size) : n = s.size ∧ p = 0 := by
  have := congrArg ByteArray.size h
  rw [ByteArray.size_extract] at this
  omega
theorem pass_zero {s : ByteArray} (h : 0 < s.size) (hk : (begR s).1 ≠ 0) : passAt s 0 = 0 := by
  refine pass_other h ?_ ?_
  · cases hb : blankB s[0].toNat with
    | false => rfl
    | true =>
      exfalso; apply hk
      unfold blankB at hb
      unfold begR
      rw [at_in h]
      rcases of_decide_eq_true hb with e | e | e | e <;> rw [e] <;> rfl
  · intro e
    apply hk
    unfold begR
    rw [at_in h, e]; rfl
theorem form_next {kd : Int} {tx : ByteArray} {x : Lx} {n er a : Nat} (h1 : 1 ≤ kd) (h : nextR tx 0 = (x, n, er, a)) : formB kd tx = decide (er = 0 ∧ (x.1 : Int) = kd ∧ x.2.1 = tx) := by
  have he := nextR_eq tx 0 (by omega)
  rw [show (((0 : Nat) : Int)) = 0 from rfl, h] at he
  unfold formB
  apply decide_eq_decide.2
  constructor
  · rintro ⟨g1, g2, g3⟩
    have hp := pass_zero g1 (by omega)
    have hb : begK tx 0 = begR tx := by unfold begK; rw [ext_whole]
    rw [hp, hb, if_neg (by omega), if_neg (by omega), g3, Nat.zero_add, ext_whole] at he
    simp only [Prod.mk.injEq] at he
    obtain ⟨rfl, _, e, _⟩ := he
    exact ⟨e, g2, rfl⟩
  · rintro ⟨rfl, g2, g3⟩
    have hp1 := passAt_le tx 0 (by omega)
    by_cases he1 : passAt tx 0 = tx.size
    · rw [if_pos he1] at he
      have := congrArg (fun t => t.2.2.1) he
      simp only at this; omega
    · rw [if_neg he1] at he
      by_cases he2 : (begK tx (passAt tx 0)).1 = 0
      · rw [if_pos he2] at he
        have := congrArg (fun t => t.2.2.1) he
        simp only at this; omega
      · rw [if_neg he2] at he
        have hx := congrArg (fun t => t.1) he
        simp only at hx
        rw [hx] at g2 g3
        simp only at g2 g3
        have hl := begK_len tx (passAt tx 0) (by omega)
        obtain ⟨e1, e2⟩ := ext_some g3 hl
        rw [e2] at g2 e1 he1
        have hb : begK tx 0 = begR tx := by unfold begK; rw [ext_whole]
        rw [hb] at g2 e1
        exact ⟨by omega, g2, e1⟩
set_option maxRecDepth 100000 in
set_option maxHeartbeats 2000000 in
theorem check_any (kd at' : Int) (tx : ByteArray) (w : World) (hs : tx.size ≤ 9223372036854775806) (c : Nat) (H : Hid (checkR kd tx at' = c)) :
    Calls Tryd.prog 9 #[.agg #[.int .i64 kd, .string tx, .int .i64 at']] w fun e w' => e = .returned (.int .i64 (c : Int)) ∧ Below w.heap.size w w' := by
  have HB := Lib.hid ((Below.refl w.heap.size w).alloc (Nat.le_refl _) (.cells #[.int .i64 kd, .string tx, .int .i64 at'] 23))
  have HW := Lib.hid (Box.new w 23 #[.int .i64 kd, .string tx, .int .i64 at'])
  by_cases hk : kd < 1 ∨ 3 < kd
  · have HX : Hid (c = 11) := Lib.hid (by rw [← H.out]; unfold checkR; rw [if_pos hk])
    by_cases h1 : kd < 1
    · clear hk
      go_enter Tryd.func9, Tryd.ntmps9
      go_wp2
      go_ret
      exact ⟨ret_int (by rw [HX.out]; rfl), HB.out⟩
    · have h3 : 3 < kd := by omega
      clear hk
      go_enter Tryd.func9, Tryd.ntmps9
      go_wp2
      go_ret
      exact ⟨ret_int (by rw [HX.out]; rfl), HB.out⟩
  · have k1 : 1 ≤ kd := by omega
    have k3 : kd ≤ 3 := by omega
    have HN0 : Hid (c = if formB kd tx = false then 3 else if at' < 0 then 2 else 0) := Lib.hid (by rw [← H.out]; unfold checkR; rw [if_neg hk])
    clear hk
    obtain ⟨⟨kd2, tx2, pl⟩, n, er, a, HN⟩ : ∃ x n e a, Hid (nextR tx 0 = (x, n, e, a)) := ⟨_, _, _, _, Lib.hid rfl⟩
    have hf := form_next k1 HN.out
    by_cases he : er = 0
    · have t0 : ((er : Int) != 0) = false := by rw [bne_eq_false_iff_eq]; omega
      obtain ⟨b, hb⟩ : ∃ b, isB (kd2 : Int) kd tx2 tx = b := ⟨_, rfl⟩
      have HI := Lib.hid hb
      have HF : Hid (formB kd tx = b) := Lib.hid (by rw [hf, ← hb]; unfold isB; exact decide_eq_decide.2 ⟨fun h => h.2, fun h => ⟨he, h⟩⟩)
      clear hf hb he
      cases b
      · have HX : Hid (c = 3) := Lib.hid (by rw [HN0.out, HF.out]; rfl)
        go_enter Tryd.func9, Tryd.ntmps9
        go_wp2_with (first
          | (go_at_call 23; refine (pnext_any tx 0 _ (by omega) (by omega) hs (kd2, tx2, pl) n er a HN).mono ?_; rintro e w1 ⟨rfl, B1⟩; obtain ⟨x0, x1, x2⟩ := (HW.out.below B1).cell3; have hlt := (HW.out.below B1).lt)
          | (go_at_call 11; refine (is_any (kd2 : Int) kd (pl : Int) tx2 tx _ _ HI).mono ?_; rintro e w2 ⟨rfl, B2⟩; obtain ⟨z0, z1, z2⟩ := (((HW.out.below B1).alloc (.cells #[.int .i64 (kd2 : Int), .string tx2, .int .i64 (pl : Int)] 23)).alloc (.cells #[.int .i64 (er : Int), .int .i64 (a : Int)] 37)).below B2 |>.cell3))
        go_ret
        exact ⟨ret_int (by rw [HX.out]; rfl), below_then ((((below_then HB.out B1).alloc (below_then HB.out B1).size _).alloc (by have := (below_then HB.out B1).size; simp; omega) _)) B2⟩
      · by_cases ha : at' < 0
        · have HX : Hid (c = 2) := Lib.hid (by rw [HN0.out, HF.out, if_neg (by decide), if_pos ha])
          go_enter Tryd.func9, Tryd.ntmps9
          go_wp2_with (first
          | (go_at_call 23; refine (pnext_any tx 0 _ (by omega) (by omega) hs (kd2, tx2, pl) n er a HN).mono ?_; rintro e w1 ⟨rfl, B1⟩; obtain ⟨x0, x1, x2⟩ := (HW.out.below B1).cell3; have hlt := (HW.out.below B1).lt)
          | (go_at_call 11; refine (is_any (kd2 : Int) kd (pl : Int) tx2 tx _ _ HI).mono ?_; rintro e w2 ⟨rfl, B2⟩; obtain ⟨z0, z1, z2⟩ := (((HW.out.below B1).alloc (.cells #[.int .i64 (kd2 : Int), .string tx2, .int .i64 (pl : Int)] 23)).alloc (.cells #[.int .i64 (er : Int), .int .i64 (a : Int)] 37)).below B2 |>.cell3))
          go_ret
          exact ⟨ret_int (by rw [HX.out]; rfl), below_then ((((below_then HB.out B1).alloc (below_then HB.out B1).size _).alloc (by have := (below_then HB.out B1).size; simp; omega) _)) B2⟩
        · have HX : Hid (c = 0) := Lib.hid (by rw [HN0.out, HF.out, if_neg (by decide), if_neg ha])
          go_enter Tryd.func9, Tryd.ntmps9
          go_wp2_with (first
          | (go_at_call 23; refine (pnext_any tx 0 _ (by omega) (by omega) hs (kd2, tx2, pl) n er a HN).mono ?_; rintro e w1 ⟨rfl, B1⟩; obtain ⟨x0, x1, x2⟩ := (HW.out.below B1).cell3; have hlt := (HW.out.below B1).lt)
          | (go_at_call 11; refine (is_any (kd2 : Int) kd (pl : Int) tx2 tx _ _ HI).mono ?_; rintro e w2 ⟨rfl, B2⟩; obtain ⟨z0, z1, z2⟩ := (((HW.out.below B1).alloc (.cells #[.int .i64 (kd2 : Int), .string tx2, .int .i64 (pl : Int)] 23)).alloc (.cells #[.int .i64 (er : Int), .int .i64 (a : Int)] 37)).below B2 |>.cell3))
          go_ret
          exact ⟨ret_int (by rw [HX.out]; rfl), below_then ((((below_then HB.out B1).alloc (below_then HB.out B1).size _).alloc (by have := (below_then HB.out B1).size; simp; omega) _)) B2⟩
    · have t0 : ((er : Int) != 0) = true := by rw [bne_iff_ne]; omega
      have HX : Hid (c = 3) := Lib.hid (by rw [HN0.out, hf, decide_eq_false fun h => he h.1]; rfl)
      clear hf he
      go_enter Tryd.func9, Tryd.ntmps9
      go_wp2_with (go_at_call 23; refine (pnext_any tx 0 _ (by omega) (by omega) hs (kd2, tx2, pl) n er a HN).mono ?_; rintro e w1 ⟨rfl, B1⟩; obtain ⟨x0, x1, x2⟩ := (HW.out.below B1).cell3; have hlt := (HW.out.below B1).lt)
      go_ret
      exact ⟨ret_int (by rw [HX.out]; rfl), (((below_then HB.out B1).alloc (below_then HB.out B1).size _).alloc (by have := (below_then HB.out B1).size; simp; omega) _)⟩
end Go.Proofs.YtjhmlmimgahnmaaDoor.s04
