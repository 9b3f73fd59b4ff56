/-
  Layer 5: the laws' helpers: stays, done, refuses, awake.
-/
import Derived.Test.YtkepnjnindolbaaS05J
import Derived.Test.YtkepnjnindolbaaS05S
namespace Go.Proofs.Ytkepnjnindolbaa.s05
set_option linter.unusedVariables false
set_option linter.unusedSimpArgs false
open Go.RowKit
open kit

theorem stays_any (s : ByteArray) (p e o er a : Int) (v : Bool) (H : Hid ((e == er && o == a) = v)) (w : World) :
    Calls Try.prog 43 #[.agg #[.string s, .int .i64 p, .int .i64 e, .int .i64 o], .int .i64 er, .int .i64 a] w fun en w' => en = .returned (.bool v) ∧ Below w.heap.size w w' := by
  go_enter Try.func43, Try.ntmps43
  go_wp2
  all_goals
    go_ret
    exact ⟨ret_bool (by rw [← H.out]; simp [*]), (Below.refl _ _).alloc (Nat.le_refl _) _⟩
theorem done_true (s : ByteArray) (m e : Int) (t : ByteArray) (hs : s.size ≤ 9223372036854775807) (H : Hid (doneW s m e = (t, 0))) (w : World) :
    Calls Try.prog 44 #[.agg #[.string s, .int .i64 m, .int .i64 e], .string t] w fun en w' => en = .returned (.bool true) ∧ Below w.heap.size w w' := by
  have B1 := Lib.hid ((Below.refl w.heap.size w).alloc (by simp) (.cells #[.string s, .int .i64 m, .int .i64 e] 45))
  go_enter Try.func44, Try.ntmps44
  go_wp2_with (go_at_call 30; refine (pdone_any s m e hs t 0 H _).mono ?_; rintro en w1 ⟨rfl, hB⟩; have B2 := Lib.hid (below_then B1.out hB); clear hB)
  go_ret
  exact ⟨rfl, B2.out⟩
theorem refuses_true (s : ByteArray) (m e er : Int) (hs : s.size ≤ 9223372036854775807) (H : Hid (doneW s m e = (⟨#[]⟩, er))) (w : World) :
    Calls Try.prog 45 #[.agg #[.string s, .int .i64 m, .int .i64 e], .int .i64 er] w fun en w' => en = .returned (.bool true) ∧ Below w.heap.size w w' := by
  have B1 := Lib.hid ((Below.refl w.heap.size w).alloc (by simp) (.cells #[.string s, .int .i64 m, .int .i64 e] 45))
  go_enter Try.func45, Try.ntmps45
  go_wp2_with (go_at_call 30; refine (pdone_any s m e hs ⟨#[]⟩ er H _).mono ?_; rintro en w1 ⟨rfl, hB⟩; have B2 := Lib.hid (below_then B1.out hB); clear hB)
  go_ret
  exact ⟨rfl, B2.out⟩
theorem digs300 : digs 300 = [172, 2] := by
  rw [digs_more (by omega), digs_last (by omega)]
  rfl
theorem cntA : cnt ⟨#[172, 2, 5]⟩ 0 0 0 = (⟨#[172, 2, 5]⟩, 0, 0, 0) := by kernel_rfl
theorem cntB : cnt ⟨#[2, 97, 98, 99]⟩ 0 0 0 = (⟨#[2, 97, 98, 99]⟩, 0, 0, 0) := by kernel_rfl
theorem cntC : cnt ⟨#[2, 97]⟩ 0 0 0 = (⟨#[2, 97]⟩, 0, 0, 0) := by kernel_rfl
theorem numA : fldR (0 : Int) (numF 0 300) ⟨#[172, 2, 5]⟩ 0 0 0 = ((⟨#[172, 2, 5]⟩, 2, 0, 0), 300) := by kernel_rfl
theorem strB : fldR (⟨#[]⟩ : ByteArray) (sizF 2) ⟨#[2, 97, 98, 99]⟩ 0 0 0 = ((⟨#[2, 97, 98, 99]⟩, 3, 0, 0), ⟨#[97, 98]⟩) := by kernel_rfl
theorem strC : fldR (⟨#[]⟩ : ByteArray) (sizF 9) ⟨#[2, 97]⟩ 0 0 0 = ((⟨#[2, 97]⟩, 0, 5, 1), ⟨#[]⟩) := by kernel_rfl
theorem mk2 : cntw ⟨#[]⟩ 2 0 = (⟨#[]⟩, 2, 0) := by kernel_rfl
theorem mk1 : cntw ⟨#[]⟩ 1 0 = (⟨#[]⟩, 1, 0) := by kernel_rfl
theorem add2 : addR ⟨#[]⟩ 2 0 (bys (digs 300)) = (⟨#[172, 2]⟩, 2, 0) := by rw [digs300]; kernel_rfl
theorem add1 : addR ⟨#[]⟩ 1 0 (bys (digs 300)) = (⟨#[]⟩, 1, 4) := by rw [digs300]; kernel_rfl
theorem done2 : doneW ⟨#[172, 2]⟩ 2 0 = (⟨#[172, 2]⟩, 0) := by kernel_rfl
theorem done1 : doneW ⟨#[]⟩ 1 4 = (⟨#[]⟩, 4) := by kernel_rfl
set_option maxRecDepth 100000 in
set_option maxHeartbeats 2000000 in
theorem awake_any (w : World) : Calls Try.prog 9 #[] w fun en w' => en = .returned (.bool true) ∧ Below w.heap.size w w' := by
  have B1 := Lib.hid (Below.refl w.heap.size w)
  go_enter Try.func9, Try.ntmps9
  go_wp2_with (first
    | (go_at_call 25; (with_reducible refine (pread_any ⟨#[172, 2, 5]⟩ (by decide) ⟨#[172, 2, 5]⟩ 0 0 0 (Lib.hid cntA) _).mono ?_); rintro en w2 ⟨rfl, hB⟩; have B2 := Lib.hid (below_then B1.out hB); clear hB)
    | (go_at_call 10; (with_reducible refine (pnumber_any ⟨#[172, 2, 5]⟩ 0 0 0 0 300 (by decide) (by omega) (by omega) (by omega) (by omega) ⟨#[172, 2, 5]⟩ 2 0 0 300 (Lib.hid numA) _).mono ?_); rintro en w3 ⟨rfl, hB⟩; have B3 := Lib.hid (below_then B2.out hB); clear hB; have B4 := Lib.hid (B3.out.alloc B3.out.size (.cells #[.string ⟨#[172, 2, 5]⟩, .int .i64 2, .int .i64 0, .int .i64 0] 26)); have R4 := Lib.hid (Box.new _ 26 #[.string ⟨#[172, 2, 5]⟩, .int .i64 2, .int .i64 0, .int .i64 0] : Box (World.alloc w3 (.cells #[.string ⟨#[172, 2, 5]⟩, .int .i64 2, .int .i64 0, .int .i64 0] 26)) _ _ _))
    | (go_at_call 25; (with_reducible refine (pread_any ⟨#[2, 97, 98, 99]⟩ (by decide) ⟨#[2, 97, 98, 99]⟩ 0 0 0 (Lib.hid cntB) _).mono ?_); rintro en w5 ⟨rfl, hB⟩; have R5 := Lib.hid (R4.out.below hB); have B5 := Lib.hid (below_then B4.out hB); clear hB)
    | (go_at_call 14; (with_reducible refine (pstring_any ⟨#[2, 97, 98, 99]⟩ 0 0 0 2 (by decide) (by omega) (by omega) ⟨#[2, 97, 98, 99]⟩ 3 0 0 ⟨#[97, 98]⟩ (Lib.hid strB) _).mono ?_); rintro en w6 ⟨rfl, hB⟩; have R6 := Lib.hid (R5.out.below hB); have B6 := Lib.hid (below_then B5.out hB); clear hB; have R7 := Lib.hid (R6.out.alloc (.cells #[.string ⟨#[2, 97, 98, 99]⟩, .int .i64 3, .int .i64 0, .int .i64 0] 26)); have B7 := Lib.hid (B6.out.alloc B6.out.size (.cells #[.string ⟨#[2, 97, 98, 99]⟩, .int .i64 3, .int .i64 0, .int .i64 0] 26)); have Q7 := Lib.hid (Box.new _ 26 #[.string ⟨#[2, 97, 98, 99]⟩, .int .i64 3, .int .i64 0, .int .i64 0] : Box (World.alloc w6 (.cells #[.string ⟨#[2, 97, 98, 99]⟩, .int .i64 3, .int .i64 0, .int .i64 0] 26)) _ _ _))
    | (go_at_call 25; (with_reducible refine (pread_any ⟨#[2, 97]⟩ (by decide) ⟨#[2, 97]⟩ 0 0 0 (Lib.hid cntC) _).mono ?_); rintro en w8 ⟨rfl, hB⟩; have R8 := Lib.hid (R7.out.below hB); have Q8 := Lib.hid (Q7.out.below hB); have B8 := Lib.hid (below_then B7.out hB); clear hB)
    | (go_at_call 14; (with_reducible refine (pstring_any ⟨#[2, 97]⟩ 0 0 0 9 (by decide) (by omega) (by omega) ⟨#[2, 97]⟩ 0 5 1 ⟨#[]⟩ (Lib.hid strC) _).mono ?_); rintro en w9 ⟨rfl, hB⟩; have R9 := Lib.hid (R8.out.below hB); have Q9 := Lib.hid (Q8.out.below hB); have B9 := Lib.hid (below_then B8.out hB); clear hB; have lr := R9.out.lt; obtain ⟨cr0, cr1, cr2, cr3⟩ := R9.out.c4; obtain ⟨fr0, fr1, fr2, fr3⟩ := R9.out.f4; have lq := Q9.out.lt; obtain ⟨cq0, cq1, cq2, cq3⟩ := Q9.out.c4; obtain ⟨fq0, fq1, fq2, fq3⟩ := Q9.out.f4; have R10 := Lib.hid (R9.out.alloc (.cells #[.string ⟨#[2, 97]⟩, .int .i64 0, .int .i64 5, .int .i64 1] 26)); have Q10 := Lib.hid (Q9.out.alloc (.cells #[.string ⟨#[2, 97]⟩, .int .i64 0, .int .i64 5, .int .i64 1] 26)); have B10 := Lib.hid (B9.out.alloc B9.out.size (.cells #[.string ⟨#[2, 97]⟩, .int .i64 0, .int .i64 5, .int .i64 1] 26)); have T10 := Lib.hid (Box.new _ 26 #[.string ⟨#[2, 97]⟩, .int .i64 0, .int .i64 5, .int .i64 1] : Box (World.alloc w9 (.cells #[.string ⟨#[2, 97]⟩, .int .i64 0, .int .i64 5, .int .i64 1] 26)) _ _ _))
    | (go_at_call 43; (with_reducible refine (stays_any ⟨#[2, 97]⟩ 0 5 1 5 1 true (Lib.hid rfl) _).mono ?_); rintro en w11 ⟨rfl, hB⟩; clear cr0 cr1 cr2 cr3 fr0 fr1 fr2 fr3 lr cq0 cq1 cq2 cq3 fq0 fq1 fq2 fq3 lq; have R11 := Lib.hid (R10.out.below hB); have Q11 := Lib.hid (Q10.out.below hB); have T11 := Lib.hid (T10.out.below hB); have B11 := Lib.hid (below_then B10.out hB); clear hB)
    | (go_at_call 32; (with_reducible refine (pmake_any 2 ⟨#[]⟩ 2 0 (Lib.hid mk2) _).mono ?_); rintro en w12 ⟨rfl, hB⟩; have R12 := Lib.hid (R11.out.below hB); have Q12 := Lib.hid (Q11.out.below hB); have T12 := Lib.hid (T11.out.below hB); have B12 := Lib.hid (below_then B11.out hB); clear hB)
    | (go_at_call 34; (with_reducible refine (pput_any ⟨#[]⟩ 2 0 300 (by decide) (by omega) (by omega) ⟨#[172, 2]⟩ 2 0 (Lib.hid add2) _).mono ?_); rintro en w13 ⟨rfl, hB⟩; have R13 := Lib.hid (R12.out.below hB); have Q13 := Lib.hid (Q12.out.below hB); have T13 := Lib.hid (T12.out.below hB); have B13 := Lib.hid (below_then B12.out hB); clear hB)
    | (go_at_call 44; (with_reducible refine (done_true ⟨#[172, 2]⟩ 2 0 ⟨#[172, 2]⟩ (by decide) (Lib.hid done2) _).mono ?_); rintro en w14 ⟨rfl, hB⟩; have R14 := Lib.hid (R13.out.below hB); have Q14 := Lib.hid (Q13.out.below hB); have T14 := Lib.hid (T13.out.below hB); have B14 := Lib.hid (below_then B13.out hB); clear hB)
    | (go_at_call 32; (with_reducible refine (pmake_any 1 ⟨#[]⟩ 1 0 (Lib.hid mk1) _).mono ?_); rintro en w15 ⟨rfl, hB⟩; have R15 := Lib.hid (R14.out.below hB); have Q15 := Lib.hid (Q14.out.below hB); have T15 := Lib.hid (T14.out.below hB); have B15 := Lib.hid (below_then B14.out hB); clear hB)
    | (go_at_call 34; (with_reducible refine (pput_any ⟨#[]⟩ 1 0 300 (by decide) (by omega) (by omega) ⟨#[]⟩ 1 4 (Lib.hid add1) _).mono ?_); rintro en w16 ⟨rfl, hB⟩; have R16 := Lib.hid (R15.out.below hB); have Q16 := Lib.hid (Q15.out.below hB); have T16 := Lib.hid (T15.out.below hB); have B16 := Lib.hid (below_then B15.out hB); clear hB)
    | (go_at_call 45; (with_reducible refine (refuses_true ⟨#[]⟩ 1 4 4 (by decide) (Lib.hid done1) _).mono ?_); rintro en w17 ⟨rfl, hB⟩; have R17 := Lib.hid (R16.out.below hB); have Q17 := Lib.hid (Q16.out.below hB); have T17 := Lib.hid (T16.out.below hB); have B17 := Lib.hid (below_then B16.out hB); clear hB))
  go_ret
  exact ⟨rfl, B17.out⟩
end Go.Proofs.Ytkepnjnindolbaa.s05
