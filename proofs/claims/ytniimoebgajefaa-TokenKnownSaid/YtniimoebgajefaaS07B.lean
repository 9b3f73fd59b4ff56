/-
  Layer 7: Bytes of the reference, Separates of both.
-/
import Derived.Test.YtniimoebgajefaaS07A
import Derived.Test.YtniimoebgajefaaWalksD
namespace Go.Proofs.Ytniimoebgajefaa.s07
set_option linter.unusedVariables false
set_option linter.unusedSimpArgs false
open Go.RowKit
open kit

/-- the frame of a token -/
def frm (y : Int) (x : ByteArray) : ByteArray := strOfNums [y, (x.size : Int)] ++ x
theorem frm_size (y : Int) (x : ByteArray) : (frm y x).size = 2 + x.size := by
  unfold frm; rw [ByteArray.size_append, strOfNums_size]; rfl
/-- Bytes' answer -/
def bytesR (y : Int) (x : ByteArray) (p t : Int) : ByteArray × Int := if chkR y x.size p t = 0 then (frm y x, 0) else (⟨#[]⟩, chkR y x.size p t)
theorem conv2 (W : World) (x y : Int) : (convert 51 9 (.slice (some ⟨W.heap.size, 0, none⟩) 2 2)).run Try.prog (W.alloc (.cells #[.int .u8 x, .int .u8 y] 5)) = .ok (.string (strOfNums [x, y])) (W.alloc (.cells #[.int .u8 x, .int .u8 y] 5)) :=
  run_convert_bytes_arg _ 51 5 Try.underlying51 Try.underlying5 _ 0 2 2 [x, y] rfl (fun i hi => by
    have : i = 0 ∨ i = 1 := by omega
    rcases this with rfl | rfl <;> simp) 9 Try.underlying9
set_option maxRecDepth 100000 in
set_option maxHeartbeats 1000000 in
theorem rbytes_any (y p t : Int) (x : ByteArray) (w : World) (b : ByteArray) (c : Int) (H : Hid (bytesR y x p t = (b, c))) :
    Calls Try.prog 21 #[.agg #[.int .i64 y, .string x, .int .i64 p], .int .i64 t] w fun e w' => e = .returned (.tuple #[.string b, .int .i64 c]) ∧ Below w.heap.size w w' := by
  have HB := box1 y p x w
  have HX := box2 y p x w
  obtain ⟨k, hk⟩ : ∃ k, chkR y x.size p t = k := ⟨_, rfl⟩
  have HK := Lib.hid hk
  have hc := H.out
  unfold bytesR at hc
  rw [hk] at hc
  by_cases hk0 : k = 0
  · rw [if_pos hk0] at hc
    subst hk0
    obtain ⟨q0, _, _⟩ := chkR_ok hk
    obtain ⟨_, q2, q3, q4, q5⟩ := chkP_ok q0
    have HC := Lib.hid hc
    have cv := conv2
    have hs : (strOfNums [y, (x.size : Int)]).size + x.size ≤ 9223372036854775807 := by rw [strOfNums_size]; simp; omega
    clear H hk hc q0
    go_enter Try.func21, Try.ntmps21
    go_wp2_with (go_at_call 22; refine (rcheck_any y p t x _ 0 HK).mono ?_; rintro e w1 ⟨rfl, hB⟩; obtain ⟨c0, c1, c2⟩ := (HX.out.below hB).cell3; have hlt := (HX.out.below hB).lt)
    go_ret2
    exact ⟨ret_se HC.out, (HB.out.trans (hB.mono HB.out.size)).alloc (HB.out.trans (hB.mono HB.out.size)).size _⟩
  · rw [if_neg hk0] at hc
    have HC := Lib.hid hc
    have t0 : (k != 0) = true := by rw [bne_iff_ne]; exact hk0
    clear hc hk0 H hk
    go_enter Try.func21, Try.ntmps21
    go_wp2_with (go_at_call 22; refine (rcheck_any y p t x _ k HK).mono ?_; rintro e w1 ⟨rfl, hB⟩)
    go_ret2
    exact ⟨ret_se HC.out, HB.out.trans (hB.mono HB.out.size)⟩
def sepR (y : Int) (x : ByteArray) (p t : Int) : Bool := decide (chkR y x.size p t = 0 ∧ y = t)
set_option maxRecDepth 100000 in
set_option maxHeartbeats 1000000 in
theorem sep_any (y p t : Int) (x : ByteArray) (w : World) (v : Bool) (H : Hid (sepR y x p t = v)) :
    Calls Try.prog 19 #[.agg #[.int .i64 y, .string x, .int .i64 p], .int .i64 t] w fun e w' => e = .returned (.bool v) ∧ Below w.heap.size w w' := by
  have HB := box1 y p x w
  have HX := box2 y p x w
  obtain ⟨k, hk⟩ : ∃ k, chkR y x.size p t = k := ⟨_, rfl⟩
  have HK := Lib.hid hk
  have hc := H.out
  unfold sepR at hc
  rw [hk] at hc
  by_cases hk0 : k = 0
  · have HC : Hid (decide (y = t) = v) := Lib.hid (by rw [← hc]; exact decide_eq_decide.2 ⟨fun h => ⟨hk0, h⟩, fun h => h.2⟩)
    subst hk0
    clear H hk hc
    by_cases hy : y = t
    · have t1 : (y == t) = true := by rw [beq_iff_eq]; exact hy
      have HV : Hid (true = v) := Lib.hid (by rw [← HC.out, decide_eq_true hy])
      clear hy
      go_enter Try.func19, Try.ntmps19
      go_wp2_with (go_at_call 15; refine (check_any y p t x _ 0 HK).mono ?_; rintro e w1 ⟨rfl, hB⟩; obtain ⟨c0, c1, c2⟩ := (HX.out.below hB).cell3)
      go_ret
      exact ⟨ret_bool HV.out, HB.out.trans (hB.mono HB.out.size)⟩
    · have t1 : (y == t) = false := by rw [beq_eq_false_iff_ne]; exact hy
      have HV : Hid (false = v) := Lib.hid (by rw [← HC.out, decide_eq_false hy])
      clear hy
      go_enter Try.func19, Try.ntmps19
      go_wp2_with (go_at_call 15; refine (check_any y p t x _ 0 HK).mono ?_; rintro e w1 ⟨rfl, hB⟩; obtain ⟨c0, c1, c2⟩ := (HX.out.below hB).cell3)
      go_ret
      exact ⟨ret_bool HV.out, HB.out.trans (hB.mono HB.out.size)⟩
  · have HC : Hid (false = v) := Lib.hid (by rw [← hc]; exact (decide_eq_false fun h => hk0 h.1).symm)
    have t0 : (k == 0) = false := by rw [beq_eq_false_iff_ne]; exact hk0
    clear hc hk0 H hk
    go_enter Try.func19, Try.ntmps19
    go_wp2_with (go_at_call 15; refine (check_any y p t x _ k HK).mono ?_; rintro e w1 ⟨rfl, hB⟩)
    go_ret
    exact ⟨ret_bool HC.out, HB.out.trans (hB.mono HB.out.size)⟩
set_option maxRecDepth 100000 in
set_option maxHeartbeats 1000000 in
theorem rsep_any (y p t : Int) (x : ByteArray) (w : World) (v : Bool) (H : Hid (sepR y x p t = v)) :
    Calls Try.prog 24 #[.agg #[.int .i64 y, .string x, .int .i64 p], .int .i64 t] w fun e w' => e = .returned (.bool v) ∧ Below w.heap.size w w' := by
  have HB := box1 y p x w
  have HX := box2 y p x w
  obtain ⟨k, hk⟩ : ∃ k, chkR y x.size p t = k := ⟨_, rfl⟩
  have HK := Lib.hid hk
  have hc := H.out
  unfold sepR at hc
  rw [hk] at hc
  by_cases hk0 : k = 0
  · have HC : Hid (decide (y = t) = v) := Lib.hid (by rw [← hc]; exact decide_eq_decide.2 ⟨fun h => ⟨hk0, h⟩, fun h => h.2⟩)
    subst hk0
    clear H hk hc
    by_cases hy : y = t
    · have t1 : (y == t) = true := by rw [beq_iff_eq]; exact hy
      have HV : Hid (true = v) := Lib.hid (by rw [← HC.out, decide_eq_true hy])
      clear hy
      go_enter Try.func24, Try.ntmps24
      go_wp2_with (go_at_call 22; refine (rcheck_any y p t x _ 0 HK).mono ?_; rintro e w1 ⟨rfl, hB⟩; obtain ⟨c0, c1, c2⟩ := (HX.out.below hB).cell3)
      go_ret
      exact ⟨ret_bool HV.out, HB.out.trans (hB.mono HB.out.size)⟩
    · have t1 : (y == t) = false := by rw [beq_eq_false_iff_ne]; exact hy
      have HV : Hid (false = v) := Lib.hid (by rw [← HC.out, decide_eq_false hy])
      clear hy
      go_enter Try.func24, Try.ntmps24
      go_wp2_with (go_at_call 22; refine (rcheck_any y p t x _ 0 HK).mono ?_; rintro e w1 ⟨rfl, hB⟩; obtain ⟨c0, c1, c2⟩ := (HX.out.below hB).cell3)
      go_ret
      exact ⟨ret_bool HV.out, HB.out.trans (hB.mono HB.out.size)⟩
  · have HC : Hid (false = v) := Lib.hid (by rw [← hc]; exact (decide_eq_false fun h => hk0 h.1).symm)
    have t0 : (k == 0) = false := by rw [beq_eq_false_iff_ne]; exact hk0
    clear hc hk0 H hk
    go_enter Try.func24, Try.ntmps24
    go_wp2_with (go_at_call 22; refine (rcheck_any y p t x _ k HK).mono ?_; rintro e w1 ⟨rfl, hB⟩)
    go_ret
    exact ⟨ret_bool HC.out, HB.out.trans (hB.mono HB.out.size)⟩
end Go.Proofs.Ytniimoebgajefaa.s07
