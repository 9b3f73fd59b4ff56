/-
  Layer 4, the program's side: classes of bytes.
-/
import Derived.Test.YtjhmlmimgahnmaaDoorS04A
namespace Go.Proofs.YtjhmlmimgahnmaaDoor.s04
set_option linter.unusedVariables false
set_option linter.unusedSimpArgs false
open Go.RowKit
open kit

/-- the class of a byte, by its number -/
def clsB (n : Nat) : Nat :=
  if letterB n then 3 else if n = 48 then 4 else if digitB n then 5 else if n = 95 then 6 else if blankB n then 1 else if n = 35 then 2 else if signB n then 7 else 8
theorem sig_lt {a : Int} {n b : Nat} (hab : a = (b : Int)) (h1 : (a == (n : Int)) = false) (h2 : a ≤ (n : Int)) : b < n := by
  rw [beq_eq_false_iff_ne] at h1
  omega
set_option maxRecDepth 100000 in
theorem issign_any (n : Nat) (h : n < 256) (w : World) : Calls Tryd.prog 65 #[.int .u8 (n : Int)] w fun e w' => e = .returned (.bool (signB n)) ∧ Below w.heap.size w w' := by
  have HB : Hid (Below w.heap.size w (w.alloc (.cells #[.int .u8 44, .int .u8 59, .int .u8 61, .int .u8 124] 111))) := Lib.hid ((Below.refl _ _).alloc (Nat.le_refl _) _)
  have i0 : ∀ w, (Instr.index 111 (.agg #[.int .u8 44, .int .u8 59, .int .u8 61, .int .u8 124]) (.int .i64 0)).run Tryd.prog w = .ok (.int .u8 44) w := fun _ => by kernel_rfl
  have i1 : ∀ w, (Instr.index 111 (.agg #[.int .u8 44, .int .u8 59, .int .u8 61, .int .u8 124]) (.int .i64 1)).run Tryd.prog w = .ok (.int .u8 59) w := fun _ => by kernel_rfl
  have i2 : ∀ w, (Instr.index 111 (.agg #[.int .u8 44, .int .u8 59, .int .u8 61, .int .u8 124]) (.int .i64 2)).run Tryd.prog w = .ok (.int .u8 61) w := fun _ => by kernel_rfl
  have i3 : ∀ w, (Instr.index 111 (.agg #[.int .u8 44, .int .u8 59, .int .u8 61, .int .u8 124]) (.int .i64 3)).run Tryd.prog w = .ok (.int .u8 124) w := fun _ => by kernel_rfl
  have HN : Hid (signB n = false → Below w.heap.size w (w.alloc (.cells #[.int .u8 44, .int .u8 59, .int .u8 61, .int .u8 124] 111))) := Lib.hid (fun _ => HB.out)
  go_enter Tryd.func65, Tryd.ntmps65
  go_wp2
  go_step3
  go_wp2
  go_step3
  go_wp2
  go_loop [8] (fun i => (i = .int .i64 0 ∧ Hid True) ∨ (i = .int .i64 1 ∧ 44 < n) ∨ (i = .int .i64 2 ∧ 59 < n) ∨ (i = .int .i64 3 ∧ 61 < n) ∨ (i = .int .i64 4 ∧ 124 < n)) (fun i => 4 - (intOf i).toNat)
  case atStart => exact .inl ⟨rfl, Lib.hid trivial⟩
  case round =>
    rcases hrel with ⟨rfl, HA⟩ | ⟨rfl, HA⟩ | ⟨rfl, HA⟩ | ⟨rfl, HA⟩ | ⟨rfl, HA⟩
    all_goals go_wp2
    all_goals first
      | (go_round
         case rel => first | exact .inr (.inl ⟨rfl, sig_lt (a := 44) rfl ‹_› ‹_›⟩) | exact .inr (.inr (.inl ⟨rfl, sig_lt (a := 59) rfl ‹_› ‹_›⟩)) | exact .inr (.inr (.inr (.inl ⟨rfl, sig_lt (a := 61) rfl ‹_› ‹_›⟩))) | exact .inr (.inr (.inr (.inr ⟨rfl, sig_lt (a := 124) rfl ‹_› ‹_›⟩)))
         case measure => simp [intOf])
      | ((try simp only [beq_iff_eq, beq_eq_false_iff_ne, ne_eq] at *); (try rw [Exit.noGoto_ret]); go_ret; exact ⟨ret_bool (bool_is (by simp; omega)), HB.out⟩)
set_option maxRecDepth 100000 in
set_option maxHeartbeats 1000000 in
theorem classOf_any (n : Nat) (h : n < 256) (w : World) : Calls Tryd.prog 62 #[.int .u8 (n : Int)] w fun e w' => e = .returned (.int .i64 (clsB n : Nat)) ∧ Below w.heap.size w w' := by
  cases hS : signB n
  all_goals
    have HS := Lib.hid hS
    go_enter Tryd.func62, Tryd.ntmps62
    go_wp2_with (go_at_call 65; refine (issign_any n h _).mono ?_; rintro e w1 ⟨rfl, hB1⟩; rw [HS.out])
    all_goals (try simp only [beq_iff_eq, beq_eq_false_iff_ne, ne_eq] at *)
    all_goals
      go_ret
      refine ⟨ret_int ?_, by first | exact Below.refl _ _ | assumption⟩
      have h2 := HS.out
      unfold signB at h2
      simp only [decide_eq_true_eq, decide_eq_false_iff_not] at h2
      unfold clsB letterB digitB blankB signB
      simp only [decide_eq_true_eq]
      (repeat' split) <;> omega
theorem inNumber_any (c : Nat) (w : World) : Calls Tryd.prog 56 #[.int .i64 (c : Int)] w fun e w' => e = .returned (.bool (c == 4 || c == 5)) ∧ w = w' := by
  go_enter Tryd.func56, Tryd.ntmps56
  go_wp2
  all_goals
    go_ret
    exact ⟨ret_bool (by rw [Bool.eq_iff_iff]; simp; omega), rfl⟩
theorem inWord_any (c : Nat) (w : World) : Calls Tryd.prog 55 #[.int .i64 (c : Int)] w fun e w' => e = .returned (.bool (c == 3 || c == 6 || (c == 4 || c == 5))) ∧ w = w' := by
  go_enter Tryd.func55, Tryd.ntmps55
  go_wp2_with (go_at_call 56; refine (inNumber_any _ _).mono ?_; rintro e w1 ⟨rfl, rfl⟩)
  all_goals
    go_ret
    exact ⟨ret_bool (by rw [Bool.eq_iff_iff]; simp; omega), rfl⟩
end Go.Proofs.YtjhmlmimgahnmaaDoor.s04
