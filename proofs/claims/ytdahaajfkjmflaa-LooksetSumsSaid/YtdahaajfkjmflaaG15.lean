/-
  Layer 14: awake. Layer 14: slices of looks among specifications.
-/
import Derived.Test.YtdahaajfkjmflaaG14
import Derived.Test.YtdahaajfkjmflaaG09
import Derived.Deep.DeepMust
namespace Go.Proofs.Ytdahaajfkjmflaa.s14
set_option linter.unusedVariables false
set_option linter.unusedSimpArgs false
open Go.RowKit
open kit

open s13

open Go.Shelf
set_option maxRecDepth 100000 in
set_option maxHeartbeats 4000000 in
theorem awake_any (w : World) : Calls Try.prog 9 #[] w fun e w' => e = .returned (.bool true) ∧ Below w.heap.size w w' := by
  go_enter Try.func9, Try.ntmps9
  have B : Hid (Below w.heap.size w w) := Lib.hid (Below.refl _ _)
  go_wp2_with (fail)
  go_at_call 35
  refine (lx_1 _ _ 1 _ (reads_new _ [1] _)).mono ?_
  rintro e w1 ⟨rfl, hB⟩
  have hC := (made1 hB).2
  replace B := Lib.hid (below_then B.out hC)
  clear hB hC
  go_wp2_with (fail)
  go_at_call 35
  refine (lx_2 _ _ 0 1 _ (reads_new _ [0, 1] _)).mono ?_
  rintro e w2 ⟨rfl, hB⟩
  have hC := (made1 hB).2
  replace B := Lib.hid (below_then B.out hC)
  clear hB hC
  go_wp2_with (fail)
  go_at_call 35
  refine (lx_0 _ _).mono ?_
  rintro e w3 ⟨rfl, hB⟩
  have hC := hB
  replace B := Lib.hid (below_then B.out hC)
  clear hB hC
  go_wp2_with (fail)
  go_at_call 35
  refine (lx_1 _ _ 1 _ (reads_new _ [1] _)).mono ?_
  rintro e w4 ⟨rfl, hB⟩
  have hC := (made1 hB).2
  replace B := Lib.hid (below_then B.out hC)
  clear hB hC
  go_wp2_with (fail)
  go_at_call 34
  refine (lset_row _ 4 4 (([[1], [0, 1], [], [1]] : List (List Int)).map pad5) _ (reads5_block (Box.new _ _ _) rfl)).mono ?_
  rintro e w5 ⟨rfl, hR, hB⟩
  have R0 := Lib.hid hR
  have hC := (made1 hB).2
  replace B := Lib.hid (below_then B.out hC)
  clear hB hC
  clear hR
  go_wp2_with (fail)
  go_at_call 13
  refine (pof_set 3 _ 4 4 ([[1], [0, 1], [], [1]] : List (List Int)) _ (by omega) (by omega) (Lib.hid rfl) (by omega) (Lib.hid (ok_of (by rfl))) R0 ([[], [0, 1], [1]] : List (List Int)) 3 (Lib.hid (known (by rfl))) (Lib.hid rfl)).mono ?_
  rintro e w6 ⟨p6, cp6, rfl, hR, hB, hp6⟩
  have R1 := Lib.hid hR
  have hC := hB
  replace R0 := Lib.hid (R0.out.below hC)
  replace B := Lib.hid (below_then B.out hC)
  clear hB hC
  clear hR
  go_wp2_with (fail)
  go_at_call 35
  refine (lx_0 _ _).mono ?_
  rintro e w7 ⟨rfl, hB⟩
  have hC := hB
  replace R0 := Lib.hid (R0.out.below hC)
  replace R1 := Lib.hid (R1.out.below hC)
  replace B := Lib.hid (below_then B.out hC)
  clear hB hC
  go_wp2_with (fail)
  go_at_call 35
  refine (lx_2 _ _ 0 1 _ (reads_new _ [0, 1] _)).mono ?_
  rintro e w8 ⟨rfl, hB⟩
  have hC := (made1 hB).2
  replace R0 := Lib.hid (R0.out.below hC)
  replace R1 := Lib.hid (R1.out.below hC)
  replace B := Lib.hid (below_then B.out hC)
  clear hB hC
  go_wp2_with (fail)
  go_at_call 35
  refine (lx_1 _ _ 1 _ (reads_new _ [1] _)).mono ?_
  rintro e w9 ⟨rfl, hB⟩
  have hC := (made1 hB).2
  replace R0 := Lib.hid (R0.out.below hC)
  replace R1 := Lib.hid (R1.out.below hC)
  replace B := Lib.hid (below_then B.out hC)
  clear hB hC
  go_wp2_with (fail)
  go_at_call 34
  refine (lset_row _ 3 3 (([[], [0, 1], [1]] : List (List Int)).map pad5) _ (reads5_block (Box.new _ _ _) rfl)).mono ?_
  rintro e w10 ⟨rfl, hR, hB⟩
  have R2 := Lib.hid hR
  have hC := (made1 hB).2
  replace R0 := Lib.hid (R0.out.below hC)
  replace R1 := Lib.hid (R1.out.below hC)
  replace B := Lib.hid (below_then B.out hC)
  clear hB hC
  clear hR
  go_wp2_with (fail)
  go_at_call 15
  refine (lsame_any _ _ 3 3 _ _ (([[], [0, 1], [1]] : List (List Int)).map pad5) (([[], [0, 1], [1]] : List (List Int)).map pad5) _ (Lib.hid rfl) (Lib.hid rfl) (by omega) (by omega) R1 R2 true (Lib.hid (decide_eq_true rfl))).mono ?_
  rintro e w11 ⟨rfl, hB⟩
  have hC := hB
  replace R0 := Lib.hid (R0.out.below hC)
  replace R1 := Lib.hid (R1.out.below hC)
  replace R2 := Lib.hid (R2.out.below hC)
  replace B := Lib.hid (below_then B.out hC)
  clear hB hC
  go_wp2_with (fail)
  go_at_call 35
  refine (lx_1 _ _ 1 _ (reads_new _ [1] _)).mono ?_
  rintro e w12 ⟨rfl, hB⟩
  have hC := (made1 hB).2
  replace R0 := Lib.hid (R0.out.below hC)
  replace R1 := Lib.hid (R1.out.below hC)
  replace R2 := Lib.hid (R2.out.below hC)
  replace B := Lib.hid (below_then B.out hC)
  clear hB hC
  go_wp2_with (fail)
  go_at_call 35
  refine (lx_1 _ _ 0 _ (reads_new _ [0] _)).mono ?_
  rintro e w13 ⟨rfl, hB⟩
  have hC := (made1 hB).2
  replace R0 := Lib.hid (R0.out.below hC)
  replace R1 := Lib.hid (R1.out.below hC)
  replace R2 := Lib.hid (R2.out.below hC)
  replace B := Lib.hid (below_then B.out hC)
  clear hB hC
  go_wp2_with (fail)
  go_at_call 34
  refine (lset_row _ 2 2 (([[1], [0]] : List (List Int)).map pad5) _ (reads5_block (Box.new _ _ _) rfl)).mono ?_
  rintro e w14 ⟨rfl, hR, hB⟩
  have R3 := Lib.hid hR
  have hC := (made1 hB).2
  replace R0 := Lib.hid (R0.out.below hC)
  replace R1 := Lib.hid (R1.out.below hC)
  replace R2 := Lib.hid (R2.out.below hC)
  replace B := Lib.hid (below_then B.out hC)
  clear hB hC
  clear hR
  go_wp2_with (fail)
  go_at_call 11
  refine (pset_any 3 _ 2 2 (([[1], [0]] : List (List Int)).map pad5) _ (Lib.hid rfl) (by omega) R3 9 (Lib.hid (by rfl))).mono ?_
  rintro e w15 ⟨rfl, hB⟩
  have hC := hB
  replace R0 := Lib.hid (R0.out.below hC)
  replace R1 := Lib.hid (R1.out.below hC)
  replace R2 := Lib.hid (R2.out.below hC)
  replace R3 := Lib.hid (R3.out.below hC)
  replace B := Lib.hid (below_then B.out hC)
  clear hB hC
  go_wp2_with (fail)
  go_at_call 35
  refine (lx_0 _ _).mono ?_
  rintro e w16 ⟨rfl, hB⟩
  have hC := hB
  replace R0 := Lib.hid (R0.out.below hC)
  replace R1 := Lib.hid (R1.out.below hC)
  replace R2 := Lib.hid (R2.out.below hC)
  replace R3 := Lib.hid (R3.out.below hC)
  replace B := Lib.hid (below_then B.out hC)
  clear hB hC
  go_wp2_with (fail)
  go_at_call 35
  refine (lx_1 _ _ 0 _ (reads_new _ [0] _)).mono ?_
  rintro e w17 ⟨rfl, hB⟩
  have hC := (made1 hB).2
  replace R0 := Lib.hid (R0.out.below hC)
  replace R1 := Lib.hid (R1.out.below hC)
  replace R2 := Lib.hid (R2.out.below hC)
  replace R3 := Lib.hid (R3.out.below hC)
  replace B := Lib.hid (below_then B.out hC)
  clear hB hC
  go_wp2_with (fail)
  go_at_call 34
  refine (lset_row _ 2 2 (([[], [0]] : List (List Int)).map pad5) _ (reads5_block (Box.new _ _ _) rfl)).mono ?_
  rintro e w18 ⟨rfl, hR, hB⟩
  have R4 := Lib.hid hR
  have hC := (made1 hB).2
  replace R0 := Lib.hid (R0.out.below hC)
  replace R1 := Lib.hid (R1.out.below hC)
  replace R2 := Lib.hid (R2.out.below hC)
  replace R3 := Lib.hid (R3.out.below hC)
  replace B := Lib.hid (below_then B.out hC)
  clear hB hC
  clear hR
  go_wp2_with (fail)
  go_at_call 35
  refine (lx_1 _ _ 1 _ (reads_new _ [1] _)).mono ?_
  rintro e w19 ⟨rfl, hB⟩
  have hC := (made1 hB).2
  replace R0 := Lib.hid (R0.out.below hC)
  replace R1 := Lib.hid (R1.out.below hC)
  replace R2 := Lib.hid (R2.out.below hC)
  replace R3 := Lib.hid (R3.out.below hC)
  replace R4 := Lib.hid (R4.out.below hC)
  replace B := Lib.hid (below_then B.out hC)
  clear hB hC
  go_wp2_with (fail)
  go_at_call 35
  refine (lx_2 _ _ 1 2 _ (reads_new _ [1, 2] _)).mono ?_
  rintro e w20 ⟨rfl, hB⟩
  have hC := (made1 hB).2
  replace R0 := Lib.hid (R0.out.below hC)
  replace R1 := Lib.hid (R1.out.below hC)
  replace R2 := Lib.hid (R2.out.below hC)
  replace R3 := Lib.hid (R3.out.below hC)
  replace R4 := Lib.hid (R4.out.below hC)
  replace B := Lib.hid (below_then B.out hC)
  clear hB hC
  go_wp2_with (fail)
  go_at_call 34
  refine (lset_row _ 2 2 (([[1], [1, 2]] : List (List Int)).map pad5) _ (reads5_block (Box.new _ _ _) rfl)).mono ?_
  rintro e w21 ⟨rfl, hR, hB⟩
  have R5 := Lib.hid hR
  have hC := (made1 hB).2
  replace R0 := Lib.hid (R0.out.below hC)
  replace R1 := Lib.hid (R1.out.below hC)
  replace R2 := Lib.hid (R2.out.below hC)
  replace R3 := Lib.hid (R3.out.below hC)
  replace R4 := Lib.hid (R4.out.below hC)
  replace B := Lib.hid (below_then B.out hC)
  clear hB hC
  clear hR
  go_wp2_with (fail)
  go_at_call 35
  refine (lx_2 _ _ 0 1 _ (reads_new _ [0, 1] _)).mono ?_
  rintro e w22 ⟨rfl, hB⟩
  have hC := (made1 hB).2
  replace R0 := Lib.hid (R0.out.below hC)
  replace R1 := Lib.hid (R1.out.below hC)
  replace R2 := Lib.hid (R2.out.below hC)
  replace R3 := Lib.hid (R3.out.below hC)
  replace R4 := Lib.hid (R4.out.below hC)
  replace R5 := Lib.hid (R5.out.below hC)
  replace B := Lib.hid (below_then B.out hC)
  clear hB hC
  go_wp2_with (fail)
  go_at_call 35
  refine (lx_1 _ _ 1 _ (reads_new _ [1] _)).mono ?_
  rintro e w23 ⟨rfl, hB⟩
  have hC := (made1 hB).2
  replace R0 := Lib.hid (R0.out.below hC)
  replace R1 := Lib.hid (R1.out.below hC)
  replace R2 := Lib.hid (R2.out.below hC)
  replace R3 := Lib.hid (R3.out.below hC)
  replace R4 := Lib.hid (R4.out.below hC)
  replace R5 := Lib.hid (R5.out.below hC)
  replace B := Lib.hid (below_then B.out hC)
  clear hB hC
  go_wp2_with (fail)
  go_at_call 35
  refine (lx_2 _ _ 1 2 _ (reads_new _ [1, 2] _)).mono ?_
  rintro e w24 ⟨rfl, hB⟩
  have hC := (made1 hB).2
  replace R0 := Lib.hid (R0.out.below hC)
  replace R1 := Lib.hid (R1.out.below hC)
  replace R2 := Lib.hid (R2.out.below hC)
  replace R3 := Lib.hid (R3.out.below hC)
  replace R4 := Lib.hid (R4.out.below hC)
  replace R5 := Lib.hid (R5.out.below hC)
  replace B := Lib.hid (below_then B.out hC)
  clear hB hC
  go_wp2_with (fail)
  go_at_call 34
  refine (lset_row _ 3 3 (([[0, 1], [1], [1, 2]] : List (List Int)).map pad5) _ (reads5_block (Box.new _ _ _) rfl)).mono ?_
  rintro e w25 ⟨rfl, hR, hB⟩
  have R6 := Lib.hid hR
  have hC := (made1 hB).2
  replace R0 := Lib.hid (R0.out.below hC)
  replace R1 := Lib.hid (R1.out.below hC)
  replace R2 := Lib.hid (R2.out.below hC)
  replace R3 := Lib.hid (R3.out.below hC)
  replace R4 := Lib.hid (R4.out.below hC)
  replace R5 := Lib.hid (R5.out.below hC)
  replace B := Lib.hid (below_then B.out hC)
  clear hB hC
  clear hR
  go_wp2_with (fail)
  go_at_call 36
  refine (lsums_any 2 _ _ _ 2 2 3 _ _ _ ([[], [0]] : List (List Int)) ([[1], [1, 2]] : List (List Int)) (([[0, 1], [1], [1, 2]] : List (List Int)).map pad5) _ (by omega) (by omega) (Lib.hid rfl) (Lib.hid rfl) (Lib.hid rfl) (by omega) (by omega) (by omega) (Nat.le_refl _) (Nat.le_refl _) (Lib.hid (ok_of (by rfl))) (Lib.hid (ok_of (by rfl))) R4 R5 R6 (Lib.hid (chkA_known (Ls := [([[], [0]] : List (List Int)), ([[1], [1, 2]] : List (List Int))]) (by omega) (by omega) (by rfl))) true (Lib.hid (decide_eq_true (congrArg (List.map pad5) ((sumS_set 2 (asc_of (by rfl)) (asc_of (by rfl))).trans (known (by rfl))))))).mono ?_
  rintro e w26 ⟨rfl, hB⟩
  have hC := hB
  replace R0 := Lib.hid (R0.out.below hC)
  replace R1 := Lib.hid (R1.out.below hC)
  replace R2 := Lib.hid (R2.out.below hC)
  replace R3 := Lib.hid (R3.out.below hC)
  replace R4 := Lib.hid (R4.out.below hC)
  replace R5 := Lib.hid (R5.out.below hC)
  replace R6 := Lib.hid (R6.out.below hC)
  replace B := Lib.hid (below_then B.out hC)
  clear hB hC
  go_wp2
  go_ret
  exact ⟨rfl, B.out⟩
end Go.Proofs.Ytdahaajfkjmflaa.s14

namespace Go.Proofs.Ytdahaajfkjmflaa.s14
set_option linter.unusedVariables false
set_option linter.unusedSimpArgs false
open Go.RowKit
open kit

open s13

open Go.Shelf
/-- a built slice of looks -/
def Sl5 (L : List (List Int)) : Sp := .rel fun v w => ∃ a, v = .slice a L.length L.length ∧ Reads5 w a (L.map pad5)
theorem Sl5.keeps (L : List (List Int)) : (Sl5 L).Keeps := by
  rintro v w w' ⟨a, e, h⟩ hB
  exact ⟨a, e, h.below hB⟩
theorem flat5_of : ∀ (L : List (List Int)), ((L.map fun x => lkV (pad5 x)).flatMap fun v => v.cells.toList) = flat5 (L.map pad5)
  | [] => rfl
  | x :: L => by
    rw [List.map_cons, List.flatMap_cons, flat5_of L]
    rfl
theorem step_slice5 {l : List Oper} {S : List Sp} {a A : Act} {o : Oper} {w : World} (h : Pre l S a o A w) (hg : guardB l S o = true) (len : Nat) (ps : Array (Nat × Operand)) (L : List (List Int)) (hop : o.op = .buildSlice 22 len ps) (hlen : len = L.length) (hpos : 0 < len) (hsmall : len ≤ 1000)
    (hps : partsAt l S o ps.toList = some (((L.map fun x => lkV (pad5 x)).zipIdx 0).map fun x => (x.2, x.1))) : stepOk Try.prog l o A w (Sl5 L) := by
  refine step_of h hg ?_
  obtain ⟨i0, hi0, hz1, hz2, hz3⟩ := info_parts info5
  have he := partsAt_eval h hps
  have hrun := run_buildSlice (P := Try.prog) w 22 25 len (ps.map fun (i, x) => (i, A.eval x)) ((L.map fun x => lkV (pad5 x)).flatMap fun v => v.cells.toList).toArray i0 _ (by kernel_rfl) hi0 hz1 (by rw [hz2]; omega) (by rw [hz2]; omega) (by
    rw [Array.toList_map, he, hz2]
    exact Great.fill_whole (by omega) _ _ (fun v hv => by obtain ⟨n, _, rfl⟩ := List.mem_map.1 hv; rfl) (by simp [hlen]))
  unfold specAt execOp
  rw [hop]
  simp only [Sem.run_bind, hrun, Result.andThen_ok]
  subst hlen
  exact ⟨(Below.refl _ _).alloc (Nat.le_refl _) _, _, rfl, reads5_block (Box.new _ _ _) (by rw [← flat5_of])⟩
end Go.Proofs.Ytdahaajfkjmflaa.s14
