/-
  Layer 13: the law of what is read. Layer 13: looks that come in, opened. What the listed variables give: a start that meets the condition; the table of 64 numbers that the library reads.
-/
import Derived.Test.YtddackdghphcnaaDoorG11
import Derived.Test.YtddackdghphcnaaDoorG12
import Derived.Test.YtddackdghphcnaaDoorG02
import Derived.Lib.SmallJoins
import Derived.Deep.Slices
import Derived.Deep.Fields
import Derived.ChangeSame
import Derived.Laws.IdiomArrays
import Derived.ProofKit
import Derived.Test.YtddackdghphcnaaDoorTie
import Derived.Test.YtddackdghphcnaaDoorG07
import Derived.LaidMore
import Derived.Stop.LaidErr
namespace Go.Proofs.YtddackdghphcnaaDoor.s13
set_option linter.unusedVariables false
set_option linter.unusedSimpArgs false
open Go.RowKit
open kit

theorem allE_len (t k : Int) (L : List V5) (r : Int) (h : allE t k = (L, r)) : L.length ≤ 5000 := by
  unfold allE at h
  by_cases hc : (t < 1 ∨ 8 < t) ∨ (k < 0 ∨ 4 < k)
  · rw [if_pos hc] at h; cases h; exact Nat.zero_le _
  · rw [if_neg hc] at h; cases h
    rw [List.length_map]
    have e1 := allL_len t.toNat k.toNat []
    have e2 := (cnt_le t (by omega) (by omega) k.toNat (by omega)).2
    rw [show ((t.toNat : Nat) : Int) = t by omega] at e1
    omega
set_option maxRecDepth 100000 in
set_option maxHeartbeats 2000000 in
theorem lookreads_long (s : ByteArray) (t k n : Int) (x0 x1 x2 x3 x4 : Int) (w : World) (hs : 40 < s.size) (hm : s.size ≤ 9223372036854775807) :
    Calls Tryd.prog 5 #[.string s, .int .i64 t, .int .i64 k, .int .i64 n, .agg #[.int .i64 x0, .int .i64 x1, .int .i64 x2, .int .i64 x3, .int .i64 x4]] w fun e w' => e = .returned (.bool true) ∧ Below w.heap.size w w' := by
  have h : (40 : Int) < s.size := by omega
  go_enter Tryd.func5, Tryd.ntmps5
  go_wp2_with (go_at_call 10; refine (awake_any _).mono ?_; rintro e w1 ⟨rfl, hB⟩; have B1 := Lib.hid (made1 hB).2; clear hB)
  go_ret
  exact ⟨rfl, B1.out⟩
set_option maxRecDepth 100000 in
set_option maxHeartbeats 4000000 in
theorem lookreads_any (s : ByteArray) (t k n : Int) (x0 x1 x2 x3 x4 : Int) (w : World) (hT : Hid (Tab w)) (hs : s.size ≤ 40) :
    Calls Tryd.prog 5 #[.string s, .int .i64 t, .int .i64 k, .int .i64 n, .agg #[.int .i64 x0, .int .i64 x1, .int .i64 x2, .int .i64 x3, .int .i64 x4]] w fun e w' => e = .returned (.bool true) ∧ Below w.heap.size w w' := by
  obtain ⟨⟨⟨y0, y1, y2, y3, y4⟩, pr⟩, hp⟩ : ∃ y, parseE s = y := ⟨_, rfl⟩
  obtain ⟨⟨nv, nr⟩, hn⟩ : ∃ y, numE (x0, x1, x2, x3, x4) t = y := ⟨_, rfl⟩
  obtain ⟨⟨⟨z0, z1, z2, z3, z4⟩, dr⟩, hd⟩ : ∃ y, decE n t = y := ⟨_, rfl⟩
  obtain ⟨⟨L, ar⟩, ha⟩ : ∃ y, allE t k = y := ⟨_, rfl⟩
  have HP := Lib.hid hp
  have HN := Lib.hid hn
  have HD := Lib.hid hd
  have HA := Lib.hid ha
  have HLen := Lib.hid (allE_len t k L ar ha)
  have HC : Hid ((4 < t ∧ t ≤ 8 ∧ 1 < k ∧ k ≤ 4) ∨ (¬ 4 < t ∧ t = 4 ∧ k = 4) ∨ (4 < t ∧ ¬ t ≤ 8 ∧ ¬ t = 4) ∨ (4 < t ∧ t ≤ 8 ∧ ¬ t = 4 ∧ ¬ 1 < k) ∨ (4 < t ∧ t ≤ 8 ∧ ¬ t = 4 ∧ 1 < k ∧ ¬ k ≤ 4) ∨ (¬ 4 < t ∧ ¬ t = 4) ∨ (¬ 4 < t ∧ t = 4 ∧ ¬ k = 4)) := Lib.hid (by omega)
  clear hp hn hd ha
  go_enter Tryd.func5, Tryd.ntmps5
  go_wp2_with fail
  refine (pparse_any s _ (by omega) (y0, y1, y2, y3, y4) pr HP).mono ?_
  rintro e w2 ⟨rfl, hB⟩
  have B2 := Lib.hid (made1 hB).2
  have T2 := Lib.hid (hT.out.below (made1 hB).2)
  have X2 := Lib.hid (made1 hB).1
  clear hB hT
  obtain ⟨cX0, cX1, cX2, cX3, cX4⟩ := X2.out.cell5
  have lX := X2.out.lt
  go_wp2_with fail
  refine (rparse_any s _ (by omega) (y0, y1, y2, y3, y4) pr HP).mono ?_
  rintro e w3 ⟨rfl, hB⟩
  clear cX0 cX1 cX2 cX3 cX4 lX
  have B3 := Lib.hid (below_on B2.out (Nat.le_refl _) (made1 hB).2)
  have T3 := Lib.hid (T2.out.below (made1 hB).2)
  have X3 := Lib.hid ((X2.out.alloc _).below hB)
  have Y3 := Lib.hid (made1 hB).1
  clear hB B2 T2 X2
  obtain ⟨cX0, cX1, cX2, cX3, cX4⟩ := X3.out.cell5
  have lX := X3.out.lt
  obtain ⟨cY0, cY1, cY2, cY3, cY4⟩ := Y3.out.cell5
  have lY := Y3.out.lt
  go_wp2_with fail
  refine (pnumber_any x0 x1 x2 x3 x4 t _ (Lib.hid (T3.out.below ((Below.refl _ _).alloc (Nat.le_refl _) _))) nv nr HN).mono ?_
  rintro e w4 ⟨rfl, hB⟩
  clear cX0 cX1 cX2 cX3 cX4 lX cY0 cY1 cY2 cY3 cY4 lY
  have B4 := Lib.hid (below_on B3.out (Nat.le_refl _) (made1 hB).2)
  have T4 := Lib.hid (T3.out.below (made1 hB).2)
  have X4 := Lib.hid ((X3.out.alloc _).below hB)
  have Y4 := Lib.hid ((Y3.out.alloc _).below hB)
  have Z4 := Lib.hid (made1 hB).1
  clear hB B3 T3 X3 Y3
  obtain ⟨cX0, cX1, cX2, cX3, cX4⟩ := X4.out.cell5
  have lX := X4.out.lt
  obtain ⟨cY0, cY1, cY2, cY3, cY4⟩ := Y4.out.cell5
  have lY := Y4.out.lt
  obtain ⟨cZ0, cZ1, cZ2, cZ3, cZ4⟩ := Z4.out.cell5
  have lZ := Z4.out.lt
  go_wp2_with fail
  refine (rnumber_any x0 x1 x2 x3 x4 t _ nv nr HN).mono ?_
  rintro e w5 ⟨rfl, hB⟩
  clear cX0 cX1 cX2 cX3 cX4 lX cY0 cY1 cY2 cY3 cY4 lY cZ0 cZ1 cZ2 cZ3 cZ4 lZ
  have B5 := Lib.hid (below_on B4.out (Nat.le_refl _) hB)
  have T5 := Lib.hid (T4.out.below hB)
  have X5 := Lib.hid (X4.out.below hB)
  have Y5 := Lib.hid (Y4.out.below hB)
  have Z5 := Lib.hid (Z4.out.below hB)
  clear hB B4 T4 X4 Y4 Z4
  obtain ⟨cX0, cX1, cX2, cX3, cX4⟩ := X5.out.cell5
  have lX := X5.out.lt
  obtain ⟨cY0, cY1, cY2, cY3, cY4⟩ := Y5.out.cell5
  have lY := Y5.out.lt
  obtain ⟨cZ0, cZ1, cZ2, cZ3, cZ4⟩ := Z5.out.cell5
  have lZ := Z5.out.lt
  have EY : ∀ W, (Op.equalIn 9999 23 (.agg #[.int .i64 y1, .int .i64 y2, .int .i64 y3, .int .i64 y4]) (.agg #[.int .i64 y1, .int .i64 y2, .int .i64 y3, .int .i64 y4])).run Tryd.prog W = .ok true W := fun W => by rw [eq_arr, decide_eq_true ⟨rfl, rfl, rfl, rfl⟩]
  go_wp2_with fail
  refine (pnumbered_any n t _ T5 (z0, z1, z2, z3, z4) dr HD).mono ?_
  rintro e w6 ⟨rfl, hB⟩
  clear cX0 cX1 cX2 cX3 cX4 lX cY0 cY1 cY2 cY3 cY4 lY cZ0 cZ1 cZ2 cZ3 cZ4 lZ
  have B6 := Lib.hid (below_on B5.out (Nat.le_refl _) hB)
  have T6 := Lib.hid (T5.out.below hB)
  have X6 := Lib.hid (X5.out.below hB)
  have Y6 := Lib.hid (Y5.out.below hB)
  have Z6 := Lib.hid (Z5.out.below hB)
  clear hB B5 T5 X5 Y5 Z5
  obtain ⟨cX0, cX1, cX2, cX3, cX4⟩ := X6.out.cell5
  have lX := X6.out.lt
  obtain ⟨cY0, cY1, cY2, cY3, cY4⟩ := Y6.out.cell5
  have lY := Y6.out.lt
  obtain ⟨cZ0, cZ1, cZ2, cZ3, cZ4⟩ := Z6.out.cell5
  have lZ := Z6.out.lt
  go_wp2_with fail
  refine (rnumbered_any n t _ (z0, z1, z2, z3, z4) dr HD).mono ?_
  rintro e w7 ⟨rfl, hB⟩
  clear cX0 cX1 cX2 cX3 cX4 lX cY0 cY1 cY2 cY3 cY4 lY cZ0 cZ1 cZ2 cZ3 cZ4 lZ
  have B7 := Lib.hid (below_on B6.out (Nat.le_refl _) (made1 hB).2)
  have T7 := Lib.hid (T6.out.below (made1 hB).2)
  have X7 := Lib.hid ((X6.out.alloc _).below hB)
  have Y7 := Lib.hid ((Y6.out.alloc _).below hB)
  have Z7 := Lib.hid ((Z6.out.alloc _).below hB)
  have D7 := Lib.hid (made1 hB).1
  clear hB B6 T6 X6 Y6 Z6
  obtain ⟨cX0, cX1, cX2, cX3, cX4⟩ := X7.out.cell5
  have lX := X7.out.lt
  obtain ⟨cY0, cY1, cY2, cY3, cY4⟩ := Y7.out.cell5
  have lY := Y7.out.lt
  obtain ⟨cZ0, cZ1, cZ2, cZ3, cZ4⟩ := Z7.out.cell5
  have lZ := Z7.out.lt
  obtain ⟨cD0, cD1, cD2, cD3, cD4⟩ := D7.out.cell5
  have lD := D7.out.lt
  have EZ : ∀ W, (Op.equalIn 9999 23 (.agg #[.int .i64 z1, .int .i64 z2, .int .i64 z3, .int .i64 z4]) (.agg #[.int .i64 z1, .int .i64 z2, .int .i64 z3, .int .i64 z4])).run Tryd.prog W = .ok true W := fun W => by rw [eq_arr, decide_eq_true ⟨rfl, rfl, rfl, rfl⟩]
  rcases HC.out with ⟨q1, q2, q3, q4⟩ | ⟨q1, q2, q3⟩ | ⟨q1, q2, q3⟩ | ⟨q1, q2, q3, q4⟩ | ⟨q1, q2, q3, q4, q5⟩ | ⟨q1, q2⟩ | ⟨q1, q2, q3⟩
  · go_wp2_with fail
    refine (awake_any _).mono ?_
    rintro e v8 ⟨rfl, hB⟩
    have B8 := Lib.hid (below_on B7.out (Nat.le_refl _) (made1 hB).2)
    clear hB
    go_wp2
    go_ret
    exact ⟨rfl, B8.out⟩
  · go_wp2_with fail
    refine (awake_any _).mono ?_
    rintro e v8 ⟨rfl, hB⟩
    have B8 := Lib.hid (below_on B7.out (Nat.le_refl _) (made1 hB).2)
    clear hB
    go_wp2
    go_ret
    exact ⟨rfl, B8.out⟩
  · go_wp2_with fail
    refine (pall_any t k _ L ar HA).mono ?_
    rintro e w8 ⟨a1, cp1, rfl, hR, hB⟩
    have B8 := Lib.hid (below_on B7.out (Nat.le_refl _) (made1 hB).2)
    have R8 := Lib.hid hR
    clear hR hB
    go_wp2_with fail
    refine (rAll_any t k _ L ar HA).mono ?_
    rintro e w9 ⟨a2, cp2, rfl, hR, hB⟩
    have B9 := Lib.hid (below_on B8.out (Nat.le_refl _) hB)
    have Q9 := Lib.hid (R8.out.below hB)
    have R9 := Lib.hid hR
    clear hR hB
    have hl5 := HLen.out
    go_wp2_with fail
    go_loopw [23] (fun i wr => ∃ j : Nat, i = .int .i64 j ∧ j ≤ L.length ∧ Hid (Reads5 wr a1 L) ∧ Hid (Reads5 wr a2 L) ∧ Hid (Below w.heap.size w wr)) (fun i _ => L.length - (intOf i).toNat)
    case atStart => exact ⟨0, rfl, by omega, Q9, R9, B9⟩
    case round =>
      obtain ⟨j, rfl, hj, HR1, HR2, HB⟩ := hrel
      by_cases hlt : j < L.length
      · obtain ⟨⟨u0, u1, u2, u3, u4⟩, hu⟩ : ∃ y, L[j]?.getD no5 = y := ⟨_, rfl⟩
        obtain ⟨b1, o1, rfl, _, _⟩ := HR1.out j hlt
        obtain ⟨b2, o2, rfl, _, _⟩ := HR2.out j hlt
        obtain ⟨d0, d1, d2, d3, d4⟩ := at5_of HR1.out j hlt hu
        obtain ⟨f0, f1, f2, f3, f4⟩ := at5_of HR2.out j hlt hu
        simp only at d0 d1 d2 d3 d4 f0 f1 f2 f3 f4
        have EU : ∀ W, (Op.equalIn 9999 23 (.agg #[.int .i64 u1, .int .i64 u2, .int .i64 u3, .int .i64 u4]) (.agg #[.int .i64 u1, .int .i64 u2, .int .i64 u3, .int .i64 u4])).run Tryd.prog W = .ok true W := fun W => by rw [eq_arr, decide_eq_true ⟨rfl, rfl, rfl, rfl⟩]
        clear hu
        go_wp2_with fail
        go_quiet (fail)
        rename_i K hK
        refine hK _ _ ?_
        clear hK
        go_wp2_with fail
        go_roundw
        case rel => exact ⟨j + 1, by go_num, by omega, Lib.hid (HR1.out.drewN _), Lib.hid (HR2.out.drewN _), Lib.hid (below_drewN HB.out _)⟩
        case measure => simp [intOf]; omega
      · go_wp2_with (go_at_call 10; refine (awake_any _).mono ?_; rintro e v10 ⟨rfl, hB⟩; have B10 := Lib.hid (below_on HB.out (Nat.le_refl _) hB); clear hB)
        go_ret
        exact ⟨rfl, B10.out⟩
  · go_wp2_with fail
    refine (pall_any t k _ L ar HA).mono ?_
    rintro e w8 ⟨a1, cp1, rfl, hR, hB⟩
    have B8 := Lib.hid (below_on B7.out (Nat.le_refl _) (made1 hB).2)
    have R8 := Lib.hid hR
    clear hR hB
    go_wp2_with fail
    refine (rAll_any t k _ L ar HA).mono ?_
    rintro e w9 ⟨a2, cp2, rfl, hR, hB⟩
    have B9 := Lib.hid (below_on B8.out (Nat.le_refl _) hB)
    have Q9 := Lib.hid (R8.out.below hB)
    have R9 := Lib.hid hR
    clear hR hB
    have hl5 := HLen.out
    go_wp2_with fail
    go_loopw [23] (fun i wr => ∃ j : Nat, i = .int .i64 j ∧ j ≤ L.length ∧ Hid (Reads5 wr a1 L) ∧ Hid (Reads5 wr a2 L) ∧ Hid (Below w.heap.size w wr)) (fun i _ => L.length - (intOf i).toNat)
    case atStart => exact ⟨0, rfl, by omega, Q9, R9, B9⟩
    case round =>
      obtain ⟨j, rfl, hj, HR1, HR2, HB⟩ := hrel
      by_cases hlt : j < L.length
      · obtain ⟨⟨u0, u1, u2, u3, u4⟩, hu⟩ : ∃ y, L[j]?.getD no5 = y := ⟨_, rfl⟩
        obtain ⟨b1, o1, rfl, _, _⟩ := HR1.out j hlt
        obtain ⟨b2, o2, rfl, _, _⟩ := HR2.out j hlt
        obtain ⟨d0, d1, d2, d3, d4⟩ := at5_of HR1.out j hlt hu
        obtain ⟨f0, f1, f2, f3, f4⟩ := at5_of HR2.out j hlt hu
        simp only at d0 d1 d2 d3 d4 f0 f1 f2 f3 f4
        have EU : ∀ W, (Op.equalIn 9999 23 (.agg #[.int .i64 u1, .int .i64 u2, .int .i64 u3, .int .i64 u4]) (.agg #[.int .i64 u1, .int .i64 u2, .int .i64 u3, .int .i64 u4])).run Tryd.prog W = .ok true W := fun W => by rw [eq_arr, decide_eq_true ⟨rfl, rfl, rfl, rfl⟩]
        clear hu
        go_wp2_with fail
        go_quiet (fail)
        rename_i K hK
        refine hK _ _ ?_
        clear hK
        go_wp2_with fail
        go_roundw
        case rel => exact ⟨j + 1, by go_num, by omega, Lib.hid (HR1.out.drewN _), Lib.hid (HR2.out.drewN _), Lib.hid (below_drewN HB.out _)⟩
        case measure => simp [intOf]; omega
      · go_wp2_with (go_at_call 10; refine (awake_any _).mono ?_; rintro e v10 ⟨rfl, hB⟩; have B10 := Lib.hid (below_on HB.out (Nat.le_refl _) hB); clear hB)
        go_ret
        exact ⟨rfl, B10.out⟩
  · go_wp2_with fail
    refine (pall_any t k _ L ar HA).mono ?_
    rintro e w8 ⟨a1, cp1, rfl, hR, hB⟩
    have B8 := Lib.hid (below_on B7.out (Nat.le_refl _) (made1 hB).2)
    have R8 := Lib.hid hR
    clear hR hB
    go_wp2_with fail
    refine (rAll_any t k _ L ar HA).mono ?_
    rintro e w9 ⟨a2, cp2, rfl, hR, hB⟩
    have B9 := Lib.hid (below_on B8.out (Nat.le_refl _) hB)
    have Q9 := Lib.hid (R8.out.below hB)
    have R9 := Lib.hid hR
    clear hR hB
    have hl5 := HLen.out
    go_wp2_with fail
    go_loopw [23] (fun i wr => ∃ j : Nat, i = .int .i64 j ∧ j ≤ L.length ∧ Hid (Reads5 wr a1 L) ∧ Hid (Reads5 wr a2 L) ∧ Hid (Below w.heap.size w wr)) (fun i _ => L.length - (intOf i).toNat)
    case atStart => exact ⟨0, rfl, by omega, Q9, R9, B9⟩
    case round =>
      obtain ⟨j, rfl, hj, HR1, HR2, HB⟩ := hrel
      by_cases hlt : j < L.length
      · obtain ⟨⟨u0, u1, u2, u3, u4⟩, hu⟩ : ∃ y, L[j]?.getD no5 = y := ⟨_, rfl⟩
        obtain ⟨b1, o1, rfl, _, _⟩ := HR1.out j hlt
        obtain ⟨b2, o2, rfl, _, _⟩ := HR2.out j hlt
        obtain ⟨d0, d1, d2, d3, d4⟩ := at5_of HR1.out j hlt hu
        obtain ⟨f0, f1, f2, f3, f4⟩ := at5_of HR2.out j hlt hu
        simp only at d0 d1 d2 d3 d4 f0 f1 f2 f3 f4
        have EU : ∀ W, (Op.equalIn 9999 23 (.agg #[.int .i64 u1, .int .i64 u2, .int .i64 u3, .int .i64 u4]) (.agg #[.int .i64 u1, .int .i64 u2, .int .i64 u3, .int .i64 u4])).run Tryd.prog W = .ok true W := fun W => by rw [eq_arr, decide_eq_true ⟨rfl, rfl, rfl, rfl⟩]
        clear hu
        go_wp2_with fail
        go_quiet (fail)
        rename_i K hK
        refine hK _ _ ?_
        clear hK
        go_wp2_with fail
        go_roundw
        case rel => exact ⟨j + 1, by go_num, by omega, Lib.hid (HR1.out.drewN _), Lib.hid (HR2.out.drewN _), Lib.hid (below_drewN HB.out _)⟩
        case measure => simp [intOf]; omega
      · go_wp2_with (go_at_call 10; refine (awake_any _).mono ?_; rintro e v10 ⟨rfl, hB⟩; have B10 := Lib.hid (below_on HB.out (Nat.le_refl _) hB); clear hB)
        go_ret
        exact ⟨rfl, B10.out⟩
  · go_wp2_with fail
    refine (pall_any t k _ L ar HA).mono ?_
    rintro e w8 ⟨a1, cp1, rfl, hR, hB⟩
    have B8 := Lib.hid (below_on B7.out (Nat.le_refl _) (made1 hB).2)
    have R8 := Lib.hid hR
    clear hR hB
    go_wp2_with fail
    refine (rAll_any t k _ L ar HA).mono ?_
    rintro e w9 ⟨a2, cp2, rfl, hR, hB⟩
    have B9 := Lib.hid (below_on B8.out (Nat.le_refl _) hB)
    have Q9 := Lib.hid (R8.out.below hB)
    have R9 := Lib.hid hR
    clear hR hB
    have hl5 := HLen.out
    go_wp2_with fail
    go_loopw [23] (fun i wr => ∃ j : Nat, i = .int .i64 j ∧ j ≤ L.length ∧ Hid (Reads5 wr a1 L) ∧ Hid (Reads5 wr a2 L) ∧ Hid (Below w.heap.size w wr)) (fun i _ => L.length - (intOf i).toNat)
    case atStart => exact ⟨0, rfl, by omega, Q9, R9, B9⟩
    case round =>
      obtain ⟨j, rfl, hj, HR1, HR2, HB⟩ := hrel
      by_cases hlt : j < L.length
      · obtain ⟨⟨u0, u1, u2, u3, u4⟩, hu⟩ : ∃ y, L[j]?.getD no5 = y := ⟨_, rfl⟩
        obtain ⟨b1, o1, rfl, _, _⟩ := HR1.out j hlt
        obtain ⟨b2, o2, rfl, _, _⟩ := HR2.out j hlt
        obtain ⟨d0, d1, d2, d3, d4⟩ := at5_of HR1.out j hlt hu
        obtain ⟨f0, f1, f2, f3, f4⟩ := at5_of HR2.out j hlt hu
        simp only at d0 d1 d2 d3 d4 f0 f1 f2 f3 f4
        have EU : ∀ W, (Op.equalIn 9999 23 (.agg #[.int .i64 u1, .int .i64 u2, .int .i64 u3, .int .i64 u4]) (.agg #[.int .i64 u1, .int .i64 u2, .int .i64 u3, .int .i64 u4])).run Tryd.prog W = .ok true W := fun W => by rw [eq_arr, decide_eq_true ⟨rfl, rfl, rfl, rfl⟩]
        clear hu
        go_wp2_with fail
        go_quiet (fail)
        rename_i K hK
        refine hK _ _ ?_
        clear hK
        go_wp2_with fail
        go_roundw
        case rel => exact ⟨j + 1, by go_num, by omega, Lib.hid (HR1.out.drewN _), Lib.hid (HR2.out.drewN _), Lib.hid (below_drewN HB.out _)⟩
        case measure => simp [intOf]; omega
      · go_wp2_with (go_at_call 10; refine (awake_any _).mono ?_; rintro e v10 ⟨rfl, hB⟩; have B10 := Lib.hid (below_on HB.out (Nat.le_refl _) hB); clear hB)
        go_ret
        exact ⟨rfl, B10.out⟩
  · subst q2
    go_wp2_with fail
    refine (pall_any 4 k _ L ar HA).mono ?_
    rintro e w8 ⟨a1, cp1, rfl, hR, hB⟩
    have B8 := Lib.hid (below_on B7.out (Nat.le_refl _) (made1 hB).2)
    have R8 := Lib.hid hR
    clear hR hB
    go_wp2_with fail
    refine (rAll_any 4 k _ L ar HA).mono ?_
    rintro e w9 ⟨a2, cp2, rfl, hR, hB⟩
    have B9 := Lib.hid (below_on B8.out (Nat.le_refl _) hB)
    have Q9 := Lib.hid (R8.out.below hB)
    have R9 := Lib.hid hR
    clear hR hB
    have hl5 := HLen.out
    go_wp2_with fail
    go_loopw [23] (fun i wr => ∃ j : Nat, i = .int .i64 j ∧ j ≤ L.length ∧ Hid (Reads5 wr a1 L) ∧ Hid (Reads5 wr a2 L) ∧ Hid (Below w.heap.size w wr)) (fun i _ => L.length - (intOf i).toNat)
    case atStart => exact ⟨0, rfl, by omega, Q9, R9, B9⟩
    case round =>
      obtain ⟨j, rfl, hj, HR1, HR2, HB⟩ := hrel
      by_cases hlt : j < L.length
      · obtain ⟨⟨u0, u1, u2, u3, u4⟩, hu⟩ : ∃ y, L[j]?.getD no5 = y := ⟨_, rfl⟩
        obtain ⟨b1, o1, rfl, _, _⟩ := HR1.out j hlt
        obtain ⟨b2, o2, rfl, _, _⟩ := HR2.out j hlt
        obtain ⟨d0, d1, d2, d3, d4⟩ := at5_of HR1.out j hlt hu
        obtain ⟨f0, f1, f2, f3, f4⟩ := at5_of HR2.out j hlt hu
        simp only at d0 d1 d2 d3 d4 f0 f1 f2 f3 f4
        have EU : ∀ W, (Op.equalIn 9999 23 (.agg #[.int .i64 u1, .int .i64 u2, .int .i64 u3, .int .i64 u4]) (.agg #[.int .i64 u1, .int .i64 u2, .int .i64 u3, .int .i64 u4])).run Tryd.prog W = .ok true W := fun W => by rw [eq_arr, decide_eq_true ⟨rfl, rfl, rfl, rfl⟩]
        clear hu
        go_wp2_with fail
        go_quiet (fail)
        rename_i K hK
        refine hK _ _ ?_
        clear hK
        go_wp2_with fail
        go_roundw
        case rel => exact ⟨j + 1, by go_num, by omega, Lib.hid (HR1.out.drewN _), Lib.hid (HR2.out.drewN _), Lib.hid (below_drewN HB.out _)⟩
        case measure => simp [intOf]; omega
      · go_wp2_with (go_at_call 10; refine (awake_any _).mono ?_; rintro e v10 ⟨rfl, hB⟩; have B10 := Lib.hid (below_on HB.out (Nat.le_refl _) hB); clear hB)
        go_ret
        exact ⟨rfl, B10.out⟩
end Go.Proofs.YtddackdghphcnaaDoor.s13

namespace Go.Proofs.YtddackdghphcnaaDoor.s13
set_option linter.unusedVariables false
set_option linter.unusedSimpArgs false
set_option linter.unnecessarySimpa false
open Go.RowKit
open kit

open Go.ChangeShapes Go.WideShapes Go.Deep
theorem array5 {cs : Array Value} (h : cs.size = 5) : ∃ c0 c1 c2 c3 c4, cs = #[c0, c1, c2, c3, c4] := by
  obtain ⟨l⟩ := cs
  match l, h with
  | [a, b, c, d, e], _ => exact ⟨a, b, c, d, e, rfl⟩
set_option maxRecDepth 100000 in
theorem open_look {H : Type} {enc : TypeId × Value → H} {w : World} {r : Reach} {b0 : Nat} {v : Value} {d : DataW H} {p : List MemPlace} (hv : Value.okWide Tryd.prog w r b0 25 v) (h : DataW.Trod enc Tryd.prog w 0 (fun _ => true) true 25 v d p) :
    ∃ (n a b c e : Int), v = .agg #[.int .i64 n, .int .i64 a, .int .i64 b, .int .i64 c, .int .i64 e] ∧ (Lit.int .i64 n).wf = true ∧ (Lit.int .i64 a).wf = true ∧ (Lit.int .i64 b).wf = true ∧ (Lit.int .i64 c).wf = true ∧ (Lit.int .i64 e).wf = true := by
  obtain ⟨cs, rfl, hsz⟩ := okWide_struct Tryd.underlying25 hv
  obtain ⟨c0, c1, c2, c3, c4, rfl⟩ := array5 (hsz.trans (by kernel_rfl))
  obtain ⟨fuel, hf⟩ := h
  obtain ⟨ys, n', hn', hy, hlen, hyl, hff⟩ := DataW.trod_struct Tryd.underlying25 hf
  match ys, hyl with
  | [y0, y1], _ =>
    have f0 : DataW.trod enc Tryd.prog w 0 (fun _ => true) true n' 3 [c0] = some y0 := hff 0 _ rfl
    have f1 : DataW.trod enc Tryd.prog w 0 (fun _ => true) true n' 23 [c1, c2, c3, c4] = some y1 := hff 1 _ rfl
    obtain ⟨z1, z2, z3, z4, n2, _, g1, g2, g3, g4⟩ := trod_array4 Tryd.underlying23 (by kernel_rfl) f1
    obtain ⟨n, e0, _, w0⟩ := DataW.trod_int Tryd.underlying3 f0
    obtain ⟨a, e1, _, w1⟩ := DataW.trod_int Tryd.underlying3 g1
    obtain ⟨b, e2, _, w2⟩ := DataW.trod_int Tryd.underlying3 g2
    obtain ⟨c, e3, _, w3⟩ := DataW.trod_int Tryd.underlying3 g3
    obtain ⟨e, e4, _, w4⟩ := DataW.trod_int Tryd.underlying3 g4
    simp at e0 e1 e2 e3 e4
    exact ⟨n, a, b, c, e, by rw [e0, e1, e2, e3, e4], w0, w1, w2, w3, w4⟩
end Go.Proofs.YtddackdghphcnaaDoor.s13

namespace Go.Proofs.YtddackdghphcnaaDoor.laid
open Go.ChangeShapes Go.WideShapes Go.ChangeAt Go.RowKit
set_option linter.unusedVariables false
set_option maxRecDepth 100000

theorem own : ownKnob Tryd.prog.godebug = none := by kernel_rfl
theorem laidOut : laidOutB Tryd.prog = true := by kernel_rfl
theorem door_met (os : Os) (args : Array Value) : laidMetH Tryd.prog Rows.lookMakesRow.laid ((World.doorLaid Tryd.prog 24 os).forCall (fun _ _ => 0) ⟨#[], args, []⟩).memory :=
  laidMetH_of_parts3 (fuel := 8) (laidMet_of_run' 8 (by kernel_rfl) (by kernel_rfl)) (by kernel_rfl) (by kernel_rfl)
theorem tab_of_laid {W : World} (h : laidMetH Tryd.prog Rows.lookMakesRow.laid W) : s13.Tab W := by
  rw [MakeChecks.laidMetH_plain _ _ _ (by kernel_rfl)] at h
  have h2 := laidMet.tail h
  exact Lib.tabIs_of_head (g := 3) (t := 112) (e := 5) (n := 64) (by kernel_rfl) (by kernel_rfl) (by kernel_rfl) (by kernel_rfl) (by kernel_rfl) (by kernel_rfl) h2
end Go.Proofs.YtddackdghphcnaaDoor.laid
