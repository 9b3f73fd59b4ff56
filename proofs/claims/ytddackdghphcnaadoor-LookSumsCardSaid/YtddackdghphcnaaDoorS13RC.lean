/-
  Layer 13: the reference's Plus.
-/
import Derived.Test.YtddackdghphcnaaDoorS13RB
import Derived.Test.YtddackdghphcnaaDoorS13CP
import Derived.BigRegion
namespace Go.Proofs.YtddackdghphcnaaDoor.s13
set_option linter.unusedVariables false
set_option linter.unusedSimpArgs false
open Go.RowKit
open kit

theorem upd_snoc {f : Nat → Int} {s : List Int} {n : Nat} (hn : s.length = n) (hf : ∀ j, f j = s[j]?.getD 0) (z : Int) : ∀ j, upd f n z j = (s ++ [z])[j]?.getD 0 := by
  intro j
  unfold upd
  subst hn
  by_cases e : j = s.length
  · subst e; rw [if_pos rfl, List.getElem?_append_right (Nat.le_refl _), Nat.sub_self]; rfl
  · rw [if_neg e, hf]
    by_cases h : j < s.length
    · rw [List.getElem?_append_left h]
    · rw [List.getElem?_eq_none (by omega), List.getElem?_eq_none (by simp; omega)]
/-- the sum's variable -/
def SumBox (w : World) (g : Nat) (s : List Int) : Prop := ∃ f : Nat → Int, (∀ j, f j = s[j]?.getD 0) ∧ Box w 25 g #[.int .i64 s.length, .int .i64 (f 0), .int .i64 (f 1), .int .i64 (f 2), .int .i64 (f 3)]
set_option maxRecDepth 100000 in
set_option maxHeartbeats 4000000 in
theorem rplus_any (l m : List Int) (k N M : Nat) (a b c d a' b' c' d' : Int) (w : World) (hk : k ≤ 4) (hN : N ≤ 4) (hM : M ≤ 4) (HL : Hid (l.length = N)) (HM : Hid (m.length = M)) (HP : Hid (pad5 l = ((N : Int), a, b, c, d))) (HQ : Hid (pad5 m = ((M : Int), a', b', c', d')))
    (y0 y1 y2 y3 y4 : Int) (HY : Hid (pad5 ((l ++ m).take k) = (y0, y1, y2, y3, y4))) :
    Calls Tryd.prog 54 #[.int .i64 k, .agg #[.int .i64 N, .int .i64 a, .int .i64 b, .int .i64 c, .int .i64 d], .agg #[.int .i64 M, .int .i64 a', .int .i64 b', .int .i64 c', .int .i64 d']] w fun e w' => e = .returned (.agg #[.int .i64 y0, .int .i64 y1, .int .i64 y2, .int .i64 y3, .int .i64 y4]) ∧ Below w.heap.size w w' := by
  have i2 : (k : Int) ≤ 4 := by omega
  have n2 : (N : Int) ≤ 4 := by omega
  have m2 : (M : Int) ≤ 4 := by omega
  have X0 := Lib.hid (((Box.new w 25 #[.int .i64 N, .int .i64 a, .int .i64 b, .int .i64 c, .int .i64 d]).alloc (.cells #[.int .i64 M, .int .i64 a', .int .i64 b', .int .i64 c', .int .i64 d'] 25)).alloc (.cells #[.int .i64 0, .int .i64 0, .int .i64 0, .int .i64 0, .int .i64 0] 25) |>.alloc (.cells #[.int .i64 0, .int .i64 0, .int .i64 0, .int .i64 0, .int .i64 0] 25))
  have Y0 := Lib.hid (((new2 w (.cells #[.int .i64 N, .int .i64 a, .int .i64 b, .int .i64 c, .int .i64 d] 25) 25 #[.int .i64 M, .int .i64 a', .int .i64 b', .int .i64 c', .int .i64 d']).alloc (.cells #[.int .i64 0, .int .i64 0, .int .i64 0, .int .i64 0, .int .i64 0] 25)).alloc (.cells #[.int .i64 0, .int .i64 0, .int .i64 0, .int .i64 0, .int .i64 0] 25))
  have R0 := Lib.hid ((new3 w (.cells #[.int .i64 N, .int .i64 a, .int .i64 b, .int .i64 c, .int .i64 d] 25) (.cells #[.int .i64 M, .int .i64 a', .int .i64 b', .int .i64 c', .int .i64 d'] 25) 25 #[.int .i64 0, .int .i64 0, .int .i64 0, .int .i64 0, .int .i64 0]).alloc (.cells #[.int .i64 0, .int .i64 0, .int .i64 0, .int .i64 0, .int .i64 0] 25))
  have S0 := Lib.hid (new4 w (.cells #[.int .i64 N, .int .i64 a, .int .i64 b, .int .i64 c, .int .i64 d] 25) (.cells #[.int .i64 M, .int .i64 a', .int .i64 b', .int .i64 c', .int .i64 d'] 25) (.cells #[.int .i64 0, .int .i64 0, .int .i64 0, .int .i64 0, .int .i64 0] 25) 25 #[.int .i64 0, .int .i64 0, .int .i64 0, .int .i64 0, .int .i64 0])
  have B0 : Hid (Below w.heap.size w ((((w.alloc (.cells #[.int .i64 N, .int .i64 a, .int .i64 b, .int .i64 c, .int .i64 d] 25)).alloc (.cells #[.int .i64 M, .int .i64 a', .int .i64 b', .int .i64 c', .int .i64 d'] 25)).alloc (.cells #[.int .i64 0, .int .i64 0, .int .i64 0, .int .i64 0, .int .i64 0] 25)).alloc (.cells #[.int .i64 0, .int .i64 0, .int .i64 0, .int .i64 0, .int .i64 0] 25))) := Lib.hid (((((Below.refl w.heap.size w).alloc (Nat.le_refl _) _).alloc (by simp) _).alloc (by simp; omega) _).alloc (by simp; omega) _)
  go_enter Tryd.func54, Tryd.ntmps54
  go_wp2
  go_loopw [8] (fun i wr => ∃ (j : Nat) (f : Nat → Int), i = .int .i64 j ∧ j ≤ N ∧ j ≤ k ∧ Hid (∀ i, f i = (l.take j)[i]?.getD 0) ∧ Hid (Box wr 25 (w.heap.size + 1 + 1 + 1) #[.int .i64 j, .int .i64 (f 0), .int .i64 (f 1), .int .i64 (f 2), .int .i64 (f 3)]) ∧ Hid (Box wr 25 w.heap.size #[.int .i64 N, .int .i64 a, .int .i64 b, .int .i64 c, .int .i64 d]) ∧ Hid (Box wr 25 (w.heap.size + 1) #[.int .i64 M, .int .i64 a', .int .i64 b', .int .i64 c', .int .i64 d']) ∧ Hid (Box wr 25 (w.heap.size + 1 + 1) #[.int .i64 0, .int .i64 0, .int .i64 0, .int .i64 0, .int .i64 0]) ∧ Hid (Below w.heap.size w wr)) (fun i _ => N - (intOf i).toNat)
  case atStart => exact ⟨0, fun _ => 0, rfl, by omega, by omega, Lib.hid (fun i => by simp), S0, X0, Y0, R0, B0⟩
  case round =>
    obtain ⟨j, f, rfl, hj, hjk, HF, HS, HX, HYB, HRB, HB⟩ := hrel
    have s0 := HS.out.cell 0
    have x0 := HX.out.cell 0
    have y0' := HYB.out.cell 0
    have sf0 := HS.out.free 0
    simp at s0 x0 y0'
    by_cases hlt : j < N ∧ j < k
    · obtain ⟨hl1, hl2⟩ := hlt
      have j4 : j < 4 := by omega
      have xk := HX.out.place j j4
      have sk : wr.cell? ⟨w.heap.size + 1 + 1 + 1, 1 + j, none⟩ = some (.int .i64 (pl (f 0) (f 1) (f 2) (f 3) j)) := HS.out.place j j4
      have sf := HS.out.free (1 + j)
      have hz := Lib.hid (pad5_pl (l := l) (by have := HL.out; omega) HP.out j)
      have hF2 : Hid (∀ i, upd f j (pl a b c d j) i = (l.take (j + 1))[i]?.getD 0) := Lib.hid (by
        have hjl : j < l.length := by have := HL.out; omega
        rw [List.take_succ_eq_append_getElem hjl]
        have e : pl a b c d j = l[j] := by rw [hz.out, List.getElem?_eq_getElem hjl]; rfl
        rw [e]
        exact upd_snoc (by rw [List.length_take]; omega) HF.out _)
      generalize pl a b c d j = z at xk hF2 hz
      have S2 := Lib.hid ((b5_set HS.out j j4 z).set 0 (by simp) (.int .i64 (j + 1 : Nat)))
      have X2 := Lib.hid ((HX.out.other (b' := w.heap.size + 1 + 1 + 1) (i := 1 + j) (by omega) (.int .i64 z)).other (b' := w.heap.size + 1 + 1 + 1) (i := 0) (by omega) (.int .i64 (j + 1 : Nat)))
      have Y2 := Lib.hid ((HYB.out.other (b' := w.heap.size + 1 + 1 + 1) (i := 1 + j) (by omega) (.int .i64 z)).other (b' := w.heap.size + 1 + 1 + 1) (i := 0) (by omega) (.int .i64 (j + 1 : Nat)))
      have R2 := Lib.hid ((HRB.out.other (b' := w.heap.size + 1 + 1 + 1) (i := 1 + j) (by omega) (.int .i64 z)).other (b' := w.heap.size + 1 + 1 + 1) (i := 0) (by omega) (.int .i64 (j + 1 : Nat)))
      have B2 := Lib.hid ((HB.out.drew.setCell (p := ⟨w.heap.size + 1 + 1 + 1, 1 + j, none⟩) (by simp; omega) (.int .i64 z)).setCell (p := ⟨w.heap.size + 1 + 1 + 1, 0, none⟩) (by simp; omega) (.int .i64 (j + 1 : Nat)))
      go_wp2
      go_region
      go_wp2
      go_roundw
      case rel => exact ⟨j + 1, upd f j z, by go_num, by omega, by omega, hF2, S2, X2, Y2, R2, B2⟩
      case measure => simp [intOf]; omega
    · have hq : j = min N k := by omega
      have hs2 : Hid (∀ i, f i = (l.take j ++ m.take 0)[i]?.getD 0) := Lib.hid (by simpa using HF.out)
      have hor : (¬ (j : Int) < N) ∨ ((j : Int) < N ∧ decide (j < k) = false) := by
        by_cases h1 : j < N
        · exact .inr ⟨by omega, decide_eq_false (by omega)⟩
        · exact .inl (by omega)
      have HQQ := Lib.hid hq
      clear hlt hq
      rcases hor with t1 | ⟨t1, t2⟩
      all_goals
        go_wp2
        clear s0 x0 y0' sf0
        go_loopw [9] (fun i wx => ∃ (j2 : Nat) (f2 : Nat → Int), i = .int .i64 j2 ∧ j2 ≤ M ∧ j + j2 ≤ k ∧ Hid (∀ i, f2 i = (l.take j ++ m.take j2)[i]?.getD 0) ∧ Hid (Box wx 25 (w.heap.size + 1 + 1 + 1) #[.int .i64 (j + j2 : Nat), .int .i64 (f2 0), .int .i64 (f2 1), .int .i64 (f2 2), .int .i64 (f2 3)]) ∧ Hid (Box wx 25 (w.heap.size + 1) #[.int .i64 M, .int .i64 a', .int .i64 b', .int .i64 c', .int .i64 d']) ∧ Hid (Box wx 25 (w.heap.size + 1 + 1) #[.int .i64 0, .int .i64 0, .int .i64 0, .int .i64 0, .int .i64 0]) ∧ Hid (Below w.heap.size w wx)) (fun i _ => M - (intOf i).toNat)
        case atStart => exact ⟨0, f, rfl, by omega, by omega, hs2, HS, HYB, HRB, HB⟩
        case round =>
          obtain ⟨j2, f2, rfl, hj2, hjk2, HF2, HS2, HY2, HR2, HB2⟩ := hrel
          have s0 := HS2.out.cell 0
          have y0' := HY2.out.cell 0
          have sf0 := HS2.out.free 0
          simp at s0 y0'
          by_cases hlt2 : j2 < M ∧ j + j2 < k
          · obtain ⟨hl1, hl2⟩ := hlt2
            have j4 : j2 < 4 := by omega
            have jj4 : j + j2 < 4 := by omega
            have yk := HY2.out.place j2 j4
            have sk : wr.cell? ⟨w.heap.size + 1 + 1 + 1, 1 + (j + j2), none⟩ = some (.int .i64 (pl (f2 0) (f2 1) (f2 2) (f2 3) (j + j2))) := HS2.out.place (j + j2) jj4
            have sf := HS2.out.free (1 + (j + j2))
            have hz := Lib.hid (pad5_pl (l := m) (by have := HM.out; omega) HQ.out j2)
            have hF2 : Hid (∀ i, upd f2 (j + j2) (pl a' b' c' d' j2) i = (l.take j ++ m.take (j2 + 1))[i]?.getD 0) := Lib.hid (by
              have hjl : j2 < m.length := by have := HM.out; omega
              rw [List.take_succ_eq_append_getElem hjl, ← List.append_assoc]
              have e : pl a' b' c' d' j2 = m[j2] := by rw [hz.out, List.getElem?_eq_getElem hjl]; rfl
              rw [e]
              have hll := HL.out
              exact upd_snoc (by rw [List.length_append, List.length_take, List.length_take]; omega) HF2.out _)
            generalize pl a' b' c' d' j2 = z at yk hF2 hz
            have S3 := Lib.hid ((b5_set HS2.out (j + j2) jj4 z).set 0 (by simp) (.int .i64 (j + (j2 + 1) : Nat)))
            have Y3 := Lib.hid ((HY2.out.other (b' := w.heap.size + 1 + 1 + 1) (i := 1 + (j + j2)) (by omega) (.int .i64 z)).other (b' := w.heap.size + 1 + 1 + 1) (i := 0) (by omega) (.int .i64 (j + (j2 + 1) : Nat)))
            have R3 := Lib.hid ((HR2.out.other (b' := w.heap.size + 1 + 1 + 1) (i := 1 + (j + j2)) (by omega) (.int .i64 z)).other (b' := w.heap.size + 1 + 1 + 1) (i := 0) (by omega) (.int .i64 (j + (j2 + 1) : Nat)))
            have B3 := Lib.hid ((HB2.out.drew.setCell (p := ⟨w.heap.size + 1 + 1 + 1, 1 + (j + j2), none⟩) (by simp; omega) (.int .i64 z)).setCell (p := ⟨w.heap.size + 1 + 1 + 1, 0, none⟩) (by simp; omega) (.int .i64 (j + (j2 + 1) : Nat)))
            go_wp2
            go_region
            go_wp2
            go_roundw
            case rel => exact ⟨j2 + 1, upd f2 (j + j2) z, by go_num, by omega, by omega, hF2, S3, Y3, R3, B3⟩
            case measure => simp [intOf]; omega
          · have hor2 : (¬ (j2 : Int) < M) ∨ ((j2 : Int) < M ∧ decide ((j : Int) + (j2 : Int) < (k : Int)) = false) := by
              by_cases h1 : j2 < M
              · exact .inr ⟨by omega, decide_eq_false (by omega)⟩
              · exact .inl (by omega)
            have hfin : l.take j ++ m.take j2 = (l ++ m).take k := by
              have e1 := HL.out
              have e2 := HM.out
              have e3 := HQQ.out
              rw [List.take_append]
              by_cases h1 : N ≤ k
              · have : j = N := by omega
                rw [List.take_of_length_le (l := l) (i := j) (by omega), List.take_of_length_le (l := l) (i := k) (by omega)]
                congr 1
                by_cases h2 : j2 < M
                · congr 1; omega
                · rw [List.take_of_length_le (by omega), List.take_of_length_le (by omega)]
              · have h3 : j = k := by omega
                have h4 : j2 = 0 := by omega
                rw [h3, h4, show k - l.length = 0 by omega]
            have hy := HY.out
            rw [← hfin] at hy
            simp only [pad5, Prod.mk.injEq] at hy
            obtain ⟨p0, p1, p2, p3, p4⟩ := hy
            have p5 : (j : Int) + (j2 : Int) = y0 := by
              rw [← p0, List.length_append, List.length_take, List.length_take, HL.out, HM.out]
              have := HQQ.out
              omega
            have SN := HS2.out
            rw [HF2.out 0, HF2.out 1, HF2.out 2, HF2.out 3, p1, p2, p3, p4] at SN
            obtain ⟨q0, q1, q2, q3, q4⟩ := SN.cell5
            obtain ⟨v0, v1, v2, v3, v4⟩ := HR2.out.cell5
            obtain ⟨g0, g1, g2, g3, g4⟩ := HR2.out.free5
            have P5 := Lib.hid p5
            clear hfin p0 p1 p2 p3 p4 p5 SN hlt2
            rcases hor2 with t3 | ⟨t3, t4⟩
            all_goals
              go_wp2
              obtain ⟨z0, z1, z2, z3, z4⟩ := (HR2.out.put5 (.int .i64 ((j : Int) + (j2 : Int))) (.int .i64 y1) (.int .i64 y2) (.int .i64 y3) (.int .i64 y4)).cell5
              exact bodyPost_ret (v := .agg #[.int .i64 ((j : Int) + (j2 : Int)), .int .i64 y1, .int .i64 y2, .int .i64 y3, .int .i64 y4]) (by simp [results, Tryd.results54, go_sem, z0, z1, z2, z3, z4]) rfl ⟨by rw [P5.out], below_put5 HB2.out (by omega) _ _ _ _ _⟩
end Go.Proofs.YtddackdghphcnaaDoor.s13
