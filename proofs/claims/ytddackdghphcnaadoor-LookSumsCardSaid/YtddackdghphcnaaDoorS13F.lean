/-
  Layer 13: the program's Of.
-/
import Derived.Test.YtddackdghphcnaaDoorS13C
import Derived.Test.YtddackdghphcnaaDoorS13CP
import Derived.Test.YtddackdghphcnaaDoorS13RA
namespace Go.Proofs.YtddackdghphcnaaDoor.s13
set_option linter.unusedVariables false
set_option linter.unusedSimpArgs false
open Go.RowKit
open kit

/-- what Of says -/
def ofP (l : List Int) : V5 × Int := if 4 < l.length then (no5, 6) else if (∀ x ∈ l, 0 ≤ x ∧ x < 8) then (pad5 l, 0) else (no5, 14)
/-- a result: a look and an error -/
abbrev LE (x : V5) (e : Int) : Value := .tuple #[.agg #[.int .i64 x.1, .int .i64 x.2.1, .int .i64 x.2.2.1, .int .i64 x.2.2.2.1, .int .i64 x.2.2.2.2], .int .i64 e]
set_option maxRecDepth 100000 in
set_option maxHeartbeats 2000000 in
theorem of_full (a : Option Addr) (cp : Nat) (l : List Int) (w : World) (h : 4 < l.length) (h2 : l.length ≤ 9223372036854775807) : Calls Tryd.prog 12 #[.slice a l.length cp] w fun e w' => e = .returned (.tuple #[.agg #[.int .i64 0, .int .i64 0, .int .i64 0, .int .i64 0, .int .i64 0], .int .i64 6]) ∧ Below w.heap.size w w' := by
  have h3 : (4 : Int) < l.length := by omega
  clear h
  go_enter Tryd.func12, Tryd.ntmps12
  go_wp2
  exact bodyPost_ret (v := .tuple #[.agg #[.int .i64 0, .int .i64 0, .int .i64 0, .int .i64 0, .int .i64 0], .int .i64 6]) (by simp [results, Tryd.results12, go_sem]) rfl ⟨rfl, (Below.refl _ _).alloc (Nat.le_refl _) _⟩
theorem chkP_pad {l : List Int} (hl : l.length ≤ 4) : chkP l.length (l[0]?.getD 0) (l[1]?.getD 0) (l[2]?.getD 0) (l[3]?.getD 0) 8 = if (∀ x ∈ l, 0 ≤ x ∧ x < 8) then 0 else 14 := by
  by_cases h : ∀ x ∈ l, 0 ≤ x ∧ x < 8
  · rw [if_pos h]
    exact pad5_chk (l := l) (t := 8) ⟨hl, h⟩ (by omega) (by omega) rfl
  · rw [if_neg h]
    have hex : ∃ i, ∃ hi : i < l.length, ¬ (0 ≤ l[i] ∧ l[i] < 8) := by
      refine Classical.byContradiction fun hno => h fun x hx => ?_
      obtain ⟨i, hi, rfl⟩ := List.mem_iff_getElem.1 hx
      exact Classical.byContradiction fun hc => hno ⟨i, hi, hc⟩
    obtain ⟨i, hi, hbad⟩ := hex
    have hp := fun j => pad5_pl (l := l) hl (n := l.length) (a := l[0]?.getD 0) (b := l[1]?.getD 0) (c := l[2]?.getD 0) (d := l[3]?.getD 0) rfl j
    refine chkP_sym (by omega) (by omega) hl (fun j h1 h2 => ?_) i hi ?_
    · rw [hp j, List.getElem?_eq_none h1]; rfl
    · rw [hp i, List.getElem?_eq_getElem hi]
      simp only [Option.getD_some]
      omega
set_option maxRecDepth 100000 in
set_option maxHeartbeats 2000000 in
theorem of_some (a : Option Addr) (cp : Nat) (l : List Int) (w : World) (h : l.length ≤ 4) (hr : ReadsI w a l) (n0 n1 n2 n3 r : Int) (HP : Hid (pad5 l = ((l.length : Int), n0, n1, n2, n3))) (HR : Hid (chkP l.length n0 n1 n2 n3 8 = r)) (y : V5) (HY : Hid (y = if r = 0 then ((l.length : Int), n0, n1, n2, n3) else no5)) :
    Calls Tryd.prog 12 #[.slice a l.length cp] w fun e w' => e = .returned (LE y r) ∧ Below w.heap.size w w' := by
  obtain ⟨y0, y1, y2, y3, y4⟩ := y
  have h4 : (l.length : Int) ≤ 4 := by omega
  have Y0 : Box (w.alloc (.cells #[.int .i64 0, .int .i64 0, .int .i64 0, .int .i64 0, .int .i64 0] 25)) 25 w.heap.size #[.int .i64 0, .int .i64 0, .int .i64 0, .int .i64 0, .int .i64 0] := Box.new w _ _
  have X0 : Box ((w.alloc (.cells #[.int .i64 0, .int .i64 0, .int .i64 0, .int .i64 0, .int .i64 0] 25)).alloc (.cells #[.int .i64 0, .int .i64 0, .int .i64 0, .int .i64 0, .int .i64 0] 25)) 25 (w.heap.size + 1) #[.int .i64 0, .int .i64 0, .int .i64 0, .int .i64 0, .int .i64 0] := by
    have := Box.new (w.alloc (.cells #[.int .i64 0, .int .i64 0, .int .i64 0, .int .i64 0, .int .i64 0] 25)) 25 #[.int .i64 0, .int .i64 0, .int .i64 0, .int .i64 0, .int .i64 0]
    rwa [show (w.alloc (.cells #[.int .i64 0, .int .i64 0, .int .i64 0, .int .i64 0, .int .i64 0] 25)).heap.size = w.heap.size + 1 from Array.size_push ..] at this
  have B0 : Below w.heap.size w ((w.alloc (.cells #[.int .i64 0, .int .i64 0, .int .i64 0, .int .i64 0, .int .i64 0] 25)).alloc (.cells #[.int .i64 0, .int .i64 0, .int .i64 0, .int .i64 0, .int .i64 0] 25)) := ((Below.refl _ w).alloc (Nat.le_refl _) _).alloc (by simp) _
  obtain ⟨W, hcl, XW, hO, hBW, hsz⟩ := copy_box (f := fun _ => 0) X0 0 4 4 (some ⟨w.heap.size + 1, 1, none⟩) a l.length cp l (Nat.min_eq_left h).symm (by omega) (hr.below B0) (.inr rfl)
  have hp := HP.out
  have hov : ∀ i, i < 4 → over (fun _ => 0) 0 l i = l[i]?.getD 0 := fun i hi => by
    unfold over
    by_cases e : i < l.length
    · rw [if_pos ⟨Nat.zero_le _, by omega⟩, Nat.sub_zero]
    · rw [if_neg (by omega), List.getElem?_eq_none (by omega)]; rfl
  simp only [pad5, Prod.mk.injEq] at hp
  obtain ⟨_, p0, p1, p2, p3⟩ := hp
  rw [hov 0 (by omega), hov 1 (by omega), hov 2 (by omega), hov 3 (by omega), p0, p1, p2, p3] at XW
  have YW := Lib.hid ((hO _ _ _ (by omega) (Y0.alloc (.cells #[.int .i64 0, .int .i64 0, .int .i64 0, .int .i64 0, .int .i64 0] 25))).other (b' := w.heap.size + 1) (i := 0) (by omega) (.int .i64 l.length))
  have BW := Lib.hid ((hBW w.heap.size w (by omega) B0).setCell (p := ⟨w.heap.size + 1, 0, none⟩) (by simp) (.int .i64 l.length))
  obtain ⟨f0, _, _, _, _⟩ := XW.free5
  obtain ⟨u0, u1, u2, u3, u4⟩ := XW.cell5
  have XN := Lib.hid (XW.set 0 (by simp) (.int .i64 l.length))
  clear p0 p1 p2 p3 hov hr Y0 X0 B0 hO hBW XW hsz
  by_cases hz : r = 0
  · subst hz
    have HYY : Hid ((y0, y1, y2, y3, y4) = ((l.length : Int), n0, n1, n2, n3)) := Lib.hid (by rw [HY.out, if_pos rfl])
    go_enter Tryd.func12, Tryd.ntmps12
    go_wp2_with (go_at_call 18; refine (pcheck_any l.length n0 n1 n2 n3 8 0 _ HR).mono ?_; rintro e w1 ⟨rfl, hB⟩; have Y1 := Lib.hid (YW.out.below hB); have X1 := Lib.hid (XN.out.below hB); have B1 := Lib.hid (below_on BW.out (Nat.le_refl _) hB); clear hB; obtain ⟨v0, v1, v2, v3, v4⟩ := Y1.out.cell5; obtain ⟨g0, g1, g2, g3, g4⟩ := Y1.out.free5; obtain ⟨x0, x1, x2, x3, x4⟩ := X1.out.cell5)
    obtain ⟨z0, z1, z2, z3, z4⟩ := (Y1.out.put5 (.int .i64 l.length) (.int .i64 n0) (.int .i64 n1) (.int .i64 n2) (.int .i64 n3)).cell5
    refine bodyPost_ret (v := .tuple #[.agg #[.int .i64 l.length, .int .i64 n0, .int .i64 n1, .int .i64 n2, .int .i64 n3], .int .i64 0]) (by simp [results, Tryd.results12, go_sem, z0, z1, z2, z3, z4]) rfl ⟨?_, below_put5 B1.out (Nat.le_refl _) _ _ _ _ _⟩
    have e := HYY.out
    simp only [Prod.mk.injEq] at e
    obtain ⟨rfl, rfl, rfl, rfl, rfl⟩ := e
    rfl
  · have HYY : Hid ((y0, y1, y2, y3, y4) = no5) := Lib.hid (by rw [HY.out, if_neg hz])
    have hz2 : (r != 0) = true := by simpa using hz
    clear hz HY
    go_enter Tryd.func12, Tryd.ntmps12
    go_wp2_with (go_at_call 18; refine (pcheck_any l.length n0 n1 n2 n3 8 r _ HR).mono ?_; rintro e w1 ⟨rfl, hB⟩; have Y1 := Lib.hid (YW.out.below hB); have X1 := Lib.hid (XN.out.below hB); have B1 := Lib.hid (below_on BW.out (Nat.le_refl _) hB); clear hB; obtain ⟨v0, v1, v2, v3, v4⟩ := Y1.out.cell5; obtain ⟨g0, g1, g2, g3, g4⟩ := Y1.out.free5; obtain ⟨x0, x1, x2, x3, x4⟩ := X1.out.cell5)
    obtain ⟨z0, z1, z2, z3, z4⟩ := (Y1.out.put5 (.int .i64 0) (.int .i64 0) (.int .i64 0) (.int .i64 0) (.int .i64 0)).cell5
    refine bodyPost_ret (v := .tuple #[.agg #[.int .i64 0, .int .i64 0, .int .i64 0, .int .i64 0, .int .i64 0], .int .i64 r]) (by simp [results, Tryd.results12, go_sem, z0, z1, z2, z3, z4]) rfl ⟨?_, below_put5 B1.out (Nat.le_refl _) _ _ _ _ _⟩
    have e := HYY.out
    simp only [no5, Prod.mk.injEq] at e
    obtain ⟨rfl, rfl, rfl, rfl, rfl⟩ := e
    rfl
theorem of_any (a : Option Addr) (cp : Nat) (l : List Int) (w : World) (h2 : l.length ≤ 9223372036854775807) (hr : ReadsI w a l) (y : V5) (r : Int) (H : Hid (ofP l = (y, r))) :
    Calls Tryd.prog 12 #[.slice a l.length cp] w fun e w' => e = .returned (LE y r) ∧ Below w.heap.size w w' := by
  have h := H.out
  unfold ofP at h
  by_cases hl : 4 < l.length
  · rw [if_pos hl] at h; cases h
    exact of_full a cp l w hl h2
  · rw [if_neg hl] at h
    have hl4 : l.length ≤ 4 := by omega
    have hc := chkP_pad hl4
    by_cases hx : ∀ x ∈ l, 0 ≤ x ∧ x < 8
    · rw [if_pos hx] at h hc; cases h
      exact of_some a cp l w hl4 hr _ _ _ _ 0 (Lib.hid rfl) (Lib.hid hc) _ (Lib.hid rfl)
    · rw [if_neg hx] at h hc; cases h
      exact of_some a cp l w hl4 hr _ _ _ _ 14 (Lib.hid rfl) (Lib.hid hc) _ (Lib.hid rfl)
end Go.Proofs.YtddackdghphcnaaDoor.s13
