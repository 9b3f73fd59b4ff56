/-
  Layer 13: the reference's Of and List.
-/
import Derived.Test.YtddackdghphcnaaDoorS13F
import Derived.Test.YtddackdghphcnaaDoorKitInts
namespace Go.Proofs.YtddackdghphcnaaDoor.s13
set_option linter.unusedVariables false
set_option linter.unusedSimpArgs false
open Go.RowKit
open kit

set_option maxRecDepth 100000 in
set_option maxHeartbeats 2000000 in
theorem rof_full (a : Option Addr) (cp : Nat) (l : List Int) (w : World) (h : 4 < l.length) (h2 : l.length ≤ 9223372036854775807) : Calls Tryd.prog 13 #[.slice a l.length cp] w fun e w' => e = .returned (.tuple #[.agg #[.int .i64 0, .int .i64 0, .int .i64 0, .int .i64 0, .int .i64 0], .int .i64 6]) ∧ Below w.heap.size w w' := by
  have h3 : (4 : Int) < l.length := by omega
  clear h
  go_enter Tryd.func13, Tryd.ntmps13
  go_wp2
  exact bodyPost_ret (v := .tuple #[.agg #[.int .i64 0, .int .i64 0, .int .i64 0, .int .i64 0, .int .i64 0], .int .i64 6]) (by simp [results, Tryd.results13, go_sem]) rfl ⟨rfl, (Below.refl _ _).alloc (Nat.le_refl _) _⟩
set_option maxRecDepth 100000 in
set_option maxHeartbeats 4000000 in
theorem rof_some (a : Option Addr) (cp : Nat) (l : List Int) (w : World) (h : l.length ≤ 4) (hr : Hid (ReadsI w a l)) (n0 n1 n2 n3 r : Int) (HP : Hid (pad5 l = ((l.length : Int), n0, n1, n2, n3))) (y : V5) (HB : Hid (∀ i, i < l.length → (l[i]?.getD 0 < 0 ∨ 8 ≤ l[i]?.getD 0) → r = 14 ∧ y = no5)) (HO : Hid ((∀ i, i < l.length → 0 ≤ l[i]?.getD 0 ∧ l[i]?.getD 0 < 8) → r = 0 ∧ y = ((l.length : Int), n0, n1, n2, n3))) :
    Calls Tryd.prog 13 #[.slice a l.length cp] w fun e w' => e = .returned (LE y r) ∧ Below w.heap.size w w' := by
  have h4 : (l.length : Int) ≤ 4 := by omega
  have Y0 := Lib.hid ((Box.new w 25 #[.int .i64 0, .int .i64 0, .int .i64 0, .int .i64 0, .int .i64 0]).alloc (.cells #[.int .i64 l.length, .int .i64 0, .int .i64 0, .int .i64 0, .int .i64 0] 25))
  have X0 := Lib.hid (new2 w (.cells #[.int .i64 0, .int .i64 0, .int .i64 0, .int .i64 0, .int .i64 0] 25) 25 #[.int .i64 l.length, .int .i64 0, .int .i64 0, .int .i64 0, .int .i64 0])
  have B0 : Hid (Below w.heap.size w ((w.alloc (.cells #[.int .i64 0, .int .i64 0, .int .i64 0, .int .i64 0, .int .i64 0] 25)).alloc (.cells #[.int .i64 l.length, .int .i64 0, .int .i64 0, .int .i64 0, .int .i64 0] 25))) := Lib.hid (((Below.refl _ w).alloc (Nat.le_refl _) _).alloc (by simp) _)
  go_enter Tryd.func13, Tryd.ntmps13
  go_wp2
  go_loopw [5] (fun i wr => ∃ (k : Nat) (f : Nat → Int), i = .int .i64 k ∧ k ≤ l.length ∧ Hid (∀ j, f j = if j < k then l[j]?.getD 0 else 0) ∧ Hid (Box wr 25 (w.heap.size + 1) #[.int .i64 l.length, .int .i64 (f 0), .int .i64 (f 1), .int .i64 (f 2), .int .i64 (f 3)]) ∧ Hid (Box wr 25 w.heap.size #[.int .i64 0, .int .i64 0, .int .i64 0, .int .i64 0, .int .i64 0]) ∧ Hid (Below w.heap.size w wr) ∧ Hid (∀ j, j < k → 0 ≤ l[j]?.getD 0 ∧ l[j]?.getD 0 < 8)) (fun i _ => l.length - (intOf i).toNat)
  case atStart => exact ⟨0, fun _ => 0, rfl, by omega, Lib.hid (fun j => by simp), X0, Y0, B0, Lib.hid (fun j hj => by omega)⟩
  case round =>
    obtain ⟨k, f, rfl, hk, HF, HX, HY, HBw, HK⟩ := hrel
    by_cases hlt : k < l.length
    · obtain ⟨b, off, rfl, hb, hc⟩ := (hr.out.below HBw.out) k hlt
      have hbad := Lib.hid (HB.out k hlt)
      have hne : b ≠ w.heap.size + 1 := by
        obtain ⟨b', off', e, hb', _⟩ := hr.out k hlt
        cases e; omega
      have hs := Lib.hid (fun h : 0 ≤ l[k]?.getD 0 ∧ l[k]?.getD 0 < 8 => (fun j (hj : j < k + 1) => if e : j = k then e ▸ h else HK.out j (by omega) : ∀ j, j < k + 1 → 0 ≤ l[j]?.getD 0 ∧ l[j]?.getD 0 < 8))
      have hf2 : Hid (∀ j, upd f k (l[k]?.getD 0) j = if j < k + 1 then l[j]?.getD 0 else 0) := Lib.hid (fun j => by
        unfold upd
        by_cases e : j = k
        · subst e; simp
        · rw [if_neg e, HF.out j]
          by_cases e2 : j < k
          · rw [if_pos e2, if_pos (by omega)]
          · rw [if_neg e2, if_neg (by omega)])
      have hk4 : k < 4 := by omega
      have X2 := Lib.hid (b5_set HX.out k hk4 (l[k]?.getD 0))
      have Y2 := Lib.hid (HY.out.other (b' := w.heap.size + 1) (i := 1 + k) (by omega) (.int .i64 (l[k]?.getD 0)))
      have B2 := Lib.hid (HBw.out.setCell (p := ⟨w.heap.size + 1, 1 + k, none⟩) (by simp) (.int .i64 (l[k]?.getD 0)))
      generalize l[k]?.getD 0 = z at hc hbad hs hf2 X2 Y2 B2
      by_cases hz : z < 0
      · obtain ⟨e1, e2⟩ := hbad.out (.inl hz)
        have E1 := Lib.hid e1
        have E2 := Lib.hid e2
        clear e1 e2
        obtain ⟨v0, v1, v2, v3, v4⟩ := HY.out.cell5
        obtain ⟨g0, g1, g2, g3, g4⟩ := HY.out.free5
        go_wp2
        obtain ⟨z0, z1, z2, z3, z4⟩ := (HY.out.put5 (.int .i64 0) (.int .i64 0) (.int .i64 0) (.int .i64 0) (.int .i64 0)).cell5
        refine bodyPost_ret (v := .tuple #[.agg #[.int .i64 0, .int .i64 0, .int .i64 0, .int .i64 0, .int .i64 0], .int .i64 14]) (by simp [results, Tryd.results13, go_sem, z0, z1, z2, z3, z4]) rfl ⟨by rw [E1.out, E2.out]; rfl, below_put5 HBw.out (Nat.le_refl _) _ _ _ _ _⟩
      · have hz1 : 0 ≤ z := by omega
        have hz2 : decide (z < 0) = false := decide_eq_false hz
        clear hz
        by_cases hz : 8 ≤ z
        · obtain ⟨e1, e2⟩ := hbad.out (.inr hz)
          have E1 := Lib.hid e1
          have E2 := Lib.hid e2
          clear e1 e2
          obtain ⟨v0, v1, v2, v3, v4⟩ := HY.out.cell5
          obtain ⟨g0, g1, g2, g3, g4⟩ := HY.out.free5
          go_wp2
          obtain ⟨z0, z1, z2, z3, z4⟩ := (HY.out.put5 (.int .i64 0) (.int .i64 0) (.int .i64 0) (.int .i64 0) (.int .i64 0)).cell5
          refine bodyPost_ret (v := .tuple #[.agg #[.int .i64 0, .int .i64 0, .int .i64 0, .int .i64 0, .int .i64 0], .int .i64 14]) (by simp [results, Tryd.results13, go_sem, z0, z1, z2, z3, z4]) rfl ⟨by rw [E1.out, E2.out]; rfl, below_put5 HBw.out (Nat.le_refl _) _ _ _ _ _⟩
        · have hz3 : decide (8 ≤ z) = false := decide_eq_false hz
          have hz4 : z < 8 := by omega
          have HS := Lib.hid (hs.out ⟨hz1, hz4⟩)
          have xk := HX.out.place k hk4
          have fk := HX.out.free (1 + k)
          clear hz
          go_wp2
          go_roundw
          case rel => exact ⟨k + 1, upd f k z, by go_num, by omega, hf2, X2, Y2, B2, HS⟩
          case measure => simp [intOf]; omega
    · obtain rfl : k = l.length := by omega
      have hp := HP.out
      simp only [pad5, Prod.mk.injEq] at hp
      obtain ⟨_, p0, p1, p2, p3⟩ := hp
      have hf : ∀ j, f j = l[j]?.getD 0 := fun j => by
        rw [HF.out j]
        by_cases e : j < l.length
        · rw [if_pos e]
        · rw [if_neg e, List.getElem?_eq_none (by omega)]; rfl
      have XN := HX.out
      rw [hf 0, hf 1, hf 2, hf 3, p0, p1, p2, p3] at XN
      obtain ⟨e1, e2⟩ := HO.out HK.out
      have E1 := Lib.hid e1
      have E2 := Lib.hid e2
      clear e1 e2 p0 p1 p2 p3 hf
      obtain ⟨x0, x1, x2, x3, x4⟩ := XN.cell5
      obtain ⟨v0, v1, v2, v3, v4⟩ := HY.out.cell5
      obtain ⟨g0, g1, g2, g3, g4⟩ := HY.out.free5
      clear XN
      go_wp2
      obtain ⟨z0, z1, z2, z3, z4⟩ := (HY.out.put5 (.int .i64 l.length) (.int .i64 n0) (.int .i64 n1) (.int .i64 n2) (.int .i64 n3)).cell5
      refine bodyPost_ret (v := .tuple #[.agg #[.int .i64 l.length, .int .i64 n0, .int .i64 n1, .int .i64 n2, .int .i64 n3], .int .i64 0]) (by simp [results, Tryd.results13, go_sem, z0, z1, z2, z3, z4]) rfl ⟨by rw [E1.out, E2.out], below_put5 HBw.out (Nat.le_refl _) _ _ _ _ _⟩
theorem rof_any (a : Option Addr) (cp : Nat) (l : List Int) (w : World) (h2 : l.length ≤ 9223372036854775807) (hr : ReadsI w a l) (y : V5) (r : Int) (H : Hid (ofP l = (y, r))) :
    Calls Tryd.prog 13 #[.slice a l.length cp] w fun e w' => e = .returned (LE y r) ∧ Below w.heap.size w w' := by
  have h := H.out
  unfold ofP at h
  by_cases hl : 4 < l.length
  · rw [if_pos hl] at h; cases h
    exact rof_full a cp l w hl h2
  · rw [if_neg hl] at h
    have hl4 : l.length ≤ 4 := by omega
    refine rof_some a cp l w hl4 (Lib.hid hr) _ _ _ _ r (Lib.hid rfl) y (Lib.hid fun i hi hb => ?_) (Lib.hid fun hk => ?_)
    · rw [if_neg fun hx => by
        have := hx _ (mem_getD l i hi)
        omega] at h
      cases h; exact ⟨rfl, rfl⟩
    · rw [if_pos fun x hx => by
        obtain ⟨i, hi, rfl⟩ := List.mem_iff_getElem.1 hx
        have := hk i hi
        rw [List.getElem?_eq_getElem hi] at this
        exact this] at h
      cases h; exact ⟨rfl, rfl⟩
theorem Box.under {w w1 : World} {t : TypeId} {b B : Nat} {xs : Array Value} (h : Box w t b xs) (hb : b < B) (hB : Below B w w1) : Box w1 t b xs := (hB.block b hb).trans h
set_option maxRecDepth 100000 in
set_option maxHeartbeats 2000000 in
theorem rlist_bad (n a b c d r : Int) (w : World) (HR : Hid (chkP n a b c d 8 = r)) (hr : (r != 0) = true) : Calls Tryd.prog 15 #[.agg #[.int .i64 n, .int .i64 a, .int .i64 b, .int .i64 c, .int .i64 d]] w fun e w' => e = .returned (.tuple #[.slice none 0 0, .int .i64 r]) ∧ Below w.heap.size w w' := by
  go_enter Tryd.func15, Tryd.ntmps15
  go_wp2_with (go_at_call 19; refine (rcheck_any n a b c d 8 r _ HR).mono ?_; rintro e w1 ⟨rfl, hB⟩; obtain ⟨X1, hB1⟩ := made1 hB; have B1 := Lib.hid hB1; clear hB hB1 X1)
  go_ret2
  exact ⟨rfl, B1.out⟩
set_option maxRecDepth 100000 in
set_option maxHeartbeats 2000000 in
theorem rlist_ok (l : List Int) (N : Nat) (a b c d : Int) (w : World) (HR : Hid (chkP N a b c d 8 = 0)) (hN : N ≤ 4) (HL : Hid (l.length = N)) (HP : Hid (pad5 l = ((N : Int), a, b, c, d))) :
    Calls Tryd.prog 15 #[.agg #[.int .i64 N, .int .i64 a, .int .i64 b, .int .i64 c, .int .i64 d]] w fun e w' => ∃ a' c', e = .returned (.tuple #[.slice a' N c', .int .i64 0]) ∧ ReadsI w' a' l ∧ Below w.heap.size w w' := by
  have n1 : (0 : Int) ≤ N := by omega
  have n2 : (N : Int) ≤ 4 := by omega
  go_enter Tryd.func15, Tryd.ntmps15
  go_wp2_with (go_at_call 19; refine (rcheck_any N a b c d 8 0 _ HR).mono ?_; rintro e w1 ⟨rfl, hB⟩; obtain ⟨X1, hB1⟩ := made1 hB; have B1 := Lib.hid hB1; have X1 := Lib.hid X1; clear hB hB1)
  go_loopw [5, 6] (fun v i wr => ∃ k : Nat, i = .int .i64 k ∧ k ≤ N ∧ Hid (wr.ownsRow (w.heap.size + 1) 3 1 v k ((l.take k).map (Value.int .i64))) ∧ Hid (Box wr 25 w.heap.size #[.int .i64 N, .int .i64 a, .int .i64 b, .int .i64 c, .int .i64 d]) ∧ Hid (Below w.heap.size w wr)) (fun _ i _ => N - (intOf i).toNat)
  case atStart => exact ⟨0, rfl, by omega, Lib.hid (World.ownsRow_nil _ _ _ _), X1, B1⟩
  case round =>
    obtain ⟨k, rfl, hk, HRow, HX, HB⟩ := hrel
    have x0 := HX.out.cell 0
    simp at x0
    by_cases hlt : k < N
    · have hk4 : k < 4 := by omega
      have xk := HX.out.place k hk4
      have hXlt := HX.out.lt
      have hp := Lib.hid (pad5_pl (l := l) (by have := HL.out; omega) HP.out k)
      have hsn : Hid (l.take (k + 1) = l.take k ++ [pl a b c d k]) := Lib.hid (by
        have hkl : k < l.length := by have := HL.out; omega
        rw [List.take_succ_eq_append_getElem hkl, hp.out, List.getElem?_eq_getElem hkl]; rfl)
      generalize pl a b c d k = z at xk hp hsn
      go_wp2_with (at_builtin; refine append_in Tryd.underlying22 info3 rfl (by omega) rfl (.tmp 18) (.tmp 23) rfl (w.heap.size + 1) _ k _ rfl (row_alloc HRow.out _) (some ⟨wr.heap.size, 0, none⟩) [.int .i64 z] 1 1 rfl rfl (src_one wr _ _) (by simp [Value.oneCell']) (by omega) (by simp; omega) ?_; intro v1 wA hv1 hBA; have R1 := Lib.hid hv1; have XA := Lib.hid ((HX.out.alloc (.cells #[.int .i64 z] 3)).under (by omega) hBA); have BA := Lib.hid ((HB.out.alloc HB.out.size (.cells #[.int .i64 z] 3)).trans (hBA.mono (by omega))); clear hv1 hBA)
      go_roundw
      case rel => exact ⟨k + 1, by go_num, by omega, Lib.hid (by rw [hsn.out, List.map_append]; exact R1.out), XA, BA⟩
      case measure => simp [intOf]; omega
    · obtain rfl : k = N := by omega
      obtain ⟨a1, c1, rfl⟩ := row_shape HRow.out
      have hR : Hid (ReadsI wr a1 l) := Lib.hid (by
        have h := HRow.out
        have e : l.take k = l := by rw [← HL.out]; exact List.take_length
        rw [e] at h
        exact reads_of_row HL.out h)
      go_wp2
      go_ret2
      exact ⟨a1, c1, rfl, hR.out, HB.out⟩
end Go.Proofs.YtddackdghphcnaaDoor.s13
