/-
  Layer 13: the laws' begins, parses, numbered, least, made.
-/
import Derived.Test.YtddackdghphcnaaDoorS13AW
import Derived.Test.YtddackdghphcnaaDoorS13MK
import Derived.Test.YtddackdghphcnaaDoorS13N
import Derived.Test.YtddackdghphcnaaDoorS13Y
import Derived.Test.YtddackdghphcnaaDoorKitMod
import Derived.Test.YtddackdghphcnaaDoorS13U
namespace Go.Proofs.YtddackdghphcnaaDoor.s13
set_option linter.unusedVariables false
set_option linter.unusedSimpArgs false
open Go.RowKit
open kit

set_option maxRecDepth 100000 in
set_option maxHeartbeats 2000000 in
theorem lbegins_any (n a b c d n' a' b' c' d' : Int) (w : World) (v x : Bool) (r : Int) (hr : r = 0) (H : Hid (begE (n, a, b, c, d) (n', a', b', c', d') = (v, r))) (y : Bool) (hy : (v == x) = y) :
    Calls Tryd.prog 39 #[.agg #[.int .i64 n, .int .i64 a, .int .i64 b, .int .i64 c, .int .i64 d], .agg #[.int .i64 n', .int .i64 a', .int .i64 b', .int .i64 c', .int .i64 d'], .bool x] w fun e w' => e = .returned (.bool y) ∧ Below w.heap.size w w' := by
  subst hr
  subst hy
  go_enter Tryd.func39, Tryd.ntmps39
  go_wp2_with (go_at_call 27; refine (pbegins_any n a b c d n' a' b' c' d' _ v 0 H).mono ?_; rintro e w1 ⟨rfl, hB⟩; obtain ⟨X1, Y1, hB1⟩ := made2 hB; have B1 := Lib.hid hB1; clear hB hB1 X1 Y1)
  go_ret
  exact ⟨rfl, B1.out⟩
set_option maxRecDepth 100000 in
set_option maxHeartbeats 2000000 in
theorem lnumbered_any (n a b c d t x : Int) (w : World) (hT : Hid (Tab w)) (v r : Int) (hr : r = 0) (H : Hid (numE (n, a, b, c, d) t = (v, r))) (y : Bool) (hy : decide (v = x) = y) :
    Calls Tryd.prog 41 #[.agg #[.int .i64 n, .int .i64 a, .int .i64 b, .int .i64 c, .int .i64 d], .int .i64 t, .int .i64 x] w fun e w' => e = .returned (.bool y) ∧ Below w.heap.size w w' := by
  subst hr
  subst hy
  have T0 := Lib.hid (hT.out.below ((Below.refl w.heap.size w).alloc (Nat.le_refl _) (.cells #[.int .i64 n, .int .i64 a, .int .i64 b, .int .i64 c, .int .i64 d] 25)))
  go_enter Tryd.func41, Tryd.ntmps41
  go_wp2_with (go_at_call 31; refine (pnumber_any n a b c d t _ T0 v 0 H).mono ?_; rintro e w1 ⟨rfl, hB⟩; have B1 := Lib.hid (made1 hB).2; clear hB)
  go_ret
  exact ⟨rfl, B1.out⟩
set_option maxRecDepth 100000 in
set_option maxHeartbeats 2000000 in
theorem lparses_any (s : ByteArray) (x : Int) (w : World) (hs : s.size ≤ 1000) (y0 y1 y2 y3 y4 r : Int) (H : Hid (parseE s = ((y0, y1, y2, y3, y4), r))) (hr : r = x) (hy : r = 0 ∨ (y0 = 0 ∧ y1 = 0 ∧ y2 = 0 ∧ y3 = 0 ∧ y4 = 0)) :
    Calls Tryd.prog 40 #[.string s, .int .i64 x] w fun e w' => e = .returned (.bool true) ∧ Below w.heap.size w w' := by
  subst hr
  have zq : ∀ W, (binOp .eql 25 (.agg #[.int .i64 y0, .int .i64 y1, .int .i64 y2, .int .i64 y3, .int .i64 y4]) (.agg #[.int .i64 0, .int .i64 0, .int .i64 0, .int .i64 0, .int .i64 0])).run Tryd.prog W = .ok (.bool (decide (y0 = 0 ∧ y1 = 0 ∧ y2 = 0 ∧ y3 = 0 ∧ y4 = 0))) W := fun W => eql_look ..
  have zg := guard_look
  by_cases h0 : r = 0
  · subst h0
    clear hy zq
    go_enter Tryd.func40, Tryd.ntmps40
    go_wp2_with (go_at_call 29; refine (pparse_any s _ hs _ 0 H).mono ?_; rintro e w1 ⟨rfl, hB⟩; have B1 := Lib.hid hB; clear hB)
    go_ret
    exact ⟨rfl, B1.out.alloc B1.out.size _⟩
  · have hy2 := hy.resolve_left h0
    rw [decide_eq_true hy2] at zq
    have hne : decide (r = 0) = false := decide_eq_false h0
    clear hy h0 hy2
    go_enter Tryd.func40, Tryd.ntmps40
    go_wp2_with (go_at_call 29; refine (pparse_any s _ hs _ r H).mono ?_; rintro e w1 ⟨rfl, hB⟩; have B1 := Lib.hid hB; clear hB)
    all_goals go_ret
    all_goals exact ⟨rfl, B1.out.alloc B1.out.size _⟩
set_option maxRecDepth 100000 in
set_option maxHeartbeats 2000000 in
theorem lleast_any (n a b c d : Int) (w : World) (y : Int) (hy : (if n = 0 then 0 else -1) = y) : Calls Tryd.prog 44 #[.agg #[.int .i64 n, .int .i64 a, .int .i64 b, .int .i64 c, .int .i64 d]] w fun e w' => e = .returned (.int .i64 y) ∧ Below w.heap.size w w' := by
  by_cases h : n = 0
  · subst h
    rw [if_pos rfl] at hy
    subst hy
    go_enter Tryd.func44, Tryd.ntmps44
    go_wp2
    go_ret
    exact ⟨rfl, (Below.refl _ _).alloc (Nat.le_refl _) _⟩
  · rw [if_neg h] at hy
    subst hy
    go_enter Tryd.func44, Tryd.ntmps44
    go_wp2
    go_ret
    exact ⟨rfl, (Below.refl _ _).alloc (Nat.le_refl _) _⟩
set_option maxRecDepth 100000 in
set_option maxHeartbeats 6000000 in
theorem lmade_any (n : Int) (w : World) (h1 : -9223372036854775808 ≤ n) (h2 : n ≤ 9223372036854775807) : Calls Tryd.prog 42 #[.int .i64 n] w fun e w' => ∃ (l : List Int) (y0 y1 y2 y3 y4 : Int), okL 3 l ∧ pad5 l = (y0, y1, y2, y3, y4) ∧ e = .returned (.agg #[.int .i64 y0, .int .i64 y1, .int .i64 y2, .int .i64 y3, .int .i64 y4]) ∧ Below w.heap.size w w' := by
  obtain ⟨m, hm⟩ : ∃ m : Nat, n % 1073741824 = m := ⟨(n % 1073741824).toNat, by have := Int.emod_nonneg n (show (1073741824 : Int) ≠ 0 by decide); omega⟩
  have hmb : m < 1073741824 := by have := Int.emod_lt_of_pos n (show (0 : Int) < 1073741824 by decide); omega
  obtain ⟨q, hq⟩ : ∃ q : Nat, m % 5 = q := ⟨_, rfl⟩
  have hq4 : q ≤ 4 := by omega
  have hrem : (m : Int).tmod 5 = q := by rw [Int.tmod_eq_emod_of_nonneg (by omega)]; omega
  have HM := Lib.hid hm
  have X0 := Lib.hid (Box.new w 25 #[.int .i64 0, .int .i64 0, .int .i64 0, .int .i64 0, .int .i64 0])
  clear hm hq
  go_enter Tryd.func42, Tryd.ntmps42
  have HMO := fun W => mod_any n 1073741824 h1 h2 (by omega) (by omega) W
  rw [HM.out] at HMO
  go_wp2_with (go_at_call 45; refine (HMO _).mono ?_; rintro e w1 ⟨rfl, rfl⟩)
  go_loopw [4, 5] (fun v i wr => ∃ (k : Nat) (zs : List Int), i = .int .i64 k ∧ k ≤ q ∧ Hid (zs.length = k) ∧ Hid (∀ z ∈ zs, 0 ≤ z ∧ z < 3) ∧ Hid (wr.ownsRow (w.heap.size + 1) 3 1 v k (zs.map (Value.int .i64))) ∧ Hid (Box wr 25 w.heap.size #[.int .i64 0, .int .i64 0, .int .i64 0, .int .i64 0, .int .i64 0]) ∧ Hid (Below w.heap.size w wr)) (fun _ i _ => q - (intOf i).toNat)
  case atStart => exact ⟨0, [], rfl, by omega, Lib.hid rfl, Lib.hid (fun z hz => by cases hz), Lib.hid (World.ownsRow_nil _ _ _ _), X0, Lib.hid ((Below.refl _ _).alloc (Nat.le_refl _) _)⟩
  case round =>
    obtain ⟨k, zs, rfl, hk, HL, HZ, HRow, HX, HB⟩ := hrel
    by_cases hlt : k < q
    · have hXlt := HX.out.lt
      have hk4 : k = 0 ∨ k = 1 ∨ k = 2 ∨ k = 3 := by omega
      rcases hk4 with rfl | rfl | rfl | rfl
      · have z0 : 0 ≤ ((m : Int) / 8 % 3) := by omega
        have z1 : ((m : Int) / 8 % 3) < 3 := by omega
        have HZ2 : Hid (∀ z ∈ zs ++ [((m : Int) / 8 % 3)], 0 ≤ z ∧ z < 3) := Lib.hid (fun z hz => by
          rcases List.mem_append.1 hz with h | h
          · exact HZ.out z h
          · obtain rfl := List.mem_singleton.1 h; exact ⟨z0, z1⟩)
        clear z0 z1
        go_wp2_with (at_builtin; refine append_in Tryd.underlying22 info3 rfl (by omega) rfl (.tmp 14) (.tmp 22) rfl (w.heap.size + 1) _ 0 _ rfl (row_alloc HRow.out _) (some ⟨wr.heap.size, 0, none⟩) [.int .i64 ((m : Int) / 8 % 3)] 1 1 rfl rfl (src_one wr _ _) (by simp [Value.oneCell']) (by omega) (by simp; omega) ?_; intro v1 wA hv1 hBA; have R1 := Lib.hid hv1; have XA := Lib.hid ((HX.out.alloc (.cells #[.int .i64 ((m : Int) / 8 % 3)] 3)).under (by omega) hBA); have BA := Lib.hid ((HB.out.alloc HB.out.size (.cells #[.int .i64 ((m : Int) / 8 % 3)] 3)).trans (hBA.mono (by omega))); clear hv1 hBA)
        go_roundw
        case rel => exact ⟨1, zs ++ [((m : Int) / 8 % 3)], by go_num, by omega, Lib.hid (by rw [List.length_append, HL.out]; rfl), HZ2, Lib.hid (by rw [List.map_append]; exact R1.out), XA, BA⟩
        case measure => simp [intOf]; omega
      · have z0 : 0 ≤ ((m : Int) / 32 % 3) := by omega
        have z1 : ((m : Int) / 32 % 3) < 3 := by omega
        have HZ2 : Hid (∀ z ∈ zs ++ [((m : Int) / 32 % 3)], 0 ≤ z ∧ z < 3) := Lib.hid (fun z hz => by
          rcases List.mem_append.1 hz with h | h
          · exact HZ.out z h
          · obtain rfl := List.mem_singleton.1 h; exact ⟨z0, z1⟩)
        clear z0 z1
        go_wp2_with (at_builtin; refine append_in Tryd.underlying22 info3 rfl (by omega) rfl (.tmp 14) (.tmp 22) rfl (w.heap.size + 1) _ 1 _ rfl (row_alloc HRow.out _) (some ⟨wr.heap.size, 0, none⟩) [.int .i64 ((m : Int) / 32 % 3)] 1 1 rfl rfl (src_one wr _ _) (by simp [Value.oneCell']) (by omega) (by simp; omega) ?_; intro v1 wA hv1 hBA; have R1 := Lib.hid hv1; have XA := Lib.hid ((HX.out.alloc (.cells #[.int .i64 ((m : Int) / 32 % 3)] 3)).under (by omega) hBA); have BA := Lib.hid ((HB.out.alloc HB.out.size (.cells #[.int .i64 ((m : Int) / 32 % 3)] 3)).trans (hBA.mono (by omega))); clear hv1 hBA)
        go_roundw
        case rel => exact ⟨2, zs ++ [((m : Int) / 32 % 3)], by go_num, by omega, Lib.hid (by rw [List.length_append, HL.out]; rfl), HZ2, Lib.hid (by rw [List.map_append]; exact R1.out), XA, BA⟩
        case measure => simp [intOf]; omega
      · have z0 : 0 ≤ ((m : Int) / 128 % 3) := by omega
        have z1 : ((m : Int) / 128 % 3) < 3 := by omega
        have HZ2 : Hid (∀ z ∈ zs ++ [((m : Int) / 128 % 3)], 0 ≤ z ∧ z < 3) := Lib.hid (fun z hz => by
          rcases List.mem_append.1 hz with h | h
          · exact HZ.out z h
          · obtain rfl := List.mem_singleton.1 h; exact ⟨z0, z1⟩)
        clear z0 z1
        go_wp2_with (at_builtin; refine append_in Tryd.underlying22 info3 rfl (by omega) rfl (.tmp 14) (.tmp 22) rfl (w.heap.size + 1) _ 2 _ rfl (row_alloc HRow.out _) (some ⟨wr.heap.size, 0, none⟩) [.int .i64 ((m : Int) / 128 % 3)] 1 1 rfl rfl (src_one wr _ _) (by simp [Value.oneCell']) (by omega) (by simp; omega) ?_; intro v1 wA hv1 hBA; have R1 := Lib.hid hv1; have XA := Lib.hid ((HX.out.alloc (.cells #[.int .i64 ((m : Int) / 128 % 3)] 3)).under (by omega) hBA); have BA := Lib.hid ((HB.out.alloc HB.out.size (.cells #[.int .i64 ((m : Int) / 128 % 3)] 3)).trans (hBA.mono (by omega))); clear hv1 hBA)
        go_roundw
        case rel => exact ⟨3, zs ++ [((m : Int) / 128 % 3)], by go_num, by omega, Lib.hid (by rw [List.length_append, HL.out]; rfl), HZ2, Lib.hid (by rw [List.map_append]; exact R1.out), XA, BA⟩
        case measure => simp [intOf]; omega
      · have z0 : 0 ≤ ((m : Int) / 512 % 3) := by omega
        have z1 : ((m : Int) / 512 % 3) < 3 := by omega
        have HZ2 : Hid (∀ z ∈ zs ++ [((m : Int) / 512 % 3)], 0 ≤ z ∧ z < 3) := Lib.hid (fun z hz => by
          rcases List.mem_append.1 hz with h | h
          · exact HZ.out z h
          · obtain rfl := List.mem_singleton.1 h; exact ⟨z0, z1⟩)
        clear z0 z1
        go_wp2_with (at_builtin; refine append_in Tryd.underlying22 info3 rfl (by omega) rfl (.tmp 14) (.tmp 22) rfl (w.heap.size + 1) _ 3 _ rfl (row_alloc HRow.out _) (some ⟨wr.heap.size, 0, none⟩) [.int .i64 ((m : Int) / 512 % 3)] 1 1 rfl rfl (src_one wr _ _) (by simp [Value.oneCell']) (by omega) (by simp; omega) ?_; intro v1 wA hv1 hBA; have R1 := Lib.hid hv1; have XA := Lib.hid ((HX.out.alloc (.cells #[.int .i64 ((m : Int) / 512 % 3)] 3)).under (by omega) hBA); have BA := Lib.hid ((HB.out.alloc HB.out.size (.cells #[.int .i64 ((m : Int) / 512 % 3)] 3)).trans (hBA.mono (by omega))); clear hv1 hBA)
        go_roundw
        case rel => exact ⟨4, zs ++ [((m : Int) / 512 % 3)], by go_num, by omega, Lib.hid (by rw [List.length_append, HL.out]; rfl), HZ2, Lib.hid (by rw [List.map_append]; exact R1.out), XA, BA⟩
        case measure => simp [intOf]; omega
    · obtain rfl : k = q := by omega
      obtain ⟨a1, c1, rfl⟩ := row_shape HRow.out
      have hrow := HRow.out
      have hR : Hid (ReadsI wr a1 zs) := Lib.hid (reads_of_row HL.out hrow)
      obtain ⟨⟨y0, y1, y2, y3, y4⟩, hy⟩ : ∃ y, pad5 zs = y := ⟨_, rfl⟩
      have HO : Hid (ofP zs = ((y0, y1, y2, y3, y4), 0)) := Lib.hid (by
        unfold ofP
        rw [if_neg (by have := HL.out; omega), if_pos (fun x hx => by have := HZ.out x hx; omega), hy])
      have HY := Lib.hid hy
      have hlo := Lib.hid (lof_any a1 c1 zs wr (by have := HL.out; omega) hR y0 y1 y2 y3 y4 0 HO)
      rw [HL.out] at hlo
      have HOK : Hid (okL 3 zs) := Lib.hid ⟨by have := HL.out; omega, HZ.out⟩
      clear hrow hy
      go_wp2_with (go_at_call 37; refine (hlo.out).mono ?_; rintro e w3 ⟨rfl, hB⟩; have B3 := Lib.hid (below_then HB.out hB); have X3 := Lib.hid (HX.out.below hB); clear hB; obtain ⟨v0, v1, v2, v3, v4⟩ := X3.out.cell5; obtain ⟨g0, g1, g2, g3, g4⟩ := X3.out.free5)
      obtain ⟨z0, z1, z2, z3, z4⟩ := (X3.out.put5 (.int .i64 y0) (.int .i64 y1) (.int .i64 y2) (.int .i64 y3) (.int .i64 y4)).cell5
      exact bodyPost_ret (v := .agg #[.int .i64 y0, .int .i64 y1, .int .i64 y2, .int .i64 y3, .int .i64 y4]) (by simp [results, Tryd.results42, go_sem, z0, z1, z2, z3, z4]) rfl ⟨zs, y0, y1, y2, y3, y4, HOK.out, HY.out, rfl, below_put5 B3.out (by omega) _ _ _ _ _⟩
end Go.Proofs.YtddackdghphcnaaDoor.s13
