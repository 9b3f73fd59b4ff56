/-
  Layer 13: the program's isDigits.
-/
import Derived.Test.YtddackdghphcnaaDoorS13Q
import Derived.Test.YtddackdghphcnaaDoorS13RB
import Derived.Lib.ConvBytes
namespace Go.Proofs.YtddackdghphcnaaDoor.s13
set_option linter.unusedVariables false
set_option linter.unusedSimpArgs false
open Go.RowKit
open kit

theorem bytes_below (w : World) (e : TypeId) (s : ByteArray) : Below w.heap.size w (Lib.bytesWorld w e s) :=
  ⟨by simp [Lib.bytesWorld, World.freeze]; rfl, by simp [Lib.bytesWorld, World.freeze], by simp [Lib.bytesWorld, World.freeze]; rfl, by rw [Lib.bytesWorld_size]; omega, fun k hk => Lib.bytesWorld_at_old w e s k hk⟩
set_option maxRecDepth 100000 in
set_option maxHeartbeats 2000000 in
theorem isdigits_any (s : ByteArray) (w : World) (hs : s.size ≤ 9223372036854775807) : Calls Tryd.prog 58 #[.string s] w fun e w' => e = .returned (.bool (isDg s)) ∧ Below w.heap.size w w' := by
  have hcv := Lib.run_convert_string_bytes w 9 67 5 s Tryd.underlying9 Tryd.underlying67 Tryd.underlying5
  have hcl := Lib.hid (fun j hj => Lib.bytesWorld_cell w 5 s j hj)
  have hB := Lib.hid (bytes_below w 5 s)
  generalize Lib.bytesWorld w 5 s = W at hcv hcl hB
  generalize grownCap w s.size 0 5 = cp at hcv
  go_enter Tryd.func58, Tryd.ntmps58
  go_wp2
  go_loop [8] (fun i => ∃ k : Nat, i = .int .i64 k ∧ k ≤ s.size ∧ Hid (∀ j, j < k → fitZ j (byt s j) = true)) (fun i => s.size - (intOf i).toNat)
  case atStart => exact ⟨0, rfl, by omega, Lib.hid (fun j hj => by omega)⟩
  case round =>
    obtain ⟨k, rfl, hk, HK⟩ := hrel
    by_cases hlt : k < s.size
    · have hc : W.cell? ⟨w.heap.size, k, none⟩ = some (.int .u8 (byt s k)) := hcl.out k hlt
      have hr := byt_range s k
      have hno := Lib.hid (isDg_no (s := s) k hlt)
      have hs2 := Lib.hid (fun h : fitZ k (byt s k) = true => (fun j (hj : j < k + 1) => if e : j = k then e ▸ h else HK.out j (by omega) : ∀ j, j < k + 1 → fitZ j (byt s j) = true))
      generalize byt s k = z at hc hr hno hs2
      obtain ⟨z0, z1⟩ := hr
      by_cases hp : k % 2 = 0
      · have hp2 : (k : Int) % 2 = 0 := by omega
        have hfe := Lib.hid (fit_even hp z)
        clear hp
        by_cases hz : z < 48
        · have hN := Lib.hid (hno.out (hfe.out.trans (decide_eq_false (by omega))))
          go_wp2
          go_ret
          exact ⟨ret_bool hN.out.symm, hB.out⟩
        · have hz2 : decide (z < 48) = false := decide_eq_false hz
          by_cases hz3 : 57 < z
          · have hN := Lib.hid (hno.out (hfe.out.trans (decide_eq_false (by omega))))
            clear hz
            go_wp2
            go_ret
            exact ⟨ret_bool hN.out.symm, hB.out⟩
          · have hz4 : decide (57 < z) = false := decide_eq_false hz3
            have hS := Lib.hid (hs2.out (hfe.out.trans (decide_eq_true (by omega))))
            clear hz hz3
            go_wp2
            go_round
            case rel => exact ⟨k + 1, by go_num, by omega, hS⟩
            case measure => simp [intOf]; omega
      · have hp2 : (k : Int) % 2 = 1 := by omega
        have hfo := Lib.hid (fit_odd (i := k) (by omega) z)
        clear hp
        by_cases hz : z = 32
        · have hS := Lib.hid (hs2.out (hfo.out.trans (decide_eq_true hz)))
          subst hz
          go_wp2
          go_round
          case rel => exact ⟨k + 1, by go_num, by omega, hS⟩
          case measure => simp [intOf]; omega
        · have hN := Lib.hid (hno.out (hfo.out.trans (decide_eq_false hz)))
          have hz2 : (z != 32) = true := by simpa using hz
          clear hz
          go_wp2
          go_ret
          exact ⟨ret_bool hN.out.symm, hB.out⟩
    · obtain rfl : k = s.size := by omega
      have hE := isDg_len HK.out
      by_cases hp : s.size % 2 = 1
      · have hp2 : (s.size : Int) % 2 = 1 := by omega
        rw [decide_eq_true hp] at hE
        have HE := Lib.hid hE
        clear hE hp
        go_wp2
        go_ret
        exact ⟨ret_bool HE.out.symm, hB.out⟩
      · have hp2 : (s.size : Int) % 2 = 0 := by omega
        rw [decide_eq_false hp] at hE
        have HE := Lib.hid hE
        clear hE hp
        go_wp2
        go_ret
        exact ⟨ret_bool HE.out.symm, hB.out⟩
theorem vals_len (s : ByteArray) : (vals s).length = (s.size + 1) / 2 := by unfold vals; simp
theorem vals_take (s : ByteArray) (j : Nat) (h : j < (s.size + 1) / 2) : (vals s).take (j + 1) = (vals s).take j ++ [byt s (2 * j) - 48] := by
  have hl : j < (vals s).length := by rw [vals_len]; exact h
  rw [List.take_succ_eq_append_getElem hl]
  have e : (vals s)[j] = byt s (2 * j) - 48 := by
    have h2 : (vals s)[j]? = some (byt s (2 * j) - 48) := by unfold vals; rw [List.getElem?_map, List.getElem?_range h]; rfl
    rw [List.getElem?_eq_getElem hl] at h2
    exact Option.some.inj h2
  rw [e]
theorem isDg_yes {s : ByteArray} (h : isDg s = true) : s.size % 2 = 1 ∧ ∀ i, i < s.size → fitZ i (byt s i) = true := of_decide_eq_true h
theorem byt_get {s : ByteArray} {i : Nat} (hi : i < s.size) : ((s[i]'hi).toNat : Int) = byt s i := by
  unfold byt
  have h : s.data.toList.getD i 0 = s[i]'hi := by
    rw [List.getD_eq_getElem?_getD, List.getElem?_eq_getElem (by simpa using hi)]
    rfl
  rw [h]
set_option maxRecDepth 100000 in
set_option maxHeartbeats 2000000 in
theorem pparse_dash (w : World) : Calls Tryd.prog 29 #[.string ⟨#[45]⟩] w fun e w' => e = .returned (LE no5 0) ∧ Below w.heap.size w w' := by
  go_enter Tryd.func29, Tryd.ntmps29
  go_wp2
  exact bodyPost_ret (v := .tuple #[.agg #[.int .i64 0, .int .i64 0, .int .i64 0, .int .i64 0, .int .i64 0], .int .i64 0]) (by simp [results, Tryd.results29, go_sem]) rfl ⟨rfl, (Below.refl _ _).alloc (Nat.le_refl _) _⟩
set_option maxRecDepth 100000 in
set_option maxHeartbeats 2000000 in
theorem pparse_form (s : ByteArray) (w : World) (hs : s.size ≤ 9223372036854775807) (hd : (s.toList == [45]) = false) (hn : Hid (isDg s = false)) : Calls Tryd.prog 29 #[.string s] w fun e w' => e = .returned (LE no5 3) ∧ Below w.heap.size w w' := by
  go_enter Tryd.func29, Tryd.ntmps29
  go_wp2_with (go_at_call 58; refine (isdigits_any s _ hs).mono ?_; rintro e w1 ⟨rfl, hB⟩; rw [hn.out]; obtain ⟨X1, hB1⟩ := made1 hB; have X1 := Lib.hid X1; have B1 := Lib.hid hB1; clear hB hB1; obtain ⟨v0, v1, v2, v3, v4⟩ := X1.out.cell5; obtain ⟨g0, g1, g2, g3, g4⟩ := X1.out.free5)
  obtain ⟨z0, z1, z2, z3, z4⟩ := (X1.out.put5 (.int .i64 0) (.int .i64 0) (.int .i64 0) (.int .i64 0) (.int .i64 0)).cell5
  exact bodyPost_ret (v := .tuple #[.agg #[.int .i64 0, .int .i64 0, .int .i64 0, .int .i64 0, .int .i64 0], .int .i64 3]) (by simp [results, Tryd.results29, go_sem, z0, z1, z2, z3, z4]) rfl ⟨rfl, below_put5 B1.out (by omega) _ _ _ _ _⟩
set_option maxRecDepth 100000 in
set_option maxHeartbeats 4000000 in
theorem pparse_ok (s : ByteArray) (w : World) (hs : s.size ≤ 1000) (hd : (s.toList == [45]) = false) (hn : Hid (isDg s = true)) (y : V5) (r : Int) (HY : Hid (ofP (vals s) = (y, r))) : Calls Tryd.prog 29 #[.string s] w fun e w' => e = .returned (LE y r) ∧ Below w.heap.size w w' := by
  obtain ⟨y0, y1, y2, y3, y4⟩ := y
  go_enter Tryd.func29, Tryd.ntmps29
  go_wp2_with (go_at_call 58; refine (isdigits_any s _ (by omega)).mono ?_; rintro e w1 ⟨rfl, hB⟩; rw [hn.out]; obtain ⟨X1, hB1⟩ := made1 hB; have X1 := Lib.hid X1; have B1 := Lib.hid hB1; clear hB hB1)
  go_loopw [4, 5] (fun v i wr => ∃ j q : Nat, i = .int .i64 q ∧ Hid (q = 2 * j) ∧ q ≤ s.size + 1 ∧ Hid (wr.ownsRow (w.heap.size + 1) 3 1 v j (((vals s).take j).map (Value.int .i64))) ∧ Hid (Box wr 25 w.heap.size #[.int .i64 0, .int .i64 0, .int .i64 0, .int .i64 0, .int .i64 0]) ∧ Hid (Below w.heap.size w wr)) (fun _ i _ => s.size + 2 - (intOf i).toNat)
  case atStart => exact ⟨0, 0, rfl, Lib.hid rfl, by omega, Lib.hid (World.ownsRow_nil _ _ _ _), X1, B1⟩
  case round =>
    obtain ⟨j, q, rfl, HQ, hq, HRow, HX, HB⟩ := hrel
    have hodd := Lib.hid (isDg_yes hn.out).1
    by_cases hlt : q < s.size
    · have hXlt := HX.out.lt
      have hb := byt_get hlt
      have hft := (isDg_yes hn.out).2 q hlt
      rw [fit_even (by have := HQ.out; omega)] at hft
      have hrg := of_decide_eq_true hft
      have hsn := vals_take s j (by have := HQ.out; omega)
      rw [← HQ.out, ← hb] at hsn
      rw [← hb] at hrg
      obtain ⟨z0, z1⟩ := hrg
      have HSN := Lib.hid hsn
      have hq3 : q + 2 ≤ s.size + 1 := by have := HQ.out; have := hodd.out; omega
      clear hft hsn hb
      go_wp2_with (at_builtin; refine append_in Tryd.underlying22 info3 rfl (by omega) rfl (.tmp 19) (.tmp 25) rfl (w.heap.size + 1) _ j _ rfl (row_alloc HRow.out _) (some ⟨wr.heap.size, 0, none⟩) [.int .i64 ((s[q].toNat : Int) - 48)] 1 1 rfl rfl (src_one wr _ _) (by simp [Value.oneCell']) (by have := HQ.out; omega) (by simp; omega) ?_; intro v1 wA hv1 hBA; have R1 := Lib.hid hv1; have XA := Lib.hid ((HX.out.alloc (.cells #[.int .i64 ((s[q].toNat : Int) - 48)] 3)).under (by omega) hBA); have BA := Lib.hid ((HB.out.alloc HB.out.size (.cells #[.int .i64 ((s[q].toNat : Int) - 48)] 3)).trans (hBA.mono (by omega))); clear hv1 hBA)
      go_roundw
      case rel => exact ⟨j + 1, q + 2, by go_num, Lib.hid (by have := HQ.out; omega), by omega, Lib.hid (by rw [HSN.out, List.map_append]; exact R1.out), XA, BA⟩
      case measure => simp [intOf]; omega
    · have hj : j = (vals s).length := by rw [vals_len]; have := HQ.out; have := hodd.out; omega
      have hrow := HRow.out
      rw [hj, List.take_length] at hrow
      obtain ⟨a1, c1, rfl⟩ := row_shape HRow.out
      rw [← hj] at hrow
      have hR : ReadsI wr a1 (vals s) := reads_of_row hj.symm hrow
      have HO := Lib.hid (of_any a1 c1 (vals s) wr (by rw [vals_len]; omega) hR (y0, y1, y2, y3, y4) r HY)
      rw [← hj] at HO
      clear hrow hR hj
      go_wp2_with (go_at_call 12; refine (HO.out).mono ?_; rintro e w3 ⟨rfl, hB⟩; have B3 := Lib.hid (below_then HB.out hB); have X3 := Lib.hid (HX.out.below hB); clear hB; obtain ⟨v0, v1, v2, v3, v4⟩ := X3.out.cell5; obtain ⟨g0, g1, g2, g3, g4⟩ := X3.out.free5)
      obtain ⟨z0, z1, z2, z3, z4⟩ := (X3.out.put5 (.int .i64 y0) (.int .i64 y1) (.int .i64 y2) (.int .i64 y3) (.int .i64 y4)).cell5
      exact bodyPost_ret (v := .tuple #[.agg #[.int .i64 y0, .int .i64 y1, .int .i64 y2, .int .i64 y3, .int .i64 y4], .int .i64 r]) (by simp [results, Tryd.results29, go_sem, z0, z1, z2, z3, z4]) rfl ⟨rfl, below_put5 B3.out (by omega) _ _ _ _ _⟩
theorem str_ne {s : ByteArray} (h : ¬ s = ⟨#[45]⟩) : (s.toList == [45]) = false := by
  have h2 := str_beq_false (b := ⟨#[45]⟩) h
  rwa [show (⟨#[45]⟩ : ByteArray).toList = [45] by decide +kernel] at h2
theorem pparse_any (s : ByteArray) (w : World) (hs : s.size ≤ 1000) (y : V5) (r : Int) (H : Hid (parseE s = (y, r))) : Calls Tryd.prog 29 #[.string s] w fun e w' => e = .returned (LE y r) ∧ Below w.heap.size w w' := by
  have h := H.out
  unfold parseE at h
  by_cases h1 : s = ⟨#[45]⟩
  · rw [if_pos h1] at h; cases h; subst h1
    exact pparse_dash w
  · rw [if_neg h1] at h
    by_cases h2 : isDg s = false
    · rw [if_pos h2] at h; cases h
      exact pparse_form s w (by omega) (str_ne h1) (Lib.hid h2)
    · rw [if_neg h2] at h
      exact pparse_ok s w hs (str_ne h1) (Lib.hid (by simpa using h2)) y r (Lib.hid h)
end Go.Proofs.YtddackdghphcnaaDoor.s13
