/-
  Layer 13: the reference's Text.
-/
import Derived.Test.YtddackdghphcnaaDoorS13T
import Derived.Test.YtddackdghphcnaaDoorS13RB
namespace Go.Proofs.YtddackdghphcnaaDoor.s13
set_option linter.unusedVariables false
set_option linter.unusedSimpArgs false
open Go.RowKit
open kit

set_option maxRecDepth 100000 in
set_option maxHeartbeats 2000000 in
theorem rtext_bad (n a b c d r : Int) (w : World) (HR : Hid (chkP n a b c d 8 = r)) (hr : (r != 0) = true) : Calls Tryd.prog 17 #[.agg #[.int .i64 n, .int .i64 a, .int .i64 b, .int .i64 c, .int .i64 d]] w fun e w' => e = .returned (.tuple #[.string ⟨#[]⟩, .int .i64 r]) ∧ Below w.heap.size w w' := by
  go_enter Tryd.func17, Tryd.ntmps17
  go_wp2_with (go_at_call 19; refine (rcheck_any n a b c d 8 r _ HR).mono ?_; rintro e w1 ⟨rfl, hB⟩; obtain ⟨X1, hB1⟩ := made1 hB; have B1 := Lib.hid hB1; clear hB hB1 X1)
  go_ret2
  exact ⟨rfl, B1.out⟩
theorem str_app (x y : List UInt8) : (⟨x.toArray⟩ : ByteArray) ++ ⟨y.toArray⟩ = ⟨(x ++ y).toArray⟩ := bytes_ext (by simp)
theorem dg_conv (z : Int) (h0 : 0 ≤ z) (h1 : z < 8) : UInt8.ofNat (48 + z).toNat = dg z := by
  unfold dg
  rw [show (48 + z).toNat = 48 + z.toNat by omega]
theorem conv9 (W : World) (x : Int) : (convert 67 9 (.slice (some ⟨W.heap.size, 0, none⟩) 1 1)).run Tryd.prog (W.alloc (.cells #[.int .u8 x] 5)) = .ok (.string ⟨#[UInt8.ofNat x.toNat]⟩) (W.alloc (.cells #[.int .u8 x] 5)) :=
  run_convert_bytes_arg _ 67 5 Tryd.underlying67 Tryd.underlying5 _ 0 1 1 [x] rfl (fun i hi => by
    obtain rfl : i = 0 := by omega
    simp) 9 Tryd.underlying9
set_option maxRecDepth 100000 in
set_option maxHeartbeats 4000000 in
theorem rtext_ok (l : List Int) (N : Nat) (a b c d : Int) (w : World) (HR : Hid (chkP N a b c d 8 = 0)) (hN : N ≤ 4) (HL : Hid (l.length = N)) (HP : Hid (pad5 l = ((N : Int), a, b, c, d))) (HK : Hid (okL 8 l)) :
    Calls Tryd.prog 17 #[.agg #[.int .i64 N, .int .i64 a, .int .i64 b, .int .i64 c, .int .i64 d]] w fun e w' => e = .returned (.tuple #[.string (txt l), .int .i64 0]) ∧ Below w.heap.size w w' := by
  have n2 : (N : Int) ≤ 4 := by omega
  go_enter Tryd.func17, Tryd.ntmps17
  go_wp2_with (go_at_call 19; refine (rcheck_any N a b c d 8 0 _ HR).mono ?_; rintro e w1 ⟨rfl, hB⟩; obtain ⟨X1, hB1⟩ := made1 hB; have B1 := Lib.hid hB1; have X1 := Lib.hid X1; clear hB hB1)
  go_loopw [5, 6] (fun v i wr => ∃ (k : Nat) (s : ByteArray), i = .int .i64 k ∧ k ≤ N ∧ v = .string s ∧ s.size ≤ 8 ∧ Hid (s = ⟨(txB (l.take k)).toArray⟩) ∧ Hid (Box wr 25 w.heap.size #[.int .i64 N, .int .i64 a, .int .i64 b, .int .i64 c, .int .i64 d]) ∧ Hid (Below w.heap.size w wr)) (fun _ i _ => N - (intOf i).toNat)
  case atStart => exact ⟨0, ⟨#[]⟩, rfl, by omega, rfl, by decide, Lib.hid rfl, X1, B1⟩
  case round =>
    obtain ⟨k, s, rfl, hk, rfl, hsz, HS, HX, HB⟩ := hrel
    have x0 := HX.out.cell 0
    simp at x0
    by_cases hlt : k < N
    · have hk4 : k < 4 := by omega
      have xk := HX.out.place k hk4
      have hp := pad5_pl (l := l) (by have := HL.out; omega) HP.out k
      have hz := okL_at HK.out k (by have := HL.out; omega)
      rw [← hp] at hz
      obtain ⟨z0, z1⟩ := hz
      have hkl : k < l.length := by have := HL.out; omega
      have hsn : txB (l.take (k + 1)) = (if k = 0 then [] else txB (l.take k) ++ [32]) ++ [dg (pl a b c d k)] := by
        rw [List.take_succ_eq_append_getElem hkl, txB_snoc, hp, List.getElem?_eq_getElem hkl, List.length_take, Nat.min_eq_left (by omega)]; rfl
      have hlen := txB_len (l.take (k + 1))
      rw [List.length_take, Nat.min_eq_left (by omega), if_neg (by omega)] at hlen
      have hlen0 := txB_len (l.take k)
      rw [List.length_take, Nat.min_eq_left (by omega)] at hlen0
      have HSN := Lib.hid hsn
      have HLN := Lib.hid hlen
      have hs8 : k = 0 ∨ s.size + 2 ≤ 8 := by
        by_cases h0 : k = 0
        · exact .inl h0
        · rw [if_neg h0] at hlen0
          refine .inr ?_
          rw [HS.out]
          show (txB (l.take k)).toArray.size + 2 ≤ 8
          rw [List.size_toArray, hlen0]; omega
      generalize pl a b c d k = z at xk hp HSN z0 z1
      have HD := Lib.hid (dg_conv z z0 z1)
      clear hp hsn hlen hlen0 hkl
      have cv : ∀ W : World, (convert 67 9 (.slice (some ⟨W.heap.size, 0, none⟩) 1 1)).run Tryd.prog (W.alloc (.cells #[.int .u8 (48 + z)] 5)) = .ok (.string ⟨#[dg z]⟩) (W.alloc (.cells #[.int .u8 (48 + z)] 5)) := fun W => by rw [conv9, HD.out]
      have hB2 := Lib.hid (HB.out.alloc HB.out.size (.cells #[.int .u8 (48 + z)] 5))
      have hX2 := Lib.hid (HX.out.alloc (.cells #[.int .u8 (48 + z)] 5))
      have hd1 : (⟨#[dg z]⟩ : ByteArray).size = 1 := rfl
      have hd2 : (⟨#[32]⟩ : ByteArray).size = 1 := rfl
      by_cases hk0 : k = 0
      · have hse : s = ⟨#[]⟩ := by rw [HS.out, hk0]; rfl
        subst hk0
        have hb1 : s.size + (⟨#[dg z]⟩ : ByteArray).size ≤ 9223372036854775807 := by omega
        have hs2 : Hid (s ++ ⟨#[dg z]⟩ = ⟨(txB (l.take (0 + 1))).toArray⟩) := Lib.hid (by rw [HSN.out, if_pos rfl, hse]; rfl)
        have hs3 : (s ++ ⟨#[dg z]⟩ : ByteArray).size ≤ 8 := by
          have h0 : s.size = 0 := by rw [hse]; rfl
          rw [ByteArray.size_append]; omega
        clear hse hs8 hd1 hd2
        go_wp2
        go_roundw
        case rel => exact ⟨1, s ++ ⟨#[dg z]⟩, by go_num, by omega, rfl, hs3, hs2, hX2, hB2⟩
        case measure => simp [intOf]; omega
      · have hk1 : 0 < k := by omega
        have hk2 : (0 : Int) < k := by omega
        have hs9 : s.size + 2 ≤ 8 := by omega
        have hb0 : s.size + (⟨#[32]⟩ : ByteArray).size ≤ 9223372036854775807 := by omega
        have hb1 : (s ++ ⟨#[32]⟩ : ByteArray).size + (⟨#[dg z]⟩ : ByteArray).size ≤ 9223372036854775807 := by rw [ByteArray.size_append]; omega
        have hs2 : Hid (s ++ ⟨#[32]⟩ ++ ⟨#[dg z]⟩ = ⟨(txB (l.take (k + 1))).toArray⟩) := Lib.hid (by
          rw [HSN.out, if_neg hk0, HS.out]
          refine bytes_ext ?_
          simp)
        have hs3 : (s ++ ⟨#[32]⟩ ++ ⟨#[dg z]⟩ : ByteArray).size ≤ 8 := by rw [ByteArray.size_append, ByteArray.size_append]; omega
        clear hs8 hk0 hd1 hd2
        go_wp2
        go_roundw
        case rel => exact ⟨k + 1, s ++ ⟨#[32]⟩ ++ ⟨#[dg z]⟩, by go_num, by omega, rfl, hs3, hs2, hX2, hB2⟩
        case measure => simp [intOf]; omega
    · obtain rfl : k = N := by omega
      have e : l.take k = l := by rw [← HL.out]; exact List.take_length
      have hs := HS.out
      rw [e] at hs
      by_cases hk0 : k = 0
      · have ht : Hid (txt l = ⟨#[45]⟩) := Lib.hid (by unfold txt; rw [if_pos (by rw [HL.out]; exact hk0)])
        subst hk0
        clear hs e
        go_wp2
        go_ret2
        exact ⟨by rw [ht.out]; rfl, HB.out⟩
      · have ht : Hid (txt l = s) := Lib.hid (by unfold txt; rw [if_neg (by rw [HL.out]; exact hk0), hs])
        have hk1 : ((k : Int) == 0) = false := by rw [beq_eq_false_iff_ne]; omega
        clear hs e hk0
        go_wp2
        go_ret2
        exact ⟨by rw [ht.out]; rfl, HB.out⟩
theorem rtext_any (n a b c d : Int) (w : World) (s : ByteArray) (r : Int) (H : Hid (txtE (n, a, b, c, d) = (s, r))) : Calls Tryd.prog 17 #[.agg #[.int .i64 n, .int .i64 a, .int .i64 b, .int .i64 c, .int .i64 d]] w fun e w' => e = .returned (.tuple #[.string s, .int .i64 r]) ∧ Below w.heap.size w w' := by
  have h := H.out
  unfold txtE at h
  simp only at h
  by_cases hc : chkP n a b c d 8 = 0
  · rw [if_neg (by simpa using hc)] at h
    cases h
    obtain ⟨k1, _, _⟩ := lst_ok hc
    obtain ⟨N, hN, hN4, hl, hp⟩ := lst_nat hc
    subst hN
    exact rtext_ok _ N a b c d w (Lib.hid hc) hN4 (Lib.hid hl) (Lib.hid hp) (Lib.hid k1)
  · rw [if_pos hc] at h; cases h
    exact rtext_bad n a b c d _ w (Lib.hid rfl) (by simpa using hc)
end Go.Proofs.YtddackdghphcnaaDoor.s13
