/-
  Layer 13: the program's Text.
-/
import Derived.Test.YtddackdghphcnaaDoorS13T
import Derived.Test.YtddackdghphcnaaDoorS13H
import Derived.Test.YtddackdghphcnaaDoorLayT
import Derived.Test.YtddackdghphcnaaDoorLayJ
namespace Go.Proofs.YtddackdghphcnaaDoor.s13
set_option linter.unusedVariables false
set_option linter.unusedSimpArgs false
open Go.RowKit
open kit

theorem info9 : (Tryd.prog.info? 9).map (fun i => (i.zero, i.size, i.bytes)) = some (some (.string ⟨#[]⟩), 1, 16) := by kernel_rfl
theorem itoa_digit (z : Int) (h0 : 0 ≤ z) (h1 : z < 8) (w : World) : Calls Tryd.prog 48 #[.int .i64 z] w fun e w' => e = .returned (.string ⟨#[dg z]⟩) ∧ w = w' := by
  obtain ⟨k, rfl⟩ : ∃ k : Nat, z = k := ⟨z.toNat, by omega⟩
  refine (Any.strconv_Itoa_small lay.lay171 k (by omega) w).mono fun e w' ⟨he, hw⟩ => ⟨?_, hw.symm⟩
  rw [he]
  have : Lib.decDigits k = [dg k] := by
    unfold Lib.decDigits
    rw [dif_pos (by omega)]
    rfl
  rw [this]
def digs (l : List Int) : List ByteArray := l.map fun z => ⟨#[dg z]⟩
theorem join_digs (v : Value) (l : List Int) (base : Nat) (w : World) (hl : l.length ≤ 4) (hr : w.ownsRow base 9 1 v l.length ((digs l).map Value.string)) :
    Calls Tryd.prog 49 #[v, .string ⟨#[32]⟩] w fun e w' => e = .returned (.string ⟨(txB l).toArray⟩) ∧ Below w.heap.size w w' := by
  have hlen : (digs l).length = l.length := by unfold digs; simp
  have hj : Lib.join ((digs l).map (·.data.toList)) [32] = txB l := by
    rw [← join_tx]
    congr 1
    unfold digs
    rw [List.map_map]
    rfl
  have hbl : (txB l).length ≤ 8 := by rw [txB_len]; split <;> omega
  rcases hr.2 with ⟨rfl, h0⟩ | ⟨g, cap, cur, rfl, hbg, hgb, hcap, hm, hsz, htk⟩
  · have : l = [] := List.length_eq_zero_iff.1 h0
    subst this
    exact (Any.strings_Join_none lay.lay156 lay.layExtra156 none 0 ⟨#[32]⟩ w).mono fun e w' ⟨he, hw⟩ => ⟨he, hw ▸ Below.refl _ _⟩
  · have hlt : g < w.heap.size := (Array.getElem?_eq_some_iff.1 hgb).1
    have hc := Any.strings_Join lay.lay156 lay.layExtra156 g 0 cap (digs l) ⟨#[32]⟩ w (fun j x hx => by
      have hjl : j < l.length := by rw [← hlen]; exact (List.getElem?_eq_some_iff.1 hx).1
      rw [Nat.zero_add, hr.cellAt j (by omega), List.getElem?_map, hx]; rfl) hlt (by omega) (by omega) (by
        rw [show (⟨#[32]⟩ : ByteArray).data.toList = [32] from rfl, hj]; omega)
    rw [hlen] at hc
    refine hc.mono fun e w' ⟨he, hw⟩ => ⟨?_, hw⟩
    rw [he, show (⟨#[32]⟩ : ByteArray).data.toList = [32] from rfl, hj]
set_option maxRecDepth 100000 in
set_option maxHeartbeats 2000000 in
theorem ptext_bad (n a b c d r : Int) (w : World) (HR : Hid (chkP n a b c d 8 = r)) (hr : (r != 0) = true) : Calls Tryd.prog 16 #[.agg #[.int .i64 n, .int .i64 a, .int .i64 b, .int .i64 c, .int .i64 d]] w fun e w' => e = .returned (.tuple #[.string ⟨#[]⟩, .int .i64 r]) ∧ Below w.heap.size w w' := by
  go_enter Tryd.func16, Tryd.ntmps16
  go_wp2_with (go_at_call 46; refine (checkall_one n a b c d r _ _ (new2 _ _ _ _) HR).mono ?_; rintro e w1 ⟨rfl, hB⟩; obtain ⟨X1, _, hB1⟩ := made2 hB; have B1 := Lib.hid hB1; clear hB hB1 X1)
  go_ret2
  exact ⟨rfl, B1.out⟩
set_option maxRecDepth 100000 in
set_option maxHeartbeats 2000000 in
theorem ptext_none (w : World) (a b c d : Int) (HR : Hid (chkP 0 a b c d 8 = 0)) : Calls Tryd.prog 16 #[.agg #[.int .i64 0, .int .i64 a, .int .i64 b, .int .i64 c, .int .i64 d]] w fun e w' => e = .returned (.tuple #[.string ⟨#[45]⟩, .int .i64 0]) ∧ Below w.heap.size w w' := by
  go_enter Tryd.func16, Tryd.ntmps16
  go_wp2_with (go_at_call 46; refine (checkall_one 0 a b c d 0 _ _ (new2 _ _ _ _) HR).mono ?_; rintro e w1 ⟨rfl, hB⟩; obtain ⟨X1, _, hB1⟩ := made2 hB; have B1 := Lib.hid hB1; obtain ⟨x0, x1, x2, x3, x4⟩ := X1.cell5; clear hB hB1 X1)
  go_ret2
  exact ⟨rfl, B1.out⟩
set_option maxRecDepth 100000 in
set_option maxHeartbeats 4000000 in
theorem ptext_some (l : List Int) (N : Nat) (a b c d : Int) (w : World) (HR : Hid (chkP N a b c d 8 = 0)) (hN : N ≤ 4) (hN1 : 1 ≤ N) (HL : Hid (l.length = N)) (HP : Hid (pad5 l = ((N : Int), a, b, c, d))) (HK : Hid (okL 8 l)) :
    Calls Tryd.prog 16 #[.agg #[.int .i64 N, .int .i64 a, .int .i64 b, .int .i64 c, .int .i64 d]] w fun e w' => e = .returned (.tuple #[.string ⟨(txB l).toArray⟩, .int .i64 0]) ∧ Below w.heap.size w w' := by
  have n1 : (1 : Int) ≤ N := by omega
  have n2 : (N : Int) ≤ 4 := by omega
  have n0 : ((N : Int) == 0) = false := by rw [beq_eq_false_iff_ne]; omega
  go_enter Tryd.func16, Tryd.ntmps16
  go_wp2_with (go_at_call 46; refine (checkall_one N a b c d 0 _ _ (new2 _ _ _ _) HR).mono ?_; rintro e w1 ⟨rfl, hB⟩; obtain ⟨X1, _, hB1⟩ := made2 hB; have B1 := Lib.hid hB1; have X1 := Lib.hid X1; clear hB hB1; have x0 := X1.out.cell 0; simp at x0)
  go_loopw [5, 22] (fun v i wr => ∃ k : Nat, i = .int .i64 k ∧ k ≤ N ∧ Hid (wr.ownsRow (w.heap.size + 1) 9 1 v k ((digs (l.take k)).map Value.string)) ∧ Hid (Box wr 25 w.heap.size #[.int .i64 N, .int .i64 a, .int .i64 b, .int .i64 c, .int .i64 d]) ∧ Hid (Below w.heap.size w wr)) (fun _ i _ => N - (intOf i).toNat)
  case atStart => exact ⟨0, rfl, by omega, Lib.hid (World.ownsRow_nil _ _ _ _), X1, B1⟩
  case round =>
    obtain ⟨k, rfl, hk, HRow, HX, HB⟩ := hrel
    clear x0 X1 B1
    by_cases hlt : k < N
    · have hk4 : k < 4 := by omega
      have xk := HX.out.place k hk4
      have hXlt := HX.out.lt
      have hp := pad5_pl (l := l) (by have := HL.out; omega) HP.out k
      have hz := okL_at HK.out k (by have := HL.out; omega)
      rw [← hp] at hz
      obtain ⟨z0, z1⟩ := hz
      have hsn : Hid (digs (l.take (k + 1)) = digs (l.take k) ++ [⟨#[dg (pl a b c d k)]⟩]) := Lib.hid (by
        have hkl : k < l.length := by have := HL.out; omega
        rw [List.take_succ_eq_append_getElem hkl, hp, List.getElem?_eq_getElem hkl]
        unfold digs
        rw [List.map_append]; rfl)
      generalize pl a b c d k = z at xk hp hsn z0 z1
      clear hp
      go_wp2_with (first
        | (go_at_call 48; refine (itoa_digit z z0 z1 _).mono ?_; rintro e w2 ⟨rfl, rfl⟩)
        | (at_builtin; refine append_in Tryd.underlying64 info9 rfl (by omega) rfl (.tmp 26) (.tmp 29) rfl (w.heap.size + 1) _ k _ rfl (row_alloc HRow.out _) (some ⟨wr.heap.size, 0, none⟩) [.string ⟨#[dg z]⟩] 1 1 rfl rfl (src_one wr _ _) (by simp [Value.oneCell']) (by omega) (by simp; omega) ?_; intro v1 wA hv1 hBA; have R1 := Lib.hid hv1; have XA := Lib.hid ((HX.out.alloc (.cells #[.string ⟨#[dg z]⟩] 9)).under (by omega) hBA); have BA := Lib.hid ((HB.out.alloc HB.out.size (.cells #[.string ⟨#[dg z]⟩] 9)).trans (hBA.mono (by omega))); clear hv1 hBA))
      go_roundw
      case rel => exact ⟨k + 1, by go_num, by omega, Lib.hid (by rw [hsn.out, List.map_append]; exact R1.out), XA, BA⟩
      case measure => simp [intOf]; omega
    · obtain rfl : k = N := by omega
      have e : l.take k = l := by rw [← HL.out]; exact List.take_length
      have hrow := HRow.out
      rw [e, ← HL.out] at hrow
      obtain ⟨a1, c1, rfl⟩ := row_shape HRow.out
      have HJ := Lib.hid (join_digs _ l _ wr (by have := HL.out; omega) hrow)
      clear e hrow
      go_wp2_with (go_at_call 49; refine (HJ.out).mono ?_; rintro e w3 ⟨rfl, hB⟩; have B3 := Lib.hid (below_then HB.out hB); clear hB)
      go_ret2
      exact ⟨rfl, B3.out⟩
theorem ptext_any (n a b c d : Int) (w : World) (s : ByteArray) (r : Int) (H : Hid (txtE (n, a, b, c, d) = (s, r))) : Calls Tryd.prog 16 #[.agg #[.int .i64 n, .int .i64 a, .int .i64 b, .int .i64 c, .int .i64 d]] w fun e w' => e = .returned (.tuple #[.string s, .int .i64 r]) ∧ Below w.heap.size w w' := by
  have h := H.out
  unfold txtE at h
  simp only at h
  by_cases hc : chkP n a b c d 8 = 0
  · rw [if_neg (by simpa using hc)] at h
    cases h
    obtain ⟨k1, _, _⟩ := lst_ok hc
    obtain ⟨N, hN, hN4, hl, hp⟩ := lst_nat hc
    subst hN
    unfold txt
    rw [hl]
    by_cases h0 : N = 0
    · rw [if_pos h0]; subst h0
      exact ptext_none w a b c d (Lib.hid hc)
    · rw [if_neg h0]
      exact ptext_some _ N a b c d w (Lib.hid hc) hN4 (by omega) (Lib.hid hl) (Lib.hid hp) (Lib.hid k1)
  · rw [if_pos hc] at h; cases h
    exact ptext_bad n a b c d _ w (Lib.hid rfl) (by simpa using hc)
end Go.Proofs.YtddackdghphcnaaDoor.s13
