/-
  Which functions of this program are those of the library of which the shelf speaks: 171. Which functions of this program are those of the library of which the shelf speaks: 156. Layer 13: the program's Text. Layer 13, plain: what a text is read as. Layer 13: the program's isDigits. A region that draws its order, whose operations only read or make new memory (also values that lie in it): each operation by itself, in any frame and world in which those that it waits for have met their specifications. No order is walked.
-/
import Derived.Shelf.Strconv.Itoa3
import Derived.Test.YtddackdghphcnaaDoorRows
import Derived.Shelf.Strings.OnBuilder
import Derived.Test.YtddackdghphcnaaDoorG04
import Derived.Test.YtddackdghphcnaaDoorG03
import Derived.Lib.ConvBytes
import Derived.Test.YtddackdghphcnaaDoorG01
import Derived.Still
import Derived.Deep.Quiet
namespace Go.Proofs.YtddackdghphcnaaDoor.lay
open Go.Shelf
def lay171_ren : Go.Shelf.Ren := ⟨fun | 171 => 48 | 243 => 63 | 246 => 71 | 283 => 76 | 284 => 77 | 285 => 78 | 286 => 79 | 129 => 87 | 317 => 86 | 318 => 88 | 319 => 89 | 320 => 75 | 337 => 84 | 338 => 85 | n => n, fun | 3 => 3 | 9 => 9 | 2 => 2 | 4 => 4 | 171 => 96 | 0 => 0 | 53 => 97 | 37 => 67 | 5 => 5 | 173 => 100 | 212 => 109 | 51 => 106 | 20 => 20 | 213 => 110 | 46 => 81 | 232 => 111 | 233 => 112 | n => n, fun | 17 => 0 | 18 => 2 | 19 => 3 | n => n⟩
theorem lay171 : Go.Proofs.Lays.n171 Tryd.prog lay171_ren := {
  mixed := by kernel_rfl
  f129 := Tryd.func87.trans (congrArg some (by kernel_rfl))
  f171 := Tryd.func48.trans (congrArg some (by kernel_rfl))
  f243 := Tryd.func63.trans (congrArg some (by kernel_rfl))
  f246 := Tryd.func71.trans (congrArg some (by kernel_rfl))
  f283 := Tryd.func76.trans (congrArg some (by kernel_rfl))
  f284 := Tryd.func77.trans (congrArg some (by kernel_rfl))
  f285 := Tryd.func78.trans (congrArg some (by kernel_rfl))
  f286 := Tryd.func79.trans (congrArg some (by kernel_rfl))
  f317 := Tryd.func86.trans (congrArg some (by kernel_rfl))
  f318 := Tryd.func88.trans (congrArg some (by kernel_rfl))
  f319 := Tryd.func89.trans (congrArg some (by kernel_rfl))
  f320 := Tryd.func75.trans (congrArg some (by kernel_rfl))
  f337 := Tryd.func84.trans (congrArg some (by kernel_rfl))
  f338 := Tryd.func85.trans (congrArg some (by kernel_rfl))
  t0 := Tryd.underlying0
  a0 := Tryd.isAgg0
  z0 := Tryd.sizeOf0
  v0 := Tryd.zeroValue0
  t2 := Tryd.underlying2
  a2 := Tryd.isAgg2
  z2 := Tryd.sizeOf2
  v2 := Tryd.zeroValue2
  t3 := Tryd.underlying3
  a3 := Tryd.isAgg3
  z3 := Tryd.sizeOf3
  v3 := Tryd.zeroValue3
  t4 := Tryd.underlying4
  a4 := Tryd.isAgg4
  z4 := Tryd.sizeOf4
  v4 := Tryd.zeroValue4
  t5 := Tryd.underlying5
  a5 := Tryd.isAgg5
  z5 := Tryd.sizeOf5
  v5 := Tryd.zeroValue5
  t9 := Tryd.underlying9
  a9 := Tryd.isAgg9
  z9 := Tryd.sizeOf9
  v9 := Tryd.zeroValue9
  t20 := Tryd.underlying20
  a20 := Tryd.isAgg20
  z20 := Tryd.sizeOf20
  v20 := Tryd.zeroValue20
  t37 := Tryd.underlying67
  a37 := Tryd.isAgg67
  z37 := Tryd.sizeOf67
  v37 := Tryd.zeroValue67
  t46 := Tryd.underlying81
  a46 := Tryd.isAgg81
  z46 := Tryd.sizeOf81
  v46 := Tryd.zeroValue81
  t51 := Tryd.underlying106
  a51 := Tryd.isAgg106
  z51 := Tryd.sizeOf106
  v51 := Tryd.zeroValue106
  t53 := Tryd.underlying97
  a53 := Tryd.isAgg97
  z53 := Tryd.sizeOf97
  v53 := Tryd.zeroValue97
  t171 := Tryd.underlying96
  a171 := Tryd.isAgg96
  z171 := Tryd.sizeOf96
  v171 := Tryd.zeroValue96
  t173 := Tryd.underlying100
  a173 := Tryd.isAgg100
  z173 := Tryd.sizeOf100
  v173 := Tryd.zeroValue100
  t212 := Tryd.underlying109
  a212 := Tryd.isAgg109
  z212 := Tryd.sizeOf109
  v212 := Tryd.zeroValue109
  t213 := Tryd.underlying110
  a213 := Tryd.isAgg110
  z213 := Tryd.sizeOf110
  t232 := Tryd.underlying111
  a232 := Tryd.isAgg111
  z232 := Tryd.sizeOf111
  v232 := Tryd.zeroValue111
  t233 := Tryd.underlying112
  a233 := Tryd.isAgg112
  z233 := Tryd.sizeOf112
  v233 := Tryd.zeroValue112
  g17 := by kernel_rfl
  g18 := by kernel_rfl
  g19 := by kernel_rfl }
end Go.Proofs.YtddackdghphcnaaDoor.lay

namespace Go.Proofs.YtddackdghphcnaaDoor.lay
open Go.Shelf
def lay156_ren : Go.Shelf.Ren := ⟨fun | 156 => 49 | 165 => 64 | 166 => 65 | 169 => 66 | 240 => 72 | 241 => 73 | 276 => 80 | 277 => 81 | n => n, fun | 31 => 64 | 9 => 9 | 3 => 3 | 4 => 4 | 0 => 0 | 20 => 20 | 72 => 84 | 76 => 88 | 70 => 82 | 37 => 67 | 75 => 87 | 127 => 94 | 164 => 102 | 5 => 5 | 80 => 90 | n => n, fun | n => n⟩
theorem lay156 : Go.Proofs.Lays.n156 Tryd.prog lay156_ren := {
  mixed := by kernel_rfl
  f156 := Tryd.func49.trans (congrArg some (by kernel_rfl))
  f165 := Tryd.func64.trans (congrArg some (by kernel_rfl))
  f166 := Tryd.func65.trans (congrArg some (by kernel_rfl))
  f169 := Tryd.func66.trans (congrArg some (by kernel_rfl))
  f240 := Tryd.func72.trans (congrArg some (by kernel_rfl))
  f241 := Tryd.func73.trans (congrArg some (by kernel_rfl))
  f276 := Tryd.func80.trans (congrArg some (by kernel_rfl))
  f277 := Tryd.func81.trans (congrArg some (by kernel_rfl))
  t0 := Tryd.underlying0
  a0 := Tryd.isAgg0
  z0 := Tryd.sizeOf0
  v0 := Tryd.zeroValue0
  t3 := Tryd.underlying3
  a3 := Tryd.isAgg3
  z3 := Tryd.sizeOf3
  v3 := Tryd.zeroValue3
  t4 := Tryd.underlying4
  a4 := Tryd.isAgg4
  z4 := Tryd.sizeOf4
  v4 := Tryd.zeroValue4
  t9 := Tryd.underlying9
  a9 := Tryd.isAgg9
  z9 := Tryd.sizeOf9
  v9 := Tryd.zeroValue9
  t20 := Tryd.underlying20
  a20 := Tryd.isAgg20
  z20 := Tryd.sizeOf20
  v20 := Tryd.zeroValue20
  t31 := Tryd.underlying64
  a31 := Tryd.isAgg64
  z31 := Tryd.sizeOf64
  v31 := Tryd.zeroValue64
  t37 := Tryd.underlying67
  a37 := Tryd.isAgg67
  z37 := Tryd.sizeOf67
  v37 := Tryd.zeroValue67
  t70 := Tryd.underlying82
  a70 := Tryd.isAgg82
  z70 := Tryd.sizeOf82
  v70 := Tryd.zeroValue82
  t72 := Tryd.underlying84
  a72 := Tryd.isAgg84
  z72 := Tryd.sizeOf84
  v72 := Tryd.zeroValue84
  t75 := Tryd.underlying87
  a75 := Tryd.isAgg87
  z75 := Tryd.sizeOf87
  v75 := Tryd.zeroValue87
  t76 := Tryd.underlying88
  a76 := Tryd.isAgg88
  z76 := Tryd.sizeOf88
  v76 := Tryd.zeroValue88
  t127 := Tryd.underlying94
  a127 := Tryd.isAgg94
  z127 := Tryd.sizeOf94
  v127 := Tryd.zeroValue94
  t164 := Tryd.underlying102
  a164 := Tryd.isAgg102
  z164 := Tryd.sizeOf102
  v164 := Tryd.zeroValue102 }
theorem layExtra156 : Builder.Extra Tryd.prog lay156_ren := {
  sizeBuilder := by kernel_rfl
  liesBuilder := by kernel_rfl
  t5 := Tryd.underlying5
  a5 := Tryd.isAgg5
  z5 := Tryd.sizeOf5
  v5 := Tryd.zeroValue5
  infoByte := by kernel_rfl
  cellsByte := by kernel_rfl
  sizeByte := by kernel_rfl
  neB5 := by decide }
end Go.Proofs.YtddackdghphcnaaDoor.lay

namespace Go.Proofs.YtddackdghphcnaaDoor.s13
set_option linter.unusedVariables false
set_option linter.unusedSimpArgs false
open Go.RowKit
open kit

theorem info9 : (Tryd.prog.info? 9).map (fun i => (i.zero, i.size, i.bytes)) = some (some (.string ⟨#[]⟩), 1, 16) := by kernel_rfl
theorem itoa_digit (z : Int) (h0 : 0 ≤ z) (h1 : z < 8) (w : World) : Calls Tryd.prog 48 #[.int .i64 z] w fun e w' => e = .returned (.string ⟨#[dg z]⟩) ∧ w = w' := by
  obtain ⟨k, rfl⟩ : ∃ k : Nat, z = k := ⟨z.toNat, by omega⟩
  refine (Any.strconv_Itoa_small lay.lay171 k (by omega) w).mono fun e w' ⟨he, hw⟩ => ⟨?_, hw.symm⟩
  rw [he]
  have : Lib.decDigits k = [dg k] := by
    unfold Lib.decDigits
    rw [dif_pos (by omega)]
    rfl
  rw [this]
def digs (l : List Int) : List ByteArray := l.map fun z => ⟨#[dg z]⟩
theorem join_digs (v : Value) (l : List Int) (base : Nat) (w : World) (hl : l.length ≤ 4) (hr : w.ownsRow base 9 1 v l.length ((digs l).map Value.string)) :
    Calls Tryd.prog 49 #[v, .string ⟨#[32]⟩] w fun e w' => e = .returned (.string ⟨(txB l).toArray⟩) ∧ Below w.heap.size w w' := by
  have hlen : (digs l).length = l.length := by unfold digs; simp
  have hj : Lib.join ((digs l).map (·.data.toList)) [32] = txB l := by
    rw [← join_tx]
    congr 1
    unfold digs
    rw [List.map_map]
    rfl
  have hbl : (txB l).length ≤ 8 := by rw [txB_len]; split <;> omega
  rcases hr.2 with ⟨rfl, h0⟩ | ⟨g, cap, cur, rfl, hbg, hgb, hcap, hm, hsz, htk⟩
  · have : l = [] := List.length_eq_zero_iff.1 h0
    subst this
    exact (Any.strings_Join_none lay.lay156 lay.layExtra156 none 0 ⟨#[32]⟩ w).mono fun e w' ⟨he, hw⟩ => ⟨he, hw ▸ Below.refl _ _⟩
  · have hlt : g < w.heap.size := (Array.getElem?_eq_some_iff.1 hgb).1
    have hc := Any.strings_Join lay.lay156 lay.layExtra156 g 0 cap (digs l) ⟨#[32]⟩ w (fun j x hx => by
      have hjl : j < l.length := by rw [← hlen]; exact (List.getElem?_eq_some_iff.1 hx).1
      rw [Nat.zero_add, hr.cellAt j (by omega), List.getElem?_map, hx]; rfl) hlt (by omega) (by omega) (by
        rw [show (⟨#[32]⟩ : ByteArray).data.toList = [32] from rfl, hj]; omega)
    rw [hlen] at hc
    refine hc.mono fun e w' ⟨he, hw⟩ => ⟨?_, hw⟩
    rw [he, show (⟨#[32]⟩ : ByteArray).data.toList = [32] from rfl, hj]
set_option maxRecDepth 100000 in
set_option maxHeartbeats 2000000 in
theorem ptext_bad (n a b c d r : Int) (w : World) (HR : Hid (chkP n a b c d 8 = r)) (hr : (r != 0) = true) : Calls Tryd.prog 16 #[.agg #[.int .i64 n, .int .i64 a, .int .i64 b, .int .i64 c, .int .i64 d]] w fun e w' => e = .returned (.tuple #[.string ⟨#[]⟩, .int .i64 r]) ∧ Below w.heap.size w w' := by
  go_enter Tryd.func16, Tryd.ntmps16
  go_wp2_with (go_at_call 46; refine (checkall_one n a b c d r _ _ (new2 _ _ _ _) HR).mono ?_; rintro e w1 ⟨rfl, hB⟩; obtain ⟨X1, _, hB1⟩ := made2 hB; have B1 := Lib.hid hB1; clear hB hB1 X1)
  go_ret2
  exact ⟨rfl, B1.out⟩
set_option maxRecDepth 100000 in
set_option maxHeartbeats 2000000 in
theorem ptext_none (w : World) (a b c d : Int) (HR : Hid (chkP 0 a b c d 8 = 0)) : Calls Tryd.prog 16 #[.agg #[.int .i64 0, .int .i64 a, .int .i64 b, .int .i64 c, .int .i64 d]] w fun e w' => e = .returned (.tuple #[.string ⟨#[45]⟩, .int .i64 0]) ∧ Below w.heap.size w w' := by
  go_enter Tryd.func16, Tryd.ntmps16
  go_wp2_with (go_at_call 46; refine (checkall_one 0 a b c d 0 _ _ (new2 _ _ _ _) HR).mono ?_; rintro e w1 ⟨rfl, hB⟩; obtain ⟨X1, _, hB1⟩ := made2 hB; have B1 := Lib.hid hB1; obtain ⟨x0, x1, x2, x3, x4⟩ := X1.cell5; clear hB hB1 X1)
  go_ret2
  exact ⟨rfl, B1.out⟩
set_option maxRecDepth 100000 in
set_option maxHeartbeats 4000000 in
theorem ptext_some (l : List Int) (N : Nat) (a b c d : Int) (w : World) (HR : Hid (chkP N a b c d 8 = 0)) (hN : N ≤ 4) (hN1 : 1 ≤ N) (HL : Hid (l.length = N)) (HP : Hid (pad5 l = ((N : Int), a, b, c, d))) (HK : Hid (okL 8 l)) :
    Calls Tryd.prog 16 #[.agg #[.int .i64 N, .int .i64 a, .int .i64 b, .int .i64 c, .int .i64 d]] w fun e w' => e = .returned (.tuple #[.string ⟨(txB l).toArray⟩, .int .i64 0]) ∧ Below w.heap.size w w' := by
  have n1 : (1 : Int) ≤ N := by omega
  have n2 : (N : Int) ≤ 4 := by omega
  have n0 : ((N : Int) == 0) = false := by rw [beq_eq_false_iff_ne]; omega
  go_enter Tryd.func16, Tryd.ntmps16
  go_wp2_with (go_at_call 46; refine (checkall_one N a b c d 0 _ _ (new2 _ _ _ _) HR).mono ?_; rintro e w1 ⟨rfl, hB⟩; obtain ⟨X1, _, hB1⟩ := made2 hB; have B1 := Lib.hid hB1; have X1 := Lib.hid X1; clear hB hB1; have x0 := X1.out.cell 0; simp at x0)
  go_loopw [5, 22] (fun v i wr => ∃ k : Nat, i = .int .i64 k ∧ k ≤ N ∧ Hid (wr.ownsRow (w.heap.size + 1) 9 1 v k ((digs (l.take k)).map Value.string)) ∧ Hid (Box wr 25 w.heap.size #[.int .i64 N, .int .i64 a, .int .i64 b, .int .i64 c, .int .i64 d]) ∧ Hid (Below w.heap.size w wr)) (fun _ i _ => N - (intOf i).toNat)
  case atStart => exact ⟨0, rfl, by omega, Lib.hid (World.ownsRow_nil _ _ _ _), X1, B1⟩
  case round =>
    obtain ⟨k, rfl, hk, HRow, HX, HB⟩ := hrel
    clear x0 X1 B1
    by_cases hlt : k < N
    · have hk4 : k < 4 := by omega
      have xk := HX.out.place k hk4
      have hXlt := HX.out.lt
      have hp := pad5_pl (l := l) (by have := HL.out; omega) HP.out k
      have hz := okL_at HK.out k (by have := HL.out; omega)
      rw [← hp] at hz
      obtain ⟨z0, z1⟩ := hz
      have hsn : Hid (digs (l.take (k + 1)) = digs (l.take k) ++ [⟨#[dg (pl a b c d k)]⟩]) := Lib.hid (by
        have hkl : k < l.length := by have := HL.out; omega
        rw [List.take_succ_eq_append_getElem hkl, hp, List.getElem?_eq_getElem hkl]
        unfold digs
        rw [List.map_append]; rfl)
      generalize pl a b c d k = z at xk hp hsn z0 z1
      clear hp
      go_wp2_with (first
        | (go_at_call 48; refine (itoa_digit z z0 z1 _).mono ?_; rintro e w2 ⟨rfl, rfl⟩)
        | (at_builtin; refine append_in Tryd.underlying64 info9 rfl (by omega) rfl (.tmp 26) (.tmp 29) rfl (w.heap.size + 1) _ k _ rfl (row_alloc HRow.out _) (some ⟨wr.heap.size, 0, none⟩) [.string ⟨#[dg z]⟩] 1 1 rfl rfl (src_one wr _ _) (by simp [Value.oneCell']) (by omega) (by simp; omega) ?_; intro v1 wA hv1 hBA; have R1 := Lib.hid hv1; have XA := Lib.hid ((HX.out.alloc (.cells #[.string ⟨#[dg z]⟩] 9)).under (by omega) hBA); have BA := Lib.hid ((HB.out.alloc HB.out.size (.cells #[.string ⟨#[dg z]⟩] 9)).trans (hBA.mono (by omega))); clear hv1 hBA))
      go_roundw
      case rel => exact ⟨k + 1, by go_num, by omega, Lib.hid (by rw [hsn.out, List.map_append]; exact R1.out), XA, BA⟩
      case measure => simp [intOf]; omega
    · obtain rfl : k = N := by omega
      have e : l.take k = l := by rw [← HL.out]; exact List.take_length
      have hrow := HRow.out
      rw [e, ← HL.out] at hrow
      obtain ⟨a1, c1, rfl⟩ := row_shape HRow.out
      have HJ := Lib.hid (join_digs _ l _ wr (by have := HL.out; omega) hrow)
      clear e hrow
      go_wp2_with (go_at_call 49; refine (HJ.out).mono ?_; rintro e w3 ⟨rfl, hB⟩; have B3 := Lib.hid (below_then HB.out hB); clear hB)
      go_ret2
      exact ⟨rfl, B3.out⟩
theorem ptext_any (n a b c d : Int) (w : World) (s : ByteArray) (r : Int) (H : Hid (txtE (n, a, b, c, d) = (s, r))) : Calls Tryd.prog 16 #[.agg #[.int .i64 n, .int .i64 a, .int .i64 b, .int .i64 c, .int .i64 d]] w fun e w' => e = .returned (.tuple #[.string s, .int .i64 r]) ∧ Below w.heap.size w w' := by
  have h := H.out
  unfold txtE at h
  simp only at h
  by_cases hc : chkP n a b c d 8 = 0
  · rw [if_neg (by simpa using hc)] at h
    cases h
    obtain ⟨k1, _, _⟩ := lst_ok hc
    obtain ⟨N, hN, hN4, hl, hp⟩ := lst_nat hc
    subst hN
    unfold txt
    rw [hl]
    by_cases h0 : N = 0
    · rw [if_pos h0]; subst h0
      exact ptext_none w a b c d (Lib.hid hc)
    · rw [if_neg h0]
      exact ptext_some _ N a b c d w (Lib.hid hc) hN4 (by omega) (Lib.hid hl) (Lib.hid hp) (Lib.hid k1)
  · rw [if_pos hc] at h; cases h
    exact ptext_bad n a b c d _ w (Lib.hid rfl) (by simpa using hc)
end Go.Proofs.YtddackdghphcnaaDoor.s13

namespace Go.Proofs.YtddackdghphcnaaDoor.s13
set_option linter.unusedVariables false
set_option linter.unusedSimpArgs false
open Go.RowKit
open kit

/-- a byte of a text, as a number -/
def byt (s : ByteArray) (i : Nat) : Int := ((s.data.toList.getD i 0).toNat : Int)
theorem byt_range (s : ByteArray) (i : Nat) : 0 ≤ byt s i ∧ byt s i ≤ 255 := by
  unfold byt
  have := (s.data.toList.getD i 0).toNat_lt
  omega
/-- whether a byte fits at a place -/
def fitZ (i : Nat) (z : Int) : Bool := if i % 2 = 0 then decide (48 ≤ z ∧ z ≤ 57) else decide (z = 32)
/-- digits, with a blank between two of them -/
def isDg (s : ByteArray) : Bool := decide (s.size % 2 = 1 ∧ ∀ i, i < s.size → fitZ i (byt s i) = true)
/-- the digits' values -/
def vals (s : ByteArray) : List Int := (List.range ((s.size + 1) / 2)).map fun j => byt s (2 * j) - 48
def parseE (s : ByteArray) : V5 × Int := if s = ⟨#[45]⟩ then (no5, 0) else if isDg s = false then (no5, 3) else ofP (vals s)
theorem isDg_no {s : ByteArray} (i : Nat) (hi : i < s.size) (h : fitZ i (byt s i) = false) : isDg s = false := by
  unfold isDg
  refine decide_eq_false ?_
  rintro ⟨_, h2⟩
  rw [h2 i hi] at h; cases h
theorem isDg_len {s : ByteArray} (h : ∀ i, i < s.size → fitZ i (byt s i) = true) : isDg s = decide (s.size % 2 = 1) := by
  unfold isDg
  exact decide_eq_decide.2 ⟨fun h1 => h1.1, fun h1 => ⟨h1, h⟩⟩
theorem fit_even {i : Nat} (h : i % 2 = 0) (z : Int) : fitZ i z = decide (48 ≤ z ∧ z ≤ 57) := by unfold fitZ; rw [if_pos h]
theorem fit_odd {i : Nat} (h : i % 2 = 1) (z : Int) : fitZ i z = decide (z = 32) := by unfold fitZ; rw [if_neg (by omega)]
end Go.Proofs.YtddackdghphcnaaDoor.s13

namespace Go.Proofs.YtddackdghphcnaaDoor.s13
set_option linter.unusedVariables false
set_option linter.unusedSimpArgs false
open Go.RowKit
open kit

theorem bytes_below (w : World) (e : TypeId) (s : ByteArray) : Below w.heap.size w (Lib.bytesWorld w e s) :=
  ⟨by simp [Lib.bytesWorld, World.freeze]; rfl, by simp [Lib.bytesWorld, World.freeze], by simp [Lib.bytesWorld, World.freeze]; rfl, by rw [Lib.bytesWorld_size]; omega, fun k hk => Lib.bytesWorld_at_old w e s k hk⟩
set_option maxRecDepth 100000 in
set_option maxHeartbeats 2000000 in
theorem isdigits_any (s : ByteArray) (w : World) (hs : s.size ≤ 9223372036854775807) : Calls Tryd.prog 58 #[.string s] w fun e w' => e = .returned (.bool (isDg s)) ∧ Below w.heap.size w w' := by
  have hcv := Lib.run_convert_string_bytes w 9 67 5 s Tryd.underlying9 Tryd.underlying67 Tryd.underlying5
  have hcl := Lib.hid (fun j hj => Lib.bytesWorld_cell w 5 s j hj)
  have hB := Lib.hid (bytes_below w 5 s)
  generalize Lib.bytesWorld w 5 s = W at hcv hcl hB
  generalize grownCap w s.size 0 5 = cp at hcv
  go_enter Tryd.func58, Tryd.ntmps58
  go_wp2
  go_loop [8] (fun i => ∃ k : Nat, i = .int .i64 k ∧ k ≤ s.size ∧ Hid (∀ j, j < k → fitZ j (byt s j) = true)) (fun i => s.size - (intOf i).toNat)
  case atStart => exact ⟨0, rfl, by omega, Lib.hid (fun j hj => by omega)⟩
  case round =>
    obtain ⟨k, rfl, hk, HK⟩ := hrel
    by_cases hlt : k < s.size
    · have hc : W.cell? ⟨w.heap.size, k, none⟩ = some (.int .u8 (byt s k)) := hcl.out k hlt
      have hr := byt_range s k
      have hno := Lib.hid (isDg_no (s := s) k hlt)
      have hs2 := Lib.hid (fun h : fitZ k (byt s k) = true => (fun j (hj : j < k + 1) => if e : j = k then e ▸ h else HK.out j (by omega) : ∀ j, j < k + 1 → fitZ j (byt s j) = true))
      generalize byt s k = z at hc hr hno hs2
      obtain ⟨z0, z1⟩ := hr
      by_cases hp : k % 2 = 0
      · have hp2 : (k : Int) % 2 = 0 := by omega
        have hfe := Lib.hid (fit_even hp z)
        clear hp
        by_cases hz : z < 48
        · have hN := Lib.hid (hno.out (hfe.out.trans (decide_eq_false (by omega))))
          go_wp2
          go_ret
          exact ⟨ret_bool hN.out.symm, hB.out⟩
        · have hz2 : decide (z < 48) = false := decide_eq_false hz
          by_cases hz3 : 57 < z
          · have hN := Lib.hid (hno.out (hfe.out.trans (decide_eq_false (by omega))))
            clear hz
            go_wp2
            go_ret
            exact ⟨ret_bool hN.out.symm, hB.out⟩
          · have hz4 : decide (57 < z) = false := decide_eq_false hz3
            have hS := Lib.hid (hs2.out (hfe.out.trans (decide_eq_true (by omega))))
            clear hz hz3
            go_wp2
            go_round
            case rel => exact ⟨k + 1, by go_num, by omega, hS⟩
            case measure => simp [intOf]; omega
      · have hp2 : (k : Int) % 2 = 1 := by omega
        have hfo := Lib.hid (fit_odd (i := k) (by omega) z)
        clear hp
        by_cases hz : z = 32
        · have hS := Lib.hid (hs2.out (hfo.out.trans (decide_eq_true hz)))
          subst hz
          go_wp2
          go_round
          case rel => exact ⟨k + 1, by go_num, by omega, hS⟩
          case measure => simp [intOf]; omega
        · have hN := Lib.hid (hno.out (hfo.out.trans (decide_eq_false hz)))
          have hz2 : (z != 32) = true := by simpa using hz
          clear hz
          go_wp2
          go_ret
          exact ⟨ret_bool hN.out.symm, hB.out⟩
    · obtain rfl : k = s.size := by omega
      have hE := isDg_len HK.out
      by_cases hp : s.size % 2 = 1
      · have hp2 : (s.size : Int) % 2 = 1 := by omega
        rw [decide_eq_true hp] at hE
        have HE := Lib.hid hE
        clear hE hp
        go_wp2
        go_ret
        exact ⟨ret_bool HE.out.symm, hB.out⟩
      · have hp2 : (s.size : Int) % 2 = 0 := by omega
        rw [decide_eq_false hp] at hE
        have HE := Lib.hid hE
        clear hE hp
        go_wp2
        go_ret
        exact ⟨ret_bool HE.out.symm, hB.out⟩
theorem vals_len (s : ByteArray) : (vals s).length = (s.size + 1) / 2 := by unfold vals; simp
theorem vals_take (s : ByteArray) (j : Nat) (h : j < (s.size + 1) / 2) : (vals s).take (j + 1) = (vals s).take j ++ [byt s (2 * j) - 48] := by
  have hl : j < (vals s).length := by rw [vals_len]; exact h
  rw [List.take_succ_eq_append_getElem hl]
  have e : (vals s)[j] = byt s (2 * j) - 48 := by
    have h2 : (vals s)[j]? = some (byt s (2 * j) - 48) := by unfold vals; rw [List.getElem?_map, List.getElem?_range h]; rfl
    rw [List.getElem?_eq_getElem hl] at h2
    exact Option.some.inj h2
  rw [e]
theorem isDg_yes {s : ByteArray} (h : isDg s = true) : s.size % 2 = 1 ∧ ∀ i, i < s.size → fitZ i (byt s i) = true := of_decide_eq_true h
theorem byt_get {s : ByteArray} {i : Nat} (hi : i < s.size) : ((s[i]'hi).toNat : Int) = byt s i := by
  unfold byt
  have h : s.data.toList.getD i 0 = s[i]'hi := by
    rw [List.getD_eq_getElem?_getD, List.getElem?_eq_getElem (by simpa using hi)]
    rfl
  rw [h]
set_option maxRecDepth 100000 in
set_option maxHeartbeats 2000000 in
theorem pparse_dash (w : World) : Calls Tryd.prog 29 #[.string ⟨#[45]⟩] w fun e w' => e = .returned (LE no5 0) ∧ Below w.heap.size w w' := by
  go_enter Tryd.func29, Tryd.ntmps29
  go_wp2
  exact bodyPost_ret (v := .tuple #[.agg #[.int .i64 0, .int .i64 0, .int .i64 0, .int .i64 0, .int .i64 0], .int .i64 0]) (by simp [results, Tryd.results29, go_sem]) rfl ⟨rfl, (Below.refl _ _).alloc (Nat.le_refl _) _⟩
set_option maxRecDepth 100000 in
set_option maxHeartbeats 2000000 in
theorem pparse_form (s : ByteArray) (w : World) (hs : s.size ≤ 9223372036854775807) (hd : (s.toList == [45]) = false) (hn : Hid (isDg s = false)) : Calls Tryd.prog 29 #[.string s] w fun e w' => e = .returned (LE no5 3) ∧ Below w.heap.size w w' := by
  go_enter Tryd.func29, Tryd.ntmps29
  go_wp2_with (go_at_call 58; refine (isdigits_any s _ hs).mono ?_; rintro e w1 ⟨rfl, hB⟩; rw [hn.out]; obtain ⟨X1, hB1⟩ := made1 hB; have X1 := Lib.hid X1; have B1 := Lib.hid hB1; clear hB hB1; obtain ⟨v0, v1, v2, v3, v4⟩ := X1.out.cell5; obtain ⟨g0, g1, g2, g3, g4⟩ := X1.out.free5)
  obtain ⟨z0, z1, z2, z3, z4⟩ := (X1.out.put5 (.int .i64 0) (.int .i64 0) (.int .i64 0) (.int .i64 0) (.int .i64 0)).cell5
  exact bodyPost_ret (v := .tuple #[.agg #[.int .i64 0, .int .i64 0, .int .i64 0, .int .i64 0, .int .i64 0], .int .i64 3]) (by simp [results, Tryd.results29, go_sem, z0, z1, z2, z3, z4]) rfl ⟨rfl, below_put5 B1.out (by omega) _ _ _ _ _⟩
set_option maxRecDepth 100000 in
set_option maxHeartbeats 4000000 in
theorem pparse_ok (s : ByteArray) (w : World) (hs : s.size ≤ 1000) (hd : (s.toList == [45]) = false) (hn : Hid (isDg s = true)) (y : V5) (r : Int) (HY : Hid (ofP (vals s) = (y, r))) : Calls Tryd.prog 29 #[.string s] w fun e w' => e = .returned (LE y r) ∧ Below w.heap.size w w' := by
  obtain ⟨y0, y1, y2, y3, y4⟩ := y
  go_enter Tryd.func29, Tryd.ntmps29
  go_wp2_with (go_at_call 58; refine (isdigits_any s _ (by omega)).mono ?_; rintro e w1 ⟨rfl, hB⟩; rw [hn.out]; obtain ⟨X1, hB1⟩ := made1 hB; have X1 := Lib.hid X1; have B1 := Lib.hid hB1; clear hB hB1)
  go_loopw [4, 5] (fun v i wr => ∃ j q : Nat, i = .int .i64 q ∧ Hid (q = 2 * j) ∧ q ≤ s.size + 1 ∧ Hid (wr.ownsRow (w.heap.size + 1) 3 1 v j (((vals s).take j).map (Value.int .i64))) ∧ Hid (Box wr 25 w.heap.size #[.int .i64 0, .int .i64 0, .int .i64 0, .int .i64 0, .int .i64 0]) ∧ Hid (Below w.heap.size w wr)) (fun _ i _ => s.size + 2 - (intOf i).toNat)
  case atStart => exact ⟨0, 0, rfl, Lib.hid rfl, by omega, Lib.hid (World.ownsRow_nil _ _ _ _), X1, B1⟩
  case round =>
    obtain ⟨j, q, rfl, HQ, hq, HRow, HX, HB⟩ := hrel
    have hodd := Lib.hid (isDg_yes hn.out).1
    by_cases hlt : q < s.size
    · have hXlt := HX.out.lt
      have hb := byt_get hlt
      have hft := (isDg_yes hn.out).2 q hlt
      rw [fit_even (by have := HQ.out; omega)] at hft
      have hrg := of_decide_eq_true hft
      have hsn := vals_take s j (by have := HQ.out; omega)
      rw [← HQ.out, ← hb] at hsn
      rw [← hb] at hrg
      obtain ⟨z0, z1⟩ := hrg
      have HSN := Lib.hid hsn
      have hq3 : q + 2 ≤ s.size + 1 := by have := HQ.out; have := hodd.out; omega
      clear hft hsn hb
      go_wp2_with (at_builtin; refine append_in Tryd.underlying22 info3 rfl (by omega) rfl (.tmp 19) (.tmp 25) rfl (w.heap.size + 1) _ j _ rfl (row_alloc HRow.out _) (some ⟨wr.heap.size, 0, none⟩) [.int .i64 ((s[q].toNat : Int) - 48)] 1 1 rfl rfl (src_one wr _ _) (by simp [Value.oneCell']) (by have := HQ.out; omega) (by simp; omega) ?_; intro v1 wA hv1 hBA; have R1 := Lib.hid hv1; have XA := Lib.hid ((HX.out.alloc (.cells #[.int .i64 ((s[q].toNat : Int) - 48)] 3)).under (by omega) hBA); have BA := Lib.hid ((HB.out.alloc HB.out.size (.cells #[.int .i64 ((s[q].toNat : Int) - 48)] 3)).trans (hBA.mono (by omega))); clear hv1 hBA)
      go_roundw
      case rel => exact ⟨j + 1, q + 2, by go_num, Lib.hid (by have := HQ.out; omega), by omega, Lib.hid (by rw [HSN.out, List.map_append]; exact R1.out), XA, BA⟩
      case measure => simp [intOf]; omega
    · have hj : j = (vals s).length := by rw [vals_len]; have := HQ.out; have := hodd.out; omega
      have hrow := HRow.out
      rw [hj, List.take_length] at hrow
      obtain ⟨a1, c1, rfl⟩ := row_shape HRow.out
      rw [← hj] at hrow
      have hR : ReadsI wr a1 (vals s) := reads_of_row hj.symm hrow
      have HO := Lib.hid (of_any a1 c1 (vals s) wr (by rw [vals_len]; omega) hR (y0, y1, y2, y3, y4) r HY)
      rw [← hj] at HO
      clear hrow hR hj
      go_wp2_with (go_at_call 12; refine (HO.out).mono ?_; rintro e w3 ⟨rfl, hB⟩; have B3 := Lib.hid (below_then HB.out hB); have X3 := Lib.hid (HX.out.below hB); clear hB; obtain ⟨v0, v1, v2, v3, v4⟩ := X3.out.cell5; obtain ⟨g0, g1, g2, g3, g4⟩ := X3.out.free5)
      obtain ⟨z0, z1, z2, z3, z4⟩ := (X3.out.put5 (.int .i64 y0) (.int .i64 y1) (.int .i64 y2) (.int .i64 y3) (.int .i64 y4)).cell5
      exact bodyPost_ret (v := .tuple #[.agg #[.int .i64 y0, .int .i64 y1, .int .i64 y2, .int .i64 y3, .int .i64 y4], .int .i64 r]) (by simp [results, Tryd.results29, go_sem, z0, z1, z2, z3, z4]) rfl ⟨rfl, below_put5 B3.out (by omega) _ _ _ _ _⟩
theorem str_ne {s : ByteArray} (h : ¬ s = ⟨#[45]⟩) : (s.toList == [45]) = false := by
  have h2 := str_beq_false (b := ⟨#[45]⟩) h
  rwa [show (⟨#[45]⟩ : ByteArray).toList = [45] by decide +kernel] at h2
theorem pparse_any (s : ByteArray) (w : World) (hs : s.size ≤ 1000) (y : V5) (r : Int) (H : Hid (parseE s = (y, r))) : Calls Tryd.prog 29 #[.string s] w fun e w' => e = .returned (LE y r) ∧ Below w.heap.size w w' := by
  have h := H.out
  unfold parseE at h
  by_cases h1 : s = ⟨#[45]⟩
  · rw [if_pos h1] at h; cases h; subst h1
    exact pparse_dash w
  · rw [if_neg h1] at h
    by_cases h2 : isDg s = false
    · rw [if_pos h2] at h; cases h
      exact pparse_form s w (by omega) (str_ne h1) (Lib.hid h2)
    · rw [if_neg h2] at h
      exact pparse_ok s w hs (str_ne h1) (Lib.hid (by simpa using h2)) y r (Lib.hid h)
end Go.Proofs.YtddackdghphcnaaDoor.s13

namespace Go.Proofs.YtddackdghphcnaaDoor.kit
set_option linter.unusedVariables false
set_option linter.unusedSimpArgs false
set_option linter.unnecessarySimpa false
open Go Go.RowKit

/-- what is said of a value -/
inductive Sp where
  | con (c : Value)
  | rel (R : Value → World → Prop)
def Sp.Ok : Sp → Value → World → Prop
  | .con c, v, _ => v = c
  | .rel R, v, w => R v w
def Sp.Keeps : Sp → Prop
  | .con _ => True
  | .rel R => ∀ v w w', R v w → Below w.heap.size w w' → R v w'
theorem Sp.Ok.below {s : Sp} (hs : s.Keeps) {v : Value} {w w' : World} (h : s.Ok v w) (hB : Below w.heap.size w w') : s.Ok v w' := by
  cases s with
  | con c => exact h
  | rel R => exact hs v w w' h hB
def specUpon (P : Program) (T : Value → World → Prop) : Result Next → Prop
  | .ok (.value u) w' => T u w'
  | .ok .skip w' => T undef w'
  | .ok (.enter f args) w' => Calls P f args w' (fun e w'' => ∃ v, e = .returned v ∧ T v w'')
  | _ => False
def specAt (P : Program) (o : Oper) (a : Act) (w : World) (s : Sp) : Prop := specUpon P (fun v w' => Below w.heap.size w w' ∧ s.Ok v w') ((execOp a.eval o).run P w)
theorem wp_of_spec {P : Program} {o : Oper} {a : Act} {w : World} {s : Sp} {K : Act → World → Prop} {Q : Exit → Act → World → Prop} (h : specAt P o a w s)
    (hK : ∀ v w', Below w.heap.size w w' → s.Ok v w' → K (a.put o.dst v) w') : o.wp P a w K Q := by
  unfold specAt at h
  unfold Oper.wp
  generalize (execOp a.eval o).run P w = r at *
  cases r with
  | ok n w' =>
    cases n <;> simp only [specUpon] at h <;> simp only [Oper.upon]
    case value u => exact hK _ _ h.1 h.2
    case skip => exact hK _ _ h.1 h.2
    case enter f args =>
      refine h.mono ?_
      rintro e w'' ⟨v, rfl, h1, h2⟩
      exact hK _ _ h1 h2
  | halt x w' => simp only [specUpon] at h

section
variable {P : Program} {l : List Oper}
/-- what is at hand where an operation comes up: those that it waits for have met their specifications -/
def Pre (l : List Oper) (S : List Sp) (a : Act) (o : Oper) (A : Act) (w : World) : Prop :=
  (∀ t, (l.all fun x => x.dst != some t) = true → A.eval (.tmp t) = a.eval (.tmp t)) ∧
  ∀ i, (o.after.any fun e => e.on == i && Region.binds .any e) = true → ∀ oi s, l[i]? = some oi → S[i]? = some s → ∃ v, s.Ok v w ∧ ∀ d, oi.dst = some d → A.eval (.tmp d) = v
theorem Pre.con {S : List Sp} {a A : Act} {o : Oper} {w : World} (h : Pre l S a o A w) (i : Nat) {d : Tmp} {c : Value} (h1 : (o.after.any fun e => e.on == i && Region.binds .any e) = true) (h2 : (l[i]?).bind (·.dst) = some d) (h3 : S[i]? = some (.con c)) : A.eval (.tmp d) = c := by
  cases hi : l[i]? with
  | none => rw [hi] at h2; cases h2
  | some oi =>
    rw [hi] at h2
    obtain ⟨v, hv, hd⟩ := h.2 i h1 oi _ hi h3
    rw [hd d h2]
    exact hv
theorem Pre.rel {S : List Sp} {a A : Act} {o : Oper} {w : World} (h : Pre l S a o A w) (i : Nat) {d : Tmp} {R : Value → World → Prop} (h1 : (o.after.any fun e => e.on == i && Region.binds .any e) = true) (h2 : (l[i]?).bind (·.dst) = some d) (h3 : S[i]? = some (.rel R)) : R (A.eval (.tmp d)) w := by
  cases hi : l[i]? with
  | none => rw [hi] at h2; cases h2
  | some oi =>
    rw [hi] at h2
    obtain ⟨v, hv, hd⟩ := h.2 i h1 oi _ hi h3
    rw [hd d h2]
    exact hv
theorem Pre.old {S : List Sp} {a A : Act} {o : Oper} {w : World} (h : Pre l S a o A w) (t : Tmp) {c : Value} (h1 : (l.all fun x => x.dst != some t) = true) (h2 : a.eval (.tmp t) = c) : A.eval (.tmp t) = c := by rw [h.1 t h1, h2]
/-- an operation, whether it is wanted or passed over -/
def stepOk (P : Program) (l : List Oper) (o : Oper) (A : Act) (w : World) (s : Sp) : Prop :=
  (Region.wanted o (yielded l.toArray A.tmps) = true ∧ specAt P o A w s) ∨ (Region.wanted o (yielded l.toArray A.tmps) = false ∧ s.Ok undef w)
/-- all operations -/
def stepsOk (P : Program) (l : List Oper) (S : List Sp) (a : Act) (w0 : World) : List Oper → List Sp → Prop
  | o :: r, s :: q => (∀ A w, Below w0.heap.size w0 w → Pre l S a o A w → stepOk P l o A w s) ∧ stepsOk P l S a w0 r q
  | [], [] => True
  | _, _ => False
theorem stepsOk_at {S : List Sp} {a : Act} {w0 : World} : ∀ {r : List Oper} {q : List Sp}, stepsOk P l S a w0 r q → r.length = q.length ∧ ∀ (j : Nat) (o : Oper), r[j]? = some o → ∃ s, q[j]? = some s ∧ ∀ A w, Below w0.heap.size w0 w → Pre l S a o A w → stepOk P l o A w s
  | [], [], _ => ⟨rfl, fun j o h => by simp at h⟩
  | o :: r, s :: q, h => by
    obtain ⟨h1, h2⟩ := h
    obtain ⟨h3, h4⟩ := stepsOk_at h2
    refine ⟨by simp [h3], fun j o' hj => ?_⟩
    cases j with
    | zero => simp at hj; subst hj; exact ⟨s, by simp, h1⟩
    | succ j => simpa using h4 j o' (by simpa using hj)
  | [], _ :: _, h => h.elim
  | _ :: _, [], h => h.elim
def putAll (vs : Nat → Value) : Nat → List Oper → Act → Act
  | _, [], a => a
  | k, o :: r, a => putAll vs (k + 1) r (a.put o.dst (vs k))
/-- edges lead back; no slot twice; slots lie in the frame -/
def fitB (l : List Oper) (n : Nat) : Bool :=
  (List.range l.length).all (fun j => (l[j]?).elim true fun o => (o.after.all fun e => !Region.binds .any e || decide (e.on < j)) && (match o.dst with | some d => decide (d < n) && ((l.drop (j + 1)).all fun x => x.dst != some d) | none => true))
structure Fit (l : List Oper) (n : Nat) : Prop where
  back : ∀ (j : Nat) o, l[j]? = some o → ∀ e ∈ o.after, Region.binds .any e = true → e.on < j
  lies : ∀ (j : Nat) o, l[j]? = some o → ∀ d, o.dst = some d → d < n
  once : ∀ (i j : Nat) o x, i < j → l[i]? = some o → l[j]? = some x → ∀ d, o.dst = some d → x.dst ≠ some d
theorem fit_of {l : List Oper} {n : Nat} (h : fitB l n = true) : Fit l n := by
  unfold fitB at h
  rw [List.all_eq_true] at h
  have key : ∀ (j : Nat) o, l[j]? = some o → (o.after.all fun e => !Region.binds .any e || decide (e.on < j)) = true ∧ (match o.dst with | some d => decide (d < n) && ((l.drop (j + 1)).all fun x => x.dst != some d) | none => true) = true := fun j o hj => by
    have := h j (List.mem_range.2 (List.getElem?_eq_some_iff.1 hj).1)
    rw [hj] at this
    simpa [Option.elim] using this
  refine ⟨fun j o hj e he hb => ?_, fun j o hj d hd => ?_, fun i j o x hij hi hj d hd => ?_⟩
  · have h1 := (key j o hj).1
    rw [Array.all_eq_true'] at h1
    have := h1 e he
    simpa [hb] using this
  · have h1 := (key j o hj).2
    rw [hd] at h1
    simp only [Bool.and_eq_true, decide_eq_true_eq] at h1
    exact h1.1
  · have h1 := (key i o hi).2
    rw [hd] at h1
    simp only [Bool.and_eq_true, List.all_eq_true] at h1
    have h2 := h1.2 x (by
      rw [List.mem_iff_getElem?]
      exact ⟨j - (i + 1), by rw [List.getElem?_drop, show i + 1 + (j - (i + 1)) = j by omega]; exact hj⟩)
    simpa using h2
structure In (l : List Oper) (S : List Sp) (a : Act) (w0 : World) (listed : Array Bool) (vs : Nat → Value) (A : Act) (w : World) : Prop where
  below : Below w0.heap.size w0 w
  defers : A.defers = a.defers
  size : A.tmps.size = a.tmps.size
  done : ∀ i o s, l[i]? = some o → S[i]? = some s → listed.getD i false = true → s.Ok (vs i) w ∧ ∀ d, o.dst = some d → A.eval (.tmp d) = vs i
  rest : ∀ t, (∀ i o, l[i]? = some o → listed.getD i false = true → o.dst ≠ some t) → A.eval (.tmp t) = a.eval (.tmp t)
theorem eval_put_same {a : Act} {d : Tmp} {v : Value} (h : d < a.tmps.size) : (a.put (some d) v).eval (.tmp d) = v := by
  simp [Act.eval, Act.put, h]
theorem eval_put_other {a : Act} {t : Tmp} {dst : Option Tmp} {v : Value} (h : dst ≠ some t) : (a.put dst v).eval (.tmp t) = a.eval (.tmp t) :=
  Act.eval_put fun d hd e => by cases e; exact h hd
theorem In.next {S : List Sp} {a : Act} {w0 : World} {listed : Array Bool} {vs : Nat → Value} {A : Act} {w w' : World} (hK : ∀ s ∈ S, s.Keeps) (hF : Fit l a.tmps.size) (hI : In l S a w0 listed vs A w) {j : Nat} {o : Oper} {s : Sp} (hj : l[j]? = some o) (hs : S[j]? = some s) (hun : listed.getD j true = false)
    {v : Value} (hB : Below w.heap.size w w') (hv : s.Ok v w') : In l S a w0 (listed.setIfInBounds j true) (fun i => if i = j then v else vs i) (A.put o.dst v) w' := by
  have hjs : j < listed.size := by
    rcases Nat.lt_or_ge j listed.size with h | h
    · exact h
    · simp [Array.getElem?_eq_none h] at hun
  have hlist : ∀ i, (listed.setIfInBounds j true).getD i false = true → i ≠ j → listed.getD i false = true := fun i h hne => by
    simpa [Array.getElem?_setIfInBounds, Ne.symm hne] using h
  have hself : (listed.setIfInBounds j true).getD j false = true := by simp [hjs]
  refine ⟨below_on hI.below (Nat.le_refl _) hB, ?_, ?_, ?_, ?_⟩
  · rw [← hI.defers]; cases o.dst <;> rfl
  · rw [← hI.size]; cases o.dst <;> simp [Act.put]
  · intro i oi si hi hsi hl
    by_cases e : i = j
    · subst e
      rw [hj] at hi; cases hi
      rw [hs] at hsi; cases hsi
      refine ⟨by simpa using hv, fun d hd => ?_⟩
      rw [hd, eval_put_same (by rw [hI.size]; exact hF.lies i o hj d hd)]
      simp
    · obtain ⟨h1, h2⟩ := hI.done i oi si hi hsi (hlist i hl e)
      refine ⟨by rw [if_neg e]; exact h1.below (hK si (List.mem_of_getElem? hsi)) hB, fun d hd => ?_⟩
      rw [if_neg e, eval_put_other, h2 d hd]
      rcases Nat.lt_or_gt_of_ne e with hlt | hlt
      · exact hF.once i j oi o hlt hi hj d hd
      · intro hod
        exact hF.once j i o oi hlt hj hi d hod hd
  · intro t ht
    rw [eval_put_other (ht j o hj hself)]
    refine hI.rest t fun i oi hi hl => ht i oi hi ?_
    by_cases e : i = j
    · subst e; exact hself
    · simpa [Array.getElem?_setIfInBounds, Ne.symm e] using hl
/-- how many have not come up -/
def left (listed : Array Bool) : Nat := listed.toList.count false
theorem left_set {listed : Array Bool} {j : Nat} (h : listed.getD j true = false) : left (listed.setIfInBounds j true) + 1 = left listed := by
  have hjs : j < listed.size := by
    rcases Nat.lt_or_ge j listed.size with h' | h'
    · exact h'
    · simp [Array.getElem?_eq_none h'] at h
  have hg : listed.toList[j]'(by simpa using hjs) = false := by simpa [hjs] using h
  unfold left
  rw [Array.toList_setIfInBounds]
  have hp : 0 < listed.toList.count false := List.count_pos_iff.2 (hg ▸ List.getElem_mem _)
  have hc := List.count_set (l := listed.toList) (i := j) (a := true) (b := false) (by rw [Array.length_toList]; exact hjs)
  rw [hg] at hc
  rw [hc, if_pos (by rfl), if_neg (by decide)]
  omega
theorem left_zero {listed : Array Bool} (h : left listed = 0) (j : Nat) (hj : j < listed.size) : listed.getD j false = true := by
  unfold left at h
  rw [List.count_eq_zero] at h
  have := List.getElem_mem (l := listed.toList) (n := j) (by simpa using hj)
  cases e : listed[j] with
  | true => simp [hj, e]
  | false => exact absurd (by rw [← e]; simpa using this) h
theorem left_pos {listed : Array Bool} (h : 0 < left listed) : ∃ j, listed.getD j true = false := by
  unfold left at h
  obtain ⟨j, hj, e⟩ := List.mem_iff_getElem.1 (List.count_pos_iff.1 h)
  rw [Array.length_toList] at hj
  exact ⟨j, by simp at e; simp [hj, e]⟩
theorem pre_of {S : List Sp} {a : Act} {w0 : World} {listed : Array Bool} {vs : Nat → Value} {A : Act} {w : World} (hI : In l S a w0 listed vs A w) {j : Nat} (hj : j ∈ Region.ready .any l.toArray listed) {o : Oper} (ho : l[j]? = some o) : Pre l S a o A w := by
  obtain ⟨_, o', ho', hall⟩ := mem_ready.1 hj
  have e : o' = o := by
    have : l[j]? = some o' := by simpa using ho'
    rw [ho] at this; cases this; rfl
  subst e
  refine ⟨fun t ht => hI.rest t fun i oi hi _ => ?_, fun i hi oi s hoi hs => ?_⟩
  · rw [List.all_eq_true] at ht
    simpa using ht oi (List.mem_of_getElem? hi)
  · obtain ⟨k, hk, hb⟩ := Array.any_eq_true.1 hi
    simp only [Bool.and_eq_true, beq_iff_eq] at hb
    have := hall o'.after[k] (Array.getElem_mem hk) hb.2
    rw [hb.1] at this
    obtain ⟨h1, h2⟩ := hI.done i oi s hoi hs this
    exact ⟨vs i, h1, h2⟩
theorem eval_putAll (vs : Nat → Value) (t : Tmp) : ∀ (r : List Oper) (k : Nat) (a : Act), (∀ (i : Nat) o, r[i]? = some o → ∀ d, o.dst = some d → d < a.tmps.size) →
    ((∀ (i : Nat) o, r[i]? = some o → o.dst ≠ some t) → (putAll vs k r a).eval (.tmp t) = a.eval (.tmp t)) ∧
    (∀ (i : Nat) o, r[i]? = some o → o.dst = some t → (∀ (j : Nat) x, i < j → r[j]? = some x → x.dst ≠ some t) → (putAll vs k r a).eval (.tmp t) = vs (k + i))
  | [], k, a, _ => ⟨fun _ => rfl, fun i o h => by simp at h⟩
  | o :: r, k, a, hl => by
    obtain ⟨h1, h2⟩ := eval_putAll vs t r (k + 1) (a.put o.dst (vs k)) (fun i x hx d hd => by
      have := hl (i + 1) x (by simpa using hx) d hd
      cases o.dst <;> simpa [Act.put] using this)
    refine ⟨fun hn => ?_, fun i x hx hd hlast => ?_⟩
    · show (putAll vs (k + 1) r (a.put o.dst (vs k))).eval _ = _
      rw [h1 fun i x hx => hn (i + 1) x (by simpa using hx), eval_put_other (hn 0 o (by simp))]
    · show (putAll vs (k + 1) r (a.put o.dst (vs k))).eval _ = _
      cases i with
      | zero =>
        simp at hx; subst hx
        rw [h1 fun j y hy => hlast (j + 1) y (by omega) (by simpa using hy), hd, eval_put_same (hl 0 o (by simp) t hd)]
        simp
      | succ i =>
        rw [h2 i x (by simpa using hx) hd fun j y hj hy => hlast (j + 1) y (by omega) (by simpa using hy)]
        congr 1; omega
theorem size_putAll (vs : Nat → Value) : ∀ (r : List Oper) (k : Nat) (a : Act), (putAll vs k r a).tmps.size = a.tmps.size ∧ (putAll vs k r a).defers = a.defers
  | [], _, _ => ⟨rfl, rfl⟩
  | o :: r, k, a => by
    obtain ⟨h1, h2⟩ := size_putAll vs r (k + 1) (a.put o.dst (vs k))
    exact ⟨h1.trans (by cases o.dst <;> simp [Act.put]), h2.trans (by cases o.dst <;> rfl)⟩
theorem act_ext {a b : Act} (hs : a.tmps.size = b.tmps.size) (hd : a.defers = b.defers) (h : ∀ t, a.eval (.tmp t) = b.eval (.tmp t)) : a = b := by
  obtain ⟨x, d⟩ := a
  obtain ⟨y, e⟩ := b
  simp only at hs hd
  subst hd
  have : x = y := Array.ext hs fun i h1 h2 => by
    have := h i
    simpa [Act.eval, h1, h2] using this
  rw [this]
theorem wpAny_of_specs {S : List Sp} {a : Act} {w0 : World} {Q : Exit → Act → World → Prop} (hK : ∀ s ∈ S, s.Keeps) (hF : Fit l a.tmps.size) (hS : stepsOk P l S a w0 l S)
    (hQ : ∀ vs w, Below w0.heap.size w0 w → (∀ (i : Nat) (s : Sp), S[i]? = some s → s.Ok (vs i) w) → Q .normal (putAll vs 0 l a) w) :
    ∀ (fuel : Nat) (listed : Array Bool) (vs : Nat → Value) (A : Act) (w : World), listed.size = l.length → left listed = fuel → In l S a w0 listed vs A w → wpAny P .any l.toArray Q fuel listed A w := by
  obtain ⟨hlen, hat⟩ := stepsOk_at hS
  intro fuel
  induction fuel with
  | zero =>
    intro listed vs A w hsz hleft hI
    have hall := left_zero hleft
    refine ⟨?_, ?_⟩
    · rw [List.eq_nil_iff_forall_not_mem]
      intro j hj
      obtain ⟨h0, o, ho, _⟩ := mem_ready.1 hj
      have hjl : j < l.length := by
        have : l[j]? = some o := by simpa using ho
        exact (List.getElem?_eq_some_iff.1 this).1
      have := hall j (by omega)
      have hjs : j < listed.size := by omega
      simp [hjs] at h0 this
      rw [h0] at this; cases this
    · have hdone : ∀ i o s, l[i]? = some o → S[i]? = some s → s.Ok (vs i) w ∧ ∀ d, o.dst = some d → A.eval (.tmp d) = vs i := fun i o s ho hs =>
        hI.done i o s ho hs (hall i (by rw [hsz]; exact (List.getElem?_eq_some_iff.1 ho).1))
      have hA : A = putAll vs 0 l a := by
        obtain ⟨s1, s2⟩ := size_putAll vs l 0 a
        refine act_ext (hI.size.trans s1.symm) (hI.defers.trans s2.symm) fun t => ?_
        obtain ⟨e1, e2⟩ := eval_putAll vs t l 0 a hF.lies
        by_cases hex : ∃ (i : Nat) (o : Oper), l[i]? = some o ∧ o.dst = some t
        · obtain ⟨i, o, ho, hd⟩ := hex
          have hil := (List.getElem?_eq_some_iff.1 ho).1
          have hsi : S[i]? = some (S[i]'(by omega)) := List.getElem?_eq_getElem (by omega)
          rw [e2 i o ho hd fun j x hij hx hxd => hF.once i j o x hij ho hx t hd hxd, (hdone i o _ ho hsi).2 t hd]
          simp
        · rw [e1 fun i o ho hd => hex ⟨i, o, ho, hd⟩]
          exact hI.rest t fun i o ho _ hd => hex ⟨i, o, ho, hd⟩
      rw [hA]
      refine hQ vs w hI.below fun i s hs => ?_
      have hil := (List.getElem?_eq_some_iff.1 hs).1
      have hli : l[i]? = some (l[i]'(by omega)) := List.getElem?_eq_getElem (by omega)
      exact (hdone i _ s hli hs).1
  | succ fuel ih =>
    intro listed vs A w hsz hleft hI
    have hex : ∃ j, listed.getD j true = false := left_pos (by omega)
    refine ⟨fun hnil => ?_, fun j hj => ?_⟩
    · exfalso
      have key : ∀ j, listed.getD j false = true ∨ l.length ≤ j := by
        intro j
        induction j using Nat.strongRecOn with
        | _ j ihj =>
          rcases Nat.lt_or_ge j l.length with hjl | hjl
          · left
            have hoj : l[j]? = some l[j] := List.getElem?_eq_getElem hjl
            cases e : listed.getD j false with
            | true => rfl
            | false =>
              have hjs : j < listed.size := by omega
              have hin : j ∈ Region.ready .any l.toArray listed := mem_ready.2 ⟨by simpa [hjs] using e, l[j], by simpa using hoj, fun ed hed hb => by
                have hlt := hF.back j _ hoj ed hed hb
                rcases ihj ed.on hlt with h | h
                · exact h
                · omega⟩
              rw [hnil] at hin; cases hin
          · exact .inr hjl
      obtain ⟨j, hj⟩ := hex
      have hjs : j < listed.size := by
        rcases Nat.lt_or_ge j listed.size with h | h
        · exact h
        · simp [Array.getElem?_eq_none h] at hj
      rcases key j with h | h
      · simp [hjs] at h hj; rw [h] at hj; cases hj
      · omega
    · obtain ⟨hun, o, ho, _⟩ := mem_ready.1 hj
      have ho' : l[j]? = some o := by simpa using ho
      obtain ⟨s, hs, hstep⟩ := hat j o ho'
      have hst := hstep A w hI.below (pre_of hI hj ho')
      have hgo : ∀ v w', Below w.heap.size w w' → s.Ok v w' → wpAny P .any l.toArray Q fuel (listed.setIfInBounds j true) (A.put o.dst v) w' := fun v w' hB hv =>
        ih _ _ _ _ (by simpa using hsz) (by have := left_set hun; omega) (hI.next hK hF ho' hs hun hB hv)
      unfold wpOp
      rw [ho]
      simp only
      rcases hst with ⟨hw, h⟩ | ⟨hw, h⟩
      · rw [if_pos hw]
        exact .inl (wp_of_spec h hgo)
      · rw [if_neg (by rw [hw]; exact Bool.false_ne_true)]
        exact hgo _ _ (Below.refl _ _) h
/-- **a region by the specifications of its operations** -/
theorem wp_region_specs {id : Nat} {Q : Exit → Act → World → Prop} {a : Act} {w : World} (S : List Sp) (hm : P.follows .mixedOrders = true) (hB : fitB l a.tmps.size = true) (hK : ∀ s ∈ S, s.Keeps)
    (hS : stepsOk P l S a w l S) (hQ : ∀ vs w', Below w.heap.size w w' → (∀ (i : Nat) (s : Sp), S[i]? = some s → s.Ok (vs i) w') → Q .normal (putAll vs 0 l a) w') : (Code.region id l.toArray true).wp P Q a w := by
  refine wp_region_any hm ?_
  have hb : Below w.heap.size w { w with drawn := w.drawn + 1 } := (Below.refl _ w).drew
  refine wpAny_of_specs hK (fit_of hB) hS hQ _ _ (fun _ => undef) a _ (by simp) (by simp [left]) ⟨hb, rfl, rfl, fun i o s ho hs hl => ?_, fun t _ => rfl⟩
  rcases Nat.lt_or_ge i l.length with h | h
  · simp [h] at hl
  · have := (List.getElem?_eq_some_iff.1 ho).1
    omega
end
end Go.Proofs.YtddackdghphcnaaDoor.kit
