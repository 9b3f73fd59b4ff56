/-
  Layer 13: the laws' of, joins, compares. Layer 13, plain: texts of looks. Which functions of this program are those of the library of which the shelf speaks: 171. Which functions of this program are those of the library of which the shelf speaks: 156. Layer 13: the program's Text. Layer 13, plain: what a text is read as. Layer 13: the program's isDigits.
-/
import Derived.Test.YtddackdghphcnaaDoorG05
import Derived.Test.YtddackdghphcnaaDoorG06
import Derived.Lib.Join
import Derived.Shelf.Strconv.Itoa3
import Derived.Test.YtddackdghphcnaaDoorRows
import Derived.Shelf.Strings.OnBuilder
import Derived.Test.YtddackdghphcnaaDoorG04
import Derived.Lib.ConvBytes
namespace Go.Proofs.YtddackdghphcnaaDoor.s13
set_option linter.unusedVariables false
set_option linter.unusedSimpArgs false
open Go.RowKit
open kit

set_option maxRecDepth 100000 in
set_option maxHeartbeats 2000000 in
theorem lof_any (a : Option Addr) (cp : Nat) (l : List Int) (w : World) (h2 : l.length ≤ 9223372036854775807) (hr : Hid (ReadsI w a l)) (y0 y1 y2 y3 y4 : Int) (r : Int) (H : Hid (ofP l = ((y0, y1, y2, y3, y4), r))) :
    Calls Tryd.prog 37 #[.slice a l.length cp] w fun e w' => e = .returned (.agg #[.int .i64 y0, .int .i64 y1, .int .i64 y2, .int .i64 y3, .int .i64 y4]) ∧ Below w.heap.size w w' := by
  go_enter Tryd.func37, Tryd.ntmps37
  go_wp2_with (go_at_call 12; refine (of_any a cp l _ h2 (hr.out.below ((Below.refl _ _).alloc (Nat.le_refl _) _)) _ r H).mono ?_; rintro e w1 ⟨rfl, hB⟩; obtain ⟨X1, hB1⟩ := made1 hB; have B1 := Lib.hid hB1; have hlt := X1.lt; obtain ⟨g0, g1, g2, g3, g4⟩ := X1.free5; obtain ⟨v0, v1, v2, v3, v4⟩ := X1.cell5; have X1 := Lib.hid X1; clear hB hB1)
  obtain ⟨z0, z1, z2, z3, z4⟩ := ((X1.out.put5 (.int .i64 y0) (.int .i64 y1) (.int .i64 y2) (.int .i64 y3) (.int .i64 y4)).alloc (.cells #[.int .i64 y0, .int .i64 y1, .int .i64 y2, .int .i64 y3, .int .i64 y4] 25)).cell5
  exact bodyPost_ret (v := .agg #[.int .i64 y0, .int .i64 y1, .int .i64 y2, .int .i64 y3, .int .i64 y4]) (by simp [results, Tryd.results37, go_sem, z0, z1, z2, z3, z4]) rfl ⟨rfl, (below_put5 B1.out (Nat.le_refl _) _ _ _ _ _).alloc (by simpa using Nat.le_of_lt hlt) _⟩
set_option maxRecDepth 100000 in
set_option maxHeartbeats 2000000 in
theorem ljoins_any (k n a b c d n' a' b' c' d' y0 y1 y2 y3 y4 z0 z1 z2 z3 z4 r : Int) (w : World) (H : Hid (joinE k (n, a, b, c, d) (n', a', b', c', d') = ((y0, y1, y2, y3, y4), r))) (hr : r = 0) (v : Bool) (hv : v = decide (y0 = z0 ∧ y1 = z1 ∧ y2 = z2 ∧ y3 = z3 ∧ y4 = z4)) :
    Calls Tryd.prog 38 #[.int .i64 k, .agg #[.int .i64 n, .int .i64 a, .int .i64 b, .int .i64 c, .int .i64 d], .agg #[.int .i64 n', .int .i64 a', .int .i64 b', .int .i64 c', .int .i64 d'], .agg #[.int .i64 z0, .int .i64 z1, .int .i64 z2, .int .i64 z3, .int .i64 z4]] w fun e w' => e = .returned (.bool v) ∧ Below w.heap.size w w' := by
  subst hr
  have zq : ∀ W, (binOp .eql 25 (.agg #[.int .i64 y0, .int .i64 y1, .int .i64 y2, .int .i64 y3, .int .i64 y4]) (.agg #[.int .i64 z0, .int .i64 z1, .int .i64 z2, .int .i64 z3, .int .i64 z4])).run Tryd.prog W = .ok (.bool v) W := fun W => by rw [eql_look, ← hv]
  have zg := guard_look
  clear hv
  go_enter Tryd.func38, Tryd.ntmps38
  go_wp2_with (go_at_call 21; refine (pjoin_any k n a b c d n' a' b' c' d' _ _ 0 H).mono ?_; rintro e w1 ⟨rfl, hB⟩; obtain ⟨X1, Y1, Z1, hB1⟩ := made3 hB; have B1 := Lib.hid hB1; obtain ⟨v0, v1, v2, v3, v4⟩ := Z1.cell5; have hlt := Z1.lt; clear hB hB1 X1 Y1 Z1)
  go_ret
  exact ⟨rfl, B1.out.alloc B1.out.size _⟩
set_option maxRecDepth 100000 in
set_option maxHeartbeats 2000000 in
theorem lcompares_any (n a b c d n' a' b' c' d' : Int) (w : World) (v x r : Int) (hr : r = 0) (H : Hid (cmpE (n, a, b, c, d) (n', a', b', c', d') = (v, r))) :
    Calls Tryd.prog 43 #[.agg #[.int .i64 n, .int .i64 a, .int .i64 b, .int .i64 c, .int .i64 d], .agg #[.int .i64 n', .int .i64 a', .int .i64 b', .int .i64 c', .int .i64 d'], .int .i64 x] w fun e w' => e = .returned (.bool (decide (v = x))) ∧ Below w.heap.size w w' := by
  subst hr
  go_enter Tryd.func43, Tryd.ntmps43
  go_wp2_with (go_at_call 25; refine (pcompare_any n a b c d n' a' b' c' d' _ v 0 H).mono ?_; rintro e w1 ⟨rfl, hB⟩; obtain ⟨X1, Y1, hB1⟩ := made2 hB; have B1 := Lib.hid hB1; clear hB hB1 X1 Y1)
  go_ret
  exact ⟨rfl, B1.out⟩
end Go.Proofs.YtddackdghphcnaaDoor.s13

namespace Go.Proofs.YtddackdghphcnaaDoor.s13
set_option linter.unusedVariables false
set_option linter.unusedSimpArgs false
open Go.RowKit
open kit

/-- a terminal's digit -/
def dg (z : Int) : UInt8 := UInt8.ofNat (48 + z.toNat)
def txB : List Int → List UInt8
  | [] => []
  | [x] => [dg x]
  | x :: y :: r => dg x :: 32 :: txB (y :: r)
def txt (l : List Int) : ByteArray := if l.length = 0 then ⟨#[45]⟩ else ⟨(txB l).toArray⟩
theorem join_tx (l : List Int) : Lib.join (l.map fun z => [dg z]) [32] = txB l := by
  have key : ∀ (l : List Int) (x : Int), dg x :: Lib.joinTail [32] (l.map fun z => [dg z]) = txB (x :: l) := by
    intro l
    induction l with
    | nil => intro x; rfl
    | cons y r ih =>
      intro x
      have := ih y
      simp only [Lib.joinTail, List.map_cons, List.flatten_cons] at this ⊢
      simp only [txB]
      rw [← this]
      rfl
  cases l with
  | nil => rfl
  | cons x r =>
    rw [List.map_cons, Lib.join_cons]
    exact key r x
theorem txB_snoc (l : List Int) (z : Int) : txB (l ++ [z]) = (if l.length = 0 then [] else txB l ++ [32]) ++ [dg z] := by
  induction l with
  | nil => rfl
  | cons x r ih =>
    rw [if_neg (by simp)]
    cases r with
    | nil => rfl
    | cons y r =>
      rw [if_neg (by simp)] at ih
      have e : (x :: y :: r) ++ [z] = x :: y :: (r ++ [z]) := rfl
      have e2 : (y :: r) ++ [z] = y :: (r ++ [z]) := rfl
      rw [e2] at ih
      rw [e]
      simp only [txB]
      rw [ih]
      simp
theorem txB_len (l : List Int) : (txB l).length = if l.length = 0 then 0 else 2 * l.length - 1 := by
  induction l with
  | nil => rfl
  | cons x r ih =>
    cases r with
    | nil => rfl
    | cons y r =>
      simp only [txB, List.length_cons] at ih ⊢
      rw [if_neg (by omega)] at ih ⊢
      omega
theorem txB_at (l : List Int) : ∀ i, i < 2 * l.length - 1 → (txB l)[i]? = some (if i % 2 = 0 then dg (l[i / 2]?.getD 0) else 32) := by
  induction l with
  | nil => intro i hi; simp at hi
  | cons x r ih =>
    intro i hi
    cases r with
    | nil =>
      have : i = 0 := by simp at hi; omega
      subst this; rfl
    | cons y r =>
      simp only [txB]
      match i with
      | 0 => rfl
      | 1 => rfl
      | i + 2 =>
        have h := ih i (by simp only [List.length_cons] at hi ⊢; omega)
        rw [List.getElem?_cons_succ, List.getElem?_cons_succ, h]
        rw [show (i + 2) % 2 = i % 2 by omega, show (i + 2) / 2 = i / 2 + 1 by omega, List.getElem?_cons_succ]
def txtE (x : V5) : ByteArray × Int := if chkP x.1 x.2.1 x.2.2.1 x.2.2.2.1 x.2.2.2.2 8 ≠ 0 then (⟨#[]⟩, chkP x.1 x.2.1 x.2.2.1 x.2.2.2.1 x.2.2.2.2 8) else (txt (lst x), 0)
theorem txt_size (l : List Int) (hl : l.length ≤ 4) : (txt l).size ≤ 7 := by
  unfold txt
  by_cases h : l.length = 0
  · rw [if_pos h]; decide
  · rw [if_neg h]
    show (txB l).toArray.size ≤ 7
    rw [List.size_toArray, txB_len, if_neg h]; omega
end Go.Proofs.YtddackdghphcnaaDoor.s13

namespace Go.Proofs.YtddackdghphcnaaDoor.lay
open Go.Shelf
def lay171_ren : Go.Shelf.Ren := ⟨fun | 171 => 48 | 243 => 63 | 246 => 71 | 283 => 76 | 284 => 77 | 285 => 78 | 286 => 79 | 129 => 87 | 317 => 86 | 318 => 88 | 319 => 89 | 320 => 75 | 337 => 84 | 338 => 85 | n => n, fun | 3 => 3 | 9 => 9 | 2 => 2 | 4 => 4 | 171 => 96 | 0 => 0 | 53 => 97 | 37 => 67 | 5 => 5 | 173 => 100 | 212 => 109 | 51 => 106 | 20 => 20 | 213 => 110 | 46 => 81 | 232 => 111 | 233 => 112 | n => n, fun | 17 => 0 | 18 => 2 | 19 => 3 | n => n⟩
theorem lay171 : Go.Proofs.Lays.n171 Tryd.prog lay171_ren := {
  mixed := by kernel_rfl
  f129 := Tryd.func87.trans (congrArg some (by kernel_rfl))
  f171 := Tryd.func48.trans (congrArg some (by kernel_rfl))
  f243 := Tryd.func63.trans (congrArg some (by kernel_rfl))
  f246 := Tryd.func71.trans (congrArg some (by kernel_rfl))
  f283 := Tryd.func76.trans (congrArg some (by kernel_rfl))
  f284 := Tryd.func77.trans (congrArg some (by kernel_rfl))
  f285 := Tryd.func78.trans (congrArg some (by kernel_rfl))
  f286 := Tryd.func79.trans (congrArg some (by kernel_rfl))
  f317 := Tryd.func86.trans (congrArg some (by kernel_rfl))
  f318 := Tryd.func88.trans (congrArg some (by kernel_rfl))
  f319 := Tryd.func89.trans (congrArg some (by kernel_rfl))
  f320 := Tryd.func75.trans (congrArg some (by kernel_rfl))
  f337 := Tryd.func84.trans (congrArg some (by kernel_rfl))
  f338 := Tryd.func85.trans (congrArg some (by kernel_rfl))
  t0 := Tryd.underlying0
  a0 := Tryd.isAgg0
  z0 := Tryd.sizeOf0
  v0 := Tryd.zeroValue0
  t2 := Tryd.underlying2
  a2 := Tryd.isAgg2
  z2 := Tryd.sizeOf2
  v2 := Tryd.zeroValue2
  t3 := Tryd.underlying3
  a3 := Tryd.isAgg3
  z3 := Tryd.sizeOf3
  v3 := Tryd.zeroValue3
  t4 := Tryd.underlying4
  a4 := Tryd.isAgg4
  z4 := Tryd.sizeOf4
  v4 := Tryd.zeroValue4
  t5 := Tryd.underlying5
  a5 := Tryd.isAgg5
  z5 := Tryd.sizeOf5
  v5 := Tryd.zeroValue5
  t9 := Tryd.underlying9
  a9 := Tryd.isAgg9
  z9 := Tryd.sizeOf9
  v9 := Tryd.zeroValue9
  t20 := Tryd.underlying20
  a20 := Tryd.isAgg20
  z20 := Tryd.sizeOf20
  v20 := Tryd.zeroValue20
  t37 := Tryd.underlying67
  a37 := Tryd.isAgg67
  z37 := Tryd.sizeOf67
  v37 := Tryd.zeroValue67
  t46 := Tryd.underlying81
  a46 := Tryd.isAgg81
  z46 := Tryd.sizeOf81
  v46 := Tryd.zeroValue81
  t51 := Tryd.underlying106
  a51 := Tryd.isAgg106
  z51 := Tryd.sizeOf106
  v51 := Tryd.zeroValue106
  t53 := Tryd.underlying97
  a53 := Tryd.isAgg97
  z53 := Tryd.sizeOf97
  v53 := Tryd.zeroValue97
  t171 := Tryd.underlying96
  a171 := Tryd.isAgg96
  z171 := Tryd.sizeOf96
  v171 := Tryd.zeroValue96
  t173 := Tryd.underlying100
  a173 := Tryd.isAgg100
  z173 := Tryd.sizeOf100
  v173 := Tryd.zeroValue100
  t212 := Tryd.underlying109
  a212 := Tryd.isAgg109
  z212 := Tryd.sizeOf109
  v212 := Tryd.zeroValue109
  t213 := Tryd.underlying110
  a213 := Tryd.isAgg110
  z213 := Tryd.sizeOf110
  t232 := Tryd.underlying111
  a232 := Tryd.isAgg111
  z232 := Tryd.sizeOf111
  v232 := Tryd.zeroValue111
  t233 := Tryd.underlying112
  a233 := Tryd.isAgg112
  z233 := Tryd.sizeOf112
  v233 := Tryd.zeroValue112
  g17 := by kernel_rfl
  g18 := by kernel_rfl
  g19 := by kernel_rfl }
end Go.Proofs.YtddackdghphcnaaDoor.lay

namespace Go.Proofs.YtddackdghphcnaaDoor.lay
open Go.Shelf
def lay156_ren : Go.Shelf.Ren := ⟨fun | 156 => 49 | 165 => 64 | 166 => 65 | 169 => 66 | 240 => 72 | 241 => 73 | 276 => 80 | 277 => 81 | n => n, fun | 31 => 64 | 9 => 9 | 3 => 3 | 4 => 4 | 0 => 0 | 20 => 20 | 72 => 84 | 76 => 88 | 70 => 82 | 37 => 67 | 75 => 87 | 127 => 94 | 164 => 102 | 5 => 5 | 80 => 90 | n => n, fun | n => n⟩
theorem lay156 : Go.Proofs.Lays.n156 Tryd.prog lay156_ren := {
  mixed := by kernel_rfl
  f156 := Tryd.func49.trans (congrArg some (by kernel_rfl))
  f165 := Tryd.func64.trans (congrArg some (by kernel_rfl))
  f166 := Tryd.func65.trans (congrArg some (by kernel_rfl))
  f169 := Tryd.func66.trans (congrArg some (by kernel_rfl))
  f240 := Tryd.func72.trans (congrArg some (by kernel_rfl))
  f241 := Tryd.func73.trans (congrArg some (by kernel_rfl))
  f276 := Tryd.func80.trans (congrArg some (by kernel_rfl))
  f277 := Tryd.func81.trans (congrArg some (by kernel_rfl))
  t0 := Tryd.underlying0
  a0 := Tryd.isAgg0
  z0 := Tryd.sizeOf0
  v0 := Tryd.zeroValue0
  t3 := Tryd.underlying3
  a3 := Tryd.isAgg3
  z3 := Tryd.sizeOf3
  v3 := Tryd.zeroValue3
  t4 := Tryd.underlying4
  a4 := Tryd.isAgg4
  z4 := Tryd.sizeOf4
  v4 := Tryd.zeroValue4
  t9 := Tryd.underlying9
  a9 := Tryd.isAgg9
  z9 := Tryd.sizeOf9
  v9 := Tryd.zeroValue9
  t20 := Tryd.underlying20
  a20 := Tryd.isAgg20
  z20 := Tryd.sizeOf20
  v20 := Tryd.zeroValue20
  t31 := Tryd.underlying64
  a31 := Tryd.isAgg64
  z31 := Tryd.sizeOf64
  v31 := Tryd.zeroValue64
  t37 := Tryd.underlying67
  a37 := Tryd.isAgg67
  z37 := Tryd.sizeOf67
  v37 := Tryd.zeroValue67
  t70 := Tryd.underlying82
  a70 := Tryd.isAgg82
  z70 := Tryd.sizeOf82
  v70 := Tryd.zeroValue82
  t72 := Tryd.underlying84
  a72 := Tryd.isAgg84
  z72 := Tryd.sizeOf84
  v72 := Tryd.zeroValue84
  t75 := Tryd.underlying87
  a75 := Tryd.isAgg87
  z75 := Tryd.sizeOf87
  v75 := Tryd.zeroValue87
  t76 := Tryd.underlying88
  a76 := Tryd.isAgg88
  z76 := Tryd.sizeOf88
  v76 := Tryd.zeroValue88
  t127 := Tryd.underlying94
  a127 := Tryd.isAgg94
  z127 := Tryd.sizeOf94
  v127 := Tryd.zeroValue94
  t164 := Tryd.underlying102
  a164 := Tryd.isAgg102
  z164 := Tryd.sizeOf102
  v164 := Tryd.zeroValue102 }
theorem layExtra156 : Builder.Extra Tryd.prog lay156_ren := {
  sizeBuilder := by kernel_rfl
  liesBuilder := by kernel_rfl
  t5 := Tryd.underlying5
  a5 := Tryd.isAgg5
  z5 := Tryd.sizeOf5
  v5 := Tryd.zeroValue5
  infoByte := by kernel_rfl
  cellsByte := by kernel_rfl
  sizeByte := by kernel_rfl
  neB5 := by decide }
end Go.Proofs.YtddackdghphcnaaDoor.lay

namespace Go.Proofs.YtddackdghphcnaaDoor.s13
set_option linter.unusedVariables false
set_option linter.unusedSimpArgs false
open Go.RowKit
open kit

theorem info9 : (Tryd.prog.info? 9).map (fun i => (i.zero, i.size, i.bytes)) = some (some (.string ⟨#[]⟩), 1, 16) := by kernel_rfl
theorem itoa_digit (z : Int) (h0 : 0 ≤ z) (h1 : z < 8) (w : World) : Calls Tryd.prog 48 #[.int .i64 z] w fun e w' => e = .returned (.string ⟨#[dg z]⟩) ∧ w = w' := by
  obtain ⟨k, rfl⟩ : ∃ k : Nat, z = k := ⟨z.toNat, by omega⟩
  refine (Any.strconv_Itoa_small lay.lay171 k (by omega) w).mono fun e w' ⟨he, hw⟩ => ⟨?_, hw.symm⟩
  rw [he]
  have : Lib.decDigits k = [dg k] := by
    unfold Lib.decDigits
    rw [dif_pos (by omega)]
    rfl
  rw [this]
def digs (l : List Int) : List ByteArray := l.map fun z => ⟨#[dg z]⟩
theorem join_digs (v : Value) (l : List Int) (base : Nat) (w : World) (hl : l.length ≤ 4) (hr : w.ownsRow base 9 1 v l.length ((digs l).map Value.string)) :
    Calls Tryd.prog 49 #[v, .string ⟨#[32]⟩] w fun e w' => e = .returned (.string ⟨(txB l).toArray⟩) ∧ Below w.heap.size w w' := by
  have hlen : (digs l).length = l.length := by unfold digs; simp
  have hj : Lib.join ((digs l).map (·.data.toList)) [32] = txB l := by
    rw [← join_tx]
    congr 1
    unfold digs
    rw [List.map_map]
    rfl
  have hbl : (txB l).length ≤ 8 := by rw [txB_len]; split <;> omega
  rcases hr.2 with ⟨rfl, h0⟩ | ⟨g, cap, cur, rfl, hbg, hgb, hcap, hm, hsz, htk⟩
  · have : l = [] := List.length_eq_zero_iff.1 h0
    subst this
    exact (Any.strings_Join_none lay.lay156 lay.layExtra156 none 0 ⟨#[32]⟩ w).mono fun e w' ⟨he, hw⟩ => ⟨he, hw ▸ Below.refl _ _⟩
  · have hlt : g < w.heap.size := (Array.getElem?_eq_some_iff.1 hgb).1
    have hc := Any.strings_Join lay.lay156 lay.layExtra156 g 0 cap (digs l) ⟨#[32]⟩ w (fun j x hx => by
      have hjl : j < l.length := by rw [← hlen]; exact (List.getElem?_eq_some_iff.1 hx).1
      rw [Nat.zero_add, hr.cellAt j (by omega), List.getElem?_map, hx]; rfl) hlt (by omega) (by omega) (by
        rw [show (⟨#[32]⟩ : ByteArray).data.toList = [32] from rfl, hj]; omega)
    rw [hlen] at hc
    refine hc.mono fun e w' ⟨he, hw⟩ => ⟨?_, hw⟩
    rw [he, show (⟨#[32]⟩ : ByteArray).data.toList = [32] from rfl, hj]
set_option maxRecDepth 100000 in
set_option maxHeartbeats 2000000 in
theorem ptext_bad (n a b c d r : Int) (w : World) (HR : Hid (chkP n a b c d 8 = r)) (hr : (r != 0) = true) : Calls Tryd.prog 16 #[.agg #[.int .i64 n, .int .i64 a, .int .i64 b, .int .i64 c, .int .i64 d]] w fun e w' => e = .returned (.tuple #[.string ⟨#[]⟩, .int .i64 r]) ∧ Below w.heap.size w w' := by
  go_enter Tryd.func16, Tryd.ntmps16
  go_wp2_with (go_at_call 46; refine (checkall_one n a b c d r _ _ (new2 _ _ _ _) HR).mono ?_; rintro e w1 ⟨rfl, hB⟩; obtain ⟨X1, _, hB1⟩ := made2 hB; have B1 := Lib.hid hB1; clear hB hB1 X1)
  go_ret2
  exact ⟨rfl, B1.out⟩
set_option maxRecDepth 100000 in
set_option maxHeartbeats 2000000 in
theorem ptext_none (w : World) (a b c d : Int) (HR : Hid (chkP 0 a b c d 8 = 0)) : Calls Tryd.prog 16 #[.agg #[.int .i64 0, .int .i64 a, .int .i64 b, .int .i64 c, .int .i64 d]] w fun e w' => e = .returned (.tuple #[.string ⟨#[45]⟩, .int .i64 0]) ∧ Below w.heap.size w w' := by
  go_enter Tryd.func16, Tryd.ntmps16
  go_wp2_with (go_at_call 46; refine (checkall_one 0 a b c d 0 _ _ (new2 _ _ _ _) HR).mono ?_; rintro e w1 ⟨rfl, hB⟩; obtain ⟨X1, _, hB1⟩ := made2 hB; have B1 := Lib.hid hB1; obtain ⟨x0, x1, x2, x3, x4⟩ := X1.cell5; clear hB hB1 X1)
  go_ret2
  exact ⟨rfl, B1.out⟩
set_option maxRecDepth 100000 in
set_option maxHeartbeats 4000000 in
theorem ptext_some (l : List Int) (N : Nat) (a b c d : Int) (w : World) (HR : Hid (chkP N a b c d 8 = 0)) (hN : N ≤ 4) (hN1 : 1 ≤ N) (HL : Hid (l.length = N)) (HP : Hid (pad5 l = ((N : Int), a, b, c, d))) (HK : Hid (okL 8 l)) :
    Calls Tryd.prog 16 #[.agg #[.int .i64 N, .int .i64 a, .int .i64 b, .int .i64 c, .int .i64 d]] w fun e w' => e = .returned (.tuple #[.string ⟨(txB l).toArray⟩, .int .i64 0]) ∧ Below w.heap.size w w' := by
  have n1 : (1 : Int) ≤ N := by omega
  have n2 : (N : Int) ≤ 4 := by omega
  have n0 : ((N : Int) == 0) = false := by rw [beq_eq_false_iff_ne]; omega
  go_enter Tryd.func16, Tryd.ntmps16
  go_wp2_with (go_at_call 46; refine (checkall_one N a b c d 0 _ _ (new2 _ _ _ _) HR).mono ?_; rintro e w1 ⟨rfl, hB⟩; obtain ⟨X1, _, hB1⟩ := made2 hB; have B1 := Lib.hid hB1; have X1 := Lib.hid X1; clear hB hB1; have x0 := X1.out.cell 0; simp at x0)
  go_loopw [5, 22] (fun v i wr => ∃ k : Nat, i = .int .i64 k ∧ k ≤ N ∧ Hid (wr.ownsRow (w.heap.size + 1) 9 1 v k ((digs (l.take k)).map Value.string)) ∧ Hid (Box wr 25 w.heap.size #[.int .i64 N, .int .i64 a, .int .i64 b, .int .i64 c, .int .i64 d]) ∧ Hid (Below w.heap.size w wr)) (fun _ i _ => N - (intOf i).toNat)
  case atStart => exact ⟨0, rfl, by omega, Lib.hid (World.ownsRow_nil _ _ _ _), X1, B1⟩
  case round =>
    obtain ⟨k, rfl, hk, HRow, HX, HB⟩ := hrel
    clear x0 X1 B1
    by_cases hlt : k < N
    · have hk4 : k < 4 := by omega
      have xk := HX.out.place k hk4
      have hXlt := HX.out.lt
      have hp := pad5_pl (l := l) (by have := HL.out; omega) HP.out k
      have hz := okL_at HK.out k (by have := HL.out; omega)
      rw [← hp] at hz
      obtain ⟨z0, z1⟩ := hz
      have hsn : Hid (digs (l.take (k + 1)) = digs (l.take k) ++ [⟨#[dg (pl a b c d k)]⟩]) := Lib.hid (by
        have hkl : k < l.length := by have := HL.out; omega
        rw [List.take_succ_eq_append_getElem hkl, hp, List.getElem?_eq_getElem hkl]
        unfold digs
        rw [List.map_append]; rfl)
      generalize pl a b c d k = z at xk hp hsn z0 z1
      clear hp
      go_wp2_with (first
        | (go_at_call 48; refine (itoa_digit z z0 z1 _).mono ?_; rintro e w2 ⟨rfl, rfl⟩)
        | (at_builtin; refine append_in Tryd.underlying64 info9 rfl (by omega) rfl (.tmp 26) (.tmp 29) rfl (w.heap.size + 1) _ k _ rfl (row_alloc HRow.out _) (some ⟨wr.heap.size, 0, none⟩) [.string ⟨#[dg z]⟩] 1 1 rfl rfl (src_one wr _ _) (by simp [Value.oneCell']) (by omega) (by simp; omega) ?_; intro v1 wA hv1 hBA; have R1 := Lib.hid hv1; have XA := Lib.hid ((HX.out.alloc (.cells #[.string ⟨#[dg z]⟩] 9)).under (by omega) hBA); have BA := Lib.hid ((HB.out.alloc HB.out.size (.cells #[.string ⟨#[dg z]⟩] 9)).trans (hBA.mono (by omega))); clear hv1 hBA))
      go_roundw
      case rel => exact ⟨k + 1, by go_num, by omega, Lib.hid (by rw [hsn.out, List.map_append]; exact R1.out), XA, BA⟩
      case measure => simp [intOf]; omega
    · obtain rfl : k = N := by omega
      have e : l.take k = l := by rw [← HL.out]; exact List.take_length
      have hrow := HRow.out
      rw [e, ← HL.out] at hrow
      obtain ⟨a1, c1, rfl⟩ := row_shape HRow.out
      have HJ := Lib.hid (join_digs _ l _ wr (by have := HL.out; omega) hrow)
      clear e hrow
      go_wp2_with (go_at_call 49; refine (HJ.out).mono ?_; rintro e w3 ⟨rfl, hB⟩; have B3 := Lib.hid (below_then HB.out hB); clear hB)
      go_ret2
      exact ⟨rfl, B3.out⟩
theorem ptext_any (n a b c d : Int) (w : World) (s : ByteArray) (r : Int) (H : Hid (txtE (n, a, b, c, d) = (s, r))) : Calls Tryd.prog 16 #[.agg #[.int .i64 n, .int .i64 a, .int .i64 b, .int .i64 c, .int .i64 d]] w fun e w' => e = .returned (.tuple #[.string s, .int .i64 r]) ∧ Below w.heap.size w w' := by
  have h := H.out
  unfold txtE at h
  simp only at h
  by_cases hc : chkP n a b c d 8 = 0
  · rw [if_neg (by simpa using hc)] at h
    cases h
    obtain ⟨k1, _, _⟩ := lst_ok hc
    obtain ⟨N, hN, hN4, hl, hp⟩ := lst_nat hc
    subst hN
    unfold txt
    rw [hl]
    by_cases h0 : N = 0
    · rw [if_pos h0]; subst h0
      exact ptext_none w a b c d (Lib.hid hc)
    · rw [if_neg h0]
      exact ptext_some _ N a b c d w (Lib.hid hc) hN4 (by omega) (Lib.hid hl) (Lib.hid hp) (Lib.hid k1)
  · rw [if_pos hc] at h; cases h
    exact ptext_bad n a b c d _ w (Lib.hid rfl) (by simpa using hc)
end Go.Proofs.YtddackdghphcnaaDoor.s13

namespace Go.Proofs.YtddackdghphcnaaDoor.s13
set_option linter.unusedVariables false
set_option linter.unusedSimpArgs false
open Go.RowKit
open kit

/-- a byte of a text, as a number -/
def byt (s : ByteArray) (i : Nat) : Int := ((s.data.toList.getD i 0).toNat : Int)
theorem byt_range (s : ByteArray) (i : Nat) : 0 ≤ byt s i ∧ byt s i ≤ 255 := by
  unfold byt
  have := (s.data.toList.getD i 0).toNat_lt
  omega
/-- whether a byte fits at a place -/
def fitZ (i : Nat) (z : Int) : Bool := if i % 2 = 0 then decide (48 ≤ z ∧ z ≤ 57) else decide (z = 32)
/-- digits, with a blank between two of them -/
def isDg (s : ByteArray) : Bool := decide (s.size % 2 = 1 ∧ ∀ i, i < s.size → fitZ i (byt s i) = true)
/-- the digits' values -/
def vals (s : ByteArray) : List Int := (List.range ((s.size + 1) / 2)).map fun j => byt s (2 * j) - 48
def parseE (s : ByteArray) : V5 × Int := if s = ⟨#[45]⟩ then (no5, 0) else if isDg s = false then (no5, 3) else ofP (vals s)
theorem isDg_no {s : ByteArray} (i : Nat) (hi : i < s.size) (h : fitZ i (byt s i) = false) : isDg s = false := by
  unfold isDg
  refine decide_eq_false ?_
  rintro ⟨_, h2⟩
  rw [h2 i hi] at h; cases h
theorem isDg_len {s : ByteArray} (h : ∀ i, i < s.size → fitZ i (byt s i) = true) : isDg s = decide (s.size % 2 = 1) := by
  unfold isDg
  exact decide_eq_decide.2 ⟨fun h1 => h1.1, fun h1 => ⟨h1, h⟩⟩
theorem fit_even {i : Nat} (h : i % 2 = 0) (z : Int) : fitZ i z = decide (48 ≤ z ∧ z ≤ 57) := by unfold fitZ; rw [if_pos h]
theorem fit_odd {i : Nat} (h : i % 2 = 1) (z : Int) : fitZ i z = decide (z = 32) := by unfold fitZ; rw [if_neg (by omega)]
end Go.Proofs.YtddackdghphcnaaDoor.s13

namespace Go.Proofs.YtddackdghphcnaaDoor.s13
set_option linter.unusedVariables false
set_option linter.unusedSimpArgs false
open Go.RowKit
open kit

theorem bytes_below (w : World) (e : TypeId) (s : ByteArray) : Below w.heap.size w (Lib.bytesWorld w e s) :=
  ⟨by simp [Lib.bytesWorld, World.freeze]; rfl, by simp [Lib.bytesWorld, World.freeze], by simp [Lib.bytesWorld, World.freeze]; rfl, by rw [Lib.bytesWorld_size]; omega, fun k hk => Lib.bytesWorld_at_old w e s k hk⟩
set_option maxRecDepth 100000 in
set_option maxHeartbeats 2000000 in
theorem isdigits_any (s : ByteArray) (w : World) (hs : s.size ≤ 9223372036854775807) : Calls Tryd.prog 58 #[.string s] w fun e w' => e = .returned (.bool (isDg s)) ∧ Below w.heap.size w w' := by
  have hcv := Lib.run_convert_string_bytes w 9 67 5 s Tryd.underlying9 Tryd.underlying67 Tryd.underlying5
  have hcl := Lib.hid (fun j hj => Lib.bytesWorld_cell w 5 s j hj)
  have hB := Lib.hid (bytes_below w 5 s)
  generalize Lib.bytesWorld w 5 s = W at hcv hcl hB
  generalize grownCap w s.size 0 5 = cp at hcv
  go_enter Tryd.func58, Tryd.ntmps58
  go_wp2
  go_loop [8] (fun i => ∃ k : Nat, i = .int .i64 k ∧ k ≤ s.size ∧ Hid (∀ j, j < k → fitZ j (byt s j) = true)) (fun i => s.size - (intOf i).toNat)
  case atStart => exact ⟨0, rfl, by omega, Lib.hid (fun j hj => by omega)⟩
  case round =>
    obtain ⟨k, rfl, hk, HK⟩ := hrel
    by_cases hlt : k < s.size
    · have hc : W.cell? ⟨w.heap.size, k, none⟩ = some (.int .u8 (byt s k)) := hcl.out k hlt
      have hr := byt_range s k
      have hno := Lib.hid (isDg_no (s := s) k hlt)
      have hs2 := Lib.hid (fun h : fitZ k (byt s k) = true => (fun j (hj : j < k + 1) => if e : j = k then e ▸ h else HK.out j (by omega) : ∀ j, j < k + 1 → fitZ j (byt s j) = true))
      generalize byt s k = z at hc hr hno hs2
      obtain ⟨z0, z1⟩ := hr
      by_cases hp : k % 2 = 0
      · have hp2 : (k : Int) % 2 = 0 := by omega
        have hfe := Lib.hid (fit_even hp z)
        clear hp
        by_cases hz : z < 48
        · have hN := Lib.hid (hno.out (hfe.out.trans (decide_eq_false (by omega))))
          go_wp2
          go_ret
          exact ⟨ret_bool hN.out.symm, hB.out⟩
        · have hz2 : decide (z < 48) = false := decide_eq_false hz
          by_cases hz3 : 57 < z
          · have hN := Lib.hid (hno.out (hfe.out.trans (decide_eq_false (by omega))))
            clear hz
            go_wp2
            go_ret
            exact ⟨ret_bool hN.out.symm, hB.out⟩
          · have hz4 : decide (57 < z) = false := decide_eq_false hz3
            have hS := Lib.hid (hs2.out (hfe.out.trans (decide_eq_true (by omega))))
            clear hz hz3
            go_wp2
            go_round
            case rel => exact ⟨k + 1, by go_num, by omega, hS⟩
            case measure => simp [intOf]; omega
      · have hp2 : (k : Int) % 2 = 1 := by omega
        have hfo := Lib.hid (fit_odd (i := k) (by omega) z)
        clear hp
        by_cases hz : z = 32
        · have hS := Lib.hid (hs2.out (hfo.out.trans (decide_eq_true hz)))
          subst hz
          go_wp2
          go_round
          case rel => exact ⟨k + 1, by go_num, by omega, hS⟩
          case measure => simp [intOf]; omega
        · have hN := Lib.hid (hno.out (hfo.out.trans (decide_eq_false hz)))
          have hz2 : (z != 32) = true := by simpa using hz
          clear hz
          go_wp2
          go_ret
          exact ⟨ret_bool hN.out.symm, hB.out⟩
    · obtain rfl : k = s.size := by omega
      have hE := isDg_len HK.out
      by_cases hp : s.size % 2 = 1
      · have hp2 : (s.size : Int) % 2 = 1 := by omega
        rw [decide_eq_true hp] at hE
        have HE := Lib.hid hE
        clear hE hp
        go_wp2
        go_ret
        exact ⟨ret_bool HE.out.symm, hB.out⟩
      · have hp2 : (s.size : Int) % 2 = 0 := by omega
        rw [decide_eq_false hp] at hE
        have HE := Lib.hid hE
        clear hE hp
        go_wp2
        go_ret
        exact ⟨ret_bool HE.out.symm, hB.out⟩
theorem vals_len (s : ByteArray) : (vals s).length = (s.size + 1) / 2 := by unfold vals; simp
theorem vals_take (s : ByteArray) (j : Nat) (h : j < (s.size + 1) / 2) : (vals s).take (j + 1) = (vals s).take j ++ [byt s (2 * j) - 48] := by
  have hl : j < (vals s).length := by rw [vals_len]; exact h
  rw [List.take_succ_eq_append_getElem hl]
  have e : (vals s)[j] = byt s (2 * j) - 48 := by
    have h2 : (vals s)[j]? = some (byt s (2 * j) - 48) := by unfold vals; rw [List.getElem?_map, List.getElem?_range h]; rfl
    rw [List.getElem?_eq_getElem hl] at h2
    exact Option.some.inj h2
  rw [e]
theorem isDg_yes {s : ByteArray} (h : isDg s = true) : s.size % 2 = 1 ∧ ∀ i, i < s.size → fitZ i (byt s i) = true := of_decide_eq_true h
theorem byt_get {s : ByteArray} {i : Nat} (hi : i < s.size) : ((s[i]'hi).toNat : Int) = byt s i := by
  unfold byt
  have h : s.data.toList.getD i 0 = s[i]'hi := by
    rw [List.getD_eq_getElem?_getD, List.getElem?_eq_getElem (by simpa using hi)]
    rfl
  rw [h]
set_option maxRecDepth 100000 in
set_option maxHeartbeats 2000000 in
theorem pparse_dash (w : World) : Calls Tryd.prog 29 #[.string ⟨#[45]⟩] w fun e w' => e = .returned (LE no5 0) ∧ Below w.heap.size w w' := by
  go_enter Tryd.func29, Tryd.ntmps29
  go_wp2
  exact bodyPost_ret (v := .tuple #[.agg #[.int .i64 0, .int .i64 0, .int .i64 0, .int .i64 0, .int .i64 0], .int .i64 0]) (by simp [results, Tryd.results29, go_sem]) rfl ⟨rfl, (Below.refl _ _).alloc (Nat.le_refl _) _⟩
set_option maxRecDepth 100000 in
set_option maxHeartbeats 2000000 in
theorem pparse_form (s : ByteArray) (w : World) (hs : s.size ≤ 9223372036854775807) (hd : (s.toList == [45]) = false) (hn : Hid (isDg s = false)) : Calls Tryd.prog 29 #[.string s] w fun e w' => e = .returned (LE no5 3) ∧ Below w.heap.size w w' := by
  go_enter Tryd.func29, Tryd.ntmps29
  go_wp2_with (go_at_call 58; refine (isdigits_any s _ hs).mono ?_; rintro e w1 ⟨rfl, hB⟩; rw [hn.out]; obtain ⟨X1, hB1⟩ := made1 hB; have X1 := Lib.hid X1; have B1 := Lib.hid hB1; clear hB hB1; obtain ⟨v0, v1, v2, v3, v4⟩ := X1.out.cell5; obtain ⟨g0, g1, g2, g3, g4⟩ := X1.out.free5)
  obtain ⟨z0, z1, z2, z3, z4⟩ := (X1.out.put5 (.int .i64 0) (.int .i64 0) (.int .i64 0) (.int .i64 0) (.int .i64 0)).cell5
  exact bodyPost_ret (v := .tuple #[.agg #[.int .i64 0, .int .i64 0, .int .i64 0, .int .i64 0, .int .i64 0], .int .i64 3]) (by simp [results, Tryd.results29, go_sem, z0, z1, z2, z3, z4]) rfl ⟨rfl, below_put5 B1.out (by omega) _ _ _ _ _⟩
set_option maxRecDepth 100000 in
set_option maxHeartbeats 4000000 in
theorem pparse_ok (s : ByteArray) (w : World) (hs : s.size ≤ 1000) (hd : (s.toList == [45]) = false) (hn : Hid (isDg s = true)) (y : V5) (r : Int) (HY : Hid (ofP (vals s) = (y, r))) : Calls Tryd.prog 29 #[.string s] w fun e w' => e = .returned (LE y r) ∧ Below w.heap.size w w' := by
  obtain ⟨y0, y1, y2, y3, y4⟩ := y
  go_enter Tryd.func29, Tryd.ntmps29
  go_wp2_with (go_at_call 58; refine (isdigits_any s _ (by omega)).mono ?_; rintro e w1 ⟨rfl, hB⟩; rw [hn.out]; obtain ⟨X1, hB1⟩ := made1 hB; have X1 := Lib.hid X1; have B1 := Lib.hid hB1; clear hB hB1)
  go_loopw [4, 5] (fun v i wr => ∃ j q : Nat, i = .int .i64 q ∧ Hid (q = 2 * j) ∧ q ≤ s.size + 1 ∧ Hid (wr.ownsRow (w.heap.size + 1) 3 1 v j (((vals s).take j).map (Value.int .i64))) ∧ Hid (Box wr 25 w.heap.size #[.int .i64 0, .int .i64 0, .int .i64 0, .int .i64 0, .int .i64 0]) ∧ Hid (Below w.heap.size w wr)) (fun _ i _ => s.size + 2 - (intOf i).toNat)
  case atStart => exact ⟨0, 0, rfl, Lib.hid rfl, by omega, Lib.hid (World.ownsRow_nil _ _ _ _), X1, B1⟩
  case round =>
    obtain ⟨j, q, rfl, HQ, hq, HRow, HX, HB⟩ := hrel
    have hodd := Lib.hid (isDg_yes hn.out).1
    by_cases hlt : q < s.size
    · have hXlt := HX.out.lt
      have hb := byt_get hlt
      have hft := (isDg_yes hn.out).2 q hlt
      rw [fit_even (by have := HQ.out; omega)] at hft
      have hrg := of_decide_eq_true hft
      have hsn := vals_take s j (by have := HQ.out; omega)
      rw [← HQ.out, ← hb] at hsn
      rw [← hb] at hrg
      obtain ⟨z0, z1⟩ := hrg
      have HSN := Lib.hid hsn
      have hq3 : q + 2 ≤ s.size + 1 := by have := HQ.out; have := hodd.out; omega
      clear hft hsn hb
      go_wp2_with (at_builtin; refine append_in Tryd.underlying22 info3 rfl (by omega) rfl (.tmp 19) (.tmp 25) rfl (w.heap.size + 1) _ j _ rfl (row_alloc HRow.out _) (some ⟨wr.heap.size, 0, none⟩) [.int .i64 ((s[q].toNat : Int) - 48)] 1 1 rfl rfl (src_one wr _ _) (by simp [Value.oneCell']) (by have := HQ.out; omega) (by simp; omega) ?_; intro v1 wA hv1 hBA; have R1 := Lib.hid hv1; have XA := Lib.hid ((HX.out.alloc (.cells #[.int .i64 ((s[q].toNat : Int) - 48)] 3)).under (by omega) hBA); have BA := Lib.hid ((HB.out.alloc HB.out.size (.cells #[.int .i64 ((s[q].toNat : Int) - 48)] 3)).trans (hBA.mono (by omega))); clear hv1 hBA)
      go_roundw
      case rel => exact ⟨j + 1, q + 2, by go_num, Lib.hid (by have := HQ.out; omega), by omega, Lib.hid (by rw [HSN.out, List.map_append]; exact R1.out), XA, BA⟩
      case measure => simp [intOf]; omega
    · have hj : j = (vals s).length := by rw [vals_len]; have := HQ.out; have := hodd.out; omega
      have hrow := HRow.out
      rw [hj, List.take_length] at hrow
      obtain ⟨a1, c1, rfl⟩ := row_shape HRow.out
      rw [← hj] at hrow
      have hR : ReadsI wr a1 (vals s) := reads_of_row hj.symm hrow
      have HO := Lib.hid (of_any a1 c1 (vals s) wr (by rw [vals_len]; omega) hR (y0, y1, y2, y3, y4) r HY)
      rw [← hj] at HO
      clear hrow hR hj
      go_wp2_with (go_at_call 12; refine (HO.out).mono ?_; rintro e w3 ⟨rfl, hB⟩; have B3 := Lib.hid (below_then HB.out hB); have X3 := Lib.hid (HX.out.below hB); clear hB; obtain ⟨v0, v1, v2, v3, v4⟩ := X3.out.cell5; obtain ⟨g0, g1, g2, g3, g4⟩ := X3.out.free5)
      obtain ⟨z0, z1, z2, z3, z4⟩ := (X3.out.put5 (.int .i64 y0) (.int .i64 y1) (.int .i64 y2) (.int .i64 y3) (.int .i64 y4)).cell5
      exact bodyPost_ret (v := .tuple #[.agg #[.int .i64 y0, .int .i64 y1, .int .i64 y2, .int .i64 y3, .int .i64 y4], .int .i64 r]) (by simp [results, Tryd.results29, go_sem, z0, z1, z2, z3, z4]) rfl ⟨rfl, below_put5 B3.out (by omega) _ _ _ _ _⟩
theorem str_ne {s : ByteArray} (h : ¬ s = ⟨#[45]⟩) : (s.toList == [45]) = false := by
  have h2 := str_beq_false (b := ⟨#[45]⟩) h
  rwa [show (⟨#[45]⟩ : ByteArray).toList = [45] by decide +kernel] at h2
theorem pparse_any (s : ByteArray) (w : World) (hs : s.size ≤ 1000) (y : V5) (r : Int) (H : Hid (parseE s = (y, r))) : Calls Tryd.prog 29 #[.string s] w fun e w' => e = .returned (LE y r) ∧ Below w.heap.size w w' := by
  have h := H.out
  unfold parseE at h
  by_cases h1 : s = ⟨#[45]⟩
  · rw [if_pos h1] at h; cases h; subst h1
    exact pparse_dash w
  · rw [if_neg h1] at h
    by_cases h2 : isDg s = false
    · rw [if_pos h2] at h; cases h
      exact pparse_form s w (by omega) (str_ne h1) (Lib.hid h2)
    · rw [if_neg h2] at h
      exact pparse_ok s w hs (str_ne h1) (Lib.hid (by simpa using h2)) y r (Lib.hid h)
end Go.Proofs.YtddackdghphcnaaDoor.s13
