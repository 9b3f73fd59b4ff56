/-
  Layer 13: the laws' begins, parses, numbered, least, made. A range over a function whose iterator keeps blocks of its own (claimed ones: a set Z that grows): the body keeps them, the iterator turns them alone.
-/
import Derived.Test.YtddackdghphcnaaDoorG06
import Derived.Test.YtddackdghphcnaaDoorG07
import Derived.Test.YtddackdghphcnaaDoorG05
import Derived.Test.YtddackdghphcnaaDoorG01
namespace Go.Proofs.YtddackdghphcnaaDoor.s13
set_option linter.unusedVariables false
set_option linter.unusedSimpArgs false
open Go.RowKit
open kit

set_option maxRecDepth 100000 in
set_option maxHeartbeats 2000000 in
theorem lbegins_any (n a b c d n' a' b' c' d' : Int) (w : World) (v x : Bool) (r : Int) (hr : r = 0) (H : Hid (begE (n, a, b, c, d) (n', a', b', c', d') = (v, r))) (y : Bool) (hy : (v == x) = y) :
    Calls Tryd.prog 39 #[.agg #[.int .i64 n, .int .i64 a, .int .i64 b, .int .i64 c, .int .i64 d], .agg #[.int .i64 n', .int .i64 a', .int .i64 b', .int .i64 c', .int .i64 d'], .bool x] w fun e w' => e = .returned (.bool y) ∧ Below w.heap.size w w' := by
  subst hr
  subst hy
  go_enter Tryd.func39, Tryd.ntmps39
  go_wp2_with (go_at_call 27; refine (pbegins_any n a b c d n' a' b' c' d' _ v 0 H).mono ?_; rintro e w1 ⟨rfl, hB⟩; obtain ⟨X1, Y1, hB1⟩ := made2 hB; have B1 := Lib.hid hB1; clear hB hB1 X1 Y1)
  go_ret
  exact ⟨rfl, B1.out⟩
set_option maxRecDepth 100000 in
set_option maxHeartbeats 2000000 in
theorem lnumbered_any (n a b c d t x : Int) (w : World) (hT : Hid (Tab w)) (v r : Int) (hr : r = 0) (H : Hid (numE (n, a, b, c, d) t = (v, r))) (y : Bool) (hy : decide (v = x) = y) :
    Calls Tryd.prog 41 #[.agg #[.int .i64 n, .int .i64 a, .int .i64 b, .int .i64 c, .int .i64 d], .int .i64 t, .int .i64 x] w fun e w' => e = .returned (.bool y) ∧ Below w.heap.size w w' := by
  subst hr
  subst hy
  have T0 := Lib.hid (hT.out.below ((Below.refl w.heap.size w).alloc (Nat.le_refl _) (.cells #[.int .i64 n, .int .i64 a, .int .i64 b, .int .i64 c, .int .i64 d] 25)))
  go_enter Tryd.func41, Tryd.ntmps41
  go_wp2_with (go_at_call 31; refine (pnumber_any n a b c d t _ T0 v 0 H).mono ?_; rintro e w1 ⟨rfl, hB⟩; have B1 := Lib.hid (made1 hB).2; clear hB)
  go_ret
  exact ⟨rfl, B1.out⟩
set_option maxRecDepth 100000 in
set_option maxHeartbeats 2000000 in
theorem lparses_any (s : ByteArray) (x : Int) (w : World) (hs : s.size ≤ 1000) (y0 y1 y2 y3 y4 r : Int) (H : Hid (parseE s = ((y0, y1, y2, y3, y4), r))) (hr : r = x) (hy : r = 0 ∨ (y0 = 0 ∧ y1 = 0 ∧ y2 = 0 ∧ y3 = 0 ∧ y4 = 0)) :
    Calls Tryd.prog 40 #[.string s, .int .i64 x] w fun e w' => e = .returned (.bool true) ∧ Below w.heap.size w w' := by
  subst hr
  have zq : ∀ W, (binOp .eql 25 (.agg #[.int .i64 y0, .int .i64 y1, .int .i64 y2, .int .i64 y3, .int .i64 y4]) (.agg #[.int .i64 0, .int .i64 0, .int .i64 0, .int .i64 0, .int .i64 0])).run Tryd.prog W = .ok (.bool (decide (y0 = 0 ∧ y1 = 0 ∧ y2 = 0 ∧ y3 = 0 ∧ y4 = 0))) W := fun W => eql_look ..
  have zg := guard_look
  by_cases h0 : r = 0
  · subst h0
    clear hy zq
    go_enter Tryd.func40, Tryd.ntmps40
    go_wp2_with (go_at_call 29; refine (pparse_any s _ hs _ 0 H).mono ?_; rintro e w1 ⟨rfl, hB⟩; have B1 := Lib.hid hB; clear hB)
    go_ret
    exact ⟨rfl, B1.out.alloc B1.out.size _⟩
  · have hy2 := hy.resolve_left h0
    rw [decide_eq_true hy2] at zq
    have hne : decide (r = 0) = false := decide_eq_false h0
    clear hy h0 hy2
    go_enter Tryd.func40, Tryd.ntmps40
    go_wp2_with (go_at_call 29; refine (pparse_any s _ hs _ r H).mono ?_; rintro e w1 ⟨rfl, hB⟩; have B1 := Lib.hid hB; clear hB)
    all_goals go_ret
    all_goals exact ⟨rfl, B1.out.alloc B1.out.size _⟩
set_option maxRecDepth 100000 in
set_option maxHeartbeats 2000000 in
theorem lleast_any (n a b c d : Int) (w : World) (y : Int) (hy : (if n = 0 then 0 else -1) = y) : Calls Tryd.prog 44 #[.agg #[.int .i64 n, .int .i64 a, .int .i64 b, .int .i64 c, .int .i64 d]] w fun e w' => e = .returned (.int .i64 y) ∧ Below w.heap.size w w' := by
  by_cases h : n = 0
  · subst h
    rw [if_pos rfl] at hy
    subst hy
    go_enter Tryd.func44, Tryd.ntmps44
    go_wp2
    go_ret
    exact ⟨rfl, (Below.refl _ _).alloc (Nat.le_refl _) _⟩
  · rw [if_neg h] at hy
    subst hy
    go_enter Tryd.func44, Tryd.ntmps44
    go_wp2
    go_ret
    exact ⟨rfl, (Below.refl _ _).alloc (Nat.le_refl _) _⟩
set_option maxRecDepth 100000 in
set_option maxHeartbeats 6000000 in
theorem lmade_any (n : Int) (w : World) (h1 : -9223372036854775808 ≤ n) (h2 : n ≤ 9223372036854775807) : Calls Tryd.prog 42 #[.int .i64 n] w fun e w' => ∃ (l : List Int) (y0 y1 y2 y3 y4 : Int), okL 3 l ∧ pad5 l = (y0, y1, y2, y3, y4) ∧ e = .returned (.agg #[.int .i64 y0, .int .i64 y1, .int .i64 y2, .int .i64 y3, .int .i64 y4]) ∧ Below w.heap.size w w' := by
  obtain ⟨m, hm⟩ : ∃ m : Nat, n % 1073741824 = m := ⟨(n % 1073741824).toNat, by have := Int.emod_nonneg n (show (1073741824 : Int) ≠ 0 by decide); omega⟩
  have hmb : m < 1073741824 := by have := Int.emod_lt_of_pos n (show (0 : Int) < 1073741824 by decide); omega
  obtain ⟨q, hq⟩ : ∃ q : Nat, m % 5 = q := ⟨_, rfl⟩
  have hq4 : q ≤ 4 := by omega
  have hrem : (m : Int).tmod 5 = q := by rw [Int.tmod_eq_emod_of_nonneg (by omega)]; omega
  have HM := Lib.hid hm
  have X0 := Lib.hid (Box.new w 25 #[.int .i64 0, .int .i64 0, .int .i64 0, .int .i64 0, .int .i64 0])
  clear hm hq
  go_enter Tryd.func42, Tryd.ntmps42
  have HMO := fun W => mod_any n 1073741824 h1 h2 (by omega) (by omega) W
  rw [HM.out] at HMO
  go_wp2_with (go_at_call 45; refine (HMO _).mono ?_; rintro e w1 ⟨rfl, rfl⟩)
  go_loopw [4, 5] (fun v i wr => ∃ (k : Nat) (zs : List Int), i = .int .i64 k ∧ k ≤ q ∧ Hid (zs.length = k) ∧ Hid (∀ z ∈ zs, 0 ≤ z ∧ z < 3) ∧ Hid (wr.ownsRow (w.heap.size + 1) 3 1 v k (zs.map (Value.int .i64))) ∧ Hid (Box wr 25 w.heap.size #[.int .i64 0, .int .i64 0, .int .i64 0, .int .i64 0, .int .i64 0]) ∧ Hid (Below w.heap.size w wr)) (fun _ i _ => q - (intOf i).toNat)
  case atStart => exact ⟨0, [], rfl, by omega, Lib.hid rfl, Lib.hid (fun z hz => by cases hz), Lib.hid (World.ownsRow_nil _ _ _ _), X0, Lib.hid ((Below.refl _ _).alloc (Nat.le_refl _) _)⟩
  case round =>
    obtain ⟨k, zs, rfl, hk, HL, HZ, HRow, HX, HB⟩ := hrel
    by_cases hlt : k < q
    · have hXlt := HX.out.lt
      have hk4 : k = 0 ∨ k = 1 ∨ k = 2 ∨ k = 3 := by omega
      rcases hk4 with rfl | rfl | rfl | rfl
      · have z0 : 0 ≤ ((m : Int) / 8 % 3) := by omega
        have z1 : ((m : Int) / 8 % 3) < 3 := by omega
        have HZ2 : Hid (∀ z ∈ zs ++ [((m : Int) / 8 % 3)], 0 ≤ z ∧ z < 3) := Lib.hid (fun z hz => by
          rcases List.mem_append.1 hz with h | h
          · exact HZ.out z h
          · obtain rfl := List.mem_singleton.1 h; exact ⟨z0, z1⟩)
        clear z0 z1
        go_wp2_with (at_builtin; refine append_in Tryd.underlying22 info3 rfl (by omega) rfl (.tmp 14) (.tmp 22) rfl (w.heap.size + 1) _ 0 _ rfl (row_alloc HRow.out _) (some ⟨wr.heap.size, 0, none⟩) [.int .i64 ((m : Int) / 8 % 3)] 1 1 rfl rfl (src_one wr _ _) (by simp [Value.oneCell']) (by omega) (by simp; omega) ?_; intro v1 wA hv1 hBA; have R1 := Lib.hid hv1; have XA := Lib.hid ((HX.out.alloc (.cells #[.int .i64 ((m : Int) / 8 % 3)] 3)).under (by omega) hBA); have BA := Lib.hid ((HB.out.alloc HB.out.size (.cells #[.int .i64 ((m : Int) / 8 % 3)] 3)).trans (hBA.mono (by omega))); clear hv1 hBA)
        go_roundw
        case rel => exact ⟨1, zs ++ [((m : Int) / 8 % 3)], by go_num, by omega, Lib.hid (by rw [List.length_append, HL.out]; rfl), HZ2, Lib.hid (by rw [List.map_append]; exact R1.out), XA, BA⟩
        case measure => simp [intOf]; omega
      · have z0 : 0 ≤ ((m : Int) / 32 % 3) := by omega
        have z1 : ((m : Int) / 32 % 3) < 3 := by omega
        have HZ2 : Hid (∀ z ∈ zs ++ [((m : Int) / 32 % 3)], 0 ≤ z ∧ z < 3) := Lib.hid (fun z hz => by
          rcases List.mem_append.1 hz with h | h
          · exact HZ.out z h
          · obtain rfl := List.mem_singleton.1 h; exact ⟨z0, z1⟩)
        clear z0 z1
        go_wp2_with (at_builtin; refine append_in Tryd.underlying22 info3 rfl (by omega) rfl (.tmp 14) (.tmp 22) rfl (w.heap.size + 1) _ 1 _ rfl (row_alloc HRow.out _) (some ⟨wr.heap.size, 0, none⟩) [.int .i64 ((m : Int) / 32 % 3)] 1 1 rfl rfl (src_one wr _ _) (by simp [Value.oneCell']) (by omega) (by simp; omega) ?_; intro v1 wA hv1 hBA; have R1 := Lib.hid hv1; have XA := Lib.hid ((HX.out.alloc (.cells #[.int .i64 ((m : Int) / 32 % 3)] 3)).under (by omega) hBA); have BA := Lib.hid ((HB.out.alloc HB.out.size (.cells #[.int .i64 ((m : Int) / 32 % 3)] 3)).trans (hBA.mono (by omega))); clear hv1 hBA)
        go_roundw
        case rel => exact ⟨2, zs ++ [((m : Int) / 32 % 3)], by go_num, by omega, Lib.hid (by rw [List.length_append, HL.out]; rfl), HZ2, Lib.hid (by rw [List.map_append]; exact R1.out), XA, BA⟩
        case measure => simp [intOf]; omega
      · have z0 : 0 ≤ ((m : Int) / 128 % 3) := by omega
        have z1 : ((m : Int) / 128 % 3) < 3 := by omega
        have HZ2 : Hid (∀ z ∈ zs ++ [((m : Int) / 128 % 3)], 0 ≤ z ∧ z < 3) := Lib.hid (fun z hz => by
          rcases List.mem_append.1 hz with h | h
          · exact HZ.out z h
          · obtain rfl := List.mem_singleton.1 h; exact ⟨z0, z1⟩)
        clear z0 z1
        go_wp2_with (at_builtin; refine append_in Tryd.underlying22 info3 rfl (by omega) rfl (.tmp 14) (.tmp 22) rfl (w.heap.size + 1) _ 2 _ rfl (row_alloc HRow.out _) (some ⟨wr.heap.size, 0, none⟩) [.int .i64 ((m : Int) / 128 % 3)] 1 1 rfl rfl (src_one wr _ _) (by simp [Value.oneCell']) (by omega) (by simp; omega) ?_; intro v1 wA hv1 hBA; have R1 := Lib.hid hv1; have XA := Lib.hid ((HX.out.alloc (.cells #[.int .i64 ((m : Int) / 128 % 3)] 3)).under (by omega) hBA); have BA := Lib.hid ((HB.out.alloc HB.out.size (.cells #[.int .i64 ((m : Int) / 128 % 3)] 3)).trans (hBA.mono (by omega))); clear hv1 hBA)
        go_roundw
        case rel => exact ⟨3, zs ++ [((m : Int) / 128 % 3)], by go_num, by omega, Lib.hid (by rw [List.length_append, HL.out]; rfl), HZ2, Lib.hid (by rw [List.map_append]; exact R1.out), XA, BA⟩
        case measure => simp [intOf]; omega
      · have z0 : 0 ≤ ((m : Int) / 512 % 3) := by omega
        have z1 : ((m : Int) / 512 % 3) < 3 := by omega
        have HZ2 : Hid (∀ z ∈ zs ++ [((m : Int) / 512 % 3)], 0 ≤ z ∧ z < 3) := Lib.hid (fun z hz => by
          rcases List.mem_append.1 hz with h | h
          · exact HZ.out z h
          · obtain rfl := List.mem_singleton.1 h; exact ⟨z0, z1⟩)
        clear z0 z1
        go_wp2_with (at_builtin; refine append_in Tryd.underlying22 info3 rfl (by omega) rfl (.tmp 14) (.tmp 22) rfl (w.heap.size + 1) _ 3 _ rfl (row_alloc HRow.out _) (some ⟨wr.heap.size, 0, none⟩) [.int .i64 ((m : Int) / 512 % 3)] 1 1 rfl rfl (src_one wr _ _) (by simp [Value.oneCell']) (by omega) (by simp; omega) ?_; intro v1 wA hv1 hBA; have R1 := Lib.hid hv1; have XA := Lib.hid ((HX.out.alloc (.cells #[.int .i64 ((m : Int) / 512 % 3)] 3)).under (by omega) hBA); have BA := Lib.hid ((HB.out.alloc HB.out.size (.cells #[.int .i64 ((m : Int) / 512 % 3)] 3)).trans (hBA.mono (by omega))); clear hv1 hBA)
        go_roundw
        case rel => exact ⟨4, zs ++ [((m : Int) / 512 % 3)], by go_num, by omega, Lib.hid (by rw [List.length_append, HL.out]; rfl), HZ2, Lib.hid (by rw [List.map_append]; exact R1.out), XA, BA⟩
        case measure => simp [intOf]; omega
    · obtain rfl : k = q := by omega
      obtain ⟨a1, c1, rfl⟩ := row_shape HRow.out
      have hrow := HRow.out
      have hR : Hid (ReadsI wr a1 zs) := Lib.hid (reads_of_row HL.out hrow)
      obtain ⟨⟨y0, y1, y2, y3, y4⟩, hy⟩ : ∃ y, pad5 zs = y := ⟨_, rfl⟩
      have HO : Hid (ofP zs = ((y0, y1, y2, y3, y4), 0)) := Lib.hid (by
        unfold ofP
        rw [if_neg (by have := HL.out; omega), if_pos (fun x hx => by have := HZ.out x hx; omega), hy])
      have HY := Lib.hid hy
      have hlo := Lib.hid (lof_any a1 c1 zs wr (by have := HL.out; omega) hR y0 y1 y2 y3 y4 0 HO)
      rw [HL.out] at hlo
      have HOK : Hid (okL 3 zs) := Lib.hid ⟨by have := HL.out; omega, HZ.out⟩
      clear hrow hy
      go_wp2_with (go_at_call 37; refine (hlo.out).mono ?_; rintro e w3 ⟨rfl, hB⟩; have B3 := Lib.hid (below_then HB.out hB); have X3 := Lib.hid (HX.out.below hB); clear hB; obtain ⟨v0, v1, v2, v3, v4⟩ := X3.out.cell5; obtain ⟨g0, g1, g2, g3, g4⟩ := X3.out.free5)
      obtain ⟨z0, z1, z2, z3, z4⟩ := (X3.out.put5 (.int .i64 y0) (.int .i64 y1) (.int .i64 y2) (.int .i64 y3) (.int .i64 y4)).cell5
      exact bodyPost_ret (v := .agg #[.int .i64 y0, .int .i64 y1, .int .i64 y2, .int .i64 y3, .int .i64 y4]) (by simp [results, Tryd.results42, go_sem, z0, z1, z2, z3, z4]) rfl ⟨zs, y0, y1, y2, y3, y4, HOK.out, HY.out, rfl, below_put5 B3.out (by omega) _ _ _ _ _⟩
end Go.Proofs.YtddackdghphcnaaDoor.s13

namespace Go.Proofs.YtddackdghphcnaaDoor.kit
set_option linter.unusedVariables false
set_option linter.unusedSimpArgs false
set_option linter.unnecessarySimpa false
open Go Go.RowKit Go.Shelf

section
variable {F : Fence} {n : Nat} {P : Program} {w : World}
/-- what is said of the state, the iterator's blocks being Z: it abides new blocks, claimed or not, and a turn of a claimed one -/
structure AbZ {β : Type} (J : β → (Nat → Prop) → World → Prop) : Prop where
  size : ∀ s Z W, J s Z W → ∀ r, Z r → r < W.heap.size
  grown : ∀ s Z W W', J s Z W → W.grownBy W' none → J s Z W'
  claim : ∀ s Z W o, J s Z W → J s (fun r => Z r ∨ r = W.heap.size) (W.alloc o)
  turn : ∀ s Z W W' r, J s Z W → Z r → W.grownBy W' (some r) → J s Z W'
  less : ∀ s Z Z' W, J s Z W → (∀ r, Z' r → Z r) → J s Z' W
def KeepZ (Z : Nat → Prop) (W W' : World) : Prop := ∀ r, Z r → W'.heap[r]? = W.heap[r]?
theorem KeepZ.trans {Z : Nat → Prop} {A B C : World} (h : KeepZ Z A B) (k : KeepZ Z B C) : KeepZ Z A C := fun r hr => (k r hr).trans (h r hr)
theorem KeepZ.refl (Z : Nat → Prop) (A : World) : KeepZ Z A A := fun _ _ => rfl
theorem AbZ.alloc {β : Type} {J : β → (Nat → Prop) → World → Prop} (h : AbZ J) {s : β} {Z : Nat → Prop} {W : World} (o : Obj) (hs : J s Z W) : J s Z (W.alloc o) := h.grown _ _ _ _ hs (World.grownBy_alloc W o none)
/-- the contract of such an iterator; R: what its captured variables hold where it is called -/
def SeqZ {α : Type} (F : Fence) (n : Nat) (P : Program) (g : Nat) (lb : Array Value) (encs : α → Array Value) (Z0 : Nat → Prop) (S Sp : List α → Prop) (N : Nat) (R : World → Prop) : Prop :=
  ∀ (l : Nat) (J Jx : List α → (Nat → Prop) → World → Prop) (W : World), R W → AbZ J → AbZ Jx →
    (∀ pre x Z W1, J pre Z W1 → (∀ r, Z0 r → Z r) → pre.length < N → YieldAt F (n - 1) P l (encs x) W1 fun e W' =>
      (e = .returned (.bool true) ∧ J (pre ++ [x]) Z W' ∧ KeepZ Z W1 W') ∨ (e = .returned (.bool false) ∧ Jx (pre ++ [x]) Z W' ∧ KeepZ Z W1 W')) →
    J [] Z0 W →
    CallsIn F n P g (#[.func (.yield l) #[] #[]] ++ lb) W fun e W' => (∃ v, e = .returned v) ∧ ((∃ xs, S xs ∧ J xs Z0 W') ∨ (∃ pre, Sp pre ∧ Jx pre Z0 W'))
/-- what a round owes -/
def postZ {β : Type} (B : Nat) (Z : Nat → Prop) (I : β → (Nat → Prop) → World → Prop) (Ix : Code → β → (Nat → Prop) → World → Prop) (s : β) (W : World) : Exit → Act → World → Prop
  | .normal, _, W3 => KeepZ (fun r => Z r ∨ r = B ∨ r = B + 1) W W3 ∧ I s Z W3
  | .ret, _, W3 => KeepZ (fun r => Z r ∨ r = B ∨ r = B + 1) W W3 ∧ Ix .ret s Z W3
  | .exit id, _, W3 => KeepZ (fun r => Z r ∨ r = B ∨ r = B + 1) W W3 ∧ Ix (.exit id) s Z W3
  | .goto t, _, W3 => KeepZ (fun r => Z r ∨ r = B ∨ r = B + 1) W W3 ∧ Ix (.goto t) s Z W3
  | _, _, _ => False

theorem wpIn_rangeFunc_ownZ {α : Type} {g : Operand} {ps : Array Tmp} {assign body : Code} {Q : Exit → Act → World → Prop} {a : Act}
    (hro : F.round = none) (h1 : 1 ≤ n) {gf : Nat} {lb : Array Value} (hg : a.eval g = .func (.func gf) #[] lb) (hFg : F.fn gf) (eg : ∀ args w, (callFunc gf args).run P w = .ok (.enter gf args) w)
    {encs : α → Array Value} {Z0 : Nat → Prop} {S Sp : List α → Prop} {N : Nat} {R : World → Prop} (hseq : SeqZ F (n - 1) P gf lb encs Z0 S Sp N R)
    (hR : ∀ o o', R ((w.alloc o).alloc o')) (hps : ∀ x, (encs x).size = ps.size) (hZ0 : ∀ r, Z0 r → r < w.heap.size)
    (I : List α → (Nat → Prop) → World → Prop) (Ix : Code → List α → (Nat → Prop) → World → Prop) (hI : AbZ I) (hIx : ∀ c, AbZ (Ix c))
    (hIo : ∀ s Z W k o o', I s Z W → (k = w.heap.size ∨ k = w.heap.size + 1) → W.heap[k]? = some o → o.isCells = false → I s Z (W.putObj k o'))
    (hIxo : ∀ c s Z W k o o', Ix c s Z W → (k = w.heap.size ∨ k = w.heap.size + 1) → W.heap[k]? = some o → o.isCells = false → Ix c s Z (W.putObj k o'))
    (h0 : ∀ o o', I [] Z0 ((w.alloc o).alloc o')) (Ax : α → Act → World → Prop) (hAx : ∀ x a' W k o o', Ax x a' W → W.heap[k]? = some o → o.isCells = false → Ax x a' (W.putObj k o'))
    (hassign : ∀ (l : Nat) (pre : List α) (x : α) (Z : Nat → Prop) (W : World) (K : Act → World → Prop), I pre Z W → w.heap.size + 1 < W.heap.size → (∀ a' W', KeepZ (fun r => Z r ∨ r = w.heap.size ∨ r = w.heap.size + 1) W W' → I pre Z W' → Ax x a' W' → K a' W') →
      assign.wpIn (F.inRound l) (n - 1 - 1) P (Exit.then K (fun _ _ _ => False)) { tmps := (ps.zip (encs x)).foldl (fun t (p, v) => t.setIfInBounds p v) a.tmps, defers := [] } W)
    (hbody : ∀ (l : Nat) (pre : List α) (x : α) (a' : Act) (Z : Nat → Prop) (W : World), I pre Z W → Ax x a' W → (∀ r, Z0 r → Z r) → (∀ r, Z r → r ≠ w.heap.size ∧ r ≠ w.heap.size + 1) → w.heap.size + 1 < W.heap.size → (∀ r, r = w.heap.size ∨ r = w.heap.size + 1 → ∃ o : Obj, W.heap[r]? = some o ∧ o.isCells = false) → pre.length < N → body.wpIn (F.inRound l) (n - 1 - 1) P (postZ w.heap.size Z I Ix (pre ++ [x]) W) a' W)
    (hdone : ∀ (xs : List α) (W : World), S xs → I xs Z0 W → W.heap[w.heap.size]? = some (.deferred (some [])) → Q .normal { a with defers := { target := .collected w.heap.size, args := #[] } :: a.defers } W)
    (hstop : ∀ (c : Code) (pre : List α) (W : World), Sp pre → Ix c pre Z0 W → W.heap[w.heap.size]? = some (.deferred (some [])) → c.wpIn F n P Q { a with defers := { target := .collected w.heap.size, args := #[] } :: a.defers } W) :
    (Code.rangeFunc g ps assign body).wpIn F n P Q a w := by
  refine wpIn_rangeFunc fun fn hfn => ?_
  rw [hro]
  obtain ⟨rec, hrec⟩ : ∃ rec : LoopState → Option Code → Loop, rec = fun st pe => { state := st, pending := pe, fn, tmps := a.tmps, params := ps, assign, body, defers := w.heap.size } := ⟨_, rfl⟩
  obtain ⟨W1, hW1⟩ : ∃ W1, (w.alloc (.deferred (some []))).alloc (.loop (rec .ready none)) = W1 := ⟨_, rfl⟩
  have hsz : W1.heap.size = w.heap.size + 2 := by rw [← hW1]; simp
  have hL1 : W1.heap[w.heap.size + 1]? = some (.loop (rec .ready none)) := by
    rw [← hW1]; have h := World.alloc_heap_new (w.alloc (.deferred (some []))) (.loop (rec .ready none)); rwa [World.size_alloc] at h
  have hK1 : W1.heap[w.heap.size]? = some (.deferred (some [])) := by
    rw [← hW1]; exact (Below.heap_alloc _ _ _ (by simp)).trans (World.alloc_heap_new w _)
  have hI1 : I [] Z0 W1 := by rw [← hW1]; exact h0 _ _
  have hR1 : R W1 := by rw [← hW1]; exact hR _ _
  have szof : ∀ {A : World} {k : Nat} {o : Obj}, A.heap[k]? = some o → k < A.heap.size := fun h => (Array.getElem?_eq_some_iff.1 h).1
  have keep : ∀ {A B : World} {row : Option Nat} {k : Nat} {o : Obj}, A.grownBy B row → some k ≠ row → A.heap[k]? = some o → B.heap[k]? = some o := fun hg hne h => (hg.block _ (szof h) hne).trans h
  refine ⟨w.heap.size + 1, [{ target := .collected w.heap.size, args := #[] }], W1, { target := .fn (.func gf) lb, args := #[.func (.yield (w.heap.size + 1)) #[] #[]] }, W1, gf,
    #[.func (.yield (w.heap.size + 1)) #[] #[]] ++ lb, W1, ?_, ?_, ?_, ?_, fun _ => h1, ?_⟩
  · rw [← hW1, hrec]; exact run_enterLoop_outer _ _ _ _ _
  · simp only [resolve, hg]
    simp [go_sem]
  · intro f' hf'; simp [Target.leads] at hf'; subst hf'; exact hFg
  · simp [invoke, go_sem, eg]
  · have abz : ∀ (G : List α → (Nat → Prop) → World → Prop) (X : Obj), AbZ G → AbZ (fun pre Z W => G pre Z W ∧ W.heap[w.heap.size + 1]? = some X ∧ W.heap[w.heap.size]? = some (.deferred (some [])) ∧ ∀ r, Z r → r ≠ w.heap.size ∧ r ≠ w.heap.size + 1) := fun G X hG =>
      { size := fun s Z W h => hG.size s Z W h.1
        grown := fun s Z W W' h hg' => ⟨hG.grown s Z W W' h.1 hg', keep hg' (fun e => by cases e) h.2.1, keep hg' (fun e => by cases e) h.2.2.1, h.2.2.2⟩
        claim := fun s Z W o h => ⟨hG.claim s Z W o h.1, (Below.heap_alloc W o _ (szof h.2.1)).trans h.2.1, (Below.heap_alloc W o _ (szof h.2.2.1)).trans h.2.2.1, fun r hr => by
          have e1 := szof h.2.1
          rcases hr with hr | rfl
          · exact h.2.2.2 r hr
          · exact ⟨by omega, by omega⟩⟩
        turn := fun s Z W W' r h hr hg' => ⟨hG.turn s Z W W' r h.1 hr hg', keep hg' (fun e => (h.2.2.2 r hr).2 (by cases e; rfl)) h.2.1, keep hg' (fun e => (h.2.2.2 r hr).1 (by cases e; rfl)) h.2.2.1, h.2.2.2⟩
        less := fun s Z Z' W h hz => ⟨hG.less s Z Z' W h.1 hz, h.2.1, h.2.2.1, fun r hr => h.2.2.2 r (hz r hr)⟩ }
    have abx : AbZ (fun pre Z W => ∃ c, Ix c pre Z W ∧ W.heap[w.heap.size + 1]? = some (.loop (rec .done (some c))) ∧ W.heap[w.heap.size]? = some (.deferred (some [])) ∧ ∀ r, Z r → r ≠ w.heap.size ∧ r ≠ w.heap.size + 1) :=
      { size := fun s Z W ⟨c, h⟩ => (abz _ _ (hIx c)).size s Z W h
        grown := fun s Z W W' ⟨c, h⟩ hg' => ⟨c, (abz _ _ (hIx c)).grown s Z W W' h hg'⟩
        claim := fun s Z W o ⟨c, h⟩ => ⟨c, (abz _ _ (hIx c)).claim s Z W o h⟩
        turn := fun s Z W W' r ⟨c, h⟩ hr hg' => ⟨c, (abz _ _ (hIx c)).turn s Z W W' r h hr hg'⟩
        less := fun s Z Z' W ⟨c, h⟩ hz => ⟨c, (abz _ _ (hIx c)).less s Z Z' W h hz⟩ }
    refine (hseq (w.heap.size + 1)
      (fun pre Z W => I pre Z W ∧ W.heap[w.heap.size + 1]? = some (.loop (rec .ready none)) ∧ W.heap[w.heap.size]? = some (.deferred (some [])) ∧ ∀ r, Z r → r ≠ w.heap.size ∧ r ≠ w.heap.size + 1)
      (fun pre Z W => ∃ c, Ix c pre Z W ∧ W.heap[w.heap.size + 1]? = some (.loop (rec .done (some c))) ∧ W.heap[w.heap.size]? = some (.deferred (some [])) ∧ ∀ r, Z r → r ≠ w.heap.size ∧ r ≠ w.heap.size + 1)
      W1 hR1 (abz I _ hI) abx ?_ ⟨hI1, hL1, hK1, fun r hr => by have := hZ0 r hr; exact ⟨by omega, by omega⟩⟩).mono ?_
    · rintro pre x Z W ⟨hi, hl, hk, hne⟩ hz hlen
      have hy := run_yield (P := P) (args := encs x) hl (by rw [hrec]; exact hps x)
      rw [hrec] at hy
      refine ⟨fn, _, assign, body, hy, roundIn_of_wpIn hfn (hassign _ pre x Z W _ hi (szof hl) ?_)⟩
      intro a' V hkz hiV hax
      have hlV := (hkz _ (.inr (.inr rfl))).trans hl
      have hkV := (hkz _ (.inr (.inl rfl))).trans hk
      have hltV : w.heap.size + 1 < V.heap.size := szof hlV
      refine ⟨_, run_beginRound hlV (by rw [hrec]), ?_⟩
      have hl2 : (V.putObj (w.heap.size + 1) (.loop { rec .ready none with state := .busy })).heap[w.heap.size + 1]? = some (.loop { rec .ready none with state := .busy }) := World.putObj_heap_same hltV
      have hk2 : (V.putObj (w.heap.size + 1) (.loop { rec .ready none with state := .busy })).heap[w.heap.size]? = some (.deferred (some [])) := (World.putObj_heap_other (by omega)).trans hkV
      have hw2 : KeepZ Z V (V.putObj (w.heap.size + 1) (.loop { rec .ready none with state := .busy })) := fun r hr => World.putObj_heap_other (by have := (hne r hr).2; omega)
      refine wpIn_mono (hbody _ pre x a' Z _ (hIo _ _ _ _ _ _ hiV (.inr rfl) hlV rfl) (hAx _ _ _ _ _ _ hax hlV rfl) hz hne (szof hl2) (fun r hr => by rcases hr with rfl | rfl; exact ⟨_, hk2, rfl⟩; exact ⟨_, hl2, rfl⟩) hlen) ?_
      have fin : ∀ (jump : Option Code) (W3 : World), KeepZ (fun r => r = w.heap.size ∨ r = w.heap.size + 1) (V.putObj (w.heap.size + 1) (.loop { rec .ready none with state := .busy })) W3 →
          (Instr.endRound (w.heap.size + 1) jump).run P W3 = .ok (.bool jump.isNone) (W3.putObj (w.heap.size + 1) (.loop (rec (if jump.isNone then .ready else .done) jump))) ∧
          W3.heap[w.heap.size + 1]? = some (.loop { rec .ready none with state := .busy }) ∧
          (W3.putObj (w.heap.size + 1) (.loop (rec (if jump.isNone then .ready else .done) jump))).heap[w.heap.size + 1]? = some (.loop (rec (if jump.isNone then .ready else .done) jump)) ∧
          (W3.putObj (w.heap.size + 1) (.loop (rec (if jump.isNone then .ready else .done) jump))).heap[w.heap.size]? = some (.deferred (some [])) := fun jump W3 hk3 => by
        have hl3 := (hk3 _ (.inr rfl)).trans hl2
        have he := run_endRound (P := P) jump hl3
        rw [hrec] at he ⊢
        exact ⟨he, by rw [hrec] at hl3; exact hl3, World.putObj_heap_same (szof hl3), (World.putObj_heap_other (by omega)).trans ((hk3 _ (.inl rfl)).trans hk2)⟩
      rintro e a3 W3 hp
      cases e with
      | normal =>
        obtain ⟨hk3, hi3⟩ := hp
        obtain ⟨hr, hl3, hl4, hk4⟩ := fin none W3 (fun r h => hk3 r (.inr h))
        exact ⟨_, _, hr, .inl ⟨rfl, ⟨hIo _ _ _ _ _ _ hi3 (.inr rfl) hl3 rfl, hl4, hk4, hne⟩, KeepZ.trans (KeepZ.trans (Z := Z) (B := V) (fun r h => hkz r (.inl h)) hw2) (KeepZ.trans (Z := Z) (B := W3) (fun r h => hk3 r (.inl h)) (fun r h => World.putObj_heap_other (by have := (hne r h).2; omega)))⟩⟩
      | ret =>
        obtain ⟨hk3, hi3⟩ := hp
        obtain ⟨hr, hl3, hl4, hk4⟩ := fin (some .ret) W3 (fun r h => hk3 r (.inr h))
        exact ⟨_, _, hr, .inr ⟨rfl, ⟨.ret, hIxo _ _ _ _ _ _ _ hi3 (.inr rfl) hl3 rfl, hl4, hk4, hne⟩, KeepZ.trans (KeepZ.trans (Z := Z) (B := V) (fun r h => hkz r (.inl h)) hw2) (KeepZ.trans (Z := Z) (B := W3) (fun r h => hk3 r (.inl h)) (fun r h => World.putObj_heap_other (by have := (hne r h).2; omega)))⟩⟩
      | exit id =>
        obtain ⟨hk3, hi3⟩ := hp
        obtain ⟨hr, hl3, hl4, hk4⟩ := fin (some (.exit id)) W3 (fun r h => hk3 r (.inr h))
        exact ⟨_, _, hr, .inr ⟨rfl, ⟨.exit id, hIxo _ _ _ _ _ _ _ hi3 (.inr rfl) hl3 rfl, hl4, hk4, hne⟩, KeepZ.trans (KeepZ.trans (Z := Z) (B := V) (fun r h => hkz r (.inl h)) hw2) (KeepZ.trans (Z := Z) (B := W3) (fun r h => hk3 r (.inl h)) (fun r h => World.putObj_heap_other (by have := (hne r h).2; omega)))⟩⟩
      | goto t =>
        obtain ⟨hk3, hi3⟩ := hp
        obtain ⟨hr, hl3, hl4, hk4⟩ := fin (some (.goto t)) W3 (fun r h => hk3 r (.inr h))
        exact ⟨_, _, hr, .inr ⟨rfl, ⟨.goto t, hIxo _ _ _ _ _ _ _ hi3 (.inr rfl) hl3 rfl, hl4, hk4, hne⟩, KeepZ.trans (KeepZ.trans (Z := Z) (B := V) (fun r h => hkz r (.inl h)) hw2) (KeepZ.trans (Z := Z) (B := W3) (fun r h => hk3 r (.inl h)) (fun r h => World.putObj_heap_other (by have := (hne r h).2; omega)))⟩⟩
      | panic ch => exact hp.elim
      | outgrown => exact hp.elim
    · rintro e W2 ⟨⟨v, rfl⟩, (⟨xs, hS, hi, hl, hk, _⟩ | ⟨pre, hSp, c, hi, hl, hk, _⟩)⟩
      · exact ⟨none, _, by have he := run_endLoop (P := P) hl (by rw [hrec]; simp); rw [hrec] at he; exact he, hdone xs _ hS (hIo _ _ _ _ _ _ hi (.inr rfl) hl rfl) ((World.putObj_heap_other (by omega)).trans hk)⟩
      · exact ⟨some c, _, by have he := run_endLoop (P := P) hl (by rw [hrec]; simp); rw [hrec] at he; exact he, hstop c pre _ hSp (hIxo _ _ _ _ _ _ _ hi (.inr rfl) hl rfl) ((World.putObj_heap_other (by omega)).trans hk)⟩
theorem grown_keep {W W' : World} {row : Option Nat} (hg : W.grownBy W' row) {r : Nat} (hr : r < W.heap.size) (hne : some r ≠ row) : W'.heap[r]? = W.heap[r]? := hg.block r hr hne
/-- what an iterator that loops over another says of the state, while the other one works -/
theorem abz_inner {β γ : Type} {J : γ → (Nat → Prop) → World → Prop} (hJ : AbZ J) (g : β → γ) (Z2 E : Nat → Prop) (H : World → Prop) (hH : ∀ W W', H W → KeepZ Z2 W W' → H W') :
    AbZ (fun (s : β) Z W => J (g s) (fun r => Z2 r ∨ Z r ∨ E r) W ∧ H W ∧ ∀ r, Z r → ¬ Z2 r) :=
  { size := fun s Z W h r hr => hJ.size _ _ _ h.1 r (.inr (.inl hr))
    grown := fun s Z W W' h hg => ⟨hJ.grown _ _ _ _ h.1 hg, hH _ _ h.2.1 (fun r hr => grown_keep hg (hJ.size _ _ _ h.1 r (.inl hr)) (fun e => by cases e)), h.2.2⟩
    claim := fun s Z W o h => ⟨hJ.less _ _ _ _ (hJ.claim _ _ _ o h.1) (fun r hr => by
        rcases hr with hr | (hr | hr) | hr
        · exact .inl (.inl hr)
        · exact .inl (.inr (.inl hr))
        · exact .inr hr
        · exact .inl (.inr (.inr hr))), hH _ _ h.2.1 (fun r hr => Below.heap_alloc W o r (hJ.size _ _ _ h.1 r (.inl hr))), fun r hr h2 => by
        rcases hr with hr | rfl
        · exact h.2.2 r hr h2
        · exact Nat.lt_irrefl _ (hJ.size _ _ _ h.1 _ (.inl h2))⟩
    turn := fun s Z W W' r h hr hg => ⟨hJ.turn _ _ _ _ r h.1 (.inr (.inl hr)) hg, hH _ _ h.2.1 (fun q hq => grown_keep hg (hJ.size _ _ _ h.1 q (.inl hq)) (fun e => by cases e; exact h.2.2 r hr hq)), h.2.2⟩
    less := fun s Z Z' W h hz => ⟨hJ.less _ _ _ _ h.1 (fun r hr => by
        rcases hr with hr | hr | hr
        · exact .inl hr
        · exact .inr (.inl (hz r hr))
        · exact .inr (.inr hr)), h.2.1, fun r hr => h.2.2 r (hz r hr)⟩ }
theorem abz_pure {β : Type} {G : β → (Nat → Prop) → World → Prop} (hG : AbZ G) (q : Prop) : AbZ (fun (s : β) Z W => q ∧ G s Z W) :=
  { size := fun s Z W h => hG.size s Z W h.2
    grown := fun s Z W W' h hg => ⟨h.1, hG.grown s Z W W' h.2 hg⟩
    claim := fun s Z W o h => ⟨h.1, hG.claim s Z W o h.2⟩
    turn := fun s Z W W' r h hr hg => ⟨h.1, hG.turn s Z W W' r h.2 hr hg⟩
    less := fun s Z Z' W h hz => ⟨h.1, hG.less s Z Z' W h.2 hz⟩ }
theorem inner_put {β γ : Type} {J : γ → (Nat → Prop) → World → Prop} (hJ : AbZ J) (g : β → γ) (Z2 E : Nat → Prop) (H : World → Prop) (hH : ∀ W W', H W → KeepZ Z2 W W' → H W') (hE : ∀ r, E r → ¬ Z2 r) {s : β} {Z : Nat → Prop} {W : World} {k : Nat} (o' : Obj) (hk : E k)
    (h : J (g s) (fun r => Z2 r ∨ Z r ∨ E r) W ∧ H W ∧ ∀ r, Z r → ¬ Z2 r) : J (g s) (fun r => Z2 r ∨ Z r ∨ E r) (W.putObj k o') ∧ H (W.putObj k o') ∧ ∀ r, Z r → ¬ Z2 r :=
  ⟨hJ.turn _ _ _ _ k h.1 (.inr (.inr hk)) (grownBy_putObj' W k o'), hH _ _ h.2.1 (fun r hr => World.putObj_heap_other (fun e => hE k hk (e ▸ hr))), h.2.2⟩
theorem callsIn_any {F : Fence} {m k : Nat} {P : Program} {f : FuncId} {args : Array Value} {W : World} {R : Ending → World → Prop} (hd : F.depth = none) (h : CallsIn F m P f args W R) : CallsIn F k P f args W R :=
  ⟨h.1, fun cs _ => h.2 cs (fun d h => by rw [hd] at h; cases h)⟩
/-- the marks that loops over iterators have left among the deferred calls -/
def mark (D : Nat) : Deferred := { target := .collected D, args := #[] }
theorem leaves_marksG {fn : Func} {tmps : Array Value} {R : Ending → World → Prop} {v : Value} {G : World → Prop}
    (hres : ∀ w, (results fn tmps).run P w = .ok v w) (hR : ∀ w, G w → R (.returned v) w) :
    ∀ (ds : List Nat) (w : World), ds.Nodup → (∀ d ∈ ds, w.heap[d]? = some (.deferred (some []))) → (∀ w d o', d ∈ ds → G w → G (w.putObj d o')) → G w → LeavesInM F n P fn tmps R (ds.map mark) .returning w := by
  intro ds
  induction ds with
  | nil => intro w _ _ _ hB; exact ⟨v, hres w, hR w hB⟩
  | cons D ds ih =>
    intro w hn hM hG hB
    have hD := hM D (List.mem_cons_self ..)
    refine ⟨by simp, .inl ⟨D, _, rfl, run_takeDeferred hD, ih _ (List.nodup_cons.1 hn).2 (fun d hd => ?_) (fun w d o' hd h => hG w d o' (List.mem_cons_of_mem _ hd) h) (hG _ _ _ (List.mem_cons_self ..) hB)⟩⟩
    have hne : d ≠ D := by rintro rfl; exact (List.nodup_cons.1 hn).1 hd
    have hd2 := hM d (List.mem_cons_of_mem _ hd)
    exact (World.putObj_heap_other hne).trans hd2
end
end Go.Proofs.YtddackdghphcnaaDoor.kit
