/-
  Layer 13: the reference's all, recursive: rows of looks that grow. Layer 13: the reference's All, Number, Numbered. Layer 13: the reference's Parse.
-/
import Derived.Test.YtddackdghphcnaaDoorG09
import Derived.Test.YtddackdghphcnaaDoorG03
import Derived.Test.YtddackdghphcnaaDoorG07
import Derived.Test.YtddackdghphcnaaDoorG04
import Derived.Test.YtddackdghphcnaaDoorG10
import Derived.Test.YtddackdghphcnaaDoorG05
namespace Go.Proofs.YtddackdghphcnaaDoor.s13
set_option linter.unusedVariables false
set_option linter.unusedSimpArgs false
open Go.RowKit
open kit

theorem own5_below {w w1 : World} {B k : Nat} {v : Value} {xs : List Value} (h : w.ownsRow B 25 5 v k xs) (hB : Below w.heap.size w w1) : w1.ownsRow B 25 5 v k xs := by
  refine ⟨h.1, ?_⟩
  rcases h.2 with h0 | ⟨g, cap, cur, e, h1, h2, h3⟩
  · exact .inl h0
  · exact .inr ⟨g, cap, cur, e, h1, (hB.block g (Array.getElem?_eq_some_iff.1 h2).1).trans h2, h3⟩
theorem below_grown5 {B : Nat} {w w1 w2 : World} {v : Value} {k : Nat} {xs : List Value} (h : Below B w w1) (hr : w1.ownsRow B 25 5 v k xs) (hg : w1.grownBy w2 v.ownBlock) (hB : B ≤ w1.heap.size) : Below B w w2 := by
  refine h.grown hg hB fun j ej => ?_
  rcases hr.2 with ⟨rfl, _⟩ | ⟨g, cap, cur, rfl, hb, _, _⟩
  · simp [Value.ownBlock] at ej
  · obtain rfl : g = j := by simpa [Value.ownBlock] using ej
    exact hb
theorem src5 {w : World} {b o : Nat} {l : List V5} (h : Reads5 w (some ⟨b, o, none⟩) l) (j : Nat) (u : Value) (hu : (flat5 l)[j]? = some u) : w.cell? ((⟨b, o, none⟩ : Addr).add j) = some u := by
  have hj : j < l.length * 5 := by
    rw [← flat5_len]; exact (List.getElem?_eq_some_iff.1 hu).1
  obtain ⟨b', o', e, _, h5⟩ := h (j / 5) (by omega)
  cases e
  have hf := flat5_at l (j / 5) (by omega) (j % 5) (by omega)
  rw [show j / 5 * 5 + j % 5 = j by omega, hu] at hf
  rw [Go.WideShapes.add_plain]
  obtain ⟨z0, z1, z2, z3, z4⟩ := h5
  have hm : j % 5 = 0 ∨ j % 5 = 1 ∨ j % 5 = 2 ∨ j % 5 = 3 ∨ j % 5 = 4 := by omega
  rcases hm with e | e | e | e | e <;> rw [e] at hf <;> simp only [cells5, List.getElem?_cons_zero, List.getElem?_cons_succ, Option.some.injEq] at hf <;> subst hf
  · rw [show o + j = o + j / 5 * 5 by omega]; exact z0
  · rw [show o + j = o + j / 5 * 5 + 1 by omega]; exact z1
  · rw [show o + j = o + j / 5 * 5 + 2 by omega]; exact z2
  · rw [show o + j = o + j / 5 * 5 + 3 by omega]; exact z3
  · rw [show o + j = o + j / 5 * 5 + 4 by omega]; exact z4
theorem flat5_one' (l : List V5) : ∀ u ∈ flat5 l, u.oneCell' = true := by
  intro u hu
  obtain ⟨x, _, hx⟩ := List.mem_flatMap.1 hu
  simp only [cells5, List.mem_cons, List.not_mem_nil, or_false] at hx
  rcases hx with rfl | rfl | rfl | rfl | rfl <;> rfl
theorem append_in5 {w : World} {ops : Array Oper} {rest : List Oper} {o : Oper} {a : Act} {Q : Exit → Act → World → Prop}
    (hg : o.guard = none) (s x : Operand) (hop : o.op = Op.call { callee := Callee.builtin Builtin.append, args := #[s, x], argTypes := #[48, 48] })
    (base : Nat) (v : Value) (k : Nat) (L1 : List V5) (hs : a.eval s = v) (hown : w.ownsRow base 25 5 v k (flat5 L1)) (src : Option Addr) (L2 : List V5) (n c : Nat) (hx : a.eval x = .slice src n c) (hn : L2.length = n) (hp : 0 < n) (hsrc : Reads5 w src L2)
    (hk : k + n ≤ 100000) (hb : base ≤ w.heap.size)
    (hK : ∀ v' w', w'.ownsRow base 25 5 v' (k + n) (flat5 (L1 ++ L2)) → Below base w w' → wpList Tryd.prog ops Q rest (a.put o.dst v') w') :
    wpList Tryd.prog ops Q (o :: rest) a w := by
  obtain ⟨i0, hi, hz0, hz1, hz2⟩ := info_parts info5
  obtain ⟨b, off, rfl, _, _⟩ := hsrc 0 (by omega)
  refine wpList_append_own w hg s x 48 hop base 25 i0 (.agg #[.int .i64 0, .int .i64 0, .int .i64 0, .int .i64 0, .int .i64 0]) 5 40 Tryd.underlying48 hi hz0 hz1 hz2 rfl (by decide) v k _ hs hown ⟨b, off, none⟩ n c (flat5 L2) hx (by rw [flat5_len, hn]) (src5 hsrc) (flat5_one' L2) (by unfold maxLen; omega) (by omega) hb fun v' w' h1 h2 _ => hK v' w' (by rw [flat5_app]; exact h1) (below_grown5 (Below.refl _ _) hown h2 hb)
theorem row5_shape {W : World} {base k : Nat} {v : Value} {xs : List Value} (h : W.ownsRow base 25 5 v k xs) : ∃ a cap, v = .slice a k cap := by
  rcases h.2 with ⟨rfl, rfl⟩ | ⟨g, cap, _, rfl, _⟩
  · exact ⟨_, _, rfl⟩
  · exact ⟨_, _, rfl⟩
theorem allL_pos (t d : Nat) (p : List Int) : 0 < (allL t d p).length := by
  cases d <;> simp [allL]
set_option maxRecDepth 100000 in
set_option maxHeartbeats 2000000 in
theorem rall_zero (t k : Nat) (a b c d : Int) (w : World) : Calls Tryd.prog 60 #[.int .i64 t, .int .i64 k, .agg #[.int .i64 k, .int .i64 a, .int .i64 b, .int .i64 c, .int .i64 d]] w fun e w' => ∃ p cp, e = .returned (.slice p 1 cp) ∧ Reads5 w' p [((k : Int), a, b, c, d)] ∧ Below w.heap.size w w' := by
  go_enter Tryd.func60, Tryd.ntmps60
  go_wp2
  go_ret
  refine ⟨_, _, rfl, ?_, ((Below.refl _ _).alloc (Nat.le_refl _) _).alloc (by simp) _⟩
  have hr := World.ownsRow_lit (base := 0) (e := 25) (size := 5) (w.alloc (.cells #[.int .i64 k, .int .i64 a, .int .i64 b, .int .i64 c, .int .i64 d] 25)) #[.int .i64 k, .int .i64 a, .int .i64 b, .int .i64 c, .int .i64 d] 1 (Nat.zero_le _) (by unfold maxLen; omega) rfl
  rw [World.size_alloc] at hr
  exact reads5_of_row rfl hr
set_option maxRecDepth 100000 in
set_option maxHeartbeats 4000000 in
theorem rall_0 (t k d : Nat) (hk : 0 + 1 + d = k) (hk4 : k ≤ 4) (ht8 : t ≤ 8) (w : World) (L : List (List Int)) (HL : Hid (allL t (d + 1) [] = L)) (hlen : Hid (L.length ≤ 5000))
    (IH : Hid (∀ (j : Nat) (w : World) (L2 : List (List Int)), Hid (allL t d ([] ++ [(j : Int)]) = L2) → L2.length ≤ 5000 → Calls Tryd.prog 60 #[.int .i64 t, .int .i64 k, .agg #[.int .i64 1, .int .i64 j, .int .i64 0, .int .i64 0, .int .i64 0]] w fun e w' => ∃ a cp, e = .returned (.slice a L2.length cp) ∧ Reads5 w' a (L2.map pad5) ∧ Below w.heap.size w w')) :
    Calls Tryd.prog 60 #[.int .i64 t, .int .i64 k, .agg #[.int .i64 0, .int .i64 0, .int .i64 0, .int .i64 0, .int .i64 0]] w fun e w' => ∃ a cp, e = .returned (.slice a L.length cp) ∧ Reads5 w' a (L.map pad5) ∧ Below w.heap.size w w' := by
  go_enter Tryd.func60, Tryd.ntmps60
  have hne : ¬ ((0 : Int) = k) := by omega
  have hne2 : (0 : Int) ≠ k := hne
  have hnd : decide ((0 : Int) = k) = false := decide_eq_false hne
  go_wp2
  have hbeq : ((0 : Int) == (k : Int)) = false := by simpa using hne
  rw [hbeq]
  clear hbeq
  go_loopw [7, 8] (fun v i wr => ∃ j : Nat, i = .int .i64 j ∧ j ≤ t ∧ Hid (wr.ownsRow (w.heap.size + 1) 25 5 v (1 + (flatJ t d [] j).length) (flat5 (([] :: flatJ t d [] j).map pad5))) ∧ Hid (Box wr 25 w.heap.size #[.int .i64 0, .int .i64 0, .int .i64 0, .int .i64 0, .int .i64 0]) ∧ Hid (Below w.heap.size w wr)) (fun _ i _ => t - (intOf i).toNat)
  case atStart =>
    refine ⟨0, rfl, by omega, Lib.hid ?_, Lib.hid ((Box.new w 25 #[.int .i64 0, .int .i64 0, .int .i64 0, .int .i64 0, .int .i64 0]).alloc _), Lib.hid (((Below.refl _ _).alloc (Nat.le_refl _) _).alloc (by simp) _)⟩
    have hr := World.ownsRow_lit (base := w.heap.size + 1) (e := 25) (size := 5) (w.alloc (.cells #[.int .i64 0, .int .i64 0, .int .i64 0, .int .i64 0, .int .i64 0] 25)) #[.int .i64 0, .int .i64 0, .int .i64 0, .int .i64 0, .int .i64 0] 1 (by simp) (by unfold maxLen; omega) rfl
    rw [World.size_alloc] at hr
    exact hr
  case round =>
    obtain ⟨j, rfl, hj, HRow, HX, HB⟩ := hrel
    by_cases hlt : j < t
    · have hlj : ([] :: flatJ t d [] j).length + (allL t d ([] ++ [(j : Int)])).length ≤ 5000 := by
        have h1 := hlen.out
        rw [← HL.out, allL_head, List.length_cons] at h1
        have h2 := flatJ_le t d [] (j := j + 1) (i := t) (by omega)
        rw [flatJ_succ, List.length_append] at h2
        rw [List.length_cons]
        omega
      rw [List.length_cons] at hlj
      obtain ⟨L2, hL2⟩ : ∃ L2, allL t d ([] ++ [(j : Int)]) = L2 := ⟨_, rfl⟩
      have hp2 := allL_pos t d ([] ++ [(j : Int)])
      obtain ⟨n1, hn1⟩ : ∃ n1, 1 + (flatJ t d [] j).length = n1 := ⟨_, rfl⟩
      have hsucc : (flatJ t d [] (j + 1)) = flatJ t d [] j ++ L2 := by rw [flatJ_succ, hL2]
      rw [hL2] at hlj hp2
      rw [hn1] at HRow
      have HL2 := Lib.hid hL2
      have HN1 := Lib.hid hn1
      have HS := Lib.hid hsucc
      have HLJ : Hid (n1 + L2.length ≤ 5000) := Lib.hid (by omega)
      have HP2 := Lib.hid hp2
      clear hlj hL2 hp2 hn1 hsucc
      obtain ⟨c0, c1, c2, c3, c4⟩ := HX.out.cell5
      have hXlt := HX.out.lt
      go_wp2_with (first
        | (go_at_call 60; refine (IH.out j _ L2 HL2 (by have := HLJ.out; omega)).mono ?_; rintro e w2 ⟨a2, cp2, rfl, hR, hB⟩; have R2 := Lib.hid hR; have O2 := Lib.hid (own5_below (HRow.out.alloc _) hB); have X2 := Lib.hid ((HX.out.alloc _).below hB); have B2 := Lib.hid (below_on (HB.out.alloc HB.out.size _) (Nat.le_refl _) hB); clear hR hB)
        | (at_builtin; refine append_in5 rfl (.tmp 32) (.tmp 36) rfl (w.heap.size + 1) _ n1 _ rfl O2.out a2 (L2.map pad5) L2.length cp2 rfl (by simp) HP2.out R2.out (by have := HLJ.out; omega) (by have := X2.out.lt; omega) ?_; intro v3 w3 hv3 hB3; have O3 := Lib.hid hv3; have X3 := Lib.hid (X2.out.under (by omega) hB3); have B3 := Lib.hid (B2.out.trans (hB3.mono (by omega))); clear hv3 hB3))
      go_roundw
      case rel =>
        refine ⟨j + 1, by go_num, by omega, Lib.hid ?_, X3, B3⟩
        have h := O3.out
        have e1 : 1 + (flatJ t d [] (j + 1)).length = n1 + L2.length := by rw [HS.out, List.length_append]; have := HN1.out; omega
        rw [e1, HS.out, ← List.cons_append, List.map_append]
        exact h
      case measure => simp [intOf]; omega
    · obtain rfl : j = t := by omega
      have hll : 1 + (flatJ j d [] j).length = L.length := by rw [← HL.out, allL_head, List.length_cons]; omega
      obtain ⟨a1, c1, rfl⟩ := row5_shape HRow.out
      have hrow := HRow.out
      rw [hll] at hrow ⊢
      rw [← allL_head, HL.out] at hrow
      have HROW := Lib.hid hrow
      clear hrow hll
      go_wp2
      go_ret
      exact ⟨a1, c1, rfl, reads5_of_row (l := L.map pad5) (n := L.length) (by simp) HROW.out, HB.out⟩
set_option maxRecDepth 100000 in
set_option maxHeartbeats 4000000 in
theorem rall_1 (t k d : Nat) (hk : 1 + 1 + d = k) (hk4 : k ≤ 4) (ht8 : t ≤ 8) (x : Int) (w : World) (L : List (List Int)) (HL : Hid (allL t (d + 1) [x] = L)) (hlen : Hid (L.length ≤ 5000))
    (IH : Hid (∀ (j : Nat) (w : World) (L2 : List (List Int)), Hid (allL t d ([x] ++ [(j : Int)]) = L2) → L2.length ≤ 5000 → Calls Tryd.prog 60 #[.int .i64 t, .int .i64 k, .agg #[.int .i64 2, .int .i64 x, .int .i64 j, .int .i64 0, .int .i64 0]] w fun e w' => ∃ a cp, e = .returned (.slice a L2.length cp) ∧ Reads5 w' a (L2.map pad5) ∧ Below w.heap.size w w')) :
    Calls Tryd.prog 60 #[.int .i64 t, .int .i64 k, .agg #[.int .i64 1, .int .i64 x, .int .i64 0, .int .i64 0, .int .i64 0]] w fun e w' => ∃ a cp, e = .returned (.slice a L.length cp) ∧ Reads5 w' a (L.map pad5) ∧ Below w.heap.size w w' := by
  go_enter Tryd.func60, Tryd.ntmps60
  have hne : ¬ ((1 : Int) = k) := by omega
  have hne2 : (1 : Int) ≠ k := hne
  have hnd : decide ((1 : Int) = k) = false := decide_eq_false hne
  go_wp2
  have hbeq : ((1 : Int) == (k : Int)) = false := by simpa using hne
  rw [hbeq]
  clear hbeq
  go_loopw [7, 8] (fun v i wr => ∃ j : Nat, i = .int .i64 j ∧ j ≤ t ∧ Hid (wr.ownsRow (w.heap.size + 1) 25 5 v (1 + (flatJ t d [x] j).length) (flat5 (([x] :: flatJ t d [x] j).map pad5))) ∧ Hid (Box wr 25 w.heap.size #[.int .i64 1, .int .i64 x, .int .i64 0, .int .i64 0, .int .i64 0]) ∧ Hid (Below w.heap.size w wr)) (fun _ i _ => t - (intOf i).toNat)
  case atStart =>
    refine ⟨0, rfl, by omega, Lib.hid ?_, Lib.hid ((Box.new w 25 #[.int .i64 1, .int .i64 x, .int .i64 0, .int .i64 0, .int .i64 0]).alloc _), Lib.hid (((Below.refl _ _).alloc (Nat.le_refl _) _).alloc (by simp) _)⟩
    have hr := World.ownsRow_lit (base := w.heap.size + 1) (e := 25) (size := 5) (w.alloc (.cells #[.int .i64 1, .int .i64 x, .int .i64 0, .int .i64 0, .int .i64 0] 25)) #[.int .i64 1, .int .i64 x, .int .i64 0, .int .i64 0, .int .i64 0] 1 (by simp) (by unfold maxLen; omega) rfl
    rw [World.size_alloc] at hr
    exact hr
  case round =>
    obtain ⟨j, rfl, hj, HRow, HX, HB⟩ := hrel
    by_cases hlt : j < t
    · have hlj : ([x] :: flatJ t d [x] j).length + (allL t d ([x] ++ [(j : Int)])).length ≤ 5000 := by
        have h1 := hlen.out
        rw [← HL.out, allL_head, List.length_cons] at h1
        have h2 := flatJ_le t d [x] (j := j + 1) (i := t) (by omega)
        rw [flatJ_succ, List.length_append] at h2
        rw [List.length_cons]
        omega
      rw [List.length_cons] at hlj
      obtain ⟨L2, hL2⟩ : ∃ L2, allL t d ([x] ++ [(j : Int)]) = L2 := ⟨_, rfl⟩
      have hp2 := allL_pos t d ([x] ++ [(j : Int)])
      obtain ⟨n1, hn1⟩ : ∃ n1, 1 + (flatJ t d [x] j).length = n1 := ⟨_, rfl⟩
      have hsucc : (flatJ t d [x] (j + 1)) = flatJ t d [x] j ++ L2 := by rw [flatJ_succ, hL2]
      rw [hL2] at hlj hp2
      rw [hn1] at HRow
      have HL2 := Lib.hid hL2
      have HN1 := Lib.hid hn1
      have HS := Lib.hid hsucc
      have HLJ : Hid (n1 + L2.length ≤ 5000) := Lib.hid (by omega)
      have HP2 := Lib.hid hp2
      clear hlj hL2 hp2 hn1 hsucc
      obtain ⟨c0, c1, c2, c3, c4⟩ := HX.out.cell5
      have hXlt := HX.out.lt
      go_wp2_with (first
        | (go_at_call 60; refine (IH.out j _ L2 HL2 (by have := HLJ.out; omega)).mono ?_; rintro e w2 ⟨a2, cp2, rfl, hR, hB⟩; have R2 := Lib.hid hR; have O2 := Lib.hid (own5_below (HRow.out.alloc _) hB); have X2 := Lib.hid ((HX.out.alloc _).below hB); have B2 := Lib.hid (below_on (HB.out.alloc HB.out.size _) (Nat.le_refl _) hB); clear hR hB)
        | (at_builtin; refine append_in5 rfl (.tmp 32) (.tmp 36) rfl (w.heap.size + 1) _ n1 _ rfl O2.out a2 (L2.map pad5) L2.length cp2 rfl (by simp) HP2.out R2.out (by have := HLJ.out; omega) (by have := X2.out.lt; omega) ?_; intro v3 w3 hv3 hB3; have O3 := Lib.hid hv3; have X3 := Lib.hid (X2.out.under (by omega) hB3); have B3 := Lib.hid (B2.out.trans (hB3.mono (by omega))); clear hv3 hB3))
      go_roundw
      case rel =>
        refine ⟨j + 1, by go_num, by omega, Lib.hid ?_, X3, B3⟩
        have h := O3.out
        have e1 : 1 + (flatJ t d [x] (j + 1)).length = n1 + L2.length := by rw [HS.out, List.length_append]; have := HN1.out; omega
        rw [e1, HS.out, ← List.cons_append, List.map_append]
        exact h
      case measure => simp [intOf]; omega
    · obtain rfl : j = t := by omega
      have hll : 1 + (flatJ j d [x] j).length = L.length := by rw [← HL.out, allL_head, List.length_cons]; omega
      obtain ⟨a1, c1, rfl⟩ := row5_shape HRow.out
      have hrow := HRow.out
      rw [hll] at hrow ⊢
      rw [← allL_head, HL.out] at hrow
      have HROW := Lib.hid hrow
      clear hrow hll
      go_wp2
      go_ret
      exact ⟨a1, c1, rfl, reads5_of_row (l := L.map pad5) (n := L.length) (by simp) HROW.out, HB.out⟩
set_option maxRecDepth 100000 in
set_option maxHeartbeats 4000000 in
theorem rall_2 (t k d : Nat) (hk : 2 + 1 + d = k) (hk4 : k ≤ 4) (ht8 : t ≤ 8) (x : Int) (y : Int) (w : World) (L : List (List Int)) (HL : Hid (allL t (d + 1) [x, y] = L)) (hlen : Hid (L.length ≤ 5000))
    (IH : Hid (∀ (j : Nat) (w : World) (L2 : List (List Int)), Hid (allL t d ([x, y] ++ [(j : Int)]) = L2) → L2.length ≤ 5000 → Calls Tryd.prog 60 #[.int .i64 t, .int .i64 k, .agg #[.int .i64 3, .int .i64 x, .int .i64 y, .int .i64 j, .int .i64 0]] w fun e w' => ∃ a cp, e = .returned (.slice a L2.length cp) ∧ Reads5 w' a (L2.map pad5) ∧ Below w.heap.size w w')) :
    Calls Tryd.prog 60 #[.int .i64 t, .int .i64 k, .agg #[.int .i64 2, .int .i64 x, .int .i64 y, .int .i64 0, .int .i64 0]] w fun e w' => ∃ a cp, e = .returned (.slice a L.length cp) ∧ Reads5 w' a (L.map pad5) ∧ Below w.heap.size w w' := by
  go_enter Tryd.func60, Tryd.ntmps60
  have hne : ¬ ((2 : Int) = k) := by omega
  have hne2 : (2 : Int) ≠ k := hne
  have hnd : decide ((2 : Int) = k) = false := decide_eq_false hne
  go_wp2
  have hbeq : ((2 : Int) == (k : Int)) = false := by simpa using hne
  rw [hbeq]
  clear hbeq
  go_loopw [7, 8] (fun v i wr => ∃ j : Nat, i = .int .i64 j ∧ j ≤ t ∧ Hid (wr.ownsRow (w.heap.size + 1) 25 5 v (1 + (flatJ t d [x, y] j).length) (flat5 (([x, y] :: flatJ t d [x, y] j).map pad5))) ∧ Hid (Box wr 25 w.heap.size #[.int .i64 2, .int .i64 x, .int .i64 y, .int .i64 0, .int .i64 0]) ∧ Hid (Below w.heap.size w wr)) (fun _ i _ => t - (intOf i).toNat)
  case atStart =>
    refine ⟨0, rfl, by omega, Lib.hid ?_, Lib.hid ((Box.new w 25 #[.int .i64 2, .int .i64 x, .int .i64 y, .int .i64 0, .int .i64 0]).alloc _), Lib.hid (((Below.refl _ _).alloc (Nat.le_refl _) _).alloc (by simp) _)⟩
    have hr := World.ownsRow_lit (base := w.heap.size + 1) (e := 25) (size := 5) (w.alloc (.cells #[.int .i64 2, .int .i64 x, .int .i64 y, .int .i64 0, .int .i64 0] 25)) #[.int .i64 2, .int .i64 x, .int .i64 y, .int .i64 0, .int .i64 0] 1 (by simp) (by unfold maxLen; omega) rfl
    rw [World.size_alloc] at hr
    exact hr
  case round =>
    obtain ⟨j, rfl, hj, HRow, HX, HB⟩ := hrel
    by_cases hlt : j < t
    · have hlj : ([x, y] :: flatJ t d [x, y] j).length + (allL t d ([x, y] ++ [(j : Int)])).length ≤ 5000 := by
        have h1 := hlen.out
        rw [← HL.out, allL_head, List.length_cons] at h1
        have h2 := flatJ_le t d [x, y] (j := j + 1) (i := t) (by omega)
        rw [flatJ_succ, List.length_append] at h2
        rw [List.length_cons]
        omega
      rw [List.length_cons] at hlj
      obtain ⟨L2, hL2⟩ : ∃ L2, allL t d ([x, y] ++ [(j : Int)]) = L2 := ⟨_, rfl⟩
      have hp2 := allL_pos t d ([x, y] ++ [(j : Int)])
      obtain ⟨n1, hn1⟩ : ∃ n1, 1 + (flatJ t d [x, y] j).length = n1 := ⟨_, rfl⟩
      have hsucc : (flatJ t d [x, y] (j + 1)) = flatJ t d [x, y] j ++ L2 := by rw [flatJ_succ, hL2]
      rw [hL2] at hlj hp2
      rw [hn1] at HRow
      have HL2 := Lib.hid hL2
      have HN1 := Lib.hid hn1
      have HS := Lib.hid hsucc
      have HLJ : Hid (n1 + L2.length ≤ 5000) := Lib.hid (by omega)
      have HP2 := Lib.hid hp2
      clear hlj hL2 hp2 hn1 hsucc
      obtain ⟨c0, c1, c2, c3, c4⟩ := HX.out.cell5
      have hXlt := HX.out.lt
      go_wp2_with (first
        | (go_at_call 60; refine (IH.out j _ L2 HL2 (by have := HLJ.out; omega)).mono ?_; rintro e w2 ⟨a2, cp2, rfl, hR, hB⟩; have R2 := Lib.hid hR; have O2 := Lib.hid (own5_below (HRow.out.alloc _) hB); have X2 := Lib.hid ((HX.out.alloc _).below hB); have B2 := Lib.hid (below_on (HB.out.alloc HB.out.size _) (Nat.le_refl _) hB); clear hR hB)
        | (at_builtin; refine append_in5 rfl (.tmp 32) (.tmp 36) rfl (w.heap.size + 1) _ n1 _ rfl O2.out a2 (L2.map pad5) L2.length cp2 rfl (by simp) HP2.out R2.out (by have := HLJ.out; omega) (by have := X2.out.lt; omega) ?_; intro v3 w3 hv3 hB3; have O3 := Lib.hid hv3; have X3 := Lib.hid (X2.out.under (by omega) hB3); have B3 := Lib.hid (B2.out.trans (hB3.mono (by omega))); clear hv3 hB3))
      go_roundw
      case rel =>
        refine ⟨j + 1, by go_num, by omega, Lib.hid ?_, X3, B3⟩
        have h := O3.out
        have e1 : 1 + (flatJ t d [x, y] (j + 1)).length = n1 + L2.length := by rw [HS.out, List.length_append]; have := HN1.out; omega
        rw [e1, HS.out, ← List.cons_append, List.map_append]
        exact h
      case measure => simp [intOf]; omega
    · obtain rfl : j = t := by omega
      have hll : 1 + (flatJ j d [x, y] j).length = L.length := by rw [← HL.out, allL_head, List.length_cons]; omega
      obtain ⟨a1, c1, rfl⟩ := row5_shape HRow.out
      have hrow := HRow.out
      rw [hll] at hrow ⊢
      rw [← allL_head, HL.out] at hrow
      have HROW := Lib.hid hrow
      clear hrow hll
      go_wp2
      go_ret
      exact ⟨a1, c1, rfl, reads5_of_row (l := L.map pad5) (n := L.length) (by simp) HROW.out, HB.out⟩
set_option maxRecDepth 100000 in
set_option maxHeartbeats 4000000 in
theorem rall_3 (t k d : Nat) (hk : 3 + 1 + d = k) (hk4 : k ≤ 4) (ht8 : t ≤ 8) (x : Int) (y : Int) (z : Int) (w : World) (L : List (List Int)) (HL : Hid (allL t (d + 1) [x, y, z] = L)) (hlen : Hid (L.length ≤ 5000))
    (IH : Hid (∀ (j : Nat) (w : World) (L2 : List (List Int)), Hid (allL t d ([x, y, z] ++ [(j : Int)]) = L2) → L2.length ≤ 5000 → Calls Tryd.prog 60 #[.int .i64 t, .int .i64 k, .agg #[.int .i64 4, .int .i64 x, .int .i64 y, .int .i64 z, .int .i64 j]] w fun e w' => ∃ a cp, e = .returned (.slice a L2.length cp) ∧ Reads5 w' a (L2.map pad5) ∧ Below w.heap.size w w')) :
    Calls Tryd.prog 60 #[.int .i64 t, .int .i64 k, .agg #[.int .i64 3, .int .i64 x, .int .i64 y, .int .i64 z, .int .i64 0]] w fun e w' => ∃ a cp, e = .returned (.slice a L.length cp) ∧ Reads5 w' a (L.map pad5) ∧ Below w.heap.size w w' := by
  go_enter Tryd.func60, Tryd.ntmps60
  have hne : ¬ ((3 : Int) = k) := by omega
  have hne2 : (3 : Int) ≠ k := hne
  have hnd : decide ((3 : Int) = k) = false := decide_eq_false hne
  go_wp2
  have hbeq : ((3 : Int) == (k : Int)) = false := by simpa using hne
  rw [hbeq]
  clear hbeq
  go_loopw [7, 8] (fun v i wr => ∃ j : Nat, i = .int .i64 j ∧ j ≤ t ∧ Hid (wr.ownsRow (w.heap.size + 1) 25 5 v (1 + (flatJ t d [x, y, z] j).length) (flat5 (([x, y, z] :: flatJ t d [x, y, z] j).map pad5))) ∧ Hid (Box wr 25 w.heap.size #[.int .i64 3, .int .i64 x, .int .i64 y, .int .i64 z, .int .i64 0]) ∧ Hid (Below w.heap.size w wr)) (fun _ i _ => t - (intOf i).toNat)
  case atStart =>
    refine ⟨0, rfl, by omega, Lib.hid ?_, Lib.hid ((Box.new w 25 #[.int .i64 3, .int .i64 x, .int .i64 y, .int .i64 z, .int .i64 0]).alloc _), Lib.hid (((Below.refl _ _).alloc (Nat.le_refl _) _).alloc (by simp) _)⟩
    have hr := World.ownsRow_lit (base := w.heap.size + 1) (e := 25) (size := 5) (w.alloc (.cells #[.int .i64 3, .int .i64 x, .int .i64 y, .int .i64 z, .int .i64 0] 25)) #[.int .i64 3, .int .i64 x, .int .i64 y, .int .i64 z, .int .i64 0] 1 (by simp) (by unfold maxLen; omega) rfl
    rw [World.size_alloc] at hr
    exact hr
  case round =>
    obtain ⟨j, rfl, hj, HRow, HX, HB⟩ := hrel
    by_cases hlt : j < t
    · have hlj : ([x, y, z] :: flatJ t d [x, y, z] j).length + (allL t d ([x, y, z] ++ [(j : Int)])).length ≤ 5000 := by
        have h1 := hlen.out
        rw [← HL.out, allL_head, List.length_cons] at h1
        have h2 := flatJ_le t d [x, y, z] (j := j + 1) (i := t) (by omega)
        rw [flatJ_succ, List.length_append] at h2
        rw [List.length_cons]
        omega
      rw [List.length_cons] at hlj
      obtain ⟨L2, hL2⟩ : ∃ L2, allL t d ([x, y, z] ++ [(j : Int)]) = L2 := ⟨_, rfl⟩
      have hp2 := allL_pos t d ([x, y, z] ++ [(j : Int)])
      obtain ⟨n1, hn1⟩ : ∃ n1, 1 + (flatJ t d [x, y, z] j).length = n1 := ⟨_, rfl⟩
      have hsucc : (flatJ t d [x, y, z] (j + 1)) = flatJ t d [x, y, z] j ++ L2 := by rw [flatJ_succ, hL2]
      rw [hL2] at hlj hp2
      rw [hn1] at HRow
      have HL2 := Lib.hid hL2
      have HN1 := Lib.hid hn1
      have HS := Lib.hid hsucc
      have HLJ : Hid (n1 + L2.length ≤ 5000) := Lib.hid (by omega)
      have HP2 := Lib.hid hp2
      clear hlj hL2 hp2 hn1 hsucc
      obtain ⟨c0, c1, c2, c3, c4⟩ := HX.out.cell5
      have hXlt := HX.out.lt
      go_wp2_with (first
        | (go_at_call 60; refine (IH.out j _ L2 HL2 (by have := HLJ.out; omega)).mono ?_; rintro e w2 ⟨a2, cp2, rfl, hR, hB⟩; have R2 := Lib.hid hR; have O2 := Lib.hid (own5_below (HRow.out.alloc _) hB); have X2 := Lib.hid ((HX.out.alloc _).below hB); have B2 := Lib.hid (below_on (HB.out.alloc HB.out.size _) (Nat.le_refl _) hB); clear hR hB)
        | (at_builtin; refine append_in5 rfl (.tmp 32) (.tmp 36) rfl (w.heap.size + 1) _ n1 _ rfl O2.out a2 (L2.map pad5) L2.length cp2 rfl (by simp) HP2.out R2.out (by have := HLJ.out; omega) (by have := X2.out.lt; omega) ?_; intro v3 w3 hv3 hB3; have O3 := Lib.hid hv3; have X3 := Lib.hid (X2.out.under (by omega) hB3); have B3 := Lib.hid (B2.out.trans (hB3.mono (by omega))); clear hv3 hB3))
      go_roundw
      case rel =>
        refine ⟨j + 1, by go_num, by omega, Lib.hid ?_, X3, B3⟩
        have h := O3.out
        have e1 : 1 + (flatJ t d [x, y, z] (j + 1)).length = n1 + L2.length := by rw [HS.out, List.length_append]; have := HN1.out; omega
        rw [e1, HS.out, ← List.cons_append, List.map_append]
        exact h
      case measure => simp [intOf]; omega
    · obtain rfl : j = t := by omega
      have hll : 1 + (flatJ j d [x, y, z] j).length = L.length := by rw [← HL.out, allL_head, List.length_cons]; omega
      obtain ⟨a1, c1, rfl⟩ := row5_shape HRow.out
      have hrow := HRow.out
      rw [hll] at hrow ⊢
      rw [← allL_head, HL.out] at hrow
      have HROW := Lib.hid hrow
      clear hrow hll
      go_wp2
      go_ret
      exact ⟨a1, c1, rfl, reads5_of_row (l := L.map pad5) (n := L.length) (by simp) HROW.out, HB.out⟩
theorem rall_any (t k : Nat) (hk4 : k ≤ 4) (ht8 : t ≤ 8) : ∀ (d : Nat) (l : List Int), l.length + d = k → ∀ (n a b c e0 : Int), pad5 l = (n, a, b, c, e0) → ∀ (w : World) (L : List (List Int)), Hid (allL t d l = L) → L.length ≤ 5000 →
    Calls Tryd.prog 60 #[.int .i64 t, .int .i64 k, .agg #[.int .i64 n, .int .i64 a, .int .i64 b, .int .i64 c, .int .i64 e0]] w fun e w' => ∃ a cp, e = .returned (.slice a L.length cp) ∧ Reads5 w' a (L.map pad5) ∧ Below w.heap.size w w'
  | 0, l, hl, n, a, b, c, e0, hp, w, L, HL, hL => by
    have h := HL.out
    simp only [allL] at h
    subst h
    have hn : ((l.length : Nat) : Int) = n := congrArg Prod.fst hp
    obtain rfl : n = (k : Int) := by omega
    rw [List.map_singleton, hp]
    exact rall_zero t k a b c e0 w
  | d + 1, l, hl, n, a, b, c, e0, hp, w, L, HL, hL => by
    have ih := fun (j : Nat) (w : World) (L2 : List (List Int)) (H2 : Hid (allL t d (l ++ [(j : Int)]) = L2)) (h2 : L2.length ≤ 5000) (n a b c e0 : Int) (hq : pad5 (l ++ [(j : Int)]) = (n, a, b, c, e0)) => rall_any t k hk4 ht8 d (l ++ [(j : Int)]) (by rw [List.length_append]; simp; omega) n a b c e0 hq w L2 H2 h2
    match l, hp, hl, HL, ih with
    | [], hp, hl, HL, ih =>
      cases hp
      exact rall_0 t k d (by simp at hl; omega) hk4 ht8 w L HL (Lib.hid hL) (Lib.hid fun j w L2 H2 h2 => ih j w L2 H2 h2 _ _ _ _ _ rfl)
    | [x], hp, hl, HL, ih =>
      cases hp
      exact rall_1 t k d (by simp at hl; omega) hk4 ht8 x w L HL (Lib.hid hL) (Lib.hid fun j w L2 H2 h2 => ih j w L2 H2 h2 _ _ _ _ _ rfl)
    | [x, y], hp, hl, HL, ih =>
      cases hp
      exact rall_2 t k d (by simp at hl; omega) hk4 ht8 x y w L HL (Lib.hid hL) (Lib.hid fun j w L2 H2 h2 => ih j w L2 H2 h2 _ _ _ _ _ rfl)
    | [x, y, z], hp, hl, HL, ih =>
      cases hp
      exact rall_3 t k d (by simp at hl; omega) hk4 ht8 x y z w L HL (Lib.hid hL) (Lib.hid fun j w L2 H2 h2 => ih j w L2 H2 h2 _ _ _ _ _ rfl)
    | x :: y :: z :: u :: r, hp, hl, HL, ih => exact absurd hl (by simp; omega)
end Go.Proofs.YtddackdghphcnaaDoor.s13

namespace Go.Proofs.YtddackdghphcnaaDoor.s13
set_option linter.unusedVariables false
set_option linter.unusedSimpArgs false
open Go.RowKit
open kit

set_option maxRecDepth 100000 in
set_option maxHeartbeats 2000000 in
theorem rAll_bad (t k : Int) (w : World) (h : (t < 1 ∨ 8 < t) ∨ (k < 0 ∨ 4 < k)) : Calls Tryd.prog 36 #[.int .i64 t, .int .i64 k] w fun e w' => e = .returned (.tuple #[.slice none 0 0, .int .i64 2]) ∧ Below w.heap.size w w' := by
  by_cases h1 : t < 1
  · go_enter Tryd.func36, Tryd.ntmps36
    go_wp2
    go_ret2
    exact ⟨rfl, Below.refl _ _⟩
  · by_cases h2 : 8 < t
    · go_enter Tryd.func36, Tryd.ntmps36
      go_wp2
      go_ret2
      exact ⟨rfl, Below.refl _ _⟩
    · by_cases h3 : k < 0
      · go_enter Tryd.func36, Tryd.ntmps36
        go_wp2
        go_ret2
        exact ⟨rfl, Below.refl _ _⟩
      · have h4 : 4 < k := by omega
        clear h
        go_enter Tryd.func36, Tryd.ntmps36
        go_wp2
        go_ret2
        exact ⟨rfl, Below.refl _ _⟩
set_option maxRecDepth 100000 in
set_option maxHeartbeats 2000000 in
theorem rAll_ok (t k : Nat) (w : World) (h1 : 1 ≤ t) (h2 : t ≤ 8) (hk : k ≤ 4) (L : List (List Int)) (HL : Hid (allL t k [] = L)) : Calls Tryd.prog 36 #[.int .i64 t, .int .i64 k] w fun e w' => ∃ a cp, e = .returned (.tuple #[.slice a L.length cp, .int .i64 0]) ∧ Reads5 w' a (L.map pad5) ∧ Below w.heap.size w w' := by
  have t1 : ¬ (t : Int) < 1 := by omega
  have t2 : ¬ 8 < (t : Int) := by omega
  have k1 : ¬ (k : Int) < 0 := by omega
  have k2 : ¬ 4 < (k : Int) := by omega
  have hlen : Hid (L.length ≤ 5000) := Lib.hid (by
    have e1 := allL_len t k []
    have e2 := (cnt_le t (by omega) (by omega) k hk).2
    rw [HL.out] at e1
    omega)
  go_enter Tryd.func36, Tryd.ntmps36
  go_wp2_with (go_at_call 60; refine (rall_any t k hk h2 k [] (by simp) 0 0 0 0 0 rfl _ L HL hlen.out).mono ?_; rintro e w1 ⟨a, cp, rfl, hR, hB⟩; have R1 := Lib.hid hR; have B1 := Lib.hid hB; clear hR hB)
  go_ret2
  exact ⟨a, cp, rfl, R1.out, B1.out⟩
theorem rAll_any (t k : Int) (w : World) (L : List V5) (r : Int) (H : Hid (allE t k = (L, r))) : Calls Tryd.prog 36 #[.int .i64 t, .int .i64 k] w fun e w' => ∃ a cp, e = .returned (.tuple #[.slice a L.length cp, .int .i64 r]) ∧ Reads5 w' a L ∧ Below w.heap.size w w' := by
  have h := H.out
  unfold allE at h
  by_cases hc : (t < 1 ∨ 8 < t) ∨ (k < 0 ∨ 4 < k)
  · rw [if_pos hc] at h
    cases h
    refine (rAll_bad t k w hc).mono ?_
    rintro e w' ⟨rfl, hB⟩
    exact ⟨none, 0, rfl, Reads5.nil _ _, hB⟩
  · rw [if_neg hc] at h
    cases h
    have e1 : ((t.toNat : Nat) : Int) = t := by omega
    have e2 : ((k.toNat : Nat) : Int) = k := by omega
    have := rAll_ok t.toNat k.toNat w (by omega) (by omega) (by omega) _ (Lib.hid rfl)
    rw [e1, e2] at this
    rw [List.length_map]
    exact this
set_option maxRecDepth 100000 in
set_option maxHeartbeats 2000000 in
theorem rnumber_bad (n a b c d t r : Int) (w : World) (HR : Hid (chkP n a b c d t = r)) (hr : (r != 0) = true) : Calls Tryd.prog 32 #[.agg #[.int .i64 n, .int .i64 a, .int .i64 b, .int .i64 c, .int .i64 d], .int .i64 t] w fun e w' => e = .returned (.tuple #[.int .i64 0, .int .i64 r]) ∧ Below w.heap.size w w' := by
  go_enter Tryd.func32, Tryd.ntmps32
  go_wp2_with (go_at_call 19; refine (rcheck_any n a b c d t r _ HR).mono ?_; rintro e w1 ⟨rfl, hB⟩; have B1 := Lib.hid (made1 hB).2; clear hB)
  go_ret2
  exact ⟨rfl, B1.out⟩
set_option maxRecDepth 100000 in
set_option maxHeartbeats 4000000 in
theorem rnumber_ok (l : List Int) (N : Nat) (a b c d r : Int) (t : Nat) (w : World) (HR : Hid (chkP N a b c d t = 0)) (h1 : 1 ≤ t) (h2 : t ≤ 8) (hN : N ≤ 4) (HL : Hid (l.length = N)) (HP : Hid (pad5 l = ((N : Int), a, b, c, d))) (HK : Hid (okL t l)) (HE : Hid (numL t 4 l = r)) :
    Calls Tryd.prog 32 #[.agg #[.int .i64 N, .int .i64 a, .int .i64 b, .int .i64 c, .int .i64 d], .int .i64 t] w fun e w' => e = .returned (.tuple #[.int .i64 r, .int .i64 0]) ∧ Below w.heap.size w w' := by
  obtain ⟨m, hm⟩ : ∃ m : Nat, numL t 4 l = m := ⟨(numL t 4 l).toNat, by
    have := (numL_range t (by omega) 4 l (by have := HL.out; omega) HK.out.2).1
    omega⟩
  obtain rfl : r = (m : Int) := by rw [← HE.out, hm]
  obtain ⟨L, hL⟩ : ∃ L, allL t 4 [] = L := ⟨_, rfl⟩
  have hat := allL_at t h1 4 l (by have := HL.out; omega) HK.out.2
  rw [hm, hL, Int.toNat_natCast] at hat
  have hml := (List.getElem?_eq_some_iff.1 hat).1
  have hinj : Hid (∀ i, L[i]? = some l → i = m) := Lib.hid (fun i hi => by
    have := allL_inj t h1 4 i l (by rw [hL]; exact hi)
    omega)
  have hmem : Hid (∀ x ∈ L, x.length ≤ 4) := Lib.hid (fun x hx => (allL_mem t h1 4 x (by rw [hL]; exact hx)).1)
  have hlen : Hid (L.length ≤ 5000) := Lib.hid (by
    have e1 := allL_len t 4 []
    have e2 := (cnt_le t (by omega) (by omega) 4 (by omega)).2
    rw [hL] at e1
    omega)
  have HLL := Lib.hid hL
  have HAT := Lib.hid hat
  have hml5 : L.length ≤ 5000 := hlen.out
  clear hL hat hm HE
  go_enter Tryd.func32, Tryd.ntmps32
  go_wp2_with (first
    | (go_at_call 19; refine (rcheck_any N a b c d t 0 _ HR).mono ?_; rintro e w1 ⟨rfl, hB⟩; have B1 := Lib.hid (made1 hB).2; have X1 := Lib.hid (made1 hB).1; clear hB)
    | (go_at_call 60; refine (rall_any t 4 (by omega) h2 4 [] (by simp) 0 0 0 0 0 rfl _ L HLL hlen.out).mono ?_; rintro e w2 ⟨aa, cp, rfl, hR, hB⟩; have R2 := Lib.hid hR; have B2 := Lib.hid (below_on B1.out (Nat.le_refl _) hB); have X2 := Lib.hid (X1.out.below hB); clear hR hB))
  have HLen : Hid ((L.map pad5).length = L.length) := Lib.hid (List.length_map _)
  obtain ⟨b0, o0, rfl, _, _⟩ := R2.out m (by rw [HLen.out]; exact hml)
  go_loopw [8] (fun i wr => ∃ k : Nat, i = .int .i64 k ∧ k ≤ m ∧ Hid (Reads5 wr (some ⟨b0, o0, none⟩) (L.map pad5)) ∧ Hid (Box wr 25 w.heap.size #[.int .i64 N, .int .i64 a, .int .i64 b, .int .i64 c, .int .i64 d]) ∧ Hid (Below w.heap.size w wr)) (fun i _ => m + 1 - (intOf i).toNat)
  case atStart => exact ⟨0, rfl, by omega, R2, X2, B2⟩
  case round =>
    obtain ⟨k, rfl, hk, HR5, HX, HB⟩ := hrel
    have hkl : k < L.length := by omega
    obtain ⟨c0, c1, c2, c3, c4⟩ := HX.out.cell5
    obtain ⟨x, hx⟩ : ∃ x, L[k]? = some x := ⟨L[k], List.getElem?_eq_getElem hkl⟩
    have hxm : x ∈ L := List.mem_of_getElem? hx
    obtain ⟨⟨y0, y1, y2, y3, y4⟩, hy⟩ : ∃ y, pad5 x = y := ⟨_, rfl⟩
    have hl5 := at5_of HR5.out k (by rw [HLen.out]; exact hkl) (x := (y0, y1, y2, y3, y4)) (by rw [List.getElem?_map, hx, ← hy]; rfl)
    obtain ⟨d0, d1, d2, d3, d4⟩ := hl5
    simp only at d0 d1 d2 d3 d4
    by_cases hlt : k < m
    · have hne : Hid (¬ (y0 = N ∧ y1 = a ∧ y2 = b ∧ y3 = c ∧ y4 = d)) := Lib.hid (by
        rintro ⟨rfl, rfl, rfl, rfl, rfl⟩
        have := pad5_inj (hmem.out x hxm) (hy.trans HP.out.symm)
        subst this
        have := hinj.out k hx
        omega)
      have hlast : Hid True := Lib.hid trivial
      clear hx hy hxm
      by_cases hy0 : y0 = N
      · subst hy0
        have EX : ∀ W, (Op.equalIn 9999 23 (.agg #[.int .i64 y1, .int .i64 y2, .int .i64 y3, .int .i64 y4]) (.agg #[.int .i64 a, .int .i64 b, .int .i64 c, .int .i64 d])).run Tryd.prog W = .ok false W := fun W => by rw [eq_arr, decide_eq_false (fun h => hne.out ⟨rfl, h⟩)]
        go_wp2_with fail
        go_quiet (fail)
        rename_i K hK
        refine hK _ _ ?_
        clear hK
        go_wp2_with fail
        go_roundw
        case rel => exact ⟨k + 1, by go_num, by omega, Lib.hid (HR5.out.drewN _), Lib.hid (HX.out.drewN _), Lib.hid (below_drewN HB.out _)⟩
        case measure => simp [intOf]; omega
      · have hy0b : (y0 == (N : Int)) = false := by simpa using hy0
        have hy0c : decide (y0 = (N : Int)) = false := decide_eq_false hy0
        go_wp2_with fail
        go_quiet (fail)
        rename_i K hK
        refine hK _ _ ?_
        clear hK
        go_wp2_with fail
        go_roundw
        case rel => exact ⟨k + 1, by go_num, by omega, Lib.hid (HR5.out.drewN _), Lib.hid (HX.out.drewN _), Lib.hid (below_drewN HB.out _)⟩
        case measure => simp [intOf]; omega
    · obtain rfl : k = m := by omega
      have hxl : x = l := by
        have := HAT.out
        rw [hx] at this
        cases this; rfl
      have hq : (y0, y1, y2, y3, y4) = ((N : Int), a, b, c, d) := by rw [← hy, hxl, HP.out]
      simp only [Prod.mk.injEq] at hq
      obtain ⟨rfl, rfl, rfl, rfl, rfl⟩ := hq
      have EX : ∀ W, (Op.equalIn 9999 23 (.agg #[.int .i64 y1, .int .i64 y2, .int .i64 y3, .int .i64 y4]) (.agg #[.int .i64 y1, .int .i64 y2, .int .i64 y3, .int .i64 y4])).run Tryd.prog W = .ok true W := fun W => by rw [eq_arr, decide_eq_true ⟨rfl, rfl, rfl, rfl⟩]
      clear hx hy hxm hxl
      go_wp2_with fail
      go_quiet (fail)
      rename_i K hK
      refine hK _ _ ?_
      clear hK
      go_wp2_with fail
      go_ret2
      exact ⟨rfl, below_drewN HB.out _⟩
theorem rnumber_any (n a b c d t : Int) (w : World) (v r : Int) (H : Hid (numE (n, a, b, c, d) t = (v, r))) : Calls Tryd.prog 32 #[.agg #[.int .i64 n, .int .i64 a, .int .i64 b, .int .i64 c, .int .i64 d], .int .i64 t] w fun e w' => e = .returned (.tuple #[.int .i64 v, .int .i64 r]) ∧ Below w.heap.size w w' := by
  have h := H.out
  unfold numE at h
  simp only at h
  by_cases hc : chkP n a b c d t = 0
  · rw [if_neg (by simpa using hc)] at h; cases h
    obtain ⟨h1, h2, h3⟩ := lst_ok hc
    obtain ⟨t1, t2, _⟩ := chkP_yes hc
    have := h1.1
    obtain ⟨N, hN⟩ : ∃ N : Nat, n = N := ⟨(lst (n, a, b, c, d)).length, h3.symm⟩
    obtain ⟨T, hT⟩ : ∃ T : Nat, t = T := ⟨t.toNat, by omega⟩
    subst hN hT
    exact rnumber_ok (lst (N, a, b, c, d)) N a b c d _ T w (Lib.hid hc) (by omega) (by omega) (by omega) (Lib.hid (by omega)) (Lib.hid h2) (Lib.hid h1) (Lib.hid rfl)
  · rw [if_pos hc] at h; cases h
    exact rnumber_bad n a b c d t _ w (Lib.hid rfl) (by simpa using hc)
set_option maxRecDepth 100000 in
set_option maxHeartbeats 2000000 in
theorem rnumbered_terms (n t : Int) (w : World) (h : t < 1 ∨ 8 < t) : Calls Tryd.prog 34 #[.int .i64 n, .int .i64 t] w fun e w' => e = .returned (LE no5 2) ∧ Below w.heap.size w w' := by
  have X0 := Lib.hid (Box.new w 25 #[.int .i64 0, .int .i64 0, .int .i64 0, .int .i64 0, .int .i64 0])
  by_cases h1 : t < 1
  · go_enter Tryd.func34, Tryd.ntmps34
    go_wp2
    obtain ⟨z0, z1, z2, z3, z4⟩ := X0.out.cell5
    exact bodyPost_ret (v := .tuple #[.agg #[.int .i64 0, .int .i64 0, .int .i64 0, .int .i64 0, .int .i64 0], .int .i64 2]) (by simp [results, Tryd.results34, go_sem, z0, z1, z2, z3, z4]) rfl ⟨rfl, (Below.refl _ _).alloc (Nat.le_refl _) _⟩
  · have h2 : 8 < t := by omega
    go_enter Tryd.func34, Tryd.ntmps34
    go_wp2
    obtain ⟨z0, z1, z2, z3, z4⟩ := X0.out.cell5
    exact bodyPost_ret (v := .tuple #[.agg #[.int .i64 0, .int .i64 0, .int .i64 0, .int .i64 0, .int .i64 0], .int .i64 2]) (by simp [results, Tryd.results34, go_sem, z0, z1, z2, z3, z4]) rfl ⟨rfl, (Below.refl _ _).alloc (Nat.le_refl _) _⟩
set_option maxRecDepth 100000 in
set_option maxHeartbeats 4000000 in
theorem rnumbered_out (n : Int) (t : Nat) (w : World) (h1 : 1 ≤ t) (h2 : t ≤ 8) (h : n < 0 ∨ cnt t 4 ≤ n) : Calls Tryd.prog 34 #[.int .i64 n, .int .i64 t] w fun e w' => e = .returned (LE no5 2) ∧ Below w.heap.size w w' := by
  have t1 : ¬ (t : Int) < 1 := by omega
  have t2 : ¬ 8 < (t : Int) := by omega
  obtain ⟨L, hL⟩ : ∃ L, allL t 4 [] = L := ⟨_, rfl⟩
  have hln : (L.length : Int) = cnt t 4 := by rw [← hL]; exact allL_len t 4 []
  have hlen : Hid (L.length ≤ 5000) := Lib.hid (by
    have e2 := (cnt_le t (by omega) (by omega) 4 (by omega)).2
    omega)
  have HL := Lib.hid hL
  have X0 := Lib.hid (Box.new w 25 #[.int .i64 0, .int .i64 0, .int .i64 0, .int .i64 0, .int .i64 0])
  have hns : n < 0 ∨ (¬ n < 0 ∧ (L.length : Int) ≤ n) := by omega
  clear hL hln h
  rcases hns with h3 | ⟨h3, h4⟩
  all_goals
    go_enter Tryd.func34, Tryd.ntmps34
    go_wp2_with (go_at_call 60; refine (rall_any t 4 (by omega) h2 4 [] (by simp) 0 0 0 0 0 rfl _ L HL hlen.out).mono ?_; rintro e w2 ⟨aa, cp, rfl, hR, hB⟩; have B2 := Lib.hid (below_on ((Below.refl w.heap.size w).alloc (Nat.le_refl _) (.cells #[.int .i64 0, .int .i64 0, .int .i64 0, .int .i64 0, .int .i64 0] 25)) (Nat.le_refl _) hB); have X2 := Lib.hid (X0.out.below hB); clear hR hB; obtain ⟨g0, g1, g2, g3, g4⟩ := X2.out.free5; obtain ⟨v0, v1, v2, v3, v4⟩ := X2.out.cell5)
    obtain ⟨z0, z1, z2, z3, z4⟩ := (X2.out.put5 (.int .i64 0) (.int .i64 0) (.int .i64 0) (.int .i64 0) (.int .i64 0)).cell5
    exact bodyPost_ret (v := .tuple #[.agg #[.int .i64 0, .int .i64 0, .int .i64 0, .int .i64 0, .int .i64 0], .int .i64 2]) (by simp [results, Tryd.results34, go_sem, z0, z1, z2, z3, z4]) rfl ⟨rfl, below_put5 B2.out (Nat.le_refl _) _ _ _ _ _⟩
set_option maxRecDepth 100000 in
set_option maxHeartbeats 4000000 in
theorem rnumbered_ok (n t : Nat) (w : World) (h1 : 1 ≤ t) (h2 : t ≤ 8) (h : (n : Int) < cnt t 4) (y0 y1 y2 y3 y4 : Int) (HY : Hid (pad5 (decL t 4 n) = (y0, y1, y2, y3, y4))) : Calls Tryd.prog 34 #[.int .i64 n, .int .i64 t] w fun e w' => e = .returned (LE (y0, y1, y2, y3, y4) 0) ∧ Below w.heap.size w w' := by
  have t1 : ¬ (t : Int) < 1 := by omega
  have t2 : ¬ 8 < (t : Int) := by omega
  obtain ⟨L, hL⟩ : ∃ L, allL t 4 [] = L := ⟨_, rfl⟩
  have hln : (L.length : Int) = cnt t 4 := by rw [← hL]; exact allL_len t 4 []
  have hlen : Hid (L.length ≤ 5000) := Lib.hid (by
    have e2 := (cnt_le t (by omega) (by omega) 4 (by omega)).2
    omega)
  have hnl : n < L.length := by omega
  have hdec := allL_dec t h1 4 n (by rw [hL]; exact hnl)
  rw [hL] at hdec
  have HD := Lib.hid hdec
  have HL := Lib.hid hL
  have X0 := Lib.hid (Box.new w 25 #[.int .i64 0, .int .i64 0, .int .i64 0, .int .i64 0, .int .i64 0])
  have h3 : ¬ (n : Int) < 0 := by omega
  have h4 : ¬ (L.length : Int) ≤ n := by omega
  have hl5 : L.length ≤ 5000 := hlen.out
  have HLen : Hid ((L.map pad5).length = L.length) := Lib.hid (List.length_map _)
  clear hL hln h hdec
  go_enter Tryd.func34, Tryd.ntmps34
  go_wp2_with (go_at_call 60; refine (rall_any t 4 (by omega) h2 4 [] (by simp) 0 0 0 0 0 rfl _ L HL hlen.out).mono ?_; rintro e w2 ⟨aa, cp, rfl, hR, hB⟩; have B2 := Lib.hid (below_on ((Below.refl w.heap.size w).alloc (Nat.le_refl _) (.cells #[.int .i64 0, .int .i64 0, .int .i64 0, .int .i64 0, .int .i64 0] 25)) (Nat.le_refl _) hB); have X2 := Lib.hid (X0.out.below hB); clear hB; obtain ⟨g0, g1, g2, g3, g4⟩ := X2.out.free5; obtain ⟨v0, v1, v2, v3, v4⟩ := X2.out.cell5; obtain ⟨b0, o0, rfl, _, _⟩ := hR n (by rw [HLen.out]; exact hnl); obtain ⟨d0, d1, d2, d3, d4⟩ := at5_of hR n (by rw [HLen.out]; exact hnl) (x := (y0, y1, y2, y3, y4)) (by rw [List.getElem?_map, HD.out, ← HY.out]; rfl); simp only at d0 d1 d2 d3 d4; clear hR)
  obtain ⟨z0, z1, z2, z3, z4⟩ := (X2.out.put5 (.int .i64 y0) (.int .i64 y1) (.int .i64 y2) (.int .i64 y3) (.int .i64 y4)).cell5
  exact bodyPost_ret (v := .tuple #[.agg #[.int .i64 y0, .int .i64 y1, .int .i64 y2, .int .i64 y3, .int .i64 y4], .int .i64 0]) (by simp [results, Tryd.results34, go_sem, z0, z1, z2, z3, z4]) rfl ⟨rfl, below_put5 B2.out (Nat.le_refl _) _ _ _ _ _⟩
theorem rnumbered_any (n t : Int) (w : World) (y : V5) (r : Int) (H : Hid (decE n t = (y, r))) : Calls Tryd.prog 34 #[.int .i64 n, .int .i64 t] w fun e w' => e = .returned (LE y r) ∧ Below w.heap.size w w' := by
  have h := H.out
  unfold decE at h
  by_cases ht : t < 1 ∨ 8 < t
  · rw [if_pos ht] at h; cases h
    exact rnumbered_terms n t w ht
  · obtain ⟨T, hT⟩ : ∃ T : Nat, t = T := ⟨t.toNat, by omega⟩
    subst hT
    rw [if_neg ht] at h
    by_cases hn : n < 0
    · rw [if_pos hn] at h; cases h
      exact rnumbered_out n T w (by omega) (by omega) (.inl hn)
    · rw [if_neg hn] at h
      by_cases hc : cnt T 4 ≤ n
      · rw [if_pos hc] at h; cases h
        exact rnumbered_out n T w (by omega) (by omega) (.inr hc)
      · rw [if_neg hc] at h; cases h
        obtain ⟨M, hM⟩ : ∃ M : Nat, n = M := ⟨n.toNat, by omega⟩
        subst hM
        exact rnumbered_ok M T w (by omega) (by omega) (by omega) _ _ _ _ _ (Lib.hid rfl)
end Go.Proofs.YtddackdghphcnaaDoor.s13

namespace Go.Proofs.YtddackdghphcnaaDoor.s13
set_option linter.unusedVariables false
set_option linter.unusedSimpArgs false
open Go.RowKit
open kit

set_option maxRecDepth 100000 in
set_option maxHeartbeats 2000000 in
theorem rparse_dash (w : World) : Calls Tryd.prog 30 #[.string ⟨#[45]⟩] w fun e w' => e = .returned (LE no5 0) ∧ Below w.heap.size w w' := by
  go_enter Tryd.func30, Tryd.ntmps30
  go_wp2
  exact bodyPost_ret (v := .tuple #[.agg #[.int .i64 0, .int .i64 0, .int .i64 0, .int .i64 0, .int .i64 0], .int .i64 0]) (by simp [results, Tryd.results30, go_sem]) rfl ⟨rfl, (Below.refl _ _).alloc (Nat.le_refl _) _⟩
set_option maxRecDepth 100000 in
set_option maxHeartbeats 2000000 in
theorem rparse_even (s : ByteArray) (w : World) (hs : s.size ≤ 9223372036854775807) (hd : (s.toList == [45]) = false) (hn : s.size % 2 = 0) : Calls Tryd.prog 30 #[.string s] w fun e w' => e = .returned (LE no5 3) ∧ Below w.heap.size w w' := by
  have h2 : (s.size : Int) % 2 = 0 := by omega
  clear hn
  go_enter Tryd.func30, Tryd.ntmps30
  go_wp2
  exact bodyPost_ret (v := .tuple #[.agg #[.int .i64 0, .int .i64 0, .int .i64 0, .int .i64 0, .int .i64 0], .int .i64 3]) (by simp [results, Tryd.results30, go_sem]) rfl ⟨rfl, (Below.refl _ _).alloc (Nat.le_refl _) _⟩
set_option maxRecDepth 100000 in
set_option maxHeartbeats 4000000 in
theorem rparse_odd (s : ByteArray) (w : World) (hs : s.size ≤ 1000) (hd : (s.toList == [45]) = false) (hn : s.size % 2 = 1) (y : V5) (r : Int) (HN : Hid (isDg s = false → (y, r) = (no5, 3))) (HY : Hid (isDg s = true → ofP (vals s) = (y, r))) : Calls Tryd.prog 30 #[.string s] w fun e w' => e = .returned (LE y r) ∧ Below w.heap.size w w' := by
  have h2 : (s.size : Int) % 2 = 1 := by omega
  obtain ⟨y0, y1, y2, y3, y4⟩ := y
  have hodd := Lib.hid hn
  have X0 := Lib.hid (Box.new w 25 #[.int .i64 0, .int .i64 0, .int .i64 0, .int .i64 0, .int .i64 0])
  have B0 := Lib.hid ((Below.refl w.heap.size w).alloc (Nat.le_refl _) (.cells #[.int .i64 0, .int .i64 0, .int .i64 0, .int .i64 0, .int .i64 0] 25))
  clear hn
  go_enter Tryd.func30, Tryd.ntmps30
  go_wp2
  generalize w.alloc (.cells #[.int .i64 0, .int .i64 0, .int .i64 0, .int .i64 0, .int .i64 0] 25) = W at X0 B0 ⊢
  go_loop [4] (fun i => ∃ k : Nat, i = .int .i64 k ∧ k ≤ s.size ∧ Hid (∀ j, j < k → fitZ j (byt s j) = true)) (fun i => s.size - (intOf i).toNat)
  case atStart => exact ⟨0, rfl, by omega, Lib.hid (fun j hj => by omega)⟩
  case round =>
    obtain ⟨k, rfl, hk, HK⟩ := hrel
    by_cases hlt : k < s.size
    · have hb := byt_get hlt
      have hr := byt_range s k
      have hno := isDg_no (s := s) k hlt
      have hs2 := (fun h : fitZ k (byt s k) = true => (fun j (hj : j < k + 1) => if e : j = k then e ▸ h else HK.out j (by omega) : ∀ j, j < k + 1 → fitZ j (byt s j) = true))
      have hfe := fun h => fit_even (i := k) h (byt s k)
      have hfo := fun h => fit_odd (i := k) h (byt s k)
      rw [← hb] at hr hno hs2 hfe hfo
      obtain ⟨z0, z1⟩ := hr
      have HNO := Lib.hid hno
      have HS2 := Lib.hid hs2
      have HFE := Lib.hid hfe
      have HFO := Lib.hid hfo
      clear hb hno hs2 hfe hfo
      by_cases hp : k % 2 = 0
      · have hp2 : (k : Int) % 2 = 0 := by omega
        have HP := Lib.hid hp
        clear hp
        by_cases hz : (s[k].toNat : Int) < 48
        · have hN := Lib.hid (HN.out (HNO.out ((HFE.out HP.out).trans (decide_eq_false (by omega)))))
          obtain ⟨v0, v1, v2, v3, v4⟩ := X0.out.cell5
          obtain ⟨g0, g1, g2, g3, g4⟩ := X0.out.free5
          go_wp2
          obtain ⟨z0, z1, z2, z3, z4⟩ := (X0.out.put5 (.int .i64 0) (.int .i64 0) (.int .i64 0) (.int .i64 0) (.int .i64 0)).cell5
          refine bodyPost_ret (v := .tuple #[.agg #[.int .i64 0, .int .i64 0, .int .i64 0, .int .i64 0, .int .i64 0], .int .i64 3]) (by simp [results, Tryd.results30, go_sem, z0, z1, z2, z3, z4]) rfl ⟨?_, below_put5 B0.out (by omega) _ _ _ _ _⟩
          have e := hN.out
          simp only [no5, Prod.mk.injEq] at e
          obtain ⟨⟨rfl, rfl, rfl, rfl, rfl⟩, rfl⟩ := e
          rfl
        · have hz2 : decide ((s[k].toNat : Int) < 48) = false := decide_eq_false hz
          by_cases hz3 : 57 < (s[k].toNat : Int)
          · have hN := Lib.hid (HN.out (HNO.out ((HFE.out HP.out).trans (decide_eq_false (by omega)))))
            clear hz
            obtain ⟨v0, v1, v2, v3, v4⟩ := X0.out.cell5
            obtain ⟨g0, g1, g2, g3, g4⟩ := X0.out.free5
            go_wp2
            obtain ⟨z0, z1, z2, z3, z4⟩ := (X0.out.put5 (.int .i64 0) (.int .i64 0) (.int .i64 0) (.int .i64 0) (.int .i64 0)).cell5
            refine bodyPost_ret (v := .tuple #[.agg #[.int .i64 0, .int .i64 0, .int .i64 0, .int .i64 0, .int .i64 0], .int .i64 3]) (by simp [results, Tryd.results30, go_sem, z0, z1, z2, z3, z4]) rfl ⟨?_, below_put5 B0.out (by omega) _ _ _ _ _⟩
            have e := hN.out
            simp only [no5, Prod.mk.injEq] at e
            obtain ⟨⟨rfl, rfl, rfl, rfl, rfl⟩, rfl⟩ := e
            rfl
          · have hz4 : decide (57 < (s[k].toNat : Int)) = false := decide_eq_false hz3
            have hS := Lib.hid (HS2.out ((HFE.out HP.out).trans (decide_eq_true (by omega))))
            clear hz hz3
            go_wp2
            go_round
            case rel => exact ⟨k + 1, by go_num, by omega, hS⟩
            case measure => simp [intOf]; omega
      · have hp2 : (k : Int) % 2 = 1 := by omega
        have HP := Lib.hid (show k % 2 = 1 by omega)
        clear hp
        by_cases hz : (s[k].toNat : Int) = 32
        · have hS := Lib.hid (HS2.out ((HFO.out HP.out).trans (decide_eq_true hz)))
          have hz2 : ((s[k].toNat : Int) != 32) = false := by simpa using hz
          clear hz
          go_wp2
          go_round
          case rel => exact ⟨k + 1, by go_num, by omega, hS⟩
          case measure => simp [intOf]; omega
        · have hN := Lib.hid (HN.out (HNO.out ((HFO.out HP.out).trans (decide_eq_false hz))))
          have hz2 : ((s[k].toNat : Int) != 32) = true := by simpa using hz
          clear hz
          obtain ⟨v0, v1, v2, v3, v4⟩ := X0.out.cell5
          obtain ⟨g0, g1, g2, g3, g4⟩ := X0.out.free5
          go_wp2
          obtain ⟨z0, z1, z2, z3, z4⟩ := (X0.out.put5 (.int .i64 0) (.int .i64 0) (.int .i64 0) (.int .i64 0) (.int .i64 0)).cell5
          refine bodyPost_ret (v := .tuple #[.agg #[.int .i64 0, .int .i64 0, .int .i64 0, .int .i64 0, .int .i64 0], .int .i64 3]) (by simp [results, Tryd.results30, go_sem, z0, z1, z2, z3, z4]) rfl ⟨?_, below_put5 B0.out (by omega) _ _ _ _ _⟩
          have e := hN.out
          simp only [no5, Prod.mk.injEq] at e
          obtain ⟨⟨rfl, rfl, rfl, rfl, rfl⟩, rfl⟩ := e
          rfl
    · obtain rfl : k = s.size := by omega
      have hE := isDg_len HK.out
      rw [decide_eq_true hodd.out] at hE
      have hO := HY.out hE
      have HD := Lib.hid hE
      clear hE
      by_cases hfull : 4 < (vals s).length
      · have hq : 4 < (s.size : Int) / 2 + 1 := by rw [vals_len] at hfull; omega
        unfold ofP at hO
        rw [if_pos hfull] at hO
        have hN := Lib.hid hO
        clear hO hfull
        obtain ⟨v0, v1, v2, v3, v4⟩ := X0.out.cell5
        obtain ⟨g0, g1, g2, g3, g4⟩ := X0.out.free5
        go_wp2
        obtain ⟨z0, z1, z2, z3, z4⟩ := (X0.out.put5 (.int .i64 0) (.int .i64 0) (.int .i64 0) (.int .i64 0) (.int .i64 0)).cell5
        refine bodyPost_ret (v := .tuple #[.agg #[.int .i64 0, .int .i64 0, .int .i64 0, .int .i64 0, .int .i64 0], .int .i64 6]) (by simp [results, Tryd.results30, go_sem, z0, z1, z2, z3, z4]) rfl ⟨?_, below_put5 B0.out (by omega) _ _ _ _ _⟩
        have e := hN.out
        simp only [no5, Prod.mk.injEq] at e
        obtain ⟨⟨rfl, rfl, rfl, rfl, rfl⟩, rfl⟩ := e
        rfl
      · have hq : ¬ 4 < (s.size : Int) / 2 + 1 := by rw [vals_len] at hfull; omega
        have HO := Lib.hid hO
        clear hO hfull
        go_wp2
        go_loopw [5, 6] (fun v i wr => ∃ j q : Nat, i = .int .i64 q ∧ Hid (q = 2 * j) ∧ q ≤ s.size + 1 ∧ Hid (wr.ownsRow (w.heap.size + 1) 3 1 v j (((vals s).take j).map (Value.int .i64))) ∧ Hid (Box wr 25 w.heap.size #[.int .i64 0, .int .i64 0, .int .i64 0, .int .i64 0, .int .i64 0]) ∧ Hid (Below w.heap.size w wr)) (fun _ i _ => s.size + 2 - (intOf i).toNat)
        case atStart => exact ⟨0, 0, rfl, Lib.hid rfl, by omega, Lib.hid (World.ownsRow_nil _ _ _ _), X0, B0⟩
        case round =>
          obtain ⟨j, q, rfl, HQ, hq2, HRow, HX, HB⟩ := hrel
          by_cases hlt : q < s.size
          · have hXlt := HX.out.lt
            have hb := byt_get hlt
            have hft := (isDg_yes HD.out).2 q hlt
            rw [fit_even (by have := HQ.out; omega)] at hft
            have hrg := of_decide_eq_true hft
            have hsn := vals_take s j (by have := HQ.out; omega)
            rw [← HQ.out, ← hb] at hsn
            rw [← hb] at hrg
            obtain ⟨z0, z1⟩ := hrg
            have HSN := Lib.hid hsn
            have hq3 : q + 2 ≤ s.size + 1 := by have := HQ.out; have := hodd.out; omega
            clear hft hsn hb
            go_wp2_with (at_builtin; refine append_in Tryd.underlying22 info3 rfl (by omega) rfl (.tmp 60) (.tmp 66) rfl (w.heap.size + 1) _ j _ rfl (row_alloc HRow.out _) (some ⟨wr.heap.size, 0, none⟩) [.int .i64 ((s[q].toNat : Int) - 48)] 1 1 rfl rfl (src_one wr _ _) (by simp [Value.oneCell']) (by have := HQ.out; omega) (by simp; omega) ?_; intro v1 wA hv1 hBA; have R1 := Lib.hid hv1; have XA := Lib.hid ((HX.out.alloc (.cells #[.int .i64 ((s[q].toNat : Int) - 48)] 3)).under (by omega) hBA); have BA := Lib.hid ((HB.out.alloc HB.out.size (.cells #[.int .i64 ((s[q].toNat : Int) - 48)] 3)).trans (hBA.mono (by omega))); clear hv1 hBA)
            go_roundw
            case rel => exact ⟨j + 1, q + 2, by go_num, Lib.hid (by have := HQ.out; omega), by omega, Lib.hid (by rw [HSN.out, List.map_append]; exact R1.out), XA, BA⟩
            case measure => simp [intOf]; omega
          · have hj : j = (vals s).length := by rw [vals_len]; have := HQ.out; have := hodd.out; omega
            have hrow := HRow.out
            rw [hj, List.take_length] at hrow
            obtain ⟨a1, c1, rfl⟩ := row_shape HRow.out
            rw [← hj] at hrow
            have hR : ReadsI wr a1 (vals s) := reads_of_row hj.symm hrow
            have HO2 := Lib.hid (rof_any a1 c1 (vals s) wr (by rw [vals_len]; omega) hR (y0, y1, y2, y3, y4) r HO)
            rw [← hj] at HO2
            clear hrow hR hj
            go_wp2_with (go_at_call 13; refine (HO2.out).mono ?_; rintro e w3 ⟨rfl, hB⟩; have B3 := Lib.hid (below_then HB.out hB); have X3 := Lib.hid (HX.out.below hB); clear hB; obtain ⟨v0, v1, v2, v3, v4⟩ := X3.out.cell5; obtain ⟨g0, g1, g2, g3, g4⟩ := X3.out.free5)
            obtain ⟨z0, z1, z2, z3, z4⟩ := (X3.out.put5 (.int .i64 y0) (.int .i64 y1) (.int .i64 y2) (.int .i64 y3) (.int .i64 y4)).cell5
            exact bodyPost_ret (v := .tuple #[.agg #[.int .i64 y0, .int .i64 y1, .int .i64 y2, .int .i64 y3, .int .i64 y4], .int .i64 r]) (by simp [results, Tryd.results30, go_sem, z0, z1, z2, z3, z4]) rfl ⟨rfl, below_put5 B3.out (by omega) _ _ _ _ _⟩
theorem rparse_any (s : ByteArray) (w : World) (hs : s.size ≤ 1000) (y : V5) (r : Int) (H : Hid (parseE s = (y, r))) : Calls Tryd.prog 30 #[.string s] w fun e w' => e = .returned (LE y r) ∧ Below w.heap.size w w' := by
  have h := H.out
  unfold parseE at h
  by_cases h1 : s = ⟨#[45]⟩
  · rw [if_pos h1] at h; cases h; subst h1
    exact rparse_dash w
  · rw [if_neg h1] at h
    by_cases h3 : s.size % 2 = 0
    · have h2 : isDg s = false := by
        unfold isDg
        refine decide_eq_false fun ⟨h4, _⟩ => by omega
      rw [if_pos h2] at h; cases h
      exact rparse_even s w (by omega) (str_ne h1) h3
    · refine rparse_odd s w hs (str_ne h1) (by omega) y r (Lib.hid fun h2 => ?_) (Lib.hid fun h2 => ?_)
      · rw [if_pos h2] at h; exact h.symm
      · rw [if_neg (by rw [h2]; decide)] at h; exact h
end Go.Proofs.YtddackdghphcnaaDoor.s13
