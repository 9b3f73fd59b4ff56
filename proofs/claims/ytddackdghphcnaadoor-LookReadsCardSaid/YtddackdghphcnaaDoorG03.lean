/-
  Layer 13: the reference's Check, both. Layer 13: the program's Of. Layer 13: the program's Cut and List. stenotypekit over lists of numbers: OwnInts, SameInts. Layer 13: the reference's Of and List. Layer 13: the program's List (slices.Clone). Layer 13: the program's Join. Layer 13: what the functions say, of looks by their cells.
-/
import Derived.Test.YtddackdghphcnaaDoorG02
import Derived.Test.YtddackdghphcnaaDoorG01
import Derived.BigRegion
namespace Go.Proofs.YtddackdghphcnaaDoor.s13
set_option linter.unusedVariables false
set_option linter.unusedSimpArgs false
open Go.RowKit
open kit

theorem chkP_form {N : Nat} {a b c d t : Int} (t1 : 1 ≤ t) (t2 : t ≤ 8) (hN : N ≤ 4) (i : Nat) (h1 : N ≤ i) (h2 : i < 4) (h : pl a b c d i ≠ 0) : chkP N a b c d t = 3 := by
  unfold chkP
  rw [if_neg (by omega), if_neg (by omega)]
  refine if_pos ?_
  have hm : i = 0 ∨ i = 1 ∨ i = 2 ∨ i = 3 := by omega
  rcases hm with rfl | rfl | rfl | rfl
  · exact .inl ⟨by omega, h⟩
  · exact .inr (.inl ⟨by omega, h⟩)
  · exact .inr (.inr (.inl ⟨by omega, h⟩))
  · exact .inr (.inr (.inr ⟨by omega, h⟩))
theorem pl_zero {N : Nat} {a b c d : Int} (h : ∀ i, N ≤ i → i < 4 → pl a b c d i = 0) : (N ≤ 0 → a = 0) ∧ (N ≤ 1 → b = 0) ∧ (N ≤ 2 → c = 0) ∧ (N ≤ 3 → d = 0) :=
  ⟨fun k => h 0 k (by omega), fun k => h 1 k (by omega), fun k => h 2 k (by omega), fun k => h 3 k (by omega)⟩
theorem chkP_sym {N : Nat} {a b c d t : Int} (t1 : 1 ≤ t) (t2 : t ≤ 8) (hN : N ≤ 4) (hz : ∀ i, N ≤ i → i < 4 → pl a b c d i = 0) (i : Nat) (h1 : i < N) (h : pl a b c d i < 0 ∨ t ≤ pl a b c d i) : chkP N a b c d t = 14 := by
  obtain ⟨z0, z1, z2, z3⟩ := pl_zero hz
  unfold chkP
  rw [if_neg (by omega), if_neg (by omega), if_neg (by omega)]
  refine if_pos ?_
  have hm : i = 0 ∨ i = 1 ∨ i = 2 ∨ i = 3 := by omega
  rcases hm with rfl | rfl | rfl | rfl
  · exact .inl ⟨by omega, h⟩
  · exact .inr (.inl ⟨by omega, h⟩)
  · exact .inr (.inr (.inl ⟨by omega, h⟩))
  · exact .inr (.inr (.inr ⟨by omega, h⟩))
theorem chkP_fine {N : Nat} {a b c d t : Int} (t1 : 1 ≤ t) (t2 : t ≤ 8) (hN : N ≤ 4) (hz : ∀ i, N ≤ i → i < 4 → pl a b c d i = 0) (h : ∀ i, i < N → 0 ≤ pl a b c d i ∧ pl a b c d i < t) : chkP N a b c d t = 0 := by
  obtain ⟨z0, z1, z2, z3⟩ := pl_zero hz
  obtain ⟨k1, k2, k3, k4⟩ := pl_lt h
  unfold chkP
  rw [if_neg (by omega), if_neg (by omega), if_neg (by omega), if_neg (by omega)]
set_option maxRecDepth 100000 in
set_option maxHeartbeats 2000000 in
theorem rcheck_any (n a b c d t r : Int) (w : World) (H : Hid (chkP n a b c d t = r)) : Calls Tryd.prog 19 #[.agg #[.int .i64 n, .int .i64 a, .int .i64 b, .int .i64 c, .int .i64 d], .int .i64 t] w fun e w' => e = .returned (.int .i64 r) ∧ Below w.heap.size w w' := by
  have h := H.out
  unfold chkP at h
  have B := Lib.hid ((Below.refl w.heap.size w).alloc (Nat.le_refl _) (.cells #[.int .i64 n, .int .i64 a, .int .i64 b, .int .i64 c, .int .i64 d] 25))
  by_cases ht : t < 1 ∨ 8 < t
  · rw [if_pos ht] at h; subst h
    by_cases h1 : t < 1
    · clear ht
      go_enter Tryd.func19, Tryd.ntmps19
      go_wp2
      go_ret
      exact ⟨rfl, B.out⟩
    · have h2 : 8 < t := by omega
      have h3 : decide (t < 1) = false := decide_eq_false h1
      clear ht h1
      go_enter Tryd.func19, Tryd.ntmps19
      go_wp2
      go_ret
      exact ⟨rfl, B.out⟩
  · rw [if_neg ht] at h
    have t1 : 1 ≤ t := by omega
    have t2 : t ≤ 8 := by omega
    have t3 : decide (t < 1) = false := decide_eq_false (by omega)
    have t4 : decide (8 < t) = false := decide_eq_false (by omega)
    clear ht
    by_cases hn : n < 0 ∨ 4 < n
    · rw [if_pos hn] at h; subst h
      by_cases h1 : n < 0
      · clear hn
        go_enter Tryd.func19, Tryd.ntmps19
        go_wp2
        go_ret
        exact ⟨rfl, B.out⟩
      · have h2 : 4 < n := by omega
        have h3 : decide (n < 0) = false := decide_eq_false h1
        clear hn h1
        go_enter Tryd.func19, Tryd.ntmps19
        go_wp2
        go_ret
        exact ⟨rfl, B.out⟩
    · rw [if_neg hn] at h
      obtain ⟨N, rfl⟩ : ∃ N : Nat, n = N := ⟨n.toNat, by omega⟩
      have hN : N ≤ 4 := by omega
      have n1 : (0 : Int) ≤ N := by omega
      have n2 : (N : Int) ≤ 4 := by omega
      have n3 : decide ((N : Int) < 0) = false := decide_eq_false (by omega)
      have n4 : decide (4 < (N : Int)) = false := decide_eq_false (by omega)
      clear hn
      have X := Box.new w 25 #[.int .i64 N, .int .i64 a, .int .i64 b, .int .i64 c, .int .i64 d]
      have YP := Lib.hid X.place
      clear h
      generalize hW : w.alloc (.cells #[.int .i64 N, .int .i64 a, .int .i64 b, .int .i64 c, .int .i64 d] 25) = W at X YP B
      have HW := Lib.hid hW
      have HX := Lib.hid X
      clear X hW
      go_enter Tryd.func19, Tryd.ntmps19
      go_wp2
      rw [HW.out]
      clear HW
      have c0 := HX.out.cell 0
      simp at c0
      go_loop [5] (fun i => ∃ k : Nat, i = .int .i64 k ∧ N ≤ k ∧ k ≤ 4 ∧ Hid (∀ j, N ≤ j → j < k → pl a b c d j = 0)) (fun i => 4 - (intOf i).toNat)
      case atStart => exact ⟨N, rfl, by omega, hN, Lib.hid (fun j h1 h2 => by omega)⟩
      case round =>
        obtain ⟨k, rfl, hk1, hk2, HK⟩ := hrel
        by_cases hlt : k < 4
        · have hc := YP.out k hlt
          have hf := Lib.hid (fun h => chkP_form (a := a) (b := b) (c := c) (d := d) t1 t2 hN k hk1 hlt h)
          have hs := Lib.hid (fun h : pl a b c d k = 0 => (fun j (h1 : N ≤ j) (h2 : j < k + 1) => if e : j = k then e ▸ h else HK.out j h1 (by omega) : ∀ j, N ≤ j → j < k + 1 → pl a b c d j = 0))
          generalize pl a b c d k = x at hc hf hs
          by_cases hx : x = 0
          · have HXX := Lib.hid (hs.out hx)
            subst hx
            go_wp2
            go_round
            case rel => exact ⟨k + 1, by go_num, by omega, by omega, HXX⟩
            case measure => simp [intOf]; omega
          · have HF := Lib.hid ((H.out.symm.trans (hf.out hx)).symm)
            have hx2 : (x != 0) = true := by simpa using hx
            clear hx
            go_wp2
            go_ret
            exact ⟨ret_int HF.out, B.out⟩
        · obtain rfl : k = 4 := by omega
          have HZ : Hid (∀ j, N ≤ j → j < 4 → pl a b c d j = 0) := HK
          clear HK hlt
          go_wp2
          go_loop [6] (fun i => ∃ k : Nat, i = .int .i64 k ∧ k ≤ N ∧ Hid (∀ j, j < k → 0 ≤ pl a b c d j ∧ pl a b c d j < t)) (fun i => N - (intOf i).toNat)
          case atStart => exact ⟨0, rfl, by omega, Lib.hid (fun j hj => by omega)⟩
          case round =>
            obtain ⟨k, rfl, hk, HK⟩ := hrel
            by_cases hlt : k < N
            · have hk4 : k < 4 := by omega
              have hc := YP.out k hk4
              have hbk := Lib.hid (fun h => H.out.symm.trans (chkP_sym (a := a) (b := b) (c := c) (d := d) t1 t2 hN HZ.out k hlt h))
              have hs := Lib.hid (fun h : 0 ≤ pl a b c d k ∧ pl a b c d k < t => (fun j (hj : j < k + 1) => if e : j = k then e ▸ h else HK.out j (by omega) : ∀ j, j < k + 1 → 0 ≤ pl a b c d j ∧ pl a b c d j < t))
              generalize pl a b c d k = x at hc hbk hs
              by_cases hx : x < 0
              · go_wp2
                go_ret
                exact ⟨ret_int (hbk.out (.inl hx)).symm, B.out⟩
              · have hx0 : decide (x < 0) = false := decide_eq_false hx
                have hxx : 0 ≤ x := by omega
                clear hx
                by_cases hx : t ≤ x
                · go_wp2
                  go_ret
                  exact ⟨ret_int (hbk.out (.inr hx)).symm, B.out⟩
                · have hx1 : x < t := by omega
                  have hx2 : decide (t ≤ x) = false := decide_eq_false hx
                  clear hx
                  go_wp2
                  go_round
                  case rel => exact ⟨k + 1, by go_num, by omega, Lib.hid (hs.out ⟨hxx, hx1⟩)⟩
                  case measure => simp [intOf]; omega
            · obtain rfl : k = N := by omega
              have HF := Lib.hid ((H.out.symm.trans (chkP_fine t1 t2 hN HZ.out HK.out)).symm)
              go_wp2
              go_ret
              exact ⟨ret_int HF.out, B.out⟩
/-- the error of two looks -/
def bothP (n a b c d n' a' b' c' d' : Int) : Int := if chkP n a b c d 8 = 0 then chkP n' a' b' c' d' 8 else chkP n a b c d 8
set_option maxRecDepth 100000 in
set_option maxHeartbeats 2000000 in
theorem rboth_any (n a b c d n' a' b' c' d' r : Int) (w : World) (H : Hid (bothP n a b c d n' a' b' c' d' = r)) : Calls Tryd.prog 53 #[.agg #[.int .i64 n, .int .i64 a, .int .i64 b, .int .i64 c, .int .i64 d], .agg #[.int .i64 n', .int .i64 a', .int .i64 b', .int .i64 c', .int .i64 d']] w fun e w' => e = .returned (.int .i64 r) ∧ Below w.heap.size w w' := by
  have h := H.out
  unfold bothP at h
  have X := (Box.new w 25 #[.int .i64 n, .int .i64 a, .int .i64 b, .int .i64 c, .int .i64 d]).alloc (.cells #[.int .i64 n', .int .i64 a', .int .i64 b', .int .i64 c', .int .i64 d'] 25)
  have Y := Box.new (w.alloc (.cells #[.int .i64 n, .int .i64 a, .int .i64 b, .int .i64 c, .int .i64 d] 25)) 25 #[.int .i64 n', .int .i64 a', .int .i64 b', .int .i64 c', .int .i64 d']
  rw [show (w.alloc (.cells #[.int .i64 n, .int .i64 a, .int .i64 b, .int .i64 c, .int .i64 d] 25)).heap.size = w.heap.size + 1 from Array.size_push ..] at Y
  have B := Lib.hid (((Below.refl w.heap.size w).alloc (Nat.le_refl _) (.cells #[.int .i64 n, .int .i64 a, .int .i64 b, .int .i64 c, .int .i64 d] 25)).alloc (by simp) (.cells #[.int .i64 n', .int .i64 a', .int .i64 b', .int .i64 c', .int .i64 d'] 25))
  generalize hW : (w.alloc (.cells #[.int .i64 n, .int .i64 a, .int .i64 b, .int .i64 c, .int .i64 d] 25)).alloc (.cells #[.int .i64 n', .int .i64 a', .int .i64 b', .int .i64 c', .int .i64 d'] 25) = W at X Y B
  have HW := Lib.hid hW
  have HY := Lib.hid Y
  obtain ⟨x0, x1, x2, x3, x4⟩ := X.cell5
  clear X Y hW
  by_cases hz : chkP n a b c d 8 = 0
  · rw [if_pos hz] at h
    have HZ := Lib.hid hz
    have HR := Lib.hid h
    clear hz h
    go_enter Tryd.func53, Tryd.ntmps53
    go_wp2_with (first
      | (go_at_call 19; rw [HW.out]; refine (rcheck_any n a b c d 8 0 _ HZ).mono ?_; rintro e w1 ⟨rfl, hB⟩; have B1 := Lib.hid (below_on B.out (Nat.le_refl _) hB); obtain ⟨y0, y1, y2, y3, y4⟩ := (HY.out.below hB).cell5; clear hB HW HZ x0 x1 x2 x3 x4)
      | (go_at_call 19; refine (rcheck_any n' a' b' c' d' 8 r _ HR).mono ?_; rintro e w2 ⟨rfl, hB⟩; have B2 := Lib.hid (below_on B1.out (Nat.le_refl _) hB); clear hB))
    go_ret
    exact ⟨rfl, B2.out⟩
  · rw [if_neg hz] at h
    have HR := Lib.hid h
    have hr0 : (r == 0) = false := by rw [h] at hz; simpa using hz
    clear hz h
    go_enter Tryd.func53, Tryd.ntmps53
    go_wp2_with (go_at_call 19; rw [HW.out]; refine (rcheck_any n a b c d 8 r _ HR).mono ?_; rintro e w1 ⟨rfl, hB⟩; have B1 := Lib.hid (below_on B.out (Nat.le_refl _) hB); clear hB HW x0 x1 x2 x3 x4)
    go_ret
    exact ⟨rfl, B1.out⟩
end Go.Proofs.YtddackdghphcnaaDoor.s13

namespace Go.Proofs.YtddackdghphcnaaDoor.s13
set_option linter.unusedVariables false
set_option linter.unusedSimpArgs false
open Go.RowKit
open kit

/-- what Of says -/
def ofP (l : List Int) : V5 × Int := if 4 < l.length then (no5, 6) else if (∀ x ∈ l, 0 ≤ x ∧ x < 8) then (pad5 l, 0) else (no5, 14)
/-- a result: a look and an error -/
abbrev LE (x : V5) (e : Int) : Value := .tuple #[.agg #[.int .i64 x.1, .int .i64 x.2.1, .int .i64 x.2.2.1, .int .i64 x.2.2.2.1, .int .i64 x.2.2.2.2], .int .i64 e]
set_option maxRecDepth 100000 in
set_option maxHeartbeats 2000000 in
theorem of_full (a : Option Addr) (cp : Nat) (l : List Int) (w : World) (h : 4 < l.length) (h2 : l.length ≤ 9223372036854775807) : Calls Tryd.prog 12 #[.slice a l.length cp] w fun e w' => e = .returned (.tuple #[.agg #[.int .i64 0, .int .i64 0, .int .i64 0, .int .i64 0, .int .i64 0], .int .i64 6]) ∧ Below w.heap.size w w' := by
  have h3 : (4 : Int) < l.length := by omega
  clear h
  go_enter Tryd.func12, Tryd.ntmps12
  go_wp2
  exact bodyPost_ret (v := .tuple #[.agg #[.int .i64 0, .int .i64 0, .int .i64 0, .int .i64 0, .int .i64 0], .int .i64 6]) (by simp [results, Tryd.results12, go_sem]) rfl ⟨rfl, (Below.refl _ _).alloc (Nat.le_refl _) _⟩
theorem chkP_pad {l : List Int} (hl : l.length ≤ 4) : chkP l.length (l[0]?.getD 0) (l[1]?.getD 0) (l[2]?.getD 0) (l[3]?.getD 0) 8 = if (∀ x ∈ l, 0 ≤ x ∧ x < 8) then 0 else 14 := by
  by_cases h : ∀ x ∈ l, 0 ≤ x ∧ x < 8
  · rw [if_pos h]
    exact pad5_chk (l := l) (t := 8) ⟨hl, h⟩ (by omega) (by omega) rfl
  · rw [if_neg h]
    have hex : ∃ i, ∃ hi : i < l.length, ¬ (0 ≤ l[i] ∧ l[i] < 8) := by
      refine Classical.byContradiction fun hno => h fun x hx => ?_
      obtain ⟨i, hi, rfl⟩ := List.mem_iff_getElem.1 hx
      exact Classical.byContradiction fun hc => hno ⟨i, hi, hc⟩
    obtain ⟨i, hi, hbad⟩ := hex
    have hp := fun j => pad5_pl (l := l) hl (n := l.length) (a := l[0]?.getD 0) (b := l[1]?.getD 0) (c := l[2]?.getD 0) (d := l[3]?.getD 0) rfl j
    refine chkP_sym (by omega) (by omega) hl (fun j h1 h2 => ?_) i hi ?_
    · rw [hp j, List.getElem?_eq_none h1]; rfl
    · rw [hp i, List.getElem?_eq_getElem hi]
      simp only [Option.getD_some]
      omega
set_option maxRecDepth 100000 in
set_option maxHeartbeats 2000000 in
theorem of_some (a : Option Addr) (cp : Nat) (l : List Int) (w : World) (h : l.length ≤ 4) (hr : ReadsI w a l) (n0 n1 n2 n3 r : Int) (HP : Hid (pad5 l = ((l.length : Int), n0, n1, n2, n3))) (HR : Hid (chkP l.length n0 n1 n2 n3 8 = r)) (y : V5) (HY : Hid (y = if r = 0 then ((l.length : Int), n0, n1, n2, n3) else no5)) :
    Calls Tryd.prog 12 #[.slice a l.length cp] w fun e w' => e = .returned (LE y r) ∧ Below w.heap.size w w' := by
  obtain ⟨y0, y1, y2, y3, y4⟩ := y
  have h4 : (l.length : Int) ≤ 4 := by omega
  have Y0 : Box (w.alloc (.cells #[.int .i64 0, .int .i64 0, .int .i64 0, .int .i64 0, .int .i64 0] 25)) 25 w.heap.size #[.int .i64 0, .int .i64 0, .int .i64 0, .int .i64 0, .int .i64 0] := Box.new w _ _
  have X0 : Box ((w.alloc (.cells #[.int .i64 0, .int .i64 0, .int .i64 0, .int .i64 0, .int .i64 0] 25)).alloc (.cells #[.int .i64 0, .int .i64 0, .int .i64 0, .int .i64 0, .int .i64 0] 25)) 25 (w.heap.size + 1) #[.int .i64 0, .int .i64 0, .int .i64 0, .int .i64 0, .int .i64 0] := by
    have := Box.new (w.alloc (.cells #[.int .i64 0, .int .i64 0, .int .i64 0, .int .i64 0, .int .i64 0] 25)) 25 #[.int .i64 0, .int .i64 0, .int .i64 0, .int .i64 0, .int .i64 0]
    rwa [show (w.alloc (.cells #[.int .i64 0, .int .i64 0, .int .i64 0, .int .i64 0, .int .i64 0] 25)).heap.size = w.heap.size + 1 from Array.size_push ..] at this
  have B0 : Below w.heap.size w ((w.alloc (.cells #[.int .i64 0, .int .i64 0, .int .i64 0, .int .i64 0, .int .i64 0] 25)).alloc (.cells #[.int .i64 0, .int .i64 0, .int .i64 0, .int .i64 0, .int .i64 0] 25)) := ((Below.refl _ w).alloc (Nat.le_refl _) _).alloc (by simp) _
  obtain ⟨W, hcl, XW, hO, hBW, hsz⟩ := copy_box (f := fun _ => 0) X0 0 4 4 (some ⟨w.heap.size + 1, 1, none⟩) a l.length cp l (Nat.min_eq_left h).symm (by omega) (hr.below B0) (.inr rfl)
  have hp := HP.out
  have hov : ∀ i, i < 4 → over (fun _ => 0) 0 l i = l[i]?.getD 0 := fun i hi => by
    unfold over
    by_cases e : i < l.length
    · rw [if_pos ⟨Nat.zero_le _, by omega⟩, Nat.sub_zero]
    · rw [if_neg (by omega), List.getElem?_eq_none (by omega)]; rfl
  simp only [pad5, Prod.mk.injEq] at hp
  obtain ⟨_, p0, p1, p2, p3⟩ := hp
  rw [hov 0 (by omega), hov 1 (by omega), hov 2 (by omega), hov 3 (by omega), p0, p1, p2, p3] at XW
  have YW := Lib.hid ((hO _ _ _ (by omega) (Y0.alloc (.cells #[.int .i64 0, .int .i64 0, .int .i64 0, .int .i64 0, .int .i64 0] 25))).other (b' := w.heap.size + 1) (i := 0) (by omega) (.int .i64 l.length))
  have BW := Lib.hid ((hBW w.heap.size w (by omega) B0).setCell (p := ⟨w.heap.size + 1, 0, none⟩) (by simp) (.int .i64 l.length))
  obtain ⟨f0, _, _, _, _⟩ := XW.free5
  obtain ⟨u0, u1, u2, u3, u4⟩ := XW.cell5
  have XN := Lib.hid (XW.set 0 (by simp) (.int .i64 l.length))
  clear p0 p1 p2 p3 hov hr Y0 X0 B0 hO hBW XW hsz
  by_cases hz : r = 0
  · subst hz
    have HYY : Hid ((y0, y1, y2, y3, y4) = ((l.length : Int), n0, n1, n2, n3)) := Lib.hid (by rw [HY.out, if_pos rfl])
    go_enter Tryd.func12, Tryd.ntmps12
    go_wp2_with (go_at_call 18; refine (pcheck_any l.length n0 n1 n2 n3 8 0 _ HR).mono ?_; rintro e w1 ⟨rfl, hB⟩; have Y1 := Lib.hid (YW.out.below hB); have X1 := Lib.hid (XN.out.below hB); have B1 := Lib.hid (below_on BW.out (Nat.le_refl _) hB); clear hB; obtain ⟨v0, v1, v2, v3, v4⟩ := Y1.out.cell5; obtain ⟨g0, g1, g2, g3, g4⟩ := Y1.out.free5; obtain ⟨x0, x1, x2, x3, x4⟩ := X1.out.cell5)
    obtain ⟨z0, z1, z2, z3, z4⟩ := (Y1.out.put5 (.int .i64 l.length) (.int .i64 n0) (.int .i64 n1) (.int .i64 n2) (.int .i64 n3)).cell5
    refine bodyPost_ret (v := .tuple #[.agg #[.int .i64 l.length, .int .i64 n0, .int .i64 n1, .int .i64 n2, .int .i64 n3], .int .i64 0]) (by simp [results, Tryd.results12, go_sem, z0, z1, z2, z3, z4]) rfl ⟨?_, below_put5 B1.out (Nat.le_refl _) _ _ _ _ _⟩
    have e := HYY.out
    simp only [Prod.mk.injEq] at e
    obtain ⟨rfl, rfl, rfl, rfl, rfl⟩ := e
    rfl
  · have HYY : Hid ((y0, y1, y2, y3, y4) = no5) := Lib.hid (by rw [HY.out, if_neg hz])
    have hz2 : (r != 0) = true := by simpa using hz
    clear hz HY
    go_enter Tryd.func12, Tryd.ntmps12
    go_wp2_with (go_at_call 18; refine (pcheck_any l.length n0 n1 n2 n3 8 r _ HR).mono ?_; rintro e w1 ⟨rfl, hB⟩; have Y1 := Lib.hid (YW.out.below hB); have X1 := Lib.hid (XN.out.below hB); have B1 := Lib.hid (below_on BW.out (Nat.le_refl _) hB); clear hB; obtain ⟨v0, v1, v2, v3, v4⟩ := Y1.out.cell5; obtain ⟨g0, g1, g2, g3, g4⟩ := Y1.out.free5; obtain ⟨x0, x1, x2, x3, x4⟩ := X1.out.cell5)
    obtain ⟨z0, z1, z2, z3, z4⟩ := (Y1.out.put5 (.int .i64 0) (.int .i64 0) (.int .i64 0) (.int .i64 0) (.int .i64 0)).cell5
    refine bodyPost_ret (v := .tuple #[.agg #[.int .i64 0, .int .i64 0, .int .i64 0, .int .i64 0, .int .i64 0], .int .i64 r]) (by simp [results, Tryd.results12, go_sem, z0, z1, z2, z3, z4]) rfl ⟨?_, below_put5 B1.out (Nat.le_refl _) _ _ _ _ _⟩
    have e := HYY.out
    simp only [no5, Prod.mk.injEq] at e
    obtain ⟨rfl, rfl, rfl, rfl, rfl⟩ := e
    rfl
theorem of_any (a : Option Addr) (cp : Nat) (l : List Int) (w : World) (h2 : l.length ≤ 9223372036854775807) (hr : ReadsI w a l) (y : V5) (r : Int) (H : Hid (ofP l = (y, r))) :
    Calls Tryd.prog 12 #[.slice a l.length cp] w fun e w' => e = .returned (LE y r) ∧ Below w.heap.size w w' := by
  have h := H.out
  unfold ofP at h
  by_cases hl : 4 < l.length
  · rw [if_pos hl] at h; cases h
    exact of_full a cp l w hl h2
  · rw [if_neg hl] at h
    have hl4 : l.length ≤ 4 := by omega
    have hc := chkP_pad hl4
    by_cases hx : ∀ x ∈ l, 0 ≤ x ∧ x < 8
    · rw [if_pos hx] at h hc; cases h
      exact of_some a cp l w hl4 hr _ _ _ _ 0 (Lib.hid rfl) (Lib.hid hc) _ (Lib.hid rfl)
    · rw [if_neg hx] at h hc; cases h
      exact of_some a cp l w hl4 hr _ _ _ _ 14 (Lib.hid rfl) (Lib.hid hc) _ (Lib.hid rfl)
end Go.Proofs.YtddackdghphcnaaDoor.s13

namespace Go.Proofs.YtddackdghphcnaaDoor.s13
set_option linter.unusedVariables false
set_option linter.unusedSimpArgs false
open Go.RowKit
open kit

set_option maxRecDepth 100000 in
set_option maxHeartbeats 2000000 in
theorem pcut_bad (n a b c d k r : Int) (w : World) (HR : Hid (chkP n a b c d 8 = r)) (hr : (r != 0) = true) : Calls Tryd.prog 23 #[.agg #[.int .i64 n, .int .i64 a, .int .i64 b, .int .i64 c, .int .i64 d], .int .i64 k] w fun e w' => e = .returned (LE no5 r) ∧ Below w.heap.size w w' := by
  go_enter Tryd.func23, Tryd.ntmps23
  go_wp2_with (go_at_call 46; refine (checkall_one n a b c d r _ _ (new3 _ _ _ _ _) HR).mono ?_; rintro e w1 ⟨rfl, hB⟩; obtain ⟨X1, Y1, _, hB1⟩ := made3 hB; have B1 := Lib.hid hB1; have Y1 := Lib.hid Y1; clear hB hB1 X1; obtain ⟨v0, v1, v2, v3, v4⟩ := Y1.out.cell5; obtain ⟨g0, g1, g2, g3, g4⟩ := Y1.out.free5)
  obtain ⟨z0, z1, z2, z3, z4⟩ := (Y1.out.put5 (.int .i64 0) (.int .i64 0) (.int .i64 0) (.int .i64 0) (.int .i64 0)).cell5
  exact bodyPost_ret (v := .tuple #[.agg #[.int .i64 0, .int .i64 0, .int .i64 0, .int .i64 0, .int .i64 0], .int .i64 r]) (by simp [results, Tryd.results23, go_sem, z0, z1, z2, z3, z4]) rfl ⟨rfl, below_put5 B1.out (by omega) _ _ _ _ _⟩
set_option maxRecDepth 100000 in
set_option maxHeartbeats 2000000 in
theorem pcut_range (n a b c d k : Int) (w : World) (HR : Hid (chkP n a b c d 8 = 0)) (hk : k < 0 ∨ 4 < k) : Calls Tryd.prog 23 #[.agg #[.int .i64 n, .int .i64 a, .int .i64 b, .int .i64 c, .int .i64 d], .int .i64 k] w fun e w' => e = .returned (LE no5 2) ∧ Below w.heap.size w w' := by
  have HK := Lib.hid hk
  clear hk
  go_enter Tryd.func23, Tryd.ntmps23
  go_wp2_with (first
    | (go_at_call 46; refine (checkall_one n a b c d 0 _ _ (new3 _ _ _ _ _) HR).mono ?_; rintro e w1 ⟨rfl, hB⟩; obtain ⟨X1, Y1, _, hB1⟩ := made3 hB; have B1 := Lib.hid hB1; have Y1 := Lib.hid Y1; clear hB hB1 X1; obtain ⟨v0, v1, v2, v3, v4⟩ := Y1.out.cell5; obtain ⟨g0, g1, g2, g3, g4⟩ := Y1.out.free5)
    | (go_at_call 51; refine (islen_no k _ HK.out).mono ?_; rintro e w2 ⟨rfl, rfl⟩))
  obtain ⟨z0, z1, z2, z3, z4⟩ := (Y1.out.put5 (.int .i64 0) (.int .i64 0) (.int .i64 0) (.int .i64 0) (.int .i64 0)).cell5
  exact bodyPost_ret (v := .tuple #[.agg #[.int .i64 0, .int .i64 0, .int .i64 0, .int .i64 0, .int .i64 0], .int .i64 2]) (by simp [results, Tryd.results23, go_sem, z0, z1, z2, z3, z4]) rfl ⟨rfl, below_put5 B1.out (by omega) _ _ _ _ _⟩
set_option maxRecDepth 100000 in
set_option maxHeartbeats 2000000 in
theorem pcut_ok (N k : Nat) (a b c d : Int) (w : World) (HR : Hid (chkP N a b c d 8 = 0)) (hN : N ≤ 4) (hk : k ≤ 4) (m : Nat) (a' b' c' d' : Int) (H : Hid (cutP N k a b c d = (m, a', b', c', d'))) :
    Calls Tryd.prog 23 #[.agg #[.int .i64 N, .int .i64 a, .int .i64 b, .int .i64 c, .int .i64 d], .int .i64 k] w fun e w' => e = .returned (LE (m, a', b', c', d') 0) ∧ Below w.heap.size w w' := by
  have k1 : (0 : Int) ≤ k := by omega
  have k2 : (k : Int) ≤ 4 := by omega
  go_enter Tryd.func23, Tryd.ntmps23
  go_wp2_with (first
    | (go_at_call 46; refine (checkall_one N a b c d 0 _ _ (new3 _ _ _ _ _) HR).mono ?_; rintro e w1 ⟨rfl, hB⟩; obtain ⟨X1, Y1, _, hB1⟩ := made3 hB; have B1 := Lib.hid hB1; have Y1 := Lib.hid Y1; clear hB hB1; obtain ⟨x0, x1, x2, x3, x4⟩ := X1.cell5; clear X1)
    | (go_at_call 51; refine (islen_yes k _ k1 k2).mono ?_; rintro e w2 ⟨rfl, rfl⟩)
    | (go_at_call 52; refine (cut_any N k a b c d _ (by omega) m a' b' c' d' H).mono ?_; rintro e w3 ⟨rfl, hB⟩; have B3 := Lib.hid (below_on B1.out (Nat.le_refl _) hB); have Y3 := Lib.hid (Y1.out.below hB); clear hB; obtain ⟨v0, v1, v2, v3, v4⟩ := Y3.out.cell5; obtain ⟨g0, g1, g2, g3, g4⟩ := Y3.out.free5))
  obtain ⟨z0, z1, z2, z3, z4⟩ := (Y3.out.put5 (.int .i64 m) (.int .i64 a') (.int .i64 b') (.int .i64 c') (.int .i64 d')).cell5
  exact bodyPost_ret (v := .tuple #[.agg #[.int .i64 m, .int .i64 a', .int .i64 b', .int .i64 c', .int .i64 d'], .int .i64 0]) (by simp [results, Tryd.results23, go_sem, z0, z1, z2, z3, z4]) rfl ⟨rfl, below_put5 B3.out (by omega) _ _ _ _ _⟩
end Go.Proofs.YtddackdghphcnaaDoor.s13

namespace Go.Proofs.YtddackdghphcnaaDoor.kit
set_option linter.unusedVariables false
set_option linter.unusedSimpArgs false
open Go.RowKit

theorem info3 : (Tryd.prog.info? 3).map (fun i => (i.zero, i.size, i.bytes)) = some (some (.int .i64 0), 1, 8) := by kernel_rfl
theorem own_ints (a : Option Addr) (c : Nat) (zs : List Int) (w : World) (hn : zs.length ≤ 100000) (hs : Src w a c (zs.map (Value.int .i64))) :
    Calls Tryd.prog 11 #[.slice a zs.length c] w (OwnOf (Value.int .i64) 0 w zs) := by
  go_enter Tryd.func11, Tryd.ntmps11
  go_wp2_with (at_builtin; refine append_in Tryd.underlying22 info3 rfl (by omega) rfl (.tmp 3) (.tmp 4) rfl w.heap.size _ 0 [] rfl (empty_row 3 w _ (Nat.le_refl _)) a (zs.map (Value.int .i64)) zs.length c rfl (by simp) (hs.alloc _) (by simp [Value.oneCell']) (by omega) (by simp) ?_; intro v1 wA hv1 hBA; simp only [Nat.zero_add, List.nil_append] at hv1; obtain ⟨a1, k1, rfl⟩ := row_shape hv1)
  go_ret
  exact ⟨a1, k1, rfl, reads_of_row rfl hv1, ((Below.refl _ w).alloc (Nat.le_refl _) _).trans hBA⟩
set_option maxRecDepth 100000 in
theorem same_ints (a b : Option Addr) (ca cb : Nat) (zs : List Int) (w : World) (hn : zs.length ≤ 9223372036854775807) (ra : ReadsI w a zs) (rb : ReadsI w b zs) :
    Calls Tryd.prog 20 #[.slice a zs.length ca, .slice b zs.length cb] w fun e w' => e = .returned (.bool true) ∧ ∃ n, w' = w.drewN n := by
  go_enter Tryd.func20, Tryd.ntmps20
  go_wp2
  go_loopw [5] (fun i wr => ∃ k n : Nat, k ≤ zs.length ∧ i = .int .i64 k ∧ wr = w.drewN n) (fun i _ => zs.length - (intOf i).toNat)
  case atStart => exact ⟨0, 0, by omega, rfl, rfl⟩
  case round =>
    obtain ⟨k, n, hk, rfl, rfl⟩ := hrel
    by_cases hlt : k < zs.length
    · obtain ⟨c1, o1, rfl, _, h1⟩ := ra k hlt
      obtain ⟨c2, o2, rfl, _, h2⟩ := rb k hlt
      generalize zs[k]?.getD 0 = y at h1 h2
      go_wp2
      go_quiet (fail)
      go_wp2
      go_roundw
      case rel => exact ⟨k + 1, _, by omega, by go_num, rfl⟩
      case measure => simp [intOf]; omega
    · go_wp2
      go_ret
      exact ⟨rfl, _, rfl⟩
end Go.Proofs.YtddackdghphcnaaDoor.kit

namespace Go.Proofs.YtddackdghphcnaaDoor.s13
set_option linter.unusedVariables false
set_option linter.unusedSimpArgs false
open Go.RowKit
open kit

set_option maxRecDepth 100000 in
set_option maxHeartbeats 2000000 in
theorem rof_full (a : Option Addr) (cp : Nat) (l : List Int) (w : World) (h : 4 < l.length) (h2 : l.length ≤ 9223372036854775807) : Calls Tryd.prog 13 #[.slice a l.length cp] w fun e w' => e = .returned (.tuple #[.agg #[.int .i64 0, .int .i64 0, .int .i64 0, .int .i64 0, .int .i64 0], .int .i64 6]) ∧ Below w.heap.size w w' := by
  have h3 : (4 : Int) < l.length := by omega
  clear h
  go_enter Tryd.func13, Tryd.ntmps13
  go_wp2
  exact bodyPost_ret (v := .tuple #[.agg #[.int .i64 0, .int .i64 0, .int .i64 0, .int .i64 0, .int .i64 0], .int .i64 6]) (by simp [results, Tryd.results13, go_sem]) rfl ⟨rfl, (Below.refl _ _).alloc (Nat.le_refl _) _⟩
set_option maxRecDepth 100000 in
set_option maxHeartbeats 4000000 in
theorem rof_some (a : Option Addr) (cp : Nat) (l : List Int) (w : World) (h : l.length ≤ 4) (hr : Hid (ReadsI w a l)) (n0 n1 n2 n3 r : Int) (HP : Hid (pad5 l = ((l.length : Int), n0, n1, n2, n3))) (y : V5) (HB : Hid (∀ i, i < l.length → (l[i]?.getD 0 < 0 ∨ 8 ≤ l[i]?.getD 0) → r = 14 ∧ y = no5)) (HO : Hid ((∀ i, i < l.length → 0 ≤ l[i]?.getD 0 ∧ l[i]?.getD 0 < 8) → r = 0 ∧ y = ((l.length : Int), n0, n1, n2, n3))) :
    Calls Tryd.prog 13 #[.slice a l.length cp] w fun e w' => e = .returned (LE y r) ∧ Below w.heap.size w w' := by
  have h4 : (l.length : Int) ≤ 4 := by omega
  have Y0 := Lib.hid ((Box.new w 25 #[.int .i64 0, .int .i64 0, .int .i64 0, .int .i64 0, .int .i64 0]).alloc (.cells #[.int .i64 l.length, .int .i64 0, .int .i64 0, .int .i64 0, .int .i64 0] 25))
  have X0 := Lib.hid (new2 w (.cells #[.int .i64 0, .int .i64 0, .int .i64 0, .int .i64 0, .int .i64 0] 25) 25 #[.int .i64 l.length, .int .i64 0, .int .i64 0, .int .i64 0, .int .i64 0])
  have B0 : Hid (Below w.heap.size w ((w.alloc (.cells #[.int .i64 0, .int .i64 0, .int .i64 0, .int .i64 0, .int .i64 0] 25)).alloc (.cells #[.int .i64 l.length, .int .i64 0, .int .i64 0, .int .i64 0, .int .i64 0] 25))) := Lib.hid (((Below.refl _ w).alloc (Nat.le_refl _) _).alloc (by simp) _)
  go_enter Tryd.func13, Tryd.ntmps13
  go_wp2
  go_loopw [5] (fun i wr => ∃ (k : Nat) (f : Nat → Int), i = .int .i64 k ∧ k ≤ l.length ∧ Hid (∀ j, f j = if j < k then l[j]?.getD 0 else 0) ∧ Hid (Box wr 25 (w.heap.size + 1) #[.int .i64 l.length, .int .i64 (f 0), .int .i64 (f 1), .int .i64 (f 2), .int .i64 (f 3)]) ∧ Hid (Box wr 25 w.heap.size #[.int .i64 0, .int .i64 0, .int .i64 0, .int .i64 0, .int .i64 0]) ∧ Hid (Below w.heap.size w wr) ∧ Hid (∀ j, j < k → 0 ≤ l[j]?.getD 0 ∧ l[j]?.getD 0 < 8)) (fun i _ => l.length - (intOf i).toNat)
  case atStart => exact ⟨0, fun _ => 0, rfl, by omega, Lib.hid (fun j => by simp), X0, Y0, B0, Lib.hid (fun j hj => by omega)⟩
  case round =>
    obtain ⟨k, f, rfl, hk, HF, HX, HY, HBw, HK⟩ := hrel
    by_cases hlt : k < l.length
    · obtain ⟨b, off, rfl, hb, hc⟩ := (hr.out.below HBw.out) k hlt
      have hbad := Lib.hid (HB.out k hlt)
      have hne : b ≠ w.heap.size + 1 := by
        obtain ⟨b', off', e, hb', _⟩ := hr.out k hlt
        cases e; omega
      have hs := Lib.hid (fun h : 0 ≤ l[k]?.getD 0 ∧ l[k]?.getD 0 < 8 => (fun j (hj : j < k + 1) => if e : j = k then e ▸ h else HK.out j (by omega) : ∀ j, j < k + 1 → 0 ≤ l[j]?.getD 0 ∧ l[j]?.getD 0 < 8))
      have hf2 : Hid (∀ j, upd f k (l[k]?.getD 0) j = if j < k + 1 then l[j]?.getD 0 else 0) := Lib.hid (fun j => by
        unfold upd
        by_cases e : j = k
        · subst e; simp
        · rw [if_neg e, HF.out j]
          by_cases e2 : j < k
          · rw [if_pos e2, if_pos (by omega)]
          · rw [if_neg e2, if_neg (by omega)])
      have hk4 : k < 4 := by omega
      have X2 := Lib.hid (b5_set HX.out k hk4 (l[k]?.getD 0))
      have Y2 := Lib.hid (HY.out.other (b' := w.heap.size + 1) (i := 1 + k) (by omega) (.int .i64 (l[k]?.getD 0)))
      have B2 := Lib.hid (HBw.out.setCell (p := ⟨w.heap.size + 1, 1 + k, none⟩) (by simp) (.int .i64 (l[k]?.getD 0)))
      generalize l[k]?.getD 0 = z at hc hbad hs hf2 X2 Y2 B2
      by_cases hz : z < 0
      · obtain ⟨e1, e2⟩ := hbad.out (.inl hz)
        have E1 := Lib.hid e1
        have E2 := Lib.hid e2
        clear e1 e2
        obtain ⟨v0, v1, v2, v3, v4⟩ := HY.out.cell5
        obtain ⟨g0, g1, g2, g3, g4⟩ := HY.out.free5
        go_wp2
        obtain ⟨z0, z1, z2, z3, z4⟩ := (HY.out.put5 (.int .i64 0) (.int .i64 0) (.int .i64 0) (.int .i64 0) (.int .i64 0)).cell5
        refine bodyPost_ret (v := .tuple #[.agg #[.int .i64 0, .int .i64 0, .int .i64 0, .int .i64 0, .int .i64 0], .int .i64 14]) (by simp [results, Tryd.results13, go_sem, z0, z1, z2, z3, z4]) rfl ⟨by rw [E1.out, E2.out]; rfl, below_put5 HBw.out (Nat.le_refl _) _ _ _ _ _⟩
      · have hz1 : 0 ≤ z := by omega
        have hz2 : decide (z < 0) = false := decide_eq_false hz
        clear hz
        by_cases hz : 8 ≤ z
        · obtain ⟨e1, e2⟩ := hbad.out (.inr hz)
          have E1 := Lib.hid e1
          have E2 := Lib.hid e2
          clear e1 e2
          obtain ⟨v0, v1, v2, v3, v4⟩ := HY.out.cell5
          obtain ⟨g0, g1, g2, g3, g4⟩ := HY.out.free5
          go_wp2
          obtain ⟨z0, z1, z2, z3, z4⟩ := (HY.out.put5 (.int .i64 0) (.int .i64 0) (.int .i64 0) (.int .i64 0) (.int .i64 0)).cell5
          refine bodyPost_ret (v := .tuple #[.agg #[.int .i64 0, .int .i64 0, .int .i64 0, .int .i64 0, .int .i64 0], .int .i64 14]) (by simp [results, Tryd.results13, go_sem, z0, z1, z2, z3, z4]) rfl ⟨by rw [E1.out, E2.out]; rfl, below_put5 HBw.out (Nat.le_refl _) _ _ _ _ _⟩
        · have hz3 : decide (8 ≤ z) = false := decide_eq_false hz
          have hz4 : z < 8 := by omega
          have HS := Lib.hid (hs.out ⟨hz1, hz4⟩)
          have xk := HX.out.place k hk4
          have fk := HX.out.free (1 + k)
          clear hz
          go_wp2
          go_roundw
          case rel => exact ⟨k + 1, upd f k z, by go_num, by omega, hf2, X2, Y2, B2, HS⟩
          case measure => simp [intOf]; omega
    · obtain rfl : k = l.length := by omega
      have hp := HP.out
      simp only [pad5, Prod.mk.injEq] at hp
      obtain ⟨_, p0, p1, p2, p3⟩ := hp
      have hf : ∀ j, f j = l[j]?.getD 0 := fun j => by
        rw [HF.out j]
        by_cases e : j < l.length
        · rw [if_pos e]
        · rw [if_neg e, List.getElem?_eq_none (by omega)]; rfl
      have XN := HX.out
      rw [hf 0, hf 1, hf 2, hf 3, p0, p1, p2, p3] at XN
      obtain ⟨e1, e2⟩ := HO.out HK.out
      have E1 := Lib.hid e1
      have E2 := Lib.hid e2
      clear e1 e2 p0 p1 p2 p3 hf
      obtain ⟨x0, x1, x2, x3, x4⟩ := XN.cell5
      obtain ⟨v0, v1, v2, v3, v4⟩ := HY.out.cell5
      obtain ⟨g0, g1, g2, g3, g4⟩ := HY.out.free5
      clear XN
      go_wp2
      obtain ⟨z0, z1, z2, z3, z4⟩ := (HY.out.put5 (.int .i64 l.length) (.int .i64 n0) (.int .i64 n1) (.int .i64 n2) (.int .i64 n3)).cell5
      refine bodyPost_ret (v := .tuple #[.agg #[.int .i64 l.length, .int .i64 n0, .int .i64 n1, .int .i64 n2, .int .i64 n3], .int .i64 0]) (by simp [results, Tryd.results13, go_sem, z0, z1, z2, z3, z4]) rfl ⟨by rw [E1.out, E2.out], below_put5 HBw.out (Nat.le_refl _) _ _ _ _ _⟩
theorem rof_any (a : Option Addr) (cp : Nat) (l : List Int) (w : World) (h2 : l.length ≤ 9223372036854775807) (hr : ReadsI w a l) (y : V5) (r : Int) (H : Hid (ofP l = (y, r))) :
    Calls Tryd.prog 13 #[.slice a l.length cp] w fun e w' => e = .returned (LE y r) ∧ Below w.heap.size w w' := by
  have h := H.out
  unfold ofP at h
  by_cases hl : 4 < l.length
  · rw [if_pos hl] at h; cases h
    exact rof_full a cp l w hl h2
  · rw [if_neg hl] at h
    have hl4 : l.length ≤ 4 := by omega
    refine rof_some a cp l w hl4 (Lib.hid hr) _ _ _ _ r (Lib.hid rfl) y (Lib.hid fun i hi hb => ?_) (Lib.hid fun hk => ?_)
    · rw [if_neg fun hx => by
        have := hx _ (mem_getD l i hi)
        omega] at h
      cases h; exact ⟨rfl, rfl⟩
    · rw [if_pos fun x hx => by
        obtain ⟨i, hi, rfl⟩ := List.mem_iff_getElem.1 hx
        have := hk i hi
        rw [List.getElem?_eq_getElem hi] at this
        exact this] at h
      cases h; exact ⟨rfl, rfl⟩
theorem Box.under {w w1 : World} {t : TypeId} {b B : Nat} {xs : Array Value} (h : Box w t b xs) (hb : b < B) (hB : Below B w w1) : Box w1 t b xs := (hB.block b hb).trans h
set_option maxRecDepth 100000 in
set_option maxHeartbeats 2000000 in
theorem rlist_bad (n a b c d r : Int) (w : World) (HR : Hid (chkP n a b c d 8 = r)) (hr : (r != 0) = true) : Calls Tryd.prog 15 #[.agg #[.int .i64 n, .int .i64 a, .int .i64 b, .int .i64 c, .int .i64 d]] w fun e w' => e = .returned (.tuple #[.slice none 0 0, .int .i64 r]) ∧ Below w.heap.size w w' := by
  go_enter Tryd.func15, Tryd.ntmps15
  go_wp2_with (go_at_call 19; refine (rcheck_any n a b c d 8 r _ HR).mono ?_; rintro e w1 ⟨rfl, hB⟩; obtain ⟨X1, hB1⟩ := made1 hB; have B1 := Lib.hid hB1; clear hB hB1 X1)
  go_ret2
  exact ⟨rfl, B1.out⟩
set_option maxRecDepth 100000 in
set_option maxHeartbeats 2000000 in
theorem rlist_ok (l : List Int) (N : Nat) (a b c d : Int) (w : World) (HR : Hid (chkP N a b c d 8 = 0)) (hN : N ≤ 4) (HL : Hid (l.length = N)) (HP : Hid (pad5 l = ((N : Int), a, b, c, d))) :
    Calls Tryd.prog 15 #[.agg #[.int .i64 N, .int .i64 a, .int .i64 b, .int .i64 c, .int .i64 d]] w fun e w' => ∃ a' c', e = .returned (.tuple #[.slice a' N c', .int .i64 0]) ∧ ReadsI w' a' l ∧ Below w.heap.size w w' := by
  have n1 : (0 : Int) ≤ N := by omega
  have n2 : (N : Int) ≤ 4 := by omega
  go_enter Tryd.func15, Tryd.ntmps15
  go_wp2_with (go_at_call 19; refine (rcheck_any N a b c d 8 0 _ HR).mono ?_; rintro e w1 ⟨rfl, hB⟩; obtain ⟨X1, hB1⟩ := made1 hB; have B1 := Lib.hid hB1; have X1 := Lib.hid X1; clear hB hB1)
  go_loopw [5, 6] (fun v i wr => ∃ k : Nat, i = .int .i64 k ∧ k ≤ N ∧ Hid (wr.ownsRow (w.heap.size + 1) 3 1 v k ((l.take k).map (Value.int .i64))) ∧ Hid (Box wr 25 w.heap.size #[.int .i64 N, .int .i64 a, .int .i64 b, .int .i64 c, .int .i64 d]) ∧ Hid (Below w.heap.size w wr)) (fun _ i _ => N - (intOf i).toNat)
  case atStart => exact ⟨0, rfl, by omega, Lib.hid (World.ownsRow_nil _ _ _ _), X1, B1⟩
  case round =>
    obtain ⟨k, rfl, hk, HRow, HX, HB⟩ := hrel
    have x0 := HX.out.cell 0
    simp at x0
    by_cases hlt : k < N
    · have hk4 : k < 4 := by omega
      have xk := HX.out.place k hk4
      have hXlt := HX.out.lt
      have hp := Lib.hid (pad5_pl (l := l) (by have := HL.out; omega) HP.out k)
      have hsn : Hid (l.take (k + 1) = l.take k ++ [pl a b c d k]) := Lib.hid (by
        have hkl : k < l.length := by have := HL.out; omega
        rw [List.take_succ_eq_append_getElem hkl, hp.out, List.getElem?_eq_getElem hkl]; rfl)
      generalize pl a b c d k = z at xk hp hsn
      go_wp2_with (at_builtin; refine append_in Tryd.underlying22 info3 rfl (by omega) rfl (.tmp 18) (.tmp 23) rfl (w.heap.size + 1) _ k _ rfl (row_alloc HRow.out _) (some ⟨wr.heap.size, 0, none⟩) [.int .i64 z] 1 1 rfl rfl (src_one wr _ _) (by simp [Value.oneCell']) (by omega) (by simp; omega) ?_; intro v1 wA hv1 hBA; have R1 := Lib.hid hv1; have XA := Lib.hid ((HX.out.alloc (.cells #[.int .i64 z] 3)).under (by omega) hBA); have BA := Lib.hid ((HB.out.alloc HB.out.size (.cells #[.int .i64 z] 3)).trans (hBA.mono (by omega))); clear hv1 hBA)
      go_roundw
      case rel => exact ⟨k + 1, by go_num, by omega, Lib.hid (by rw [hsn.out, List.map_append]; exact R1.out), XA, BA⟩
      case measure => simp [intOf]; omega
    · obtain rfl : k = N := by omega
      obtain ⟨a1, c1, rfl⟩ := row_shape HRow.out
      have hR : Hid (ReadsI wr a1 l) := Lib.hid (by
        have h := HRow.out
        have e : l.take k = l := by rw [← HL.out]; exact List.take_length
        rw [e] at h
        exact reads_of_row HL.out h)
      go_wp2
      go_ret2
      exact ⟨a1, c1, rfl, hR.out, HB.out⟩
end Go.Proofs.YtddackdghphcnaaDoor.s13

namespace Go.Proofs.YtddackdghphcnaaDoor.s13
set_option linter.unusedVariables false
set_option linter.unusedSimpArgs false
open Go.RowKit
open kit

set_option maxRecDepth 100000 in
set_option maxHeartbeats 1000000 in
theorem clone_any (x : Addr) (n cp : Nat) (zs : List Int) (w : World) (hn : zs.length = n) (hn4 : n ≤ 1000) (hr : ReadsI w (some x) zs) (hx : x.spot = none) : Calls Tryd.prog 47 #[.slice (some x) n cp] w fun e w' => ∃ a' c', e = .returned (.slice a' n c') ∧ ReadsI w' a' zs ∧ Below w.heap.size w w' := by
  have hs : Src w (some x) cp (zs.map (Value.int .i64)) := by
    refine .inr ⟨x, rfl, fun j u hu => ?_⟩
    rw [List.getElem?_map] at hu
    have hj : j < zs.length := by
      rcases Nat.lt_or_ge j zs.length with h | h
      · exact h
      · rw [List.getElem?_eq_none h] at hu; cases hu
    obtain ⟨b, off, e, _, hc⟩ := hr j hj
    cases e
    rw [Go.WideShapes.add_plain, hc]
    rw [List.getElem?_eq_getElem hj] at hu ⊢
    simpa using hu
  have HS := Lib.hid (hs.alloc (.cells #[] 3))
  have HN := Lib.hid hn
  have hq : ∀ W, (binOp .eql 22 (.slice (some x) n cp) (.slice none 0 0)).run Tryd.prog W = .ok (.bool false) W := fun W => Lib.run_eql_slice_nil W _ _ _ _ _ _ _ Tryd.underlying22
  clear hn hs hr
  go_enter Tryd.func47, Tryd.ntmps47
  go_wp2_with (at_builtin; refine append_in Tryd.underlying22 info3 rfl (by omega) rfl (.tmp 5) (.tmp 6) rfl w.heap.size _ 0 [] rfl (empty_row 3 w _ (Nat.le_refl _)) (some x) (zs.map (Value.int .i64)) n cp rfl (by simp [HN.out]) HS.out (by simp [Value.oneCell']) (by omega) (by simp) ?_; intro v1 wA hv1 hBA; simp only [Nat.zero_add, List.nil_append] at hv1; obtain ⟨a1, k1, rfl⟩ := row_shape hv1)
  go_ret
  exact ⟨a1, k1, rfl, reads_of_row HN.out hv1, ((Below.refl _ w).alloc (Nat.le_refl _) _).trans hBA⟩
set_option maxRecDepth 100000 in
set_option maxHeartbeats 2000000 in
theorem plist_bad (n a b c d r : Int) (w : World) (HR : Hid (chkP n a b c d 8 = r)) (hr : (r != 0) = true) : Calls Tryd.prog 14 #[.agg #[.int .i64 n, .int .i64 a, .int .i64 b, .int .i64 c, .int .i64 d]] w fun e w' => e = .returned (.tuple #[.slice none 0 0, .int .i64 r]) ∧ Below w.heap.size w w' := by
  go_enter Tryd.func14, Tryd.ntmps14
  go_wp2_with (go_at_call 46; refine (checkall_one n a b c d r _ _ (new2 _ _ _ _) HR).mono ?_; rintro e w1 ⟨rfl, hB⟩; obtain ⟨X1, _, hB1⟩ := made2 hB; have B1 := Lib.hid hB1; clear hB hB1 X1)
  go_ret2
  exact ⟨rfl, B1.out⟩
theorem reads_places {w : World} {g : Nat} {x : Value} {a b c d : Int} {l : List Int} {n : Int} (X : Box w 25 g #[x, .int .i64 a, .int .i64 b, .int .i64 c, .int .i64 d]) (hl : l.length ≤ 4) (hp : pad5 l = (n, a, b, c, d)) : ReadsI w (some ⟨g, 1, none⟩) l := fun i hi =>
  ⟨g, 1, rfl, X.lt, by rw [X.place i (by omega), pad5_pl hl hp]⟩
set_option maxRecDepth 100000 in
set_option maxHeartbeats 2000000 in
theorem plist_ok (l : List Int) (N : Nat) (a b c d : Int) (w : World) (HR : Hid (chkP N a b c d 8 = 0)) (hN : N ≤ 4) (HL : Hid (l.length = N)) (HP : Hid (pad5 l = ((N : Int), a, b, c, d))) :
    Calls Tryd.prog 14 #[.agg #[.int .i64 N, .int .i64 a, .int .i64 b, .int .i64 c, .int .i64 d]] w fun e w' => ∃ a' c', e = .returned (.tuple #[.slice a' N c', .int .i64 0]) ∧ ReadsI w' a' l ∧ Below w.heap.size w w' := by
  have n1 : (0 : Int) ≤ N := by omega
  have n2 : (N : Int) ≤ 4 := by omega
  go_enter Tryd.func14, Tryd.ntmps14
  go_wp2_with (first
    | (go_at_call 46; refine (checkall_one N a b c d 0 _ _ (new2 _ _ _ _) HR).mono ?_; rintro e w1 ⟨rfl, hB⟩; obtain ⟨X1, _, hB1⟩ := made2 hB; have B1 := Lib.hid hB1; have R1 := Lib.hid (reads_places X1 (by have := HL.out; omega) HP.out); clear hB hB1; have x0 := X1.cell 0; simp at x0; clear X1)
    | (go_at_call 47; refine (clone_any _ N _ l _ HL.out (by omega) R1.out rfl).mono ?_; rintro e w2 ⟨a2, c2, rfl, hR2, hB⟩; have B2 := Lib.hid (below_on B1.out (Nat.le_refl _) hB); have R2 := Lib.hid hR2; clear hB hR2))
  go_ret2
  exact ⟨a2, c2, rfl, R2.out, B2.out⟩
end Go.Proofs.YtddackdghphcnaaDoor.s13

namespace Go.Proofs.YtddackdghphcnaaDoor.s13
set_option linter.unusedVariables false
set_option linter.unusedSimpArgs false
open Go.RowKit
open kit

theorem chkTwo (n a b c d n' a' b' c' d' : Int) : (if chkP n a b c d 8 = 0 then chkP n' a' b' c' d' 8 else chkP n a b c d 8) = bothP n a b c d n' a' b' c' d' := rfl
set_option maxRecDepth 100000 in
set_option maxHeartbeats 2000000 in
theorem pjoin_bad (k n a b c d n' a' b' c' d' r : Int) (w : World) (HR : Hid (bothP n a b c d n' a' b' c' d' = r)) (hr : (r != 0) = true) : Calls Tryd.prog 21 #[.int .i64 k, .agg #[.int .i64 n, .int .i64 a, .int .i64 b, .int .i64 c, .int .i64 d], .agg #[.int .i64 n', .int .i64 a', .int .i64 b', .int .i64 c', .int .i64 d']] w fun e w' => e = .returned (LE no5 r) ∧ Below w.heap.size w w' := by
  go_enter Tryd.func21, Tryd.ntmps21
  go_wp2_with (go_at_call 46; refine (checkall_two n a b c d n' a' b' c' d' r _ _ (new4 _ _ _ _ _ _) HR).mono ?_; rintro e w1 ⟨rfl, hB⟩; obtain ⟨X1, Y1, Z1, hB1⟩ := made4 hB; have B1 := Lib.hid hB1; have Z1 := Lib.hid Z1; clear hB hB1 X1 Y1; obtain ⟨v0, v1, v2, v3, v4⟩ := Z1.out.cell5; obtain ⟨g0, g1, g2, g3, g4⟩ := Z1.out.free5)
  obtain ⟨z0, z1, z2, z3, z4⟩ := (Z1.out.put5 (.int .i64 0) (.int .i64 0) (.int .i64 0) (.int .i64 0) (.int .i64 0)).cell5
  exact bodyPost_ret (v := .tuple #[.agg #[.int .i64 0, .int .i64 0, .int .i64 0, .int .i64 0, .int .i64 0], .int .i64 r]) (by simp [results, Tryd.results21, go_sem, z0, z1, z2, z3, z4]) rfl ⟨rfl, below_put5 B1.out (by omega) _ _ _ _ _⟩
set_option maxRecDepth 100000 in
set_option maxHeartbeats 2000000 in
theorem pjoin_range (k n a b c d n' a' b' c' d' : Int) (w : World) (HR : Hid (bothP n a b c d n' a' b' c' d' = 0)) (hk : k < 1 ∨ 4 < k) : Calls Tryd.prog 21 #[.int .i64 k, .agg #[.int .i64 n, .int .i64 a, .int .i64 b, .int .i64 c, .int .i64 d], .agg #[.int .i64 n', .int .i64 a', .int .i64 b', .int .i64 c', .int .i64 d']] w fun e w' => e = .returned (LE no5 2) ∧ Below w.heap.size w w' := by
  by_cases h1 : k < 1
  · clear hk
    go_enter Tryd.func21, Tryd.ntmps21
    go_wp2_with (go_at_call 46; refine (checkall_two n a b c d n' a' b' c' d' 0 _ _ (new4 _ _ _ _ _ _) HR).mono ?_; rintro e w1 ⟨rfl, hB⟩; obtain ⟨X1, Y1, Z1, hB1⟩ := made4 hB; have B1 := Lib.hid hB1; have Z1 := Lib.hid Z1; clear hB hB1 X1 Y1; obtain ⟨v0, v1, v2, v3, v4⟩ := Z1.out.cell5; obtain ⟨g0, g1, g2, g3, g4⟩ := Z1.out.free5)
    obtain ⟨z0, z1, z2, z3, z4⟩ := (Z1.out.put5 (.int .i64 0) (.int .i64 0) (.int .i64 0) (.int .i64 0) (.int .i64 0)).cell5
    exact bodyPost_ret (v := .tuple #[.agg #[.int .i64 0, .int .i64 0, .int .i64 0, .int .i64 0, .int .i64 0], .int .i64 2]) (by simp [results, Tryd.results21, go_sem, z0, z1, z2, z3, z4]) rfl ⟨rfl, below_put5 B1.out (by omega) _ _ _ _ _⟩
  · have h2 : 4 < k := by omega
    have h3 : decide (k < 1) = false := decide_eq_false h1
    clear hk h1
    go_enter Tryd.func21, Tryd.ntmps21
    go_wp2_with (go_at_call 46; refine (checkall_two n a b c d n' a' b' c' d' 0 _ _ (new4 _ _ _ _ _ _) HR).mono ?_; rintro e w1 ⟨rfl, hB⟩; obtain ⟨X1, Y1, Z1, hB1⟩ := made4 hB; have B1 := Lib.hid hB1; have Z1 := Lib.hid Z1; clear hB hB1 X1 Y1; obtain ⟨v0, v1, v2, v3, v4⟩ := Z1.out.cell5; obtain ⟨g0, g1, g2, g3, g4⟩ := Z1.out.free5)
    obtain ⟨z0, z1, z2, z3, z4⟩ := (Z1.out.put5 (.int .i64 0) (.int .i64 0) (.int .i64 0) (.int .i64 0) (.int .i64 0)).cell5
    exact bodyPost_ret (v := .tuple #[.agg #[.int .i64 0, .int .i64 0, .int .i64 0, .int .i64 0, .int .i64 0], .int .i64 2]) (by simp [results, Tryd.results21, go_sem, z0, z1, z2, z3, z4]) rfl ⟨rfl, below_put5 B1.out (by omega) _ _ _ _ _⟩
/-- two looks, the second one laid behind the first, up to k -/
theorem join_places {l m : List Int} {k : Nat} (hk : k ≤ 4) {f : Nat → Int} (hf : ∀ i, f i = (l.take k)[i]?.getD 0) (zs : List Int) (hz : zs = m.take (k - min l.length k)) : ∀ i, over f (min l.length k) zs i = ((l ++ m).take k)[i]?.getD 0 := by
  intro i
  subst hz
  unfold over
  rw [hf]
  have h1 : ∀ (q : List Int) j, q[j]?.getD 0 = if h : j < q.length then q[j] else 0 := fun q j => by
    by_cases h : j < q.length
    · rw [dif_pos h, List.getElem?_eq_getElem h]; rfl
    · rw [dif_neg h, List.getElem?_eq_none (by omega)]; rfl
  by_cases hlk : l.length ≤ k
  · rw [Nat.min_eq_left hlk]
    by_cases hi : l.length ≤ i ∧ i < l.length + (m.take (k - l.length)).length
    · rw [if_pos hi]
      rw [List.length_take] at hi
      rw [List.getElem?_take, if_pos (by omega), List.getElem?_take, if_pos (by omega), List.getElem?_append_right (by omega)]
    · rw [if_neg hi]
      rw [List.length_take] at hi
      rw [List.getElem?_take, List.getElem?_take]
      by_cases hik : i < k
      · rw [if_pos hik, if_pos hik]
        by_cases h2 : i < l.length
        · rw [List.getElem?_append_left h2]
        · rw [List.getElem?_append_right (by omega), List.getElem?_eq_none (by omega), List.getElem?_eq_none (by omega)]
      · rw [if_neg hik, if_neg hik]
  · rw [Nat.min_eq_right (by omega), Nat.sub_self, List.take_zero, if_neg (by simp only [List.length_nil]; omega)]
    rw [List.getElem?_take, List.getElem?_take]
    by_cases hik : i < k
    · rw [if_pos hik, if_pos hik, List.getElem?_append_left (by omega)]
    · rw [if_neg hik, if_neg hik]
set_option maxRecDepth 100000 in
set_option maxHeartbeats 2000000 in
theorem pjoin_ok (l m : List Int) (k N M : Nat) (a b c d a' b' c' d' : Int) (w : World) (HR : Hid (bothP N a b c d M a' b' c' d' = 0)) (k1 : 1 ≤ k) (k2 : k ≤ 4) (hN : N ≤ 4) (hM : M ≤ 4) (HL : Hid (l.length = N)) (HM : Hid (m.length = M)) (HP : Hid (pad5 l = ((N : Int), a, b, c, d))) (HQ : Hid (pad5 m = ((M : Int), a', b', c', d')))
    (y0 y1 y2 y3 y4 : Int) (HY : Hid (pad5 ((l ++ m).take k) = (y0, y1, y2, y3, y4))) :
    Calls Tryd.prog 21 #[.int .i64 k, .agg #[.int .i64 N, .int .i64 a, .int .i64 b, .int .i64 c, .int .i64 d], .agg #[.int .i64 M, .int .i64 a', .int .i64 b', .int .i64 c', .int .i64 d']] w fun e w' => e = .returned (LE (y0, y1, y2, y3, y4) 0) ∧ Below w.heap.size w w' := by
  have i1 : (1 : Int) ≤ k := by omega
  have i2 : (k : Int) ≤ 4 := by omega
  have i3 : decide ((k : Int) < 1) = false := decide_eq_false (by omega)
  have i4 : decide (4 < (k : Int)) = false := decide_eq_false (by omega)
  have hcut := cutP_look (l := l) (by have := HL.out; omega) (pad5_of HP.out) k
  obtain ⟨⟨q, c0, c1, c2, c3⟩, hq⟩ : ∃ u, cutP N k a b c d = u := ⟨_, rfl⟩
  have HC := Lib.hid hq
  rw [hq] at hcut
  have hq' : q = min N k := by have := congrArg Prod.fst hq; simpa [cutP] using this.symm
  have hqk : q ≤ k := by omega
  have HCut := Lib.hid hcut
  have HQ1 := Lib.hid hq'
  clear hcut hq hq'
  go_enter Tryd.func21, Tryd.ntmps21
  go_wp2_with (first
    | (go_at_call 46; refine (checkall_two N a b c d M a' b' c' d' 0 _ _ (new4 _ _ _ _ _ _) HR).mono ?_; rintro e w1 ⟨rfl, hB⟩; obtain ⟨X1, Y1, Z1, hB1⟩ := made4 hB; have B1 := Lib.hid hB1; have Y1 := Lib.hid Y1; have Z1 := Lib.hid Z1; obtain ⟨x0, x1, x2, x3, x4⟩ := X1.cell5; clear hB hB1 X1)
    | (go_at_call 52; refine (cut_any N k a b c d _ (by omega) q c0 c1 c2 c3 HC).mono ?_; rintro e w2 ⟨rfl, hB⟩; have B2 := Lib.hid (below_on B1.out (Nat.le_refl _) hB); have Y2 := Lib.hid (Y1.out.below hB); have Z2 := Lib.hid (Z1.out.below hB); clear hB x0 x1 x2 x3 x4))
  have G0 := (Box.new w2 25 #[.int .i64 q, .int .i64 c0, .int .i64 c1, .int .i64 c2, .int .i64 c3]).drew
  have RY : ReadsI (w2.alloc (.cells #[.int .i64 q, .int .i64 c0, .int .i64 c1, .int .i64 c2, .int .i64 c3] 25)).drew (some ⟨w.heap.size + 1, 1, none⟩) (m.take (k - q)) := fun i hi => by
    have hY := (Y2.out.alloc (.cells #[.int .i64 q, .int .i64 c0, .int .i64 c1, .int .i64 c2, .int .i64 c3] 25)).drew
    rw [List.length_take] at hi
    have hml := HM.out
    refine ⟨w.heap.size + 1, 1, rfl, hY.lt, ?_⟩
    rw [hY.place i (by omega), pad5_pl (by omega) HQ.out, List.getElem?_take, if_pos (by omega)]
  have hzl : (m.take (k - q)).length = min (k - q) M := by rw [List.length_take, HM.out]
  obtain ⟨W, hcl, GW, hO, hBW, hsz⟩ := copy_box (f := pl c0 c1 c2 c3) G0 q (k - q) (4 - q) (some (if 4 = q then ⟨w2.heap.size, 1, none⟩ else ⟨w2.heap.size, 1 + q, none⟩)) (some ⟨w.heap.size + 1, 1, none⟩) M 4 (m.take (k - q)) (by rw [hzl]; exact Nat.min_comm _ _) (by rw [hzl]; omega) RY (by
    by_cases h4 : 4 = q
    · exact .inl (by omega)
    · rw [if_neg h4]; exact .inr rfl)
  have hg : w.heap.size + 1 + 1 < w2.heap.size := Z2.out.lt
  have ZW := Lib.hid (hO _ _ _ (by omega) ((Z2.out.alloc (.cells #[.int .i64 q, .int .i64 c0, .int .i64 c1, .int .i64 c2, .int .i64 c3] 25)).drew))
  have YW := Lib.hid (hO _ _ _ (by omega) ((Y2.out.alloc (.cells #[.int .i64 q, .int .i64 c0, .int .i64 c1, .int .i64 c2, .int .i64 c3] 25)).drew))
  have BW := Lib.hid (hBW w.heap.size w (by omega) (B2.out.alloc B2.out.size (.cells #[.int .i64 q, .int .i64 c0, .int .i64 c1, .int .i64 c2, .int .i64 c3] 25)).drew)
  obtain ⟨L, hL⟩ : ∃ L, (m.take (k - q)).length = L := ⟨_, rfl⟩
  rw [hL] at hcl hzl
  have HZL := Lib.hid hzl
  have hL4 : L ≤ 4 := by omega
  have GH := Lib.hid GW
  have jq0 : (0 : Int) ≤ q := by omega
  have jq1 : (q : Int) ≤ k := by omega
  have jM0 : (0 : Int) ≤ M := by omega
  have jM4 : (M : Int) ≤ 4 := by omega
  have jL : (L : Int) ≤ 4 := by omega
  have e0 : (w2.alloc (.cells #[.int .i64 q, .int .i64 c0, .int .i64 c1, .int .i64 c2, .int .i64 c3] 25)).drew.cell? ⟨w2.heap.size, 0, none⟩ = some (.int .i64 q) := G0.cell 0
  have e1 : (w2.alloc (.cells #[.int .i64 q, .int .i64 c0, .int .i64 c1, .int .i64 c2, .int .i64 c3] 25)).drew.cell? ⟨w.heap.size + 1, 0, none⟩ = some (.int .i64 M) := ((Y2.out.alloc (.cells #[.int .i64 q, .int .i64 c0, .int .i64 c1, .int .i64 c2, .int .i64 c3] 25)).drew).cell 0
  have e2 : W.cell? ⟨w2.heap.size, 0, none⟩ = some (.int .i64 q) := GW.cell 0
  have e3 : W.cell? ⟨w.heap.size + 1, 0, none⟩ = some (.int .i64 M) := YW.out.cell 0
  have e4 : W.frozen? ⟨w2.heap.size, 0, none⟩ = false := GW.free 0
  clear G0 RY hO hBW hsz GW hL hzl Y1 Z1 Y2 Z2 B1 B2
  generalize hW0 : w2.alloc (.cells #[.int .i64 q, .int .i64 c0, .int .i64 c1, .int .i64 c2, .int .i64 c3] 25) = W0 at hcl e0 e1 ⊢
  clear hW0
  go_region
  have hj := join_places (l := l) (m := m) k2 (f := pl c0 c1 c2 c3) (fun i => by
    have hlt : (l.take k).length ≤ 4 := by rw [List.length_take]; omega
    have e := HCut.out
    simp only [pad, Prod.mk.injEq] at e
    obtain ⟨e0, e1, e2, e3, e4⟩ := e
    exact pad5_pl (l := l.take k) (n := ((l.take k).length : Int)) hlt (by simp only [pad5]; rw [e1, e2, e3, e4]) i) (m.take (k - q)) (by rw [HL.out, HQ1.out])
  rw [HL.out, ← HQ1.out] at hj
  have hy := HY.out
  simp only [pad5, Prod.mk.injEq] at hy
  obtain ⟨t0, t1, t2, t3, t4⟩ := hy
  have GN := GH.out
  rw [hj 0, hj 1, hj 2, hj 3, t1, t2, t3, t4] at GN
  have t5 : (q : Int) + L = y0 := by
    rw [← t0, List.length_take, List.length_append, HL.out, HM.out]
    have := HZL.out
    have := HQ1.out
    omega
  have HT := Lib.hid t5
  have G2 := GN.set 0 (by simp) (.int .i64 (q + L))
  have Z3 := Lib.hid (ZW.out.other (b' := w2.heap.size) (i := 0) (by omega) (.int .i64 (q + L)))
  have B3 := Lib.hid (BW.out.setCell (p := ⟨w2.heap.size, 0, none⟩) (show w.heap.size ≤ w2.heap.size by omega) (.int .i64 (q + L)))
  clear hj t0 t1 t2 t3 t4 t5 GN GH ZW YW BW e0 e1 e2 e3 e4 hcl
  generalize W.setCell ⟨w2.heap.size, 0, none⟩ (.int .i64 (q + L)) = W5 at G2 Z3 B3 ⊢
  obtain ⟨x0, x1, x2, x3, x4⟩ := G2.cell5
  obtain ⟨v0, v1, v2, v3, v4⟩ := Z3.out.cell5
  obtain ⟨g0, g1, g2, g3, g4⟩ := Z3.out.free5
  clear G2
  generalize (if 4 = q then (⟨w2.heap.size, 1, none⟩ : Addr) else ⟨w2.heap.size, 1 + q, none⟩) = ad
  go_wp2
  obtain ⟨z0, z1, z2, z3, z4⟩ := (Z3.out.put5 (.int .i64 (q + L)) (.int .i64 y1) (.int .i64 y2) (.int .i64 y3) (.int .i64 y4)).cell5
  exact bodyPost_ret (v := .tuple #[.agg #[.int .i64 (q + L), .int .i64 y1, .int .i64 y2, .int .i64 y3, .int .i64 y4], .int .i64 0]) (by simp [results, Tryd.results21, go_sem, z0, z1, z2, z3, z4]) rfl ⟨by rw [HT.out], below_put5 B3.out (by omega) _ _ _ _ _⟩
end Go.Proofs.YtddackdghphcnaaDoor.s13

namespace Go.Proofs.YtddackdghphcnaaDoor.s13
set_option linter.unusedVariables false
set_option linter.unusedSimpArgs false
open Go.RowKit
open kit

/-- a look's terminals -/
def lst (x : V5) : List Int := [x.2.1, x.2.2.1, x.2.2.2.1, x.2.2.2.2].take x.1.toNat
theorem lst_pad {l : List Int} (hl : l.length ≤ 4) : lst (pad5 l) = l := by
  match l, hl with
  | [], _ => rfl
  | [a], _ => rfl
  | [a, b], _ => rfl
  | [a, b, c], _ => rfl
  | [a, b, c, d], _ => rfl
theorem lst_ok {n a b c d t : Int} (h : chkP n a b c d t = 0) : okL t (lst (n, a, b, c, d)) ∧ pad5 (lst (n, a, b, c, d)) = (n, a, b, c, d) ∧ ((lst (n, a, b, c, d)).length : Int) = n := by
  obtain ⟨l, h1, h2⟩ := pad5_look h
  rw [← h2, lst_pad h1.1]
  refine ⟨h1, rfl, ?_⟩
  simp only [pad5, Prod.mk.injEq] at h2
  exact h2.1
theorem lst_nat {n a b c d : Int} (h : chkP n a b c d 8 = 0) : ∃ N : Nat, n = N ∧ N ≤ 4 ∧ (lst (n, a, b, c, d)).length = N ∧ pad5 (lst (n, a, b, c, d)) = ((N : Int), a, b, c, d) := by
  obtain ⟨h1, h2, h3⟩ := lst_ok h
  have := h1.1
  exact ⟨(lst (n, a, b, c, d)).length, h3.symm, this, rfl, by rw [h3]; exact h2⟩
def cutE (x : V5) (k : Int) : V5 × Int := if chkP x.1 x.2.1 x.2.2.1 x.2.2.2.1 x.2.2.2.2 8 ≠ 0 then (no5, chkP x.1 x.2.1 x.2.2.1 x.2.2.2.1 x.2.2.2.2 8) else if k < 0 ∨ 4 < k then (no5, 2) else (pad5 ((lst x).take k.toNat), 0)
theorem pcut_any (n a b c d k : Int) (w : World) (y : V5) (r : Int) (H : Hid (cutE (n, a, b, c, d) k = (y, r))) : Calls Tryd.prog 23 #[.agg #[.int .i64 n, .int .i64 a, .int .i64 b, .int .i64 c, .int .i64 d], .int .i64 k] w fun e w' => e = .returned (LE y r) ∧ Below w.heap.size w w' := by
  have h := H.out
  unfold cutE at h
  simp only at h
  by_cases hc : chkP n a b c d 8 = 0
  · rw [if_neg (by simpa using hc)] at h
    by_cases hk : k < 0 ∨ 4 < k
    · rw [if_pos hk] at h; cases h
      exact pcut_range n a b c d k w (Lib.hid hc) hk
    · rw [if_neg hk] at h; cases h
      obtain ⟨N, hN, hN4, hl, hp⟩ := lst_nat hc
      obtain ⟨K, rfl⟩ : ∃ K : Nat, k = K := ⟨k.toNat, by omega⟩
      have e := cutP_look (l := lst (n, a, b, c, d)) (by omega) (pad5_of hp) K
      rw [Int.toNat_natCast]
      have hq : pad5 ((lst (n, a, b, c, d)).take K) = (((cutP N K a b c d).1 : Int), (cutP N K a b c d).2) := by rw [e]; rfl
      rw [hq]
      subst hN
      exact pcut_ok N K a b c d w (Lib.hid hc) hN4 (by omega) _ _ _ _ _ (Lib.hid rfl)
  · rw [if_pos hc] at h; cases h
    exact pcut_bad n a b c d k _ w (Lib.hid rfl) (by simpa using hc)
def joinE (k : Int) (x y : V5) : V5 × Int := if bothP x.1 x.2.1 x.2.2.1 x.2.2.2.1 x.2.2.2.2 y.1 y.2.1 y.2.2.1 y.2.2.2.1 y.2.2.2.2 ≠ 0 then (no5, bothP x.1 x.2.1 x.2.2.1 x.2.2.2.1 x.2.2.2.2 y.1 y.2.1 y.2.2.1 y.2.2.2.1 y.2.2.2.2) else if k < 1 ∨ 4 < k then (no5, 2) else (pad5 ((lst x ++ lst y).take k.toNat), 0)
theorem both_yes {n a b c d n' a' b' c' d' : Int} (h : bothP n a b c d n' a' b' c' d' = 0) : chkP n a b c d 8 = 0 ∧ chkP n' a' b' c' d' 8 = 0 := by
  unfold bothP at h
  by_cases h1 : chkP n a b c d 8 = 0
  · rw [if_pos h1] at h; exact ⟨h1, h⟩
  · rw [if_neg h1] at h; exact absurd h h1
theorem pjoin_any (k n a b c d n' a' b' c' d' : Int) (w : World) (y : V5) (r : Int) (H : Hid (joinE k (n, a, b, c, d) (n', a', b', c', d') = (y, r))) : Calls Tryd.prog 21 #[.int .i64 k, .agg #[.int .i64 n, .int .i64 a, .int .i64 b, .int .i64 c, .int .i64 d], .agg #[.int .i64 n', .int .i64 a', .int .i64 b', .int .i64 c', .int .i64 d']] w fun e w' => e = .returned (LE y r) ∧ Below w.heap.size w w' := by
  have h := H.out
  unfold joinE at h
  simp only at h
  by_cases hc : bothP n a b c d n' a' b' c' d' = 0
  · rw [if_neg (by simpa using hc)] at h
    by_cases hk : k < 1 ∨ 4 < k
    · rw [if_pos hk] at h; cases h
      exact pjoin_range k n a b c d n' a' b' c' d' w (Lib.hid hc) hk
    · rw [if_neg hk] at h; cases h
      obtain ⟨h1, h2⟩ := both_yes hc
      obtain ⟨N, hN, hN4, hl, hp⟩ := lst_nat h1
      obtain ⟨M, hM, hM4, hm, hq⟩ := lst_nat h2
      obtain ⟨K, rfl⟩ : ∃ K : Nat, k = K := ⟨k.toNat, by omega⟩
      rw [Int.toNat_natCast]
      subst hN hM
      exact pjoin_ok _ _ K N M a b c d a' b' c' d' w (Lib.hid hc) (by omega) (by omega) hN4 hM4 (Lib.hid hl) (Lib.hid hm) (Lib.hid hp) (Lib.hid hq) _ _ _ _ _ (Lib.hid rfl)
  · rw [if_pos hc] at h; cases h
    exact pjoin_bad k n a b c d n' a' b' c' d' _ w (Lib.hid rfl) (by simpa using hc)
end Go.Proofs.YtddackdghphcnaaDoor.s13
