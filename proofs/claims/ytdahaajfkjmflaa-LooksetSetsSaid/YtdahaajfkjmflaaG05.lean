/-
  Layer 14: isTerms, isLookahead, isSize, compare; the reference's range8, compare. Layer 14: what Check says; the program's Check. Layer 14: the program's Check at every list; what lists that are right are; checkAll. Layer 14: lists of lists in memory; checkAll. Layer 14: the first elements of two lists compared. A range over a function whose iterator keeps blocks of its own (claimed ones: a set Z that grows): the body keeps them, the iterator turns them alone.
-/
import Derived.Test.YtdahaajfkjmflaaG01
import Derived.Test.YtdahaajfkjmflaaG04
namespace Go.Proofs.Ytdahaajfkjmflaa.s14
set_option linter.unusedVariables false
set_option linter.unusedSimpArgs false
open Go.RowKit
open kit

open s13

theorem isterms_yes (t : Int) (w : World) (h1 : 1 ≤ t) (h2 : t ≤ 8) : Calls Try.prog 39 #[.int .i64 t] w fun e w' => e = .returned (.bool true) ∧ w = w' := by
  go_enter Try.func39, Try.ntmps39
  go_wp2
  go_ret
  exact ⟨rfl, rfl⟩
theorem isterms_no (t : Int) (w : World) (h : t < 1 ∨ 8 < t) : Calls Try.prog 39 #[.int .i64 t] w fun e w' => e = .returned (.bool false) ∧ w = w' := by
  rcases h with h | h
  · go_enter Try.func39, Try.ntmps39
    go_wp2
    go_ret
    exact ⟨rfl, rfl⟩
  · have h1 : 1 ≤ t := by omega
    have h2 : ¬ t ≤ 8 := by omega
    have h3 : decide (t ≤ 8) = false := decide_eq_false h2
    go_enter Try.func39, Try.ntmps39
    go_wp2
    go_ret
    exact ⟨rfl, rfl⟩
theorem isahead_yes (t : Int) (w : World) (h1 : 1 ≤ t) (h2 : t ≤ 4) : Calls Try.prog 59 #[.int .i64 t] w fun e w' => e = .returned (.bool true) ∧ w = w' := by
  go_enter Try.func59, Try.ntmps59
  go_wp2
  go_ret
  exact ⟨rfl, rfl⟩
theorem isahead_no (t : Int) (w : World) (h : t < 1 ∨ 4 < t) : Calls Try.prog 59 #[.int .i64 t] w fun e w' => e = .returned (.bool false) ∧ w = w' := by
  rcases h with h | h
  · go_enter Try.func59, Try.ntmps59
    go_wp2
    go_ret
    exact ⟨rfl, rfl⟩
  · have h1 : 1 ≤ t := by omega
    have h2 : ¬ t ≤ 4 := by omega
    have h3 : decide (t ≤ 4) = false := decide_eq_false h2
    go_enter Try.func59, Try.ntmps59
    go_wp2
    go_ret
    exact ⟨rfl, rfl⟩
theorem rrange_yes (t : Int) (w : World) (h1 : 1 ≤ t) (h2 : t ≤ 8) : Calls Try.prog 43 #[.int .i64 t] w fun e w' => e = .returned (.int .i64 0) ∧ w = w' := by
  have h3 : decide (t < 1) = false := decide_eq_false (by omega)
  have h4 : decide (8 < t) = false := decide_eq_false (by omega)
  go_enter Try.func43, Try.ntmps43
  go_wp2
  go_ret
  exact ⟨rfl, rfl⟩
theorem rrange_no (t : Int) (w : World) (h : t < 1 ∨ 8 < t) : Calls Try.prog 43 #[.int .i64 t] w fun e w' => e = .returned (.int .i64 2) ∧ w = w' := by
  by_cases h1 : t < 1
  · clear h
    go_enter Try.func43, Try.ntmps43
    go_wp2
    go_ret
    exact ⟨rfl, rfl⟩
  · have h2 : 8 < t := by omega
    have h3 : decide (t < 1) = false := decide_eq_false h1
    clear h
    go_enter Try.func43, Try.ntmps43
    go_wp2
    go_ret
    exact ⟨rfl, rfl⟩
theorem wrap_u16_in (a : Int) (h1 : 0 ≤ a) (h2 : a ≤ 65535) : IntKind.u16.wrap a = a := by
  simp [IntKind.wrap, IntKind.bits, IntKind.signed]; omega
theorem issize_yes (n m : Nat) (w : World) (h1 : n ≤ m) (h2 : m ≤ 60000) : Calls Try.prog 40 #[.int .i64 n, .int .u16 m] w fun e w' => e = .returned (.bool true) ∧ w = w' := by
  have h3 := wrap_u16_in n (by omega) (by omega)
  have h4 : IntKind.i64.wrap (n : Int) = n := by simp [IntKind.wrap, IntKind.bits, IntKind.signed]; omega
  have h5 : (n : Int) ≤ m := by omega
  go_enter Try.func40, Try.ntmps40
  go_wp2
  go_ret
  exact ⟨rfl, rfl⟩
theorem issize_no (n m : Nat) (w : World) (h1 : m < n) (h2 : n ≤ 60000) : Calls Try.prog 40 #[.int .i64 n, .int .u16 m] w fun e w' => e = .returned (.bool false) ∧ w = w' := by
  have h3 := wrap_u16_in n (by omega) (by omega)
  have h5 : decide ((n : Int) ≤ m) = false := decide_eq_false (by omega)
  have h6 : ¬ (n : Int) ≤ m := by omega
  go_enter Try.func40, Try.ntmps40
  go_wp2
  go_ret
  exact ⟨rfl, rfl⟩
theorem chkP_mono {n a b c d t : Int} (h : chkP n a b c d t = 0) : chkP n a b c d 8 = 0 := by
  obtain ⟨l, h1, h2⟩ := pad5_look h
  have h3 := (chkP_yes h).2.1
  exact pad5_chk (okL_mono h1 h3) (by omega) (by omega) h2
/-- comparing looks that are right -/
theorem cmpE_ok {x y : List Int} (hx : okL 8 x) (hy : okL 8 y) {X Y : V5} (ex : pad5 x = X) (ey : pad5 y = Y) : cmpE X Y = (cmpL x y, 0) := by
  have h1 := pad5_chk (n := X.1) (a := X.2.1) (b := X.2.2.1) (c := X.2.2.2.1) (d := X.2.2.2.2) hx (by omega) (by omega) ex
  have h2 := pad5_chk (n := Y.1) (a := Y.2.1) (b := Y.2.2.1) (c := Y.2.2.2.1) (d := Y.2.2.2.2) hy (by omega) (by omega) ey
  unfold cmpE bothP
  rw [if_pos h1, if_neg (by simpa using h2), ← ex, ← ey, lst_pad hx.1, lst_pad hy.1]
set_option maxRecDepth 100000 in
set_option maxHeartbeats 1000000 in
theorem pcmp_any (n a b c d n' a' b' c' d' v : Int) (w : World) (H : Hid (cmpE (n, a, b, c, d) (n', a', b', c', d') = (v, 0))) : Calls Try.prog 42 #[.agg #[.int .i64 n, .int .i64 a, .int .i64 b, .int .i64 c, .int .i64 d], .agg #[.int .i64 n', .int .i64 a', .int .i64 b', .int .i64 c', .int .i64 d']] w fun e w' => e = .returned (.int .i64 v) ∧ Below w.heap.size w w' := by
  go_enter Try.func42, Try.ntmps42
  go_wp2_with (go_at_call 70; refine (pcompare_any n a b c d n' a' b' c' d' _ v 0 H).mono ?_; rintro e w1 ⟨rfl, hB⟩; have B1 := Lib.hid (made2 hB).2.2; clear hB)
  go_ret
  exact ⟨rfl, B1.out⟩
set_option maxRecDepth 100000 in
set_option maxHeartbeats 1000000 in
theorem rcmp_any (n a b c d n' a' b' c' d' v : Int) (w : World) (H : Hid (cmpE (n, a, b, c, d) (n', a', b', c', d') = (v, 0))) : Calls Try.prog 45 #[.agg #[.int .i64 n, .int .i64 a, .int .i64 b, .int .i64 c, .int .i64 d], .agg #[.int .i64 n', .int .i64 a', .int .i64 b', .int .i64 c', .int .i64 d']] w fun e w' => e = .returned (.int .i64 v) ∧ Below w.heap.size w w' := by
  go_enter Try.func45, Try.ntmps45
  go_wp2_with (go_at_call 71; refine (rcompare_any n a b c d n' a' b' c' d' _ v 0 H).mono ?_; rintro e w1 ⟨rfl, hB⟩; have B1 := Lib.hid (made2 hB).2.2; clear hB)
  go_ret
  exact ⟨rfl, B1.out⟩
end Go.Proofs.Ytdahaajfkjmflaa.s14

namespace Go.Proofs.Ytdahaajfkjmflaa.s14
set_option linter.unusedVariables false
set_option linter.unusedSimpArgs false
open Go.RowKit
open kit

open s13

def chkV (x : V5) (t : Int) : Int := chkP x.1 x.2.1 x.2.2.1 x.2.2.2.1 x.2.2.2.2 t
/-- what goes on behind the string p -/
def scanS (t : Int) : Option V5 → List V5 → Int
  | _, [] => 0
  | none, x :: l => if chkV x t ≠ 0 then chkV x t else scanS t (some x) l
  | some y, x :: l => if chkV x t ≠ 0 then chkV x t else if 0 ≤ (cmpE y x).1 then 9 else scanS t (some x) l
def chkS (t : Int) (l : List V5) : Int := if t < 1 ∨ 8 < t then 2 else if 4681 < l.length then 6 else scanS t none l
def last? (l : List V5) : Nat → Option V5
  | 0 => none
  | k + 1 => some (l[k]?.getD no5)
theorem cmpE_both {x y : V5} {t : Int} (hx : chkV x t = 0) (hy : chkV y t = 0) : (cmpE x y).2 = 0 := by
  have h1 := chkP_mono hx
  have h2 := chkP_mono hy
  unfold cmpE bothP
  rw [if_pos h1, if_neg (by simpa using h2)]
theorem cmpE_eta {x y : V5} {t : Int} (hx : chkV x t = 0) (hy : chkV y t = 0) : cmpE x y = ((cmpE x y).1, 0) := by rw [← cmpE_both hx hy]
theorem drop_get {l : List V5} {k : Nat} (h : k < l.length) : l.drop k = (l[k]?.getD no5) :: l.drop (k + 1) := by rw [List.getElem?_eq_getElem h]; exact List.drop_eq_getElem_cons h
theorem At5.later {w : World} {b o : Nat} {x : V5} (h : At5 w b o x) (p : Later w) : At5 p.W b o x := h.below p.h
set_option maxRecDepth 100000 in
set_option maxHeartbeats 2000000 in
theorem pcheck_range (t : Int) (a : Option Addr) (n c : Nat) (w : World) (h : t < 1 ∨ 8 < t) : Calls Try.prog 11 #[.int .i64 t, .slice a n c] w fun e w' => e = .returned (.int .i64 2) ∧ Below w.heap.size w w' := by
  go_enter Try.func11, Try.ntmps11
  go_wp2_with (go_at_call 39; refine (isterms_no t _ h).mono ?_; rintro e w1 ⟨rfl, rfl⟩)
  go_ret
  exact ⟨rfl, Below.refl _ _⟩
set_option maxRecDepth 100000 in
set_option maxHeartbeats 2000000 in
theorem pcheck_full (t : Int) (a : Option Addr) (n c : Nat) (w : World) (h1 : 1 ≤ t) (h2 : t ≤ 8) (hn : 4681 < n) (hm : n ≤ 60000) : Calls Try.prog 11 #[.int .i64 t, .slice a n c] w fun e w' => e = .returned (.int .i64 6) ∧ Below w.heap.size w w' := by
  have hq := issize_no n 4681 w hn hm
  go_enter Try.func11, Try.ntmps11
  go_wp2_with (first
    | (go_at_call 39; refine (isterms_yes t _ h1 h2).mono ?_; rintro e w1 ⟨rfl, rfl⟩)
    | (go_at_call 40; refine hq.mono ?_; rintro e w1 ⟨rfl, rfl⟩))
  go_ret
  exact ⟨rfl, Below.refl _ _⟩
set_option maxRecDepth 100000 in
set_option maxHeartbeats 4000000 in
theorem pcheck_scan (t : Int) (a : Option Addr) (c : Nat) (l : List V5) (w : World) (h1 : 1 ≤ t) (h2 : t ≤ 8) (hn : l.length ≤ 4681) (hr : Hid (Reads5 w a l)) (r : Int) (H : Hid (scanS t none l = r)) : Calls Try.prog 11 #[.int .i64 t, .slice a l.length c] w fun e w' => e = .returned (.int .i64 r) ∧ Below w.heap.size w w' := by
  have hq := issize_yes l.length 4681 w hn (by omega)
  go_enter Try.func11, Try.ntmps11
  go_wp2_with (first
    | (go_at_call 39; refine (isterms_yes t _ h1 h2).mono ?_; rintro e w1 ⟨rfl, rfl⟩)
    | (go_at_call 40; refine hq.mono ?_; rintro e w1 ⟨rfl, rfl⟩))
  clear hq
  go_loopw [17] (fun i wr => ∃ k : Nat, i = .int .i64 k ∧ k ≤ l.length ∧ Hid (scanS t (last? l k) (l.drop k) = r) ∧ Hid (∀ j, j < k → chkV (l[j]?.getD no5) t = 0) ∧ Hid (Below w.heap.size w wr)) (fun i _ => l.length - (intOf i).toNat)
  case atStart => exact ⟨0, rfl, by omega, H, Lib.hid (fun j hj => by omega), Lib.hid (Below.refl _ _)⟩
  case round =>
    obtain ⟨k, rfl, hk, HK, HV, HB⟩ := hrel
    by_cases hlt : k < l.length
    · obtain ⟨b, off, rfl, hb, c0, c1, c2, c3, c4⟩ := (hr.out.below HB.out) k hlt
      have HD := HK.out
      rw [drop_get hlt] at HD
      have HBs := HB.out.size
      have hprev : ∀ m, k = m + 1 → At5 wr b (off + m * 5) (l[m]?.getD no5) := fun m hm => by
        obtain ⟨b', off', e, hb', hat⟩ := (hr.out.below HB.out) m (by omega)
        cases e; exact hat
      have hV' := HV.out
      rcases k with _ | m
      · have hx0 : l[0]?.getD no5 = l[0]?.getD no5 := rfl
        have hnext : chkV (l[0]?.getD no5) t = 0 → ∀ j, j < 0 + 1 → chkV (l[j]?.getD no5) t = 0 := fun h j hj => by (have e : j = 0 := by omega); rw [e]; exact h
        have hl1 : last? l (0 + 1) = some (l[0]?.getD no5) := rfl
        rw [show last? l 0 = none from rfl] at HD
        rw [Nat.zero_mul, Nat.add_zero] at c0 c1 c2 c3 c4
        clear hx0 hprev hV' HK HV
        have HN := Lib.hid hnext
        have HL := Lib.hid hl1
        clear hnext hl1
        generalize l[0]?.getD no5 = x at c0 c1 c2 c3 c4 HD HN HL
        obtain ⟨n, x0, x1, x2, x3⟩ := x
        simp only at c0 c1 c2 c3 c4
        rw [scanS] at HD
        by_cases hz : chkV (n, x0, x1, x2, x3) t = 0
        · rw [if_neg (by simpa using hz)] at HD
          have HZ : Hid (chkP n x0 x1 x2 x3 t = 0) := Lib.hid hz
          have HD2 := Lib.hid HD
          have HN2 := Lib.hid (HN.out hz)
          clear hz HD HN
          go_wp2_with (go_at_call 41; refine (pcheck_any n x0 x1 x2 x3 t 0 _ HZ).mono ?_; rintro e w1 ⟨rfl, hB⟩; have B1 := Lib.hid (below_on (HB.out.alloc HBs (.cells #[.int .i64 n, .int .i64 x0, .int .i64 x1, .int .i64 x2, .int .i64 x3] 25)) (Nat.le_refl _) hB); clear hB)
          clear c0 c1 c2 c3 c4
          refine wp_region_later (by kernel_rfl) (by kernel_rfl) ?_
          repeat (go_big_quiet_step (fail))
          refine wpQuiet_nil ?_
          rintro w5 ⟨p5, rfl⟩
          have B5 := Lib.hid (below_then B1.out p5.h)
          generalize p5.W = w6 at B5 ⊢
          go_wp2
          go_roundw
          case rel => exact ⟨0 + 1, by go_num, by omega, by rw [HL.out]; exact HD2, HN2, B5⟩
          case measure => simp [intOf]; omega
        · rw [if_pos hz] at HD
          have hz2 : (r != 0) = true := by rw [HD] at hz; simpa using hz
          have HZ : Hid (chkP n x0 x1 x2 x3 t = r) := Lib.hid HD
          clear hz HD HN
          go_wp2_with (go_at_call 41; refine (pcheck_any n x0 x1 x2 x3 t r _ HZ).mono ?_; rintro e w1 ⟨rfl, hB⟩; have B1 := Lib.hid (below_on (HB.out.alloc HBs (.cells #[.int .i64 n, .int .i64 x0, .int .i64 x1, .int .i64 x2, .int .i64 x3] 25)) (Nat.le_refl _) hB); clear hB)
          go_ret
          exact ⟨rfl, B1.out⟩
      · have hnext : chkV (l[m + 1]?.getD no5) t = 0 → ∀ j, j < m + 1 + 1 → chkV (l[j]?.getD no5) t = 0 := fun h j hj => by
          by_cases e : j = m + 1
          · subst e; exact h
          · exact hV' j (by omega)
        have hl1 : last? l (m + 1 + 1) = some (l[m + 1]?.getD no5) := rfl
        rw [show last? l (m + 1) = some (l[m]?.getD no5) from rfl] at HD
        have hvm := hV' m (by omega)
        obtain ⟨d0, d1, d2, d3, d4⟩ := hprev m rfl
        clear hprev hV' HK HV
        have HN := Lib.hid hnext
        have HL := Lib.hid hl1
        clear hnext hl1
        generalize l[m + 1]?.getD no5 = x at c0 c1 c2 c3 c4 HD HN HL
        generalize l[m]?.getD no5 = y at d0 d1 d2 d3 d4 HD hvm
        obtain ⟨n, x0, x1, x2, x3⟩ := x
        obtain ⟨n', y0, y1, y2, y3⟩ := y
        simp only at c0 c1 c2 c3 c4 d0 d1 d2 d3 d4
        rw [scanS] at HD
        by_cases hz : chkV (n, x0, x1, x2, x3) t = 0
        · rw [if_neg (by simpa using hz)] at HD
          have HZ : Hid (chkP n x0 x1 x2 x3 t = 0) := Lib.hid hz
          have HE := cmpE_eta hvm hz
          have HN2 := Lib.hid (HN.out hz)
          generalize (cmpE (n', y0, y1, y2, y3) (n, x0, x1, x2, x3)).1 = v at HE HD
          have HC := Lib.hid HE
          clear hz HN hvm HE
          have hm0 : (0 : Int) < ((m + 1 : Nat) : Int) := by omega
          have hmm : ((m + 1 : Nat) : Int) - 1 = (m : Int) := by omega
          have hml : m < l.length := by omega
          have HA := Lib.hid (show At5 wr b (off + m * 5) (n', y0, y1, y2, y3) from ⟨d0, d1, d2, d3, d4⟩)
          clear d0 d1 d2 d3 d4
          go_wp2_with (go_at_call 41; refine (pcheck_any n x0 x1 x2 x3 t 0 _ HZ).mono ?_; rintro e w1 ⟨rfl, hB⟩; have B1 := Lib.hid (below_on (HB.out.alloc HBs (.cells #[.int .i64 n, .int .i64 x0, .int .i64 x1, .int .i64 x2, .int .i64 x3] 25)) (Nat.le_refl _) hB); have X1 := Lib.hid (made1 hB).1; have A1 := Lib.hid (HA.out.below (made1 hB).2); clear hB)
          clear c0 c1 c2 c3 c4
          generalize wr.heap.size = g at X1
          have z := fun p : Later w1 => later_cells X1.out p
          have z0 := fun p : Later w1 => (z p).1
          have z1 := fun p : Later w1 => (z p).2.1
          have z2 := fun p : Later w1 => (z p).2.2.1
          have z3 := fun p : Later w1 => (z p).2.2.2.1
          have z4 := fun p : Later w1 => (z p).2.2.2.2
          have y := fun p : Later w1 => At5.later A1.out p
          have e0 := fun p : Later w1 => (y p).1
          have e1 := fun p : Later w1 => (y p).2.1
          have e2 := fun p : Later w1 => (y p).2.2.1
          have e3 := fun p : Later w1 => (y p).2.2.2.1
          have e4 := fun p : Later w1 => (y p).2.2.2.2
          clear z y
          by_cases hv : 0 ≤ v
          · rw [if_pos hv] at HD
            have hvd : decide (0 ≤ v) = true := decide_eq_true hv
            have HD9 := Lib.hid HD
            clear HD
            refine wp_region_later (by kernel_rfl) (by kernel_rfl) ?_
            repeat (go_big_quiet_step ((first | (go_at_call 42; exact calls_later (pcmp_any n' y0 y1 y2 y3 n x0 x1 x2 x3 v _ HC)))))
            refine wpQuiet_nil ?_
            rintro w5 ⟨p5, rfl⟩
            have B5 := Lib.hid (below_then B1.out p5.h)
            generalize p5.W = w6 at B5 ⊢
            go_wp2
            go_ret
            exact ⟨ret_int HD9.out, B5.out⟩
          · rw [if_neg hv] at HD
            have hvd : decide (0 ≤ v) = false := decide_eq_false hv
            have HD9 := Lib.hid HD
            clear HD
            refine wp_region_later (by kernel_rfl) (by kernel_rfl) ?_
            repeat (go_big_quiet_step ((first | (go_at_call 42; exact calls_later (pcmp_any n' y0 y1 y2 y3 n x0 x1 x2 x3 v _ HC)))))
            refine wpQuiet_nil ?_
            rintro w5 ⟨p5, rfl⟩
            have B5 := Lib.hid (below_then B1.out p5.h)
            generalize p5.W = w6 at B5 ⊢
            go_wp2
            go_roundw
            case rel => exact ⟨m + 1 + 1, by go_num, by omega, by rw [HL.out]; exact HD9, HN2, B5⟩
            case measure => simp [intOf]; omega
        · rw [if_pos hz] at HD
          have hz2 : (r != 0) = true := by rw [HD] at hz; simpa using hz
          have HZ : Hid (chkP n x0 x1 x2 x3 t = r) := Lib.hid HD
          clear hz HD HN hvm
          go_wp2_with (go_at_call 41; refine (pcheck_any n x0 x1 x2 x3 t r _ HZ).mono ?_; rintro e w1 ⟨rfl, hB⟩; have B1 := Lib.hid (below_on (HB.out.alloc HBs (.cells #[.int .i64 n, .int .i64 x0, .int .i64 x1, .int .i64 x2, .int .i64 x3] 25)) (Nat.le_refl _) hB); clear hB)
          go_ret
          exact ⟨rfl, B1.out⟩
    · obtain rfl : k = l.length := by omega
      have h0 := HK.out
      rw [List.drop_length] at h0
      have H0 : Hid (0 = r) := Lib.hid (by rw [← h0]; cases last? l l.length <;> rfl)
      clear h0
      go_wp2
      go_ret
      exact ⟨ret_int H0.out, HB.out⟩
end Go.Proofs.Ytdahaajfkjmflaa.s14

namespace Go.Proofs.Ytdahaajfkjmflaa.s14
set_option linter.unusedVariables false
set_option linter.unusedSimpArgs false
open Go.RowKit
open kit

open s13

theorem pset_any (t : Int) (a : Option Addr) (n c : Nat) (l : List V5) (w : World) (hl : Hid (l.length = n)) (hn : n ≤ 60000) (hr : Hid (Reads5 w a l)) (r : Int) (H : Hid (chkS t l = r)) : Calls Try.prog 11 #[.int .i64 t, .slice a n c] w fun e w' => e = .returned (.int .i64 r) ∧ Below w.heap.size w w' := by
  have h := H.out
  obtain rfl := hl.out
  unfold chkS at h
  by_cases ht : t < 1 ∨ 8 < t
  · rw [if_pos ht] at h; subst h
    exact pcheck_range t a _ c w ht
  · rw [if_neg ht] at h
    by_cases hf : 4681 < l.length
    · rw [if_pos hf] at h; subst h
      exact pcheck_full t a _ c w (by omega) (by omega) hf hn
    · rw [if_neg hf] at h
      exact pcheck_scan t a c l w (by omega) (by omega) (by omega) hr r (Lib.hid h)
/-- a set in memory: strings, in order, right for t -/
def isSet (t : Int) (l : List V5) (L : List (List Int)) : Prop := l = L.map pad5 ∧ Asc L ∧ (∀ x ∈ L, okL t x)
theorem chkV_look {x : V5} {t : Int} (h : chkV x t = 0) : ∃ y, okL t y ∧ pad5 y = x := by
  obtain ⟨n, a, b, c, d⟩ := x
  exact pad5_look h
theorem chkV_pad {y : List Int} {t : Int} (h : okL t y) (t1 : 1 ≤ t) (t2 : t ≤ 8) : chkV (pad5 y) t = 0 := pad5_chk h t1 t2 rfl
theorem chkV_t {x : V5} {t : Int} (h : chkV x t = 0) : 1 ≤ t ∧ t ≤ 8 := ⟨(chkP_yes h).1, (chkP_yes h).2.1⟩
theorem cmpE_pad {x y : List Int} (hx : okL 8 x) (hy : okL 8 y) : cmpE (pad5 x) (pad5 y) = (cmpL x y, 0) := cmpE_ok hx hy rfl rfl
theorem scanS_set (t : Int) (ht : t ≤ 8) : ∀ (l : List V5) (p : Option V5), scanS t p l = 0 → (∀ y, p = some y → chkV y t = 0) → ∃ L, l = L.map pad5 ∧ (∀ x ∈ L, okL t x) ∧ Asc L ∧ ∀ y, p = some (pad5 y) → okL 8 y → ∀ x ∈ L, cmpL y x < 0 := by
  intro l
  induction l with
  | nil => intro p _ _; exact ⟨[], rfl, by simp, asc_nil, by simp⟩
  | cons x l ih =>
    intro p h hp
    rcases p with _ | y
    · rw [scanS] at h
      by_cases hz : chkV x t = 0
      · rw [if_neg (by simpa using hz)] at h
        obtain ⟨L, e, h1, h2, h3⟩ := ih (some x) h (fun y hy => by cases hy; exact hz)
        obtain ⟨u, hu, rfl⟩ := chkV_look hz
        have hu8 := okL_mono hu ht
        exact ⟨u :: L, by rw [e]; rfl, fun z hz => by rcases List.mem_cons.1 hz with rfl | hz; exact hu; exact h1 z hz, asc_cons.2 ⟨h3 u rfl hu8, h2⟩, fun y hy => by cases hy⟩
      · rw [if_pos hz] at h; exact absurd h hz
    · rw [scanS] at h
      by_cases hz : chkV x t = 0
      · rw [if_neg (by simpa using hz)] at h
        by_cases hc : 0 ≤ (cmpE y x).1
        · rw [if_pos hc] at h; cases h
        · rw [if_neg hc] at h
          obtain ⟨L, e, h1, h2, h3⟩ := ih (some x) h (fun y hy => by cases hy; exact hz)
          obtain ⟨u, hu, rfl⟩ := chkV_look hz
          have hu8 := okL_mono hu ht
          refine ⟨u :: L, by rw [e]; rfl, fun z hz => by rcases List.mem_cons.1 hz with rfl | hz; exact hu; exact h1 z hz, asc_cons.2 ⟨h3 u rfl hu8, h2⟩, fun v hv hv8 z hz => ?_⟩
          cases hv
          rw [cmpE_pad hv8 hu8] at hc
          have hlt : cmpL v u < 0 := by simpa using hc
          rcases List.mem_cons.1 hz with rfl | hz
          · exact hlt
          · exact cmpL_strict v u z hlt (by have := h3 u rfl hu8 z hz; omega)
      · rw [if_pos hz] at h; exact absurd h hz
theorem chkS_t {t : Int} {l : List V5} (h : chkS t l = 0) : 1 ≤ t ∧ t ≤ 8 ∧ l.length ≤ 4681 := by
  unfold chkS at h
  split at h
  · cases h
  · split at h
    · cases h
    · omega
theorem chkS_set {t : Int} {l : List V5} (h : chkS t l = 0) : ∃ L, isSet t l L := by
  obtain ⟨t1, t2, hn⟩ := chkS_t h
  unfold chkS at h
  rw [if_neg (by omega), if_neg (by omega)] at h
  obtain ⟨L, h1, h2, h3, _⟩ := scanS_set t t2 l none h (fun y hy => by cases hy)
  exact ⟨L, h1, h3, h2⟩
theorem scanS_yes (t : Int) (t1 : 1 ≤ t) (t2 : t ≤ 8) : ∀ (L : List (List Int)) (p : Option V5), Asc L → (∀ x ∈ L, okL t x) → (∀ v, p = some v → ∃ y, v = pad5 y ∧ okL 8 y ∧ ∀ x ∈ L, cmpL y x < 0) → scanS t p (L.map pad5) = 0 := by
  intro L
  induction L with
  | nil => intro p _ _ _; rw [List.map_nil]; cases p <;> rfl
  | cons x L ih =>
    intro p ha ho hp
    have ha2 := asc_cons.1 ha
    have hx := ho x (List.mem_cons_self ..)
    have hz := chkV_pad hx t1 t2
    have hr := ih (some (pad5 x)) ha2.2 (fun y hy => ho y (List.mem_cons_of_mem _ hy)) (fun v hv => by cases hv; exact ⟨x, rfl, okL_mono hx t2, ha2.1⟩)
    rw [List.map_cons]
    rcases p with _ | v
    · rw [scanS, if_neg (by simpa using hz)]; exact hr
    · obtain ⟨y, rfl, hy, hlt⟩ := hp v rfl
      rw [scanS, if_neg (by simpa using hz), if_neg, hr]
      rw [cmpE_pad hy (okL_mono hx t2)]
      have := hlt x (List.mem_cons_self ..)
      simp; omega
theorem chkS_yes {t : Int} (t1 : 1 ≤ t) (t2 : t ≤ 8) {L : List (List Int)} (ha : Asc L) (ho : ∀ x ∈ L, okL t x) (hn : L.length ≤ 4681) : chkS t (L.map pad5) = 0 := by
  unfold chkS
  rw [if_neg (by omega), if_neg (by rw [List.length_map]; omega)]
  exact scanS_yes t t1 t2 L none ha ho (fun v hv => by cases hv)
theorem isSet_len {t : Int} {l : List V5} {L : List (List Int)} (h : isSet t l L) : l.length = L.length := by rw [h.1, List.length_map]
theorem isSet_at {t : Int} {l : List V5} {L : List (List Int)} (h : isSet t l L) (i : Nat) : l[i]?.getD no5 = pad5 (L[i]?.getD []) := by
  rw [h.1, List.getElem?_map]
  cases L[i]? with
  | none => rfl
  | some x => rfl
/-- the first error of some lists -/
def chkM (t : Int) : List (List V5) → Int
  | [] => 0
  | l :: ls => if chkS t l ≠ 0 then chkS t l else chkM t ls
def chkA (t : Int) (ls : List (List V5)) : Int := if t < 1 ∨ 8 < t then 2 else chkM t ls
end Go.Proofs.Ytdahaajfkjmflaa.s14

namespace Go.Proofs.Ytdahaajfkjmflaa.s14
set_option linter.unusedVariables false
set_option linter.unusedSimpArgs false
open Go.RowKit
open kit

open s13

abbrev SL := Option Addr × Nat × Nat
def slV (x : SL) : Value := .slice x.1 x.2.1 x.2.2
def noSL : SL := (none, 0, 0)
/-- a list of lists of looks -/
def Grid (w : World) (a : Option Addr) (ls : List (List V5)) : Prop := ∃ hs : List SL, hs.length = ls.length ∧ Reads slV noSL w a hs ∧ ∀ i, i < ls.length → (hs[i]?.getD noSL).2.1 = (ls[i]?.getD []).length ∧ Reads5 w (hs[i]?.getD noSL).1 (ls[i]?.getD [])
theorem Grid.below {w w' : World} {a : Option Addr} {ls : List (List V5)} (h : Grid w a ls) (hB : Below w.heap.size w w') : Grid w' a ls := by
  obtain ⟨hs, h1, h2, h3⟩ := h
  exact ⟨hs, h1, h2.below hB, fun i hi => ⟨(h3 i hi).1, (h3 i hi).2.below hB⟩⟩
theorem Grid.at {w : World} {a : Option Addr} {ls : List (List V5)} (h : Grid w a ls) {i : Nat} (hi : i < ls.length) : ∃ b off ai ci, a = some ⟨b, off, none⟩ ∧ b < w.heap.size ∧ w.cell? ⟨b, off + i, none⟩ = some (.slice ai (ls[i]?.getD []).length ci) ∧ Reads5 w ai (ls[i]?.getD []) := by
  obtain ⟨hs, h1, h2, h3⟩ := h
  obtain ⟨b, off, rfl, hb, hc⟩ := h2 i (by omega)
  obtain ⟨e, hr⟩ := h3 i hi
  refine ⟨b, off, _, (hs[i]?.getD noSL).2.2, rfl, hb, ?_, hr⟩
  rw [hc]; unfold slV; rw [e]
/-- a block of headers -/
theorem grid_block {w : World} {t : TypeId} {g : Nat} {cs : Array Value} {hs : List SL} {ls : List (List V5)} (h : w.heap[g]? = some (.cells cs t (0, 0))) (e : cs.toList = hs.map slV) (hl : hs.length = ls.length) (h3 : ∀ i, i < ls.length → (hs[i]?.getD noSL).2.1 = (ls[i]?.getD []).length ∧ Reads5 w (hs[i]?.getD noSL).1 (ls[i]?.getD [])) : Grid w (some ⟨g, 0, none⟩) ls := by
  refine ⟨hs, hl, fun i hi => ⟨g, 0, rfl, (Array.getElem?_eq_some_iff.1 h).1, ?_⟩, h3⟩
  rw [Nat.zero_add]
  unfold World.cell?
  rw [h]
  show cs[i]? = _
  rw [← Array.getElem?_toList, e, List.getElem?_map, List.getElem?_eq_getElem hi]
  rfl
theorem grid2 {w : World} {t : TypeId} {g : Nat} {a b : Option Addr} {n m ca cb : Nat} {l k : List V5} (h : w.heap[g]? = some (.cells #[.slice a n ca, .slice b m cb] t (0, 0))) (el : l.length = n) (ek : k.length = m) (hl : Reads5 w a l) (hk : Reads5 w b k) : Grid w (some ⟨g, 0, none⟩) [l, k] :=
  grid_block (hs := [(a, n, ca), (b, m, cb)]) h rfl rfl (fun i hi => by
    have : i = 0 ∨ i = 1 := by simp at hi; omega
    rcases this with rfl | rfl
    · exact ⟨el.symm, hl⟩
    · exact ⟨ek.symm, hk⟩)
theorem grid3 {w : World} {t : TypeId} {g : Nat} {a b d : Option Addr} {n m o ca cb cd : Nat} {l k j : List V5} (h : w.heap[g]? = some (.cells #[.slice a n ca, .slice b m cb, .slice d o cd] t (0, 0))) (el : l.length = n) (ek : k.length = m) (ej : j.length = o) (hl : Reads5 w a l) (hk : Reads5 w b k) (hj : Reads5 w d j) : Grid w (some ⟨g, 0, none⟩) [l, k, j] :=
  grid_block (hs := [(a, n, ca), (b, m, cb), (d, o, cd)]) h rfl rfl (fun i hi => by
    have : i = 0 ∨ i = 1 ∨ i = 2 := by simp at hi; omega
    rcases this with rfl | rfl | rfl
    · exact ⟨el.symm, hl⟩
    · exact ⟨ek.symm, hk⟩
    · exact ⟨ej.symm, hj⟩)
set_option maxRecDepth 100000 in
set_option maxHeartbeats 2000000 in
theorem checkall_any (t : Int) (a : Option Addr) (n c : Nat) (ls : List (List V5)) (w : World) (hn : Hid (ls.length = n)) (hn2 : n ≤ 1000) (hm : Hid (∀ i, i < ls.length → (ls[i]?.getD []).length ≤ 60000)) (hr : Hid (Grid w a ls)) (r : Int) (H : Hid (chkA t ls = r)) : Calls Try.prog 51 #[.int .i64 t, .slice a n c] w fun e w' => e = .returned (.int .i64 r) ∧ Below w.heap.size w w' := by
  have h := H.out
  unfold chkA at h
  by_cases ht : t < 1 ∨ 8 < t
  · rw [if_pos ht] at h; subst h
    go_enter Try.func51, Try.ntmps51
    go_wp2_with (go_at_call 39; refine (isterms_no t _ ht).mono ?_; rintro e w1 ⟨rfl, rfl⟩)
    go_ret
    exact ⟨rfl, Below.refl _ _⟩
  · rw [if_neg ht] at h
    have HC := Lib.hid h
    have h1 : 1 ≤ t := by omega
    have h2 : t ≤ 8 := by omega
    clear h ht
    go_enter Try.func51, Try.ntmps51
    go_wp2_with (go_at_call 39; refine (isterms_yes t _ h1 h2).mono ?_; rintro e w1 ⟨rfl, rfl⟩)
    go_loopw [13] (fun i wr => ∃ k : Nat, i = .int .i64 k ∧ k ≤ n ∧ Hid (chkM t (ls.drop k) = r) ∧ Hid (Below w.heap.size w wr)) (fun i _ => n - (intOf i).toNat)
    case atStart => exact ⟨0, rfl, by omega, HC, Lib.hid (Below.refl _ _)⟩
    case round =>
      obtain ⟨k, rfl, hk, HK, HB⟩ := hrel
      by_cases hlt : k < n
      · have hkl : k < ls.length := by have := hn.out; omega
        obtain ⟨b, off, ai, ci, rfl, hb, c0, hr5⟩ := (hr.out.below HB.out).at hkl
        have hd : ls.drop k = (ls[k]?.getD []) :: ls.drop (k + 1) := by rw [List.getElem?_eq_getElem hkl]; exact List.drop_eq_getElem_cons hkl
        have HD := HK.out
        rw [hd] at HD
        have hsz := hm.out k hkl
        clear hd HK
        generalize ls[k]?.getD [] = x at c0 hr5 HD hsz
        have HR5 := Lib.hid hr5
        clear hr5 hkl
        unfold chkM at HD
        by_cases hz : chkS t x = 0
        · rw [if_neg (by simpa using hz)] at HD
          have HZ := Lib.hid hz
          have HD2 := Lib.hid HD
          clear hz HD
          go_wp2_with (go_at_call 11; refine (pset_any t ai x.length ci x _ (Lib.hid rfl) hsz HR5 0 HZ).mono ?_; rintro e w1 ⟨rfl, hB⟩; have B1 := Lib.hid (below_then HB.out hB); clear hB)
          go_roundw
          case rel => exact ⟨k + 1, by go_num, by omega, HD2, B1⟩
          case measure => simp [intOf]; omega
        · rw [if_pos hz] at HD
          have hz2 : (r != 0) = true := by rw [HD] at hz; simpa using hz
          have HZ := Lib.hid HD
          clear hz HD
          go_wp2_with (go_at_call 11; refine (pset_any t ai x.length ci x _ (Lib.hid rfl) hsz HR5 r HZ).mono ?_; rintro e w1 ⟨rfl, hB⟩; have B1 := Lib.hid (below_then HB.out hB); clear hB)
          go_ret
          exact ⟨rfl, B1.out⟩
      · obtain rfl : k = n := by omega
        have h0 := HK.out
        rw [List.drop_of_length_le (by have := hn.out; omega)] at h0
        have H0 : Hid (0 = r) := Lib.hid h0
        clear h0
        go_wp2
        go_ret
        exact ⟨ret_int H0.out, HB.out⟩
end Go.Proofs.Ytdahaajfkjmflaa.s14

namespace Go.Proofs.Ytdahaajfkjmflaa.s14
set_option linter.unusedVariables false
set_option linter.unusedSimpArgs false
open Go.RowKit
open kit

open s13

def cmpV : Value := .func (.func 42) #[] #[]
set_option maxRecDepth 100000 in
set_option maxHeartbeats 1000000 in
theorem heads_left (a b : Option Addr) (ca cb m : Nat) (w : World) : Calls Try.prog 77 #[.slice a 0 ca, .slice b m cb, .func (.func 42) #[] #[]] w fun e w' => e = .returned (.int .i64 1) ∧ w = w' := by
  go_enter Try.func77, Try.ntmps77
  go_wp2
  go_ret
  exact ⟨rfl, rfl⟩
set_option maxRecDepth 100000 in
set_option maxHeartbeats 1000000 in
theorem heads_right (a b : Option Addr) (ca cb n : Nat) (w : World) (hn : 0 < n) : Calls Try.prog 77 #[.slice a n ca, .slice b 0 cb, .func (.func 42) #[] #[]] w fun e w' => e = .returned (.int .i64 (-1)) ∧ w = w' := by
  have h1 : ¬ n = 0 := by omega
  have h2 : decide ((n : Int) = 0) = false := decide_eq_false (by omega)
  go_enter Try.func77, Try.ntmps77
  go_wp2
  go_ret
  exact ⟨rfl, rfl⟩
set_option maxRecDepth 100000 in
set_option maxHeartbeats 2000000 in
theorem heads_both (a b : Option Addr) (ca cb n m : Nat) (w : World) (hn : 0 < n) (hm : 0 < m) (ga gb oa ob : Nat) (x0 x1 x2 x3 x4 y0 y1 y2 y3 y4 v : Int) (ea : a = some ⟨ga, oa, none⟩) (eb : b = some ⟨gb, ob, none⟩) (hx : Hid (At5 w ga oa (x0, x1, x2, x3, x4))) (hy : Hid (At5 w gb ob (y0, y1, y2, y3, y4))) (H : Hid (cmpE (x0, x1, x2, x3, x4) (y0, y1, y2, y3, y4) = (v, 0))) :
    Calls Try.prog 77 #[.slice a n ca, .slice b m cb, .func (.func 42) #[] #[]] w fun e w' => e = .returned (.int .i64 v) ∧ Below w.heap.size w w' := by
  subst ea eb
  have h1 : ¬ n = 0 := by omega
  have h2 : ¬ m = 0 := by omega
  have h3 : decide ((n : Int) = 0) = false := decide_eq_false (by omega)
  have h4 : decide ((m : Int) = 0) = false := decide_eq_false (by omega)
  go_enter Try.func77, Try.ntmps77
  go_wp2
  have y := fun p : Later w => At5.later hx.out p
  have z := fun p : Later w => At5.later hy.out p
  have e0 := fun p : Later w => (y p).1
  have e1 := fun p : Later w => (y p).2.1
  have e2 := fun p : Later w => (y p).2.2.1
  have e3 := fun p : Later w => (y p).2.2.2.1
  have e4 := fun p : Later w => (y p).2.2.2.2
  have z0 := fun p : Later w => (z p).1
  have z1 := fun p : Later w => (z p).2.1
  have z2 := fun p : Later w => (z p).2.2.1
  have z3 := fun p : Later w => (z p).2.2.2.1
  have z4 := fun p : Later w => (z p).2.2.2.2
  clear y z
  refine wp_region_later (by kernel_rfl) (by kernel_rfl) ?_
  repeat (go_big_quiet_step ((first | (go_at_call 42; exact calls_later (pcmp_any x0 x1 x2 x3 x4 y0 y1 y2 y3 y4 v _ H)))))
  refine wpQuiet_nil ?_
  rintro w5 ⟨p5, rfl⟩
  go_wp2
  go_ret
  exact ⟨rfl, p5.h⟩
end Go.Proofs.Ytdahaajfkjmflaa.s14

namespace Go.Proofs.Ytdahaajfkjmflaa.kit
set_option linter.unusedVariables false
set_option linter.unusedSimpArgs false
set_option linter.unnecessarySimpa false
open Go Go.RowKit Go.Shelf

section
variable {F : Fence} {n : Nat} {P : Program} {w : World}
/-- what is said of the state, the iterator's blocks being Z: it abides new blocks, claimed or not, and a turn of a claimed one -/
structure AbZ {β : Type} (J : β → (Nat → Prop) → World → Prop) : Prop where
  size : ∀ s Z W, J s Z W → ∀ r, Z r → r < W.heap.size
  grown : ∀ s Z W W', J s Z W → W.grownBy W' none → J s Z W'
  claim : ∀ s Z W o, J s Z W → J s (fun r => Z r ∨ r = W.heap.size) (W.alloc o)
  turn : ∀ s Z W W' r, J s Z W → Z r → W.grownBy W' (some r) → J s Z W'
  less : ∀ s Z Z' W, J s Z W → (∀ r, Z' r → Z r) → J s Z' W
def KeepZ (Z : Nat → Prop) (W W' : World) : Prop := ∀ r, Z r → W'.heap[r]? = W.heap[r]?
theorem KeepZ.trans {Z : Nat → Prop} {A B C : World} (h : KeepZ Z A B) (k : KeepZ Z B C) : KeepZ Z A C := fun r hr => (k r hr).trans (h r hr)
theorem KeepZ.refl (Z : Nat → Prop) (A : World) : KeepZ Z A A := fun _ _ => rfl
theorem AbZ.alloc {β : Type} {J : β → (Nat → Prop) → World → Prop} (h : AbZ J) {s : β} {Z : Nat → Prop} {W : World} (o : Obj) (hs : J s Z W) : J s Z (W.alloc o) := h.grown _ _ _ _ hs (World.grownBy_alloc W o none)
/-- the contract of such an iterator; R: what its captured variables hold where it is called -/
def SeqZ {α : Type} (F : Fence) (n : Nat) (P : Program) (g : Nat) (lb : Array Value) (encs : α → Array Value) (Z0 : Nat → Prop) (S Sp : List α → Prop) (N : Nat) (R : World → Prop) : Prop :=
  ∀ (l : Nat) (J Jx : List α → (Nat → Prop) → World → Prop) (W : World), R W → AbZ J → AbZ Jx →
    (∀ pre x Z W1, J pre Z W1 → (∀ r, Z0 r → Z r) → pre.length < N → YieldAt F (n - 1) P l (encs x) W1 fun e W' =>
      (e = .returned (.bool true) ∧ J (pre ++ [x]) Z W' ∧ KeepZ Z W1 W') ∨ (e = .returned (.bool false) ∧ Jx (pre ++ [x]) Z W' ∧ KeepZ Z W1 W')) →
    J [] Z0 W →
    CallsIn F n P g (#[.func (.yield l) #[] #[]] ++ lb) W fun e W' => (∃ v, e = .returned v) ∧ ((∃ xs, S xs ∧ J xs Z0 W') ∨ (∃ pre, Sp pre ∧ Jx pre Z0 W'))
/-- what a round owes -/
def postZ {β : Type} (B : Nat) (Z : Nat → Prop) (I : β → (Nat → Prop) → World → Prop) (Ix : Code → β → (Nat → Prop) → World → Prop) (s : β) (W : World) : Exit → Act → World → Prop
  | .normal, _, W3 => KeepZ (fun r => Z r ∨ r = B ∨ r = B + 1) W W3 ∧ I s Z W3
  | .ret, _, W3 => KeepZ (fun r => Z r ∨ r = B ∨ r = B + 1) W W3 ∧ Ix .ret s Z W3
  | .exit id, _, W3 => KeepZ (fun r => Z r ∨ r = B ∨ r = B + 1) W W3 ∧ Ix (.exit id) s Z W3
  | .goto t, _, W3 => KeepZ (fun r => Z r ∨ r = B ∨ r = B + 1) W W3 ∧ Ix (.goto t) s Z W3
  | _, _, _ => False

theorem wpIn_rangeFunc_ownZ {α : Type} {g : Operand} {ps : Array Tmp} {assign body : Code} {Q : Exit → Act → World → Prop} {a : Act}
    (hro : F.round = none) (h1 : 1 ≤ n) {gf : Nat} {lb : Array Value} (hg : a.eval g = .func (.func gf) #[] lb) (hFg : F.fn gf) (eg : ∀ args w, (callFunc gf args).run P w = .ok (.enter gf args) w)
    {encs : α → Array Value} {Z0 : Nat → Prop} {S Sp : List α → Prop} {N : Nat} {R : World → Prop} (hseq : SeqZ F (n - 1) P gf lb encs Z0 S Sp N R)
    (hR : ∀ o o', R ((w.alloc o).alloc o')) (hps : ∀ x, (encs x).size = ps.size) (hZ0 : ∀ r, Z0 r → r < w.heap.size)
    (I : List α → (Nat → Prop) → World → Prop) (Ix : Code → List α → (Nat → Prop) → World → Prop) (hI : AbZ I) (hIx : ∀ c, AbZ (Ix c))
    (hIo : ∀ s Z W k o o', I s Z W → (k = w.heap.size ∨ k = w.heap.size + 1) → W.heap[k]? = some o → o.isCells = false → I s Z (W.putObj k o'))
    (hIxo : ∀ c s Z W k o o', Ix c s Z W → (k = w.heap.size ∨ k = w.heap.size + 1) → W.heap[k]? = some o → o.isCells = false → Ix c s Z (W.putObj k o'))
    (h0 : ∀ o o', I [] Z0 ((w.alloc o).alloc o')) (Ax : α → Act → World → Prop) (hAx : ∀ x a' W k o o', Ax x a' W → W.heap[k]? = some o → o.isCells = false → Ax x a' (W.putObj k o'))
    (hassign : ∀ (l : Nat) (pre : List α) (x : α) (Z : Nat → Prop) (W : World) (K : Act → World → Prop), I pre Z W → w.heap.size + 1 < W.heap.size → (∀ a' W', KeepZ (fun r => Z r ∨ r = w.heap.size ∨ r = w.heap.size + 1) W W' → I pre Z W' → Ax x a' W' → K a' W') →
      assign.wpIn (F.inRound l) (n - 1 - 1) P (Exit.then K (fun _ _ _ => False)) { tmps := (ps.zip (encs x)).foldl (fun t (p, v) => t.setIfInBounds p v) a.tmps, defers := [] } W)
    (hbody : ∀ (l : Nat) (pre : List α) (x : α) (a' : Act) (Z : Nat → Prop) (W : World), I pre Z W → Ax x a' W → (∀ r, Z0 r → Z r) → (∀ r, Z r → r ≠ w.heap.size ∧ r ≠ w.heap.size + 1) → w.heap.size + 1 < W.heap.size → (∀ r, r = w.heap.size ∨ r = w.heap.size + 1 → ∃ o : Obj, W.heap[r]? = some o ∧ o.isCells = false) → pre.length < N → body.wpIn (F.inRound l) (n - 1 - 1) P (postZ w.heap.size Z I Ix (pre ++ [x]) W) a' W)
    (hdone : ∀ (xs : List α) (W : World), S xs → I xs Z0 W → W.heap[w.heap.size]? = some (.deferred (some [])) → Q .normal { a with defers := { target := .collected w.heap.size, args := #[] } :: a.defers } W)
    (hstop : ∀ (c : Code) (pre : List α) (W : World), Sp pre → Ix c pre Z0 W → W.heap[w.heap.size]? = some (.deferred (some [])) → c.wpIn F n P Q { a with defers := { target := .collected w.heap.size, args := #[] } :: a.defers } W) :
    (Code.rangeFunc g ps assign body).wpIn F n P Q a w := by
  refine wpIn_rangeFunc fun fn hfn => ?_
  rw [hro]
  obtain ⟨rec, hrec⟩ : ∃ rec : LoopState → Option Code → Loop, rec = fun st pe => { state := st, pending := pe, fn, tmps := a.tmps, params := ps, assign, body, defers := w.heap.size } := ⟨_, rfl⟩
  obtain ⟨W1, hW1⟩ : ∃ W1, (w.alloc (.deferred (some []))).alloc (.loop (rec .ready none)) = W1 := ⟨_, rfl⟩
  have hsz : W1.heap.size = w.heap.size + 2 := by rw [← hW1]; simp
  have hL1 : W1.heap[w.heap.size + 1]? = some (.loop (rec .ready none)) := by
    rw [← hW1]; have h := World.alloc_heap_new (w.alloc (.deferred (some []))) (.loop (rec .ready none)); rwa [World.size_alloc] at h
  have hK1 : W1.heap[w.heap.size]? = some (.deferred (some [])) := by
    rw [← hW1]; exact (Below.heap_alloc _ _ _ (by simp)).trans (World.alloc_heap_new w _)
  have hI1 : I [] Z0 W1 := by rw [← hW1]; exact h0 _ _
  have hR1 : R W1 := by rw [← hW1]; exact hR _ _
  have szof : ∀ {A : World} {k : Nat} {o : Obj}, A.heap[k]? = some o → k < A.heap.size := fun h => (Array.getElem?_eq_some_iff.1 h).1
  have keep : ∀ {A B : World} {row : Option Nat} {k : Nat} {o : Obj}, A.grownBy B row → some k ≠ row → A.heap[k]? = some o → B.heap[k]? = some o := fun hg hne h => (hg.block _ (szof h) hne).trans h
  refine ⟨w.heap.size + 1, [{ target := .collected w.heap.size, args := #[] }], W1, { target := .fn (.func gf) lb, args := #[.func (.yield (w.heap.size + 1)) #[] #[]] }, W1, gf,
    #[.func (.yield (w.heap.size + 1)) #[] #[]] ++ lb, W1, ?_, ?_, ?_, ?_, fun _ => h1, ?_⟩
  · rw [← hW1, hrec]; exact run_enterLoop_outer _ _ _ _ _
  · simp only [resolve, hg]
    simp [go_sem]
  · intro f' hf'; simp [Target.leads] at hf'; subst hf'; exact hFg
  · simp [invoke, go_sem, eg]
  · have abz : ∀ (G : List α → (Nat → Prop) → World → Prop) (X : Obj), AbZ G → AbZ (fun pre Z W => G pre Z W ∧ W.heap[w.heap.size + 1]? = some X ∧ W.heap[w.heap.size]? = some (.deferred (some [])) ∧ ∀ r, Z r → r ≠ w.heap.size ∧ r ≠ w.heap.size + 1) := fun G X hG =>
      { size := fun s Z W h => hG.size s Z W h.1
        grown := fun s Z W W' h hg' => ⟨hG.grown s Z W W' h.1 hg', keep hg' (fun e => by cases e) h.2.1, keep hg' (fun e => by cases e) h.2.2.1, h.2.2.2⟩
        claim := fun s Z W o h => ⟨hG.claim s Z W o h.1, (Below.heap_alloc W o _ (szof h.2.1)).trans h.2.1, (Below.heap_alloc W o _ (szof h.2.2.1)).trans h.2.2.1, fun r hr => by
          have e1 := szof h.2.1
          rcases hr with hr | rfl
          · exact h.2.2.2 r hr
          · exact ⟨by omega, by omega⟩⟩
        turn := fun s Z W W' r h hr hg' => ⟨hG.turn s Z W W' r h.1 hr hg', keep hg' (fun e => (h.2.2.2 r hr).2 (by cases e; rfl)) h.2.1, keep hg' (fun e => (h.2.2.2 r hr).1 (by cases e; rfl)) h.2.2.1, h.2.2.2⟩
        less := fun s Z Z' W h hz => ⟨hG.less s Z Z' W h.1 hz, h.2.1, h.2.2.1, fun r hr => h.2.2.2 r (hz r hr)⟩ }
    have abx : AbZ (fun pre Z W => ∃ c, Ix c pre Z W ∧ W.heap[w.heap.size + 1]? = some (.loop (rec .done (some c))) ∧ W.heap[w.heap.size]? = some (.deferred (some [])) ∧ ∀ r, Z r → r ≠ w.heap.size ∧ r ≠ w.heap.size + 1) :=
      { size := fun s Z W ⟨c, h⟩ => (abz _ _ (hIx c)).size s Z W h
        grown := fun s Z W W' ⟨c, h⟩ hg' => ⟨c, (abz _ _ (hIx c)).grown s Z W W' h hg'⟩
        claim := fun s Z W o ⟨c, h⟩ => ⟨c, (abz _ _ (hIx c)).claim s Z W o h⟩
        turn := fun s Z W W' r ⟨c, h⟩ hr hg' => ⟨c, (abz _ _ (hIx c)).turn s Z W W' r h hr hg'⟩
        less := fun s Z Z' W ⟨c, h⟩ hz => ⟨c, (abz _ _ (hIx c)).less s Z Z' W h hz⟩ }
    refine (hseq (w.heap.size + 1)
      (fun pre Z W => I pre Z W ∧ W.heap[w.heap.size + 1]? = some (.loop (rec .ready none)) ∧ W.heap[w.heap.size]? = some (.deferred (some [])) ∧ ∀ r, Z r → r ≠ w.heap.size ∧ r ≠ w.heap.size + 1)
      (fun pre Z W => ∃ c, Ix c pre Z W ∧ W.heap[w.heap.size + 1]? = some (.loop (rec .done (some c))) ∧ W.heap[w.heap.size]? = some (.deferred (some [])) ∧ ∀ r, Z r → r ≠ w.heap.size ∧ r ≠ w.heap.size + 1)
      W1 hR1 (abz I _ hI) abx ?_ ⟨hI1, hL1, hK1, fun r hr => by have := hZ0 r hr; exact ⟨by omega, by omega⟩⟩).mono ?_
    · rintro pre x Z W ⟨hi, hl, hk, hne⟩ hz hlen
      have hy := run_yield (P := P) (args := encs x) hl (by rw [hrec]; exact hps x)
      rw [hrec] at hy
      refine ⟨fn, _, assign, body, hy, roundIn_of_wpIn hfn (hassign _ pre x Z W _ hi (szof hl) ?_)⟩
      intro a' V hkz hiV hax
      have hlV := (hkz _ (.inr (.inr rfl))).trans hl
      have hkV := (hkz _ (.inr (.inl rfl))).trans hk
      have hltV : w.heap.size + 1 < V.heap.size := szof hlV
      refine ⟨_, run_beginRound hlV (by rw [hrec]), ?_⟩
      have hl2 : (V.putObj (w.heap.size + 1) (.loop { rec .ready none with state := .busy })).heap[w.heap.size + 1]? = some (.loop { rec .ready none with state := .busy }) := World.putObj_heap_same hltV
      have hk2 : (V.putObj (w.heap.size + 1) (.loop { rec .ready none with state := .busy })).heap[w.heap.size]? = some (.deferred (some [])) := (World.putObj_heap_other (by omega)).trans hkV
      have hw2 : KeepZ Z V (V.putObj (w.heap.size + 1) (.loop { rec .ready none with state := .busy })) := fun r hr => World.putObj_heap_other (by have := (hne r hr).2; omega)
      refine wpIn_mono (hbody _ pre x a' Z _ (hIo _ _ _ _ _ _ hiV (.inr rfl) hlV rfl) (hAx _ _ _ _ _ _ hax hlV rfl) hz hne (szof hl2) (fun r hr => by rcases hr with rfl | rfl; exact ⟨_, hk2, rfl⟩; exact ⟨_, hl2, rfl⟩) hlen) ?_
      have fin : ∀ (jump : Option Code) (W3 : World), KeepZ (fun r => r = w.heap.size ∨ r = w.heap.size + 1) (V.putObj (w.heap.size + 1) (.loop { rec .ready none with state := .busy })) W3 →
          (Instr.endRound (w.heap.size + 1) jump).run P W3 = .ok (.bool jump.isNone) (W3.putObj (w.heap.size + 1) (.loop (rec (if jump.isNone then .ready else .done) jump))) ∧
          W3.heap[w.heap.size + 1]? = some (.loop { rec .ready none with state := .busy }) ∧
          (W3.putObj (w.heap.size + 1) (.loop (rec (if jump.isNone then .ready else .done) jump))).heap[w.heap.size + 1]? = some (.loop (rec (if jump.isNone then .ready else .done) jump)) ∧
          (W3.putObj (w.heap.size + 1) (.loop (rec (if jump.isNone then .ready else .done) jump))).heap[w.heap.size]? = some (.deferred (some [])) := fun jump W3 hk3 => by
        have hl3 := (hk3 _ (.inr rfl)).trans hl2
        have he := run_endRound (P := P) jump hl3
        rw [hrec] at he ⊢
        exact ⟨he, by rw [hrec] at hl3; exact hl3, World.putObj_heap_same (szof hl3), (World.putObj_heap_other (by omega)).trans ((hk3 _ (.inl rfl)).trans hk2)⟩
      rintro e a3 W3 hp
      cases e with
      | normal =>
        obtain ⟨hk3, hi3⟩ := hp
        obtain ⟨hr, hl3, hl4, hk4⟩ := fin none W3 (fun r h => hk3 r (.inr h))
        exact ⟨_, _, hr, .inl ⟨rfl, ⟨hIo _ _ _ _ _ _ hi3 (.inr rfl) hl3 rfl, hl4, hk4, hne⟩, KeepZ.trans (KeepZ.trans (Z := Z) (B := V) (fun r h => hkz r (.inl h)) hw2) (KeepZ.trans (Z := Z) (B := W3) (fun r h => hk3 r (.inl h)) (fun r h => World.putObj_heap_other (by have := (hne r h).2; omega)))⟩⟩
      | ret =>
        obtain ⟨hk3, hi3⟩ := hp
        obtain ⟨hr, hl3, hl4, hk4⟩ := fin (some .ret) W3 (fun r h => hk3 r (.inr h))
        exact ⟨_, _, hr, .inr ⟨rfl, ⟨.ret, hIxo _ _ _ _ _ _ _ hi3 (.inr rfl) hl3 rfl, hl4, hk4, hne⟩, KeepZ.trans (KeepZ.trans (Z := Z) (B := V) (fun r h => hkz r (.inl h)) hw2) (KeepZ.trans (Z := Z) (B := W3) (fun r h => hk3 r (.inl h)) (fun r h => World.putObj_heap_other (by have := (hne r h).2; omega)))⟩⟩
      | exit id =>
        obtain ⟨hk3, hi3⟩ := hp
        obtain ⟨hr, hl3, hl4, hk4⟩ := fin (some (.exit id)) W3 (fun r h => hk3 r (.inr h))
        exact ⟨_, _, hr, .inr ⟨rfl, ⟨.exit id, hIxo _ _ _ _ _ _ _ hi3 (.inr rfl) hl3 rfl, hl4, hk4, hne⟩, KeepZ.trans (KeepZ.trans (Z := Z) (B := V) (fun r h => hkz r (.inl h)) hw2) (KeepZ.trans (Z := Z) (B := W3) (fun r h => hk3 r (.inl h)) (fun r h => World.putObj_heap_other (by have := (hne r h).2; omega)))⟩⟩
      | goto t =>
        obtain ⟨hk3, hi3⟩ := hp
        obtain ⟨hr, hl3, hl4, hk4⟩ := fin (some (.goto t)) W3 (fun r h => hk3 r (.inr h))
        exact ⟨_, _, hr, .inr ⟨rfl, ⟨.goto t, hIxo _ _ _ _ _ _ _ hi3 (.inr rfl) hl3 rfl, hl4, hk4, hne⟩, KeepZ.trans (KeepZ.trans (Z := Z) (B := V) (fun r h => hkz r (.inl h)) hw2) (KeepZ.trans (Z := Z) (B := W3) (fun r h => hk3 r (.inl h)) (fun r h => World.putObj_heap_other (by have := (hne r h).2; omega)))⟩⟩
      | panic ch => exact hp.elim
      | outgrown => exact hp.elim
    · rintro e W2 ⟨⟨v, rfl⟩, (⟨xs, hS, hi, hl, hk, _⟩ | ⟨pre, hSp, c, hi, hl, hk, _⟩)⟩
      · exact ⟨none, _, by have he := run_endLoop (P := P) hl (by rw [hrec]; simp); rw [hrec] at he; exact he, hdone xs _ hS (hIo _ _ _ _ _ _ hi (.inr rfl) hl rfl) ((World.putObj_heap_other (by omega)).trans hk)⟩
      · exact ⟨some c, _, by have he := run_endLoop (P := P) hl (by rw [hrec]; simp); rw [hrec] at he; exact he, hstop c pre _ hSp (hIxo _ _ _ _ _ _ _ hi (.inr rfl) hl rfl) ((World.putObj_heap_other (by omega)).trans hk)⟩
theorem grown_keep {W W' : World} {row : Option Nat} (hg : W.grownBy W' row) {r : Nat} (hr : r < W.heap.size) (hne : some r ≠ row) : W'.heap[r]? = W.heap[r]? := hg.block r hr hne
/-- what an iterator that loops over another says of the state, while the other one works -/
theorem abz_inner {β γ : Type} {J : γ → (Nat → Prop) → World → Prop} (hJ : AbZ J) (g : β → γ) (Z2 E : Nat → Prop) (H : World → Prop) (hH : ∀ W W', H W → KeepZ Z2 W W' → H W') :
    AbZ (fun (s : β) Z W => J (g s) (fun r => Z2 r ∨ Z r ∨ E r) W ∧ H W ∧ ∀ r, Z r → ¬ Z2 r) :=
  { size := fun s Z W h r hr => hJ.size _ _ _ h.1 r (.inr (.inl hr))
    grown := fun s Z W W' h hg => ⟨hJ.grown _ _ _ _ h.1 hg, hH _ _ h.2.1 (fun r hr => grown_keep hg (hJ.size _ _ _ h.1 r (.inl hr)) (fun e => by cases e)), h.2.2⟩
    claim := fun s Z W o h => ⟨hJ.less _ _ _ _ (hJ.claim _ _ _ o h.1) (fun r hr => by
        rcases hr with hr | (hr | hr) | hr
        · exact .inl (.inl hr)
        · exact .inl (.inr (.inl hr))
        · exact .inr hr
        · exact .inl (.inr (.inr hr))), hH _ _ h.2.1 (fun r hr => Below.heap_alloc W o r (hJ.size _ _ _ h.1 r (.inl hr))), fun r hr h2 => by
        rcases hr with hr | rfl
        · exact h.2.2 r hr h2
        · exact Nat.lt_irrefl _ (hJ.size _ _ _ h.1 _ (.inl h2))⟩
    turn := fun s Z W W' r h hr hg => ⟨hJ.turn _ _ _ _ r h.1 (.inr (.inl hr)) hg, hH _ _ h.2.1 (fun q hq => grown_keep hg (hJ.size _ _ _ h.1 q (.inl hq)) (fun e => by cases e; exact h.2.2 r hr hq)), h.2.2⟩
    less := fun s Z Z' W h hz => ⟨hJ.less _ _ _ _ h.1 (fun r hr => by
        rcases hr with hr | hr | hr
        · exact .inl hr
        · exact .inr (.inl (hz r hr))
        · exact .inr (.inr hr)), h.2.1, fun r hr => h.2.2 r (hz r hr)⟩ }
theorem abz_pure {β : Type} {G : β → (Nat → Prop) → World → Prop} (hG : AbZ G) (q : Prop) : AbZ (fun (s : β) Z W => q ∧ G s Z W) :=
  { size := fun s Z W h => hG.size s Z W h.2
    grown := fun s Z W W' h hg => ⟨h.1, hG.grown s Z W W' h.2 hg⟩
    claim := fun s Z W o h => ⟨h.1, hG.claim s Z W o h.2⟩
    turn := fun s Z W W' r h hr hg => ⟨h.1, hG.turn s Z W W' r h.2 hr hg⟩
    less := fun s Z Z' W h hz => ⟨h.1, hG.less s Z Z' W h.2 hz⟩ }
theorem inner_put {β γ : Type} {J : γ → (Nat → Prop) → World → Prop} (hJ : AbZ J) (g : β → γ) (Z2 E : Nat → Prop) (H : World → Prop) (hH : ∀ W W', H W → KeepZ Z2 W W' → H W') (hE : ∀ r, E r → ¬ Z2 r) {s : β} {Z : Nat → Prop} {W : World} {k : Nat} (o' : Obj) (hk : E k)
    (h : J (g s) (fun r => Z2 r ∨ Z r ∨ E r) W ∧ H W ∧ ∀ r, Z r → ¬ Z2 r) : J (g s) (fun r => Z2 r ∨ Z r ∨ E r) (W.putObj k o') ∧ H (W.putObj k o') ∧ ∀ r, Z r → ¬ Z2 r :=
  ⟨hJ.turn _ _ _ _ k h.1 (.inr (.inr hk)) (grownBy_putObj' W k o'), hH _ _ h.2.1 (fun r hr => World.putObj_heap_other (fun e => hE k hk (e ▸ hr))), h.2.2⟩
theorem callsIn_any {F : Fence} {m k : Nat} {P : Program} {f : FuncId} {args : Array Value} {W : World} {R : Ending → World → Prop} (hd : F.depth = none) (h : CallsIn F m P f args W R) : CallsIn F k P f args W R :=
  ⟨h.1, fun cs _ => h.2 cs (fun d h => by rw [hd] at h; cases h)⟩
/-- the marks that loops over iterators have left among the deferred calls -/
def mark (D : Nat) : Deferred := { target := .collected D, args := #[] }
theorem leaves_marksG {fn : Func} {tmps : Array Value} {R : Ending → World → Prop} {v : Value} {G : World → Prop}
    (hres : ∀ w, (results fn tmps).run P w = .ok v w) (hR : ∀ w, G w → R (.returned v) w) :
    ∀ (ds : List Nat) (w : World), ds.Nodup → (∀ d ∈ ds, w.heap[d]? = some (.deferred (some []))) → (∀ w d o', d ∈ ds → G w → G (w.putObj d o')) → G w → LeavesInM F n P fn tmps R (ds.map mark) .returning w := by
  intro ds
  induction ds with
  | nil => intro w _ _ _ hB; exact ⟨v, hres w, hR w hB⟩
  | cons D ds ih =>
    intro w hn hM hG hB
    have hD := hM D (List.mem_cons_self ..)
    refine ⟨by simp, .inl ⟨D, _, rfl, run_takeDeferred hD, ih _ (List.nodup_cons.1 hn).2 (fun d hd => ?_) (fun w d o' hd h => hG w d o' (List.mem_cons_of_mem _ hd) h) (hG _ _ _ (List.mem_cons_self ..) hB)⟩⟩
    have hne : d ≠ D := by rintro rfl; exact (List.nodup_cons.1 hn).1 hd
    have hd2 := hM d (List.mem_cons_of_mem _ hd)
    exact (World.putObj_heap_other hne).trans hd2
end
end Go.Proofs.Ytdahaajfkjmflaa.kit
