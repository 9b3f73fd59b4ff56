/-
  Layer 7, the program's side: number, and the steps of a reader.
-/
import Derived.Test.YtniimoebgajefaaS07DA
import Derived.Test.YtniimoebgajefaaWalksD
namespace Go.Proofs.Ytniimoebgajefaa.s07
set_option linter.unusedVariables false
set_option linter.unusedSimpArgs false
open Go.RowKit
open kit

/-- number's answer -/
def numR (b : Nat) (m g : Int) : Int × Int := if 128 ≤ b then (0, 26) else if m < (b : Int) then (0, g) else ((b : Int), 0)
theorem ret_ii {b b' : Int} {c c' : Int} (h : (b, c) = (b', c')) : Ending.returned (.tuple #[.int .i64 b, .int .i64 c]) = .returned (.tuple #[.int .i64 b', .int .i64 c']) := by cases h; rfl
set_option maxRecDepth 100000 in
theorem number_any (b : Nat) (hb : b ≤ 255) (m g : Int) (w : World) (y c : Int) (H : Hid (numR b m g = (y, c))) :
    Calls Try.prog 52 #[.int .u8 (b : Int), .int .i64 m, .int .i64 g] w fun e w' => e = .returned (.tuple #[.int .i64 y, .int .i64 c]) ∧ w = w' := by
  have hc := H.out
  unfold numR at hc
  clear H
  have hs : ((b : Int) / 128 != 0) = decide (128 ≤ b) := by
    by_cases h : 128 ≤ b
    · rw [decide_eq_true h, bne_iff_ne]; omega
    · rw [decide_eq_false h, bne_eq_false_iff_eq]; omega
  by_cases h1 : 128 ≤ b
  · rw [if_pos h1] at hc
    have HC := Lib.hid hc
    clear hc
    rw [decide_eq_true h1] at hs
    have k1 : (b : Int) / 128 ≠ 0 := by rw [bne_iff_ne] at hs; exact hs
    go_enter Try.func52, Try.ntmps52
    go_wp2
    go_ret2
    exact ⟨ret_ii HC.out, rfl⟩
  · rw [if_neg h1] at hc
    rw [decide_eq_false h1] at hs
    have k1 : (b : Int) / 128 = 0 := by rw [bne_eq_false_iff_eq] at hs; exact hs
    by_cases h2 : m < (b : Int)
    · rw [if_pos h2] at hc
      have HC := Lib.hid hc
      clear hc
      go_enter Try.func52, Try.ntmps52
      go_wp2
      go_ret2
      exact ⟨ret_ii HC.out, rfl⟩
    · rw [if_neg h2] at hc
      have HC := Lib.hid hc
      clear hc
      go_enter Try.func52, Try.ntmps52
      go_wp2
      go_ret2
      exact ⟨ret_ii HC.out, rfl⟩
theorem Box.cell5 {w : World} {t : TypeId} {b : Nat} {x0 x1 x2 x3 x4 : Value} (h : Box w t b #[x0, x1, x2, x3, x4]) : w.cell? ⟨b, 0, none⟩ = some x0 ∧ w.cell? ⟨b, 1, none⟩ = some x1 ∧ w.cell? ⟨b, 2, none⟩ = some x2 ∧ w.cell? ⟨b, 3, none⟩ = some x3 ∧ w.cell? ⟨b, 4, none⟩ = some x4 := ⟨h.cell 0, h.cell 1, h.cell 2, h.cell 3, h.cell 4⟩
theorem Box.free5 {w : World} {t : TypeId} {b : Nat} {x0 x1 x2 x3 x4 : Value} (h : Box w t b #[x0, x1, x2, x3, x4]) : w.frozen? ⟨b, 1, none⟩ = false ∧ w.frozen? ⟨b, 2, none⟩ = false ∧ w.frozen? ⟨b, 3, none⟩ = false ∧ w.frozen? ⟨b, 4, none⟩ = false := ⟨h.free 1, h.free 2, h.free 3, h.free 4⟩
/-- a reader of a frame -/
abbrev Rdr (w : World) (b : Nat) (t st y : Int) (v : Value) (lk : Int) : Prop := Box w 78 b #[.int .i64 t, .int .i64 st, .int .i64 y, v, .int .i64 lk]
set_option maxRecDepth 100000 in
set_option maxHeartbeats 1000000 in
theorem take0 (br : Nat) (t y : Int) (v : Value) (lk : Int) (b : Nat) (hb : b ≤ 255) (w : World) (y' c : Int) (H : Hid (numR b t 14 = (y', c))) (R : Hid (Rdr w br t 0 y v lk)) :
    Calls Try.prog 49 #[.pointer (some ⟨br, 0, none⟩), .int .u8 (b : Int)] w fun e w' => e = .returned (.int .i64 c) ∧ Rdr w' br t 1 y' v lk ∧ GB br w w' := by
  obtain ⟨c0, c1, c2, c3, c4⟩ := R.out.cell5
  obtain ⟨f1, f2, f3, f4⟩ := R.out.free5
  go_enter Try.func49, Try.ntmps49
  go_wp2_with (go_at_call 52; refine (number_any b hb t 14 _ y' c H).mono ?_; rintro e w1 ⟨rfl, rfl⟩)
  go_ret
  exact ⟨rfl, (R.out.set 2 (by simp) _).set 1 (by simp) _, ((GB.refl br w).set 2 _).set 1 _⟩
set_option maxRecDepth 100000 in
set_option maxHeartbeats 1000000 in
theorem take1 (br : Nat) (t y : Int) (v : Value) (lk : Int) (b : Nat) (hb : b ≤ 255) (w : World) (y' c : Int) (H : Hid (numR b 24 4 = (y', c))) (R : Hid (Rdr w br t 1 y v lk)) :
    Calls Try.prog 49 #[.pointer (some ⟨br, 0, none⟩), .int .u8 (b : Int)] w fun e w' => e = .returned (.int .i64 c) ∧ Rdr w' br t (if y' = 0 then 3 else 2) y v y' ∧ GB br w w' := by
  obtain ⟨c0, c1, c2, c3, c4⟩ := R.out.cell5
  obtain ⟨f1, f2, f3, f4⟩ := R.out.free5
  by_cases hy : y' = 0
  · subst hy
    go_enter Try.func49, Try.ntmps49
    go_wp2_with (go_at_call 52; refine (number_any b hb 24 4 _ 0 c H).mono ?_; rintro e w1 ⟨rfl, rfl⟩)
    go_ret
    exact ⟨rfl, ((R.out.set 4 (by simp) _).set 1 (by simp) _).set 1 (by simp) _, (((GB.refl br w).set 4 _).set 1 _).set 1 _⟩
  · have t1 : (y' == 0) = false := by rw [beq_eq_false_iff_ne]; exact hy
    rw [if_neg hy]
    clear hy
    go_enter Try.func49, Try.ntmps49
    go_wp2_with (go_at_call 52; refine (number_any b hb 24 4 _ y' c H).mono ?_; rintro e w1 ⟨rfl, rfl⟩)
    go_ret
    exact ⟨rfl, (R.out.set 4 (by simp) _).set 1 (by simp) _, ((GB.refl br w).set 4 _).set 1 _⟩
set_option maxRecDepth 100000 in
set_option maxHeartbeats 1000000 in
theorem take2 (br : Nat) (t y : Int) (v : Value) (lk : Int) (hl1 : 1 ≤ lk) (hl2 : lk ≤ 24) (b : Nat) (hb : b ≤ 255) (w : World) (l : List Int) (hl : l.length ≤ 1000) (R : Hid (Rdr w br t 2 y v lk)) (O : Hid (w.ownsRow (br + 1) 5 1 v l.length (l.map (Value.int .u8)))) :
    Calls Try.prog 49 #[.pointer (some ⟨br, 0, none⟩), .int .u8 (b : Int)] w fun e w' => ∃ v', e = .returned (.int .i64 0) ∧ Rdr w' br t (if lk = 1 then 3 else 2) y v' (lk - 1) ∧ w'.ownsRow (br + 1) 5 1 v' (l.length + 1) ((l ++ [(b : Int)]).map (Value.int .u8)) ∧ Below br w w' := by
  obtain ⟨c0, c1, c2, c3, c4⟩ := R.out.cell5
  obtain ⟨f1, f2, f3, f4⟩ := R.out.free5
  have hlt := R.out.lt
  by_cases h1 : lk = 1
  · subst h1
    go_enter Try.func49, Try.ntmps49
    go_wp2_with (at_builtin; refine append_in Try.underlying51 info5 rfl (by omega) rfl (.tmp 45) (.tmp 47) rfl (br + 1) v l.length (l.map (Value.int .u8)) rfl (O.out.alloc _) (some ⟨w.heap.size, 0, none⟩) [.int .u8 (b : Int)] 1 1 rfl rfl (src_one _ _ _) (by simp [Value.oneCell']) (by omega) (by simp; omega) ?_; intro v1 wA hv1 hBA; obtain ⟨a1, k1, rfl⟩ := row_shape hv1; have RA := Lib.hid (show Rdr wA br t 2 y v 1 from (hBA.block br (by omega)).trans (R.out.alloc _)); have OA := Lib.hid hv1; have BB := Lib.hid (((Below.refl br w).alloc (Nat.le_of_lt hlt) (.cells #[.int .u8 (b : Int)] 5)).trans (hBA.mono (Nat.le_succ br))); clear hv1 hBA; obtain ⟨d0, d1, d2, d3, d4⟩ := RA.out.cell5; obtain ⟨g1, g2, g3, g4⟩ := RA.out.free5)
    go_ret
    refine ⟨rfl, .slice a1 (l.length + 1) k1, ((RA.out.set 3 (by simp) _).set 4 (by simp) _).set 1 (by simp) _, by simpa using row_far (row_far (row_far OA.out (Nat.lt_succ_self br) 3 _) (Nat.lt_succ_self br) 4 _) (Nat.lt_succ_self br) 1 _, ((BB.out.setCell (p := ⟨br, 3, none⟩) (Nat.le_refl _) _).setCell (p := ⟨br, 4, none⟩) (Nat.le_refl _) _).setCell (p := ⟨br, 1, none⟩) (Nat.le_refl _) _⟩
  · rw [if_neg h1]
    have t1 : ¬ lk - 1 = 0 := by omega
    have t2 : (lk - 1 == 0) = false := by rw [beq_eq_false_iff_ne]; exact t1
    clear h1
    go_enter Try.func49, Try.ntmps49
    go_wp2_with (at_builtin; refine append_in Try.underlying51 info5 rfl (by omega) rfl (.tmp 45) (.tmp 47) rfl (br + 1) v l.length (l.map (Value.int .u8)) rfl (O.out.alloc _) (some ⟨w.heap.size, 0, none⟩) [.int .u8 (b : Int)] 1 1 rfl rfl (src_one _ _ _) (by simp [Value.oneCell']) (by omega) (by simp; omega) ?_; intro v1 wA hv1 hBA; obtain ⟨a1, k1, rfl⟩ := row_shape hv1; have RA := Lib.hid (show Rdr wA br t 2 y v lk from (hBA.block br (by omega)).trans (R.out.alloc _)); have OA := Lib.hid hv1; have BB := Lib.hid (((Below.refl br w).alloc (Nat.le_of_lt hlt) (.cells #[.int .u8 (b : Int)] 5)).trans (hBA.mono (Nat.le_succ br))); clear hv1 hBA; obtain ⟨d0, d1, d2, d3, d4⟩ := RA.out.cell5; obtain ⟨g1, g2, g3, g4⟩ := RA.out.free5)
    go_ret
    refine ⟨.slice a1 (l.length + 1) k1, rfl, (RA.out.set 3 (by simp) _).set 4 (by simp) _, by simpa using row_far (row_far OA.out (Nat.lt_succ_self br) 3 _) (Nat.lt_succ_self br) 4 _, (BB.out.setCell (p := ⟨br, 3, none⟩) (Nat.le_refl _) _).setCell (p := ⟨br, 4, none⟩) (Nat.le_refl _) _⟩
end Go.Proofs.Ytniimoebgajefaa.s07
