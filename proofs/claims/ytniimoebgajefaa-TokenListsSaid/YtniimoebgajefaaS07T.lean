/-
  Layer 7: the law TokenLists.
-/
import Derived.Test.YtniimoebgajefaaS07Q
import Derived.Test.YtniimoebgajefaaS07N
import Derived.Test.YtniimoebgajefaaS07O
namespace Go.Proofs.Ytniimoebgajefaa.s07
set_option linter.unusedVariables false
set_option linter.unusedSimpArgs false
open Go.RowKit
open kit

theorem placeR_len {l L : List Li} {t p er : Int} (h : placeR l t p = (L, er)) : L.length ≤ l.length := by
  unfold placeR at h
  repeat' split at h
  all_goals simp only [Prod.mk.injEq] at h; obtain ⟨rfl, _⟩ := h
  · exact Nat.zero_le _
  · exact Nat.zero_le _
  · rw [placeL_len]; exact Nat.le_refl _
  · exact Nat.zero_le _
set_option maxRecDepth 100000 in
set_option maxHeartbeats 2000000 in
theorem lists_law (a : Option Addr) (c : Nat) (l : List Li) (t p : Int) (w : World) (hn : l.length ≤ 9223372036854775807) (hr : Hid (ReadsL w a l)) (hz : Hid (a = none → c = 0)) (hsz : Hid (∀ x ∈ l, x.2.1.size ≤ 9223372036854775807)) :
    Calls Try.prog 6 #[.slice a l.length c, .int .i64 t, .int .i64 p] w fun e w' => e = .returned (.bool true) ∧ Below w.heap.size w w' := by
  by_cases hbig : (30 < l.length ∧ l.length ≤ 1000) ∨ 1003 < l.length
  · by_cases h1 : l.length ≤ 1000
    · have t1 : (30 : Int) < (l.length : Int) := by omega
      have t2 : (l.length : Int) ≤ 1000 := by omega
      clear hbig h1
      go_enter Try.func6, Try.ntmps6
      go_wp2_with (go_at_call 20; refine (awake_any _).mono ?_; rintro e w9 ⟨rfl, hB9⟩)
      go_ret
      exact ⟨rfl, hB9⟩
    · have t1 : (30 : Int) < (l.length : Int) := by omega
      have t2 : ¬ (l.length : Int) ≤ 1000 := by omega
      have t3 : (1003 : Int) < (l.length : Int) := by omega
      clear hbig h1
      go_enter Try.func6, Try.ntmps6
      go_wp2_with (go_at_call 20; refine (awake_any _).mono ?_; rintro e w9 ⟨rfl, hB9⟩)
      go_ret
      exact ⟨rfl, hB9⟩
  · have hn5 : l.length ≤ 100000 := by omega
    have hn6 : l.length ≤ 1000000 := by omega
    obtain ⟨b, er, hb⟩ : ∃ b er, listR l t = (b, er) := ⟨_, _, rfl⟩
    obtain ⟨L, e2, hp⟩ : ∃ L e2, placeR l t p = (L, e2) := ⟨_, _, rfl⟩
    obtain ⟨e3, hq⟩ : ∃ e3, placedR l t = e3 := ⟨_, rfl⟩
    have hL6 : L.length ≤ 1000000 := Nat.le_trans (placeR_len hp) hn6
    have HL := Lib.hid hb
    have HP := Lib.hid hp
    have HQ := Lib.hid hq
    have hor : (l.length : Int) ≤ 30 ∨ ((30 : Int) < (l.length : Int) ∧ ¬ (l.length : Int) ≤ 1000 ∧ ¬ (1003 : Int) < (l.length : Int)) := by omega
    have t3 : ¬ (1003 : Int) < (l.length : Int) := by omega
    clear hb hp hq hbig
    rcases hor with t1 | ⟨t1, t2, _⟩
    all_goals
      go_enter Try.func6, Try.ntmps6
      go_wp2
      go_loop [7] (fun i => ∃ k : Nat, i = .int .i64 k ∧ k ≤ l.length) (fun i => l.length - (intOf i).toNat)
      case atStart => exact ⟨0, rfl, by omega⟩
      case round =>
        obtain ⟨k, rfl, hk⟩ := hrel
        by_cases hlt : k < l.length
        · obtain ⟨b1, off, rfl, hb, h0, h1, h2⟩ := hr.out k hlt
          have hx := hsz.out _ (mem_tok l k hlt)
          generalize l[k]?.getD noLi = y at h0 h1 h2 hx
          obtain ⟨sy, tx, at'⟩ := y
          simp only at h0 h1 h2 hx
          by_cases h60 : 60 < tx.size
          · have h61 : (60 : Int) < (tx.size : Int) := by omega
            go_wp2_with (go_at_call 20; refine (awake_any _).mono ?_; rintro e w9 ⟨rfl, hB9⟩)
            go_ret
            exact ⟨rfl, hB9⟩
          · have h61 : ¬ (60 : Int) < (tx.size : Int) := by omega
            go_wp2
            go_round
            case rel => exact ⟨k + 1, by go_num, by omega⟩
            case measure => simp [intOf]; omega
        · clear hsz
          go_wp2_with (first
            | (go_at_call 28; refine (own_toks a c l _ hn5 hr hz).mono ?_; rintro e w1 ⟨a1, c1, rfl, hX, hz1, hB⟩; have B1 := Lib.hid hB; have RX1 := Lib.hid hX; have RL1 := Lib.hid (hr.out.below hB); clear hX hz1 hB)
            | (go_at_call 16; refine (list_any a1 c1 l t _ hn RX1 b er HL).mono ?_; rintro e w2 ⟨rfl, hB⟩; have B2 := Lib.hid (below_then B1.out hB); have RX2 := Lib.hid (RX1.out.below hB); have RL2 := Lib.hid (RL1.out.below hB); clear hB B1 RX1 RL1)
            | (go_at_call 29; refine (rlist_any a c l t _ hn RL2 b er HL).mono ?_; rintro e w3 ⟨rfl, hB⟩; have B3 := Lib.hid (below_then B2.out hB); have RX3 := Lib.hid (RX2.out.below hB); have RL3 := Lib.hid (RL2.out.below hB); clear hB B2 RX2 RL2)
            | (go_at_call 17; refine (tplace_any a1 c1 l t p _ hn RX3 L e2 HP).mono ?_; rintro e w4 ⟨a2, c2, rfl, hP, hz2, hB⟩; have B4 := Lib.hid (below_then B3.out hB); have RP4 := Lib.hid hP; have RX4 := Lib.hid (RX3.out.below hB); have RL4 := Lib.hid (RL3.out.below hB); clear hB B3 RX3 RL3 hP hz2)
            | (go_at_call 30; refine (rplace_any a c l t p _ hn RL4 L e2 HP).mono ?_; rintro e w5 ⟨a3, c3, rfl, hQ, hz3, hB⟩; have B5 := Lib.hid (below_then B4.out hB); have RQ5 := Lib.hid hQ; have RX5 := Lib.hid (RX4.out.below hB); have RL5 := Lib.hid (RL4.out.below hB); have RP5 := Lib.hid (RP4.out.below hB); clear hB B4 RX4 RL4 RP4 hQ hz3)
            | (go_at_call 31; refine (same_toks a2 a3 c2 c3 L _ hL6 RP5.out RQ5.out).mono ?_; rintro e w6 ⟨rfl, n6, hw6⟩; have hB : Below w5.heap.size w5 w6 := hw6 ▸ below_drewN (Below.refl _ _) n6; have B6 := Lib.hid (below_then B5.out hB); have RX6 := Lib.hid (RX5.out.below hB); have RL6 := Lib.hid (RL5.out.below hB); clear hB B5 RX5 RL5 RP5 RQ5 hw6)
            | (go_at_call 18; refine (placed_any a1 c1 l t _ hn RX6 e3 HQ).mono ?_; rintro e w7 ⟨rfl, hB⟩; have B7 := Lib.hid (below_then B6.out hB); have RX7 := Lib.hid (RX6.out.below hB); have RL7 := Lib.hid (RL6.out.below hB); clear hB B6 RX6 RL6)
            | (go_at_call 32; refine (rplaced_any a c l t _ hn RL7 e3 HQ).mono ?_; rintro e w8 ⟨rfl, hB⟩; have B8 := Lib.hid (below_then B7.out hB); have RX8 := Lib.hid (RX7.out.below hB); have RL8 := Lib.hid (RL7.out.below hB); clear hB B7 RX7 RL7)
            | (go_at_call 31; refine (same_toks a1 a c1 c l _ hn6 RX8.out RL8.out).mono ?_; rintro e w9 ⟨rfl, n9, hw9⟩; have hB : Below w8.heap.size w8 w9 := hw9 ▸ below_drewN (Below.refl _ _) n9; have B9 := Lib.hid (below_then B8.out hB); clear hB B8 RX8 RL8 hw9)
            | (go_at_call 20; refine (awake_any _).mono ?_; rintro e w10 ⟨rfl, hB⟩; have B10 := Lib.hid (below_then B9.out hB); clear hB B9))
          go_ret
          exact ⟨rfl, B10.out⟩
end Go.Proofs.Ytniimoebgajefaa.s07
