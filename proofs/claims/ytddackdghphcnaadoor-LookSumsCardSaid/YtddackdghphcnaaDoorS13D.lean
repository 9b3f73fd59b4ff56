/-
  Layer 13: what the functions say, of looks by their cells.
-/
import Derived.Test.YtddackdghphcnaaDoorS13G
import Derived.Test.YtddackdghphcnaaDoorS13RB
import Derived.Test.YtddackdghphcnaaDoorS13I
namespace Go.Proofs.YtddackdghphcnaaDoor.s13
set_option linter.unusedVariables false
set_option linter.unusedSimpArgs false
open Go.RowKit
open kit

/-- a look's terminals -/
def lst (x : V5) : List Int := [x.2.1, x.2.2.1, x.2.2.2.1, x.2.2.2.2].take x.1.toNat
theorem lst_pad {l : List Int} (hl : l.length ≤ 4) : lst (pad5 l) = l := by
  match l, hl with
  | [], _ => rfl
  | [a], _ => rfl
  | [a, b], _ => rfl
  | [a, b, c], _ => rfl
  | [a, b, c, d], _ => rfl
theorem lst_ok {n a b c d t : Int} (h : chkP n a b c d t = 0) : okL t (lst (n, a, b, c, d)) ∧ pad5 (lst (n, a, b, c, d)) = (n, a, b, c, d) ∧ ((lst (n, a, b, c, d)).length : Int) = n := by
  obtain ⟨l, h1, h2⟩ := pad5_look h
  rw [← h2, lst_pad h1.1]
  refine ⟨h1, rfl, ?_⟩
  simp only [pad5, Prod.mk.injEq] at h2
  exact h2.1
theorem lst_nat {n a b c d : Int} (h : chkP n a b c d 8 = 0) : ∃ N : Nat, n = N ∧ N ≤ 4 ∧ (lst (n, a, b, c, d)).length = N ∧ pad5 (lst (n, a, b, c, d)) = ((N : Int), a, b, c, d) := by
  obtain ⟨h1, h2, h3⟩ := lst_ok h
  have := h1.1
  exact ⟨(lst (n, a, b, c, d)).length, h3.symm, this, rfl, by rw [h3]; exact h2⟩
def cutE (x : V5) (k : Int) : V5 × Int := if chkP x.1 x.2.1 x.2.2.1 x.2.2.2.1 x.2.2.2.2 8 ≠ 0 then (no5, chkP x.1 x.2.1 x.2.2.1 x.2.2.2.1 x.2.2.2.2 8) else if k < 0 ∨ 4 < k then (no5, 2) else (pad5 ((lst x).take k.toNat), 0)
theorem pcut_any (n a b c d k : Int) (w : World) (y : V5) (r : Int) (H : Hid (cutE (n, a, b, c, d) k = (y, r))) : Calls Tryd.prog 23 #[.agg #[.int .i64 n, .int .i64 a, .int .i64 b, .int .i64 c, .int .i64 d], .int .i64 k] w fun e w' => e = .returned (LE y r) ∧ Below w.heap.size w w' := by
  have h := H.out
  unfold cutE at h
  simp only at h
  by_cases hc : chkP n a b c d 8 = 0
  · rw [if_neg (by simpa using hc)] at h
    by_cases hk : k < 0 ∨ 4 < k
    · rw [if_pos hk] at h; cases h
      exact pcut_range n a b c d k w (Lib.hid hc) hk
    · rw [if_neg hk] at h; cases h
      obtain ⟨N, hN, hN4, hl, hp⟩ := lst_nat hc
      obtain ⟨K, rfl⟩ : ∃ K : Nat, k = K := ⟨k.toNat, by omega⟩
      have e := cutP_look (l := lst (n, a, b, c, d)) (by omega) (pad5_of hp) K
      rw [Int.toNat_natCast]
      have hq : pad5 ((lst (n, a, b, c, d)).take K) = (((cutP N K a b c d).1 : Int), (cutP N K a b c d).2) := by rw [e]; rfl
      rw [hq]
      subst hN
      exact pcut_ok N K a b c d w (Lib.hid hc) hN4 (by omega) _ _ _ _ _ (Lib.hid rfl)
  · rw [if_pos hc] at h; cases h
    exact pcut_bad n a b c d k _ w (Lib.hid rfl) (by simpa using hc)
def joinE (k : Int) (x y : V5) : V5 × Int := if bothP x.1 x.2.1 x.2.2.1 x.2.2.2.1 x.2.2.2.2 y.1 y.2.1 y.2.2.1 y.2.2.2.1 y.2.2.2.2 ≠ 0 then (no5, bothP x.1 x.2.1 x.2.2.1 x.2.2.2.1 x.2.2.2.2 y.1 y.2.1 y.2.2.1 y.2.2.2.1 y.2.2.2.2) else if k < 1 ∨ 4 < k then (no5, 2) else (pad5 ((lst x ++ lst y).take k.toNat), 0)
theorem both_yes {n a b c d n' a' b' c' d' : Int} (h : bothP n a b c d n' a' b' c' d' = 0) : chkP n a b c d 8 = 0 ∧ chkP n' a' b' c' d' 8 = 0 := by
  unfold bothP at h
  by_cases h1 : chkP n a b c d 8 = 0
  · rw [if_pos h1] at h; exact ⟨h1, h⟩
  · rw [if_neg h1] at h; exact absurd h h1
theorem pjoin_any (k n a b c d n' a' b' c' d' : Int) (w : World) (y : V5) (r : Int) (H : Hid (joinE k (n, a, b, c, d) (n', a', b', c', d') = (y, r))) : Calls Tryd.prog 21 #[.int .i64 k, .agg #[.int .i64 n, .int .i64 a, .int .i64 b, .int .i64 c, .int .i64 d], .agg #[.int .i64 n', .int .i64 a', .int .i64 b', .int .i64 c', .int .i64 d']] w fun e w' => e = .returned (LE y r) ∧ Below w.heap.size w w' := by
  have h := H.out
  unfold joinE at h
  simp only at h
  by_cases hc : bothP n a b c d n' a' b' c' d' = 0
  · rw [if_neg (by simpa using hc)] at h
    by_cases hk : k < 1 ∨ 4 < k
    · rw [if_pos hk] at h; cases h
      exact pjoin_range k n a b c d n' a' b' c' d' w (Lib.hid hc) hk
    · rw [if_neg hk] at h; cases h
      obtain ⟨h1, h2⟩ := both_yes hc
      obtain ⟨N, hN, hN4, hl, hp⟩ := lst_nat h1
      obtain ⟨M, hM, hM4, hm, hq⟩ := lst_nat h2
      obtain ⟨K, rfl⟩ : ∃ K : Nat, k = K := ⟨k.toNat, by omega⟩
      rw [Int.toNat_natCast]
      subst hN hM
      exact pjoin_ok _ _ K N M a b c d a' b' c' d' w (Lib.hid hc) (by omega) (by omega) hN4 hM4 (Lib.hid hl) (Lib.hid hm) (Lib.hid hp) (Lib.hid hq) _ _ _ _ _ (Lib.hid rfl)
  · rw [if_pos hc] at h; cases h
    exact pjoin_bad k n a b c d n' a' b' c' d' _ w (Lib.hid rfl) (by simpa using hc)
end Go.Proofs.YtddackdghphcnaaDoor.s13
