/-
  Layer 13: the program's Begins.
-/
import Derived.Test.YtddackdghphcnaaDoorS13K
import Derived.Test.YtddackdghphcnaaDoorS13RE
namespace Go.Proofs.YtddackdghphcnaaDoor.s13
set_option linter.unusedVariables false
set_option linter.unusedSimpArgs false
open Go.RowKit
open kit

set_option maxRecDepth 100000 in
set_option maxHeartbeats 2000000 in
theorem pbegins_bad (n a b c d n' a' b' c' d' r : Int) (w : World) (HR : Hid (bothP n a b c d n' a' b' c' d' = r)) (hr : (r != 0) = true) : Calls Tryd.prog 27 #[.agg #[.int .i64 n, .int .i64 a, .int .i64 b, .int .i64 c, .int .i64 d], .agg #[.int .i64 n', .int .i64 a', .int .i64 b', .int .i64 c', .int .i64 d']] w fun e w' => e = .returned (.tuple #[.bool false, .int .i64 r]) ∧ Below w.heap.size w w' := by
  go_enter Tryd.func27, Tryd.ntmps27
  go_wp2_with (go_at_call 46; refine (checkall_two n a b c d n' a' b' c' d' r _ _ (new3 _ _ _ _ _) HR).mono ?_; rintro e w1 ⟨rfl, hB⟩; obtain ⟨X1, Y1, Z1, hB1⟩ := made3 hB; have B1 := Lib.hid hB1; clear hB hB1 X1 Y1 Z1)
  go_ret2
  exact ⟨rfl, B1.out⟩
theorem inV_pad {l : List Int} (h : okL 8 l) : inV (pad5 l) := by
  have h0 := okL_at0 h (by omega) 0
  have h1 := okL_at0 h (by omega) 1
  have h2 := okL_at0 h (by omega) 2
  have h3 := okL_at0 h (by omega) 3
  have h4 := h.1
  unfold inV inK pad5
  simp only
  refine ⟨⟨by omega, by omega⟩, ⟨by omega, by omega⟩, ⟨by omega, by omega⟩, ⟨by omega, by omega⟩, ⟨by omega, by omega⟩⟩
/-- the first k beginnings of a look -/
def inAny (m : List Int) (k : Nat) (x : V5) : Bool := (List.range k).any fun j => decide (x = pad5 (m.take j))
theorem inAny_succ (m : List Int) (k : Nat) (x : V5) : inAny m (k + 1) x = (inAny m k x || decide (x = pad5 (m.take k))) := by
  unfold inAny; rw [List.range_succ, List.any_append]; simp
theorem inAny_beg {l m : List Int} (hl : l.length ≤ 4) : inAny m (m.length + 1) (pad5 l) = begB l m := by
  unfold inAny begB
  rw [Bool.eq_iff_iff, List.any_eq_true, decide_eq_true_eq]
  constructor
  · rintro ⟨j, hj, e⟩
    have hj2 : j < m.length + 1 := List.mem_range.1 hj
    have e2 := pad5_inj hl (of_decide_eq_true e)
    subst e2
    rw [List.length_take, Nat.min_eq_left (by omega)]
  · intro e
    have h := congrArg List.length e
    rw [List.length_take] at h
    exact ⟨l.length, List.mem_range.2 (by omega), decide_eq_true (by rw [e])⟩
set_option maxRecDepth 100000 in
set_option maxHeartbeats 4000000 in
theorem pbegins_ok (l m : List Int) (N M : Nat) (a b c d a' b' c' d' : Int) (v : Bool) (w : World) (HR : Hid (bothP N a b c d M a' b' c' d' = 0)) (hN : N ≤ 4) (hM : M ≤ 4) (HL : Hid (l.length = N)) (HM : Hid (m.length = M)) (HP : Hid (pad5 l = ((N : Int), a, b, c, d))) (HQ : Hid (pad5 m = ((M : Int), a', b', c', d'))) (hl : Hid (okL 8 l)) (hm : Hid (okL 8 m)) (HV : Hid (begB l m = v)) :
    Calls Tryd.prog 27 #[.agg #[.int .i64 N, .int .i64 a, .int .i64 b, .int .i64 c, .int .i64 d], .agg #[.int .i64 M, .int .i64 a', .int .i64 b', .int .i64 c', .int .i64 d']] w fun e w' => e = .returned (.tuple #[.bool v, .int .i64 0]) ∧ Below w.heap.size w w' := by
  have n2 : (N : Int) ≤ 4 := by omega
  have m2 : (M : Int) ≤ 4 := by omega
  have hmm := @run_makeMap Tryd.prog
  go_enter Tryd.func27, Tryd.ntmps27
  go_wp2_with (go_at_call 46; refine (checkall_two N a b c d M a' b' c' d' 0 _ _ (new3 _ _ _ _ _) HR).mono ?_; rintro e w1 ⟨rfl, hB⟩; obtain ⟨X1, Y1, Z1, hB1⟩ := made3 hB; have B1 := Lib.hid hB1; have X1 := Lib.hid X1; have Y1 := Lib.hid Y1; obtain ⟨u0, u1, u2, u3, u4⟩ := (Y1.out.alloc (.map #[] 0)).cell5; clear hB hB1 Z1)
  have MP := Lib.hid (MapB.new w1)
  have X2 := Lib.hid (X1.out.alloc (.map #[] 0))
  have Y2 := Lib.hid (Y1.out.alloc (.map #[] 0))
  have B2 := Lib.hid (B1.out.alloc B1.out.size (.map #[] 0))
  have hg1 : w.heap.size + 1 < w1.heap.size := Y1.out.lt
  clear u0 u1 u2 u3 u4 X1 Y1 B1 hmm
  go_loopw [20] (fun i wr => ∃ k : Nat, i = .int .i64 k ∧ k ≤ M + 1 ∧ Hid (MapB wr w1.heap.size k (inAny m k)) ∧ Hid (Box wr 25 w.heap.size #[.int .i64 N, .int .i64 a, .int .i64 b, .int .i64 c, .int .i64 d]) ∧ Hid (Box wr 25 (w.heap.size + 1) #[.int .i64 M, .int .i64 a', .int .i64 b', .int .i64 c', .int .i64 d']) ∧ Hid (Below w.heap.size w wr)) (fun i _ => M + 1 - (intOf i).toNat)
  case atStart => exact ⟨0, rfl, by omega, MP, X2, Y2, B2⟩
  case round =>
    obtain ⟨k, rfl, hk, HMp, HX, HY, HB⟩ := hrel
    by_cases hlt : k < M + 1
    · have hkm : min M k = k := by omega
      have hcut := cutP_look (l := m) (by have := HM.out; omega) (pad5_of HQ.out) k
      obtain ⟨⟨q, c0, c1, c2, c3⟩, hq⟩ : ∃ u, cutP M k a' b' c' d' = u := ⟨_, rfl⟩
      have hqk : q = k := by have := congrArg Prod.fst hq; simpa [cutP, hkm] using this.symm
      subst hqk
      rw [hq] at hcut
      have HC := Lib.hid hq
      have hy : pad5 (m.take q) = ((q : Int), c0, c1, c2, c3) := by
        have h9 := hcut.symm
        simp only [pad, pad5, Prod.mk.injEq] at h9 ⊢
        exact ⟨by omega, h9.2⟩
      have hin : inV ((q : Int), c0, c1, c2, c3) := by rw [← hy]; exact inV_pad (okL_take hm.out q)
      have HK := Lib.hid (key_of q c0 c1 c2 c3 hin)
      have HIN := Lib.hid hin
      have HYY := Lib.hid hy
      have hlt2 : (q : Int) < (M : Int) + 1 := by omega
      obtain ⟨u0, u1, u2, u3, u4⟩ := HY.out.cell5
      clear hq hcut hy hin
      go_wp2_with (first
        | (go_at_call 52; refine (cut_any M q a' b' c' d' _ (by omega) q c0 c1 c2 c3 HC).mono ?_; rintro e w2 ⟨rfl, hB⟩; have B3 := Lib.hid (below_then HB.out hB); have M3 := Lib.hid (HMp.out.below hB); have X3 := Lib.hid (HX.out.below hB); have Y3 := Lib.hid (HY.out.below hB); clear hB u0 u1 u2 u3 u4; obtain ⟨D, hown, hD⟩ := M3.out; have HD := Lib.hid hD; have HO := Lib.hid hown; clear hown hD)
        | (at_mapUpdate; refine wpList_mapUpdate_own _ rfl _ _ _ 74 rfl 25 4 lawLook Tryd.underlying74 _ w1.heap.size q D rfl HO.out (by unfold maxLen; omega) _ _ _ rfl rfl HK.out _ [] (plainElem_bool Tryd.underlying4 true) ?_; intro w3 hown1 hgrow1; have B4 := Lib.hid (B3.out.grown hgrow1 B3.out.size (fun j e => by cases e; omega)); have M4 : Hid (MapB w3 w1.heap.size (q + 1) (inAny m (q + 1))) := Lib.hid ⟨_, hown1, fun x hx => by rw [MapB.step HO.out.isMap HD.out HIN.out x hx, inAny_succ, HYY.out]⟩; have X4 := Lib.hid ((hgrow1.block _ X3.out.lt (by simp; omega)).trans X3.out); have Y4 := Lib.hid ((hgrow1.block _ Y3.out.lt (by simp; omega)).trans Y3.out); clear hown1 hgrow1))
      go_roundw
      case rel => exact ⟨q + 1, by go_num, by omega, M4, X4, Y4, B4⟩
      case measure => simp [intOf]; omega
    · obtain rfl : k = M + 1 := by omega
      have hx : inV ((N : Int), a, b, c, d) := by rw [← HP.out]; exact inV_pad hl.out
      have hlk := HMp.out.look N a b c d hx
      have e : inAny m (M + 1) ((N : Int), a, b, c, d) = v := by
        rw [← HP.out, ← HM.out, inAny_beg (by have := HL.out; omega)]; exact HV.out
      rw [e] at hlk
      obtain ⟨x0, x1, x2, x3, x4⟩ := HX.out.cell5
      clear hx e
      go_wp2
      go_ret2
      exact ⟨rfl, HB.out⟩
theorem pbegins_any (n a b c d n' a' b' c' d' : Int) (w : World) (v : Bool) (r : Int) (H : Hid (begE (n, a, b, c, d) (n', a', b', c', d') = (v, r))) : Calls Tryd.prog 27 #[.agg #[.int .i64 n, .int .i64 a, .int .i64 b, .int .i64 c, .int .i64 d], .agg #[.int .i64 n', .int .i64 a', .int .i64 b', .int .i64 c', .int .i64 d']] w fun e w' => e = .returned (.tuple #[.bool v, .int .i64 r]) ∧ Below w.heap.size w w' := by
  have h := H.out
  unfold begE at h
  simp only at h
  by_cases hc : bothP n a b c d n' a' b' c' d' = 0
  · rw [if_neg (by simpa using hc)] at h
    cases h
    obtain ⟨h1, h2⟩ := both_yes hc
    obtain ⟨k1, _, _⟩ := lst_ok h1
    obtain ⟨k2, _, _⟩ := lst_ok h2
    obtain ⟨N, hN, hN4, hl, hp⟩ := lst_nat h1
    obtain ⟨M, hM, hM4, hm, hq⟩ := lst_nat h2
    subst hN hM
    exact pbegins_ok _ _ N M a b c d a' b' c' d' _ w (Lib.hid hc) hN4 hM4 (Lib.hid hl) (Lib.hid hm) (Lib.hid hp) (Lib.hid hq) (Lib.hid k1) (Lib.hid k2) (Lib.hid rfl)
  · rw [if_pos hc] at h; cases h
    exact pbegins_bad n a b c d n' a' b' c' d' _ w (Lib.hid rfl) (by simpa using hc)
end Go.Proofs.YtddackdghphcnaaDoor.s13
