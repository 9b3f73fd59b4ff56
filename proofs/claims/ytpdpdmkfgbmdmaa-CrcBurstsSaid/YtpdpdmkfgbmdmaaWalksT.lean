/-
  The contract of CrcBursts.
-/
import Derived.Test.YtpdpdmkfgbmdmaaBurstMath
import Derived.Test.YtpdpdmkfgbmdmaaWalksN
namespace Go.Proofs.Ytpdpdmkfgbmdmaa
set_option linter.unusedSimpArgs false
set_option linter.unusedVariables false
open Go.RowKit
open crcs (W)

theorem burstL_bounds {P : W} {p K : Nat} (h : p + K ≤ 100000) : ∀ z ∈ burstL P p K, -9223372036854775808 ≤ z ∧ z ≤ 9223372036854775807 := by
  intro z hz
  unfold burstL at hz
  obtain ⟨i, hi, rfl⟩ := List.mem_map.1 hz
  have := List.mem_range.1 (List.mem_filter.1 hi).1
  omega
theorem burstL_yes' {P : W} {p k : Nat} (h : P.getLsbD k = true) : burstL P p (k + 1) = burstL P p k ++ [(p : Int) + k] := by
  rw [burstL_yes h]; simp
theorem row_alloc {w : World} {B E k : Nat} {v : Value} {xs : List Value} (h : w.ownsRow B E 1 v k xs) (o : Obj) : (w.alloc o).ownsRow B E 1 v k xs := h.alloc o

set_option maxRecDepth 100000 in
set_option maxHeartbeats 2000000 in
theorem bursts_any (s : ByteArray) (a : Int) (P0 : W) (w : World) (hs : s.size ≤ 100) (a1 : -9223372036854775808 ≤ a) (a2 : a ≤ 9223372036854775807) :
    Calls Try.prog 6 #[.string s, .int .i64 a, .int .u32 (wi P0)] w fun e w' => e = .returned (.bool true) ∧ Below w.heap.size w w' := by
  obtain ⟨P, hP⟩ : ∃ P, P0 ||| 1#32 = P := ⟨_, rfl⟩
  have hP0 : P.getLsbD 0 = true := by rw [← hP]; exact pat_odd P0
  have hor : bits .or .u32 (wi P0) 1 = wi P := by rw [pat_one, hP]
  have hseal : sealR s = (s ++ sealOf s, 0) := by unfold sealR; rw [if_neg (by omega)]
  have hopen := open_sealed s (by omega)
  have hz := sealed_size s
  obtain ⟨p, hp⟩ : ∃ p : Nat, a % (8 * ((s ++ sealOf s).size : Int)) = p := ⟨(a % (8 * ((s ++ sealOf s).size : Int))).toNat, by
    have := Int.emod_nonneg a (show 8 * ((s ++ sealOf s).size : Int) ≠ 0 by omega)
    omega⟩
  have hp8 : p < 8 * (s ++ sealOf s).size := by
    have := Int.emod_lt_of_pos a (show 0 < 8 * ((s ++ sealOf s).size : Int) by omega)
    omega
  have hmod : ∀ W0, Calls Try.prog 34 #[.int .i64 a, .int .i64 (8 * ((s ++ sealOf s).size : Int))] W0 fun e w' => e = .returned (.int .i64 p) ∧ W0 = w' := fun W0 => by
    rw [← hp]
    exact mod_any a _ a1 a2 (by omega) (by omega) W0
  obtain ⟨K, hK⟩ : ∃ K, K = min 32 (8 * (s.size + 4) - p) := ⟨_, rfl⟩
  obtain ⟨u, hflip, hus, hbits, hun⟩ := burst_all s hs P hP0 p K (by omega) (by omega) (by omega)
  have hbits := hbits hK
  generalize s ++ sealOf s = S at *
  have HM := Lib.hid hmod
  have H1 := Lib.hid hseal
  have H2 := Lib.hid hopen
  have H3 := Lib.hid hflip
  have H4 := Lib.hid hbits
  have H5 := Lib.hid hun
  have hne : ((S.size : Int) != (s.size : Int) + 4) = false := by rw [bne_eq_false_iff_eq]; omega
  have s1 : S.size ≤ 104 := by omega
  have u1 : u.size ≤ 104 := by omega
  have k1 : K ≤ 32 := by omega
  have k2 : p + K ≤ 8 * S.size := by omega
  have k3 : K = 32 ∨ p + K = 8 * S.size := by omega
  have k4 : (burstL P p K).length ≤ 32 := Nat.le_trans (burstL_len P p K) k1
  have HB := Lib.hid (burstL_bounds (P := P) (p := p) (K := K) (by omega))
  clear hmod hseal hopen hflip hbits hun hz hus hK hp hP hP0
  go_enter Try.func6, Try.ntmps6
  go_wp2_with (first
    | (go_at_call 5; (with_reducible refine (known_any _).mono ?_); rintro e w1 ⟨rfl, hB1⟩; have K1 := hB1)
    | (go_at_call 23; (with_reducible refine (Seal_any s S 0 _ (by omega) H1).mono ?_); rintro e w2 ⟨rfl, hB2⟩; have K2 := below_then K1 hB2)
    | (go_at_call 25; (with_reducible refine (open_any S s 0 _ (by omega) H2).mono ?_); rintro e w3 ⟨rfl, hB3⟩; have K3 := below_then K2 hB3)
    | (go_at_call 34; (with_reducible refine (HM.out _).mono ?_); rintro e w4 ⟨rfl, rfl⟩))
  clear hne hor
  go_loopw [12, 13] (fun v i wr => ∃ k : Nat, k ≤ K ∧ i = .int .i64 k ∧ wr.ownsRow w.heap.size 3 1 v (burstL P p k).length ((burstL P p k).map (Value.int .i64)) ∧ Below w.heap.size w wr) (fun _ i _ => K - (intOf i).toNat)
  case atStart => exact ⟨0, by omega, rfl, World.ownsRow_nil _ _ _ _, K3⟩
  case round =>
    obtain ⟨k, hk, rfl, hrow, hB⟩ := hrel
    by_cases hlt : k < K
    · have q1 : k < 32 := by omega
      have q2 : p + k < 8 * S.size := by omega
      have ht := pat_test P k
      have hlen := burstL_len P p k
      have hyes := Lib.hid (fun h => burstL_yes' (P := P) (p := p) (k := k) h)
      have hno := Lib.hid (fun h => burstL_no (P := P) (p := p) (k := k) h)
      have hP1 := wi_lo P
      have hP2 := wi_hi P
      generalize burstL P p k = D at hrow hlen hyes hno
      clear k3
      cases hb : P.getLsbD k
      · have HN := Lib.hid (hno.out hb)
        rw [hb] at ht
        clear hyes hno hb
        go_wp2
        go_roundw
        case rel => exact ⟨k + 1, by omega, by go_num, by rw [HN.out]; exact hrow, hB⟩
        case measure => simp [intOf]; omega
      · have HN := Lib.hid (hyes.out hb)
        rw [hb] at ht
        clear hyes hno hb
        go_wp2_with (at_builtin; refine append_in Try.underlying36 info3 rfl (by omega) rfl (.tmp 78) (.tmp 82) rfl w.heap.size _ D.length (D.map (Value.int .i64)) rfl (row_alloc hrow _) _ [.int .i64 ((p : Int) + k)] 1 1 rfl rfl (src_one _ _ _) (by simp [Value.oneCell']) (by omega) (by have := hB.size; simp; omega) ?_; intro v1 wA hv1 hBA; have hBz := (hB.alloc hB.size _).trans hBA)
        go_roundw
        case rel => exact ⟨k + 1, by omega, by go_num, row_snoc HN.out hv1, hBz⟩
        case measure => simp [intOf]; omega
    · obtain rfl : k = K := by omega
      generalize burstL P p k = L at *
      obtain ⟨ab, cb, rfl⟩ := row_shape hrow
      have hrd := reads_of_row (d := 0) rfl hrow
      clear hrow hlt
      have k5 : 32 ≤ k ∨ (k < 32 ∧ 8 * S.size ≤ p + k) := by omega
      clear k3
      rcases k5 with k5 | ⟨k5, k6⟩
      all_goals
        go_wp2_with (first
          | (go_at_call 28; (with_reducible refine (flip_any S ab cb L u 0 _ (by omega) (by omega) HB.out hrd H3).mono ?_); rintro e w4 ⟨rfl, hB4⟩; have K4 := below_then hB hB4; have hrd4 := hrd.below hB4)
          | (go_at_call 31; (with_reducible refine (bits_any S u L 0 _ (by omega) H4).mono ?_); rintro e w5 ⟨bx, cx, rfl, hbx, hB5⟩; have K5 := below_then K4 hB5; have hrd5 := hrd4.below hB5)
          | (go_at_call 30; (with_reducible refine (same_ints bx ab cx cb L _ (by omega) hbx hrd5).mono ?_); rintro e w6 ⟨rfl, n6, rfl⟩; have K6 := below_drewN K5 n6)
          | (go_at_call 33; (with_reducible refine (opens_any u ⟨#[]⟩ 13 _ (by omega) H5).mono ?_); rintro e w7 ⟨rfl, hB7⟩; have K7 := below_then K6 hB7))
        go_ret
        exact ⟨rfl, K7⟩
end Go.Proofs.Ytpdpdmkfgbmdmaa
