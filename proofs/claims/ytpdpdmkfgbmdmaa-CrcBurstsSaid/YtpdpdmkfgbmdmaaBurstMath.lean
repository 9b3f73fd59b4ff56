/-
  Bursts: which bits are turned, what Bits says of them, and that the sealed string is refused.
-/
import Derived.Test.YtpdpdmkfgbmdmaaWalksM
namespace Go.Proofs.Ytpdpdmkfgbmdmaa
set_option linter.unusedSimpArgs false
set_option linter.unusedVariables false
open crcs (W)

/-- a bit of a list of bytes -/
def bitAt (l : List UInt8) (i : Nat) : Bool := (l[i / 8]?.getD 0).toNat.testBit (i % 8)
theorem bitB_test (n j : Nat) (hj : j < 8) : (bitB n).toNat.testBit j = decide (n % 8 = j) := by
  unfold bitB
  rw [UInt8.toNat_ofNat', Nat.testBit_mod_two_pow, Nat.testBit_two_pow]
  simp [hj]
theorem bitAt_flip1 (l : List UInt8) (n i : Nat) (hn : n / 8 < l.length) : bitAt (flip1 l n) i = (bitAt l i ^^ decide (i = n)) := by
  unfold bitAt flip1
  rw [List.getElem?_set]
  by_cases h : n / 8 = i / 8
  · rw [if_pos h, if_pos hn, ← h, Option.getD_some, UInt8.toNat_xor, Nat.testBit_xor, bitB_test n _ (Nat.mod_lt _ (by decide))]
    congr 1
    rw [decide_eq_decide]
    omega
  · rw [if_neg h]
    have : decide (i = n) = false := decide_eq_false (by rintro rfl; exact h rfl)
    rw [this, Bool.xor_false]
/-- the numbers of the bits that a pattern turns, from a place on -/
def burstL (P : W) (p k : Nat) : List Int := ((List.range k).filter fun i => P.getLsbD i).map fun i : Nat => ((p + i : Nat) : Int)
theorem burstL_yes {P : W} {p k : Nat} (h : P.getLsbD k = true) : burstL P p (k + 1) = burstL P p k ++ [((p + k : Nat) : Int)] := by
  unfold burstL
  rw [List.range_succ, List.filter_append, List.map_append, List.filter_cons_of_pos (by exact h)]
  rfl
theorem burstL_no {P : W} {p k : Nat} (h : P.getLsbD k = false) : burstL P p (k + 1) = burstL P p k := by
  unfold burstL
  rw [List.range_succ, List.filter_append, List.map_append, List.filter_cons_of_neg (by rw [h]; decide)]
  simp
theorem burstL_len (P : W) (p k : Nat) : (burstL P p k).length ≤ k := by
  unfold burstL
  have := List.length_filter_le (fun i => P.getLsbD i) (List.range k)
  simp at *
  omega
/-- is that bit turned? -/
def mb (P : W) (p k i : Nat) : Bool := decide (p ≤ i ∧ i < p + k) && P.getLsbD (i - p)
theorem flips_app (l : List UInt8) (a b : List Int) : flips l (a ++ b) = flips (flips l a) b := by simp [flips, List.foldl_append]
theorem bitAt_flips (P : W) (p : Nat) (l : List UInt8) : ∀ (k : Nat), p + k ≤ 8 * l.length → ∀ i, bitAt (flips l (burstL P p k)) i = (bitAt l i ^^ mb P p k i) := by
  intro k
  induction k with
  | zero =>
    intro _ i
    have : mb P p 0 i = false := by
      unfold mb
      rw [decide_eq_false (by omega), Bool.false_and]
    rw [this, Bool.xor_false]; rfl
  | succ k ih =>
    intro hk i
    have ih := ih (by omega) i
    cases hb : P.getLsbD k
    · rw [burstL_no hb, ih]
      congr 1
      unfold mb
      by_cases e : i = p + k
      · subst e
        rw [Nat.add_sub_cancel_left, hb, Bool.and_false, Bool.and_false]
      · congr 1
        rw [decide_eq_decide]
        omega
    · rw [burstL_yes hb, flips_app]
      show bitAt (flip1 (flips l (burstL P p k)) ((p + k : Nat) : Int).toNat) i = _
      rw [Int.toNat_natCast, bitAt_flip1 _ _ _ (by rw [flips_len]; omega), ih, Bool.xor_assoc]
      congr 1
      unfold mb
      by_cases e : i = p + k
      · subst e
        rw [decide_eq_false (p := p ≤ p + k ∧ p + k < p + k) (by omega), decide_eq_true (p := p ≤ p + k ∧ p + k < p + (k + 1)) (by omega), Nat.add_sub_cancel_left, hb]
        simp
      · rw [decide_eq_false e, Bool.xor_false]
        congr 1
        rw [decide_eq_decide]
        omega
theorem dif_bits (s t : ByteArray) (i : Nat) : dif s t i = (bitAt s.data.toList i ^^ bitAt t.data.toList i) := by
  unfold dif bitAt
  rw [UInt8.toNat_xor, Nat.testBit_xor]
theorem diffs_burst (s t : ByteArray) (P : W) (p K : Nat) (h : ∀ i, dif s t i = mb P p K i) : ∀ n, diffs s t n = burstL P p (min (n - p) K) := by
  intro n
  induction n with
  | zero =>
    rw [Nat.zero_sub, Nat.zero_min]; rfl
  | succ n ih =>
    by_cases h1 : p ≤ n ∧ n < p + K
    · rw [show min (n + 1 - p) K = (n - p) + 1 by omega]
      rw [show min (n - p) K = n - p by omega] at ih
      cases hb : P.getLsbD (n - p)
      · rw [diffs_no (by rw [h, mb, decide_eq_true h1, hb]; rfl), ih, burstL_no hb]
      · rw [diffs_yes (by rw [h, mb, decide_eq_true h1, hb]; rfl), ih, burstL_yes hb, show p + (n - p) = n by omega]
    · rw [diffs_no (by rw [h, mb, decide_eq_false h1]; rfl), ih]
      congr 1
      omega
/-- the bits of bytes, one behind the other -/
theorem flat_get : ∀ (l : List UInt8) (i : Nat), i < 8 * l.length → (l.flatMap crcs.bits8)[i]? = some (bitAt l i) := by
  intro l
  induction l with
  | nil => intro i h; simp at h
  | cons b l ih =>
    intro i h
    rw [List.flatMap_cons]
    by_cases h8 : i < 8
    · rw [List.getElem?_append_left (by rw [crcs.bits8_len]; exact h8), crcs.bits8, crcs.lows_get _ _ _ h8, w8_get]
      unfold bitAt
      rw [show i / 8 = 0 by omega, show i % 8 = i by omega]
      rfl
    · rw [List.getElem?_append_right (by rw [crcs.bits8_len]; omega), crcs.bits8_len, ih (i - 8) (by simp at h; omega)]
      unfold bitAt
      rw [show (i - 8) % 8 = i % 8 by omega, show i / 8 = (i - 8) / 8 + 1 by omega]
      rfl
/-- the mask of a burst -/
def mask (P : W) (p K m : Nat) : List Bool := List.replicate p false ++ ((List.range K).map (fun i => P.getLsbD i) ++ List.replicate (m - p - K) false)
theorem mask_len (P : W) (p K m : Nat) (h : p + K ≤ m) : (mask P p K m).length = m := by
  simp [mask]; omega
theorem mask_get (P : W) (p K m : Nat) (h : p + K ≤ m) (i : Nat) (hi : i < m) : (mask P p K m)[i]? = some (mb P p K i) := by
  unfold mask mb
  by_cases h1 : i < p
  · rw [List.getElem?_append_left (by simpa using h1), List.getElem?_replicate, if_pos h1, decide_eq_false (by omega)]
    rfl
  · rw [List.getElem?_append_right (by simp; omega), List.length_replicate]
    by_cases h2 : i - p < K
    · rw [List.getElem?_append_left (by simpa using h2), List.getElem?_map, List.getElem?_range h2, decide_eq_true (by omega)]
      rfl
    · rw [List.getElem?_append_right (by simp; omega), List.getElem?_replicate, List.length_map, List.length_range, if_pos (by omega), decide_eq_false (by omega)]
      rfl
theorem mask_run (P : W) (p K m : Nat) (h0 : P.getLsbD 0 = true) (hK : 1 ≤ K) (h32 : K ≤ 32) : crcs.run 0#32 (mask P p K m) ≠ 0#32 := by
  obtain ⟨j, rfl⟩ : ∃ j, K = j + 1 := ⟨K - 1, by omega⟩
  have : (List.range (j + 1)).map (fun i => P.getLsbD i) = true :: (List.range j).map (fun i => P.getLsbD (i + 1)) := by
    rw [List.range_succ_eq_map, List.map_cons, h0, List.map_map]
    rfl
  unfold mask
  rw [this]
  exact crcs.burst (by simp; omega)
theorem four_ok (s : ByteArray) : (s ++ sealOf s).data.toList = s.data.toList ++ crcs.four (crcOf s.data.toList) := by
  rw [ByteArray.data_append, Array.toList_append]
  rfl
theorem sealed_ok (s : ByteArray) : crcs.adds crcs.ones (s ++ sealOf s).data.toList = crcs.iter 32 crcs.ones := by
  rw [four_ok]
  exact crcs.sealed_state _ _
theorem sealed_size (s : ByteArray) : (s ++ sealOf s).size = s.size + 4 := by rw [ByteArray.size_append, sealOf_size]
theorem ext_list (s : ByteArray) (a b : Nat) : (s.extract a b).data.toList = (s.data.toList.take b).drop a := by
  rw [ByteArray.data_extract]
  simp [List.drop_take]
theorem open_sealed (s : ByteArray) (hs : s.size ≤ 20000) : openR (s ++ sealOf s) = (s, 0) := by
  have hz := sealed_size s
  have hl : s.data.toList.length = s.size := by simp
  have e1 : (s ++ sealOf s).extract 0 s.size = s := by
    apply bytes_ext
    rw [ext_list, four_ok, List.drop_zero, List.take_append_of_le_length (by omega), List.take_of_length_le (by omega)]
  have e2 : (s ++ sealOf s).extract s.size (s.size + 4) = sealOf s := by
    apply bytes_ext
    rw [ext_list, four_ok, List.take_of_length_le (by rw [List.length_append, hl, crcs.four_len]; omega), List.drop_append_of_le_length (by omega), List.drop_eq_nil_of_le (by omega)]
    rfl
  unfold openR
  rw [if_neg (by omega), if_neg (by omega), hz, show s.size + 4 - 4 = s.size by omega, e1, e2, if_pos rfl]
theorem open_refused {u : ByteArray} (h1 : 4 ≤ u.size) (h2 : u.size ≤ 20004) (h : crcs.adds crcs.ones u.data.toList ≠ crcs.iter 32 crcs.ones) : openR u = (⟨#[]⟩, 13) := by
  unfold openR
  rw [if_neg (by omega), if_neg (by omega), if_neg]
  intro e
  apply h
  have hl : u.data.toList.length = u.size := by simp
  have e2 : u.data.toList = (u.extract 0 (u.size - 4)).data.toList ++ (u.extract (u.size - 4) u.size).data.toList := by
    rw [ext_list, ext_list, List.drop_zero, List.take_of_length_le (i := u.size) (by omega), List.take_append_drop]
  rw [e2]
  refine (crcs.is_seal crcs.ones _ _ ?_).1 ?_
  · rw [ext_list, List.length_drop, List.length_take]; omega
  · rw [e]; rfl
/-- what a burst does to a sealed string -/
theorem burst_all (s : ByteArray) (hs : s.size ≤ 100) (P : W) (h0 : P.getLsbD 0 = true) (p K : Nat) (hK : 1 ≤ K) (h32 : K ≤ 32) (hp : p + K ≤ 8 * (s.size + 4)) :
    ∃ u, flipR (s ++ sealOf s) (burstL P p K) = (u, 0) ∧ u.size = s.size + 4 ∧ (K = min 32 (8 * (s.size + 4) - p) → bitsR (s ++ sealOf s) u = (burstL P p K, 0)) ∧ openR u = (⟨#[]⟩, 13) := by
  have hz := sealed_size s
  have hl : (s ++ sealOf s).data.toList.length = s.size + 4 := by simpa using hz
  have hf := bitAt_flips P p (s ++ sealOf s).data.toList K (by rw [hl]; exact hp)
  have hul : (flips (s ++ sealOf s).data.toList (burstL P p K)).length = s.size + 4 := by rw [flips_len]; exact hl
  refine ⟨⟨(flips (s ++ sealOf s).data.toList (burstL P p K)).toArray⟩, ?_, ?_, ?_, ?_⟩
  · refine flipR_yes fun j hj => ?_
    rw [List.getElem?_eq_getElem hj]
    have hm : (burstL P p K)[j] ∈ burstL P p K := List.getElem_mem hj
    generalize (burstL P p K)[j] = z at hm
    unfold burstL at hm
    obtain ⟨i, hi, rfl⟩ := List.mem_map.1 hm
    have hi2 := List.mem_range.1 (List.mem_filter.1 hi).1
    exact isBit_yes (by simp; omega) (by rw [hz]; simp; omega)
  · show (flips (s ++ sealOf s).data.toList (burstL P p K)).toArray.size = _
    rw [List.size_toArray, hul]
  · intro hKe
    have hus : (⟨(flips (s ++ sealOf s).data.toList (burstL P p K)).toArray⟩ : ByteArray).size = s.size + 4 := by
      show (flips (s ++ sealOf s).data.toList (burstL P p K)).toArray.size = _
      rw [List.size_toArray, hul]
    unfold bitsR
    rw [if_pos (by rw [hz, hus]), diffs_burst _ _ P p K (fun i => by
      rw [dif_bits]
      show (bitAt _ i ^^ bitAt (flips (s ++ sealOf s).data.toList (burstL P p K)) i) = _
      rw [hf, ← Bool.xor_assoc, Bool.xor_self, Bool.false_xor]), hz]
    congr 2
    omega
  · have hus : (⟨(flips (s ++ sealOf s).data.toList (burstL P p K)).toArray⟩ : ByteArray).size = s.size + 4 := by
      show (flips (s ++ sealOf s).data.toList (burstL P p K)).toArray.size = _
      rw [List.size_toArray, hul]
    refine open_refused (by omega) (by omega) ?_
    show crcs.adds crcs.ones (flips (s ++ sealOf s).data.toList (burstL P p K)) ≠ _
    refine crcs.refused (mask := mask P p K (8 * (s.size + 4))) ?_ ?_ (sealed_ok s) (mask_run P p K _ h0 hK h32)
    · rw [mask_len _ _ _ _ hp, crcs.flat_len8, hl]
    · apply List.ext_getElem?
      intro i
      rw [List.getElem?_zipWith]
      by_cases hi : i < 8 * (s.size + 4)
      · rw [flat_get _ _ (by rw [hul]; exact hi), flat_get _ _ (by rw [hl]; exact hi), mask_get _ _ _ _ hp _ hi, hf]
      · rw [List.getElem?_eq_none (by rw [crcs.flat_len8, hul]; omega), List.getElem?_eq_none (by rw [crcs.flat_len8, hl]; omega)]
/-- the walk's test of the pattern -/
theorem pat_test (P : W) (k : Nat) : (bits .and .u32 (wi P / 2 ^ k) 1 == 1) = P.getLsbD k := by
  have e : bits .and .u32 (wi P / 2 ^ k) 1 = wi ((P >>> k) &&& 1#32) := by
    rw [shr_w, one_w, and_w]
  rw [e, and1, BitVec.getLsbD_ushiftRight, Nat.add_zero]
  cases P.getLsbD k <;> decide
theorem or_w (a b : W) : bits .or .u32 (wi a) (wi b) = wi (a ||| b) := by
  have : bits .or .u32 (wi a) (wi b) = IntKind.u32.wrap ((BitVec.ofInt 32 (wi a) ||| BitVec.ofInt 32 (wi b)).toNat : Int) := rfl
  rw [this, of_wi, of_wi]
  exact wrap_u32_in _ (wi_lo _) (wi_hi _)
theorem pat_one (P : W) : bits .or .u32 (wi P) 1 = wi (P ||| 1#32) := by rw [one_w, or_w]
theorem pat_odd (P : W) : (P ||| 1#32).getLsbD 0 = true := by simp
end Go.Proofs.Ytpdpdmkfgbmdmaa
