/-
  Numbers are read back from their digits, and from no other bytes.
-/
import Derived.Test.YtkepnjnindolbaaMathB
namespace Go.Proofs.Ytkepnjnindolbaa
set_option linter.unusedVariables false

/-- digits as bytes -/
def bys (xs : List Int) : List UInt8 := xs.map fun n => UInt8.ofNat n.toNat
theorem bys_len (xs : List Int) : (bys xs).length = xs.length := by simp [bys]
theorem bys_cons (x : Int) (xs : List Int) : bys (x :: xs) = UInt8.ofNat x.toNat :: bys xs := rfl
theorem bys_app (xs ys : List Int) : bys (xs ++ ys) = bys xs ++ bys ys := by simp [bys]
theorem u8_toNat {x : Int} (h0 : 0 ≤ x) (h1 : x ≤ 255) : ((UInt8.ofNat x.toNat).toNat : Int) = x := by
  rw [UInt8.toNat_ofNat', Nat.mod_eq_of_lt (by omega)]
  omega
theorem str_list (xs : List Int) : (strOfNums xs).data.toList = bys xs := rfl

/-- a number at its place -/
theorem place_le {n : Int} {i : Nat} (hn : 128 ≤ n) (hi : n * 128 ^ i ≤ 18446744073709551615) (hi9 : i ≤ 9) : i ≤ 8 := by
  rcases pow128 i hi9 with ⟨e, rfl⟩ | ⟨e, rfl⟩ | ⟨e, rfl⟩ | ⟨e, rfl⟩ | ⟨e, rfl⟩ | ⟨e, rfl⟩ | ⟨e, rfl⟩ | ⟨e, rfl⟩ | ⟨e, rfl⟩ | ⟨e, rfl⟩ <;> rw [e] at hi <;> omega
theorem place_last {n : Int} {i : Nat} (h0 : 0 ≤ n) (hi : n * 128 ^ i ≤ 18446744073709551615) (hi9 : i ≤ 9) : ¬ (i = 9 ∧ 1 < n) := by
  rintro ⟨rfl, h1⟩
  have : (128 : Int) ^ 9 = 9223372036854775808 := by decide
  rw [this] at hi
  omega
theorem place_step {n : Int} (i : Nat) : n / 128 * 128 ^ (i + 1) = n * 128 ^ i - n % 128 * 128 ^ i := by
  have e : n = 128 * (n / 128) + n % 128 := (Int.mul_ediv_add_emod n 128).symm
  have h1 : n * 128 ^ i = (128 * (n / 128) + n % 128) * 128 ^ i := by rw [← e]
  rw [h1, Int.add_mul, Int.pow_succ, Int.mul_comm 128 (n / 128), Int.mul_assoc, Int.mul_comm 128 (128 ^ i)]
  omega

theorem rdl_back : ∀ (m : Nat) (n : Int) (rest : List UInt8) (p : Int) (i : Nat) (acc : Int), n.toNat = m → 0 ≤ n → i ≤ 9 → n * 128 ^ i ≤ 18446744073709551615 → (0 < i → 0 < n) →
    rdl (bys (digs n) ++ rest) p i acc = (acc + n * 128 ^ i, p + (digs n).length, 0, 0) := by
  intro m
  induction m using Nat.strongRecOn with
  | _ m ih =>
    intro n rest p i acc hm h0 hi9 hb hpos
    by_cases hl : n < 128
    · rw [digs_last hl, bys_cons]
      have hx := u8_toNat h0 (by omega)
      have hbad := place_last h0 hb hi9
      show rdl (UInt8.ofNat n.toNat :: (bys [] ++ rest)) p i acc = _
      rw [rdl_last (by omega) (by omega), hx]
      simp
    · have hi8 := place_le (by omega) hb hi9
      rw [digs_more (by omega), bys_cons]
      have hx := u8_toNat (x := n % 128 + 128) (by omega) (by omega)
      show rdl (UInt8.ofNat (n % 128 + 128).toNat :: (bys (digs (n / 128)) ++ rest)) p i acc = _
      rw [rdl_more (by omega) (by omega), hx]
      have hp : (0 : Int) < 128 ^ i := Int.pow_pos (by omega)
      have hmod : 0 ≤ n % 128 * 128 ^ i := Int.mul_nonneg (by omega) (by omega)
      have hs := place_step (n := n) i
      rw [ih (n / 128).toNat (by omega) (n / 128) rest (p + 1) (i + 1) _ rfl (by omega) (by omega) (by omega) (by intro; omega)]
      rw [hs]
      congr 1
      · rw [show n % 128 + 128 - 128 = n % 128 by omega]; omega
      · congr 1
        simp; omega
theorem rd_mid {s : ByteArray} {l1 l2 : List UInt8} {n : Int} (h : s.data.toList = l1 ++ (bys (digs n) ++ l2)) (h0 : 0 ≤ n) (h1 : n ≤ 18446744073709551615) :
    rd s l1.length = (n, (l1.length : Int) + (digs n).length, 0, 0) := by
  have hs : s.size = l1.length + ((digs n).length + l2.length) := by
    have := congrArg List.length h
    rw [List.length_append, List.length_append, bys_len] at this
    rw [← this]; simp
  unfold rd
  rw [if_neg (by omega), h]
  simp only [Int.toNat_natCast, List.drop_left]
  rw [rdl_back n.toNat n l2 _ 0 0 rfl h0 (by omega) (by simpa using h1) (by omega)]
  simp

/-- what is cut off is not read -/
theorem rdl_cut : ∀ (m : Nat) (n : Int) (j : Nat) (p : Int) (i : Nat) (acc : Int), n.toNat = m → 0 ≤ n → i ≤ 9 → n * 128 ^ i ≤ 18446744073709551615 → (0 < i → 0 < n) → j < (digs n).length →
    rdl ((bys (digs n)).take j) p i acc = (0, 0, 5, p + j) := by
  intro m
  induction m using Nat.strongRecOn with
  | _ m ih =>
    intro n j p i acc hm h0 hi9 hb hpos hj
    cases j with
    | zero => simp [rdl_end]
    | succ j =>
      by_cases hl : n < 128
      · rw [digs_last hl] at hj; simp at hj
      · have hi8 := place_le (by omega) hb hi9
        rw [digs_more (by omega)] at hj
        rw [digs_more (by omega), bys_cons, List.take_succ_cons]
        have hx := u8_toNat (x := n % 128 + 128) (by omega) (by omega)
        rw [rdl_more (by omega) (by omega)]
        have hp : (0 : Int) < 128 ^ i := Int.pow_pos (by omega)
        have hmod : 0 ≤ n % 128 * 128 ^ i := Int.mul_nonneg (by omega) (by omega)
        have hs := place_step (n := n) i
        rw [ih (n / 128).toNat (by omega) (n / 128) j (p + 1) (i + 1) _ rfl (by omega) (by omega) (by omega) (by intro; omega) (by simpa using hj)]
        congr 3
        omega

/-- what is read is the varint of the number -/
theorem rdl_only : ∀ (l : List UInt8) (p : Int) (i : Nat) (acc N nx : Int) (q : Int), rdl l p i acc = (N, nx, 0, q) →
    ∃ n : Int, 0 ≤ n ∧ (0 < i → 0 < n) ∧ N = acc + n * 128 ^ i ∧ l.take (nx - p).toNat = bys (digs n) ∧ nx = p + (digs n).length := by
  intro l
  induction l with
  | nil => intro p i acc N nx q h; rw [rdl_end] at h; cases h
  | cons b l ih =>
    intro p i acc N nx q h
    by_cases hbad : (b.toNat = 0 ∧ 0 < i) ∨ (i = 9 ∧ 1 < b.toNat)
    · rw [rdl_bad hbad] at h; cases h
    · have hb := b.toNat_lt
      by_cases hl : b.toNat < 128
      · rw [rdl_last hbad hl] at h
        cases h
        refine ⟨b.toNat, by omega, by omega, rfl, ?_, ?_⟩
        · rw [digs_last (by omega), show (p + 1 - p).toNat = 0 + 1 by omega, List.take_succ_cons, List.take_zero]
          simp [bys]
        · rw [digs_last (by omega)]; simp
      · rw [rdl_more hbad (by omega)] at h
        obtain ⟨n, h0, hpos, hN, ht, hx⟩ := ih _ _ _ _ _ _ h
        have hn : 0 < n := hpos (by omega)
        have hm : 128 ≤ (b.toNat : Int) - 128 + 128 * n := by omega
        have e1 : ((b.toNat : Int) - 128 + 128 * n) % 128 + 128 = b.toNat := by omega
        have e2 : ((b.toNat : Int) - 128 + 128 * n) / 128 = n := by omega
        have hd := digs_more hm
        rw [e1, e2] at hd
        refine ⟨(b.toNat : Int) - 128 + 128 * n, by omega, by omega, ?_, ?_, ?_⟩
        · rw [hN, Int.add_mul, Int.pow_succ, Int.mul_assoc 128, Int.mul_comm 128 (n * 128 ^ i), Int.mul_assoc n]
          omega
        · rw [hd, bys_cons, ← ht]
          have : (nx - p).toNat = (nx - (p + 1)).toNat + 1 := by
            have := digs_pos n
            omega
          rw [this, List.take_succ_cons]
          simp
        · rw [hd, hx]; simp; omega
end Go.Proofs.Ytkepnjnindolbaa
