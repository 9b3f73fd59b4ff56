/-
  Plain arithmetic of varints, free of the program: the digits of a number, reading them back, bit operations as sums.
-/
import Derived.Laws.BytesArg
import Derived.WalkKit
namespace Go.Proofs.Ytniimoebgajefaa

/-- the digits of a number, as bytes: 128 is added to all but the last one -/
def digs (r : Int) : List Int :=
  if 128 ≤ r then (r % 128 + 128) :: digs (r / 128) else [r]
termination_by r.toNat
decreasing_by omega

theorem digs_last {r : Int} (h : r < 128) : digs r = [r] := by
  rw [digs, if_neg (by omega)]
theorem digs_more {r : Int} (h : 128 ≤ r) : digs r = (r % 128 + 128) :: digs (r / 128) := by
  rw [digs, if_pos h]
theorem digs_ne (r : Int) : digs r ≠ [] := by
  by_cases h : r < 128
  · rw [digs_last h]; simp
  · rw [digs_more (by omega)]; simp
theorem digs_pos (r : Int) : 1 ≤ (digs r).length := by
  have := digs_ne r
  cases h : digs r with
  | nil => exact absurd h this
  | cons a l => simp

/-- bounds on the number of digits -/
theorem digs_len_le : ∀ (k : Nat) (r : Int), r < 128 ^ (k + 1) → (digs r).length ≤ k + 1 := by
  intro k
  induction k with
  | zero => intro r h; rw [digs_last (by simpa using h)]; simp
  | succ k ih =>
    intro r h
    by_cases h1 : r < 128
    · rw [digs_last h1]; simp
    · rw [digs_more (by omega)]
      have : r / 128 < 128 ^ (k + 1) := by
        rw [Int.pow_succ] at h
        exact Int.ediv_lt_of_lt_mul (by omega) h
      have := ih _ this
      simp; omega
theorem digs_len_gt : ∀ (k : Nat) (r : Int), 128 ^ k ≤ r → k < (digs r).length := by
  intro k
  induction k with
  | zero => intro r _; exact digs_pos r
  | succ k ih =>
    intro r h
    have h0 : (0 : Int) < 128 ^ k := Int.pow_pos (by omega)
    rw [Int.pow_succ] at h
    have h1 : 128 ≤ r := by omega
    rw [digs_more h1]
    have : (128 : Int) ^ k ≤ r / 128 := (Int.le_ediv_iff_mul_le (by omega)).2 h
    have := ih _ this
    simp; omega
theorem digs_len10 {r : Int} (h : r ≤ 18446744073709551615) : (digs r).length ≤ 10 := digs_len_le 9 r (by have : (128 : Int) ^ (9 + 1) = 1180591620717411303424 := by decide
                                                                                                          omega)
theorem digs_u8 : ∀ (n : Nat) (r : Int), r.toNat = n → 0 ≤ r → ∀ x ∈ digs r, 0 ≤ x ∧ x ≤ 255 := by
  intro n
  induction n using Nat.strongRecOn with
  | _ n ih =>
    intro r hn h0 x hx
    by_cases h : r < 128
    · rw [digs_last h] at hx; simp at hx; omega
    · rw [digs_more (by omega)] at hx
      rcases List.mem_cons.1 hx with rfl | hx
      · omega
      · exact ih (r / 128).toNat (by omega) (r / 128) rfl (by omega) x hx

/-! ### reading -/

/-- reads on: the bytes left, the offset of the first one, its place, what has been read -/
def rdl : List UInt8 → Int → Nat → Int → Int × Int × Int × Int
  | [], p, _, _ => (0, 0, 5, p)
  | b :: l, p, i, acc =>
    if (b.toNat = 0 ∧ 0 < i) ∨ (i = 9 ∧ 1 < b.toNat) then (0, 0, 26, p)
    else if b.toNat < 128 then (acc + b.toNat * 128 ^ i, p + 1, 0, 0)
    else rdl l (p + 1) (i + 1) (acc + (b.toNat - 128) * 128 ^ i)

/-- what Read answers: number, offset, error, its offset -/
def rd (s : ByteArray) (at_ : Int) : Int × Int × Int × Int :=
  if at_ < 0 ∨ (s.size : Int) < at_ then (0, 0, 2, 0) else rdl (s.data.toList.drop at_.toNat) at_ 0 0

theorem drop_at (s : ByteArray) (k : Nat) (h : k < s.size) : s.data.toList.drop k = s[k] :: s.data.toList.drop (k + 1) := by
  rw [List.drop_eq_getElem_cons (by simpa using h)]
  rfl
theorem drop_end (s : ByteArray) (k : Nat) (h : s.size ≤ k) : s.data.toList.drop k = [] := List.drop_eq_nil_of_le (by simpa using h)

theorem rdl_end (p : Int) (i : Nat) (acc : Int) : rdl [] p i acc = (0, 0, 5, p) := rfl
theorem rdl_bad {b : UInt8} {l : List UInt8} {p : Int} {i : Nat} {acc : Int} (h : (b.toNat = 0 ∧ 0 < i) ∨ (i = 9 ∧ 1 < b.toNat)) : rdl (b :: l) p i acc = (0, 0, 26, p) := by
  rw [rdl, if_pos h]
theorem rdl_last {b : UInt8} {l : List UInt8} {p : Int} {i : Nat} {acc : Int} (h : ¬ ((b.toNat = 0 ∧ 0 < i) ∨ (i = 9 ∧ 1 < b.toNat))) (h2 : b.toNat < 128) : rdl (b :: l) p i acc = (acc + b.toNat * 128 ^ i, p + 1, 0, 0) := by
  rw [rdl, if_neg h, if_pos h2]
theorem rdl_more {b : UInt8} {l : List UInt8} {p : Int} {i : Nat} {acc : Int} (h : ¬ ((b.toNat = 0 ∧ 0 < i) ∨ (i = 9 ∧ 1 < b.toNat))) (h2 : 128 ≤ b.toNat) : rdl (b :: l) p i acc = rdl l (p + 1) (i + 1) (acc + (b.toNat - 128) * 128 ^ i) := by
  rw [rdl, if_neg h, if_neg (by omega)]

/-- the places up to the tenth -/
theorem pow128 (i : Nat) (h : i ≤ 9) : (128 : Int) ^ i = 1 ∧ i = 0 ∨ (128 : Int) ^ i = 128 ∧ i = 1 ∨ (128 : Int) ^ i = 16384 ∧ i = 2 ∨ (128 : Int) ^ i = 2097152 ∧ i = 3 ∨ (128 : Int) ^ i = 268435456 ∧ i = 4 ∨
    (128 : Int) ^ i = 34359738368 ∧ i = 5 ∨ (128 : Int) ^ i = 4398046511104 ∧ i = 6 ∨ (128 : Int) ^ i = 562949953421312 ∧ i = 7 ∨ (128 : Int) ^ i = 72057594037927936 ∧ i = 8 ∨ (128 : Int) ^ i = 9223372036854775808 ∧ i = 9 := by
  have : i = 0 ∨ i = 1 ∨ i = 2 ∨ i = 3 ∨ i = 4 ∨ i = 5 ∨ i = 6 ∨ i = 7 ∨ i = 8 ∨ i = 9 := by omega
  rcases this with rfl | rfl | rfl | rfl | rfl | rfl | rfl | rfl | rfl | rfl <;> simp

/-! ### bits -/
theorem bits_xor_u64_ones (x : Int) (h0 : 0 ≤ x) (h1 : x ≤ 18446744073709551615) : bits .xor .u64 x 18446744073709551615 = 18446744073709551615 - x := by
  obtain ⟨n, rfl⟩ := Int.eq_ofNat_of_zero_le h0
  have e : BitVec.ofInt 64 18446744073709551615 = BitVec.allOnes 64 := by decide
  have e2 : BitVec.ofInt 64 (n : Int) = BitVec.ofNat 64 n := by simp
  have : bits .xor .u64 (n : Int) 18446744073709551615 = IntKind.u64.wrap ((BitVec.ofInt 64 (n : Int) ^^^ BitVec.ofInt 64 18446744073709551615).toNat : Int) := rfl
  rw [this, e, e2, BitVec.xor_allOnes, BitVec.toNat_not, BitVec.toNat_ofNat]
  have h3 : n % 2 ^ 64 = n := Nat.mod_eq_of_lt (by omega)
  rw [h3]
  have w : ∀ m : Int, 0 ≤ m → m ≤ 18446744073709551615 → IntKind.u64.wrap m = m := by
    intro m a b; simp [IntKind.wrap, IntKind.signed, IntKind.bits]; omega
  rw [w _ (by omega) (by omega)]
  omega
theorem bits_xor_u64_zero (x : Int) (h0 : 0 ≤ x) (h1 : x ≤ 18446744073709551615) : bits .xor .u64 x 0 = x := by
  obtain ⟨n, rfl⟩ := Int.eq_ofNat_of_zero_le h0
  have e2 : BitVec.ofInt 64 (n : Int) = BitVec.ofNat 64 n := by simp
  have : bits .xor .u64 (n : Int) 0 = IntKind.u64.wrap ((BitVec.ofInt 64 (n : Int) ^^^ BitVec.ofInt 64 0).toNat : Int) := rfl
  rw [this, e2, show BitVec.ofInt 64 0 = 0#64 by decide, BitVec.xor_zero, BitVec.toNat_ofNat]
  simp [IntKind.wrap, IntKind.signed, IntKind.bits]; omega
theorem bits_xor_i64_zero (x : Int) (h0 : 0 ≤ x) (h1 : x ≤ 9223372036854775807) : bits .xor .i64 x 0 = x := by
  obtain ⟨n, rfl⟩ := Int.eq_ofNat_of_zero_le h0
  have e2 : BitVec.ofInt 64 (n : Int) = BitVec.ofNat 64 n := by simp
  have : bits .xor .i64 (n : Int) 0 = IntKind.i64.wrap ((BitVec.ofInt 64 (n : Int) ^^^ BitVec.ofInt 64 0).toNat : Int) := rfl
  rw [this, e2, show BitVec.ofInt 64 0 = 0#64 by decide, BitVec.xor_zero, BitVec.toNat_ofNat]
  simp [IntKind.wrap, IntKind.signed, IntKind.bits]; omega
theorem bits_xor_i64_ones (x : Int) (h0 : 0 ≤ x) (h1 : x ≤ 9223372036854775807) : bits .xor .i64 x (-1) = -x - 1 := by
  obtain ⟨n, rfl⟩ := Int.eq_ofNat_of_zero_le h0
  have e : BitVec.ofInt 64 (-1) = BitVec.allOnes 64 := by decide
  have e2 : BitVec.ofInt 64 (n : Int) = BitVec.ofNat 64 n := by simp
  have : bits .xor .i64 (n : Int) (-1) = IntKind.i64.wrap ((BitVec.ofInt 64 (n : Int) ^^^ BitVec.ofInt 64 (-1)).toNat : Int) := rfl
  rw [this, e, e2, BitVec.xor_allOnes, BitVec.toNat_not, BitVec.toNat_ofNat]
  have h3 : n % 2 ^ 64 = n := Nat.mod_eq_of_lt (by omega)
  rw [h3]
  simp [IntKind.wrap, IntKind.signed, IntKind.bits]; omega

theorem andNot128 : ∀ b : Fin 256, bits .andNot .u8 (b.val : Int) 128 = ((b.val % 128 : Nat) : Int) := by decide +kernel
theorem or128 : ∀ b : Fin 256, bits .or .u8 (b.val : Int) 128 = ((b.val % 128 + 128 : Nat) : Int) := by decide +kernel
theorem andNot128' (b : UInt8) : bits .andNot .u8 (b.toNat : Int) 128 = ((b.toNat % 128 : Nat) : Int) := andNot128 ⟨b.toNat, b.toNat_lt⟩
theorem or128' (r : Int) (h : 0 ≤ r) (h2 : r ≤ 255) : bits .or .u8 r 128 = r % 128 + 128 := by
  obtain ⟨n, rfl⟩ := Int.eq_ofNat_of_zero_le h
  rw [show ((n : Int)) = (((⟨n, by omega⟩ : Fin 256).val : Nat) : Int) from rfl, or128]
  show ((n % 128 + 128 : Nat) : Int) = (n : Int) % 128 + 128
  omega

/-- an 'or' of two numbers that have no bit in common is their sum -/
theorem or_shift (a b k : Nat) (ha : a < 2 ^ k) (hs : a + b * 2 ^ k ≤ 18446744073709551615) : bits .or .u64 (a : Int) ((b : Int) * 2 ^ k) = a + b * 2 ^ k := by
  have e1 : BitVec.ofInt 64 (a : Int) = BitVec.ofNat 64 a := by simp
  have e2 : BitVec.ofInt 64 ((b : Int) * 2 ^ k) = BitVec.ofNat 64 (b * 2 ^ k) := by
    rw [show ((b : Int) * 2 ^ k) = ((b * 2 ^ k : Nat) : Int) by simp only [Int.natCast_mul, Int.natCast_pow]; rfl, BitVec.ofInt_natCast]
  have : bits .or .u64 (a : Int) ((b : Int) * 2 ^ k) = IntKind.u64.wrap ((BitVec.ofInt 64 (a : Int) ||| BitVec.ofInt 64 ((b : Int) * 2 ^ k)).toNat : Int) := rfl
  rw [this, e1, e2, BitVec.toNat_or, BitVec.toNat_ofNat, BitVec.toNat_ofNat, Nat.mod_eq_of_lt (a := a) (by omega), Nat.mod_eq_of_lt (a := b * 2 ^ k) (by omega)]
  have h3 : a ||| b * 2 ^ k = a + b * 2 ^ k := by
    have := Nat.shiftLeft_add_eq_or_of_lt ha b
    rw [Nat.shiftLeft_eq] at this
    rw [Nat.or_comm, ← this]; omega
  rw [h3]
  simp only [IntKind.wrap, IntKind.signed, IntKind.bits, Bool.false_and, Bool.false_eq_true, if_false]
  have h5 : ((b : Int) * 2 ^ k) = ((b * 2 ^ k : Nat) : Int) := by simp only [Int.natCast_mul, Int.natCast_pow]; rfl
  rw [h5]
  generalize b * 2 ^ k = e at hs ⊢
  rw [Int.emod_eq_of_lt (by omega) (by omega)]
  omega

theorem wrap_u64_in (a : Int) (h1 : 0 ≤ a) (h2 : a ≤ 18446744073709551615) : IntKind.u64.wrap a = a := by
  simp only [IntKind.wrap, IntKind.signed, IntKind.bits, Bool.false_and, Bool.false_eq_true, if_false]
  omega
theorem sum_le (n x : Int) (k : Nat) (h0 : 0 ≤ n) (h1 : n < 128 ^ k) (hk : k ≤ 9) (hx0 : 0 ≤ x) (hx : x < 128) (hb : ¬ (k = 9 ∧ 1 < x)) :
    0 ≤ x * 128 ^ k ∧ n + x * 128 ^ k ≤ 18446744073709551615 ∧ n + x * 128 ^ k < 128 ^ (k + 1) := by
  rw [Int.pow_succ]
  rcases pow128 k hk with ⟨e, rfl⟩ | ⟨e, rfl⟩ | ⟨e, rfl⟩ | ⟨e, rfl⟩ | ⟨e, rfl⟩ | ⟨e, rfl⟩ | ⟨e, rfl⟩ | ⟨e, rfl⟩ | ⟨e, rfl⟩ | ⟨e, rfl⟩ <;> rw [e] at h1 ⊢ <;> omega
/-- the program's 'or' of a digit at its place is a sum -/
theorem or_val (acc : Int) (k : Nat) (b : UInt8) (h0 : 0 ≤ acc) (h1 : acc < 128 ^ k) (hk : k ≤ 9) (hb : ¬ (k = 9 ∧ 1 < b.toNat)) :
    bits .or .u64 acc (IntKind.u64.wrap (IntKind.u64.wrap (bits .andNot .u8 (b.toNat : Int) 128) * 2 ^ (7 * k))) = acc + ((b.toNat % 128 : Nat) : Int) * 128 ^ k := by
  rw [andNot128']
  have hx : b.toNat % 128 < 128 := Nat.mod_lt _ (by omega)
  have hx9 : ¬ (k = 9 ∧ (1 : Int) < ((b.toNat % 128 : Nat) : Int)) := by omega
  generalize b.toNat % 128 = x at hx hx9
  have e2 : (2 : Int) ^ (7 * k) = 128 ^ k := by rw [Int.pow_mul]; rfl
  obtain ⟨s0, s1, s2⟩ := sum_le acc x k h0 h1 hk (by omega) (by omega) hx9
  obtain ⟨n, rfl⟩ := Int.eq_ofNat_of_zero_le h0
  rw [wrap_u64_in (x : Int) (by omega) (by omega), e2, wrap_u64_in _ s0 (by omega), ← e2]
  have hn : n < 2 ^ (7 * k) := by
    rw [← e2] at h1
    exact_mod_cast h1
  have hsum : n + x * 2 ^ (7 * k) ≤ 18446744073709551615 := by
    rw [← e2] at s1
    have : ((n + x * 2 ^ (7 * k) : Nat) : Int) ≤ ((18446744073709551615 : Nat) : Int) := by
      rw [Int.natCast_add, Int.natCast_mul, Int.natCast_pow]; exact s1
    exact Int.ofNat_le.1 this
  exact or_shift n x (7 * k) hn hsum
theorem or_val0 (acc : Int) (h0 : 0 ≤ acc) (h1 : acc < 1) : bits .or .u64 acc (IntKind.u64.wrap (IntKind.u64.wrap (bits .andNot .u8 0 128))) = acc := by
  have : acc = 0 := by omega
  subst this
  decide
end Go.Proofs.Ytniimoebgajefaa
