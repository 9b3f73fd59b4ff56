/-
  The bridge from the walk's numbers to words of 32 bits.
-/
import Derived.Test.YtpdpdmkfgbmdmaaCrcMath
import Derived.WalkKit
namespace Go.Proofs.Ytpdpdmkfgbmdmaa
set_option linter.unusedVariables false
set_option linter.unusedSimpArgs false
open crcs (W)

theorem wrap_u32_in (a : Int) (h1 : 0 ≤ a) (h2 : a ≤ 4294967295) : IntKind.u32.wrap a = a := by
  simp only [IntKind.wrap, IntKind.signed, IntKind.bits, Bool.false_and, Bool.false_eq_true, if_false]
  omega
theorem wrap_u8 (a : Int) : IntKind.u8.wrap a = a % 256 := by
  simp only [IntKind.wrap, IntKind.signed, IntKind.bits, Bool.false_and, Bool.false_eq_true, if_false]
  omega
theorem wrap_u8_in (a : Int) (h1 : 0 ≤ a) (h2 : a ≤ 255) : IntKind.u8.wrap a = a := by
  rw [wrap_u8]; omega
/-- a word as the walk has it -/
def wi (c : W) : Int := (c.toNat : Int)
theorem wi_lo (c : W) : 0 ≤ wi c := Int.natCast_nonneg _
theorem wi_hi (c : W) : wi c ≤ 4294967295 := by
  have := c.isLt
  unfold wi
  omega
theorem of_wi (c : W) : BitVec.ofInt 32 (wi c) = c := by
  unfold wi
  rw [BitVec.ofInt_natCast]
  simp
theorem wi_inj {a b : W} (h : wi a = wi b) : a = b := by
  have := congrArg (BitVec.ofInt 32) h
  rwa [of_wi, of_wi] at this
theorem wi_of (x : Int) (h0 : 0 ≤ x) (h1 : x ≤ 4294967295) : wi (BitVec.ofInt 32 x) = x := by
  obtain ⟨n, rfl⟩ := Int.eq_ofNat_of_zero_le h0
  unfold wi
  rw [BitVec.ofInt_natCast, BitVec.toNat_ofNat, Nat.mod_eq_of_lt (by omega)]
theorem xor_w (a b : W) : bits .xor .u32 (wi a) (wi b) = wi (a ^^^ b) := by
  have : bits .xor .u32 (wi a) (wi b) = IntKind.u32.wrap ((BitVec.ofInt 32 (wi a) ^^^ BitVec.ofInt 32 (wi b)).toNat : Int) := rfl
  rw [this, of_wi, of_wi]
  exact wrap_u32_in _ (wi_lo _) (wi_hi _)
theorem and_w (a b : W) : bits .and .u32 (wi a) (wi b) = wi (a &&& b) := by
  have : bits .and .u32 (wi a) (wi b) = IntKind.u32.wrap ((BitVec.ofInt 32 (wi a) &&& BitVec.ofInt 32 (wi b)).toNat : Int) := rfl
  rw [this, of_wi, of_wi]
  exact wrap_u32_in _ (wi_lo _) (wi_hi _)
theorem shr_w (a : W) (k : Nat) : wi a / 2 ^ k = wi (a >>> k) := by
  unfold wi
  rw [BitVec.toNat_ushiftRight, Nat.shiftRight_eq_div_pow]
  rw [Int.natCast_ediv, Int.natCast_pow]
  rfl
theorem shr1 (a : W) : wi a / (2 : Int) = wi (a >>> 1) := by have := shr_w a 1; simpa using this
theorem shr8 (a : W) : wi a / (256 : Int) = wi (a >>> 8) := by have := shr_w a 8; simpa using this
theorem poly_w : (3988292384 : Int) = wi crcs.poly := rfl
theorem one_w : (1 : Int) = wi 1#32 := rfl
theorem m255_w : (255 : Int) = wi 255#32 := rfl
theorem ones_w : (4294967295 : Int) = wi crcs.ones := rfl
theorem byte_w (b : UInt8) : ((b.toNat : Nat) : Int) = wi (crcs.w8 b) := by
  unfold wi crcs.w8
  have := b.toNat_lt
  rw [BitVec.toNat_ofNat, Nat.mod_eq_of_lt (by omega)]
theorem and1 (a : W) : a &&& 1#32 = crcs.bit (a.getLsbD 0) := by
  apply BitVec.eq_of_getLsbD_eq
  intro i hi
  rw [BitVec.getLsbD_and]
  cases i with
  | zero =>
    cases h : a.getLsbD 0 <;> simp [crcs.bit]
  | succ i =>
    have : (1#32 : W).getLsbD (i + 1) = false := by
      rw [BitVec.getLsbD_ofNat, Nat.testBit_lt_two_pow (Nat.lt_of_lt_of_le (show 1 < 2 ^ 1 by decide) (Nat.pow_le_pow_right (by decide) (by omega)))]
      simp
    rw [this, Bool.and_false]
    cases h : a.getLsbD 0 <;> simp [crcs.bit, this]
theorem odd_true {c : W} (h : c.getLsbD 0 = true) : (bits .and .u32 (wi c) 1 == 1) = true := by
  rw [show bits .and .u32 (wi c) 1 = wi (c &&& 1#32) from and_w c 1#32, and1, h]
  decide
theorem odd_false {c : W} (h : c.getLsbD 0 = false) : (bits .and .u32 (wi c) 1 == 1) = false := by
  rw [show bits .and .u32 (wi c) 1 = wi (c &&& 1#32) from and_w c 1#32, and1, h]
  decide
theorem iter_succ (k : Nat) : ∀ c : W, crcs.iter (k + 1) c = crcs.st (crcs.iter k c) := by
  induction k with
  | zero => intro c; rfl
  | succ k ih => intro c; exact ih (crcs.st c)
theorem st_odd {c : W} (h : c.getLsbD 0 = true) : bits .xor .u32 (wi c / 2) 3988292384 = wi (crcs.st c) := by
  rw [shr1, poly_w, xor_w]
  unfold crcs.st
  rw [if_pos h]
theorem st_even {c : W} (h : c.getLsbD 0 = false) : wi c / 2 = wi (crcs.st c) := by
  rw [shr1]
  unfold crcs.st
  rw [if_neg (by rw [h]; decide)]
/-- the lowest byte of a word -/
def low (c : W) : UInt8 := UInt8.ofNat c.toNat
theorem low_w (c : W) : IntKind.u8.wrap (wi c) = ((low c).toNat : Int) := by
  rw [wrap_u8]
  unfold wi low
  rw [UInt8.toNat_ofNat']
  omega
theorem xor_b (a b : UInt8) : bits .xor .u8 (a.toNat : Int) (b.toNat : Int) = ((a ^^^ b).toNat : Int) := by
  have : bits .xor .u8 (a.toNat : Int) (b.toNat : Int) = IntKind.u8.wrap ((BitVec.ofInt 8 (a.toNat : Int) ^^^ BitVec.ofInt 8 (b.toNat : Int)).toNat : Int) := rfl
  rw [this, BitVec.ofInt_natCast, BitVec.ofInt_natCast, BitVec.toNat_xor, BitVec.toNat_ofNat, BitVec.toNat_ofNat, Nat.mod_eq_of_lt (a := a.toNat) a.toNat_lt, Nat.mod_eq_of_lt (a := b.toNat) b.toNat_lt, UInt8.toNat_xor]
  have h : a.toNat ^^^ b.toNat < 2 ^ 8 := Nat.xor_lt_two_pow a.toNat_lt b.toNat_lt
  exact wrap_u8_in _ (by omega) (by omega)
theorem w8_get (b : UInt8) (i : Nat) : (crcs.w8 b).getLsbD i = b.toNat.testBit i := by
  unfold crcs.w8
  rw [BitVec.getLsbD_ofNat]
  by_cases h : i < 32
  · simp [h]
  · have : b.toNat.testBit i = false := Nat.testBit_lt_two_pow (Nat.lt_of_lt_of_le b.toNat_lt (Nat.pow_le_pow_right (by decide) (by omega)))
    simp [h, this]
theorem m255_get (i : Nat) : (255#32 : W).getLsbD i = decide (i < 8) := by
  by_cases h : i < 8
  · have hj : i = 0 ∨ i = 1 ∨ i = 2 ∨ i = 3 ∨ i = 4 ∨ i = 5 ∨ i = 6 ∨ i = 7 := by omega
    rcases hj with rfl | rfl | rfl | rfl | rfl | rfl | rfl | rfl <;> decide
  · rw [BitVec.getLsbD_ofNat, Nat.testBit_lt_two_pow (Nat.lt_of_lt_of_le (show 255 < 2 ^ 8 by decide) (Nat.pow_le_pow_right (by decide) (by omega)))]
    simp [h]
/-- the byte that the program looks up is the reference's -/
theorem low_xor (c : W) (b : UInt8) : crcs.w8 (low c ^^^ b) = (c ^^^ crcs.w8 b) &&& 255#32 := by
  apply BitVec.eq_of_getLsbD_eq
  intro i hi
  rw [BitVec.getLsbD_and, BitVec.getLsbD_xor, m255_get, w8_get, w8_get, UInt8.toNat_xor, Nat.testBit_xor]
  unfold low
  rw [UInt8.toNat_ofNat', Nat.testBit_mod_two_pow]
  by_cases h : i < 8
  · simp [h, BitVec.getLsbD]
  · have : b.toNat.testBit i = false := Nat.testBit_lt_two_pow (Nat.lt_of_lt_of_le b.toNat_lt (Nat.pow_le_pow_right (by decide) (by omega)))
    simp [h, this]
theorem upd_low (c : W) (b : UInt8) : bits .xor .u32 (wi c / 256) (wi (crcs.iter 8 (crcs.w8 (low c ^^^ b)))) = wi (crcs.upd c (crcs.w8 b)) := by
  rw [shr8, xor_w, low_xor]
  rfl
theorem upd_ref (c : W) (b : UInt8) : bits .and .u32 (bits .xor .u32 (wi c) (b.toNat : Int)) 255 = wi ((c ^^^ crcs.w8 b) &&& 255#32) := by
  rw [byte_w, xor_w, m255_w, and_w]
theorem upd_ref2 (c : W) (b : UInt8) : bits .xor .u32 (wi c / 256) (wi (crcs.iter 8 ((c ^^^ crcs.w8 b) &&& 255#32))) = wi (crcs.upd c (crcs.w8 b)) := by
  rw [shr8, xor_w]
  rfl
end Go.Proofs.Ytpdpdmkfgbmdmaa
