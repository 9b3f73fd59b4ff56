/-
  The contracts of Zigzag, Unzigzag, Size and bits.Len64, of the program and of the reference.
-/
import Derived.Test.YtniimoebgajefaaRows
import Derived.Test.YtniimoebgajefaaMath
import Derived.WalkKit
import Derived.WalkSpells
import Derived.WalkLawsBesides
import Derived.Lib.Hide
namespace Go.Proofs.Ytniimoebgajefaa
set_option linter.unusedVariables false
open Go.RowKit

/-- the number without a sign that belongs to one with a sign -/
def zg (a : Int) : Int := if a < 0 then 2 * -(a + 1) + 1 else 2 * a
def uz (a : Int) : Int := if a % 2 = 1 then -(a / 2) - 1 else a / 2
def mag (a : Int) : Int := if a < 0 then -(a + 1) else a

theorem ret_int {k : IntKind} {a b : Int} (h : a = b) : Ending.returned (.int k a) = .returned (.int k b) := by rw [h]

theorem wrap_u64_neg (a : Int) (h1 : -18446744073709551616 ≤ a) (h2 : a < 0) : IntKind.u64.wrap a = a + 18446744073709551616 := by
  simp only [IntKind.wrap, IntKind.signed, IntKind.bits, Bool.false_and, Bool.false_eq_true, if_false]
  omega
theorem wrap_u64_big (a : Int) (h1 : 18446744073709551616 ≤ a) (h2 : a < 36893488147419103232) : IntKind.u64.wrap a = a - 18446744073709551616 := by
  simp only [IntKind.wrap, IntKind.signed, IntKind.bits, Bool.false_and, Bool.false_eq_true, if_false]
  omega
theorem zig_math (a : Int) (h1 : -9223372036854775808 ≤ a) (h2 : a ≤ 9223372036854775807) :
    bits BinOp.xor IntKind.u64 (IntKind.u64.wrap (IntKind.u64.wrap a * 2)) (IntKind.u64.wrap (a / 9223372036854775808)) = zg a := by
  unfold zg
  by_cases h : a < 0
  · rw [if_pos h, wrap_u64_neg a (by omega) h, wrap_u64_big _ (by omega) (by omega), show a / 9223372036854775808 = -1 by omega, wrap_u64_neg (-1) (by omega) (by omega)]
    rw [show (-1 + 18446744073709551616 : Int) = 18446744073709551615 by decide, bits_xor_u64_ones _ (by omega) (by omega)]
    omega
  · rw [if_neg h, wrap_u64_in a (by omega) (by omega), wrap_u64_in _ (by omega) (by omega), show a / 9223372036854775808 = 0 by omega, wrap_u64_in 0 (by omega) (by omega), bits_xor_u64_zero _ (by omega) (by omega)]
    omega

theorem unz_math (a : Int) (h1 : 0 ≤ a) (h2 : a ≤ 18446744073709551615) :
    bits BinOp.xor IntKind.i64 (a / 2) (wrap64 (-wrap64 (bits BinOp.and IntKind.u64 a 1))) = uz a := by
  unfold uz
  rw [and_one_u64 a h1 h2]
  rcases (show a % 2 = 0 ∨ a % 2 = 1 by omega) with h | h
  · rw [h, show wrap64 (-wrap64 0) = 0 by rw [IntWalk.wrap64_in 0 (by omega)]; exact IntWalk.wrap64_in 0 (by omega), bits_xor_i64_zero _ (by omega) (by omega)]
    simp
  · rw [h, show wrap64 (-wrap64 1) = -1 by rw [IntWalk.wrap64_in 1 (by omega)]; exact IntWalk.wrap64_in (-1) (by omega), bits_xor_i64_ones _ (by omega) (by omega)]
    simp
/-- L bits hold n, and no fewer do -/
def lenR (n L : Int) : Prop := 0 ≤ L ∧ L ≤ 64 ∧ n < 2 ^ L.toNat ∧ (L ≠ 0 → 2 ^ (L.toNat - 1) ≤ n)
theorem lenR_up {n : Int} {k : Nat} {t : Int} (h : lenR (n / 2 ^ k) t) (ht : 1 ≤ n / 2 ^ k) (hk : k + t ≤ 64) : lenR n (k + t) := by
  obtain ⟨h0, h1, h2, h3⟩ := h
  obtain ⟨m, rfl⟩ := Int.eq_ofNat_of_zero_le h0
  have hp : (0 : Int) < 2 ^ k := Int.pow_pos (by omega)
  have hm : m ≠ 0 := by
    rintro rfl
    simp at h2
    omega
  have h3 := h3 (by simpa using hm)
  refine ⟨by omega, by omega, ?_, ?_⟩
  · have : ((k : Int) + ((m : Nat) : Int)).toNat = m + k := by omega
    rw [this, Int.pow_add]
    simp only [Int.toNat_natCast] at h2
    exact (Int.ediv_lt_iff_lt_mul hp).1 h2
  · intro _
    have : ((k : Int) + ((m : Nat) : Int)).toNat - 1 = (m - 1) + k := by omega
    rw [this, Int.pow_add]
    simp only [Int.toNat_natCast] at h3
    exact (Int.le_ediv_iff_mul_le hp).1 h3

/-- the table of bits.Len64, an entry at a time -/
def lenTab : ByteArray := { data := #[0, 1, 2, 2, 3, 3, 3, 3, 4, 4, 4, 4, 4, 4, 4, 4, 5, 5, 5, 5, 5, 5, 5, 5, 5, 5, 5, 5, 5, 5, 5, 5, 6, 6, 6, 6, 6, 6, 6, 6, 6, 6, 6, 6, 6, 6, 6, 6, 6, 6, 6, 6, 6, 6, 6, 6, 6, 6, 6, 6, 6, 6, 6, 6, 7, 7, 7, 7, 7, 7, 7, 7, 7, 7, 7, 7, 7, 7, 7, 7, 7, 7, 7, 7, 7, 7, 7, 7, 7, 7, 7, 7, 7, 7, 7, 7, 7, 7, 7, 7, 7, 7, 7, 7, 7, 7, 7, 7, 7, 7, 7, 7, 7, 7, 7, 7, 7, 7, 7, 7, 7, 7, 7, 7, 7, 7, 7, 7, 8, 8, 8, 8, 8, 8, 8, 8, 8, 8, 8, 8, 8, 8, 8, 8, 8, 8, 8, 8, 8, 8, 8, 8, 8, 8, 8, 8, 8, 8, 8, 8, 8, 8, 8, 8, 8, 8, 8, 8, 8, 8, 8, 8, 8, 8, 8, 8, 8, 8, 8, 8, 8, 8, 8, 8, 8, 8, 8, 8, 8, 8, 8, 8, 8, 8, 8, 8, 8, 8, 8, 8, 8, 8, 8, 8, 8, 8, 8, 8, 8, 8, 8, 8, 8, 8, 8, 8, 8, 8, 8, 8, 8, 8, 8, 8, 8, 8, 8, 8, 8, 8, 8, 8, 8, 8, 8, 8, 8, 8, 8, 8, 8, 8, 8, 8, 8, 8, 8, 8, 8, 8, 8, 8, 8, 8, 8, 8] }
theorem lenTab_size : lenTab.size = 256 := by kernel_rfl
theorem lenTab_all : ∀ i : Fin 256, (i.val < 2 ^ (lenTab.data.toList[i.val]?.getD 0).toNat ∧ (lenTab.data.toList[i.val]?.getD 0).toNat ≤ 8 ∧ ((lenTab.data.toList[i.val]?.getD 0).toNat ≠ 0 → 2 ^ ((lenTab.data.toList[i.val]?.getD 0).toNat - 1) ≤ i.val)) := by decide +kernel
theorem lenTab_at (i : Nat) (h : i < lenTab.size) : lenTab.data.toList[i]?.getD 0 = lenTab[i] := by
  have : i < lenTab.data.toList.length := by simpa using h
  rw [List.getElem?_eq_getElem this]; rfl
theorem lenTab_lenR (x : Int) (h0 : 0 ≤ x) (h1 : x ≤ 255) (h : x.toNat < lenTab.size) : lenR x ((lenTab[x.toNat].toNat : Nat) : Int) := by
  obtain ⟨n, rfl⟩ := Int.eq_ofNat_of_zero_le h0
  have := lenTab_all ⟨n, by omega⟩
  simp only [] at this
  rw [lenTab_at n (by simpa using h)] at this
  obtain ⟨a, b, c⟩ := this
  simp only [Int.toNat_natCast]
  refine ⟨by omega, by omega, ?_, ?_⟩
  · simp only [Int.toNat_natCast]; exact_mod_cast a
  · intro hz
    simp only [Int.toNat_natCast]
    exact_mod_cast c (by simpa using hz)
theorem lenR_top (a x : Int) (k : Nat) (e : a / 2 ^ k = x) (hx : 1 ≤ x) (hx2 : x ≤ 255) (hk : k ≤ 56) (h : x.toNat < lenTab.size) :
    lenR a (wrap64 ((k : Int) + wrap64 ((lenTab[x.toNat].toNat : Nat) : Int))) := by
  have := lenTab_lenR x (by omega) hx2 h
  have hb : ((lenTab[x.toNat].toNat : Nat) : Int) ≤ 8 := by
    have := (lenTab_all ⟨x.toNat, by omega⟩).2.1
    simp only [] at this
    rw [lenTab_at _ h] at this
    omega
  rw [IntWalk.wrap64_in ((lenTab[x.toNat].toNat : Nat) : Int) ⟨by omega, by omega⟩, IntWalk.wrap64_in _ ⟨by omega, by omega⟩]
  exact lenR_up (by rw [e]; exact this) (by omega) (by omega)
theorem lenR_low (x : Int) (h0 : 0 ≤ x) (h1 : x ≤ 255) (h : x.toNat < lenTab.size) :
    lenR x (wrap64 (wrap64 ((lenTab[x.toNat].toNat : Nat) : Int))) := by
  have := lenTab_lenR x h0 h1 h
  have hb : ((lenTab[x.toNat].toNat : Nat) : Int) ≤ 8 := by
    have := (lenTab_all ⟨x.toNat, by omega⟩).2.1
    simp only [] at this
    rw [lenTab_at _ h] at this
    omega
  rw [IntWalk.wrap64_in ((lenTab[x.toNat].toNat : Nat) : Int) ⟨by omega, by omega⟩, IntWalk.wrap64_in _ ⟨by omega, by omega⟩]
  exact this
def SomeLen (n : Int) (w : World) (e : Ending) (w' : World) : Prop := ∃ L : Int, lenR n L ∧ e = .returned (.int .i64 L) ∧ w = w'
theorem some_len {n L : Int} {w : World} (h : lenR n L) : SomeLen n w (.returned (.int .i64 L)) w := ⟨L, h, rfl, rfl⟩
/-- the digits of a number of L bits -/
theorem lenR_digs {n L : Int} (h0 : 0 ≤ n) (h : lenR n L) : (if L ≤ 1 then 1 else L) + 6 = 7 * (digs n).length + ((if L ≤ 1 then 1 else L) + 6) % 7 := by
  obtain ⟨a, b, c, d⟩ := h
  have e128 : ∀ k : Nat, (128 : Int) ^ k = 2 ^ (7 * k) := by intro k; rw [Int.pow_mul]; rfl
  have mono : ∀ i j : Nat, i ≤ j → (2 : Int) ^ i ≤ 2 ^ j := fun i j h => by have := Nat.pow_le_pow_right (n := 2) (by omega) h; exact_mod_cast this
  by_cases hL : L ≤ 1
  · rw [if_pos hL]
    have : n < 128 := by
      have := mono L.toNat 1 (by omega)
      omega
    rw [digs_last this]; rfl
  · rw [if_neg hL]
    have d := d (by omega)
    obtain ⟨m, rfl⟩ := Int.eq_ofNat_of_zero_le a
    simp only [Int.toNat_natCast] at c d
    have hq : m - 1 = 7 * ((m - 1) / 7) + (m - 1) % 7 := by omega
    have u : (digs n).length ≤ (m - 1) / 7 + 1 := digs_len_le _ _ (by
      rw [e128]; exact Int.lt_of_lt_of_le c (mono _ _ (by omega)))
    have l : (m - 1) / 7 < (digs n).length := digs_len_gt _ _ (by
      rw [e128]; exact Int.le_trans (mono _ _ (by omega)) d)
    omega
theorem lenR_digs_low {n L : Int} (h0 : 0 ≤ n) (h : lenR n L) (hL : L < 1) : 1 = ((digs n).length : Int) := by
  have := lenR_digs h0 h
  rw [if_pos (by omega)] at this
  omega
theorem lenR_digs_up {n L : Int} (h0 : 0 ≤ n) (h : lenR n L) (hL : 1 ≤ L) : (L + 7 - 1) / 7 = ((digs n).length : Int) := by
  have := lenR_digs h0 h
  by_cases h1 : L ≤ 1
  · rw [if_pos h1] at this; omega
  · rw [if_neg h1] at this; omega
end Go.Proofs.Ytniimoebgajefaa
