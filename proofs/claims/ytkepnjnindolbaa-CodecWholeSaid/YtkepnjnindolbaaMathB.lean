/-
  What a reading can answer: bounds.
-/
import Derived.Test.YtkepnjnindolbaaMath
namespace Go.Proofs.Ytkepnjnindolbaa

/-- what a reading can answer -/
theorem rdl_bounds : ∀ (l : List UInt8) (p : Int) (i : Nat) (acc : Int), 0 ≤ p → i ≤ 9 → 0 ≤ acc → acc < 128 ^ i →
    ((rdl l p i acc).2.2.1 = 0 → 0 ≤ (rdl l p i acc).1 ∧ (rdl l p i acc).1 ≤ 18446744073709551615 ∧ p < (rdl l p i acc).2.1 ∧ (rdl l p i acc).2.1 ≤ p + l.length ∧ (rdl l p i acc).2.2.2 = 0) ∧
    ((rdl l p i acc).2.2.1 ≠ 0 → (rdl l p i acc).1 = 0 ∧ (rdl l p i acc).2.1 = 0 ∧ ((rdl l p i acc).2.2.1 = 5 ∨ (rdl l p i acc).2.2.1 = 26) ∧ 0 ≤ (rdl l p i acc).2.2.2 ∧ (rdl l p i acc).2.2.2 ≤ p + l.length) := by
  intro l
  induction l with
  | nil =>
    intro p i acc hp _ _ _
    rw [rdl_end]
    simp
    omega
  | cons b l ih =>
    intro p i acc hp hi h0 h1
    by_cases hbad : (b.toNat = 0 ∧ 0 < i) ∨ (i = 9 ∧ 1 < b.toNat)
    · rw [rdl_bad hbad]
      simp
      omega
    · obtain ⟨s0, s1, s2⟩ := sum_le acc ((b.toNat : Int) % 128) i h0 h1 hi (by omega) (by omega) (by omega)
      by_cases hl : b.toNat < 128
      · rw [rdl_last hbad hl]
        rw [Int.emod_eq_of_lt (by omega) (by omega)] at s0 s1 s2
        simp
        omega
      · rw [rdl_more hbad (by omega)]
        have hlt := b.toNat_lt
        have e2 : ((b.toNat : Int) - 128) = (b.toNat : Int) % 128 := by omega
        rw [e2]
        have := ih (p + 1) (i + 1) (acc + (b.toNat : Int) % 128 * 128 ^ i) (by omega) (by omega) (by omega) s2
        refine ⟨fun h => ?_, fun h => ?_⟩
        · obtain ⟨a, b, c, d, e⟩ := this.1 h
          exact ⟨a, b, by omega, by simp only [List.length_cons]; omega, e⟩
        · obtain ⟨a, b, c, d, e⟩ := this.2 h
          refine ⟨a, b, c, d, ?_⟩
          simp; omega
theorem rd_bounds (s : ByteArray) (a : Int) {n nx er p : Int} (h : rd s a = (n, nx, er, p)) :
    (er = 0 → 0 ≤ n ∧ n ≤ 18446744073709551615 ∧ 0 ≤ a ∧ a < nx ∧ nx ≤ s.size ∧ p = 0) ∧ (er ≠ 0 → n = 0 ∧ nx = 0 ∧ (er = 2 ∨ er = 5 ∨ er = 26) ∧ 0 ≤ p ∧ p ≤ s.size) := by
  unfold rd at h
  by_cases hf : a < 0 ∨ (s.size : Int) < a
  · rw [if_pos hf] at h
    cases h
    simp
  · rw [if_neg hf] at h
    obtain ⟨m, rfl⟩ := Int.eq_ofNat_of_zero_le (show 0 ≤ a by omega)
    have := rdl_bounds (s.data.toList.drop m) m 0 0 (by omega) (by omega) (by omega) (by decide)
    simp only [Int.toNat_natCast] at h
    rw [h] at this
    have hl : (s.data.toList.drop m).length = s.size - m := by simp
    rw [hl] at this
    obtain ⟨t1, t2⟩ := this
    simp only [] at t1 t2
    refine ⟨fun he => ?_, fun he => ?_⟩
    · obtain ⟨a, b, c, d, e⟩ := t1 he
      exact ⟨a, b, by omega, c, by omega, e⟩
    · obtain ⟨a, b, c, d, e⟩ := t2 he
      exact ⟨a, b, by omega, d, by omega⟩
end Go.Proofs.Ytkepnjnindolbaa
