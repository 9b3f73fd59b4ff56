/-
  Layer 4: numbers: what their digits say (of no program).
-/
import Derived.Test.YtjhmlmimgahnmaaDoorS04U
import Derived.Lib.AtoiAll
namespace Go.Proofs.YtjhmlmimgahnmaaDoor.s04
set_option linter.unusedVariables false
set_option linter.unusedSimpArgs false
open Go.RowKit
open kit

def dvals : List UInt8 → Nat → Nat
  | [], a => a
  | c :: r, a => dvals r (10 * a + (c.toNat - 48))
theorem dvals_ge (l : List UInt8) : ∀ a, a ≤ dvals l a := by
  induction l with
  | nil => intro a; exact Nat.le_refl _
  | cons c r ih => intro a; have := ih (10 * a + (c.toNat - 48)); show a ≤ dvals r _; omega
theorem parse_digits (l : List UInt8) : ∀ a, (∀ c ∈ l, 48 ≤ c.toNat ∧ c.toNat ≤ 57) → (dvals l a < 18446744073709551616 → Lib.parseUint10 a l = .ok (dvals l a)) ∧ (18446744073709551616 ≤ dvals l a → a < 18446744073709551616 → Lib.parseUint10 a l = .range) := by
  induction l with
  | nil => intro a _; exact ⟨fun _ => rfl, fun h h2 => by have : dvals [] a = a := rfl; omega⟩
  | cons c r ih =>
    intro a hd
    obtain ⟨c1, c2⟩ := hd c (List.mem_cons_self ..)
    have hr := fun x hx => hd x (List.mem_cons_of_mem _ hx)
    obtain ⟨i1, i2⟩ := ih (10 * a + (c.toNat - 48)) hr
    have hg := dvals_ge r (10 * a + (c.toNat - 48))
    have e : dvals (c :: r) a = dvals r (10 * a + (c.toNat - 48)) := rfl
    rw [e]
    rw [show Lib.parseUint10 a (c :: r) = if 48 ≤ c.toNat ∧ c.toNat ≤ 57 then (if 1844674407370955162 ≤ a then .range else if 18446744073709551616 ≤ a * 10 + (c.toNat - 48) then .range else Lib.parseUint10 (a * 10 + (c.toNat - 48)) r) else .syntax from rfl, if_pos ⟨c1, c2⟩, Nat.mul_comm a 10]
    constructor
    · intro h
      rw [if_neg (by omega), if_neg (by omega)]
      exact i1 h
    · intro h ha
      by_cases h1 : 1844674407370955162 ≤ a
      · rw [if_pos h1]
      · rw [if_neg h1]
        by_cases h2 : 18446744073709551616 ≤ 10 * a + (c.toNat - 48)
        · rw [if_pos h2]
        · rw [if_neg h2]
          exact i2 h (by omega)
theorem atoi_digits (l : List UInt8) (h0 : l ≠ []) (hd : ∀ c ∈ l, 48 ≤ c.toNat ∧ c.toNat ≤ 57) : (dvals l 0 < 9223372036854775808 → Lib.atoiAll l = .ok (dvals l 0 : Int)) ∧ (9223372036854775808 ≤ dvals l 0 → Lib.atoiAll l = .range) := by
  obtain ⟨p1, p2⟩ := parse_digits l 0 hd
  cases l with
  | nil => exact absurd rfl h0
  | cons c r =>
    obtain ⟨c1, c2⟩ := hd c (List.mem_cons_self ..)
    have e : Lib.atoiAll (c :: r) = match Lib.parseMag (c :: r) with
      | .syntax => .syntax
      | .range => .range
      | .ok u => if ¬ c.toNat = 45 ∧ 9223372036854775808 ≤ u then .range else if c.toNat = 45 ∧ 9223372036854775808 < u then .range else .ok (if c.toNat = 45 then -(u : Int) else u) := by
      unfold Lib.atoiAll
      simp only
      rw [if_neg (show ¬ (c.toNat = 43 ∨ c.toNat = 45) by omega)]
      cases Lib.parseMag (c :: r) <;> rfl
    have em : Lib.parseMag (c :: r) = Lib.parseUint10 0 (c :: r) := by unfold Lib.parseMag; rw [if_neg (by simp)]
    rw [e, em]
    constructor
    · intro h
      rw [p1 (by omega)]
      simp only
      rw [if_neg (by omega), if_neg (by omega), if_neg (by omega)]
    · intro h
      by_cases hb : 18446744073709551616 ≤ dvals (c :: r) 0
      · rw [p2 hb (by omega)]
      · rw [p1 (by omega)]
        simp only
        rw [if_pos ⟨by omega, h⟩]
theorem digits_in {tx : ByteArray} (h : formB 2 tx = true) : tx.data.toList ≠ [] ∧ ∀ c ∈ tx.data.toList, 48 ≤ c.toNat ∧ c.toNat ≤ 57 := by
  obtain ⟨h0, kd', hk, hb⟩ := form_beg h
  obtain rfl : kd' = 2 := by omega
  have e2 : tx.data.toList.length = tx.size := by simp
  refine ⟨fun e => by rw [e] at e2; simp at e2; omega, fun c hc => ?_⟩
  obtain ⟨i, hi, rfl⟩ := List.getElem_of_mem hc
  rw [e2] at hi
  have hget : tx.data.toList[i]'(by rw [e2]; exact hi) = tx[i] := by simp; rfl
  rw [hget]
  have key : digitB tx[i].toNat = true := by
    unfold begR at hb
    split at hb
    · cases congrArg Prod.fst hb
    · split at hb
      · cases congrArg Prod.fst hb
      · split at hb
        · rename_i hD
          split at hb
          · cases congrArg Prod.fst hb
          · have e3 : runAt digitB tx 1 = tx.size := congrArg Prod.snd hb
            by_cases hi0 : i = 0
            · subst hi0
              rw [at_in h0] at hD
              exact hD
            · exact run_in digitB tx _ 1 (Nat.le_refl _) i (by omega) (by rw [e3]; exact hi) hi
        · cases congrArg Prod.fst hb
  unfold digitB at key
  exact of_decide_eq_true key
/-- what Number answers -/
def numR (kd : Int) (tx : ByteArray) (at' least most : Int) : Int × Nat :=
  if checkR kd tx at' ≠ 0 then (0, checkR kd tx at') else if kd ≠ 2 then (0, 11)
  else if 9223372036854775808 ≤ dvals tx.data.toList 0 then (0, 2) else if (dvals tx.data.toList 0 : Int) < least ∨ most < (dvals tx.data.toList 0 : Int) then (0, 2) else ((dvals tx.data.toList 0 : Int), 0)
theorem check_form {kd at' : Int} {tx : ByteArray} (h : checkR kd tx at' = 0) : 1 ≤ kd ∧ kd ≤ 3 ∧ formB kd tx = true := by
  unfold checkR at h
  split at h
  · cases h
  · split at h
    · cases h
    · rename_i h1 h2
      exact ⟨by omega, by omega, by simpa using h2⟩
end Go.Proofs.YtjhmlmimgahnmaaDoor.s04
