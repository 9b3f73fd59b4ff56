/-
  Layer 5: what is read, as plain functions.
-/
import Derived.Test.YtkepnjnindolbaaS05A
namespace Go.Proofs.Ytkepnjnindolbaa.s05
set_option linter.unusedVariables false
set_option linter.unusedSimpArgs false
open Go.RowKit
open kit

/-- a number from least to most: number, offset behind, error, its offset -/
def numF (least most : Int) (s : ByteArray) (a : Int) : Int × Int × Int × Int :=
  if least < 0 ∨ most < least then (0, 0, 2, a) else if (bnd s a most).2.2.1 = 0 then (if (bnd s a most).1 < least then (0, 0, 2, a) else bnd s a most) else bnd s a most
/-- how many follow -/
def lenF (most : Int) (s : ByteArray) (a : Int) : Int × Int × Int × Int :=
  if most < 0 then (0, 0, 2, a) else if (rd s a).2.2.1 = 0 then (if most < (rd s a).1 then (0, 0, 4, a) else rd s a) else rd s a
/-- n bytes -/
def fixF (n : Int) (s : ByteArray) (a : Int) : ByteArray × Int × Int × Int :=
  if n < 0 then (⟨#[]⟩, 0, 2, a) else if (s.size : Int) - a < n then (⟨#[]⟩, 0, 5, a) else (s.extract a.toNat (a + n).toNat, a + n, 0, 0)
/-- a string -/
def sizF (most : Int) (s : ByteArray) (a : Int) : ByteArray × Int × Int × Int :=
  if (lenF most s a).2.2.1 = 0 then fixF (lenF most s a).1 s (lenF most s a).2.1 else (⟨#[]⟩, 0, (lenF most s a).2.2)
/-- a number with its sign -/
def sgnF (least greatest : Int) (s : ByteArray) (a : Int) : Int × Int × Int × Int :=
  if (rd s a).2.2.1 = 0 then (if uz (rd s a).1 < least ∨ greatest < uz (rd s a).1 then (0, 0, 2, a) else (uz (rd s a).1, (rd s a).2.1, 0, 0)) else rd s a
/-- k numbers with their signs -/
def lstG (least greatest : Int) (s : ByteArray) : Nat → Int → List Int × Int × Int × Int
  | 0, a => ([], a, 0, 0)
  | k + 1, a => if (sgnF least greatest s a).2.2.1 = 0 then
      (if (lstG least greatest s k (sgnF least greatest s a).2.1).2.2.1 = 0 then ((sgnF least greatest s a).1 :: (lstG least greatest s k (sgnF least greatest s a).2.1).1, (lstG least greatest s k (sgnF least greatest s a).2.1).2) else lstG least greatest s k (sgnF least greatest s a).2.1)
    else ([], 0, (sgnF least greatest s a).2.2)
/-- a list -/
def lstF (most least greatest : Int) (s : ByteArray) (a : Int) : List Int × Int × Int × Int :=
  if greatest < least then ([], 0, 2, a) else if (lenF most s a).2.2.1 = 0 then lstG least greatest s (lenF most s a).1.toNat (lenF most s a).2.1 else ([], 0, (lenF most s a).2.2)

/-- a field of a reader -/
def fldR {α : Type} (z : α) (F : ByteArray → Int → α × Int × Int × Int) (s : ByteArray) (p e o : Int) : (ByteArray × Int × Int × Int) × α :=
  if (cnt s p e o).2.2.1 = 0 then
    (if (F (cnt s p e o).1 (cnt s p e o).2.1).2.2.1 = 0 then (((cnt s p e o).1, (F (cnt s p e o).1 (cnt s p e o).2.1).2.1, 0, 0), (F (cnt s p e o).1 (cnt s p e o).2.1).1)
     else (((cnt s p e o).1, (cnt s p e o).2.1, (F (cnt s p e o).1 (cnt s p e o).2.1).2.2), (F (cnt s p e o).1 (cnt s p e o).2.1).1))
  else (cnt s p e o, z)

theorem bnd_bounds (s : ByteArray) (a m : Int) {n nx er p : Int} (h : bnd s a m = (n, nx, er, p)) (ha : 0 ≤ a) (hs : a ≤ s.size) :
    (er = 0 → 0 ≤ n ∧ n ≤ 18446744073709551615 ∧ n ≤ m ∧ a < nx ∧ nx ≤ s.size ∧ p = 0) ∧ (er ≠ 0 → n = 0 ∧ nx = 0 ∧ (er = 2 ∨ er = 5 ∨ er = 26) ∧ 0 ≤ p ∧ p ≤ s.size) := by
  unfold bnd at h
  obtain ⟨n', nx', er', p', hr⟩ : ∃ n' nx' er' p', rd s a = (n', nx', er', p') := ⟨_, _, _, _, rfl⟩
  obtain ⟨b1, b2⟩ := rd_bounds s a hr
  rw [hr] at h
  simp only [] at h
  by_cases he : er' = 0
  · subst he
    obtain ⟨h1, h2, h3, h4, h5, rfl⟩ := b1 rfl
    rw [if_pos rfl] at h
    by_cases hl : m < n'
    · rw [if_pos hl] at h; cases h
      exact ⟨fun h => by omega, fun _ => ⟨rfl, rfl, .inl rfl, ha, hs⟩⟩
    · rw [if_neg hl] at h; cases h
      exact ⟨fun _ => ⟨h1, h2, by omega, h4, h5, rfl⟩, fun h => absurd rfl h⟩
  · rw [if_neg he] at h; cases h
    exact ⟨fun h => absurd h he, b2⟩
theorem numF_bounds {least most : Int} {s : ByteArray} {a : Int} {n nx er p : Int} (h : numF least most s a = (n, nx, er, p)) (ha : 0 ≤ a) (hs : a ≤ s.size) :
    (er = 0 → 0 ≤ n ∧ least ≤ n ∧ n ≤ most ∧ a < nx ∧ nx ≤ s.size ∧ p = 0) ∧ (er ≠ 0 → n = 0 ∧ nx = 0 ∧ (er = 2 ∨ er = 5 ∨ er = 26) ∧ 0 ≤ p ∧ p ≤ s.size) := by
  unfold numF at h
  by_cases hr : least < 0 ∨ most < least
  · rw [if_pos hr] at h; cases h
    exact ⟨fun h => by omega, fun _ => ⟨rfl, rfl, .inl rfl, ha, hs⟩⟩
  · rw [if_neg hr] at h
    obtain ⟨n', nx', er', p', hb⟩ : ∃ n' nx' er' p', bnd s a most = (n', nx', er', p') := ⟨_, _, _, _, rfl⟩
    obtain ⟨b1, b2⟩ := bnd_bounds s a most hb ha hs
    rw [hb] at h
    simp only [] at h
    by_cases he : er' = 0
    · subst he
      obtain ⟨h1, h2, h3, h4, h5, rfl⟩ := b1 rfl
      rw [if_pos rfl] at h
      by_cases hl : n' < least
      · rw [if_pos hl] at h; cases h
        exact ⟨fun h => by omega, fun _ => ⟨rfl, rfl, .inl rfl, ha, hs⟩⟩
      · rw [if_neg hl] at h; cases h
        exact ⟨fun _ => ⟨h1, by omega, h3, h4, h5, rfl⟩, fun h => absurd rfl h⟩
    · rw [if_neg he] at h; cases h
      exact ⟨fun h => absurd h he, b2⟩
theorem lenF_bounds {most : Int} {s : ByteArray} {a : Int} {n nx er p : Int} (h : lenF most s a = (n, nx, er, p)) (ha : 0 ≤ a) (hs : a ≤ s.size) :
    (er = 0 → 0 ≤ n ∧ n ≤ most ∧ a < nx ∧ nx ≤ s.size ∧ p = 0) ∧ (er ≠ 0 → n = 0 ∧ nx = 0 ∧ (er = 2 ∨ er = 4 ∨ er = 5 ∨ er = 26) ∧ 0 ≤ p ∧ p ≤ s.size) := by
  unfold lenF at h
  by_cases hr : most < 0
  · rw [if_pos hr] at h; cases h
    exact ⟨fun h => by omega, fun _ => ⟨rfl, rfl, .inl rfl, ha, hs⟩⟩
  · rw [if_neg hr] at h
    obtain ⟨n', nx', er', p', hb⟩ : ∃ n' nx' er' p', rd s a = (n', nx', er', p') := ⟨_, _, _, _, rfl⟩
    obtain ⟨b1, b2⟩ := rd_bounds s a hb
    rw [hb] at h
    simp only [] at h
    by_cases he : er' = 0
    · subst he
      obtain ⟨h1, h2, h3, h4, h5, rfl⟩ := b1 rfl
      rw [if_pos rfl] at h
      by_cases hl : most < n'
      · rw [if_pos hl] at h; cases h
        exact ⟨fun h => by omega, fun _ => ⟨rfl, rfl, .inr (.inl rfl), ha, hs⟩⟩
      · rw [if_neg hl] at h; cases h
        exact ⟨fun _ => ⟨h1, by omega, h4, h5, rfl⟩, fun h => absurd rfl h⟩
    · rw [if_neg he] at h; cases h
      obtain ⟨c1, c2, c3, c4, c5⟩ := b2 he
      exact ⟨fun h => absurd h he, fun _ => ⟨c1, c2, by omega, c4, c5⟩⟩
theorem fixF_bounds {n : Int} {s : ByteArray} {a : Int} {t : ByteArray} {nx er p : Int} (h : fixF n s a = (t, nx, er, p)) (ha : 0 ≤ a) (hs : a ≤ s.size) :
    (er = 0 → 0 ≤ n ∧ a ≤ nx ∧ nx = a + n ∧ nx ≤ s.size ∧ p = 0 ∧ (t.size : Int) = n) ∧ (er ≠ 0 → t = ⟨#[]⟩ ∧ nx = 0 ∧ (er = 2 ∨ er = 5) ∧ 0 ≤ p ∧ p ≤ s.size) := by
  unfold fixF at h
  by_cases h1 : n < 0
  · rw [if_pos h1] at h; cases h
    exact ⟨fun h => by omega, fun _ => ⟨rfl, rfl, .inl rfl, ha, hs⟩⟩
  · rw [if_neg h1] at h
    by_cases h2 : (s.size : Int) - a < n
    · rw [if_pos h2] at h; cases h
      exact ⟨fun h => by omega, fun _ => ⟨rfl, rfl, .inr rfl, ha, hs⟩⟩
    · rw [if_neg h2] at h; cases h
      refine ⟨fun _ => ⟨by omega, by omega, rfl, by omega, rfl, ?_⟩, fun h => absurd rfl h⟩
      rw [ByteArray.size_extract]
      omega
theorem sizF_bounds {most : Int} {s : ByteArray} {a : Int} {t : ByteArray} {nx er p : Int} (h : sizF most s a = (t, nx, er, p)) (ha : 0 ≤ a) (hs : a ≤ s.size) :
    (er = 0 → a ≤ nx ∧ nx ≤ s.size ∧ p = 0 ∧ (t.size : Int) ≤ s.size) ∧ (er ≠ 0 → t = ⟨#[]⟩ ∧ nx = 0 ∧ 0 < er ∧ er ≤ 31 ∧ 0 ≤ p ∧ p ≤ s.size) := by
  unfold sizF at h
  obtain ⟨n', nx', er', p', hb⟩ : ∃ n' nx' er' p', lenF most s a = (n', nx', er', p') := ⟨_, _, _, _, rfl⟩
  obtain ⟨b1, b2⟩ := lenF_bounds hb ha hs
  rw [hb] at h
  simp only [] at h
  by_cases he : er' = 0
  · subst he
    obtain ⟨h1, h2, h3, h4, rfl⟩ := b1 rfl
    rw [if_pos rfl] at h
    obtain ⟨f1, f2⟩ := fixF_bounds h (by omega) h4
    refine ⟨fun he => ?_, fun he => ?_⟩
    · obtain ⟨g1, g2, g3, g4, g5, g6⟩ := f1 he
      exact ⟨by omega, g4, g5, by omega⟩
    · obtain ⟨g1, g2, g3, g4, g5⟩ := f2 he
      exact ⟨g1, g2, by omega, by omega, g4, g5⟩
  · rw [if_neg he] at h; cases h
    obtain ⟨c1, c2, c3, c4, c5⟩ := b2 he
    exact ⟨fun h => absurd h he, fun _ => ⟨rfl, rfl, by omega, by omega, c4, c5⟩⟩
theorem uz_range {z : Int} (h0 : 0 ≤ z) (h1 : z ≤ 18446744073709551615) : -9223372036854775808 ≤ uz z ∧ uz z ≤ 9223372036854775807 := by
  unfold uz
  split <;> omega
theorem sgnF_bounds {least greatest : Int} {s : ByteArray} {a : Int} {n nx er p : Int} (h : sgnF least greatest s a = (n, nx, er, p)) (ha : 0 ≤ a) (hs : a ≤ s.size) :
    (er = 0 → least ≤ n ∧ n ≤ greatest ∧ -9223372036854775808 ≤ n ∧ n ≤ 9223372036854775807 ∧ a < nx ∧ nx ≤ s.size ∧ p = 0) ∧ (er ≠ 0 → n = 0 ∧ nx = 0 ∧ 0 < er ∧ er ≤ 31 ∧ 0 ≤ p ∧ p ≤ s.size) := by
  unfold sgnF at h
  obtain ⟨n', nx', er', p', hb⟩ : ∃ n' nx' er' p', rd s a = (n', nx', er', p') := ⟨_, _, _, _, rfl⟩
  obtain ⟨b1, b2⟩ := rd_bounds s a hb
  rw [hb] at h
  simp only [] at h
  by_cases he : er' = 0
  · subst he
    obtain ⟨h1, h2, h3, h4, h5, rfl⟩ := b1 rfl
    rw [if_pos rfl] at h
    have hu := uz_range h1 h2
    by_cases hl : uz n' < least ∨ greatest < uz n'
    · rw [if_pos hl] at h; cases h
      exact ⟨fun h => by omega, fun _ => ⟨rfl, rfl, by omega, by omega, ha, hs⟩⟩
    · rw [if_neg hl] at h; cases h
      exact ⟨fun _ => ⟨by omega, by omega, hu.1, hu.2, h4, h5, rfl⟩, fun h => absurd rfl h⟩
  · rw [if_neg he] at h; cases h
    obtain ⟨c1, c2, c3, c4, c5⟩ := b2 he
    exact ⟨fun h => absurd h he, fun _ => ⟨c1, c2, by omega, by omega, c4, c5⟩⟩
/-- a reader that counts -/
theorem cnt_ok {s : ByteArray} {p e o : Int} {s' : ByteArray} {p' e' o' : Int} (h : cnt s p e o = (s', p', e', o')) : s'.size ≤ 20000 ∧ 0 ≤ p' ∧ p' ≤ s'.size ∧ 0 ≤ e' ∧ e' ≤ 31 ∧ 0 ≤ o' ∧ (e' = 0 → o' = 0) := by
  unfold cnt at h
  split at h
  · rename_i hv
    cases h
    unfold vld at hv
    have := of_decide_eq_true hv
    omega
  · cases h
    exact ⟨by decide, by omega, by simp, by omega, by omega, by omega, by omega⟩
theorem fldR_old {α : Type} {z : α} {F : ByteArray → Int → α × Int × Int × Int} {s : ByteArray} {p e o : Int} {s' : ByteArray} {p' e' o' : Int} (h : cnt s p e o = (s', p', e', o')) (he : e' ≠ 0) : fldR z F s p e o = ((s', p', e', o'), z) := by
  unfold fldR; rw [h]; simp only []; rw [if_neg he]
theorem fldR_new {α : Type} {z : α} {F : ByteArray → Int → α × Int × Int × Int} {s : ByteArray} {p e o : Int} {s' : ByteArray} {p' : Int} (h : cnt s p e o = (s', p', 0, 0)) {v : α} {nx er of : Int} (hF : F s' p' = (v, nx, er, of)) (he : er ≠ 0) : fldR z F s p e o = ((s', p', er, of), v) := by
  unfold fldR; rw [h]; simp only [if_true]; rw [hF]; simp only []; rw [if_neg he]
theorem fldR_ok {α : Type} {z : α} {F : ByteArray → Int → α × Int × Int × Int} {s : ByteArray} {p e o : Int} {s' : ByteArray} {p' : Int} (h : cnt s p e o = (s', p', 0, 0)) {v : α} {nx of : Int} (hF : F s' p' = (v, nx, 0, of)) : fldR z F s p e o = ((s', nx, 0, 0), v) := by
  unfold fldR; rw [h]; simp only [if_true]; rw [hF]; simp only [if_true]
theorem lstG_zero {least greatest : Int} {s : ByteArray} : ∀ {k : Nat} {a : Int} {l : List Int} {nx p : Int}, lstG least greatest s k a = (l, nx, 0, p) → p = 0
  | 0, a, l, nx, p, h => by unfold lstG at h; cases h; rfl
  | k + 1, a, l, nx, p, h => by
    unfold lstG at h
    split at h
    · split at h
      · have h2 : (lstG least greatest s k (sgnF least greatest s a).2.1) = ((lstG least greatest s k (sgnF least greatest s a).2.1).1, nx, 0, p) := by
          have := congrArg Prod.snd h
          simp only at this
          rw [← this]
        exact lstG_zero h2
      · exact lstG_zero h
    · rename_i h1
      have := congrArg (fun t => t.2.2.1) h
      exact absurd this h1
theorem lstF_zero {most least greatest : Int} {s : ByteArray} {a : Int} {l : List Int} {nx p : Int} (h : lstF most least greatest s a = (l, nx, 0, p)) : p = 0 := by
  unfold lstF at h
  split at h
  · have := congrArg (fun t => t.2.2.1) h
    simp at this
  · split at h
    · exact lstG_zero h
    · rename_i h1
      have := congrArg (fun t => t.2.2.1) h
      exact absurd this h1
end Go.Proofs.Ytkepnjnindolbaa.s05
