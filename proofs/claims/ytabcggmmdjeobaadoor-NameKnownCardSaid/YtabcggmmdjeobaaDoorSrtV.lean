/-
  Sorting: what the partitions keep.
-/
import Derived.Test.YtabcggmmdjeobaaDoorSrtR
namespace Go.Proofs.YtabcggmmdjeobaaDoor.srt
set_option linter.unusedVariables false
set_option linter.unusedSimpArgs false
open Go.RowKit
open kit s03
open Go.Sort (swp grow SWO PermIn SortedIn grow_empty grow_grow alloc_eq_grow size_swp)

/-- behind a and below i all pass p, above j and below b none does; at a stands P -/
structure Inv (p : ByteArray → Bool) (P : ByteArray) (d e : Array ByteArray) (a b i j : Nat) : Prop where
  perm : PermIn a b d e
  size : e.size = d.size
  head : e[a]! = P
  up : ∀ k, a < k → k < i → p e[k]! = true
  down : ∀ k, j < k → k < b → p e[k]! = false
variable {p : ByteArray → Bool} {P : ByteArray} {d e : Array ByteArray} {a b i j : Nat}
theorem Inv.next (h : Inv p P d e a b i j) (hp : p e[i]! = true) : Inv p P d e a b (i + 1) j :=
  ⟨h.perm, h.size, h.head, fun k h1 h2 => by
    by_cases e1 : k = i
    · subst e1; exact hp
    · exact h.up k h1 (by omega), h.down⟩
theorem Inv.prev {q : Nat} (h : Inv p P d e a b i j) (hq : j = q + 1) (hp : p e[j]! = false) : Inv p P d e a b i q :=
  ⟨h.perm, h.size, h.head, h.up, fun k h1 h2 => by
    by_cases e1 : k = j
    · subst e1; exact hp
    · exact h.down k (by omega) h2⟩
theorem swp_at (e : Array ByteArray) (i j : Nat) (hi : i < e.size) (hj : j < e.size) (k : Nat) : (swp e i j)[k]! = if k = i then e[j]! else if k = j then e[i]! else e[k]! := by
  by_cases h1 : k = i
  · subst h1
    rw [if_pos rfl]
    by_cases h2 : k = j
    · subst h2
      have := Go.Sort.swp_right e k k hi
      exact this
    · exact Go.Sort.swp_left e k j hi h2
  · rw [if_neg h1]
    by_cases h2 : k = j
    · subst h2
      rw [if_pos rfl]
      exact Go.Sort.swp_right e i k hj
    · rw [if_neg h2]
      exact Go.Sort.swp_other e i j k h1 h2
theorem Inv.swap {q : Nat} (h : Inv p P d e a b i j) (hb : b ≤ d.size) (h1 : a < i) (h2 : i < j) (h3 : j < b) (hi : p e[i]! = false) (hj : p e[j]! = true) (hq : j = q + 1) : Inv p P d (swp e i j) a b (i + 1) q := by
  have hs := h.size
  have hat := swp_at e i j (by omega) (by omega)
  refine ⟨perm_swap h.perm (by omega) (by omega) (by omega) (by omega) (by omega), by rw [size_swp]; exact hs, ?_, fun k k1 k2 => ?_, fun k k1 k2 => ?_⟩
  · rw [hat, if_neg (by omega), if_neg (by omega)]; exact h.head
  · rw [hat]
    by_cases e1 : k = i
    · rw [if_pos e1]; exact hj
    · rw [if_neg e1, if_neg (by omega)]; exact h.up k k1 (by omega)
  · rw [hat, if_neg (by omega)]
    by_cases e1 : k = j
    · rw [if_pos e1]; exact hi
    · rw [if_neg e1]; exact h.down k (by omega) k2
theorem inv_start (p : ByteArray → Bool) {d : Array ByteArray} {a b v z : Nat} (hb : b ≤ d.size) (h1 : a ≤ v) (h2 : v < b) (hz : b = z + 1) : Inv p d[v]! d (swp d a v) a b (a + 1) z :=
  ⟨perm_swap (Go.Sort.permIn_refl _ _ _) hb (by omega) (by omega) h1 h2, size_swp _ _ _, by rw [swp_at d a v (by omega) (by omega), if_pos rfl], fun k h1 h2 => by omega, fun k h1 h2 => by omega⟩
/-- what partition leaves -/
def Parted (d e : Array ByteArray) (a b m : Nat) : Prop := a ≤ m ∧ m < b ∧ e.size = d.size ∧ PermIn a b d e ∧ (∀ i, a ≤ i → i < m → ltS e[i]! e[m]! = true) ∧ (∀ i, m < i → i < b → ltS e[i]! e[m]! = false)
theorem Inv.parted (h : Inv (fun x => ltS x P) P d e a b i j) (hb : b ≤ d.size) (h1 : a < i) (h2 : i ≤ j + 1) (h3 : j < i) (h4 : j < b) : Parted d (swp e j a) a b j := by
  have hs := h.size
  have hat := swp_at e j a (by omega) (by omega)
  have hij : i = j + 1 := by omega
  subst hij
  refine ⟨by omega, h4, by rw [size_swp]; exact hs, perm_swap h.perm (by omega) (by omega) (by omega) (by omega) (by omega), fun k k1 k2 => ?_, fun k k1 k2 => ?_⟩
  · rw [hat j, if_pos rfl, hat k, if_neg (by omega), h.head]
    by_cases e1 : k = a
    · rw [if_pos e1]; exact h.up j (by omega) (by omega)
    · rw [if_neg e1]; exact h.up k (by omega) (by omega)
  · rw [hat j, if_pos rfl, hat k, if_neg (by omega), if_neg (by omega), h.head]
    exact h.down k k1 k2
/-- what partitionEqual leaves -/
def PartedEq (d e : Array ByteArray) (P : ByteArray) (a b m : Nat) : Prop := a < m ∧ m ≤ b ∧ e.size = d.size ∧ PermIn a b d e ∧ (∀ i, a ≤ i → i < m → ltS P e[i]! = false) ∧ (∀ i, m ≤ i → i < b → ltS P e[i]! = true)
theorem Inv.partedEq (h : Inv (fun x => !ltS P x) P d e a b i j) (h1 : a < i) (h2 : i ≤ j + 1) (h3 : j < i) (h4 : j < b) : PartedEq d e P a b i := by
  have hij : i = j + 1 := by omega
  subst hij
  refine ⟨h1, by omega, h.size, h.perm, fun k k1 k2 => ?_, fun k k1 k2 => ?_⟩
  · by_cases e1 : k = a
    · subst e1; rw [h.head]; exact swoS.irrefl P
    · have := h.up k (by omega) k2
      simpa using this
  · have := h.down k (by omega) k2
    simpa using this
end Go.Proofs.YtabcggmmdjeobaaDoor.srt
