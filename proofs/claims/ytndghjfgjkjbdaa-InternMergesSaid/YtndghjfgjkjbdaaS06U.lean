/-
  Layer 6: when a table is valid; merging and keeping as lists; the program's merge.
-/
import Derived.Test.YtndghjfgjkjbdaaS06T
import Derived.Test.YtndghjfgjkjbdaaKitInts
namespace Go.Proofs.Ytndghjfgjkjbdaa.s06
set_option linter.unusedVariables false
set_option linter.unusedSimpArgs false
open Go.RowKit Go.WideMaps Go.Maps
open kit

theorem chkG_zero (l : List ByteArray) : ∀ (f k : Nat), (chkG l f k).1 = 0 ↔ ∀ j, k ≤ j → j < k + f → badK l j = 0
  | 0, k => ⟨fun _ j h1 h2 => by omega, fun _ => rfl⟩
  | f + 1, k => by
    unfold chkG
    by_cases h0 : badK l k = 0
    · rw [if_pos h0, chkG_zero l f (k + 1)]
      constructor
      · intro h j h1 h2
        by_cases e : j = k
        · rw [e]; exact h0
        · exact h j (by omega) (by omega)
      · intro h j h1 h2
        exact h j (by omega) (by omega)
    · rw [if_neg h0]
      constructor
      · intro h; exact absurd h h0
      · intro h; exact absurd (h k (Nat.le_refl _) (by omega)) h0
theorem badK_zero {l : List ByteArray} {k : Nat} (hk : k < l.length) : badK l k = 0 ↔ s03.checkR (l[k]?.getD ByteArray.empty).data.toList = 0 ∧ (l[k]?.getD ByteArray.empty) ∉ l.take k := by
  have hlen : (l.take k).length = k := by rw [List.length_take]; omega
  have hm : ix (l.take k) (l[k]?.getD ByteArray.empty) < k ↔ (l[k]?.getD ByteArray.empty) ∈ l.take k := by
    have h := @ix_mem (l[k]?.getD ByteArray.empty) (l.take k)
    rwa [hlen] at h
  unfold badK
  by_cases h0 : s03.checkR (l[k]?.getD ByteArray.empty).data.toList = 0
  · rw [if_pos h0]
    by_cases h1 : ix (l.take k) (l[k]?.getD ByteArray.empty) < k
    · rw [if_pos h1]
      constructor
      · intro h; exact absurd h (by decide)
      · intro h; exact absurd (hm.mp h1) h.2
    · rw [if_neg h1]
      exact ⟨fun _ => ⟨h0, fun h => h1 (hm.mpr h)⟩, fun _ => rfl⟩
  · rw [if_neg h0]
    exact ⟨fun h => absurd h h0, fun h => absurd h.1 h0⟩
/-- a table is valid just if it has at most 32 names, all right, no two equal -/
theorem ok_iff {l : List ByteArray} : okT l = 0 ↔ l.length ≤ 32 ∧ l.Nodup ∧ ∀ x ∈ l, s03.checkR x.data.toList = 0 := by
  constructor
  · intro h
    have h32 := ok_len h
    unfold okT chkT at h
    rw [if_neg (by omega), chkG_zero] at h
    refine ⟨h32, ?_, ?_⟩
    · refine List.pairwise_iff_getElem.mpr fun i j hi hj hij he => ?_
      have := ((badK_zero hj).mp (h j (by omega) (by omega))).2
      rw [List.getElem?_eq_getElem hj] at this
      refine this ?_
      show l[j] ∈ l.take j
      rw [← he]
      exact List.mem_take_iff_getElem.mpr ⟨i, by omega, rfl⟩
    · intro x hx
      obtain ⟨j, hj, rfl⟩ := List.getElem_of_mem hx
      have := ((badK_zero hj).mp (h j (by omega) (by omega))).1
      rw [List.getElem?_eq_getElem hj] at this
      exact this
  · rintro ⟨h32, hn, hc⟩
    unfold okT chkT
    rw [if_neg (by omega), chkG_zero]
    intro j _ hj
    have hj2 : j < l.length := by omega
    refine (badK_zero hj2).mpr ⟨hc _ (mem_getS l j hj2), ?_⟩
    rw [List.getElem?_eq_getElem hj2]
    show ¬ l[j] ∈ l.take j
    intro hm
    obtain ⟨i, hi, he⟩ := List.mem_take_iff_getElem.mp hm
    exact List.pairwise_iff_getElem.mp hn i j (by omega) hj2 (by omega) he
theorem putP_ok {l : List ByteArray} {s : ByteArray} (hc : s03.checkR s.data.toList = 0) (hroom : s ∈ l ∨ l.length ≠ 32) : putP l s false = (put1 l s, (ix l s : Int), 0) := by
  unfold putP
  rw [if_pos hc]
  by_cases h1 : ix l s < l.length
  · rw [if_pos h1, if_neg (by simp), put1_in (ix_mem.mp h1)]
  · have hm : s ∉ l := fun h => h1 (ix_mem.mpr h)
    rw [if_neg h1, if_neg (by rcases hroom with h | h; exact absurd h hm; exact h), put1_out hm, ix_none hm]
theorem putP_cases (l : List ByteArray) (s : ByteArray) : (putP l s false).2.2 = 0 → s03.checkR s.data.toList = 0 ∧ (s ∈ l ∨ l.length ≠ 32) := by
  unfold putP
  by_cases h0 : s03.checkR s.data.toList = 0
  · rw [if_pos h0]
    by_cases h1 : ix l s < l.length
    · exact fun _ => ⟨h0, .inl (ix_mem.mp h1)⟩
    · rw [if_neg h1]
      by_cases h2 : l.length = 32
      · rw [if_pos h2]; intro h; exact absurd h (show ¬ (6 : Int) = 0 by decide)
      · exact fun _ => ⟨h0, .inr h2⟩
  · rw [if_neg h0]
    intro h; exact absurd h h0
theorem put1_ok {l : List ByteArray} {s : ByteArray} (hl : okT l = 0) (hc : s03.checkR s.data.toList = 0) (hroom : s ∈ l ∨ l.length ≠ 32) : okT (put1 l s) = 0 := by
  obtain ⟨h1, h2, h3⟩ := ok_iff.mp hl
  refine ok_iff.mpr ⟨?_, put1_nodup h2, fun x hx => ?_⟩
  · by_cases h : s ∈ l
    · rw [put1_in h]; exact h1
    · rw [put1_out h, List.length_append, List.length_singleton]
      rcases hroom with h4 | h4
      · exact absurd h4 h
      · omega
  · rcases put1_mem.mp hx with h | rfl
    · exact h3 x h
    · exact hc
/-- the names of a table interned one by one: the names, the numbers, the error -/
def mrgG : List ByteArray → List Int → List ByteArray → List ByteArray × List Int × Int
  | cur, acc, [] => (cur, acc, 0)
  | cur, acc, s :: rest => if (putP cur s false).2.2 = 0 then mrgG (putP cur s false).1 (acc ++ [(putP cur s false).2.1]) rest else ((putP cur s false).1, [], (putP cur s false).2.2)
/-- what merge gives -/
def mergeP (l m : List ByteArray) : List ByteArray × List Int × Int := if okT m = 0 then mrgG l [] m else (l, [], okT m)
theorem drop_consS (m : List ByteArray) (k : Nat) (h : k < m.length) : m.drop k = (m[k]?.getD ByteArray.empty) :: m.drop (k + 1) := by
  rw [List.drop_eq_getElem_cons h, List.getElem?_eq_getElem h]; rfl
theorem KT.thenB {base b bm : Nat} {w w1 w2 : World} (h : KT base b bm w w1) (k : Below w.heap.size w1 w2) : KT base b bm w w2 :=
  ⟨k.os.trans h.os, k.tape.trans h.tape, k.output.trans h.output, Nat.le_trans h.size k.size, fun i hi h1 h2 h3 => (k.block i hi).trans (h.block i hi h1 h2 h3)⟩
theorem Wk.grownRow {W W' : World} {b bm base : Nat} {v : Value} {l : List ByteArray} {e0 : Int} (h : Wk W b bm base v l e0) {B E k : Nat} {vn : Value} {xs : List Value} (hr : W.ownsRow B E 1 vn k xs) (hg : W.grownBy W' vn.ownBlock) (h1 : 67 ≠ E) (h2 : 9 ≠ E) : Wk W' b bm base v l e0 := by
  refine ⟨(hg.block _ h.box.lt (Box.not_row h.box h1 hr)).trans h.box, h.row.kept hg ?_, h.map.grown hg ?_, h.h1, h.h2, h.h3⟩
  · by_cases e : v.ownBlock = none
    · exact .inl e
    · right
      intro e2
      rcases h.row.2 with ⟨rfl, _⟩ | ⟨g, cap, cur, rfl, hg2, hgb, rest⟩
      · exact e rfl
      · rcases hr.2 with ⟨rfl, _⟩ | ⟨g3, cap3, cur3, rfl, hg3, hgb3, rest3⟩
        · simp [Value.ownBlock] at e2
        · simp only [Value.ownBlock, Option.some.injEq] at e2
          subst e2
          rw [hgb] at hgb3
          simp only [Option.some.injEq, Obj.cells.injEq] at hgb3
          exact h2 hgb3.2.1
  · intro e
    obtain ⟨D, ⟨es, ck, hb, _⟩, _⟩ := h.map
    rcases hr.2 with ⟨rfl, _⟩ | ⟨g3, cap3, cur3, rfl, hg3, hgb3, rest3⟩
    · simp [Value.ownBlock] at e
    · simp only [Value.ownBlock, Option.some.injEq] at e
      subst e
      rw [hb] at hgb3
      cases hgb3
/-- a row of numbers of its own -/
def RowN (L : List Int) (B : Nat) (V : Value) (W : World) : Prop := W.ownsRow B 3 1 V L.length (L.map (Value.int .i64))
theorem rowN_stays (L : List Int) : Stays (RowN L) := by
  intro B V W W' hr hs hk
  refine ⟨hr.1, ?_⟩
  rcases hr.2 with h | ⟨g, cap, cur, rfl, hb, hgb, rest⟩
  · exact .inl h
  · exact .inr ⟨g, cap, cur, rfl, hb, (hk g hb (Array.getElem?_eq_some_iff.1 hgb).1).trans hgb, rest⟩
end Go.Proofs.Ytndghjfgjkjbdaa.s06
