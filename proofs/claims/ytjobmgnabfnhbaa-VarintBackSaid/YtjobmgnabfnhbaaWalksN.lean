/-
  Slices of numbers: what came in, what the call owns.
-/
import Derived.Test.YtjobmgnabfnhbaaWalksM
import Derived.OpenShut
import Derived.Deep.QuietTactic
import Derived.BigQuiet
namespace Go.Proofs.Ytjobmgnabfnhbaa
open Go.RowKit

theorem cell_lt {w : World} {b o : Nat} {v : Value} (h : w.cell? ⟨b, o, none⟩ = some v) : b < w.heap.size := by
  rcases Nat.lt_or_ge b w.heap.size with hlt | hge
  · exact hlt
  · have : w.heap[b]? = none := Array.getElem?_eq_none hge
    simp [World.cell?, this] at h
theorem row_in {w : World} {x : Addr} {len cap : Nat} {z0 : List Int} (hl : len ≤ cap) (hz : z0.length = cap) (hc : ∀ i, i < z0.length → w.cell? (x.add i) = some (.int .u64 (z0.getD i 0))) :
    Reads64 w (some x) (z0.take len) ∧ (∀ j u, ((z0.take len).map (Value.int .u64))[j]? = some u → w.cell? (x.add j) = some u) := by
  constructor
  · intro i hi
    have hlen : (z0.take len).length = len := by simp; omega
    obtain ⟨b, off, rfl, hcell⟩ := ints_at hc (by omega)
    have := hcell i (by omega)
    refine ⟨b, off, rfl, cell_lt this, ?_⟩
    rw [this, List.getElem?_take, if_pos (by omega)]
    rfl
  · intro j u hu
    rw [List.getElem?_map, List.getElem?_take] at hu
    split at hu
    · rename_i hj
      have h := hc j (by omega)
      rw [h]
      simp only [List.getD_eq_getElem?_getD]
      cases he : z0[j]? with
      | none => rw [he] at hu; cases hu
      | some y => rw [he] at hu; simpa using hu
    · cases hu
theorem row_shape {W : World} {base k : Nat} {v : Value} {xs : List Value} (h : W.ownsRow base 22 1 v k xs) : ∃ a cap, v = .slice a k cap := by
  rcases h.2 with ⟨rfl, rfl⟩ | ⟨g, cap, _, rfl, _⟩
  · exact ⟨_, _, rfl⟩
  · exact ⟨_, _, rfl⟩
theorem reads_of_row {W : World} {base cap : Nat} {a : Option Addr} {L : List Int} {k : Nat} (hk : L.length = k) (h : W.ownsRow base 22 1 (.slice a k cap) k (L.map (Value.int .u64))) : Reads64 W a L := by
  intro i hi
  rcases h.2 with ⟨_, h0⟩ | ⟨g, cap', cur, e, _, _, _⟩
  · omega
  · cases e
    have hc := h.cellAt i (by omega)
    have hx : (L.map (Value.int .u64))[i]? = some (.int .u64 (L[i]?.getD 0)) := by simp [List.getElem?_eq_getElem hi]
    rw [hx] at hc
    exact ⟨g, 0, rfl, cell_lt hc, by rw [show 0 + i = i by omega]; exact hc⟩
theorem empty_row (w : World) (base : Nat) (hb : base ≤ w.heap.size) : (w.alloc (.cells #[] 22)).ownsRow base 22 1 (.slice (some ⟨w.heap.size, 0, none⟩) 0 0) 0 [] :=
  ⟨rfl, .inr ⟨w.heap.size, 0, #[], rfl, hb, World.alloc_heap_new w _, by omega, by unfold maxLen; omega, rfl, rfl⟩⟩
theorem Reads64.drew {w : World} {a : Option Addr} {zs : List Int} (h : Reads64 w a zs) : Reads64 w.drew a zs := h
theorem Reads64.alloc {w : World} {a : Option Addr} {zs : List Int} (h : Reads64 w a zs) (o : Obj) : Reads64 (w.alloc o) a zs := h.below ((Below.refl _ _).alloc (Nat.le_refl _) o)
theorem rlg_len (s : ByteArray) : ∀ (k : Nat) (q : Int) (acc : List Int), (rlg s k q acc).1.length ≤ acc.length + k := by
  intro k
  induction k with
  | zero => intro q acc; unfold rlg; split <;> simp
  | succ k ih =>
    intro q acc
    unfold rlg
    split
    · have := ih (rd s q).2.1 (acc ++ [(rd s q).1])
      simp at this; omega
    · simp
theorem rlist_len (s : ByteArray) (m : Int) {L : List Int} {er p : Int} (h : rlist s m = (L, er, p)) : L.length ≤ 20000 := by
  unfold rlist at h
  split at h
  · cases h; simp
  · have := rlg_len s m.toNat 0 []
    rw [h] at this
    simp at this
    omega
end Go.Proofs.Ytjobmgnabfnhbaa
