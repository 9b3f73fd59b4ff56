/-
  The contracts of the reference's Bytes, Size and List.
-/
import Derived.Test.YtniimoebgajefaaWalksA
namespace Go.Proofs.Ytniimoebgajefaa
open Go.RowKit

theorem conv1 (W : World) (x : Int) : (convert 51 9 (.slice (some ⟨W.heap.size, 0, none⟩) 1 1)).run Try.prog (W.alloc (.cells #[.int .u8 x] 5)) = .ok (.string (strOfNums [x])) (W.alloc (.cells #[.int .u8 x] 5)) :=
  run_convert_bytes_arg _ 51 5 Try.underlying51 Try.underlying5 _ 0 1 1 [x] rfl (fun i hi => by
    obtain rfl : i = 0 := by omega
    simp) 9 Try.underlying9
theorem strOfNums_app (p q : List Int) : strOfNums p ++ strOfNums q = strOfNums (p ++ q) := by
  unfold strOfNums
  rw [ByteArray.mk_append_mk, List.map_append]
theorem strOfNums_nil : strOfNums [] = { data := #[] } := rfl
theorem ret_str {a b : ByteArray} (h : a = b) : Ending.returned (.string a) = .returned (.string b) := by rw [h]

/-- a slice of numbers that reads as zs -/
def Reads64 (w : World) (a : Option Addr) (zs : List Int) : Prop :=
  ∀ i, i < zs.length → ∃ b off, a = some ⟨b, off, none⟩ ∧ b < w.heap.size ∧ w.cell? ⟨b, off + i, none⟩ = some (.int .u64 (zs[i]?.getD 0))
theorem Reads64.below {w w' : World} {a : Option Addr} {zs : List Int} (h : Reads64 w a zs) (hB : Below w.heap.size w w') : Reads64 w' a zs := fun i hi => by
  obtain ⟨b, off, e, hb, hc⟩ := h i hi
  exact ⟨b, off, e, Nat.lt_of_lt_of_le hb hB.size, (hB.cell (p := ⟨b, off + i, none⟩) hb).trans hc⟩

theorem flat_snoc (zs : List Int) (k : Nat) (h : k < zs.length) : (zs.take (k + 1)).flatMap digs = (zs.take k).flatMap digs ++ digs (zs[k]?.getD 0) := by
  rw [List.take_succ_eq_append_getElem h, List.flatMap_append, List.getElem?_eq_getElem h]
  simp
theorem flat_len (zs : List Int) (h : ∀ z ∈ zs, z ≤ 18446744073709551615) : (zs.flatMap digs).length ≤ 10 * zs.length := by
  induction zs with
  | nil => simp
  | cons z zs ih =>
    have := ih (fun y hy => h y (List.mem_cons_of_mem _ hy))
    have := digs_len10 (h z (List.mem_cons_self ..))
    simp at *; omega
theorem mem_getD (zs : List Int) (k : Nat) (h : k < zs.length) : zs[k]?.getD 0 ∈ zs := by
  rw [List.getElem?_eq_getElem h]; exact List.getElem_mem h
theorem take_mem {zs : List Int} {k : Nat} {z : Int} (h : z ∈ zs.take k) : z ∈ zs := List.mem_of_mem_take h

end Go.Proofs.Ytniimoebgajefaa
