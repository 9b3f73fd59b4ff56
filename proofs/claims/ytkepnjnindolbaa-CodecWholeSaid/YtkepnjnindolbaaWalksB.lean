/-
  The contracts of the reference's Bytes, Size and List.
-/
import Derived.Test.YtkepnjnindolbaaWalksA
namespace Go.Proofs.Ytkepnjnindolbaa
open Go.RowKit

theorem conv1 (W : World) (x : Int) : (convert 102 9 (.slice (some ⟨W.heap.size, 0, none⟩) 1 1)).run Try.prog (W.alloc (.cells #[.int .u8 x] 5)) = .ok (.string (strOfNums [x])) (W.alloc (.cells #[.int .u8 x] 5)) :=
  run_convert_bytes_arg _ 102 5 Try.underlying102 Try.underlying5 _ 0 1 1 [x] rfl (fun i hi => by
    obtain rfl : i = 0 := by omega
    simp) 9 Try.underlying9
theorem strOfNums_app (p q : List Int) : strOfNums p ++ strOfNums q = strOfNums (p ++ q) := by
  unfold strOfNums
  rw [ByteArray.mk_append_mk, List.map_append]
theorem strOfNums_nil : strOfNums [] = { data := #[] } := rfl
theorem ret_str {a b : ByteArray} (h : a = b) : Ending.returned (.string a) = .returned (.string b) := by rw [h]

set_option maxRecDepth 100000 in
theorem bytesr_any (a : Int) (h1 : 0 ≤ a) (h2 : a ≤ 18446744073709551615) (w : World) :
    Calls Try.prog 77 #[.int .u64 a] w fun e w' => e = .returned (.string (strOfNums (digs a))) ∧ Below w.heap.size w w' := by
  have cv := conv1
  go_enter Try.func77, Try.ntmps77
  go_wp2
  go_loopw [0, 3] (fun r o wr => ∃ (x : Int) (p : List Int), r = .int .u64 x ∧ 0 ≤ x ∧ x ≤ 18446744073709551615 ∧ o = .string (strOfNums p) ∧ p ++ digs x = digs a ∧ Below w.heap.size w wr) (fun r _ _ => (intOf r).toNat)
  case atStart => exact ⟨a, [], rfl, h1, h2, rfl, rfl, Below.refl _ _⟩
  case round =>
    obtain ⟨x, p, rfl, hx1, hx2, rfl, hp, hB⟩ := hrel
    have hpl : p.length ≤ 10 := by
      have := congrArg List.length hp
      have := digs_len10 h2
      simp at *; omega
    by_cases hlt : 128 ≤ x
    · have hs : (strOfNums p).size + (strOfNums [128 + x % 128]).size ≤ 9223372036854775807 := by rw [strOfNums_size, strOfNums_size]; simp; omega
      have hP := Lib.hid hp
      have hd := Lib.hid (digs_more hlt)
      have hBs := hB.size
      clear hp
      go_wp2
      go_roundw
      case rel => exact ⟨x / 128, p ++ [128 + x % 128], rfl, by omega, by omega, by rw [strOfNums_app], by rw [← hP.out, hd.out, Int.add_comm 128]; simp, hB.alloc hBs _⟩
      case measure => simp [intOf]; omega
    · have hs : (strOfNums p).size + (strOfNums [x]).size ≤ 9223372036854775807 := by rw [strOfNums_size, strOfNums_size]; simp; omega
      have hP := Lib.hid hp
      have hd := Lib.hid (digs_last (r := x) (by omega))
      have hBs := hB.size
      clear hp
      go_wp2
      go_ret
      exact ⟨ret_str (by rw [strOfNums_app, ← hP.out, hd.out]), hB.alloc hBs _⟩
/-- a slice of numbers that reads as zs -/
def Reads64 (w : World) (a : Option Addr) (zs : List Int) : Prop :=
  ∀ i, i < zs.length → ∃ b off, a = some ⟨b, off, none⟩ ∧ b < w.heap.size ∧ w.cell? ⟨b, off + i, none⟩ = some (.int .u64 (zs[i]?.getD 0))
theorem Reads64.below {w w' : World} {a : Option Addr} {zs : List Int} (h : Reads64 w a zs) (hB : Below w.heap.size w w') : Reads64 w' a zs := fun i hi => by
  obtain ⟨b, off, e, hb, hc⟩ := h i hi
  exact ⟨b, off, e, Nat.lt_of_lt_of_le hb hB.size, (hB.cell (p := ⟨b, off + i, none⟩) hb).trans hc⟩

theorem flat_snoc (zs : List Int) (k : Nat) (h : k < zs.length) : (zs.take (k + 1)).flatMap digs = (zs.take k).flatMap digs ++ digs (zs[k]?.getD 0) := by
  rw [List.take_succ_eq_append_getElem h, List.flatMap_append, List.getElem?_eq_getElem h]
  simp
theorem flat_len (zs : List Int) (h : ∀ z ∈ zs, z ≤ 18446744073709551615) : (zs.flatMap digs).length ≤ 10 * zs.length := by
  induction zs with
  | nil => simp
  | cons z zs ih =>
    have := ih (fun y hy => h y (List.mem_cons_of_mem _ hy))
    have := digs_len10 (h z (List.mem_cons_self ..))
    simp at *; omega
theorem mem_getD (zs : List Int) (k : Nat) (h : k < zs.length) : zs[k]?.getD 0 ∈ zs := by
  rw [List.getElem?_eq_getElem h]; exact List.getElem_mem h
theorem take_mem {zs : List Int} {k : Nat} {z : Int} (h : z ∈ zs.take k) : z ∈ zs := List.mem_of_mem_take h

end Go.Proofs.Ytkepnjnindolbaa
