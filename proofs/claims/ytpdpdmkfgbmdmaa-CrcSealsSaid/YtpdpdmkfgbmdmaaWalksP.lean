/-
  The contract of CrcParts.
-/
import Derived.Test.YtpdpdmkfgbmdmaaWalksN
namespace Go.Proofs.Ytpdpdmkfgbmdmaa
set_option linter.unusedSimpArgs false
set_option linter.unusedVariables false
open Go.RowKit
open crcs (W)

theorem below_alloc_then {w w1 w2 : World} {o : Obj} (h : Below w.heap.size w w1) (k : Below (w1.alloc o).heap.size (w1.alloc o) w2) : Below w.heap.size w w2 := below_on (h.alloc h.size o) (Nat.le_refl _) k
theorem conv1 (W0 : World) (x : Int) : (convert 51 9 (.slice (some ⟨W0.heap.size, 0, none⟩) 1 1)).run Try.prog (W0.alloc (.cells #[.int .u8 x] 5)) = .ok (.string (strOfNums [x])) (W0.alloc (.cells #[.int .u8 x] 5)) :=
  run_convert_bytes_arg _ 51 5 Try.underlying51 Try.underlying5 _ 0 1 1 [x] rfl (fun i hi => by
    obtain rfl : i = 0 := by omega
    simp) 9 Try.underlying9
/-- the state behind a string -/
def addS (c : W) (s : ByteArray) : W := crcs.adds c s.data.toList
theorem addS_two (c : W) (a b : ByteArray) : addS (addS c a) b = addS c (a ++ b) := by
  unfold addS
  rw [ByteArray.data_append, Array.toList_append, crcs.adds_app]
theorem add_S (c : W) (s : ByteArray) (w : World) (hs : s.size ≤ 9223372036854775807) : Calls Try.prog 11 #[.int .u32 (wi c), .string s] w fun e w' => e = .returned (.int .u32 (wi (addS c s))) ∧ Below w.heap.size w w' := add_any c s w hs
theorem add_T (c : W) (a b : ByteArray) (w : World) (hs : b.size ≤ 9223372036854775807) : Calls Try.prog 11 #[.int .u32 (wi (addS c a)), .string b] w fun e w' => e = .returned (.int .u32 (wi (addS c (a ++ b)))) ∧ Below w.heap.size w w' := by
  rw [← addS_two]; exact add_any _ b w hs
theorem low_and (c : W) (x : UInt8) : bits .and .u32 (bits .xor .u32 (wi c) (x.toNat : Int)) 255 = (((low c ^^^ x).toNat : Nat) : Int) := by
  rw [upd_ref, ← low_xor, byte_w]
theorem tab_byte (y : UInt8) : tab y.toNat = wi (crcs.iter 8 (crcs.w8 y)) := by
  unfold tab
  congr 3
  exact UInt8.ofNat_toNat
theorem add_one (c : W) (x : UInt8) (w : World) : Calls Try.prog 11 #[.int .u32 (wi c), .string (strOfNums [(x.toNat : Int)])] w fun e w' => e = .returned (.int .u32 (bits .xor .u32 (wi c / 256) (tab (low c ^^^ x).toNat))) ∧ Below w.heap.size w w' := by
  have h : wi (crcs.adds c (strOfNums [(x.toNat : Int)]).data.toList) = bits .xor .u32 (wi c / 256) (tab (low c ^^^ x).toNat) := by
    rw [tab_byte, upd_low, strOfNums_data]
    simp [crcs.adds]
  rw [← h]
  exact add_any c _ w (by rw [strOfNums_size]; simp)
theorem end_two (c : W) (w : World) : Calls Try.prog 19 #[.int .u32 (wi (~~~c))] w fun e w' => e = .returned (.int .u32 (wi c)) ∧ w = w' := by
  have := end_any (~~~c) w
  rwa [BitVec.not_not] at this
theorem cat_two (a b : ByteArray) : crcOf (cat [a, b]) = crcS (a ++ b) := by
  unfold crcS cat
  simp [ByteArray.data_append]
theorem of_S (s : ByteArray) (W0 : World) (hs : s.size ≤ 9223372036854775807) :
    Calls Try.prog 16 #[.slice (some ⟨W0.heap.size, 0, none⟩) 1 1] (W0.alloc (.cells #[.string s] 9)) fun e w' => e = .returned (.int .u32 (wi (crcS s))) ∧ Below W0.heap.size W0 w' := of_one s W0 _ rfl hs
theorem of_two (a b : ByteArray) (W0 : World) (ha : a.size ≤ 9223372036854775807) (hb : b.size ≤ 9223372036854775807) :
    Calls Try.prog 16 #[.slice (some ⟨W0.heap.size, 0, none⟩) 2 2] (W0.alloc (.cells #[.string a, .string b] 9)) fun e w' => e = .returned (.int .u32 (wi (crcS (a ++ b)))) ∧ Below W0.heap.size W0 w' := by
  refine (of_any _ 2 [a, b] _ (by simp) ?_ (reads_s2 W0 a b)).mono ?_
  · intro s hs
    have : s = a ∨ s = b := by simpa using hs
    rcases this with rfl | rfl <;> assumption
  · rintro e w' ⟨h, hB⟩
    exact ⟨by rw [cat_two] at h; exact h, ((Below.refl _ W0).alloc (Nat.le_refl _) _).trans (hB.mono (by simp))⟩

set_option maxRecDepth 100000 in
set_option maxHeartbeats 1000000 in
theorem parts_any (c : W) (a b : ByteArray) (x : UInt8) (w : World) (ha : a.size ≤ 100) (hb : b.size ≤ 100) :
    Calls Try.prog 8 #[.int .u32 (wi c), .string a, .string b, .int .u8 (x.toNat : Int)] w fun e w' => e = .returned (.bool true) ∧ Below w.heap.size w w' := by
  have hc0 := wi_lo c
  have hc1 := wi_hi c
  have hx0 : (0 : Int) ≤ (x.toNat : Int) := by omega
  have hx1 : (x.toNat : Int) ≤ 255 := by have := x.toNat_lt; omega
  have hl := low_and c x
  have hk : (low c ^^^ x).toNat < 256 := UInt8.toNat_lt _
  have cv := fun W0 => conv1 W0 (x.toNat : Int)
  have hsz : a.size + b.size ≤ 9223372036854775807 := by omega
  have hab : (a ++ b).size ≤ 9223372036854775807 := by rw [ByteArray.size_append]; omega
  have hone := fun w => Lib.hid (add_one c x w)
  generalize (low c ^^^ x).toNat = k at hl hk hone
  generalize (x.toNat : Int) = y at hl hx0 hx1 cv hone
  have e1 : wrap64 (k : Int) = k := IntWalk.wrap64_in _ ⟨by omega, by omega⟩
  go_enter Try.func8, Try.ntmps8
  go_wp2_with (first
    | (go_at_call 5; (with_reducible refine (known_any _).mono ?_); rintro e w1 ⟨rfl, hB1⟩; have K1 := hB1)
    | (go_at_call 14; (with_reducible refine (table_near k hk _).mono ?_); rintro e w2 ⟨rfl, rfl⟩)
    | (go_at_call 11; (with_reducible refine (add_S c a _ (by omega)).mono ?_); rintro e w3 ⟨rfl, hB3⟩)
    | (go_at_call 11; (with_reducible refine (add_T c a b _ (by omega)).mono ?_); rintro e w4 ⟨rfl, hB4⟩)
    | (go_at_call 11; (with_reducible refine (add_S c (a ++ b) _ hab).mono ?_); rintro e w5 ⟨rfl, hB5⟩)
    | (go_at_call 16; (with_reducible refine (of_two a b _ (by omega) (by omega)).mono ?_); rintro e w6 ⟨rfl, hB6⟩)
    | (go_at_call 16; (with_reducible refine (of_S (a ++ b) _ hab).mono ?_); rintro e w7 ⟨rfl, hB7⟩)
    | (go_at_call 11; (with_reducible refine ((hone _).out).mono ?_); rintro e w8 ⟨rfl, hB8⟩)
    | (go_at_call 19; (with_reducible refine (end_any c _).mono ?_); rintro e w9 ⟨rfl, rfl⟩)
    | (go_at_call 19; (with_reducible refine (end_two c _).mono ?_); rintro e w9 ⟨rfl, rfl⟩))
  go_ret
  exact ⟨rfl, below_then (below_then (below_then (below_then (below_then (below_alloc_then K1 hB3) hB4) hB5) hB6) hB7) hB8⟩
end Go.Proofs.Ytpdpdmkfgbmdmaa
