/-
  The contracts of Add, of the program and of the reference.
-/
import Derived.Test.YtpdpdmkfgbmdmaaWalksB
namespace Go.Proofs.Ytpdpdmkfgbmdmaa
set_option linter.unusedSimpArgs false
set_option linter.unusedVariables false
open Go.RowKit
open crcs (W)

theorem take_snoc (s : ByteArray) (k : Nat) (h : k < s.size) : s.data.toList.take (k + 1) = s.data.toList.take k ++ [s[k]] := by
  rw [List.take_succ_eq_append_getElem (by simpa using h)]; rfl
theorem adds_snoc (c : W) (s : ByteArray) (k : Nat) (h : k < s.size) : crcs.adds c (s.data.toList.take (k + 1)) = crcs.upd (crcs.adds c (s.data.toList.take k)) (crcs.w8 s[k]) := by
  rw [take_snoc s k h, crcs.adds_app]
  rfl
theorem below_drewN {B : Nat} {w w1 : World} (h : Below B w w1) (n : Nat) : Below B w (w1.drewN n) := h.trans ⟨rfl, rfl, rfl, Nat.le_refl _, fun _ _ => rfl⟩
theorem below_on {B : Nat} {w w1 w2 : World} (h : Below B w w1) (hB : B ≤ w.heap.size) (k : Below w1.heap.size w1 w2) : Below B w w2 := h.trans (k.mono (Nat.le_trans hB h.size))
theorem below_then {w w1 w2 : World} (h : Below w.heap.size w w1) (k : Below w1.heap.size w1 w2) : Below w.heap.size w w2 := below_on h (Nat.le_refl _) k
theorem Part.drewN {w : World} {b k : Nat} (h : Part w b k) (n : Nat) : Part (w.drewN n) b k := h.below (below_drewN (Below.refl _ _) n)

set_option maxRecDepth 100000 in
theorem tadd_any (b : Nat) (c : W) (s : ByteArray) (w : World) (hs : s.size ≤ 9223372036854775807) (hT : Tab w b) :
    Calls Try.prog 37 #[.pointer (some ⟨b, 0, none⟩), .int .u32 (wi c), .string s] w fun e w' => e = .returned (.int .u32 (wi (crcs.adds c s.data.toList))) ∧ Below w.heap.size w w' := by
  go_enter Try.func37, Try.ntmps37
  go_wp2
  go_loopw [1, 7, 10] (fun x _ i wr => ∃ k : Nat, k ≤ s.size ∧ i = .int .i64 k ∧ x = .int .u32 (wi (crcs.adds c (s.data.toList.take k))) ∧ Tab wr b ∧ Below w.heap.size w wr) (fun _ _ i _ => s.size - (intOf i).toNat)
  case atStart => exact ⟨0, by omega, rfl, rfl, hT, Below.refl _ _⟩
  case round =>
    obtain ⟨k, hk, rfl, rfl, hTr, hB⟩ := hrel
    by_cases hlt : k < s.size
    · have hsn := Lib.hid (adds_snoc c s k hlt)
      generalize crcs.adds c (s.data.toList.take k) = d at hsn
      have hd0 := wi_lo d
      have hd1 := wi_hi d
      have hcell := hTr.at (low d ^^^ s[k])
      have hup := Lib.hid (upd_low d s[k])
      have hl := low_w d
      have hx := xor_b (low d) s[k]
      generalize low d ^^^ s[k] = y at hcell hup hx
      have hy : y.toNat < 256 := y.toNat_lt
      go_wp2
      go_quiet (fail)
      clear hx hl hcell
      go_wp2
      go_roundw
      case rel => exact ⟨k + 1, by omega, by go_num, by rw [hsn.out, ← hup.out], hTr.drewN _, below_drewN hB _⟩
      case measure => simp [intOf]; omega
    · go_wp2
      go_ret
      exact ⟨ret_int (by rw [List.take_of_length_le (by simp; omega)]), hB⟩

set_option maxRecDepth 100000 in
theorem addr_any (c : W) (s : ByteArray) (w : World) (hs : s.size ≤ 9223372036854775807) :
    Calls Try.prog 12 #[.int .u32 (wi c), .string s] w fun e w' => e = .returned (.int .u32 (wi (crcs.adds c s.data.toList))) ∧ w = w' := by
  go_enter Try.func12, Try.ntmps12
  go_wp2
  go_loop [0, 5] (fun x i => ∃ k : Nat, k ≤ s.size ∧ i = .int .i64 k ∧ x = .int .u32 (wi (crcs.adds c (s.data.toList.take k)))) (fun _ i => s.size - (intOf i).toNat)
  case atStart => exact ⟨0, by omega, rfl, rfl⟩
  case round =>
    obtain ⟨k, hk, rfl, rfl⟩ := hrel
    by_cases hlt : k < s.size
    · have hsn := Lib.hid (adds_snoc c s k hlt)
      generalize crcs.adds c (s.data.toList.take k) = d at hsn
      have hd0 := wi_lo d
      have hd1 := wi_hi d
      have hup := Lib.hid (upd_ref2 d s[k])
      have hx := upd_ref d s[k]
      have hb : (s[k].toNat : Int) ≤ 255 := by have := s[k].toNat_lt; omega
      go_wp2_with (go_at_call 38; refine (eight_any _ _).mono ?_; rintro e w1 ⟨rfl, rfl⟩)
      go_round
      case rel => exact ⟨k + 1, by omega, by go_num, by rw [hsn.out, ← hup.out]⟩
      case measure => simp [intOf]; omega
    · go_wp2
      go_ret
      exact ⟨ret_int (by rw [List.take_of_length_le (by simp; omega)]), rfl⟩
theorem add_any (c : W) (s : ByteArray) (w : World) (hs : s.size ≤ 9223372036854775807) :
    Calls Try.prog 11 #[.int .u32 (wi c), .string s] w fun e w' => e = .returned (.int .u32 (wi (crcs.adds c s.data.toList))) ∧ Below w.heap.size w w' := by
  go_enter Try.func11, Try.ntmps11
  go_wp2_with (first
    | (go_at_call 36; refine (newTable_any _).mono ?_; rintro e w1 ⟨rfl, hT, hB1⟩)
    | (go_at_call 37; refine (tadd_any _ _ _ _ hs hT).mono ?_; rintro e w2 ⟨rfl, hB2⟩))
  go_ret
  exact ⟨rfl, below_then hB1 hB2⟩
end Go.Proofs.Ytpdpdmkfgbmdmaa
