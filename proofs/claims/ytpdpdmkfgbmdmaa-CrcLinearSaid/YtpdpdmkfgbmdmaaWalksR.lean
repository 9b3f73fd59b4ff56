/-
  The contracts of joined and CrcLinear.
-/
import Derived.Test.YtpdpdmkfgbmdmaaWalksP
namespace Go.Proofs.Ytpdpdmkfgbmdmaa
set_option linter.unusedSimpArgs false
set_option linter.unusedVariables false
open Go.RowKit
open crcs (W)

/-- the exclusive or of two strings -/
def xl (s t : ByteArray) : List UInt8 := s.data.toList.zipWith (· ^^^ ·) t.data.toList
/-- the first k bytes joined -/
def part (s t : ByteArray) (k : Nat) : List UInt8 := (xl s t).take k ++ s.data.toList.drop k
theorem xl_len {s t : ByteArray} (h : s.size = t.size) : (xl s t).length = s.size := by simp [xl]; omega
theorem part_len {s t : ByteArray} (h : s.size = t.size) (k : Nat) (hk : k ≤ s.size) : (part s t k).length = s.size := by
  have := xl_len h
  simp [part]; omega
theorem part_get {s t : ByteArray} (h : s.size = t.size) (k : Nat) (hk : k < s.size) : (part s t k)[k]?.getD 0 = s[k] := by
  have := xl_len h
  unfold part
  rw [List.getElem?_append_right (by simp; omega), List.length_take, Nat.min_eq_left (by omega), Nat.sub_self, List.getElem?_drop, Nat.add_zero, List.getElem?_eq_getElem (by simpa using hk)]
  rfl
theorem part_step {s t : ByteArray} (h : s.size = t.size) (k : Nat) (hk : k < s.size) (hk' : k < t.size) : (part s t k).set k (s[k] ^^^ t[k]) = part s t (k + 1) := by
  have hl := xl_len h
  have hx : (xl s t)[k]? = some (s[k] ^^^ t[k]) := by
    unfold xl
    rw [List.getElem?_zipWith, List.getElem?_eq_getElem (by simpa using hk), List.getElem?_eq_getElem (by simpa using hk')]
    rfl
  apply List.ext_getElem?
  intro i
  rw [List.getElem?_set]
  by_cases e : k = i
  · subst e
    rw [if_pos rfl, if_pos (by rw [part_len h k (by omega)]; omega)]
    unfold part
    rw [List.getElem?_append_left (by simp; omega), List.getElem?_take, if_pos (by omega), hx]
  · rw [if_neg e]
    unfold part
    by_cases hi : i < k
    · rw [List.getElem?_append_left (by simp; omega), List.getElem?_append_left (by simp; omega), List.getElem?_take, List.getElem?_take, if_pos hi, if_pos (by omega)]
    · rw [List.getElem?_append_right (by simp; omega), List.getElem?_append_right (by simp; omega), List.getElem?_drop, List.getElem?_drop, List.length_take, List.length_take, hl, Nat.min_eq_left (by omega), Nat.min_eq_left (by omega)]
      congr 1
      omega
theorem part_end {s t : ByteArray} (h : s.size = t.size) : part s t s.size = xl s t := by
  have := xl_len h
  unfold part
  rw [List.take_of_length_le (by omega), List.drop_eq_nil_of_le (by simp), List.append_nil]
/-- the joined string -/
def xorS (s t : ByteArray) : ByteArray := ⟨(xl s t).toArray⟩

set_option maxRecDepth 100000 in
set_option maxHeartbeats 1000000 in
theorem joined_any (s t : ByteArray) (w : World) (hs : s.size ≤ 1000000) (hst : s.size = t.size) :
    Calls Try.prog 35 #[.string s, .string t] w fun e w' => e = .returned (.string (xorS s t)) ∧ Below w.heap.size w w' := by
  have HE := Lib.hid hst
  have hle : s.size ≤ t.size := by omega
  have h0 : part s t 0 = s.data.toList := by simp [part]
  have hb0 := bw_bts w s
  rw [← h0] at hb0
  have HB0 := Lib.hid hb0
  clear hst h0 hb0
  have cv := conv_str w s
  go_enter Try.func35, Try.ntmps35
  go_wp2
  go_loopw [6] (fun i wr => ∃ k : Nat, k ≤ s.size ∧ i = .int .i64 k ∧ Bts wr w.heap.size (part s t k) ∧ Below w.heap.size w wr) (fun i _ => s.size - (intOf i).toNat)
  case atStart => exact ⟨0, by omega, rfl, HB0.out, bw_below w s⟩
  case round =>
    obtain ⟨k, hk, rfl, hbt, hB⟩ := hrel
    by_cases hlt : k < s.size
    · have hlt' : k < t.size := by omega
      have hlen := part_len HE.out k hk
      have hget := part_get HE.out k hlt
      have hstep := Lib.hid (part_step HE.out k hlt hlt')
      generalize part s t k = l at hbt hlen hget hstep
      have hq : k < l.length := by omega
      have hx := xor_b s[k] t[k]
      obtain ⟨hcl, hfr⟩ := hbt.cell k hq
      rw [hget] at hcl
      have e5 : IntKind.i64.wrap (k : Int) = k := IntWalk.i64_in _ (by omega)
      have HS := Lib.hid (hbt.drew.set k hq (s[k] ^^^ t[k]))
      clear hlen hget
      go_wp2
      go_still_tail 11, (by kernel_rfl)
      have hbt2 := hbt.drew
      have hB2 := hB.drew
      change wpList _ _ _ _ _ wr.drew
      generalize wr.drew = w2 at hbt2 hB2 HS ⊢
      clear hcl hfr hbt
      obtain ⟨hcl2, hfr2⟩ := hbt2.cell k hq
      go_wp2
      go_roundw
      case rel => exact ⟨k + 1, by omega, by go_num, by rw [← hstep.out]; exact HS.out, hB2.setCell (p := ⟨w.heap.size, k, none⟩) (Nat.le_refl _) _⟩
      case measure => simp [intOf]; omega
    · obtain rfl : k = s.size := by omega
      rw [part_end HE.out] at hbt
      have hcv := hbt.conv s.size (bcap w s) (xl_len HE.out)
      go_wp2
      go_ret
      exact ⟨rfl, hB⟩
end Go.Proofs.Ytpdpdmkfgbmdmaa
