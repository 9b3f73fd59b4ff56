/-
  The contracts of seal, four, of the program and of the reference.
-/
import Derived.Test.YtpdpdmkfgbmdmaaWalksD
namespace Go.Proofs.Ytpdpdmkfgbmdmaa
set_option linter.unusedSimpArgs false
set_option linter.unusedVariables false
open Go.RowKit
open crcs (W)

theorem ret_str {a b : ByteArray} (h : a = b) : Ending.returned (.string a) = .returned (.string b) := by rw [h]
/-- a byte of a word -/
def sh (n : W) (i : Nat) : Int := wi n / 2 ^ (8 * i) % 256
theorem sh_byte (n : W) (i : Nat) : UInt8.ofNat (sh n i).toNat = UInt8.ofNat (n >>> (8 * i)).toNat := by
  unfold sh
  rw [shr_w]
  unfold wi
  apply UInt8.toNat_inj.1
  rw [UInt8.toNat_ofNat', UInt8.toNat_ofNat']
  omega
theorem four_sh (n : W) : strOfNums [sh n 0, sh n 1, sh n 2, sh n 3] = ⟨(crcs.four n).toArray⟩ := by
  unfold strOfNums crcs.four
  simp only [List.map_cons, List.map_nil, sh_byte]
  simp
theorem cells4 (W0 : World) (b : Nat) (t : TypeId) (x0 x1 x2 x3 : Int) (hb : W0.heap[b]? = some (.cells #[.int .u8 x0, .int .u8 x1, .int .u8 x2, .int .u8 x3] t (0, 0))) :
    (convert 51 9 (.slice (some ⟨b, 0, none⟩) 4 4)).run Try.prog W0 = .ok (.string (strOfNums [x0, x1, x2, x3])) W0 := by
  refine run_convert_bytes_arg W0 51 5 Try.underlying51 Try.underlying5 b 0 4 4 [x0, x1, x2, x3] rfl (fun i hi => ?_) 9 Try.underlying9
  have : i = 0 ∨ i = 1 ∨ i = 2 ∨ i = 3 := by omega
  unfold World.cell?
  rw [hb]
  rcases this with rfl | rfl | rfl | rfl <;> rfl
theorem conv4 (W0 : World) (x0 x1 x2 x3 : Int) :
    (convert 51 9 (.slice (some ⟨W0.heap.size, 0, none⟩) 4 4)).run Try.prog (W0.alloc (.cells #[.int .u8 x0, .int .u8 x1, .int .u8 x2, .int .u8 x3] 5)) = .ok (.string (strOfNums [x0, x1, x2, x3])) (W0.alloc (.cells #[.int .u8 x0, .int .u8 x1, .int .u8 x2, .int .u8 x3] 5)) :=
  cells4 _ _ 5 _ _ _ _ (World.alloc_heap_new W0 _)

theorem fourr_any (n : W) (w : World) : Calls Try.prog 41 #[.int .u32 (wi n)] w fun e w' => e = .returned (.string ⟨(crcs.four n).toArray⟩) ∧ Below w.heap.size w w' := by
  have hc0 := wi_lo n
  have hc1 := wi_hi n
  have cv := conv4 w
  have H := Lib.hid (four_sh n)
  have H0 := Lib.hid (show wi n % 256 = sh n 0 by simp [sh])
  have H1 := Lib.hid (show wi n / 256 % 256 = sh n 1 by simp [sh])
  have H2 := Lib.hid (show wi n / 65536 % 256 = sh n 2 by simp [sh])
  have H3 := Lib.hid (show wi n / 16777216 = sh n 3 by simp [sh]; omega)
  go_enter Try.func41, Try.ntmps41
  go_wp2
  go_ret
  exact ⟨ret_str (by rw [H0.out, H1.out, H2.out, H3.out, H.out]), (Below.refl _ _).alloc (Nat.le_refl _) _⟩

/-- a string that lies in a slice of its own -/
theorem reads_one (W0 : World) (s : ByteArray) : ReadsS (W0.alloc (.cells #[.string s] 9)) (some ⟨W0.heap.size, 0, none⟩) [s] := by
  intro i hi
  obtain rfl : i = 0 := by simpa using hi
  exact ⟨_, _, rfl, by simp, by simp⟩
theorem cat_one (s : ByteArray) : cat [s] = s.data.toList := by simp [cat]
theorem of_one (s : ByteArray) (W0 : World) (B : Nat) (hE : W0.heap.size = B) (hs : s.size ≤ 9223372036854775807) :
    Calls Try.prog 16 #[.slice (some ⟨B, 0, none⟩) 1 1] (W0.alloc (.cells #[.string s] 9)) fun e w' => e = .returned (.int .u32 (wi (crcOf s.data.toList))) ∧ Below W0.heap.size W0 w' := by
  subst hE
  exact (of_any _ 1 [s] _ (by simp) (by simpa using hs) (reads_one W0 s)).mono fun e w' ⟨h, hB⟩ => ⟨by rw [cat_one] at h; exact h, ((Below.refl _ W0).alloc (Nat.le_refl _) _).trans (hB.mono (by simp))⟩
theorem ofr_one (s : ByteArray) (W0 : World) (B : Nat) (hE : W0.heap.size = B) (hs : s.size ≤ 9223372036854775807) :
    Calls Try.prog 17 #[.slice (some ⟨B, 0, none⟩) 1 1] (W0.alloc (.cells #[.string s] 9)) fun e w' => e = .returned (.int .u32 (wi (crcOf s.data.toList))) ∧ Below W0.heap.size W0 w' := by
  subst hE
  exact (ofr_any _ 1 [s] _ (by simp) (by simpa using hs) (reads_one W0 s)).mono fun e w' ⟨h, hB⟩ => ⟨by rw [cat_one] at h; exact h, hB ▸ (Below.refl _ W0).alloc (Nat.le_refl _) _⟩

/-- the four bytes, the first k of them made -/
def fc (n : W) (k i : Nat) : Value := .int .u8 (if i < k then sh n i else 0)
def Four (w : World) (b : Nat) (n : W) (k : Nat) : Prop := w.heap[b]? = some (.cells #[fc n k 0, fc n k 1, fc n k 2, fc n k 3] 63 (0, 0))
theorem Four.lt {w : World} {b k : Nat} {n : W} (h : Four w b n k) : b < w.heap.size := (Array.getElem?_eq_some_iff.1 h).1
theorem Four.below {w w1 : World} {b k : Nat} {n : W} (h : Four w b n k) (hB : Below w.heap.size w w1) : Four w1 b n k := (hB.block b h.lt).trans h
theorem Four.new (w : World) (n : W) : Four (w.alloc (.cells #[.int .u8 0, .int .u8 0, .int .u8 0, .int .u8 0] 63)) w.heap.size n 0 := by
  unfold Four fc
  exact World.alloc_heap_new w _
theorem Four.cell {w : World} {b k : Nat} {n : W} (h : Four w b n k) (hk : k < 4) : w.cell? ⟨b, k, none⟩ = some (.int .u8 0) ∧ w.frozen? ⟨b, k, none⟩ = false := by
  unfold World.cell? World.frozen?
  rw [show w.heap[b]? = _ from h]
  have : k = 0 ∨ k = 1 ∨ k = 2 ∨ k = 3 := by omega
  rcases this with rfl | rfl | rfl | rfl <;> exact ⟨rfl, rfl⟩
theorem Four.set {w : World} {b k : Nat} {n : W} (h : Four w b n k) (hk : k < 4) : Four (w.setCell ⟨b, k, none⟩ (.int .u8 (sh n k))) b n (k + 1) := by
  obtain ⟨hlt, hv⟩ := Array.getElem?_eq_some_iff.1 h
  show (w.heap.modify b _)[b]? = _
  rw [Array.getElem?_eq_getElem (by rw [Array.size_modify]; exact hlt), Array.getElem_modify_self, hv]
  have : k = 0 ∨ k = 1 ∨ k = 2 ∨ k = 3 := by omega
  rcases this with rfl | rfl | rfl | rfl <;> rfl
theorem Four.conv {w : World} {b : Nat} {n : W} (h : Four w b n 4) : (convert 51 9 (.slice (some ⟨b, 0, none⟩) 4 4)).run Try.prog w = .ok (.string ⟨(crcs.four n).toArray⟩) w := by
  rw [cells4 w b 63 (sh n 0) (sh n 1) (sh n 2) (sh n 3) h, four_sh]

set_option maxRecDepth 100000 in
theorem seal_any (s : ByteArray) (w : World) (hs : s.size ≤ 9223372036854775807) : Calls Try.prog 40 #[.string s] w fun e w' => e = .returned (.string ⟨(crcs.four (crcOf s.data.toList)).toArray⟩) ∧ Below w.heap.size w w' := by
  go_enter Try.func40, Try.ntmps40
  go_wp2_with (go_at_call 16; refine (of_one s (w.alloc (.cells #[.int .u8 0, .int .u8 0, .int .u8 0, .int .u8 0] 63)) (w.heap.size + 1) (by simp) hs).mono ?_; rintro e w1 ⟨rfl, hB1⟩)
  have hF := (Four.new w (crcOf s.data.toList)).below hB1
  have hB := (Below.refl w.heap.size w).alloc (Nat.le_refl _) (.cells #[.int .u8 0, .int .u8 0, .int .u8 0, .int .u8 0] 63)
  have hBA := hB.trans (hB1.mono (by simp))
  clear hB hB1
  generalize hn : crcOf s.data.toList = n at hF
  have HN := Lib.hid hn
  clear hn
  have hn0 := wi_lo n
  have hn1 := wi_hi n
  go_loopw [5, 9] (fun _ i wr => ∃ k : Nat, k ≤ 4 ∧ i = .int .i64 k ∧ Four wr w.heap.size n k ∧ Below w.heap.size w wr) (fun _ i _ => 4 - (intOf i).toNat)
  case atStart => exact ⟨0, by omega, rfl, hF, hBA⟩
  case round =>
    obtain ⟨k, hk, rfl, hFr, hBr⟩ := hrel
    by_cases hlt : k < 4
    · obtain ⟨hc, hf⟩ := hFr.cell hlt
      have hs := Lib.hid (hFr.set hlt)
      go_wp2
      go_roundw
      case rel => exact ⟨k + 1, by omega, by go_num, hs.out, hBr.setCell (p := ⟨w.heap.size, k, none⟩) (Nat.le_refl _) _⟩
      case measure => simp [intOf]; omega
    · obtain rfl : k = 4 := by omega
      have hcv := hFr.conv
      have hlt := hFr.lt
      go_wp2
      go_ret
      exact ⟨ret_str (by rw [HN.out]), hBr⟩
end Go.Proofs.Ytpdpdmkfgbmdmaa
