/-
  The contracts of Start, End, Table, Of, of the program and of the reference.
-/
import Derived.Test.YtpdpdmkfgbmdmaaWalksC
namespace Go.Proofs.Ytpdpdmkfgbmdmaa
set_option linter.unusedSimpArgs false
set_option linter.unusedVariables false
open Go.RowKit
open crcs (W)

theorem start_any (w : World) : Calls Try.prog 21 #[] w fun e w' => e = .returned (.int .u32 4294967295) ∧ w = w' := by
  go_enter Try.func21, Try.ntmps21
  go_wp2
  go_ret
  exact ⟨rfl, rfl⟩
theorem startr_any (w : World) : Calls Try.prog 22 #[] w fun e w' => e = .returned (.int .u32 4294967295) ∧ w = w' := by
  go_enter Try.func22, Try.ntmps22
  go_wp2
  go_ret
  exact ⟨rfl, rfl⟩
theorem end_math (c : W) : bits .xor .u32 (wi c) 4294967295 = wi (~~~c) := by
  rw [ones_w, xor_w, crcs.not_ones]
theorem end_any (c : W) (w : World) : Calls Try.prog 19 #[.int .u32 (wi c)] w fun e w' => e = .returned (.int .u32 (wi (~~~c))) ∧ w = w' := by
  have hc0 := wi_lo c
  have hc1 := wi_hi c
  have H := Lib.hid (end_math c)
  go_enter Try.func19, Try.ntmps19
  go_wp2
  go_ret
  exact ⟨ret_int H.out, rfl⟩
theorem endr_any (c : W) (w : World) : Calls Try.prog 20 #[.int .u32 (wi c)] w fun e w' => e = .returned (.int .u32 (wi (~~~c))) ∧ w = w' := by
  have hc0 := wi_lo c
  have hc1 := wi_hi c
  go_enter Try.func20, Try.ntmps20
  go_wp2
  go_ret
  refine ⟨ret_int ?_, rfl⟩
  rw [show IntKind.u32.max = wi crcs.ones from rfl, xor_w, crcs.not_ones, BitVec.xor_comm]

/-- Table's answers -/
theorem table_far (i : Int) (h1 : -9223372036854775808 ≤ i) (h2 : i ≤ 9223372036854775807) (h : i < 0 ∨ 256 ≤ i) (w : World) :
    Calls Try.prog 14 #[.int .i64 i] w fun e w' => e = .returned (.tuple #[.int .u32 0, .int .i64 2]) ∧ w = w' := by
  by_cases hn : i < 0
  · clear h
    go_enter Try.func14, Try.ntmps14
    go_wp2
    go_ret2
    exact ⟨rfl, rfl⟩
  · have hb : 256 ≤ i := by omega
    clear h
    go_enter Try.func14, Try.ntmps14
    go_wp2
    go_ret2
    exact ⟨rfl, rfl⟩
theorem tabler_far (i : Int) (h1 : -9223372036854775808 ≤ i) (h2 : i ≤ 9223372036854775807) (h : i < 0 ∨ 256 ≤ i) (w : World) :
    Calls Try.prog 15 #[.int .i64 i] w fun e w' => e = .returned (.tuple #[.int .u32 0, .int .i64 2]) ∧ w = w' := by
  by_cases hn : i < 0
  · clear h
    go_enter Try.func15, Try.ntmps15
    go_wp2
    go_ret2
    exact ⟨rfl, rfl⟩
  · have hb : 255 < i := by omega
    clear h
    go_enter Try.func15, Try.ntmps15
    go_wp2
    go_ret2
    exact ⟨rfl, rfl⟩
set_option maxRecDepth 100000 in
theorem table_near (k : Nat) (h : k < 256) (w : World) :
    Calls Try.prog 14 #[.int .i64 k] w fun e w' => e = .returned (.tuple #[.int .u32 (tab k), .int .i64 0]) ∧ w = w' := by
  have d1 : decide ((k : Int) < 0) = false := decide_eq_false (by omega)
  go_enter Try.func14, Try.ntmps14
  go_wp2_with (go_at_call 39; refine (entry_nat k h _).mono ?_; rintro e w1 ⟨rfl, rfl⟩)
  go_ret2
  exact ⟨rfl, rfl⟩
theorem eight_nat (k : Nat) (h : k < 256) (w : World) :
    Calls Try.prog 38 #[.int .u32 (k : Int)] w fun e w' => e = .returned (.int .u32 (tab k)) ∧ w = w' := by
  have := eight_any (crcs.w8 (UInt8.ofNat k)) w
  have e : wi (crcs.w8 (UInt8.ofNat k)) = (k : Int) := by rw [← byte_w, UInt8.toNat_ofNat', Nat.mod_eq_of_lt h]
  rwa [e] at this
set_option maxRecDepth 100000 in
theorem tabler_near (k : Nat) (h : k < 256) (w : World) :
    Calls Try.prog 15 #[.int .i64 k] w fun e w' => e = .returned (.tuple #[.int .u32 (tab k), .int .i64 0]) ∧ w = w' := by
  have d1 : decide ((k : Int) < 0) = false := decide_eq_false (by omega)
  go_enter Try.func15, Try.ntmps15
  go_wp2_with (go_at_call 38; refine (eight_nat k h _).mono ?_; rintro e w1 ⟨rfl, rfl⟩)
  go_ret2
  exact ⟨rfl, rfl⟩
/-- what Table answers: number, error -/
def tabR (i : Int) : Int × Int := if i < 0 ∨ 256 ≤ i then (0, 2) else (tab i.toNat, 0)
theorem table_any (i n er : Int) (h1 : -9223372036854775808 ≤ i) (h2 : i ≤ 9223372036854775807) (H : Hid (tabR i = (n, er))) (w : World) :
    Calls Try.prog 14 #[.int .i64 i] w fun e w' => e = .returned (.tuple #[.int .u32 n, .int .i64 er]) ∧ w = w' := by
  have h := H.out
  unfold tabR at h
  by_cases hf : i < 0 ∨ 256 ≤ i
  · rw [if_pos hf] at h; cases h
    exact table_far i h1 h2 hf w
  · rw [if_neg hf] at h; cases h
    obtain ⟨k, rfl⟩ := Int.eq_ofNat_of_zero_le (show 0 ≤ i by omega)
    exact table_near k (by omega) w
theorem tabler_any (i n er : Int) (h1 : -9223372036854775808 ≤ i) (h2 : i ≤ 9223372036854775807) (H : Hid (tabR i = (n, er))) (w : World) :
    Calls Try.prog 15 #[.int .i64 i] w fun e w' => e = .returned (.tuple #[.int .u32 n, .int .i64 er]) ∧ w = w' := by
  have h := H.out
  unfold tabR at h
  by_cases hf : i < 0 ∨ 256 ≤ i
  · rw [if_pos hf] at h; cases h
    exact tabler_far i h1 h2 hf w
  · rw [if_neg hf] at h; cases h
    obtain ⟨k, rfl⟩ := Int.eq_ofNat_of_zero_le (show 0 ≤ i by omega)
    exact tabler_near k (by omega) w

/-- a slice, a cell an element, that reads as xs -/
def Reads {α : Type} (f : α → Value) (d : α) (w : World) (a : Option Addr) (xs : List α) : Prop :=
  ∀ i, i < xs.length → ∃ b off, a = some ⟨b, off, none⟩ ∧ b < w.heap.size ∧ w.cell? ⟨b, off + i, none⟩ = some (f (xs[i]?.getD d))
theorem Reads.below {α : Type} {f : α → Value} {d : α} {w w' : World} {a : Option Addr} {xs : List α} (h : Reads f d w a xs) (hB : Below w.heap.size w w') : Reads f d w' a xs := fun i hi => by
  obtain ⟨b, off, e, hb, hc⟩ := h i hi
  exact ⟨b, off, e, Nat.lt_of_lt_of_le hb hB.size, (hB.cell (p := ⟨b, off + i, none⟩) hb).trans hc⟩
theorem Reads.alloc {α : Type} {f : α → Value} {d : α} {w : World} {a : Option Addr} {xs : List α} (h : Reads f d w a xs) (o : Obj) : Reads f d (w.alloc o) a xs := h.below ((Below.refl _ _).alloc (Nat.le_refl _) o)
theorem Reads.drew {α : Type} {f : α → Value} {d : α} {w : World} {a : Option Addr} {xs : List α} (h : Reads f d w a xs) : Reads f d w.drew a xs := h
theorem Reads.drewN {α : Type} {f : α → Value} {d : α} {w : World} {a : Option Addr} {xs : List α} (h : Reads f d w a xs) (n : Nat) : Reads f d (w.drewN n) a xs := h
theorem Reads.nil {α : Type} {f : α → Value} {d : α} (w : World) (a : Option Addr) : Reads f d w a [] := fun i hi => by simp at hi
abbrev ReadsS := Reads Value.string ByteArray.empty
abbrev ReadsI := Reads (Value.int .i64) 0
/-- all bytes, one behind the other -/
def cat (ss : List ByteArray) : List UInt8 := ss.flatMap fun s => s.data.toList
theorem cat_snoc (ss : List ByteArray) (k : Nat) (h : k < ss.length) (c : W) : crcs.adds c (cat (ss.take (k + 1))) = crcs.adds (crcs.adds c (cat (ss.take k))) (ss[k]?.getD ByteArray.empty).data.toList := by
  rw [List.take_succ_eq_append_getElem h, cat, List.flatMap_append, crcs.adds_app, List.getElem?_eq_getElem h]
  simp [cat]
/-- the CRC -/
def crcOf (l : List UInt8) : W := ~~~ (crcs.adds crcs.ones l)
theorem mem_getS (ss : List ByteArray) (k : Nat) (h : k < ss.length) : ss[k]?.getD ByteArray.empty ∈ ss := by
  rw [List.getElem?_eq_getElem h]; exact List.getElem_mem h

set_option maxRecDepth 100000 in
theorem of_any (a : Option Addr) (cap : Nat) (ss : List ByteArray) (w : World) (hn : ss.length ≤ 9223372036854775807) (hz : ∀ s ∈ ss, s.size ≤ 9223372036854775807) (hr : ReadsS w a ss) :
    Calls Try.prog 16 #[.slice a ss.length cap] w fun e w' => e = .returned (.int .u32 (wi (crcOf (cat ss)))) ∧ Below w.heap.size w w' := by
  have HZ := Lib.hid hz
  have HR := Lib.hid hr
  clear hz hr
  go_enter Try.func16, Try.ntmps16
  go_wp2_with (first
    | (go_at_call 36; refine (newTable_any _).mono ?_; rintro e w1 ⟨rfl, hT, hB1⟩)
    | (go_at_call 21; refine (start_any _).mono ?_; rintro e w2 ⟨rfl, rfl⟩))
  go_loopw [4, 6, 11] (fun c _ i wr => ∃ k : Nat, k ≤ ss.length ∧ i = .int .i64 k ∧ c = .int .u32 (wi (crcs.adds crcs.ones (cat (ss.take k)))) ∧ Tab wr w.heap.size ∧ Below w.heap.size w wr) (fun _ _ i _ => ss.length - (intOf i).toNat)
  case atStart => exact ⟨0, by omega, rfl, rfl, hT, hB1⟩
  case round =>
    obtain ⟨k, hk, rfl, rfl, hTr, hB⟩ := hrel
    by_cases hlt : k < ss.length
    · obtain ⟨b, off, rfl, hb, hc⟩ := (HR.out.below hB) k hlt
      have hx := HZ.out _ (mem_getS ss k hlt)
      have hf := cat_snoc ss k hlt crcs.ones
      generalize ss[k]?.getD ByteArray.empty = s at hc hx hf
      generalize crcs.adds crcs.ones (cat (ss.take k)) = d at hf
      have HF := Lib.hid hf
      clear hf
      go_wp2_with (go_at_call 37; refine (tadd_any _ _ _ _ hx hTr).mono ?_; rintro e w3 ⟨rfl, hB3⟩)
      go_roundw
      case rel => exact ⟨k + 1, by omega, by go_num, by rw [HF.out], hTr.below hB3, below_then hB hB3⟩
      case measure => simp [intOf]; omega
    · have H := Lib.hid (show ss.take k = ss from List.take_of_length_le (by omega))
      go_wp2_with (go_at_call 19; refine (end_any _ _).mono ?_; rintro e w3 ⟨rfl, rfl⟩)
      go_ret
      exact ⟨ret_int (by rw [H.out]; rfl), hB⟩
set_option maxRecDepth 100000 in
theorem ofr_any (a : Option Addr) (cap : Nat) (ss : List ByteArray) (w : World) (hn : ss.length ≤ 9223372036854775807) (hz : ∀ s ∈ ss, s.size ≤ 9223372036854775807) (hr : ReadsS w a ss) :
    Calls Try.prog 17 #[.slice a ss.length cap] w fun e w' => e = .returned (.int .u32 (wi (crcOf (cat ss)))) ∧ w = w' := by
  have HZ := Lib.hid hz
  have HR := Lib.hid hr
  clear hz hr
  go_enter Try.func17, Try.ntmps17
  go_wp2_with (first
    | (go_at_call 22; refine (startr_any _).mono ?_; rintro e w2 ⟨rfl, rfl⟩))
  go_loop [3, 4] (fun c i => ∃ k : Nat, k ≤ ss.length ∧ i = .int .i64 k ∧ c = .int .u32 (wi (crcs.adds crcs.ones (cat (ss.take k))))) (fun _ i => ss.length - (intOf i).toNat)
  case atStart => exact ⟨0, by omega, rfl, rfl⟩
  case round =>
    obtain ⟨k, hk, rfl, rfl⟩ := hrel
    by_cases hlt : k < ss.length
    · obtain ⟨b, off, rfl, hb, hc⟩ := HR.out k hlt
      have hx := HZ.out _ (mem_getS ss k hlt)
      have hf := cat_snoc ss k hlt crcs.ones
      generalize ss[k]?.getD ByteArray.empty = s at hc hx hf
      generalize crcs.adds crcs.ones (cat (ss.take k)) = d at hf
      have HF := Lib.hid hf
      clear hf
      go_wp2_with (go_at_call 12; refine (addr_any _ _ _ hx).mono ?_; rintro e w3 ⟨rfl, rfl⟩)
      go_round
      case rel => exact ⟨k + 1, by omega, by go_num, by rw [HF.out]⟩
      case measure => simp [intOf]; omega
    · have H := Lib.hid (show ss.take k = ss from List.take_of_length_le (by omega))
      go_wp2_with (go_at_call 20; refine (endr_any _ _).mono ?_; rintro e w3 ⟨rfl, rfl⟩)
      go_ret
      exact ⟨ret_int (by rw [H.out]; rfl), rfl⟩
end Go.Proofs.Ytpdpdmkfgbmdmaa
