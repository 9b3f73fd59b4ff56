/-
  The contracts of Seal and Open, of the program and of the reference.
-/
import Derived.Test.YtpdpdmkfgbmdmaaWalksE
import Derived.Deep.RegionWith
namespace Go.Proofs.Ytpdpdmkfgbmdmaa
set_option linter.unusedSimpArgs false
set_option linter.unusedVariables false
open Go.RowKit
open crcs (W)

/-- a string's CRC -/
def crcS (s : ByteArray) : W := crcOf s.data.toList
/-- a string's seal -/
def sealOf (s : ByteArray) : ByteArray := ⟨(crcs.four (crcOf s.data.toList)).toArray⟩
theorem sealOf_size (s : ByteArray) : (sealOf s).size = 4 := rfl
theorem seal_any' (s : ByteArray) (w : World) (hs : s.size ≤ 9223372036854775807) : Calls Try.prog 40 #[.string s] w fun e w' => e = .returned (.string (sealOf s)) ∧ Below w.heap.size w w' := seal_any s w hs
theorem four_of_any (s : ByteArray) (w : World) : Calls Try.prog 41 #[.int .u32 (wi (crcS s))] w fun e w' => e = .returned (.string (sealOf s)) ∧ Below w.heap.size w w' := fourr_any _ w
/-- what Seal answers: string, error -/
def sealR (s : ByteArray) : ByteArray × Int := if 20000 < s.size then (⟨#[]⟩, 4) else (s ++ sealOf s, 0)
/-- what Open answers -/
def openR (s : ByteArray) : ByteArray × Int :=
  if 20004 < s.size then (⟨#[]⟩, 4) else if s.size < 4 then (⟨#[]⟩, 5)
  else if s.extract (s.size - 4) s.size = sealOf (s.extract 0 (s.size - 4)) then (s.extract 0 (s.size - 4), 0) else (⟨#[]⟩, 13)

theorem Seal_any (s x : ByteArray) (er : Int) (w : World) (hs : s.size ≤ 9223372036854775807) (H : Hid (sealR s = (x, er))) :
    Calls Try.prog 23 #[.string s] w fun e w' => e = .returned (.tuple #[.string x, .int .i64 er]) ∧ Below w.heap.size w w' := by
  have h := H.out
  unfold sealR at h
  by_cases hb : 20000 < s.size
  · rw [if_pos hb] at h; cases h
    clear H
    go_enter Try.func23, Try.ntmps23
    go_wp2
    go_ret2
    exact ⟨rfl, Below.refl _ _⟩
  · rw [if_neg hb] at h; cases h
    clear H
    have hz : s.size + (sealOf s).size ≤ 9223372036854775807 := by rw [sealOf_size]; omega
    go_enter Try.func23, Try.ntmps23
    go_wp2_with (go_at_call 40; refine (seal_any' s _ hs).mono ?_; rintro e w1 ⟨rfl, hB1⟩)
    go_ret2
    exact ⟨rfl, hB1⟩
theorem ofr_oneS (s : ByteArray) (W0 : World) (hs : s.size ≤ 9223372036854775807) :
    Calls Try.prog 17 #[.slice (some ⟨W0.heap.size, 0, none⟩) 1 1] (W0.alloc (.cells #[.string s] 9)) fun e w' => e = .returned (.int .u32 (wi (crcS s))) ∧ Below W0.heap.size W0 w' := ofr_one s W0 _ rfl hs
theorem Sealr_any (s x : ByteArray) (er : Int) (w : World) (hs : s.size ≤ 9223372036854775807) (H : Hid (sealR s = (x, er))) :
    Calls Try.prog 24 #[.string s] w fun e w' => e = .returned (.tuple #[.string x, .int .i64 er]) ∧ Below w.heap.size w w' := by
  have h := H.out
  unfold sealR at h
  by_cases hb : 20000 < s.size
  · rw [if_pos hb] at h; cases h
    clear H
    go_enter Try.func24, Try.ntmps24
    go_wp2
    go_ret2
    exact ⟨rfl, Below.refl _ _⟩
  · rw [if_neg hb] at h; cases h
    clear H
    have hz : s.size + (sealOf s).size ≤ 9223372036854775807 := by rw [sealOf_size]; omega
    go_enter Try.func24, Try.ntmps24
    go_wp2_with (first
      | (go_at_call 17; refine (ofr_oneS s w hs).mono ?_; rintro e w1 ⟨rfl, hB1⟩)
      | (go_at_call 41; refine (four_of_any s _).mono ?_; rintro e w2 ⟨rfl, hB2⟩))
    go_ret2
    exact ⟨rfl, below_then hB1 hB2⟩

theorem bytes_ext {a b : ByteArray} (h : a.data.toList = b.data.toList) : a = b := by
  cases a; cases b; simp only at h; rw [Array.toList_inj.1 h]
theorem str_beq_true {a b : ByteArray} (h : a = b) : (a.toList == b.toList) = true := by rw [h]; exact beq_self_eq_true _
theorem str_beq_false {a b : ByteArray} (h : ¬ a = b) : (a.toList == b.toList) = false := by
  rw [beq_eq_false_iff_ne]
  intro e
  rw [ByteArray.toList_eq, ByteArray.toList_eq] at e
  exact h (bytes_ext e)
theorem below_drew_in {w w1 : World} (h : Below w.drew.heap.size w.drew w1) : Below w.heap.size w w1 := (Below.refl w.heap.size w).drew.trans h

theorem open_no (s : ByteArray) (m : Nat) (w : World) (hs : s.size ≤ 20004) (hm : s.size = m + 4) (h : ¬ s.extract m s.size = sealOf (s.extract 0 m)) :
    Calls Try.prog 25 #[.string s] w fun e w' => e = .returned (.tuple #[.string ⟨#[]⟩, .int .i64 13]) ∧ Below w.heap.size w w' := by
  have h1 : m ≤ s.size := by omega
  have h2 : (4 : Int) ≤ s.size := by omega
  have h3 : (s.size : Int) - 4 = m := by omega
  have h4 : (s.size : Int) ≤ 20004 := by omega
  have ht := str_beq_false h
  clear hm h
  have hx : (s.extract 0 m).size ≤ 9223372036854775807 := by rw [ByteArray.size_extract]; omega
  go_enter Try.func25, Try.ntmps25
  go_wp2
  go_region_with (go_at_call 40; refine (seal_any' _ _ hx).mono ?_; rintro e w1 ⟨rfl, hB1⟩)
  go_wp2
  go_ret2
  exact ⟨rfl, below_drew_in hB1⟩
theorem open_yes (s : ByteArray) (m : Nat) (w : World) (hs : s.size ≤ 20004) (hm : s.size = m + 4) (h : s.extract m s.size = sealOf (s.extract 0 m)) :
    Calls Try.prog 25 #[.string s] w fun e w' => e = .returned (.tuple #[.string (s.extract 0 m), .int .i64 0]) ∧ Below w.heap.size w w' := by
  have h1 : m ≤ s.size := by omega
  have h2 : (4 : Int) ≤ s.size := by omega
  have h3 : (s.size : Int) - 4 = m := by omega
  have h4 : (s.size : Int) ≤ 20004 := by omega
  have ht := str_beq_true h
  clear hm h
  have hx : (s.extract 0 m).size ≤ 9223372036854775807 := by rw [ByteArray.size_extract]; omega
  go_enter Try.func25, Try.ntmps25
  go_wp2
  go_region_with (go_at_call 40; refine (seal_any' _ _ hx).mono ?_; rintro e w1 ⟨rfl, hB1⟩)
  go_wp2
  go_ret2
  exact ⟨rfl, below_drew_in hB1⟩
theorem ofr_drew (s : ByteArray) (W0 : World) (hs : s.size ≤ 9223372036854775807) :
    Calls Try.prog 17 #[.slice (some ⟨W0.heap.size, 0, none⟩) 1 1] (W0.alloc (.cells #[.string s] 9)).drew fun e w' => e = .returned (.int .u32 (wi (crcS s))) ∧ Below W0.heap.size W0 w' := by
  have h0 : ReadsS (W0.alloc (.cells #[.string s] 9)).drew (some ⟨W0.heap.size, 0, none⟩) [s] := reads_one W0 s
  exact (ofr_any _ 1 [s] _ (by simp) (by simpa using hs) h0).mono fun e w' ⟨h, hB⟩ => ⟨by rw [cat_one] at h; exact h, hB ▸ ((Below.refl _ W0).alloc (Nat.le_refl _) _).drew⟩
set_option maxHeartbeats 1000000 in
theorem openr_no (s : ByteArray) (m : Nat) (w : World) (hs : s.size ≤ 20004) (hm : s.size = m + 4) (h : ¬ s.extract m s.size = sealOf (s.extract 0 m)) :
    Calls Try.prog 26 #[.string s] w fun e w' => e = .returned (.tuple #[.string ⟨#[]⟩, .int .i64 13]) ∧ Below w.heap.size w w' := by
  have h1 : m ≤ s.size := by omega
  have h2 : (4 : Int) ≤ s.size := by omega
  have h3 : (s.size : Int) - 4 = m := by omega
  have h4 : (s.size : Int) ≤ 20004 := by omega
  have h5 : (m : Int) ≤ 20000 := by omega
  have ht := str_beq_false h
  clear hm h
  have hx : (s.extract 0 m).size ≤ 9223372036854775807 := by rw [ByteArray.size_extract]; omega
  go_enter Try.func26, Try.ntmps26
  go_wp2
  go_region_with (first
      | (go_at_call 17; (with_reducible refine (ofr_drew (s.extract 0 m) w hx).mono ?_); rintro e w1 ⟨rfl, hB1⟩)
      | (go_at_call 41; (with_reducible refine (four_of_any (s.extract 0 m) _).mono ?_); rintro e w2 ⟨rfl, hB2⟩))
  go_wp2
  go_ret2
  exact ⟨rfl, below_then hB1 hB2⟩
set_option maxHeartbeats 1000000 in
theorem openr_yes (s : ByteArray) (m : Nat) (w : World) (hs : s.size ≤ 20004) (hm : s.size = m + 4) (h : s.extract m s.size = sealOf (s.extract 0 m)) :
    Calls Try.prog 26 #[.string s] w fun e w' => e = .returned (.tuple #[.string (s.extract 0 m), .int .i64 0]) ∧ Below w.heap.size w w' := by
  have h1 : m ≤ s.size := by omega
  have h2 : (4 : Int) ≤ s.size := by omega
  have h3 : (s.size : Int) - 4 = m := by omega
  have h4 : (s.size : Int) ≤ 20004 := by omega
  have h5 : (m : Int) ≤ 20000 := by omega
  have ht := str_beq_true h
  clear hm h
  have hx : (s.extract 0 m).size ≤ 9223372036854775807 := by rw [ByteArray.size_extract]; omega
  go_enter Try.func26, Try.ntmps26
  go_wp2
  go_region_with (first
      | (go_at_call 17; (with_reducible refine (ofr_drew (s.extract 0 m) w hx).mono ?_); rintro e w1 ⟨rfl, hB1⟩)
      | (go_at_call 41; (with_reducible refine (four_of_any (s.extract 0 m) _).mono ?_); rintro e w2 ⟨rfl, hB2⟩))
  go_wp2
  go_ret2
  exact ⟨rfl, below_then hB1 hB2⟩
theorem open_any (s x : ByteArray) (er : Int) (w : World) (hs : s.size ≤ 9223372036854775807) (H : Hid (openR s = (x, er))) :
    Calls Try.prog 25 #[.string s] w fun e w' => e = .returned (.tuple #[.string x, .int .i64 er]) ∧ Below w.heap.size w w' := by
  have h := H.out
  clear H
  unfold openR at h
  by_cases hb : 20004 < s.size
  · rw [if_pos hb] at h; cases h
    go_enter Try.func25, Try.ntmps25
    go_wp2
    go_ret2
    exact ⟨rfl, Below.refl _ _⟩
  · rw [if_neg hb] at h
    by_cases hl : s.size < 4
    · rw [if_pos hl] at h; cases h
      go_enter Try.func25, Try.ntmps25
      go_wp2
      go_ret2
      exact ⟨rfl, Below.refl _ _⟩
    · rw [if_neg hl] at h
      by_cases hq : s.extract (s.size - 4) s.size = sealOf (s.extract 0 (s.size - 4))
      · rw [if_pos hq] at h; cases h
        exact open_yes s (s.size - 4) w (by omega) (by omega) hq
      · rw [if_neg hq] at h; cases h
        exact open_no s (s.size - 4) w (by omega) (by omega) hq
theorem openr_any (s x : ByteArray) (er : Int) (w : World) (hs : s.size ≤ 9223372036854775807) (H : Hid (openR s = (x, er))) :
    Calls Try.prog 26 #[.string s] w fun e w' => e = .returned (.tuple #[.string x, .int .i64 er]) ∧ Below w.heap.size w w' := by
  have h := H.out
  clear H
  unfold openR at h
  by_cases hb : 20004 < s.size
  · rw [if_pos hb] at h; cases h
    go_enter Try.func26, Try.ntmps26
    go_wp2
    go_ret2
    exact ⟨rfl, Below.refl _ _⟩
  · rw [if_neg hb] at h
    by_cases hl : s.size < 4
    · rw [if_pos hl] at h; cases h
      go_enter Try.func26, Try.ntmps26
      go_wp2
      go_ret2
      exact ⟨rfl, Below.refl _ _⟩
    · rw [if_neg hl] at h
      by_cases hq : s.extract (s.size - 4) s.size = sealOf (s.extract 0 (s.size - 4))
      · rw [if_pos hq] at h; cases h
        exact openr_yes s (s.size - 4) w (by omega) (by omega) hq
      · rw [if_neg hq] at h; cases h
        exact openr_no s (s.size - 4) w (by omega) (by omega) hq
end Go.Proofs.Ytpdpdmkfgbmdmaa
