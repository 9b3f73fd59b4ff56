/-
  Layer 7: the reference's bad, whole, Begins and Read.
-/
import Derived.Test.YtniimoebgajefaaS07B
namespace Go.Proofs.Ytniimoebgajefaa.s07
set_option linter.unusedVariables false
set_option linter.unusedSimpArgs false
open Go.RowKit
open kit

/-- the byte at a place, 0 behind the end -/
def atB (s : ByteArray) (k : Nat) : Nat := if h : k < s.size then s[k].toNat else 0
theorem at_in {s : ByteArray} {k : Nat} (h : k < s.size) : atB s k = s[k].toNat := dif_pos h
theorem at_out {s : ByteArray} {k : Nat} (h : s.size ≤ k) : atB s k = 0 := dif_neg (by omega)
theorem at_lt (s : ByteArray) (k : Nat) : atB s k ≤ 255 := by
  unfold atB
  split
  · have := s[k].toNat_lt; omega
  · omega
/-- the error of a bad frame with which bytes begin -/
def badR (s : ByteArray) (t : Int) : Int :=
  if s.size = 0 then 0 else if 128 ≤ atB s 0 then 26 else if t < (atB s 0 : Int) then 14 else if s.size = 1 then 0 else if 128 ≤ atB s 1 then 26 else if 24 < atB s 1 then 4 else 0
def wholeR (s : ByteArray) : Bool := decide (2 ≤ s.size ∧ 2 + atB s 1 ≤ s.size)
theorem badR_0 {s : ByteArray} {t : Int} (h : s.size = 0) : badR s t = 0 := by unfold badR; rw [if_pos h]
theorem badR_1 {s : ByteArray} {t : Int} (h : 0 < s.size) (h1 : 128 ≤ s[0].toNat) : badR s t = 26 := by unfold badR; rw [if_neg (by omega), at_in h, if_pos h1]
theorem badR_2 {s : ByteArray} {t : Int} (h : 0 < s.size) (h1 : ¬ 128 ≤ s[0].toNat) (h2 : t < (s[0].toNat : Int)) : badR s t = 14 := by unfold badR; rw [if_neg (by omega), at_in h, if_neg h1, if_pos h2]
theorem badR_3 {s : ByteArray} {t : Int} (h : 0 < s.size) (h1 : ¬ 128 ≤ s[0].toNat) (h2 : ¬ t < (s[0].toNat : Int)) (h3 : s.size = 1) : badR s t = 0 := by unfold badR; rw [if_neg (by omega), at_in h, if_neg h1, if_neg h2, if_pos h3]
theorem badR_4 {s : ByteArray} {t : Int} (h : 0 < s.size) (h1 : ¬ 128 ≤ s[0].toNat) (h2 : ¬ t < (s[0].toNat : Int)) (h3 : 1 < s.size) : badR s t = if 128 ≤ s[1].toNat then 26 else if 24 < s[1].toNat then 4 else 0 := by unfold badR; rw [if_neg (by omega), at_in h, if_neg h1, if_neg h2, if_neg (by omega), at_in h3]
set_option maxRecDepth 100000 in
set_option maxHeartbeats 2000000 in
theorem bad_any (s : ByteArray) (t : Int) (w : World) (hs : s.size ≤ 9223372036854775806) :
    Calls Try.prog 43 #[.string s, .int .i64 t] w fun e w' => e = .returned (.int .i64 (badR s t)) ∧ w = w' := by
  by_cases h0 : s.size = 0
  · have g0 : ¬ (0 : Int) < (s.size : Int) := by omega
    have g1 : ¬ (1 : Int) < (s.size : Int) := by omega
    have HX : Hid (badR s t = 0) := Lib.hid (badR_0 h0)
    go_enter Try.func43, Try.ntmps43
    go_wp2
    go_ret
    exact ⟨ret_int (by rw [HX.out]), rfl⟩
  · have h : 0 < s.size := by omega
    have g0 : (0 : Int) < (s.size : Int) := by omega
    have hb := s[0].toNat_lt
    clear h0
    by_cases h1 : 128 ≤ s[0].toNat
    · have k1 : (128 : Int) ≤ (s[0].toNat : Int) := by omega
      have HX : Hid (badR s t = 26) := Lib.hid (badR_1 h h1)
      go_enter Try.func43, Try.ntmps43
      go_wp2
      go_ret
      exact ⟨ret_int (by rw [HX.out]), rfl⟩
    · have k1 : ¬ (128 : Int) ≤ (s[0].toNat : Int) := by omega
      by_cases h2 : t < (s[0].toNat : Int)
      · have HX : Hid (badR s t = 14) := Lib.hid (badR_2 h h1 h2)
        go_enter Try.func43, Try.ntmps43
        go_wp2
        go_ret
        exact ⟨ret_int (by rw [HX.out]), rfl⟩
      · by_cases h3 : s.size = 1
        · have g1 : ¬ (1 : Int) < (s.size : Int) := by omega
          have HX : Hid (badR s t = 0) := Lib.hid (badR_3 h h1 h2 h3)
          go_enter Try.func43, Try.ntmps43
          go_wp2
          go_ret
          exact ⟨ret_int (by rw [HX.out]), rfl⟩
        · have g1 : (1 : Int) < (s.size : Int) := by omega
          have h4 : 1 < s.size := by omega
          have hx := badR_4 h h1 h2 h4
          have hb1 := s[1].toNat_lt
          clear h3
          by_cases h5 : 128 ≤ s[1].toNat
          · have k5 : (128 : Int) ≤ (s[1].toNat : Int) := by omega
            rw [if_pos h5] at hx
            have hy := Lib.hid hx
            clear hx
            have HX : Hid (badR s t = 26) := Lib.hid (hy.out)
            go_enter Try.func43, Try.ntmps43
            go_wp2
            go_ret
            exact ⟨ret_int (by rw [HX.out]), rfl⟩
          · have k5 : ¬ (128 : Int) ≤ (s[1].toNat : Int) := by omega
            rw [if_neg h5] at hx
            by_cases h6 : 24 < s[1].toNat
            · have k6 : (24 : Int) < (s[1].toNat : Int) := by omega
              rw [if_pos h6] at hx
              have hy := Lib.hid hx
              clear hx
              have HX : Hid (badR s t = 4) := Lib.hid (hy.out)
              go_enter Try.func43, Try.ntmps43
              go_wp2
              go_ret
              exact ⟨ret_int (by rw [HX.out]), rfl⟩
            · have k6 : ¬ (24 : Int) < (s[1].toNat : Int) := by omega
              rw [if_neg h6] at hx
              have hy := Lib.hid hx
              clear hx
              have HX : Hid (badR s t = 0) := Lib.hid (hy.out)
              go_enter Try.func43, Try.ntmps43
              go_wp2
              go_ret
              exact ⟨ret_int (by rw [HX.out]), rfl⟩
set_option maxRecDepth 100000 in
theorem whole_any (s : ByteArray) (w : World) (hs : s.size ≤ 9223372036854775806) (v : Bool) (H : Hid (wholeR s = v)) :
    Calls Try.prog 44 #[.string s] w fun e w' => e = .returned (.bool v) ∧ w = w' := by
  have hv := H.out
  unfold wholeR at hv
  by_cases h2 : 2 ≤ s.size
  · have h1 : 1 < s.size := by omega
    rw [at_in h1] at hv
    have g2 : (2 : Int) ≤ (s.size : Int) := by omega
    have hb := s[1].toNat_lt
    have HV : Hid (decide ((2 : Int) + (s[1].toNat : Int) ≤ (s.size : Int)) = v) := Lib.hid (by rw [← hv]; exact decide_eq_decide.2 (by omega))
    clear hv
    go_enter Try.func44, Try.ntmps44
    go_wp2
    go_ret
    exact ⟨ret_bool HV.out, rfl⟩
  · have HV : Hid (false = v) := Lib.hid (by rw [← hv]; exact (decide_eq_false fun h => h2 h.1).symm)
    have g2 : ¬ (2 : Int) ≤ (s.size : Int) := by omega
    clear hv
    go_enter Try.func44, Try.ntmps44
    go_wp2
    go_ret
    exact ⟨ret_bool HV.out, rfl⟩
end Go.Proofs.Ytniimoebgajefaa.s07
