/-
  Layer 3: the program's letter, digit and their kin; Word: a range over the runes of a string.
-/
import Derived.Test.YtndghjfgjkjbdaaS03A
import Derived.Laws.RangeAny
namespace Go.Proofs.Ytndghjfgjkjbdaa.s03
set_option linter.unusedVariables false
set_option linter.unusedSimpArgs false
open Go.RowKit
open kit

def smallB (n : Nat) : Bool := decide (97 ≤ n ∧ n ≤ 122)
def capB (n : Nat) : Bool := decide (65 ≤ n ∧ n ≤ 90)
theorem letter_or (n : Nat) : letterB n = (smallB n || capB n) := by
  unfold letterB smallB capB
  by_cases h1 : 97 ≤ n ∧ n ≤ 122
  · rw [decide_eq_true h1, decide_eq_true (Or.inl h1)]; rfl
  · by_cases h2 : 65 ≤ n ∧ n ≤ 90
    · rw [decide_eq_true h2, decide_eq_true (Or.inr h2)]; simp
    · rw [decide_eq_false h1, decide_eq_false h2, decide_eq_false (by omega)]; rfl
set_option maxRecDepth 100000 in
theorem smallp_any (n : Nat) (h : n ≤ 2147483647) (w : World) : Calls Try.prog 80 #[.int .i32 (n : Int)] w fun e w' => e = .returned (.bool (smallB n)) ∧ w = w' := by
  go_enter Try.func80, Try.ntmps80
  go_wp2
  all_goals
    go_ret
    exact ⟨ret_bool (bool_is (by simp; omega)), rfl⟩
set_option maxRecDepth 100000 in
theorem capp_any (n : Nat) (h : n ≤ 2147483647) (w : World) : Calls Try.prog 81 #[.int .i32 (n : Int)] w fun e w' => e = .returned (.bool (capB n)) ∧ w = w' := by
  go_enter Try.func81, Try.ntmps81
  go_wp2
  all_goals
    go_ret
    exact ⟨ret_bool (bool_is (by simp; omega)), rfl⟩
set_option maxRecDepth 100000 in
theorem digitp_any (n : Nat) (h : n ≤ 2147483647) (w : World) : Calls Try.prog 76 #[.int .i32 (n : Int)] w fun e w' => e = .returned (.bool (digitB n)) ∧ w = w' := by
  go_enter Try.func76, Try.ntmps76
  go_wp2
  all_goals
    go_ret
    exact ⟨ret_bool (bool_is (by simp; omega)), rfl⟩
set_option maxRecDepth 100000 in
theorem letterp_any (n : Nat) (h : n ≤ 2147483647) (w : World) : Calls Try.prog 75 #[.int .i32 (n : Int)] w fun e w' => e = .returned (.bool (letterB n)) ∧ w = w' := by
  have HL := Lib.hid (letter_or n)
  have HS := fun w => Lib.hid (smallp_any n h w)
  have HC := fun w => Lib.hid (capp_any n h w)
  generalize letterB n = r at HL
  generalize smallB n = s at HL HS
  generalize capB n = c at HL HC
  cases s <;> cases c
  all_goals
    go_enter Try.func75, Try.ntmps75
    go_wp2_with (first
      | (go_at_call 80; refine ((HS _).out).mono ?_; rintro e w1 ⟨rfl, rfl⟩)
      | (go_at_call 81; refine ((HC _).out).mono ?_; rintro e w1 ⟨rfl, rfl⟩))
    go_ret
    exact ⟨ret_bool HL.out.symm, rfl⟩
theorem letter_high {n : Nat} (h : 128 ≤ n) : letterB n = false := decide_eq_false (by omega)
theorem digit_high {n : Nat} (h : 128 ≤ n) : digitB n = false := decide_eq_false (by omega)
theorem below_iter (w : World) (s : ByteArray) (k : Nat) : Below w.heap.size w (w.iter s k) := (Below.refl _ w).alloc (Nat.le_refl _) _

set_option maxRecDepth 100000 in
set_option maxHeartbeats 1000000 in
theorem word_any (s : ByteArray) (w : World) (hs : s.size ≤ 9223372036854775807) : Calls Try.prog 66 #[.string s] w fun e w' => e = .returned (.int .i64 (wordR s.data.toList)) ∧ Below w.heap.size w w' := by
  have hl : s.data.toList.length = s.size := by simp
  by_cases he : s.size = 0
  · have h0 : s.data.toList = [] := List.length_eq_zero_iff.1 (by omega)
    have ht : s.toList = [] := by rw [ByteArray.toList_eq]; exact h0
    have ht' : s.toList.isEmpty = true := by rw [ht]; rfl
    have H := Lib.hid (show (5 : Int) = wordR s.data.toList by unfold wordR; rw [if_pos h0])
    clear hl he h0
    go_enter Try.func66, Try.ntmps66
    go_wp2
    go_ret
    exact ⟨ret_int H.out, Below.refl _ _⟩
  · have h0 : s.data.toList ≠ [] := fun e => by rw [e] at hl; simp at hl; omega
    have ht : s.toList ≠ [] := by rw [ByteArray.toList_eq]; exact h0
    have ht' : s.toList.isEmpty = false := by simpa using ht
    have HN : Hid (∀ i, i < s.size → fits s.data.toList i = false → (3 : Int) = wordR s.data.toList) := Lib.hid fun i hi h => by unfold wordR; rw [if_neg h0, if_pos (form_no (by omega) h)]
    have HY : Hid ((∀ i, i < s.size → fits s.data.toList i = true) → 12 < s.size → (4 : Int) = wordR s.data.toList) := Lib.hid fun h h12 => by
      unfold wordR
      rw [if_neg h0, form_yes (fun i hi => h i (by omega)), if_neg (by decide), hl, if_pos h12]
    have HZ : Hid ((∀ i, i < s.size → fits s.data.toList i = true) → ¬ 12 < s.size → (0 : Int) = wordR s.data.toList) := Lib.hid fun h h12 => by
      unfold wordR
      rw [if_neg h0, form_yes (fun i hi => h i (by omega)), if_neg (by decide), hl, if_neg h12]
    have KB := fun k => below_iter w s k
    clear hl h0
    go_enter Try.func66, Try.ntmps66
    go_wp2
    go_loopw [] (fun wr => ∃ k : Nat, k ≤ s.size ∧ wr = w.iter s k ∧ ∀ j, j < k → fits s.data.toList j = true) (fun wr => s.size - wr.iterPos w.heap.size)
    case atStart => exact ⟨0, by omega, rfl, fun j hj => by omega⟩
    case round =>
      obtain ⟨k, hk, rfl, hall⟩ := hrel
      have HA := Lib.hid hall
      clear hall
      have K0 := KB k
      by_cases hlt : k < s.size
      · have hb := s[k].toNat_lt
        have hf : Hid (fits s.data.toList k = (letterB s[k].toNat || (k != 0 && (digitB s[k].toNat || s[k].toNat == 95)))) := Lib.hid (by unfold fits; rw [get_byte s k hlt])
        have K1 := KB (k + 1)
        by_cases hasc : s[k].toNat < 128
        · have hnx : ∀ ty, (Instr.next (.pointer (some ⟨w.heap.size, 0, none⟩)) true ty).run Try.prog (w.iter s k) = _ := fun ty => run_next_ascii w s k ty hlt hasc
          have hM : (k + 1) ≤ s.size := hlt
          cases hL : letterB s[k].toNat
          · by_cases h00 : k = 0
            · subst h00
              have HX := Lib.hid (HN.out 0 hlt (by rw [hf.out, hL]; rfl))
              have HLe := fun w => Lib.hid (letterp_any s[0].toNat (by omega) w)
              rw [hL] at HLe
              go_wp2_with (go_at_call 75; refine ((HLe _).out).mono ?_; rintro e w1 ⟨rfl, rfl⟩)
              go_ret
              exact ⟨ret_int HX.out, K1⟩
            · have t0 : ((k : Int) == 0) = false := by rw [beq_eq_false_iff_ne]; omega
              have k0 : (k != 0) = true := by simpa using h00
              have HK0 := Lib.hid k0
              have HLe := fun w => Lib.hid (letterp_any s[k].toNat (by omega) w)
              have HDe := fun w => Lib.hid (digitp_any s[k].toNat (by omega) w)
              rw [hL] at HLe
              clear k0 h00
              cases hD : digitB s[k].toNat
              · rw [hD] at HDe
                by_cases h95 : s[k].toNat = 95
                · have t95 : ((s[k].toNat : Int) != 95) = false := by rw [bne_eq_false_iff_eq]; omega
                  have HX : Hid (fits s.data.toList k = true) := Lib.hid (by rw [hf.out, hL, HK0.out, hD, h95]; rfl)
                  clear h95
                  go_wp2_with (first
                    | (go_at_call 75; refine ((HLe _).out).mono ?_; rintro e w1 ⟨rfl, rfl⟩)
                    | (go_at_call 76; refine ((HDe _).out).mono ?_; rintro e w1 ⟨rfl, rfl⟩))
                  go_roundw
                  case rel => exact ⟨k + 1, hM, rfl, fun j hj => by
                    by_cases e : j = k
                    · subst e; exact HX.out
                    · exact HA.out j (by omega)⟩
                  case measure => simp; omega
                · have t95 : ((s[k].toNat : Int) != 95) = true := by rw [bne_iff_ne]; omega
                  have HX := Lib.hid (HN.out k hlt (by rw [hf.out, hL, HK0.out, hD]; simpa using h95))
                  clear h95
                  go_wp2_with (first
                    | (go_at_call 75; refine ((HLe _).out).mono ?_; rintro e w1 ⟨rfl, rfl⟩)
                    | (go_at_call 76; refine ((HDe _).out).mono ?_; rintro e w1 ⟨rfl, rfl⟩))
                  go_ret
                  exact ⟨ret_int HX.out, K1⟩
              · rw [hD] at HDe
                have HX : Hid (fits s.data.toList k = true) := Lib.hid (by rw [hf.out, hL, HK0.out, hD]; rfl)
                go_wp2_with (first
                  | (go_at_call 75; refine ((HLe _).out).mono ?_; rintro e w1 ⟨rfl, rfl⟩)
                  | (go_at_call 76; refine ((HDe _).out).mono ?_; rintro e w1 ⟨rfl, rfl⟩))
                go_roundw
                case rel => exact ⟨k + 1, hM, rfl, fun j hj => by
                  by_cases e : j = k
                  · subst e; exact HX.out
                  · exact HA.out j (by omega)⟩
                case measure => simp; omega
          · have HLe := fun w => Lib.hid (letterp_any s[k].toNat (by omega) w)
            rw [hL] at HLe
            go_wp2_with (go_at_call 75; refine ((HLe _).out).mono ?_; rintro e w1 ⟨rfl, rfl⟩)
            go_roundw
            case rel => exact ⟨k + 1, hM, rfl, fun j hj => by
              by_cases e : j = k
              · subst e; rw [hf.out, hL]; rfl
              · exact HA.out j (by omega)⟩
            case measure => simp; omega
        · have hnx0 : ∀ ty, (Instr.next (.pointer (some ⟨w.heap.size, 0, none⟩)) true ty).run Try.prog (w.iter s k) = _ := fun ty => run_next_any w s k ty hlt
          have hh := (decode_high s k hlt (by omega)).1
          have hr := decode_le s k
          have HX := Lib.hid (HN.out k hlt (by
            rw [hf.out, letter_high (n := s[k].toNat) (by omega), digit_high (n := s[k].toNat) (by omega), beq_eq_false_iff_ne.2 (by omega : s[k].toNat ≠ 95)]
            simp))
          have K2 := KB (k + (Utf8.decode s k).2)
          generalize k + (Utf8.decode s k).2 = q at hnx0 K2
          generalize (Utf8.decode s k).1 = r at hnx0 hh hr
          have HLe := fun w => Lib.hid (letterp_any r hr w)
          have HDe := fun w => Lib.hid (digitp_any r hr w)
          rw [letter_high hh] at HLe
          rw [digit_high hh] at HDe
          have t95 : ((r : Int) != 95) = true := by rw [bne_iff_ne]; omega
          clear hasc hf
          by_cases h00 : k = 0
          · subst h00
            go_wp2_with (first
              | (go_at_call 75; refine ((HLe _).out).mono ?_; rintro e w1 ⟨rfl, rfl⟩)
              | (go_at_call 76; refine ((HDe _).out).mono ?_; rintro e w1 ⟨rfl, rfl⟩))
            go_ret
            exact ⟨ret_int HX.out, K2⟩
          · have t0 : ((k : Int) == 0) = false := by rw [beq_eq_false_iff_ne]; omega
            clear h00
            go_wp2_with (first
              | (go_at_call 75; refine ((HLe _).out).mono ?_; rintro e w1 ⟨rfl, rfl⟩)
              | (go_at_call 76; refine ((HDe _).out).mono ?_; rintro e w1 ⟨rfl, rfl⟩))
            go_ret
            exact ⟨ret_int HX.out, K2⟩
      · have hk2 : k = s.size := by omega
        have hnx : ∀ ty, (Instr.next (.pointer (some ⟨w.heap.size, 0, none⟩)) true ty).run Try.prog (w.iter s k) = _ := fun ty => run_next_end w s k ty hlt
        have hY := HY.out (fun i hi => HA.out i (by omega))
        have hZ := HZ.out (fun i hi => HA.out i (by omega))
        by_cases h12 : 12 < s.size
        · have HX := Lib.hid (hY h12)
          clear hY hZ hk2 hk
          go_wp2
          go_ret
          exact ⟨ret_int HX.out, K0⟩
        · have HX := Lib.hid (hZ h12)
          clear hY hZ hk2 hk
          go_wp2
          go_ret
          exact ⟨ret_int HX.out, K0⟩
end Go.Proofs.Ytndghjfgjkjbdaa.s03
