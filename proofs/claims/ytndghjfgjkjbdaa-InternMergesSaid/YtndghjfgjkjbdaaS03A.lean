/-
  Layer 3: what words and names are; the reference's letter, digit, Word, Language, Check, Small, Capital.
-/
import Derived.Test.YtndghjfgjkjbdaaKit
namespace Go.Proofs.Ytndghjfgjkjbdaa.s03
set_option linter.unusedVariables false
set_option linter.unusedSimpArgs false
open Go.RowKit
open kit

def letterB (n : Nat) : Bool := decide (97 ≤ n ∧ n ≤ 122 ∨ 65 ≤ n ∧ n ≤ 90)
def digitB (n : Nat) : Bool := decide (48 ≤ n ∧ n ≤ 57)
theorem bool_is {p : Prop} [Decidable p] {b : Bool} (h : b = true ↔ p) : b = decide p := by
  cases b
  · rw [decide_eq_false]; simpa using h
  · rw [decide_eq_true]; simpa using h
set_option maxRecDepth 100000 in
theorem letter_any (n : Nat) (h : n < 256) (w : World) : Calls Try.prog 78 #[.int .u8 (n : Int)] w fun e w' => e = .returned (.bool (letterB n)) ∧ w = w' := by
  go_enter Try.func78, Try.ntmps78
  go_wp2
  all_goals
    go_ret
    exact ⟨ret_bool (bool_is (by simp; omega)), rfl⟩
set_option maxRecDepth 100000 in
theorem digit_any (n : Nat) (h : n < 256) (w : World) : Calls Try.prog 79 #[.int .u8 (n : Int)] w fun e w' => e = .returned (.bool (digitB n)) ∧ w = w' := by
  go_enter Try.func79, Try.ntmps79
  go_wp2
  all_goals
    go_ret
    exact ⟨ret_bool (bool_is (by simp; omega)), rfl⟩

/-- may this byte stand there in a word? -/
def fits (l : List UInt8) (i : Nat) : Bool := letterB (l[i]?.getD 0).toNat || (i != 0 && (digitB (l[i]?.getD 0).toNat || (l[i]?.getD 0).toNat == 95))
def form (l : List UInt8) : Bool := (List.range l.length).all (fits l)
/-- what Word answers -/
def wordR (l : List UInt8) : Int := if l = [] then 5 else if form l = false then 3 else if 12 < l.length then 4 else 0
theorem form_no {l : List UInt8} {i : Nat} (hi : i < l.length) (h : fits l i = false) : form l = false := by
  unfold form
  rw [List.all_eq_false]
  exact ⟨i, List.mem_range.2 hi, by rw [h]; decide⟩
theorem form_yes {l : List UInt8} (h : ∀ i, i < l.length → fits l i = true) : form l = true := by
  unfold form
  rw [List.all_eq_true]
  exact fun i hi => h i (List.mem_range.1 hi)
theorem get_byte (s : ByteArray) (k : Nat) (h : k < s.size) : s.data.toList[k]?.getD 0 = s[k] := by
  rw [List.getElem?_eq_getElem (by simpa using h)]; rfl
set_option maxRecDepth 100000 in
set_option maxHeartbeats 1000000 in
theorem wordr_any (s : ByteArray) (w : World) (hs : s.size ≤ 9223372036854775807) : Calls Try.prog 69 #[.string s] w fun e w' => e = .returned (.int .i64 (wordR s.data.toList)) ∧ w = w' := by
  have hl : s.data.toList.length = s.size := by simp
  by_cases he : s.size = 0
  · have h0 : s.data.toList = [] := List.length_eq_zero_iff.1 (by omega)
    have ht : s.toList = [] := by rw [ByteArray.toList_eq]; exact h0
    have ht' : s.toList.isEmpty = true := by rw [ht]; rfl
    have H := Lib.hid (show (5 : Int) = wordR s.data.toList by unfold wordR; rw [if_pos h0])
    clear hl he h0
    go_enter Try.func69, Try.ntmps69
    go_wp2
    go_ret
    exact ⟨ret_int H.out, rfl⟩
  · have h0 : s.data.toList ≠ [] := fun e => by rw [e] at hl; simp at hl; omega
    have ht : s.toList ≠ [] := by rw [ByteArray.toList_eq]; exact h0
    have ht' : s.toList.isEmpty = false := by simpa using ht
    have HN : Hid (∀ i, i < s.size → fits s.data.toList i = false → (3 : Int) = wordR s.data.toList) := Lib.hid fun i hi h => by unfold wordR; rw [if_neg h0, if_pos (form_no (by omega) h)]
    have HY : Hid ((∀ i, i < s.size → fits s.data.toList i = true) → 12 < s.size → (4 : Int) = wordR s.data.toList) := Lib.hid fun h h12 => by
      unfold wordR
      rw [if_neg h0, form_yes (fun i hi => h i (by omega)), if_neg (by decide), hl, if_pos h12]
    have HZ : Hid ((∀ i, i < s.size → fits s.data.toList i = true) → ¬ 12 < s.size → (0 : Int) = wordR s.data.toList) := Lib.hid fun h h12 => by
      unfold wordR
      rw [if_neg h0, form_yes (fun i hi => h i (by omega)), if_neg (by decide), hl, if_neg h12]
    clear hl h0
    go_enter Try.func69, Try.ntmps69
    go_wp2
    go_loop [3] (fun i => ∃ k : Nat, k ≤ s.size ∧ i = .int .i64 k ∧ ∀ j, j < k → fits s.data.toList j = true) (fun i => s.size - (intOf i).toNat)
    case atStart => exact ⟨0, by omega, rfl, fun j hj => by omega⟩
    case round =>
      obtain ⟨k, hk, rfl, hall⟩ := hrel
      have HA := Lib.hid hall
      clear hall
      by_cases hlt : k < s.size
      · have hb := s[k].toNat_lt
        have hf : Hid (fits s.data.toList k = (letterB s[k].toNat || (k != 0 && (digitB s[k].toNat || s[k].toNat == 95)))) := Lib.hid (by unfold fits; rw [get_byte s k hlt])
        cases hL : letterB s[k].toNat
        · by_cases h00 : k = 0
          · subst h00
            have HX := Lib.hid (HN.out 0 hlt (by rw [hf.out, hL]; rfl))
            go_wp2_with (go_at_call 78; refine (letter_any _ hb _).mono ?_; rintro e w1 ⟨rfl, rfl⟩)
            go_ret
            exact ⟨ret_int HX.out, rfl⟩
          · have t0 : ((k : Int) == 0) = false := by rw [beq_eq_false_iff_ne]; omega
            have k0 : (k != 0) = true := by simpa using h00
            have HK0 := Lib.hid k0
            clear k0 h00
            cases hD : digitB s[k].toNat
            · by_cases h95 : s[k].toNat = 95
              · have t95 : ((s[k].toNat : Int) != 95) = false := by rw [bne_eq_false_iff_eq]; omega
                have HX : Hid (fits s.data.toList k = true) := Lib.hid (by rw [hf.out, hL, HK0.out, hD, h95]; rfl)
                clear h95
                go_wp2_with (first
                  | (go_at_call 78; refine (letter_any _ hb _).mono ?_; rintro e w1 ⟨rfl, rfl⟩)
                  | (go_at_call 79; refine (digit_any _ hb _).mono ?_; rintro e w1 ⟨rfl, rfl⟩))
                go_round
                case rel => exact ⟨k + 1, by omega, by go_num, fun j hj => by
                  by_cases e : j = k
                  · subst e; exact HX.out
                  · exact HA.out j (by omega)⟩
                case measure => simp [intOf]; omega
              · have t95 : ((s[k].toNat : Int) != 95) = true := by rw [bne_iff_ne]; omega
                have HX := Lib.hid (HN.out k hlt (by rw [hf.out, hL, HK0.out, hD]; simpa using h95))
                clear h95
                go_wp2_with (first
                  | (go_at_call 78; refine (letter_any _ hb _).mono ?_; rintro e w1 ⟨rfl, rfl⟩)
                  | (go_at_call 79; refine (digit_any _ hb _).mono ?_; rintro e w1 ⟨rfl, rfl⟩))
                go_ret
                exact ⟨ret_int HX.out, rfl⟩
            · have HX : Hid (fits s.data.toList k = true) := Lib.hid (by rw [hf.out, hL, HK0.out, hD]; rfl)
              go_wp2_with (first
                | (go_at_call 78; refine (letter_any _ hb _).mono ?_; rintro e w1 ⟨rfl, rfl⟩)
                | (go_at_call 79; refine (digit_any _ hb _).mono ?_; rintro e w1 ⟨rfl, rfl⟩))
              go_round
              case rel => exact ⟨k + 1, by omega, by go_num, fun j hj => by
                by_cases e : j = k
                · subst e; exact HX.out
                · exact HA.out j (by omega)⟩
              case measure => simp [intOf]; omega
        · go_wp2_with (go_at_call 78; refine (letter_any _ hb _).mono ?_; rintro e w1 ⟨rfl, rfl⟩)
          go_round
          case rel => exact ⟨k + 1, by omega, by go_num, fun j hj => by
            by_cases e : j = k
            · subst e; rw [hf.out, hL]; rfl
            · exact HA.out j (by omega)⟩
          case measure => simp [intOf]; omega
      · have hk2 : k = s.size := by omega
        subst hk2
        have hY := HY.out HA.out
        have hZ := HZ.out HA.out
        by_cases h12 : 12 < s.size
        · have HX := Lib.hid (hY h12)
          clear hY hZ
          go_wp2
          go_ret
          exact ⟨ret_int HX.out, rfl⟩
        · have HX := Lib.hid (hZ h12)
          clear hY hZ
          go_wp2
          go_ret
          exact ⟨ret_int HX.out, rfl⟩

/-- what Language answers -/
def langB (l : List UInt8) : Bool := l == [108, 111, 111, 107, 97, 104, 101, 97, 100] || (l == [116, 111, 107, 101, 110] || (l == [115, 101, 112, 97, 114, 97, 116, 111, 114] || l == [115, 116, 97, 114, 116]))
set_option maxRecDepth 100000 in
theorem langr_any (s : ByteArray) (w : World) : Calls Try.prog 70 #[.string s] w fun e w' => e = .returned (.bool (langB s.toList)) ∧ w = w' := by
  go_enter Try.func70, Try.ntmps70
  go_wp2
  all_goals
    go_ret
    exact ⟨ret_bool (by simp [langB, Bool.or_assoc, *]), rfl⟩
/-- what Check answers -/
def checkR (l : List UInt8) : Int := if wordR l = 0 ∧ langB l = true then 12 else wordR l
theorem checkr_any (s : ByteArray) (w : World) (hs : s.size ≤ 9223372036854775807) : Calls Try.prog 43 #[.string s] w fun e w' => e = .returned (.int .i64 (checkR s.data.toList)) ∧ w = w' := by
  have H := Lib.hid (show checkR s.data.toList = if wordR s.data.toList = 0 ∧ langB s.data.toList = true then 12 else wordR s.data.toList from rfl)
  have HW := fun w => Lib.hid (wordr_any s w hs)
  have HL := fun w => Lib.hid (langr_any s w)
  rw [ByteArray.toList_eq] at HL
  generalize wordR s.data.toList = e at H HW
  generalize langB s.data.toList = b at H HL
  generalize checkR s.data.toList = r at H
  by_cases he : e = 0
  · subst he
    cases b
    · have HX : Hid ((0 : Int) = r) := Lib.hid (by rw [H.out, if_neg (by simp)])
      go_enter Try.func43, Try.ntmps43
      go_wp2_with (first
        | (go_at_call 69; refine ((HW _).out).mono ?_; rintro e w1 ⟨rfl, rfl⟩)
        | (go_at_call 70; refine ((HL _).out).mono ?_; rintro e w1 ⟨rfl, rfl⟩))
      go_ret
      exact ⟨ret_int HX.out, rfl⟩
    · have HX : Hid ((12 : Int) = r) := Lib.hid (by rw [H.out, if_pos ⟨rfl, rfl⟩])
      go_enter Try.func43, Try.ntmps43
      go_wp2_with (first
        | (go_at_call 69; refine ((HW _).out).mono ?_; rintro e w1 ⟨rfl, rfl⟩)
        | (go_at_call 70; refine ((HL _).out).mono ?_; rintro e w1 ⟨rfl, rfl⟩))
      go_ret
      exact ⟨ret_int HX.out, rfl⟩
  · have te : (e == 0) = false := by rw [beq_eq_false_iff_ne]; exact he
    have HX : Hid (e = r) := Lib.hid (by rw [H.out, if_neg (fun h => he h.1)])
    clear he
    go_enter Try.func43, Try.ntmps43
    go_wp2_with (go_at_call 69; refine ((HW _).out).mono ?_; rintro e w1 ⟨rfl, rfl⟩)
    go_ret
    exact ⟨ret_int HX.out, rfl⟩
/-- is that a small name, a capital one? -/
def kindB (lo hi : Nat) (l : List UInt8) : Bool := checkR l == 0 && decide (lo ≤ (l[0]?.getD 0).toNat ∧ (l[0]?.getD 0).toNat ≤ hi)
theorem check_pos {s : ByteArray} (h : checkR s.data.toList = 0) : 0 < s.size := by
  rcases Nat.eq_zero_or_pos s.size with h0 | h0
  · have : s.data.toList = [] := List.length_eq_zero_iff.1 (by simpa using h0)
    rw [this] at h
    exact absurd h (by decide)
  · exact h0
theorem kind_no {lo hi : Nat} {l : List UInt8} (h : checkR l ≠ 0) : kindB lo hi l = false := by
  unfold kindB
  rw [beq_eq_false_iff_ne.2 h]; rfl
theorem kind_yes {lo hi : Nat} {s : ByteArray} (h : checkR s.data.toList = 0) (hp : 0 < s.size) : kindB lo hi s.data.toList = decide (lo ≤ s[0].toNat ∧ s[0].toNat ≤ hi) := by
  unfold kindB
  rw [h, get_byte s 0 hp]; rfl
end Go.Proofs.Ytndghjfgjkjbdaa.s03
