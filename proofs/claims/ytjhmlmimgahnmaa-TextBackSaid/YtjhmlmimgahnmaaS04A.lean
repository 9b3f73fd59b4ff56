/-
  Layer 4: lexemes, blanks and remarks (of no program); the reference's classes of bytes and pass.
-/
import Derived.Test.YtjhmlmimgahnmaaKit
namespace Go.Proofs.Ytjhmlmimgahnmaa.s04
set_option linter.unusedVariables false
set_option linter.unusedSimpArgs false
open Go.RowKit
open kit

def blankB (n : Nat) : Bool := decide (n = 32 ∨ n = 9 ∨ n = 10 ∨ n = 13)
def letterB (n : Nat) : Bool := decide (97 ≤ n ∧ n ≤ 122 ∨ 65 ≤ n ∧ n ≤ 90)
def digitB (n : Nat) : Bool := decide (48 ≤ n ∧ n ≤ 57)
def signB (n : Nat) : Bool := decide (n = 61 ∨ n = 124 ∨ n = 59 ∨ n = 44)
def wordB (n : Nat) : Bool := letterB n || (digitB n || n == 95)
theorem bool_is {p : Prop} [Decidable p] {b : Bool} (h : b = true ↔ p) : b = decide p := by
  cases b
  · rw [decide_eq_false]; simpa using h
  · rw [decide_eq_true]; simpa using h
set_option maxRecDepth 100000 in
theorem blank_any (n : Nat) (h : n < 256) (w : World) : Calls Try.prog 32 #[.int .u8 (n : Int)] w fun e w' => e = .returned (.bool (blankB n)) ∧ w = w' := by
  go_enter Try.func32, Try.ntmps32
  go_wp2
  all_goals
    go_ret
    exact ⟨ret_bool (bool_is (by simp; omega)), rfl⟩
set_option maxRecDepth 100000 in
theorem letter_any (n : Nat) (h : n < 256) (w : World) : Calls Try.prog 34 #[.int .u8 (n : Int)] w fun e w' => e = .returned (.bool (letterB n)) ∧ w = w' := by
  go_enter Try.func34, Try.ntmps34
  go_wp2
  all_goals
    go_ret
    exact ⟨ret_bool (bool_is (by simp; omega)), rfl⟩
set_option maxRecDepth 100000 in
theorem digit_any (n : Nat) (h : n < 256) (w : World) : Calls Try.prog 35 #[.int .u8 (n : Int)] w fun e w' => e = .returned (.bool (digitB n)) ∧ w = w' := by
  go_enter Try.func35, Try.ntmps35
  go_wp2
  all_goals
    go_ret
    exact ⟨ret_bool (bool_is (by simp; omega)), rfl⟩
set_option maxRecDepth 100000 in
theorem sign_any (n : Nat) (h : n < 256) (w : World) : Calls Try.prog 33 #[.int .u8 (n : Int)] w fun e w' => e = .returned (.bool (signB n)) ∧ w = w' := by
  go_enter Try.func33, Try.ntmps33
  go_wp2
  all_goals
    go_ret
    exact ⟨ret_bool (bool_is (by simp; omega)), rfl⟩

/-- how many bytes of blanks and remarks stand at the beginning; in a remark or not -/
def passM : Bool → List UInt8 → Nat
  | _, [] => 0
  | true, c :: r => 1 + passM (c.toNat != 10) r
  | false, c :: r => if blankB c.toNat then 1 + passM false r else if c.toNat = 35 then 1 + passM true r else 0
theorem passM_le : ∀ (l : List UInt8) (b : Bool), passM b l ≤ l.length := by
  intro l
  induction l with
  | nil => intro b; cases b <;> simp [passM]
  | cons c r ih =>
    intro b
    cases b
    · unfold passM
      have h1 := ih false
      have h2 := ih true
      split
      · simp; omega
      · split <;> (simp; try omega)
    · unfold passM
      have h1 := ih (c.toNat != 10)
      simp; omega
theorem drop_at (s : ByteArray) (k : Nat) (h : k < s.size) : s.data.toList.drop k = s[k] :: s.data.toList.drop (k + 1) := by
  rw [List.drop_eq_getElem_cons (by simpa using h)]
  rfl
theorem drop_end (s : ByteArray) (k : Nat) (h : s.size ≤ k) : s.data.toList.drop k = [] := List.drop_eq_nil_of_le (by simpa using h)
/-- where the text goes on behind blanks and remarks -/
def passAt (s : ByteArray) (k : Nat) : Nat := k + passM false (s.data.toList.drop k)
theorem pass_end {s : ByteArray} {k : Nat} (h : s.size ≤ k) : passAt s k = k := by
  unfold passAt; rw [drop_end s k h]; rfl
theorem pass_blank {s : ByteArray} {k : Nat} (h : k < s.size) (hb : blankB s[k].toNat = true) : passAt s k = passAt s (k + 1) := by
  unfold passAt
  rw [drop_at s k h]
  conv => lhs; unfold passM
  rw [if_pos hb]; omega
theorem pass_other {s : ByteArray} {k : Nat} (h : k < s.size) (hb : blankB s[k].toNat = false) (hr : s[k].toNat ≠ 35) : passAt s k = k := by
  unfold passAt
  rw [drop_at s k h]
  unfold passM
  rw [hb, if_neg (by decide), if_neg hr]; rfl
/-- in a remark -/
def remAt (s : ByteArray) (k : Nat) : Nat := k + passM true (s.data.toList.drop k)
theorem pass_remark {s : ByteArray} {k : Nat} (h : k < s.size) (hr : s[k].toNat = 35) : passAt s k = remAt s k := by
  unfold passAt remAt
  rw [drop_at s k h]
  unfold passM
  rw [hr, if_neg (by decide), if_pos rfl]
  rfl
theorem rem_end {s : ByteArray} {k : Nat} (h : s.size ≤ k) : remAt s k = k := by
  unfold remAt; rw [drop_end s k h]; rfl
theorem rem_on {s : ByteArray} {k : Nat} (h : k < s.size) (hr : s[k].toNat ≠ 10) : remAt s k = remAt s (k + 1) := by
  unfold remAt
  rw [drop_at s k h]
  conv => lhs; unfold passM
  rw [bne_iff_ne.2 hr]; omega
theorem rem_line {s : ByteArray} {k : Nat} (h : k < s.size) (hr : s[k].toNat = 10) : remAt s k = passAt s k := by
  unfold remAt passAt
  rw [drop_at s k h]
  unfold passM
  rw [hr, if_pos (by decide)]
  rfl
set_option maxRecDepth 100000 in
set_option maxHeartbeats 1000000 in
theorem pass_any (s : ByteArray) (k0 : Nat) (w : World) (hk0 : k0 ≤ s.size) (hs : s.size ≤ 9223372036854775806) :
    Calls Try.prog 23 #[.string s, .int .i64 (k0 : Int)] w fun e w' => e = .returned (.int .i64 (passAt s k0 : Nat)) ∧ w = w' := by
  go_enter Try.func23, Try.ntmps23
  go_wp2
  have HS := Lib.hid hs
  go_loop [1] (fun i => ∃ k : Nat, k ≤ s.size ∧ i = .int .i64 k ∧ Hid (passAt s k0 = passAt s k)) (fun i => s.size - (intOf i).toNat)
  case atStart => exact ⟨k0, hk0, rfl, Lib.hid rfl⟩
  case round =>
    obtain ⟨k, hk, rfl, HK⟩ := hrel
    by_cases hlt : k < s.size
    · have hb := s[k].toNat_lt
      cases hB : blankB s[k].toNat
      · by_cases hr : s[k].toNat = 35
        · have t35 : ((s[k].toNat : Int) == 35) = true := by rw [beq_iff_eq]; omega
          have HX : Hid (passAt s k0 = remAt s k) := Lib.hid (by rw [HK.out]; exact pass_remark hlt hr)
          have HR := Lib.hid hr
          clear hr HK
          go_wp2_with (go_at_call 32; refine (blank_any _ hb _).mono ?_; rintro e w1 ⟨rfl, rfl⟩)
          go_loop [1] (fun i => ∃ m : Nat, k ≤ m ∧ m ≤ s.size ∧ i = .int .i64 m ∧ Hid (passAt s k0 = remAt s m)) (fun i => s.size - (intOf i).toNat)
          case atStart => exact ⟨k, by omega, hk, rfl, HX⟩
          case round =>
            obtain ⟨m, hkm, hm, rfl, HM⟩ := hrel
            by_cases hlm : m < s.size
            · have hbm := s[m].toNat_lt
              by_cases hl : s[m].toNat = 10
              · have t10 : ((s[m].toNat : Int) != 10) = false := by rw [bne_eq_false_iff_eq]; omega
                have HY : Hid (passAt s k0 = passAt s m) := Lib.hid (by rw [HM.out]; exact rem_line hlm hl)
                have hne : m ≠ k := by
                  rintro rfl
                  have := HR.out
                  omega
                have HN := Lib.hid (show k < m by omega)
                clear hne hl HM
                go_wp2
                go_round
                case rel => exact ⟨m, hm, rfl, HY⟩
                case measure => have := HN.out; simp [intOf]; omega
              · have t10 : ((s[m].toNat : Int) != 10) = true := by rw [bne_iff_ne]; omega
                have HY : Hid (passAt s k0 = remAt s (m + 1)) := Lib.hid (by rw [HM.out]; exact rem_on hlm hl)
                clear hl HM
                go_wp2
                go_round
                case rel => exact ⟨m + 1, by omega, by omega, by go_num, HY⟩
                case measure => simp [intOf]; omega
            · have hm2 : s.size ≤ m := by omega
              have HY : Hid (passAt s k0 = passAt s m) := Lib.hid (by rw [HM.out, rem_end hm2, pass_end hm2])
              have HN := Lib.hid (show k < m by omega)
              clear hm2 HM
              go_wp2
              go_round
              case rel => exact ⟨m, hm, rfl, HY⟩
              case measure => have := HN.out; simp [intOf]; omega
        · have t35 : ((s[k].toNat : Int) == 35) = false := by rw [beq_eq_false_iff_ne]; omega
          have HX := Lib.hid (pass_other hlt hB hr)
          clear hr
          go_wp2_with (go_at_call 32; refine (blank_any _ hb _).mono ?_; rintro e w1 ⟨rfl, rfl⟩)
          go_ret
          exact ⟨ret_int (by rw [HK.out, HX.out]), rfl⟩
      · have HX : Hid (passAt s k0 = passAt s (k + 1)) := Lib.hid (by rw [HK.out]; exact pass_blank hlt hB)
        clear HK
        go_wp2_with (go_at_call 32; refine (blank_any _ hb _).mono ?_; rintro e w1 ⟨rfl, rfl⟩)
        go_round
        case rel => exact ⟨k + 1, by omega, by go_num, HX⟩
        case measure => simp [intOf]; omega
    · have hk2 : k = s.size := by omega
      have HX := Lib.hid (pass_end (s := s) (k := k) (by omega))
      clear hk2
      go_wp2
      go_ret
      exact ⟨ret_int (by rw [HK.out, HX.out]), rfl⟩
end Go.Proofs.Ytjhmlmimgahnmaa.s04
