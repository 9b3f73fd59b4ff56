/-
  Layer 4: lexemes, blanks and remarks (of no program); the reference's classes of bytes and pass.
-/
import Derived.Test.YtjhmlmimgahnmaaDoorKit
namespace Go.Proofs.YtjhmlmimgahnmaaDoor.s04
set_option linter.unusedVariables false
set_option linter.unusedSimpArgs false
open Go.RowKit
open kit

def blankB (n : Nat) : Bool := decide (n = 32 ∨ n = 9 ∨ n = 10 ∨ n = 13)
def letterB (n : Nat) : Bool := decide (97 ≤ n ∧ n ≤ 122 ∨ 65 ≤ n ∧ n ≤ 90)
def digitB (n : Nat) : Bool := decide (48 ≤ n ∧ n ≤ 57)
def signB (n : Nat) : Bool := decide (n = 61 ∨ n = 124 ∨ n = 59 ∨ n = 44)
def wordB (n : Nat) : Bool := letterB n || (digitB n || n == 95)
theorem bool_is {p : Prop} [Decidable p] {b : Bool} (h : b = true ↔ p) : b = decide p := by
  cases b
  · rw [decide_eq_false]; simpa using h
  · rw [decide_eq_true]; simpa using h
set_option maxRecDepth 100000 in
theorem letter_any (n : Nat) (h : n < 256) (w : World) : Calls Tryd.prog 33 #[.int .u8 (n : Int)] w fun e w' => e = .returned (.bool (letterB n)) ∧ w = w' := by
  go_enter Tryd.func33, Tryd.ntmps33
  go_wp2
  all_goals
    go_ret
    exact ⟨ret_bool (bool_is (by simp; omega)), rfl⟩
set_option maxRecDepth 100000 in
theorem digit_any (n : Nat) (h : n < 256) (w : World) : Calls Tryd.prog 34 #[.int .u8 (n : Int)] w fun e w' => e = .returned (.bool (digitB n)) ∧ w = w' := by
  go_enter Tryd.func34, Tryd.ntmps34
  go_wp2
  all_goals
    go_ret
    exact ⟨ret_bool (bool_is (by simp; omega)), rfl⟩
set_option maxRecDepth 100000 in
theorem sign_any (n : Nat) (h : n < 256) (w : World) : Calls Tryd.prog 32 #[.int .u8 (n : Int)] w fun e w' => e = .returned (.bool (signB n)) ∧ w = w' := by
  go_enter Tryd.func32, Tryd.ntmps32
  go_wp2
  all_goals
    go_ret
    exact ⟨ret_bool (bool_is (by simp; omega)), rfl⟩

/-- how many bytes of blanks and remarks stand at the beginning; in a remark or not -/
def passM : Bool → List UInt8 → Nat
  | _, [] => 0
  | true, c :: r => 1 + passM (c.toNat != 10) r
  | false, c :: r => if blankB c.toNat then 1 + passM false r else if c.toNat = 35 then 1 + passM true r else 0
theorem passM_le : ∀ (l : List UInt8) (b : Bool), passM b l ≤ l.length := by
  intro l
  induction l with
  | nil => intro b; cases b <;> simp [passM]
  | cons c r ih =>
    intro b
    cases b
    · unfold passM
      have h1 := ih false
      have h2 := ih true
      split
      · simp; omega
      · split <;> (simp; try omega)
    · unfold passM
      have h1 := ih (c.toNat != 10)
      simp; omega
theorem drop_at (s : ByteArray) (k : Nat) (h : k < s.size) : s.data.toList.drop k = s[k] :: s.data.toList.drop (k + 1) := by
  rw [List.drop_eq_getElem_cons (by simpa using h)]
  rfl
theorem drop_end (s : ByteArray) (k : Nat) (h : s.size ≤ k) : s.data.toList.drop k = [] := List.drop_eq_nil_of_le (by simpa using h)
/-- where the text goes on behind blanks and remarks -/
def passAt (s : ByteArray) (k : Nat) : Nat := k + passM false (s.data.toList.drop k)
theorem pass_end {s : ByteArray} {k : Nat} (h : s.size ≤ k) : passAt s k = k := by
  unfold passAt; rw [drop_end s k h]; rfl
theorem pass_blank {s : ByteArray} {k : Nat} (h : k < s.size) (hb : blankB s[k].toNat = true) : passAt s k = passAt s (k + 1) := by
  unfold passAt
  rw [drop_at s k h]
  conv => lhs; unfold passM
  rw [if_pos hb]; omega
theorem pass_other {s : ByteArray} {k : Nat} (h : k < s.size) (hb : blankB s[k].toNat = false) (hr : s[k].toNat ≠ 35) : passAt s k = k := by
  unfold passAt
  rw [drop_at s k h]
  unfold passM
  rw [hb, if_neg (by decide), if_neg hr]; rfl
/-- in a remark -/
def remAt (s : ByteArray) (k : Nat) : Nat := k + passM true (s.data.toList.drop k)
theorem pass_remark {s : ByteArray} {k : Nat} (h : k < s.size) (hr : s[k].toNat = 35) : passAt s k = remAt s k := by
  unfold passAt remAt
  rw [drop_at s k h]
  unfold passM
  rw [hr, if_neg (by decide), if_pos rfl]
  rfl
theorem rem_end {s : ByteArray} {k : Nat} (h : s.size ≤ k) : remAt s k = k := by
  unfold remAt; rw [drop_end s k h]; rfl
theorem rem_on {s : ByteArray} {k : Nat} (h : k < s.size) (hr : s[k].toNat ≠ 10) : remAt s k = remAt s (k + 1) := by
  unfold remAt
  rw [drop_at s k h]
  conv => lhs; unfold passM
  rw [bne_iff_ne.2 hr]; omega
theorem rem_line {s : ByteArray} {k : Nat} (h : k < s.size) (hr : s[k].toNat = 10) : remAt s k = passAt s k := by
  unfold remAt passAt
  rw [drop_at s k h]
  unfold passM
  rw [hr, if_pos (by decide)]
  rfl
end Go.Proofs.YtjhmlmimgahnmaaDoor.s04
