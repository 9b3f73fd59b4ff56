/-
  Layer 3: names with numbers are names, small or capital as asked; a fresh name.
-/
import Derived.Test.YtabcggmmdjeobaaDoorS03S
import Derived.Test.YtabcggmmdjeobaaDoorKitMod
namespace Go.Proofs.YtabcggmmdjeobaaDoor.s03
set_option linter.unusedVariables false
set_option linter.unusedSimpArgs false
open Go.RowKit
open kit

theorem dec_digits : ∀ n : Nat, ∀ b ∈ decD n, 48 ≤ b.toNat ∧ b.toNat ≤ 57 := by
  intro n
  induction n using Nat.strongRecOn with
  | _ n ih =>
    intro b hb
    rw [decD] at hb
    split at hb
    · obtain rfl := List.mem_singleton.1 hb
      rw [UInt8.toNat_ofNat']; omega
    · rcases List.mem_append.1 hb with h | h
      · exact ih (n / 10) (by omega) b h
      · obtain rfl := List.mem_singleton.1 h
        rw [UInt8.toNat_ofNat']; omega
theorem dec_ne (n : Nat) : decD n ≠ [] := by
  rw [decD]
  split <;> simp
theorem name_form (n : Nat) (c : Bool) : form (nameR n c).data.toList = true := by
  refine form_yes fun i hi => ?_
  unfold fits
  rw [nameR_list] at hi ⊢
  cases i with
  | zero => cases c <;> rfl
  | succ i =>
    have hi : i < (decD n).length := by simpa using hi
    have hd := dec_digits n _ (List.getElem_mem hi)
    rw [List.getElem?_cons_succ, List.getElem?_eq_getElem hi]
    simp only [Option.getD_some]
    rw [show digitB (decD n)[i].toNat = true from decide_eq_true hd]
    simp
theorem name_word {n : Nat} (c : Bool) (h : n ≤ 9999) : wordR (nameR n c).data.toList = 0 := by
  have hl : (decD n).length ≤ 4 := decD_len 3 n (by omega)
  unfold wordR
  rw [name_form, nameR_list, if_neg (by simp), if_neg (by decide), if_neg (by simp; omega)]
theorem name_lang (n : Nat) (c : Bool) : langB (nameR n c).data.toList = false := by
  rw [nameR_list]
  have hd := dec_digits n
  have hn := dec_ne n
  generalize decD n = l at hd hn
  match l, hn, hd with
  | d :: r, _, hd =>
    have h0 := hd d (List.mem_cons_self ..)
    unfold langB
    cases c
    all_goals
      simp only [Bool.or_eq_false_iff, beq_eq_false_iff_ne, ne_eq]
      refine ⟨?_, ?_, ?_, ?_⟩ <;>
      · intro e
        simp only [List.cons.injEq, Bool.false_eq_true, if_false, if_true] at e
        obtain ⟨_, e, _⟩ := e
        subst e
        revert h0
        decide
theorem name_check {n : Nat} (c : Bool) (h : n ≤ 9999) : checkR (nameR n c).data.toList = 0 := by
  unfold checkR
  rw [name_lang, name_word c h, if_neg (by simp)]
theorem name_small {n : Nat} (c : Bool) (h : n ≤ 9999) : kindB 97 122 (nameR n c).data.toList = !c := by
  unfold kindB
  rw [name_check c h, nameR_list]
  cases c <;> rfl
theorem name_capital {n : Nat} (c : Bool) (h : n ≤ 9999) : kindB 65 90 (nameR n c).data.toList = c := by
  unfold kindB
  rw [name_check c h, nameR_list]
  cases c <;> rfl
theorem name_size {n : Nat} (c : Bool) (h : n ≤ 9999) : (nameR n c).size ≤ 5 := by
  have hl : (decD n).length ≤ 4 := decD_len 3 n (by omega)
  have : (nameR n c).data.toList.length ≤ 5 := by rw [nameR_list]; simp; omega
  simpa using this
theorem make_ok {m : Int} (c : Bool) (h0 : 0 ≤ m) (h1 : m ≤ 9999) : makeR m c = (nameR m.toNat c, 0) := by
  unfold makeR
  rw [if_neg (by omega)]
theorem names_eq {m n : Int} (c : Bool) (h0 : 0 ≤ m) (h1 : 0 ≤ n) : ∃ q, ((nameR m.toNat c).toList == (nameR n.toNat c).toList) = q ∧ (m == n) = q := by
  by_cases h : m = n
  · subst h; exact ⟨true, by simp, by simp⟩
  · refine ⟨false, str_beq_false (fun e => h ?_), by simpa using h⟩
    have := nameR_inj e
    omega
theorem row_below {w w1 : World} {B E k : Nat} {v : Value} {xs : List Value} (h : w.ownsRow B E 1 v k xs) (hB : Below w.heap.size w w1) : w1.ownsRow B E 1 v k xs := by
  refine ⟨h.1, ?_⟩
  rcases h.2 with h2 | ⟨g, cap, cur, e, hb, hk, r⟩
  · exact .inl h2
  · exact .inr ⟨g, cap, cur, e, hb, (hB.block g (Array.getElem?_eq_some_iff.1 hk).1).trans hk, r⟩
theorem mod_is (n m q : Int) (h1 : -9223372036854775808 ≤ n) (h2 : n ≤ 9223372036854775807) (m1 : 1 ≤ m) (m2 : m ≤ 1000000000) (w : World) (H : Hid (n % m = q)) :
    Calls Tryd.prog 38 #[.int .i64 n, .int .i64 m] w fun e w' => e = .returned (.int .i64 q) ∧ w = w' := by
  have := H.out
  subst this
  exact mod_any n m h1 h2 m1 m2 w
theorem fresh_few (l : List ByteArray) (c : Bool) (h : l.length ≤ 90) : ∃ x, FreshR l c x 0 ∧ x ∉ l ∧ checkR x.data.toList = 0 ∧ x.size ≤ 5 := by
  obtain ⟨n, h1, h2, h3⟩ := fresh_ex l c
  exact ⟨_, .inr ⟨by omega, rfl, n, h1, rfl, h2, h3⟩, h2, name_check c (by omega), name_size c (by omega)⟩
theorem find_not {l : List ByteArray} {x : ByteArray} (h : l.length ≤ 90) (hx : x ∉ l) : findR l x = (0, 7) := by
  unfold findR
  rw [if_neg (by omega), if_neg (fun h => hx (idx_lt_mem h))]
theorem find_n (a : Option Addr) (n cap : Nat) (ss : List ByteArray) (s : ByteArray) (i er : Int) (w : World) (hl : ss.length = n) (hn : n ≤ 9223372036854775807) (hr : ReadsS w a ss) (H : Hid (findR ss s = (i, er))) :
    Calls Tryd.prog 18 #[.slice a n cap, .string s] w fun e w' => e = .returned (.tuple #[.int .i64 i, .int .i64 er]) ∧ Below w.heap.size w w' := by
  subst hl
  exact find_any a cap ss s i er w hn hr H
theorem fresh_n (a : Option Addr) (n cap : Nat) (ss : List ByteArray) (c : Bool) (x : ByteArray) (er : Int) (w : World) (hl : ss.length = n) (hn : n < 100) (hr : ReadsS w a ss) (H : Hid (FreshR ss c x er)) :
    Calls Tryd.prog 22 #[.slice a n cap, .bool c] w fun e w' => e = .returned (.tuple #[.string x, .int .i64 er]) ∧ Below w.heap.size w w' := by
  subst hl
  exact fresh_any a cap ss c x er w (by omega) (Or.inl hn) hr H
end Go.Proofs.YtabcggmmdjeobaaDoor.s03
