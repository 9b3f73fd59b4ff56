/-
  Layer 3: the program's Check, Small, Capital, Find, Twice.
-/
import Derived.Test.YtndghjfgjkjbdaaS03PB
namespace Go.Proofs.Ytndghjfgjkjbdaa.s03
set_option linter.unusedVariables false
set_option linter.unusedSimpArgs false
open Go.RowKit
open kit

set_option maxRecDepth 100000 in
theorem check_any (s : ByteArray) (w : World) (hs : s.size ≤ 9223372036854775807) : Calls Try.prog 35 #[.string s] w fun e w' => e = .returned (.int .i64 (checkR s.data.toList)) ∧ Below w.heap.size w w' := by
  have H := Lib.hid (show checkR s.data.toList = if wordR s.data.toList = 0 ∧ langB s.data.toList = true then 12 else wordR s.data.toList from rfl)
  have HW := fun w => Lib.hid (word_any s w hs)
  have HL := fun w => Lib.hid (lang_any s w)
  rw [ByteArray.toList_eq] at HL
  generalize wordR s.data.toList = e at H HW
  generalize langB s.data.toList = b at H HL
  generalize checkR s.data.toList = r at H
  by_cases he : e = 0
  · subst he
    cases b
    · have HX : Hid ((0 : Int) = r) := Lib.hid (by rw [H.out, if_neg (by simp)])
      go_enter Try.func35, Try.ntmps35
      go_wp2_with (first
        | (go_at_call 66; refine ((HW _).out).mono ?_; rintro e w1 ⟨rfl, hB1⟩)
        | (go_at_call 67; refine ((HL _).out).mono ?_; rintro e w2 ⟨rfl, hB2⟩))
      go_ret
      exact ⟨ret_int HX.out, below_then hB1 hB2⟩
    · have HX : Hid ((12 : Int) = r) := Lib.hid (by rw [H.out, if_pos ⟨rfl, rfl⟩])
      go_enter Try.func35, Try.ntmps35
      go_wp2_with (first
        | (go_at_call 66; refine ((HW _).out).mono ?_; rintro e w1 ⟨rfl, hB1⟩)
        | (go_at_call 67; refine ((HL _).out).mono ?_; rintro e w2 ⟨rfl, hB2⟩))
      go_ret
      exact ⟨ret_int HX.out, below_then hB1 hB2⟩
  · have te : (e != 0) = true := bne_iff_ne.2 he
    have HX : Hid (e = r) := Lib.hid (by rw [H.out, if_neg (fun h => he h.1)])
    clear he
    go_enter Try.func35, Try.ntmps35
    go_wp2_with (go_at_call 66; refine ((HW _).out).mono ?_; rintro e w1 ⟨rfl, hB1⟩)
    go_ret
    exact ⟨ret_int HX.out, hB1⟩
theorem find_search {l : List ByteArray} {s : ByteArray} {i er : Int} (hb : ¬ 100 < l.length) (h : findR l s = (i, er)) : (searchR l s = (i, true) ∧ er = 0) ∨ (searchR l s = (0, false) ∧ i = 0 ∧ er = 7) := by
  unfold findR at h
  rw [if_neg hb] at h
  unfold searchR
  by_cases hi : idx l s < l.length
  · rw [if_pos hi] at h; cases h; exact .inl ⟨if_pos hi, rfl⟩
  · rw [if_neg hi] at h; cases h; exact .inr ⟨if_neg hi, rfl, rfl⟩
theorem reads_take {w : World} {a : Option Addr} {ss : List ByteArray} (h : ReadsS w a ss) (k : Nat) : ReadsS w a (ss.take k) := fun i hi => by
  have h1 : i < k ∧ i < ss.length := by simp at hi; omega
  obtain ⟨b, off, e, hb, hc⟩ := h i h1.2
  exact ⟨b, off, e, hb, by rw [hc, List.getElem?_take, if_pos h1.1]⟩
theorem idx_take (l : List ByteArray) (s : ByteArray) (k : Nat) (hk : k ≤ l.length) : hasB (l.take k) s = decide (idx l s < k) := by
  unfold hasB
  have hlen : (l.take k).length = k := by simp; omega
  rw [hlen]
  have key : ∀ (l : List ByteArray) (k : Nat), k ≤ l.length → (idx (l.take k) s < k ↔ idx l s < k) := by
    intro l
    induction l with
    | nil => intro k hk; simp at hk; subst hk; simp
    | cons x l ih =>
      intro k hk
      cases k with
      | zero => simp
      | succ k =>
        rw [List.take_succ_cons]
        unfold idx
        by_cases e : x = s
        · rw [if_pos e, if_pos e]
        · rw [if_neg e, if_neg e]
          have := ih k (by simpa using hk)
          omega
  simp only [key l k hk]
theorem has_n (a : Option Addr) (n cap : Nat) (ss : List ByteArray) (s : ByteArray) (b : Bool) (w : World) (hl : ss.length = n) (hn : n ≤ 9223372036854775807) (hr : ReadsS w a ss) (H : Hid (hasB ss s = b)) :
    Calls Try.prog 77 #[.slice a n cap, .string s] w fun e w' => e = .returned (.bool b) ∧ Below w.heap.size w w' := by
  subst hl
  exact has_any a cap ss s b w hn hr H
end Go.Proofs.Ytndghjfgjkjbdaa.s03
