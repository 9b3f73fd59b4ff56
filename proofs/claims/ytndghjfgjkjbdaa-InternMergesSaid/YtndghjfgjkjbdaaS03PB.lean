/-
  Layer 3: the program's search with a function value, has, Language, Check, Small, Capital, Find, Twice.
-/
import Derived.Test.YtndghjfgjkjbdaaS03PA
import Derived.Test.YtndghjfgjkjbdaaS03B
namespace Go.Proofs.Ytndghjfgjkjbdaa.s03
set_option linter.unusedVariables false
set_option linter.unusedSimpArgs false
open Go.RowKit
open kit

theorem is_eq (x s : ByteArray) : (x.toList == s.toList) = decide (x = s) := by
  by_cases h : x = s
  · rw [str_beq_true h, decide_eq_true h]
  · rw [str_beq_false h, decide_eq_false h]
/-- the function value that equals returns -/
theorem test_any (x s : ByteArray) (B : Nat) (w : World) (hB : w.cell? ⟨B, 0, none⟩ = some (.string s)) :
    Calls Try.prog 84 #[.string x, .pointer (some ⟨B, 0, none⟩)] w fun e w' => e = .returned (.bool (decide (x = s))) ∧ w = w' := by
  have H := Lib.hid (is_eq x s)
  go_enter Try.func84, Try.ntmps84
  go_wp2
  all_goals
    go_ret
    exact ⟨ret_bool (by first | (rw [← H.out]; done) | (rw [← H.out]; simp [*])), rfl⟩
/-- what search answers for equals: place, found -/
def searchR (l : List ByteArray) (s : ByteArray) : Int × Bool := if idx l s < l.length then (idx l s, true) else (0, false)
set_option maxRecDepth 100000 in
set_option maxHeartbeats 1000000 in
theorem search_any (a : Option Addr) (cap : Nat) (ss : List ByteArray) (s : ByteArray) (B : Nat) (i : Int) (b : Bool) (w : World) (hn : ss.length ≤ 9223372036854775807) (hr : ReadsS w a ss) (hB : w.cell? ⟨B, 0, none⟩ = some (.string s)) (H : Hid (searchR ss s = (i, b))) :
    Calls Try.prog 82 #[.slice a ss.length cap, .func (.func 84) #[] #[.pointer (some ⟨B, 0, none⟩)]] w fun e w' => e = .returned (.tuple #[.int .i64 i, .bool b]) ∧ w = w' := by
  have h := H.out
  unfold searchR at h
  have HH := Lib.hid h
  have HB := Lib.hid hB
  clear h H hB
  go_enter Try.func82, Try.ntmps82
  go_wp2
  go_loop [10] (fun v => ∃ k : Nat, k ≤ ss.length ∧ v = .int .i64 k ∧ ∀ j, j < k → ss[j]?.getD ByteArray.empty ≠ s) (fun v => ss.length - (intOf v).toNat)
  case atStart => exact ⟨0, by omega, rfl, fun j hj => by omega⟩
  case round =>
    obtain ⟨k, hk, rfl, hall⟩ := hrel
    have HA := Lib.hid hall
    clear hall
    by_cases hlt : k < ss.length
    · obtain ⟨c, off, rfl, hb2, hc⟩ := hr k hlt
      by_cases he : ss[k]?.getD ByteArray.empty = s
      · have HX : Hid (((k : Int), true) = (i, b)) := Lib.hid (by
          have := HH.out
          rw [idx_at s ss k hlt HA.out he, if_pos hlt] at this
          exact this)
        generalize hx : ss[k]?.getD ByteArray.empty = x at hc he
        have HT := fun w h => Lib.hid (test_any x s B w h)
        rw [decide_eq_true he] at HT
        clear he hx
        go_wp2_with (go_at_call 84; refine ((HT _ HB.out).out).mono ?_; rintro e w1 ⟨rfl, rfl⟩)
        go_ret2
        exact ⟨by cases HX.out; rfl, rfl⟩
      · generalize hx : ss[k]?.getD ByteArray.empty = x at hc he
        have HE : Hid (ss[k]?.getD ByteArray.empty ≠ s) := Lib.hid (by rw [hx]; exact he)
        have HT := fun w h => Lib.hid (test_any x s B w h)
        rw [decide_eq_false he] at HT
        clear hx he
        go_wp2_with (go_at_call 84; refine ((HT _ HB.out).out).mono ?_; rintro e w1 ⟨rfl, rfl⟩)
        go_round
        case rel => exact ⟨k + 1, by omega, by go_num, fun j hj => by
          by_cases e : j = k
          · subst e; exact HE.out
          · exact HA.out j (by omega)⟩
        case measure => simp [intOf]; omega
    · have hk2 : k = ss.length := by omega
      have HX : Hid (((0 : Int), false) = (i, b)) := Lib.hid (by
        have := HH.out
        rw [idx_none s ss (fun j hj => HA.out j (by omega)), if_neg (by omega)] at this
        exact this)
      clear hk2
      go_wp2
      go_ret2
      exact ⟨by cases HX.out; rfl, rfl⟩
theorem equals_any (s : ByteArray) (w : World) : Calls Try.prog 83 #[.string s] w fun e w' => e = .returned (.func (.func 84) #[] #[.pointer (some ⟨w.heap.size, 0, none⟩)]) ∧ w' = w.alloc (.cells #[.string s] 9) := by
  have hmf : ∀ (fn : Fn) (first cap : Array Value) (w : World), (Instr.makeFunc fn first cap).run Try.prog w = .ok (.func fn first cap) w := fun _ _ _ _ => rfl
  go_enter Try.func83, Try.ntmps83
  go_wp2
  go_ret
  exact ⟨rfl, rfl⟩
theorem box_new (w : World) (v : Value) (t : TypeId) : (w.alloc (.cells #[v] t)).cell? ⟨w.heap.size, 0, none⟩ = some v := by simp
/-- is it in the list? -/
def hasB (l : List ByteArray) (s : ByteArray) : Bool := decide (idx l s < l.length)
set_option maxRecDepth 100000 in
theorem has_any (a : Option Addr) (cap : Nat) (ss : List ByteArray) (s : ByteArray) (b : Bool) (w : World) (hn : ss.length ≤ 9223372036854775807) (hr : ReadsS w a ss) (H : Hid (hasB ss s = b)) :
    Calls Try.prog 77 #[.slice a ss.length cap, .string s] w fun e w' => e = .returned (.bool b) ∧ Below w.heap.size w w' := by
  obtain ⟨i, hi⟩ : ∃ i, searchR ss s = (i, b) := by
    have := H.out
    unfold hasB at this
    unfold searchR
    by_cases h : idx ss s < ss.length
    · rw [decide_eq_true h] at this; subst this; exact ⟨_, if_pos h⟩
    · rw [decide_eq_false h] at this; subst this; exact ⟨_, if_neg h⟩
  have HI := Lib.hid hi
  have HR := Lib.hid (hr.alloc (.cells #[.string s] 9))
  have HB := Lib.hid (box_new w (.string s) 9)
  have KB := (Below.refl w.heap.size w).alloc (Nat.le_refl _) (.cells #[.string s] 9)
  clear hi hr
  go_enter Try.func77, Try.ntmps77
  go_wp2_with (first
    | (go_at_call 83; refine (equals_any s _).mono ?_; rintro e w1 ⟨rfl, rfl⟩)
    | (go_at_call 82; refine (search_any a cap ss s w.heap.size i b _ hn HR.out HB.out HI).mono ?_; rintro e w1 ⟨rfl, rfl⟩))
  go_ret
  exact ⟨rfl, KB⟩
def words : List ByteArray := [⟨#[108, 111, 111, 107, 97, 104, 101, 97, 100]⟩, ⟨#[116, 111, 107, 101, 110]⟩, ⟨#[115, 101, 112, 97, 114, 97, 116, 111, 114]⟩, ⟨#[115, 116, 97, 114, 116]⟩]
theorem lang_has (s : ByteArray) : hasB words s = langB s.toList := by
  have h : ∀ x : ByteArray, (s.toList == x.data.toList) = decide (x = s) := fun x => by
    rw [← ByteArray.toList_eq, is_eq]
    by_cases e : s = x
    · rw [decide_eq_true e, decide_eq_true e.symm]
    · rw [decide_eq_false e, decide_eq_false (fun f => e f.symm)]
  unfold langB
  rw [show ([108, 111, 111, 107, 97, 104, 101, 97, 100] : List UInt8) = (⟨#[108, 111, 111, 107, 97, 104, 101, 97, 100]⟩ : ByteArray).data.toList from rfl, show ([116, 111, 107, 101, 110] : List UInt8) = (⟨#[116, 111, 107, 101, 110]⟩ : ByteArray).data.toList from rfl,
    show ([115, 101, 112, 97, 114, 97, 116, 111, 114] : List UInt8) = (⟨#[115, 101, 112, 97, 114, 97, 116, 111, 114]⟩ : ByteArray).data.toList from rfl, show ([115, 116, 97, 114, 116] : List UInt8) = (⟨#[115, 116, 97, 114, 116]⟩ : ByteArray).data.toList from rfl, h, h, h, h]
  unfold hasB words
  simp only [idx, List.length]
  repeat' split
  all_goals simp_all
theorem words_read (w : World) (t : TypeId) : ReadsS (w.alloc (.cells #[.string ⟨#[108, 111, 111, 107, 97, 104, 101, 97, 100]⟩, .string ⟨#[116, 111, 107, 101, 110]⟩, .string ⟨#[115, 101, 112, 97, 114, 97, 116, 111, 114]⟩, .string ⟨#[115, 116, 97, 114, 116]⟩] t)) (some ⟨w.heap.size, 0, none⟩) words := fun i hi => by
  have hi : i < 4 := hi
  refine ⟨w.heap.size, 0, rfl, by simp, ?_⟩
  rcases (by omega : i = 0 ∨ i = 1 ∨ i = 2 ∨ i = 3) with rfl | rfl | rfl | rfl <;> simp [words]
set_option maxRecDepth 100000 in
theorem lang_any (s : ByteArray) (w : World) : Calls Try.prog 67 #[.string s] w fun e w' => e = .returned (.bool (langB s.toList)) ∧ Below w.heap.size w w' := by
  have HL := Lib.hid (lang_has s)
  generalize langB s.toList = b at HL
  have KB := fun t => (Below.refl w.heap.size w).alloc (Nat.le_refl _) (.cells #[.string ⟨#[108, 111, 111, 107, 97, 104, 101, 97, 100]⟩, .string ⟨#[116, 111, 107, 101, 110]⟩, .string ⟨#[115, 101, 112, 97, 114, 97, 116, 111, 114]⟩, .string ⟨#[115, 116, 97, 114, 116]⟩] t)
  go_enter Try.func67, Try.ntmps67
  go_wp2_with (go_at_call 77; refine (has_any _ 4 words s b _ (by decide) (words_read w _) HL).mono ?_; rintro e w1 ⟨rfl, hB⟩)
  go_ret
  exact ⟨rfl, below_then (KB _) hB⟩
end Go.Proofs.Ytndghjfgjkjbdaa.s03
