/-
  Layer 3: the program's Compare, numbered, Make, Fresh.
-/
import Derived.Test.YtabcggmmdjeobaaDoorLay
import Derived.Test.YtabcggmmdjeobaaDoorS03PC
import Derived.Test.YtabcggmmdjeobaaDoorS03C
import Derived.Lib.SmallJoins
import Derived.Lib.AppendIntMem
namespace Go.Proofs.YtabcggmmdjeobaaDoor.s03
set_option linter.unusedVariables false
set_option linter.unusedSimpArgs false
open Go.RowKit
open kit

theorem cmp_lib : ∀ a b : List UInt8, Lib.compareBytes a b = cmpR a b := by
  intro a
  induction a with
  | nil => intro b; cases b <;> rfl
  | cons x a ih =>
    intro b
    cases b with
    | nil => rfl
    | cons y b =>
      unfold Lib.compareBytes cmpR
      rw [ih b]
      rfl
theorem libcmp_any (s t : ByteArray) (w : World) : Calls Tryd.prog 53 #[.string s, .string t] w fun e w' => e = .returned (.int .i64 (cmpR s.data.toList t.data.toList)) ∧ w' = w := by
  rw [← cmp_lib]
  exact Any.strings_Compare lay.layCmp s t w
/-- the method: its receiver, a struct without fields, is boxed -/
theorem method_any (s t : ByteArray) (w : World) :
    Calls Tryd.prog 44 #[.agg #[], .string s, .string t] w fun e w' => e = .returned (.int .i64 (cmpR s.data.toList t.data.toList)) ∧ w' = w.alloc (.cells #[] 53) := by
  have HC := fun w => Lib.hid (libcmp_any s t w)
  generalize cmpR s.data.toList t.data.toList = r at HC
  go_enter Tryd.func44, Tryd.ntmps44
  go_wp2_with (go_at_call 53; refine ((HC _).out).mono ?_; rintro e w1 ⟨rfl, rfl⟩)
  go_ret
  exact ⟨rfl, rfl⟩
theorem cmp_any (s t : ByteArray) (w : World) (hs : s.size ≤ 9223372036854775807) (ht : t.size ≤ 9223372036854775807) :
    Calls Tryd.prog 16 #[.string s, .string t] w fun e w' => e = .returned (.int .i64 (cmpR s.data.toList t.data.toList)) ∧ Below w.heap.size w w' := by
  have HC := fun w => Lib.hid (method_any s t w)
  have KB := (Below.refl w.heap.size w).alloc (Nat.le_refl _) (.cells #[] 53)
  generalize cmpR s.data.toList t.data.toList = r at HC
  go_enter Tryd.func16, Tryd.ntmps16
  go_wp2_with (go_at_call 44; refine ((HC _).out).mono ?_; rintro e w1 ⟨rfl, rfl⟩)
  go_ret
  exact ⟨rfl, KB⟩

/-- the table of powers of ten that the library reads -/
abbrev Tab (w : World) : Prop := Lib.TabIs Tryd.prog w "internal/strconv.uint64pow10" .u64 Lib.pow10Tab
theorem Tab.below {w w1 : World} (h : Tab w) (hB : Below w.heap.size w w1) : Tab w1 := Joins.tab_stays (g := 1) (by kernel_rfl) h hB (Nat.le_refl _)
theorem dec_lib : ∀ n : Nat, Lib.decDigits n = decD n := by
  intro n
  induction n using Nat.strongRecOn with
  | _ n ih =>
    rw [Lib.decDigits, decD]
    split
    · rfl
    · rw [ih (n / 10) (by omega)]
theorem itoa_any (n : Nat) (w : World) (hn : n ≤ 9999) (ht : n < 100 ∨ Tab w) : Calls Tryd.prog 57 #[.int .i64 (n : Int)] w fun e w' => e = .returned (.string (decS n)) ∧ Below w.heap.size w w' := by
  rcases ht with h | h
  · refine (Any.strconv_Itoa_small lay.layItoaS n h w).mono ?_
    rintro e w' ⟨rfl, rfl⟩
    exact ⟨ret_str (by rw [dec_lib]; rfl), Below.refl _ _⟩
  · refine (Any.strconv_Itoa lay.layItoa n (by omega) (by omega) w h).mono ?_
    rintro e w' ⟨rfl, k, os, rfl⟩
    refine ⟨ret_str (by unfold Lib.itoa; rw [if_neg (by omega), Int.toNat_natCast, dec_lib]; rfl), ?_⟩
    exact Lib.below_grow _ _ (Nat.le_refl _) k os
set_option maxRecDepth 100000 in
theorem numbered_any (n : Nat) (c : Bool) (w : World) (hn : n ≤ 9999) (ht : n < 100 ∨ Tab w) : Calls Tryd.prog 49 #[.int .i64 (n : Int), .bool c] w fun e w' => e = .returned (.string (nameR n c)) ∧ Below w.heap.size w w' := by
  have HI := Lib.hid (itoa_any n w hn ht)
  have hz := decS_size hn
  cases c
  · have H := Lib.hid (show (⟨#[116]⟩ : ByteArray) ++ decS n = nameR n false from rfl)
    have hs : (⟨#[116]⟩ : ByteArray).size + (decS n).size ≤ 9223372036854775807 := by show 1 + _ ≤ _; omega
    go_enter Tryd.func49, Tryd.ntmps49
    go_wp2_with (go_at_call 57; refine (HI.out).mono ?_; rintro e w1 ⟨rfl, hB⟩)
    go_ret
    exact ⟨ret_str (by rw [← H.out]), hB⟩
  · have H := Lib.hid (show (⟨#[78]⟩ : ByteArray) ++ decS n = nameR n true from rfl)
    have hs : (⟨#[78]⟩ : ByteArray).size + (decS n).size ≤ 9223372036854775807 := by show 1 + _ ≤ _; omega
    go_enter Tryd.func49, Tryd.ntmps49
    go_wp2_with (go_at_call 57; refine (HI.out).mono ?_; rintro e w1 ⟨rfl, hB⟩)
    go_ret
    exact ⟨ret_str (by rw [← H.out]), hB⟩
set_option maxRecDepth 100000 in
theorem make_any (n : Int) (cap : Bool) (x : ByteArray) (er : Int) (w : World) (h1 : -9223372036854775808 ≤ n) (h2 : n ≤ 9223372036854775807) (ht : n < 100 ∨ Tab w) (H : Hid (makeR n cap = (x, er))) :
    Calls Tryd.prog 21 #[.int .i64 n, .bool cap] w fun e w' => e = .returned (.tuple #[.string x, .int .i64 er]) ∧ Below w.heap.size w w' := by
  have h := H.out
  unfold makeR at h
  clear H
  by_cases hf : n < 0 ∨ 9999 < n
  · rw [if_pos hf] at h; cases h
    clear ht
    rcases hf with hf | hf
    all_goals
      go_enter Tryd.func21, Tryd.ntmps21
      go_wp2
      go_ret2
      exact ⟨rfl, Below.refl _ _⟩
  · rw [if_neg hf] at h; cases h
    obtain ⟨m, rfl⟩ := Int.eq_ofNat_of_zero_le (show 0 ≤ n by omega)
    have hm : m ≤ 9999 := by omega
    have d1 : decide ((m : Int) < 0) = false := decide_eq_false (by omega)
    have HN := Lib.hid (numbered_any m cap w hm (ht.imp (fun h => by omega) id))
    clear hf h1 h2 ht
    rw [show ((m : Int).toNat) = m from Int.toNat_natCast m]
    generalize nameR m cap = y at HN
    go_enter Tryd.func21, Tryd.ntmps21
    go_wp2_with (go_at_call 49; refine (HN.out).mono ?_; rintro e w1 ⟨rfl, hB⟩)
    go_ret2
    exact ⟨rfl, hB⟩
set_option maxRecDepth 100000 in
set_option maxHeartbeats 1000000 in
theorem fresh_any (a : Option Addr) (cap : Nat) (ss : List ByteArray) (c : Bool) (x : ByteArray) (er : Int) (w : World) (hn : ss.length ≤ 9223372036854775807) (ht : ss.length < 100 ∨ 100 < ss.length ∨ Tab w) (hr : ReadsS w a ss) (H : Hid (FreshR ss c x er)) :
    Calls Tryd.prog 22 #[.slice a ss.length cap, .bool c] w fun e w' => e = .returned (.tuple #[.string x, .int .i64 er]) ∧ Below w.heap.size w w' := by
  rcases H.out with ⟨hb, rfl, rfl⟩ | ⟨hb, rfl, n, hn1, hx, hx2, hx3⟩
  · clear H ht
    go_enter Tryd.func22, Tryd.ntmps22
    go_wp2
    go_ret2
    exact ⟨rfl, Below.refl _ _⟩
  · have HR := Lib.hid hr
    have HX := Lib.hid hx
    have HX2 := Lib.hid hx2
    have HX3 := Lib.hid hx3
    have HT : Hid (ss.length < 100 ∨ Tab w) := Lib.hid (by rcases ht with h | h | h <;> first | exact .inl h | exact .inr h | omega)
    clear H hr hx hx2 hx3 ht
    go_enter Tryd.func22, Tryd.ntmps22
    go_wp2
    go_loopw [6] (fun v wr => ∃ k : Nat, k ≤ n ∧ v = .int .i64 k ∧ Below w.heap.size w wr) (fun v _ => n - (intOf v).toNat)
    case atStart => exact ⟨0, by omega, rfl, Below.refl _ _⟩
    case round =>
      obtain ⟨k, hk, rfl, hB⟩ := hrel
      have HM := Lib.hid (numbered_any k c wr (by omega) (HT.out.imp (fun h => by omega) (fun h => h.below hB)))
      by_cases hlt : k < n
      · have hF : Hid (hasB ss (nameR k c) = true) := Lib.hid (decide_eq_true (mem_idx_lt (HX3.out k hlt)))
        generalize nameR k c = y at HM hF
        go_wp2_with (first
          | (go_at_call 49; refine (HM.out).mono ?_; rintro e w1 ⟨rfl, hB1⟩; have K1 := below_then hB hB1)
          | (go_at_call 41; refine (has_any a cap ss _ true _ (by omega) (HR.out.below K1) hF).mono ?_; rintro e w2 ⟨rfl, hB2⟩; have K2 := below_then K1 hB2))
        go_roundw
        case rel => exact ⟨k + 1, by omega, by go_num, K2⟩
        case measure => simp [intOf]; omega
      · obtain rfl : k = n := by omega
        have hF : Hid (hasB ss (nameR k c) = false) := Lib.hid (decide_eq_false (fun h => HX2.out (by rw [HX.out]; exact idx_lt_mem h)))
        have HN := fun w1 hB => Lib.hid (numbered_any k c w1 (by omega) (HT.out.imp (fun h => by omega) (fun h => Tab.below h hB)))
        have HY := HX.out
        rw [← HY] at HM hF HN
        clear HY HX
        go_wp2_with (first
          | (go_at_call 49; refine (HM.out).mono ?_; rintro e w1 ⟨rfl, hB1⟩; have K1 := below_then hB hB1)
          | (go_at_call 41; refine (has_any a cap ss _ false _ (by omega) (HR.out.below K1) hF).mono ?_; rintro e w2 ⟨rfl, hB2⟩; have K2 := below_then K1 hB2)
          | (go_at_call 49; refine ((HN _ K2).out).mono ?_; rintro e w3 ⟨rfl, hB3⟩; have K3 := below_then K2 hB3))
        go_ret2
        exact ⟨rfl, K3⟩
end Go.Proofs.YtabcggmmdjeobaaDoor.s03
