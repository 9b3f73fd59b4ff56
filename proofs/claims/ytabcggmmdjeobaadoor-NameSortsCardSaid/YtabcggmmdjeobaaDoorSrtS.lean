/-
  The program's Sorted, below 50 strings or above 100.
-/
import Derived.Test.YtabcggmmdjeobaaDoorSrtQ
import Derived.Test.YtabcggmmdjeobaaDoorS03E
import Derived.Test.YtabcggmmdjeobaaDoorS03L
namespace Go.Proofs.YtabcggmmdjeobaaDoor.srt
set_option linter.unusedVariables false
set_option linter.unusedSimpArgs false
open Go.RowKit
open kit s03
open Go.Sort (swp grow SWO PermIn SortedIn)

theorem len_le (n : Nat) (h : n < 50) : Lib.bitLen n ≤ 1000 := by
  have key : ∀ l : Fin 50, Lib.bitLen l.val ≤ 1000 := by decide +kernel
  exact key ⟨n, h⟩
set_option maxRecDepth 100000 in
set_option maxHeartbeats 4000000 in
theorem sortfunc_any (B g cap n : Nat) (w0 w : World) (d : Array ByteArray) (hs : d.size = n) (h50 : n < 50) (hR : RowS B g w0 d w) :
    Calls Tryd.prog 46 #[.slice (some ⟨g, 0, none⟩) n cap, .func (.func 44) #[.agg #[]] #[]] w fun e w' => e = .returned (.tuple #[]) ∧ ∃ d', RowS B g w0 d' w' ∧ d'.size = n ∧ PermIn 0 n d d' ∧ SortedIn ltS 0 n d' := by
  have HR := Lib.hid hR
  have HL := fun w => Lib.hid (Any.bits_Len lay.layLen (n : Int) w (by omega) (by omega))
  rw [Int.toNat_natCast] at HL
  have hl := len_le n h50
  have wl : IntKind.u64.wrap (n : Int) = n := wrap_u64_in _ (by omega) (by omega)
  generalize Lib.bitLen n = k at hl HL
  have HP := Lib.hid (pdq_any B g cap n w0 (by omega) n 0 n k d w (by omega) (by omega) (Nat.le_refl _) (by omega) hl hs (.inl rfl) hR)
  clear hR
  go_enter Tryd.func46, Tryd.ntmps46
  go_wp2_with (first
    | (go_at_call 55; refine ((HL _).out).mono ?_; rintro e w1 ⟨rfl, rfl⟩)
    | (go_at_call 54; refine (HP.out).mono ?_; rintro e w2 ⟨rfl, d', r2, s2, p2, q2⟩; have R2 := row_hid r2; have S2 := Lib.hid s2; have P2 := Lib.hid p2; have Q2 := Lib.hid q2; clear r2 s2 p2 q2))
  first
    | go_end0
    | (refine bodyPost_ret (results_none rfl _ _ _) rfl ?_)
  exact ⟨rfl, d', R2.out, S2.out, P2.out, Q2.out⟩

/-! ### between rows and lists -/
theorem arr_row {B g : Nat} {w0 w : World} {l : List ByteArray} (hB : Below B w0 w) (hg : B ≤ g) (h : Arr Value.string ByteArray.empty 9 w g l) : RowS B g w0 l.toArray w := by
  obtain ⟨cs, hb, h1, h2⟩ := h
  refine ⟨hB, hg, cs, hb, by simpa using h1, fun i hi => ?_⟩
  have hi : i < l.length := by simpa using hi
  rw [h2 i hi, getElem!_pos l.toArray i (by simpa using hi), List.getElem?_eq_getElem hi]
  rfl
theorem row_arr {B g : Nat} {w0 w : World} {d : Array ByteArray} (h : RowS B g w0 d w) : Arr Value.string ByteArray.empty 9 w g d.toList := by
  obtain ⟨_, _, cs, hb, h1, h2⟩ := h
  refine ⟨cs, hb, by simpa using h1, fun i hi => ?_⟩
  have hi : i < d.size := by simpa using hi
  rw [h2 i hi, getElem!_pos d i hi, List.getElem?_eq_getElem (by simpa using hi)]
  rfl
theorem perm_list {d e : Array ByteArray} (h : PermIn 0 d.size d e) : e.toList.Perm d.toList := by
  have h3 := h.2.2
  rw [Array.extract_eq_self_of_le (by rw [h.1]; exact Nat.le_refl _), Array.extract_eq_self_of_le (Nat.le_refl _)] at h3
  exact h3
theorem sorted_list {e : Array ByteArray} (h : SortedIn ltS 0 e.size e) : e.toList.Pairwise le := by
  rw [List.pairwise_iff_getElem]
  intro i j hi hj hij
  have hj : j < e.size := by simpa using hj
  have := of_decide_eq_false (h i j (Nat.zero_le _) hij hj)
  rw [getElem!_pos e j hj, getElem!_pos e i (by omega)] at this
  have a1 := cmp_neg (e[i]'(by omega)).data.toList (e[j]).data.toList
  unfold le
  show cmpR (e[i]'(by omega)).data.toList (e[j]).data.toList ≤ 0
  omega
theorem clone_any (a : Option Addr) (c : Nat) (ss : List ByteArray) (w : World) (hpos : 0 < ss.length) (hl : ss.length ≤ 1000) (hr : ReadsS w a ss) :
    Calls Tryd.prog 45 #[.slice a ss.length c] w fun e w' => ∃ g cap, e = .returned (.slice (some ⟨g, 0, none⟩) ss.length cap) ∧ RowS w.heap.size g w ss.toArray w' := by
  obtain ⟨b, off, rfl, hb, _⟩ := hr 0 hpos
  refine (Any.slices_Clone_string lay.layClone b off ss.length c ss w (Nat.le_refl _) (by omega) (fun j hj => ?_)).mono ?_
  · obtain ⟨b2, off2, e, _, hc⟩ := hr j hj
    cases e
    rw [hc, List.getD_eq_getElem?_getD]
  · rintro e w' ⟨v', rfl, hown, _, hB⟩
    rw [List.take_length] at hown
    obtain ⟨g, cap, rfl, hg, hA⟩ := Arr.of_row (d := ByteArray.empty) rfl hpos hown
    exact ⟨g, cap, rfl, arr_row hB hg hA⟩
theorem clone_none (a : Option Addr) (c : Nat) (w : World) : Calls Tryd.prog 45 #[.slice a 0 c] w fun e w' => ∃ a' cap, e = .returned (.slice a' 0 cap) ∧ Below w.heap.size w w' ∧ (a' = none → cap = 0) := by
  cases a with
  | none =>
    refine (Any.slices_Clone_string_nil lay.layClone 0 c w).mono ?_
    rintro e w' ⟨rfl, rfl⟩
    exact ⟨_, _, rfl, Below.refl _ _, fun _ => rfl⟩
  | some a =>
    refine (Any.slices_Clone_string_zero lay.layClone a c w).mono ?_
    rintro e w' ⟨v', rfl, hown, hne, hB⟩
    obtain ⟨a', cap, rfl⟩ := row_shape hown
    refine ⟨a', cap, rfl, hB, fun h => ?_⟩
    subst h
    rcases hown.2 with ⟨e, _⟩ | ⟨_, _, _, e, _⟩
    · cases e; rfl
    · cases e

set_option maxRecDepth 100000 in
theorem ins_none (a : Option Addr) (cap : Nat) (fv : Value) (w : World) : Calls Tryd.prog 59 #[.slice a 0 cap, .int .i64 0, .int .i64 0, fv] w fun e w' => e = .returned (.tuple #[]) ∧ w = w' := by
  go_enter Tryd.func59, Tryd.ntmps59
  go_wp2
  go_loop [8] (fun v => v = .int .i64 1) (fun _ => 0)
  case atStart => rfl
  case round =>
    obtain rfl := hrel
    go_wp2
    go_end0
    exact ⟨rfl, rfl⟩
set_option maxRecDepth 100000 in
theorem pdq_none (a : Option Addr) (cap k : Nat) (fv : Value) (w : World) : Calls Tryd.prog 54 #[.slice a 0 cap, .int .i64 0, .int .i64 0, .int .i64 (k : Int), fv] w fun e w' => e = .returned (.tuple #[]) ∧ w = w' := by
  go_enter Tryd.func54, Tryd.ntmps54
  go_wp2
  go_loop [1, 2] (fun u v => u = .int .i64 0 ∧ v = .int .i64 0) (fun _ _ => 0)
  case atStart => exact ⟨rfl, rfl⟩
  case round =>
    obtain ⟨rfl, rfl⟩ := hrel
    go_wp2_with (go_at_call 59; refine (ins_none a cap fv _).mono ?_; rintro e w1 ⟨rfl, rfl⟩)
    first
      | go_end0
      | (refine bodyPost_ret (results_none rfl _ _ _) rfl ?_)
    exact ⟨rfl, rfl⟩
set_option maxRecDepth 100000 in
theorem sortfunc_none (a : Option Addr) (cap : Nat) (fv : Value) (w : World) : Calls Tryd.prog 46 #[.slice a 0 cap, fv] w fun e w' => e = .returned (.tuple #[]) ∧ w = w' := by
  have HL := fun w => Lib.hid (Any.bits_Len lay.layLen (0 : Int) w (by omega) (by omega))
  go_enter Tryd.func46, Tryd.ntmps46
  go_wp2_with (first
    | (go_at_call 55; refine ((HL _).out).mono ?_; rintro e w1 ⟨rfl, rfl⟩)
    | (go_at_call 54; refine (pdq_none a cap _ fv _).mono ?_; rintro e w2 ⟨rfl, rfl⟩))
  first
    | go_end0
    | (refine bodyPost_ret (results_none rfl _ _ _) rfl ?_)
  exact ⟨rfl, rfl⟩

set_option maxRecDepth 100000 in
set_option maxHeartbeats 1000000 in
theorem sorted_any (a : Option Addr) (c : Nat) (ss L : List ByteArray) (er : Int) (w : World) (hn : ss.length ≤ 9223372036854775807) (hlen : ss.length < 50 ∨ 100 < ss.length) (hr : ReadsS w a ss) (H : Hid (SortR ss L er)) :
    Calls Tryd.prog 17 #[.slice a ss.length c] w (LstS w L er) := by
  have hmf : ∀ (fn : Fn) (first cap : Array Value) (w : World), (Instr.makeFunc fn first cap).run Tryd.prog w = .ok (.func fn first cap) w := fun _ _ _ _ => rfl
  rcases Nat.lt_or_ge 100 ss.length with hb | hb
  · have hX : L = [] ∧ er = 6 := by
      rcases H.out with ⟨_, h1, h2⟩ | ⟨h, _⟩
      · exact ⟨h1, h2⟩
      · omega
    obtain ⟨rfl, rfl⟩ := hX
    clear H hr hlen
    go_enter Tryd.func17, Tryd.ntmps17
    go_wp2
    go_ret2
    exact ⟨_, _, rfl, Reads.nil _ _, .inl ⟨rfl, rfl, rfl⟩, Below.refl _ _⟩
  · have h50 : ss.length < 50 := by omega
    have HLs : Hid (SortedOf ss L ∧ er = 0) := Lib.hid (by
      rcases H.out with ⟨h, _⟩ | ⟨_, h1, h2⟩
      · omega
      · exact ⟨h1, h2⟩)
    obtain rfl := HLs.out.2
    clear H hlen
    rcases Nat.eq_zero_or_pos ss.length with h0 | hpos
    · obtain rfl : ss = [] := List.length_eq_zero_iff.1 h0
      obtain rfl : L = [] := List.perm_nil.1 HLs.out.1.1
      clear h0 hr
      go_enter Tryd.func17, Tryd.ntmps17
      go_wp2_with (first
        | (go_at_call 45; refine (clone_none a c _).mono ?_; rintro e w1 ⟨a1, c1, rfl, hB1, hn1⟩; have HN1 := Lib.hid hn1; clear hn1)
        | (go_at_call 46; refine (sortfunc_none _ _ _ _).mono ?_; rintro e w2 ⟨rfl, rfl⟩))
      go_ret2
      refine ⟨a1, c1, rfl, Reads.nil _ _, ?_, hB1⟩
      cases a1 with
      | none => exact .inl ⟨rfl, rfl, HN1.out rfl⟩
      | some x => exact .inr ⟨x, rfl, fun j u hu => by simp at hu⟩
    · have HC := Lib.hid (clone_any a c ss w hpos (by omega) hr)
      clear hr
      go_enter Tryd.func17, Tryd.ntmps17
      go_wp2_with (first
        | (go_at_call 45; refine (HC.out).mono ?_; rintro e w1 ⟨g, c1, rfl, r1⟩; have R1 := row_hid r1; clear r1)
        | (go_at_call 46; (with_reducible refine (sortfunc_any w.heap.size g c1 ss.length w _ ss.toArray (by simp) h50 R1.out).mono ?_); rintro e w2 ⟨rfl, d', r2, s2, p2, q2⟩; have R2 := row_hid r2; have S2 := Lib.hid s2; have P2 := Lib.hid p2; have Q2 := Lib.hid q2; clear r2 s2 p2 q2))
      go_ret2
      have hp : d'.toList.Perm ss := perm_list (d := ss.toArray) (by simpa using P2.out)
      have hq : d'.toList.Pairwise le := sorted_list (by rw [S2.out]; exact Q2.out)
      have he : d'.toList = L := SortedOf.unique ⟨hp, hq⟩ HLs.out.1
      have hA := row_arr R2.out
      rw [he] at hA
      have hlen : L.length = ss.length := by rw [← he, hp.length_eq]
      refine ⟨some ⟨g, 0, none⟩, c1, ?_, hA.reads, arr_src hA, R2.out.1⟩
      rw [hlen]
      rfl
end Go.Proofs.YtabcggmmdjeobaaDoor.srt
