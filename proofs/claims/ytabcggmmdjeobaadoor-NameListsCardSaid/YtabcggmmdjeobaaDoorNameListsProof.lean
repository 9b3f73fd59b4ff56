/-
  NameLists: for at most 30 strings, or from 101 to 105, Sorted, Find, Twice and Fresh answer as the reference's, and the list is not changed.
-/
import Derived.Test.YtabcggmmdjeobaaDoorRows
import Derived.Test.YtabcggmmdjeobaaDoorS03T
import Derived.WalkKit
import Derived.ProofKit
import Derived.OpenShut
import Derived.ShutString
import Derived.SliceStrings
import Derived.ChangeOld
import Derived.Below
import Derived.Test.YtabcggmmdjeobaaDoorCards
import Derived.Test.YtabcggmmdjeobaaDoorTie
import Derived.Test.YtabcggmmdjeobaaDoorLaid
import Derived.SevenTiedAt
import Derived.LaidMore
namespace Go.Proofs.YtabcggmmdjeobaaDoor.nameLists
open Go.ChangeShapes Go.WideShapes Go.ChangeAt Go.RowKit
open kit s03
open Go.ChangeMaps (open_string shut_string)
set_option linter.unusedVariables false
set_option linter.unusedSimpArgs false

theorem own : ownKnob Tryd.prog.godebug = none := by kernel_rfl
theorem laidOut : laidOutB Tryd.prog = true := by kernel_rfl

/-- the same of a slice of strings -/
def IsRowS (w : World) (a : Option Addr) (len cap : Nat) (zs : List ByteArray) : Prop :=
  (a = none ∧ len = 0 ∧ cap = 0 ∧ zs = []) ∨
  ∃ x, a = some x ∧ len ≤ cap ∧ cap ≤ maxLen ∧ zs.length = cap ∧ (∀ i, i < zs.length → w.cell? (x.add i) = some (.string (zs.getD i ByteArray.empty))) ∧ ∀ s ∈ zs, s.size ≤ maxLen

set_option maxRecDepth 100000 in
set_option maxHeartbeats 2000000 in
theorem walk (a0 : Option Addr) (len0 cap0 : Nat) (z0 : List ByteArray) (a1 : ByteArray) (a2 : Bool) (w : World) (w0 : IsRowS w a0 len0 cap0 z0) (w1 : a1.size ≤ maxLen) (tab : s03.Tab w) :
    Calls Tryd.prog 5 #[.slice a0 len0 cap0, .string a1, .bool a2] w fun e w' => e = .returned (.bool true) ∧ Below w.heap.size w w' := by
  unfold maxLen at w1
  have q1 := w1
  have key : ∀ (ss : List ByteArray), ss.length = len0 → len0 ≤ maxLen → (∀ s ∈ ss, s.size ≤ maxLen) → ReadsS w a0 ss → Src w a0 cap0 (ss.map Value.string) → Calls Tryd.prog 5 #[.slice a0 len0 cap0, .string a1, .bool a2] w fun e w' => e = .returned (.bool true) ∧ Below w.heap.size w w' := by
    intro ss hl hm hz hr hs
    subst hl
    unfold maxLen at hm hz
    have HZ : Hid (∀ s ∈ ss, s.size ≤ 9223372036854775807) := Lib.hid fun s hs => by have := hz s hs; omega
    have HRl := Lib.hid hr
    have HSl := Lib.hid hs
    have hn1 : ss.length ≤ 9223372036854775807 := by omega
    clear hr hs hz
    by_cases h105 : 105 < ss.length
    · have h1 : 30 < ss.length := by omega
      have h2 : ¬ ss.length ≤ 100 := by omega
      clear HZ HRl HSl
      go_enter Tryd.func5, Tryd.ntmps5
      go_wp2_with (first
        | (go_at_call 23; (with_reducible refine (awake_any _).mono ?_); rintro e w13 ⟨rfl, K⟩))
      go_ret
      exact ⟨rfl, K⟩
    by_cases hmid : 30 < ss.length ∧ ss.length ≤ 100
    · obtain ⟨h1, h2⟩ := hmid
      clear HZ HRl HSl
      go_enter Tryd.func5, Tryd.ntmps5
      go_wp2_with (first
        | (go_at_call 23; (with_reducible refine (awake_any _).mono ?_); rintro e w13 ⟨rfl, K⟩))
      go_ret
      exact ⟨rfl, K⟩
    have hn2 : ss.length ≤ 100000 := by omega
    have H50 : Hid (ss.length < 50 ∨ 100 < ss.length) := Lib.hid (by omega)
    have H100 : ∀ w, Hid (ss.length < 100 ∨ 100 < ss.length ∨ Tab w) := fun w => Lib.hid (by rcases H50.out with h | h; exact .inl (by omega); exact .inr (.inl h))
    obtain ⟨L, er, hS, hL0⟩ := sortr_ex ss
    have hL : L.length ≤ 9223372036854775807 := by omega
    obtain ⟨f, ef, hG⟩ := freshr_ex ss a2
    obtain ⟨⟨i, ei⟩, hF⟩ : ∃ r, findR ss a1 = r := ⟨_, rfl⟩
    obtain ⟨⟨j, b, ej⟩, hT⟩ : ∃ r, twiceR ss = r := ⟨_, rfl⟩
    have HS := Lib.hid hS
    have HG := Lib.hid hG
    have HF := Lib.hid hF
    have HT := Lib.hid hT
    clear hS hG hF hT hL0
    by_cases h60 : 60 < a1.size
    · clear HZ HRl HSl
      by_cases h1 : 30 < ss.length
      · have h2 : ¬ ss.length ≤ 100 := by omega
        clear hmid
        go_enter Tryd.func5, Tryd.ntmps5
        go_wp2_with (first
          | (go_at_call 23; (with_reducible refine (awake_any _).mono ?_); rintro e w13 ⟨rfl, K⟩))
        go_ret
        exact ⟨rfl, K⟩
      · clear hmid
        go_enter Tryd.func5, Tryd.ntmps5
        go_wp2_with (first
          | (go_at_call 23; (with_reducible refine (awake_any _).mono ?_); rintro e w13 ⟨rfl, K⟩))
        go_ret
        exact ⟨rfl, K⟩
    cases hb : shortB ss 60
    · by_cases h1 : 30 < ss.length
      · have h2 : ¬ ss.length ≤ 100 := by omega
        clear hmid
        go_enter Tryd.func5, Tryd.ntmps5
        go_wp2_with (first
          | (go_at_call 30; refine (short_any a0 cap0 60 ss _ hn1 (by omega) HZ.out HRl.out).mono ?_; rintro e w9 ⟨rfl, rfl⟩)
          | (go_at_call 23; (with_reducible refine (awake_any _).mono ?_); rintro e w13 ⟨rfl, K⟩))
        go_ret
        exact ⟨rfl, K⟩
      · clear hmid
        go_enter Tryd.func5, Tryd.ntmps5
        go_wp2_with (first
          | (go_at_call 30; refine (short_any a0 cap0 60 ss _ hn1 (by omega) HZ.out HRl.out).mono ?_; rintro e w9 ⟨rfl, rfl⟩)
          | (go_at_call 23; (with_reducible refine (awake_any _).mono ?_); rintro e w13 ⟨rfl, K⟩))
        go_ret
        exact ⟨rfl, K⟩
    · by_cases h1 : 30 < ss.length
      · have h2 : ¬ ss.length ≤ 100 := by omega
        clear hmid
        go_enter Tryd.func5, Tryd.ntmps5
        go_wp2_with (first
          | (go_at_call 30; refine (short_any a0 cap0 60 ss _ hn1 (by omega) HZ.out HRl.out).mono ?_; rintro e w9 ⟨rfl, rfl⟩)
          | (go_at_call 31; (with_reducible refine (own_texts3 a0 cap0 ss _ hn2 HSl.out).mono ?_); rintro e w1 ⟨ax, cx, rfl, rx, sx, hcx, hB⟩; have HRx := Lib.hid rx; have HCx := Lib.hid hcx; clear hcx; have HSx := Lib.hid sx; clear rx sx; replace HRl := Lib.hid (HRl.out.below hB); replace HSl := Lib.hid (HSl.out.below hB); have K := hB; clear hB)
          | (go_at_call 17; (with_reducible refine (srt.sorted_any _ _ ss L er _ hn1 H50.out HRx.out HS).mono ?_); rintro e w2 ⟨aa, ca, rfl, ra, sa, hB⟩; have HRa := Lib.hid ra; clear ra sa; replace HRl := Lib.hid (HRl.out.below hB); replace HSl := Lib.hid (HSl.out.below hB); replace HRx := Lib.hid (HRx.out.below hB); replace K := below_then K hB; clear hB HSx)
          | (go_at_call 32; (with_reducible refine (sortedr_any _ _ ss L er _ hn1 HZ.out HSl.out HS).mono ?_); rintro e w3 ⟨ab, cb, rfl, rb, sb, hB⟩; have HRb := Lib.hid rb; clear rb sb; replace HRl := Lib.hid (HRl.out.below hB); replace HRx := Lib.hid (HRx.out.below hB); replace HRa := Lib.hid (HRa.out.below hB); replace K := below_then K hB; clear hB HSl)
          | (go_at_call 19; (with_reducible refine (same_texts _ _ _ _ L _ hL HRa.out HRb.out).mono ?_); rintro e w4 ⟨rfl, k4, rfl⟩; have hB := below_drewN (Below.refl w3.heap.size w3) k4; generalize w3.drewN k4 = w4 at *; replace HRl := Lib.hid (HRl.out.below hB); replace HRx := Lib.hid (HRx.out.below hB); replace K := below_then K hB; clear hB HRa HRb)
          | (go_at_call 18; (with_reducible refine (find_any _ _ ss a1 i ei _ hn1 HRx.out HF).mono ?_); rintro e w5 ⟨rfl, hB⟩; replace HRl := Lib.hid (HRl.out.below hB); replace HRx := Lib.hid (HRx.out.below hB); replace K := below_then K hB; clear hB)
          | (go_at_call 33; (with_reducible refine (findr_any _ _ ss a1 i ei _ hn1 HRl.out HF).mono ?_); rintro e w6 ⟨rfl, rfl⟩)
          | (go_at_call 20; (with_reducible refine (twice_any _ _ ss j ej b _ hn1 HCx.out HRx.out HT).mono ?_); rintro e w7 ⟨rfl, hB⟩; replace HRl := Lib.hid (HRl.out.below hB); replace HRx := Lib.hid (HRx.out.below hB); replace K := below_then K hB; clear hB)
          | (go_at_call 34; (with_reducible refine (twicer_any _ _ ss j ej b _ hn1 HRl.out HT).mono ?_); rintro e w8 ⟨rfl, rfl⟩)
          | (go_at_call 22; (with_reducible refine (fresh_any _ _ ss a2 f ef _ hn1 (H100 _).out HRx.out HG).mono ?_); rintro e w10 ⟨rfl, hB⟩; replace HRl := Lib.hid (HRl.out.below hB); replace HRx := Lib.hid (HRx.out.below hB); replace K := below_then K hB; clear hB)
          | (go_at_call 35; (with_reducible refine (freshr_any _ _ ss a2 f ef _ hn1 HRl.out HG).mono ?_); rintro e w11 ⟨rfl, k11, rfl⟩; have hB := below_drewN (Below.refl w10.heap.size w10) k11; generalize w10.drewN k11 = w11 at *; replace HRl := Lib.hid (HRl.out.below hB); replace HRx := Lib.hid (HRx.out.below hB); replace K := below_then K hB; clear hB)
          | (go_at_call 19; (with_reducible refine (same_texts _ _ _ _ ss _ hn1 HRx.out HRl.out).mono ?_); rintro e w12 ⟨rfl, k12, rfl⟩; have hB := below_drewN (Below.refl w11.heap.size w11) k12; generalize w11.drewN k12 = w12 at *; replace K := below_then K hB; clear hB HRl HRx)
          | (go_at_call 23; (with_reducible refine (awake_any _).mono ?_); rintro e w13 ⟨rfl, hB⟩; replace K := below_then K hB; clear hB))
        go_ret
        exact ⟨rfl, K⟩
      · clear hmid
        go_enter Tryd.func5, Tryd.ntmps5
        go_wp2_with (first
          | (go_at_call 30; refine (short_any a0 cap0 60 ss _ hn1 (by omega) HZ.out HRl.out).mono ?_; rintro e w9 ⟨rfl, rfl⟩)
          | (go_at_call 31; (with_reducible refine (own_texts3 a0 cap0 ss _ hn2 HSl.out).mono ?_); rintro e w1 ⟨ax, cx, rfl, rx, sx, hcx, hB⟩; have HRx := Lib.hid rx; have HCx := Lib.hid hcx; clear hcx; have HSx := Lib.hid sx; clear rx sx; replace HRl := Lib.hid (HRl.out.below hB); replace HSl := Lib.hid (HSl.out.below hB); have K := hB; clear hB)
          | (go_at_call 17; (with_reducible refine (srt.sorted_any _ _ ss L er _ hn1 H50.out HRx.out HS).mono ?_); rintro e w2 ⟨aa, ca, rfl, ra, sa, hB⟩; have HRa := Lib.hid ra; clear ra sa; replace HRl := Lib.hid (HRl.out.below hB); replace HSl := Lib.hid (HSl.out.below hB); replace HRx := Lib.hid (HRx.out.below hB); replace K := below_then K hB; clear hB HSx)
          | (go_at_call 32; (with_reducible refine (sortedr_any _ _ ss L er _ hn1 HZ.out HSl.out HS).mono ?_); rintro e w3 ⟨ab, cb, rfl, rb, sb, hB⟩; have HRb := Lib.hid rb; clear rb sb; replace HRl := Lib.hid (HRl.out.below hB); replace HRx := Lib.hid (HRx.out.below hB); replace HRa := Lib.hid (HRa.out.below hB); replace K := below_then K hB; clear hB HSl)
          | (go_at_call 19; (with_reducible refine (same_texts _ _ _ _ L _ hL HRa.out HRb.out).mono ?_); rintro e w4 ⟨rfl, k4, rfl⟩; have hB := below_drewN (Below.refl w3.heap.size w3) k4; generalize w3.drewN k4 = w4 at *; replace HRl := Lib.hid (HRl.out.below hB); replace HRx := Lib.hid (HRx.out.below hB); replace K := below_then K hB; clear hB HRa HRb)
          | (go_at_call 18; (with_reducible refine (find_any _ _ ss a1 i ei _ hn1 HRx.out HF).mono ?_); rintro e w5 ⟨rfl, hB⟩; replace HRl := Lib.hid (HRl.out.below hB); replace HRx := Lib.hid (HRx.out.below hB); replace K := below_then K hB; clear hB)
          | (go_at_call 33; (with_reducible refine (findr_any _ _ ss a1 i ei _ hn1 HRl.out HF).mono ?_); rintro e w6 ⟨rfl, rfl⟩)
          | (go_at_call 20; (with_reducible refine (twice_any _ _ ss j ej b _ hn1 HCx.out HRx.out HT).mono ?_); rintro e w7 ⟨rfl, hB⟩; replace HRl := Lib.hid (HRl.out.below hB); replace HRx := Lib.hid (HRx.out.below hB); replace K := below_then K hB; clear hB)
          | (go_at_call 34; (with_reducible refine (twicer_any _ _ ss j ej b _ hn1 HRl.out HT).mono ?_); rintro e w8 ⟨rfl, rfl⟩)
          | (go_at_call 22; (with_reducible refine (fresh_any _ _ ss a2 f ef _ hn1 (H100 _).out HRx.out HG).mono ?_); rintro e w10 ⟨rfl, hB⟩; replace HRl := Lib.hid (HRl.out.below hB); replace HRx := Lib.hid (HRx.out.below hB); replace K := below_then K hB; clear hB)
          | (go_at_call 35; (with_reducible refine (freshr_any _ _ ss a2 f ef _ hn1 HRl.out HG).mono ?_); rintro e w11 ⟨rfl, k11, rfl⟩; have hB := below_drewN (Below.refl w10.heap.size w10) k11; generalize w10.drewN k11 = w11 at *; replace HRl := Lib.hid (HRl.out.below hB); replace HRx := Lib.hid (HRx.out.below hB); replace K := below_then K hB; clear hB)
          | (go_at_call 19; (with_reducible refine (same_texts _ _ _ _ ss _ hn1 HRx.out HRl.out).mono ?_); rintro e w12 ⟨rfl, k12, rfl⟩; have hB := below_drewN (Below.refl w11.heap.size w11) k12; generalize w11.drewN k12 = w12 at *; replace K := below_then K hB; clear hB HRl HRx)
          | (go_at_call 23; (with_reducible refine (awake_any _).mono ?_); rintro e w13 ⟨rfl, hB⟩; replace K := below_then K hB; clear hB))
        go_ret
        exact ⟨rfl, K⟩
  rcases w0 with ⟨rfl, rfl, rfl, rfl⟩ | ⟨x, rfl, hl, hm, hz, hcell, hwz⟩
  · exact key [] rfl (by unfold maxLen; omega) (fun s hs => by cases hs) (Reads.nil _ _) (.inl ⟨rfl, rfl, rfl⟩)
  · obtain ⟨hr, hs⟩ := row_in Value.string ByteArray.empty hl hz hcell
    exact key (z0.take len0) (by simp; omega) (by omega) (fun s hs => hwz s (List.mem_of_mem_take hs)) hr (.inr ⟨x, rfl, hs⟩)

set_option maxRecDepth 100000 in
theorem lifted (os : Os) (started : os.Started) (H : Type) (enc : TypeId × Value → H) :
    ReturnsInHanded {} Tryd.checked os 5 .any (fun w args => (Rows.nameListsSpec.pre enc Tryd.prog Tryd.f5 [] false w args ∧ laidMetH Tryd.prog Rows.nameListsRow.laid w) ∧ sizedMet enc Tryd.prog Tryd.f5 (OpenSpec.ofChange Rows.nameListsSpec) false w args) (Rows.nameListsSpec.post enc Tryd.prog Tryd.f5 false true false false) := by
  refine returnsInHanded_of_change_and (C := Tryd.checked) (X := fun w _ => laidMetH Tryd.prog Rows.nameListsRow.laid w) (fun _ _ _ hh h => h.of_heap hh) own started (by kernel_rfl) Tryd.func5
    (ChangeSpec.witness_shaped (enc := enc) (C := Tryd.checked) (os := os) (X := fun w _ => laidMetH Tryd.prog Rows.nameListsRow.laid w) false (World.doorLaid Tryd.prog 24 os) #[.slice none 0 0, .string ByteArray.empty, .bool false] 8 rfl (World.shaped_of_RefB (by kernel_rfl) (by kernel_rfl)) (by kernel_rfl) (by kernel_rfl) (by kernel_rfl) (laid.door_met os _)) ?_
  intro W base args ds gs before hval0 hW _ _ hL _
  have tab := laid.tab_of_laid hL
  have hval : ∀ (j : Nat) t v, Tryd.f5.params[j]? = some t → args[j]? = some v → Value.okWide Tryd.prog W .any base t v := hval0
  have hW' := hW
  obtain ⟨p, q, hA0, hV, rfl, hfz, hnd⟩ := hW
  have hA : DataW.TrodAll enc Tryd.prog W 0 (fun _ => true) true Tryd.f5.params.toList args.toList ds p := hA0
  rw [Tryd.params5] at hA hval
  obtain ⟨v0, vs0, d0, ds0, p0, q0, hargs, rfl, rfl, h0, r0⟩ := trodAll_cons hA
  obtain ⟨v1, vs1, d1, ds1, p1, q1, rfl, rfl, rfl, h1, r1⟩ := trodAll_cons r0
  obtain ⟨v2, vs2, d2, ds2, p2, q2, rfl, rfl, rfl, h2, r2⟩ := trodAll_cons r1
  obtain ⟨rfl, rfl, rfl⟩ := trodAll_nil r2
  obtain rfl : args = #[v0, v1, v2] := by cases args; simp_all
  obtain ⟨rfl, rfl⟩ := trodVars_none hV
  have k0 := h0
  have lt0 : ∀ x ∈ p0, x.block < W.heap.size := by obtain ⟨m, hm⟩ := k0; exact DataW.trod_lt m _ _ _ hm
  have k1 := h1
  have lt1 : ∀ x ∈ p1, x.block < W.heap.size := by obtain ⟨m, hm⟩ := k1; exact DataW.trod_lt m _ _ _ hm
  have k2 := h2
  have lt2 : ∀ x ∈ p2, x.block < W.heap.size := by obtain ⟨m, hm⟩ := k2; exact DataW.trod_lt m _ _ _ hm
  obtain ⟨a0, len0, cap0, rfl⟩ := okWide_slice Tryd.underlying26 (hval 0 26 v0 rfl rfl)
  obtain ⟨z0, w0⟩ : ∃ zs, IsRowS W a0 len0 cap0 zs := by
    obtain ⟨fuel, hf⟩ := h0
    rcases open_strings Tryd.underlying26 Tryd.underlying9 (by kernel_rfl) hf with ⟨hcs, _⟩ | ⟨x, l, c, zs, hcs, _, hl, hm, hz, _, hcell, hwz⟩
    · simp [Value.cells] at hcs
      obtain ⟨rfl, rfl, rfl⟩ := hcs
      exact ⟨[], .inl ⟨rfl, rfl, rfl, rfl⟩⟩
    · simp [Value.cells] at hcs
      obtain ⟨rfl, rfl, rfl⟩ := hcs
      exact ⟨zs, .inr ⟨_, rfl, hl, hm, by simpa using hz, hcell, hwz⟩⟩
  obtain ⟨a1, rfl, rfl, rfl, w1⟩ := open_string Tryd.underlying9 (hval 1 9 v1 rfl rfl) h1
  obtain ⟨a2, rfl, rfl, rfl⟩ := open_bool Tryd.underlying4 (hval 2 4 v2 rfl rfl) h2
  clear hA0 hval0
  refine (walk a0 len0 cap0 z0 a1 a2 W w0 w1 tab).mono fun e W' ⟨he, bel⟩ => ?_
  subst he
  exact ⟨_, rfl, _, _, _, [], _, [], hW', trodAll_mk1 (shut_bool Tryd.underlying4 _), trodAll_cons_mk (Below.trod laidOut (by kernel_rfl) (of_decide_eq_true (by kernel_rfl)) k0 bel lt0) (trodAll_cons_mk (Below.trod laidOut (by kernel_rfl) (of_decide_eq_true (by kernel_rfl)) k1 bel lt1) (trodAll_cons_mk (Below.trod laidOut (by kernel_rfl) (of_decide_eq_true (by kernel_rfl)) k2 bel lt2) trodAll_mk0)), rfl, bel.frame _, fun h => by cases h⟩

theorem over : Rows.nameListsRow.holds Tryd.pinned (OpenSpec.ofChange Rows.nameListsSpec) :=
  OpenClaim.holds_of_wide 5 Tryd.f5 rfl rfl rfl rfl rfl rfl rfl ⟨rfl, rfl, rfl, rfl, rfl⟩ rfl rfl rfl rfl rfl (by kernel_rfl) Tryd.func5 (by kernel_rfl)
    (of_decide_eq_true (by kernel_rfl)) (by unfold Func.isWrapper; first | (rw [if_pos (by decide +kernel)]; kernel_rfl) | (rw [if_neg (by decide +kernel)]; exact ⟨rfl, rfl⟩))
    (fun os started H enc _ => lifted os started H enc)

/-- THE STATEMENT -/
theorem proved : Rows.NameListsCardSaid :=
  Claim7.holds_tied_plain_at .later [] [.data, .data, .data] true _ false
    over (fun _ h => by cases h) (by kernel_rfl) (fun _ h => by cases h) nameLists_row_tie rfl ⟨rfl, rfl⟩ (by kernel_rfl) rfl
    (fun f fn hf hfn => by
      obtain rfl : f = 5 := Option.some.inj ((show Tryd.prog.funcNamed Rows.nameListsRow.func = some 5 by kernel_rfl).symm.trans hf) |>.symm
      obtain rfl : fn = Tryd.f5 := (Option.some.inj (Tryd.func5.symm.trans hfn)).symm
      exact ⟨by kernel_rfl, fun j t ht => by
        rw [Tryd.params5] at ht
        have hm : t ∈ Tryd.f5.params.toList := by rw [Tryd.params5]; simpa using Array.mem_of_getElem? ht
        have hall : (Tryd.f5.params.toList.all fun u => !Tryd.prog.wantsStandIn u) = true := by kernel_rfl
        exact (show Tryd.prog.wantsStandIn t = false by simpa using List.all_eq_true.1 hall t hm)⟩)
    (by kernel_rfl)
#print axioms proved
end Go.Proofs.YtabcggmmdjeobaaDoor.nameLists
