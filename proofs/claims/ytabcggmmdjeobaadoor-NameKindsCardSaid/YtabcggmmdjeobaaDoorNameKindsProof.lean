/-
  NameKinds: for any string, it is a small or a capital name just if it is a name, and a word with a digit more is a name.
-/
import Derived.Test.YtabcggmmdjeobaaDoorRows
import Derived.Test.YtabcggmmdjeobaaDoorS03S
import Derived.WalkKit
import Derived.ProofKit
import Derived.OpenShut
import Derived.ShutString
import Derived.SliceStrings
import Derived.ChangeOld
import Derived.Below
import Derived.Test.YtabcggmmdjeobaaDoorCards
import Derived.Test.YtabcggmmdjeobaaDoorTie
import Derived.Test.YtabcggmmdjeobaaDoorLaid
import Derived.SevenTiedAt
import Derived.LaidMore
namespace Go.Proofs.YtabcggmmdjeobaaDoor.nameKinds
open Go.ChangeShapes Go.WideShapes Go.ChangeAt Go.RowKit
open kit s03
open Go.ChangeMaps (open_string shut_string)
set_option linter.unusedVariables false
set_option linter.unusedSimpArgs false

theorem own : ownKnob Tryd.prog.godebug = none := by kernel_rfl
theorem laidOut : laidOutB Tryd.prog = true := by kernel_rfl

set_option maxRecDepth 100000 in
set_option maxHeartbeats 2000000 in
theorem walk (a0 : ByteArray) (w : World) (w0 : a0.size ≤ maxLen) (tab : s03.Tab w) :
    Calls Tryd.prog 7 #[.string a0] w fun e w' => e = .returned (.bool true) ∧ Below w.heap.size w w' := by
  unfold maxLen at w0
  have q0 := w0
  by_cases hn : 60 < a0.size
  · go_enter Tryd.func7, Tryd.ntmps7
    go_wp2_with (go_at_call 23; refine (awake_any _).mono ?_; rintro e w9 ⟨rfl, hB9⟩)
    go_ret
    exact ⟨rfl, hB9⟩
  have hl : a0.data.toList.length = a0.size := by simp
  have ht : (a0 ++ ⟨#[48]⟩ : ByteArray).data.toList = a0.data.toList ++ [48] := by simp
  have hts : (a0 ++ ⟨#[48]⟩ : ByteArray).size = a0.size + 1 := by simp; rfl
  have qt : (a0 ++ ⟨#[48]⟩ : ByteArray).size ≤ 9223372036854775807 := by omega
  have qs : a0.size + (⟨#[48]⟩ : ByteArray).size ≤ 9223372036854775807 := by show _ + 1 ≤ _; omega
  obtain ⟨c, hC⟩ : ∃ c, checkR a0.data.toList = c := ⟨_, rfl⟩
  obtain ⟨x, hW⟩ : ∃ c, wordR a0.data.toList = c := ⟨_, rfl⟩
  obtain ⟨b, hS⟩ : ∃ b, kindB 97 122 a0.data.toList = b := ⟨_, rfl⟩
  obtain ⟨d, hU⟩ : ∃ b, kindB 65 90 a0.data.toList = b := ⟨_, rfl⟩
  have HC := Lib.hid hC
  have HW := Lib.hid hW
  have HS := Lib.hid hS
  have HU := Lib.hid hU
  have hx : x ≠ 0 → c ≠ 0 := fun h e => h (by rw [← hW]; exact check_word (by rw [hC]; exact e))
  have hk : (c = 0 → d = !b) ∧ (c ≠ 0 → b = false ∧ d = false) := by
    refine ⟨fun h => ?_, fun h => ⟨?_, ?_⟩⟩
    · rw [← hS, ← hU]; exact kinds_one (by rw [hC]; exact h)
    · rw [← hS]; exact kind_no (by rw [hC]; exact h)
    · rw [← hU]; exact kind_no (by rw [hC]; exact h)
  by_cases h12 : x = 0 ∧ a0.size < 12
  · obtain ⟨hx0, h12⟩ := h12
    have hT := check_more (by rw [hW]; exact hx0) (by rw [hl]; exact h12)
    rw [← ht] at hT
    have HTC := Lib.hid hT
    obtain ⟨b', hS'⟩ : ∃ b, kindB 97 122 (a0 ++ ⟨#[48]⟩ : ByteArray).data.toList = b := ⟨_, rfl⟩
    have HTS := Lib.hid hS'
    have hU' := kinds_one hT
    rw [hS'] at hU'
    have HTU := Lib.hid hU'
    subst hx0
    clear hT hS' hU' hC hW hS hU hx ht hts hl
    by_cases hc : c = 0
    · have := hk.1 hc
      clear hk
      subst hc; subst this
      cases b <;> cases b'
      all_goals
        have K := Below.refl w.heap.size w
        go_enter Tryd.func7, Tryd.ntmps7
        go_wp2_with (first
          | (go_at_call 12; (with_reducible refine (check_is a0 _ _ q0 HC).mono ?_); rintro e w2 ⟨rfl, hB⟩; replace K := below_then K hB; clear hB)
          | (go_at_call 14; (with_reducible refine (small_is a0 _ _ q0 HS).mono ?_); rintro e w2 ⟨rfl, hB⟩; replace K := below_then K hB; clear hB)
          | (go_at_call 15; (with_reducible refine (capital_is a0 _ _ q0 HU).mono ?_); rintro e w2 ⟨rfl, hB⟩; replace K := below_then K hB; clear hB)
          | (go_at_call 11; (with_reducible refine (word_is a0 _ _ q0 HW).mono ?_); rintro e w2 ⟨rfl, hB⟩; replace K := below_then K hB; clear hB)
          | (go_at_call 12; (with_reducible refine (check_is (a0 ++ ⟨#[48]⟩) _ _ qt HTC).mono ?_); rintro e w2 ⟨rfl, hB⟩; replace K := below_then K hB; clear hB)
          | (go_at_call 14; (with_reducible refine (small_is (a0 ++ ⟨#[48]⟩) _ _ qt HTS).mono ?_); rintro e w2 ⟨rfl, hB⟩; replace K := below_then K hB; clear hB)
          | (go_at_call 15; (with_reducible refine (capital_is (a0 ++ ⟨#[48]⟩) _ _ qt HTU).mono ?_); rintro e w2 ⟨rfl, hB⟩; replace K := below_then K hB; clear hB)
          | (go_at_call 23; (with_reducible refine (awake_any _).mono ?_); rintro e w2 ⟨rfl, hB⟩; replace K := below_then K hB; clear hB))
        go_ret
        exact ⟨rfl, K⟩
    · have h2 := hk.2 hc
      clear hk
      obtain ⟨h2, h3⟩ := h2
      subst h2; subst h3
      cases b'
      all_goals
        have K := Below.refl w.heap.size w
        go_enter Tryd.func7, Tryd.ntmps7
        go_wp2_with (first
          | (go_at_call 12; (with_reducible refine (check_is a0 _ _ q0 HC).mono ?_); rintro e w2 ⟨rfl, hB⟩; replace K := below_then K hB; clear hB)
          | (go_at_call 14; (with_reducible refine (small_is a0 _ _ q0 HS).mono ?_); rintro e w2 ⟨rfl, hB⟩; replace K := below_then K hB; clear hB)
          | (go_at_call 15; (with_reducible refine (capital_is a0 _ _ q0 HU).mono ?_); rintro e w2 ⟨rfl, hB⟩; replace K := below_then K hB; clear hB)
          | (go_at_call 11; (with_reducible refine (word_is a0 _ _ q0 HW).mono ?_); rintro e w2 ⟨rfl, hB⟩; replace K := below_then K hB; clear hB)
          | (go_at_call 12; (with_reducible refine (check_is (a0 ++ ⟨#[48]⟩) _ _ qt HTC).mono ?_); rintro e w2 ⟨rfl, hB⟩; replace K := below_then K hB; clear hB)
          | (go_at_call 14; (with_reducible refine (small_is (a0 ++ ⟨#[48]⟩) _ _ qt HTS).mono ?_); rintro e w2 ⟨rfl, hB⟩; replace K := below_then K hB; clear hB)
          | (go_at_call 15; (with_reducible refine (capital_is (a0 ++ ⟨#[48]⟩) _ _ qt HTU).mono ?_); rintro e w2 ⟨rfl, hB⟩; replace K := below_then K hB; clear hB)
          | (go_at_call 23; (with_reducible refine (awake_any _).mono ?_); rintro e w2 ⟨rfl, hB⟩; replace K := below_then K hB; clear hB))
        go_ret
        exact ⟨rfl, K⟩
  · clear hC hW hS hU ht hts hl qt qs
    by_cases hc : c = 0
    · have := hk.1 hc
      have hx0 : x = 0 := by by_cases h : x = 0; exact h; exact absurd hc (hx h)
      have h13 : ¬ a0.size < 12 := fun h => h12 ⟨hx0, h⟩
      clear hk hx h12
      subst hx0; subst hc; subst this
      cases b
      all_goals
        have K := Below.refl w.heap.size w
        go_enter Tryd.func7, Tryd.ntmps7
        go_wp2_with (first
          | (go_at_call 12; (with_reducible refine (check_is a0 _ _ q0 HC).mono ?_); rintro e w2 ⟨rfl, hB⟩; replace K := below_then K hB; clear hB)
          | (go_at_call 14; (with_reducible refine (small_is a0 _ _ q0 HS).mono ?_); rintro e w2 ⟨rfl, hB⟩; replace K := below_then K hB; clear hB)
          | (go_at_call 15; (with_reducible refine (capital_is a0 _ _ q0 HU).mono ?_); rintro e w2 ⟨rfl, hB⟩; replace K := below_then K hB; clear hB)
          | (go_at_call 11; (with_reducible refine (word_is a0 _ _ q0 HW).mono ?_); rintro e w2 ⟨rfl, hB⟩; replace K := below_then K hB; clear hB)
          | (go_at_call 23; (with_reducible refine (awake_any _).mono ?_); rintro e w2 ⟨rfl, hB⟩; replace K := below_then K hB; clear hB))
        go_ret
        exact ⟨rfl, K⟩
    · have h2 := hk.2 hc
      clear hk hx
      obtain ⟨h2, h3⟩ := h2
      subst h2; subst h3
      by_cases hx0 : x = 0
      · have h13 : ¬ a0.size < 12 := fun h => h12 ⟨hx0, h⟩
        clear h12
        subst hx0
        have K := Below.refl w.heap.size w
        go_enter Tryd.func7, Tryd.ntmps7
        go_wp2_with (first
          | (go_at_call 12; (with_reducible refine (check_is a0 _ _ q0 HC).mono ?_); rintro e w2 ⟨rfl, hB⟩; replace K := below_then K hB; clear hB)
          | (go_at_call 14; (with_reducible refine (small_is a0 _ _ q0 HS).mono ?_); rintro e w2 ⟨rfl, hB⟩; replace K := below_then K hB; clear hB)
          | (go_at_call 15; (with_reducible refine (capital_is a0 _ _ q0 HU).mono ?_); rintro e w2 ⟨rfl, hB⟩; replace K := below_then K hB; clear hB)
          | (go_at_call 11; (with_reducible refine (word_is a0 _ _ q0 HW).mono ?_); rintro e w2 ⟨rfl, hB⟩; replace K := below_then K hB; clear hB)
          | (go_at_call 23; (with_reducible refine (awake_any _).mono ?_); rintro e w2 ⟨rfl, hB⟩; replace K := below_then K hB; clear hB))
        go_ret
        exact ⟨rfl, K⟩
      · clear h12
        have K := Below.refl w.heap.size w
        go_enter Tryd.func7, Tryd.ntmps7
        go_wp2_with (first
          | (go_at_call 12; (with_reducible refine (check_is a0 _ _ q0 HC).mono ?_); rintro e w2 ⟨rfl, hB⟩; replace K := below_then K hB; clear hB)
          | (go_at_call 14; (with_reducible refine (small_is a0 _ _ q0 HS).mono ?_); rintro e w2 ⟨rfl, hB⟩; replace K := below_then K hB; clear hB)
          | (go_at_call 15; (with_reducible refine (capital_is a0 _ _ q0 HU).mono ?_); rintro e w2 ⟨rfl, hB⟩; replace K := below_then K hB; clear hB)
          | (go_at_call 11; (with_reducible refine (word_is a0 _ _ q0 HW).mono ?_); rintro e w2 ⟨rfl, hB⟩; replace K := below_then K hB; clear hB)
          | (go_at_call 23; (with_reducible refine (awake_any _).mono ?_); rintro e w2 ⟨rfl, hB⟩; replace K := below_then K hB; clear hB))
        go_ret
        exact ⟨rfl, K⟩

set_option maxRecDepth 100000 in
theorem lifted (os : Os) (started : os.Started) (H : Type) (enc : TypeId × Value → H) :
    ReturnsInHanded {} Tryd.checked os 7 .any (fun w args => (Rows.nameKindsSpec.pre enc Tryd.prog Tryd.f7 [] false w args ∧ laidMetH Tryd.prog Rows.nameKindsRow.laid w) ∧ sizedMet enc Tryd.prog Tryd.f7 (OpenSpec.ofChange Rows.nameKindsSpec) false w args) (Rows.nameKindsSpec.post enc Tryd.prog Tryd.f7 false true false false) := by
  refine returnsInHanded_of_change_and (C := Tryd.checked) (X := fun w _ => laidMetH Tryd.prog Rows.nameKindsRow.laid w) (fun _ _ _ hh h => h.of_heap hh) own started (by kernel_rfl) Tryd.func7
    (ChangeSpec.witness_shaped (enc := enc) (C := Tryd.checked) (os := os) (X := fun w _ => laidMetH Tryd.prog Rows.nameKindsRow.laid w) false (World.doorLaid Tryd.prog 24 os) #[.string ByteArray.empty] 8 rfl (World.shaped_of_RefB (by kernel_rfl) (by kernel_rfl)) (by kernel_rfl) (by kernel_rfl) (by kernel_rfl) (laid.door_met os _)) ?_
  intro W base args ds gs before hval0 hW _ _ hL _
  have tab := laid.tab_of_laid hL
  have hval : ∀ (j : Nat) t v, Tryd.f7.params[j]? = some t → args[j]? = some v → Value.okWide Tryd.prog W .any base t v := hval0
  have hW' := hW
  obtain ⟨p, q, hA0, hV, rfl, hfz, hnd⟩ := hW
  have hA : DataW.TrodAll enc Tryd.prog W 0 (fun _ => true) true Tryd.f7.params.toList args.toList ds p := hA0
  rw [Tryd.params7] at hA hval
  obtain ⟨v0, vs0, d0, ds0, p0, q0, hargs, rfl, rfl, h0, r0⟩ := trodAll_cons hA
  obtain ⟨rfl, rfl, rfl⟩ := trodAll_nil r0
  obtain rfl : args = #[v0] := by cases args; simp_all
  obtain ⟨rfl, rfl⟩ := trodVars_none hV
  have k0 := h0
  have lt0 : ∀ x ∈ p0, x.block < W.heap.size := by obtain ⟨m, hm⟩ := k0; exact DataW.trod_lt m _ _ _ hm
  obtain ⟨a0, rfl, rfl, rfl, w0⟩ := open_string Tryd.underlying9 (hval 0 9 v0 rfl rfl) h0
  clear hA0 hval0
  refine (walk a0 W w0 tab).mono fun e W' ⟨he, bel⟩ => ?_
  subst he
  exact ⟨_, rfl, _, _, _, [], _, [], hW', trodAll_mk1 (shut_bool Tryd.underlying4 _), trodAll_cons_mk (Below.trod laidOut (by kernel_rfl) (of_decide_eq_true (by kernel_rfl)) k0 bel lt0) trodAll_mk0, rfl, bel.frame _, fun h => by cases h⟩

theorem over : Rows.nameKindsRow.holds Tryd.pinned (OpenSpec.ofChange Rows.nameKindsSpec) :=
  OpenClaim.holds_of_wide 7 Tryd.f7 rfl rfl rfl rfl rfl rfl rfl ⟨rfl, rfl, rfl, rfl, rfl⟩ rfl rfl rfl rfl rfl (by kernel_rfl) Tryd.func7 (by kernel_rfl)
    (of_decide_eq_true (by kernel_rfl)) (by unfold Func.isWrapper; first | (rw [if_pos (by decide +kernel)]; kernel_rfl) | (rw [if_neg (by decide +kernel)]; exact ⟨rfl, rfl⟩))
    (fun os started H enc _ => lifted os started H enc)

/-- THE STATEMENT -/
theorem proved : Rows.NameKindsCardSaid :=
  Claim7.holds_tied_plain_at .later [] [.data, .data, .data] true _ false
    over (fun _ h => by cases h) (by kernel_rfl) (fun _ h => by cases h) nameKinds_row_tie rfl ⟨rfl, rfl⟩ (by kernel_rfl) rfl
    (fun f fn hf hfn => by
      obtain rfl : f = 7 := Option.some.inj ((show Tryd.prog.funcNamed Rows.nameKindsRow.func = some 7 by kernel_rfl).symm.trans hf) |>.symm
      obtain rfl : fn = Tryd.f7 := (Option.some.inj (Tryd.func7.symm.trans hfn)).symm
      exact ⟨by kernel_rfl, fun j t ht => by
        rw [Tryd.params7] at ht
        have hm : t ∈ Tryd.f7.params.toList := by rw [Tryd.params7]; simpa using Array.mem_of_getElem? ht
        have hall : (Tryd.f7.params.toList.all fun u => !Tryd.prog.wantsStandIn u) = true := by kernel_rfl
        exact (show Tryd.prog.wantsStandIn t = false by simpa using List.all_eq_true.1 hall t hm)⟩)
    (by kernel_rfl)
#print axioms proved
end Go.Proofs.YtabcggmmdjeobaaDoor.nameKinds
