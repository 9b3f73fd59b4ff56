/-
  NameKnown: the chapter's examples have the results given there.
-/
import Derived.Test.YtabcggmmdjeobaaDoorRows
import Derived.Test.YtabcggmmdjeobaaDoorS03K
import Derived.WalkKit
import Derived.ProofKit
import Derived.OpenShut
import Derived.ShutString
import Derived.SliceStrings
import Derived.ChangeOld
import Derived.Below
import Derived.Test.YtabcggmmdjeobaaDoorCards
import Derived.Test.YtabcggmmdjeobaaDoorTie
import Derived.Test.YtabcggmmdjeobaaDoorLaid
import Derived.SevenTiedAt
import Derived.LaidMore
namespace Go.Proofs.YtabcggmmdjeobaaDoor.nameKnown
open Go.ChangeShapes Go.WideShapes Go.ChangeAt Go.RowKit
open kit s03
open Go.ChangeMaps (open_string shut_string)
set_option linter.unusedVariables false
set_option linter.unusedSimpArgs false

theorem own : ownKnob Tryd.prog.godebug = none := by kernel_rfl
theorem laidOut : laidOutB Tryd.prog = true := by kernel_rfl

set_option maxRecDepth 100000 in
set_option maxHeartbeats 2000000 in
theorem walk  (w : World)  (tab : s03.Tab w) :
    Calls Tryd.prog 3 #[] w fun e w' => e = .returned (.bool true) ∧ Below w.heap.size w w' := by
  have K := Below.refl w.heap.size w
  go_enter Tryd.func3, Tryd.ntmps3
  go_wp2_with (first
    | (go_at_call 11; (with_reducible refine (k1 _).mono ?_); rintro e w1 ⟨rfl, hB⟩; replace K := below_then K hB; clear hB)
    | (go_at_call 11; (with_reducible refine (k2 _).mono ?_); rintro e w2 ⟨rfl, hB⟩; replace K := below_then K hB; clear hB)
    | (go_at_call 11; (with_reducible refine (k3 _).mono ?_); rintro e w3 ⟨rfl, hB⟩; replace K := below_then K hB; clear hB)
    | (go_at_call 11; (with_reducible refine (k4 _).mono ?_); rintro e w4 ⟨rfl, hB⟩; replace K := below_then K hB; clear hB)
    | (go_at_call 11; (with_reducible refine (k5 _).mono ?_); rintro e w5 ⟨rfl, hB⟩; replace K := below_then K hB; clear hB)
    | (go_at_call 11; (with_reducible refine (k6 _).mono ?_); rintro e w6 ⟨rfl, hB⟩; replace K := below_then K hB; clear hB)
    | (go_at_call 12; (with_reducible refine (k7 _).mono ?_); rintro e w7 ⟨rfl, hB⟩; replace K := below_then K hB; clear hB)
    | (go_at_call 12; (with_reducible refine (k8 _).mono ?_); rintro e w8 ⟨rfl, hB⟩; replace K := below_then K hB; clear hB)
    | (go_at_call 12; (with_reducible refine (k9 _).mono ?_); rintro e w9 ⟨rfl, hB⟩; replace K := below_then K hB; clear hB)
    | (go_at_call 13; (with_reducible refine (k10 _).mono ?_); rintro e w10 ⟨rfl, hB⟩; replace K := below_then K hB; clear hB)
    | (go_at_call 13; (with_reducible refine (k11 _).mono ?_); rintro e w11 ⟨rfl, hB⟩; replace K := below_then K hB; clear hB)
    | (go_at_call 14; (with_reducible refine (k12 _).mono ?_); rintro e w12 ⟨rfl, hB⟩; replace K := below_then K hB; clear hB)
    | (go_at_call 15; (with_reducible refine (k13 _).mono ?_); rintro e w13 ⟨rfl, hB⟩; replace K := below_then K hB; clear hB)
    | (go_at_call 15; (with_reducible refine (k14 _).mono ?_); rintro e w14 ⟨rfl, hB⟩; replace K := below_then K hB; clear hB)
    | (go_at_call 16; (with_reducible refine (k15 _).mono ?_); rintro e w15 ⟨rfl, hB⟩; replace K := below_then K hB; clear hB)
    | (go_at_call 16; (with_reducible refine (k16 _).mono ?_); rintro e w16 ⟨rfl, hB⟩; replace K := below_then K hB; clear hB)
    | (go_at_call 16; (with_reducible refine (k17 _).mono ?_); rintro e w17 ⟨rfl, hB⟩; replace K := below_then K hB; clear hB)
    | (go_at_call 16; (with_reducible refine (k18 _).mono ?_); rintro e w18 ⟨rfl, hB⟩; replace K := below_then K hB; clear hB)
    | (go_at_call 17; (with_reducible refine (sorted_k _ _ _ (lit_reads _ [⟨#[98]⟩, ⟨#[97]⟩, ⟨#[97, 98]⟩, ⟨#[97]⟩] #[.string ⟨#[98]⟩, .string ⟨#[97]⟩, .string ⟨#[97, 98]⟩, .string ⟨#[97]⟩] _ rfl)).mono ?_); rintro e w40 ⟨aa, ca, rfl, ra, hB⟩; have HRa := Lib.hid ra; clear ra; replace K := below_alloc_then K hB; clear hB)
    | (go_at_call 18; (with_reducible refine (find_n _ 2 _ [⟨#[98]⟩, ⟨#[97]⟩] ⟨#[97]⟩ 1 0 _ rfl (by decide) (lit_reads _ [⟨#[98]⟩, ⟨#[97]⟩] #[.string ⟨#[98]⟩, .string ⟨#[97]⟩] _ rfl) (Lib.hid find_ba)).mono ?_); rintro e w41 ⟨rfl, hB⟩; replace HRa := Lib.hid ((HRa.out.alloc _).below hB); replace K := below_alloc_then K hB; clear hB)
    | (go_at_call 18; (with_reducible refine (find_n _ 2 _ [⟨#[98]⟩, ⟨#[97]⟩] ⟨#[99]⟩ 0 7 _ rfl (by decide) (lit_reads _ [⟨#[98]⟩, ⟨#[97]⟩] #[.string ⟨#[98]⟩, .string ⟨#[97]⟩] _ rfl) (Lib.hid find_bac)).mono ?_); rintro e w42 ⟨rfl, hB⟩; replace HRa := Lib.hid ((HRa.out.alloc _).below hB); replace K := below_alloc_then K hB; clear hB)
    | (go_at_call 19; (with_reducible refine (same_k _ _ _ _ 4 ls _ rfl (by decide) (HRa.out.alloc _) (lit_reads _ ls #[.string ⟨#[97]⟩, .string ⟨#[97]⟩, .string ⟨#[97, 98]⟩, .string ⟨#[98]⟩] _ rfl)).mono ?_); rintro e w43 ⟨rfl, hB⟩; clear HRa; replace K := below_alloc_then K hB; clear hB)
    | (go_at_call 20; (with_reducible refine (twice_n _ 4 _ [⟨#[97]⟩, ⟨#[98]⟩, ⟨#[97]⟩, ⟨#[98]⟩] 2 0 true _ rfl (by decide) (by decide) (lit_reads _ [⟨#[97]⟩, ⟨#[98]⟩, ⟨#[97]⟩, ⟨#[98]⟩] #[.string ⟨#[97]⟩, .string ⟨#[98]⟩, .string ⟨#[97]⟩, .string ⟨#[98]⟩] _ rfl) (Lib.hid twice_abab)).mono ?_); rintro e w44 ⟨rfl, hB⟩; replace K := below_alloc_then K hB; clear hB)
    | (go_at_call 20; (with_reducible refine (twice_n _ 2 _ [⟨#[97]⟩, ⟨#[98]⟩] 0 0 false _ rfl (by decide) (by decide) (lit_reads _ [⟨#[97]⟩, ⟨#[98]⟩] #[.string ⟨#[97]⟩, .string ⟨#[98]⟩] _ rfl) (Lib.hid twice_ab)).mono ?_); rintro e w45 ⟨rfl, hB⟩; replace K := below_alloc_then K hB; clear hB)
    | (go_at_call 21; (with_reducible refine (make_any 0 false ⟨#[116, 48]⟩ 0 _ (by decide) (by decide) (Or.inl (by decide)) (Lib.hid make_0)).mono ?_); rintro e w50 ⟨rfl, hB⟩; replace K := below_then K hB; clear hB; have tab9 := Lib.hid (Tab.below tab K); skip)
    | (go_at_call 21; (with_reducible refine (make_any 10000 false ⟨#[]⟩ 2 _ (by decide) (by decide) (Or.inr tab9.out) (Lib.hid make_big)).mono ?_); rintro e w51 ⟨rfl, hB⟩; replace K := below_then K hB; clear hB; skip)
    | (go_at_call 21; (with_reducible refine (make_any (-1) true ⟨#[]⟩ 2 _ (by decide) (by decide) (Or.inl (by decide)) (Lib.hid make_neg)).mono ?_); rintro e w52 ⟨rfl, hB⟩; replace K := below_then K hB; clear hB; skip)
    | (go_at_call 22; (with_reducible refine (fresh_n _ 2 _ [⟨#[116, 48]⟩, ⟨#[116, 49]⟩] false ⟨#[116, 50]⟩ 0 _ rfl (by decide) (lit_reads _ [⟨#[116, 48]⟩, ⟨#[116, 49]⟩] #[.string ⟨#[116, 48]⟩, .string ⟨#[116, 49]⟩] _ rfl) (Lib.hid fresh_1)).mono ?_); rintro e w60 ⟨rfl, hB⟩; replace K := below_alloc_then K hB; clear hB)
    | (go_at_call 22; (with_reducible refine (fresh_n _ 1 _ [⟨#[116, 49]⟩] false ⟨#[116, 48]⟩ 0 _ rfl (by decide) (lit_reads _ [⟨#[116, 49]⟩] #[.string ⟨#[116, 49]⟩] _ rfl) (Lib.hid fresh_2)).mono ?_); rintro e w61 ⟨rfl, hB⟩; replace K := below_alloc_then K hB; clear hB)
    | (go_at_call 22; (with_reducible refine (fresh_n _ 1 _ [⟨#[116, 48]⟩] true ⟨#[78, 48]⟩ 0 _ rfl (by decide) (lit_reads _ [⟨#[116, 48]⟩] #[.string ⟨#[116, 48]⟩] _ rfl) (Lib.hid fresh_3)).mono ?_); rintro e w62 ⟨rfl, hB⟩; replace K := below_alloc_then K hB; clear hB)
    | (go_at_call 23; (with_reducible refine (awake_any _).mono ?_); rintro e w70 ⟨rfl, hB⟩; replace K := below_then K hB; clear hB))
  go_ret
  exact ⟨rfl, K⟩

set_option maxRecDepth 100000 in
theorem lifted (os : Os) (started : os.Started) (H : Type) (enc : TypeId × Value → H) :
    ReturnsInHanded {} Tryd.checked os 3 .any (fun w args => (Rows.nameKnownSpec.pre enc Tryd.prog Tryd.f3 [] false w args ∧ laidMetH Tryd.prog Rows.nameKnownRow.laid w) ∧ sizedMet enc Tryd.prog Tryd.f3 (OpenSpec.ofChange Rows.nameKnownSpec) false w args) (Rows.nameKnownSpec.post enc Tryd.prog Tryd.f3 false true false false) := by
  refine returnsInHanded_of_change_and (C := Tryd.checked) (X := fun w _ => laidMetH Tryd.prog Rows.nameKnownRow.laid w) (fun _ _ _ hh h => h.of_heap hh) own started (by kernel_rfl) Tryd.func3
    (ChangeSpec.witness_shaped (enc := enc) (C := Tryd.checked) (os := os) (X := fun w _ => laidMetH Tryd.prog Rows.nameKnownRow.laid w) false (World.doorLaid Tryd.prog 24 os) #[] 8 rfl (World.shaped_of_RefB (by kernel_rfl) (by kernel_rfl)) (by kernel_rfl) (by kernel_rfl) (by kernel_rfl) (laid.door_met os _)) ?_
  intro W base args ds gs before hval0 hW _ _ hL _
  have tab := laid.tab_of_laid hL
  have hval : ∀ (j : Nat) t v, Tryd.f3.params[j]? = some t → args[j]? = some v → Value.okWide Tryd.prog W .any base t v := hval0
  have hW' := hW
  obtain ⟨p, q, hA0, hV, rfl, hfz, hnd⟩ := hW
  have hA : DataW.TrodAll enc Tryd.prog W 0 (fun _ => true) true Tryd.f3.params.toList args.toList ds p := hA0
  rw [Tryd.params3] at hA hval
  obtain ⟨rfl, rfl, rfl⟩ := trodAll_none hA
  obtain ⟨rfl, rfl⟩ := trodVars_none hV
  clear hA0 hval0
  simp only [List.append_nil] at hW'
  refine (walk   W tab).mono fun e W' ⟨he, hg⟩ => ?_
  subst he
  exact ⟨_, rfl, _, _, _, [], [], [], hW', (trodAll_cons_mk (shut_bool Tryd.underlying4 _) trodAll_mk0), rfl, rfl, hg.frame _, fun h => by cases h⟩

theorem over : Rows.nameKnownRow.holds Tryd.pinned (OpenSpec.ofChange Rows.nameKnownSpec) :=
  OpenClaim.holds_of_wide 3 Tryd.f3 rfl rfl rfl rfl rfl rfl rfl ⟨rfl, rfl, rfl, rfl, rfl⟩ rfl rfl rfl rfl rfl (by kernel_rfl) Tryd.func3 (by kernel_rfl)
    (of_decide_eq_true (by kernel_rfl)) (by unfold Func.isWrapper; first | (rw [if_pos (by decide +kernel)]; kernel_rfl) | (rw [if_neg (by decide +kernel)]; exact ⟨rfl, rfl⟩))
    (fun os started H enc _ => lifted os started H enc)

/-- THE STATEMENT -/
theorem proved : Rows.NameKnownCardSaid :=
  Claim7.holds_tied_plain_at .later [] [.data, .data, .data] true _ false
    over (fun _ h => by cases h) (by kernel_rfl) (fun _ h => by cases h) nameKnown_row_tie rfl ⟨rfl, rfl⟩ (by kernel_rfl) rfl
    (fun f fn hf hfn => by
      obtain rfl : f = 3 := Option.some.inj ((show Tryd.prog.funcNamed Rows.nameKnownRow.func = some 3 by kernel_rfl).symm.trans hf) |>.symm
      obtain rfl : fn = Tryd.f3 := (Option.some.inj (Tryd.func3.symm.trans hfn)).symm
      exact ⟨by kernel_rfl, fun j t ht => by
        rw [Tryd.params3] at ht
        have hm : t ∈ Tryd.f3.params.toList := by rw [Tryd.params3]; simpa using Array.mem_of_getElem? ht
        have hall : (Tryd.f3.params.toList.all fun u => !Tryd.prog.wantsStandIn u) = true := by kernel_rfl
        exact (show Tryd.prog.wantsStandIn t = false by simpa using List.all_eq_true.1 hall t hm)⟩)
    (by kernel_rfl)
#print axioms proved
end Go.Proofs.YtabcggmmdjeobaaDoor.nameKnown
