/-
  NameSorts: sorted strings are the same ones, in order, sorting twice is sorting once, and Twice finds nothing exactly if all are different.
-/
import Derived.Test.YtabcggmmdjeobaaDoorRows
import Derived.Test.YtabcggmmdjeobaaDoorS03T
import Derived.Test.YtabcggmmdjeobaaDoorS03S
import Derived.WalkKit
import Derived.ProofKit
import Derived.OpenShut
import Derived.ShutString
import Derived.SliceStrings
import Derived.ChangeOld
import Derived.Below
import Derived.Test.YtabcggmmdjeobaaDoorCards
import Derived.Test.YtabcggmmdjeobaaDoorTie
import Derived.Test.YtabcggmmdjeobaaDoorLaid
import Derived.SevenTiedAt
import Derived.LaidMore
namespace Go.Proofs.YtabcggmmdjeobaaDoor.nameSorts
open Go.ChangeShapes Go.WideShapes Go.ChangeAt Go.RowKit
open kit s03
open Go.ChangeMaps (open_string shut_string)
set_option linter.unusedVariables false
set_option linter.unusedSimpArgs false

theorem own : ownKnob Tryd.prog.godebug = none := by kernel_rfl
theorem laidOut : laidOutB Tryd.prog = true := by kernel_rfl

/-- the same of a slice of strings -/
def IsRowS (w : World) (a : Option Addr) (len cap : Nat) (zs : List ByteArray) : Prop :=
  (a = none ∧ len = 0 ∧ cap = 0 ∧ zs = []) ∨
  ∃ x, a = some x ∧ len ≤ cap ∧ cap ≤ maxLen ∧ zs.length = cap ∧ (∀ i, i < zs.length → w.cell? (x.add i) = some (.string (zs.getD i ByteArray.empty))) ∧ ∀ s ∈ zs, s.size ≤ maxLen

set_option maxRecDepth 100000 in
set_option maxHeartbeats 2000000 in
theorem walk (a0 : Option Addr) (len0 cap0 : Nat) (z0 : List ByteArray) (w : World) (w0 : IsRowS w a0 len0 cap0 z0) (tab : s03.Tab w) :
    Calls Tryd.prog 8 #[.slice a0 len0 cap0] w fun e w' => e = .returned (.bool true) ∧ Below w.heap.size w w' := by
  have key : ∀ (ss : List ByteArray), ss.length = len0 → len0 ≤ maxLen → (∀ s ∈ ss, s.size ≤ maxLen) → ReadsS w a0 ss → Src w a0 cap0 (ss.map Value.string) → len0 ≤ cap0 → Calls Tryd.prog 8 #[.slice a0 len0 cap0] w fun e w' => e = .returned (.bool true) ∧ Below w.heap.size w w' := by
    intro ss hl hm hz hr hs hcap0
    subst hl
    unfold maxLen at hm hz
    have HZ : Hid (∀ s ∈ ss, s.size ≤ 9223372036854775807) := Lib.hid fun s hs => by have := hz s hs; omega
    have HRl := Lib.hid hr
    have HSl := Lib.hid hs
    have hn1 : ss.length ≤ 9223372036854775807 := by omega
    clear hr hs hz
    by_cases h20 : 20 < ss.length
    · clear HZ HRl HSl
      go_enter Tryd.func8, Tryd.ntmps8
      go_wp2_with (go_at_call 23; refine (awake_any _).mono ?_; rintro e w9 ⟨rfl, K⟩)
      go_ret
      exact ⟨rfl, K⟩
    cases hb : shortB ss 20
    · go_enter Tryd.func8, Tryd.ntmps8
      go_wp2_with (first
        | (go_at_call 30; refine (short_any a0 cap0 20 ss _ hn1 (by omega) HZ.out HRl.out).mono ?_; rintro e w9 ⟨rfl, rfl⟩)
        | (go_at_call 23; refine (awake_any _).mono ?_; rintro e w9 ⟨rfl, K⟩))
      go_ret
      exact ⟨rfl, K⟩
    · obtain ⟨L, hL⟩ := sort_ex ss
      have hLn : L.length = ss.length := hL.1.length_eq
      obtain ⟨ti, hT⟩ := twice_once (l := ss) (by omega)
      have HS1 : Hid (SortR ss L 0) := Lib.hid (.inr ⟨by omega, hL, rfl⟩)
      have HS2 : Hid (SortR L L 0) := Lib.hid (.inr ⟨by omega, ⟨List.Perm.refl _, hL.2⟩, rfl⟩)
      have HZL : Hid (∀ s ∈ L, s.size ≤ 9223372036854775807) := Lib.hid fun s hs => HZ.out s (hL.1.mem_iff.1 hs)
      have HL := Lib.hid hL
      have HT := Lib.hid hT
      have hn2 : L.length ≤ 9223372036854775807 := by omega
      have h50 : ss.length < 50 := by omega
      have HCap := Lib.hid hcap0
      clear hL hT
      go_enter Tryd.func8, Tryd.ntmps8
      go_wp2_with (first
        | (go_at_call 30; refine (short_any a0 cap0 20 ss _ hn1 (by omega) HZ.out HRl.out).mono ?_; rintro e w9 ⟨rfl, rfl⟩)
        | (go_at_call 17; (with_reducible refine (sorted_n _ _ ss.length ss L 0 _ rfl h50 HRl.out HS1).mono ?_); rintro e w1 ⟨aa, ca, rfl, ra, sa, hB⟩; have HRa := Lib.hid ra; clear ra sa; replace HRl := Lib.hid (HRl.out.below hB); have K := hB; clear hB)
        | (go_at_call 17; (with_reducible refine (sorted_n _ _ ss.length L L 0 _ hLn h50 HRa.out HS2).mono ?_); rintro e w2 ⟨ab, cb, rfl, rb, sb, hB⟩; have HRb := Lib.hid rb; clear rb sb; replace HRl := Lib.hid (HRl.out.below hB); replace HRa := Lib.hid (HRa.out.below hB); replace K := below_then K hB; clear hB)
        | (go_at_call 20; (with_reducible refine (twice_any _ _ ss ti 0 (!once ss ss.length) _ hn1 HCap.out HRl.out HT).mono ?_); rintro e w3 ⟨rfl, hB⟩; replace HRl := Lib.hid (HRl.out.below hB); replace HRa := Lib.hid (HRa.out.below hB); replace HRb := Lib.hid (HRb.out.below hB); replace K := below_then K hB; clear hB)
        | (go_at_call 19; (with_reducible refine (same_n _ _ _ _ ss.length L _ hLn hn2 HRa.out HRb.out).mono ?_); rintro e w4 ⟨rfl, k4, rfl⟩; have hB := below_drewN (Below.refl w3.heap.size w3) k4; generalize w3.drewN k4 = w4 at *; replace HRl := Lib.hid (HRl.out.below hB); replace HRa := Lib.hid (HRa.out.below hB); replace K := below_then K hB; clear hB HRb))
      have mx := srt.mixed
      have hlx : ss.length = ss.length := rfl
      go_loopw [10, 11] (fun d v wr => ∃ (k : Nat) (o : Bool), k ≤ ss.length ∧ Hid (once ss k = o) ∧ d = .bool o ∧ v = .int .i64 k ∧ Hid (ReadsS wr a0 ss) ∧ Hid (ReadsS wr aa L) ∧ Below w.heap.size w wr) (fun _ v _ => ss.length - (intOf v).toNat)
      case atStart => exact ⟨0, true, by omega, Lib.hid rfl, rfl, rfl, HRl, HRa, K⟩
      case round =>
        clear HRl HRa K
        obtain ⟨k, d, hk, HO0, rfl, rfl, HRl, HRa, K⟩ := hrel
        by_cases hlt : k < ss.length
        · obtain ⟨b, off, rfl, hb2, hc⟩ := HRl.out k hlt
          obtain ⟨b2, off2, rfl, hb3, hck⟩ := HRa.out k (by omega)
          have HO : Hid (once ss (k + 1) = (d && cnt ss (ss[k]?.getD ByteArray.empty) ss.length == 1)) := Lib.hid (by rw [once_succ, HO0.out])
          obtain ⟨s, hs⟩ : ∃ s, ss[k]?.getD ByteArray.empty = s := ⟨_, rfl⟩
          rw [hs] at hc HO
          obtain ⟨q, hq⟩ : ∃ q, cnt ss s ss.length = q := ⟨_, rfl⟩
          rw [hq] at HO
          have H1 : Hid ((cnt ss s ss.length : Int) = (q : Int)) := Lib.hid (by rw [hq])
          have H2 : Hid ((cnt L s L.length : Int) = (q : Int)) := Lib.hid (by rw [cnt_perm HL.out.1 s, hq])
          have c1 := fun n os => count_grows (some ⟨b, off, none⟩) cap0 ss.length ss s q wr rfl hn1 HRl.out H1 n os
          have c2 := fun n os => count_grows (some ⟨b2, off2, none⟩) ca ss.length L s q wr hLn hn2 HRa.out H2 n os
          have lc := fun n os => cell_grown (show (⟨b, off + k, none⟩ : Addr).block < wr.heap.size from hb2) hc n os
          have lk := fun n os => cell_grown (show (⟨b2, off2 + k, none⟩ : Addr).block < wr.heap.size from hb3) hck n os
          have lc0 := hc
          clear hs hq HO0 hc hck
          by_cases hk0 : 0 < k
          · obtain ⟨j, hjk⟩ : ∃ j, j + 1 = k := ⟨k - 1, by omega⟩
            obtain ⟨b3, off3, hb4, _, hcj⟩ := HRa.out j (by omega)
            cases hb4
            have hle : le (L[j]?.getD ByteArray.empty) (L[k]?.getD ByteArray.empty) := by
              have := List.pairwise_iff_getElem.1 HL.out.2 j k (by omega) (by omega) (by omega)
              rw [getD_is L j (by omega), getD_is L k (by omega)]
              exact this
            unfold le at hle
            obtain ⟨c, hcc⟩ : ∃ c, cmpR (L[j]?.getD ByteArray.empty).data.toList (L[k]?.getD ByteArray.empty).data.toList = c := ⟨_, rfl⟩
            rw [hcc] at hle
            have HC := Lib.hid hcc
            clear hcc
            have lj := fun n os => cell_grown (show (⟨b2, off2 + j, none⟩ : Addr).block < wr.heap.size from hb3) hcj n os
            generalize L[j]?.getD ByteArray.empty = sj at lj HC hcj
            generalize L[k]?.getD ByteArray.empty = sk at lk HC
            have c3 := fun n os => cmp_grows sj sk c wr HC n os
            have e0 : decide (0 < (k : Int)) = true := decide_eq_true (by omega)
            have e1 : IntKind.i64.wrap ((k : Int) - 1) = (j : Int) := by rw [show (k : Int) - 1 = j by omega]; exact IntWalk.i64_in _ (by omega)
            have hjn : j < ss.length := by omega
            have e5 : decide (0 < c) = false := decide_eq_false (by omega)
            clear hcj hjk
            cases d
            · have HX : Hid (once ss (k + 1) = false) := Lib.hid (by rw [HO.out]; rfl)
              clear HO
              go_wp2_with fail
              go_quiet_grown (first | (go_at_call 37; with_reducible refine Calls.grown_of (c1 _ _)) | (go_at_call 37; with_reducible refine Calls.grown_of (c2 _ _)) | (go_at_call 16; with_reducible refine Calls.grown_of (c3 _ _)))
              have hBg := Lib.below_grow wr.heap.size wr (Nat.le_refl _) nq osq
              have hc5 := lc nq osq
              replace K := below_then K hBg
              replace HRl := Lib.hid (HRl.out.below hBg)
              replace HRa := Lib.hid (HRa.out.below hBg)
              clear c1 c2 c3 lc lk lj lc0 hBg
              generalize Go.Sort.grow (wr.drewN nq) osq = w5 at hc5 K HRl HRa ⊢
              clear nq osq
              go_wp2_with (go_at_call 37; (with_reducible refine (count_n (some ⟨b, off, none⟩) cap0 ss.length ss s q _ rfl hn1 HRl.out H1).mono ?_); rintro e w6 ⟨rfl, rfl⟩)
              go_roundw
              case rel => exact ⟨k + 1, false, by omega, HX, rfl, by go_num, HRl, HRa, K⟩
              case measure => simp [intOf] <;> omega
            · by_cases hq1 : q = 1
              · have HX : Hid (once ss (k + 1) = true) := Lib.hid (by rw [HO.out, hq1]; rfl)
                have te : ((q : Int) == 1) = true := by rw [hq1]; rfl
                clear HO hq1
                go_wp2_with fail
                go_quiet_grown (first | (go_at_call 37; with_reducible refine Calls.grown_of (c1 _ _)) | (go_at_call 37; with_reducible refine Calls.grown_of (c2 _ _)) | (go_at_call 16; with_reducible refine Calls.grown_of (c3 _ _)))
                have hBg := Lib.below_grow wr.heap.size wr (Nat.le_refl _) nq osq
                have hc5 := lc nq osq
                replace K := below_then K hBg
                replace HRl := Lib.hid (HRl.out.below hBg)
                replace HRa := Lib.hid (HRa.out.below hBg)
                clear c1 c2 c3 lc lk lj lc0 hBg
                generalize Go.Sort.grow (wr.drewN nq) osq = w5 at hc5 K HRl HRa ⊢
                clear nq osq
                go_wp2_with (go_at_call 37; (with_reducible refine (count_n (some ⟨b, off, none⟩) cap0 ss.length ss s q _ rfl hn1 HRl.out H1).mono ?_); rintro e w6 ⟨rfl, rfl⟩)
                go_roundw
                case rel => exact ⟨k + 1, true, by omega, HX, by simp [te], by go_num, HRl, HRa, K⟩
                case measure => simp [intOf] <;> omega
              · have HX : Hid (once ss (k + 1) = false) := Lib.hid (by rw [HO.out, beq_eq_false_iff_ne.2 hq1]; rfl)
                have te : ((q : Int) == 1) = false := beq_eq_false_iff_ne.2 (by omega)
                clear HO hq1
                go_wp2_with fail
                go_quiet_grown (first | (go_at_call 37; with_reducible refine Calls.grown_of (c1 _ _)) | (go_at_call 37; with_reducible refine Calls.grown_of (c2 _ _)) | (go_at_call 16; with_reducible refine Calls.grown_of (c3 _ _)))
                have hBg := Lib.below_grow wr.heap.size wr (Nat.le_refl _) nq osq
                have hc5 := lc nq osq
                replace K := below_then K hBg
                replace HRl := Lib.hid (HRl.out.below hBg)
                replace HRa := Lib.hid (HRa.out.below hBg)
                clear c1 c2 c3 lc lk lj lc0 hBg
                generalize Go.Sort.grow (wr.drewN nq) osq = w5 at hc5 K HRl HRa ⊢
                clear nq osq
                go_wp2_with (go_at_call 37; (with_reducible refine (count_n (some ⟨b, off, none⟩) cap0 ss.length ss s q _ rfl hn1 HRl.out H1).mono ?_); rintro e w6 ⟨rfl, rfl⟩)
                go_roundw
                case rel => exact ⟨k + 1, false, by omega, HX, by simp [te], by go_num, HRl, HRa, K⟩
                case measure => simp [intOf] <;> omega
          · have e0 : decide (0 < (k : Int)) = false := decide_eq_false (by omega)
            have q1 := fun n => count_quiet (some ⟨b, off, none⟩) cap0 ss.length ss s q wr rfl hn1 HRl.out H1 n
            have q2 := fun n => count_quiet (some ⟨b2, off2, none⟩) ca ss.length L s q wr hLn hn2 HRa.out H2 n
            clear c1 c2 lc lk
            cases d
            · have HX : Hid (once ss (k + 1) = false) := Lib.hid (by rw [HO.out]; rfl)
              clear HO
              go_wp2_with fail
              go_quiet (first | (go_at_call 37; with_reducible exact Calls.quiet_of_same (q1 _)) | (go_at_call 37; with_reducible exact Calls.quiet_of_same (q2 _)))
              have hBg := below_drewN (Below.refl wr.heap.size wr) nq
              have hc5 : (wr.drewN nq).cell? ⟨b, off + k, none⟩ = _ := lc0
              replace K := below_then K hBg
              replace HRl := Lib.hid (HRl.out.drewN nq)
              replace HRa := Lib.hid (HRa.out.drewN nq)
              clear q1 q2 lc0 hBg
              generalize wr.drewN nq = w5 at hc5 K HRl HRa ⊢
              clear nq
              go_wp2_with (go_at_call 37; (with_reducible refine (count_n (some ⟨b, off, none⟩) cap0 ss.length ss s q _ rfl hn1 HRl.out H1).mono ?_); rintro e w6 ⟨rfl, rfl⟩)
              go_roundw
              case rel => exact ⟨k + 1, false, by omega, HX, rfl, by go_num, HRl, HRa, K⟩
              case measure => simp [intOf] <;> omega
            · by_cases hq1 : q = 1
              · have HX : Hid (once ss (k + 1) = true) := Lib.hid (by rw [HO.out, hq1]; rfl)
                have te : ((q : Int) == 1) = true := by rw [hq1]; rfl
                clear HO hq1
                go_wp2_with fail
                go_quiet (first | (go_at_call 37; with_reducible exact Calls.quiet_of_same (q1 _)) | (go_at_call 37; with_reducible exact Calls.quiet_of_same (q2 _)))
                have hBg := below_drewN (Below.refl wr.heap.size wr) nq
                have hc5 : (wr.drewN nq).cell? ⟨b, off + k, none⟩ = _ := lc0
                replace K := below_then K hBg
                replace HRl := Lib.hid (HRl.out.drewN nq)
                replace HRa := Lib.hid (HRa.out.drewN nq)
                clear q1 q2 lc0 hBg
                generalize wr.drewN nq = w5 at hc5 K HRl HRa ⊢
                clear nq
                go_wp2_with (go_at_call 37; (with_reducible refine (count_n (some ⟨b, off, none⟩) cap0 ss.length ss s q _ rfl hn1 HRl.out H1).mono ?_); rintro e w6 ⟨rfl, rfl⟩)
                go_roundw
                case rel => exact ⟨k + 1, true, by omega, HX, by simp [te], by go_num, HRl, HRa, K⟩
                case measure => simp [intOf] <;> omega
              · have HX : Hid (once ss (k + 1) = false) := Lib.hid (by rw [HO.out, beq_eq_false_iff_ne.2 hq1]; rfl)
                have te : ((q : Int) == 1) = false := beq_eq_false_iff_ne.2 (by omega)
                clear HO hq1
                go_wp2_with fail
                go_quiet (first | (go_at_call 37; with_reducible exact Calls.quiet_of_same (q1 _)) | (go_at_call 37; with_reducible exact Calls.quiet_of_same (q2 _)))
                have hBg := below_drewN (Below.refl wr.heap.size wr) nq
                have hc5 : (wr.drewN nq).cell? ⟨b, off + k, none⟩ = _ := lc0
                replace K := below_then K hBg
                replace HRl := Lib.hid (HRl.out.drewN nq)
                replace HRa := Lib.hid (HRa.out.drewN nq)
                clear q1 q2 lc0 hBg
                generalize wr.drewN nq = w5 at hc5 K HRl HRa ⊢
                clear nq
                go_wp2_with (go_at_call 37; (with_reducible refine (count_n (some ⟨b, off, none⟩) cap0 ss.length ss s q _ rfl hn1 HRl.out H1).mono ?_); rintro e w6 ⟨rfl, rfl⟩)
                go_roundw
                case rel => exact ⟨k + 1, false, by omega, HX, by simp [te], by go_num, HRl, HRa, K⟩
                case measure => simp [intOf] <;> omega
        · have hk2 : k = ss.length := by omega
          subst hk2
          have HD := HO0.out
          rw [HD]
          clear HD HRl HRa HO0
          cases d
          all_goals
            go_wp2_with (go_at_call 23; (with_reducible refine (awake_any _).mono ?_); rintro e w9 ⟨rfl, hB⟩; replace K := below_then K hB; clear hB)
            go_ret
            exact ⟨rfl, K⟩
  rcases w0 with ⟨rfl, rfl, rfl, rfl⟩ | ⟨x, rfl, hl, hm, hz, hcell, hwz⟩
  · exact key [] rfl (by unfold maxLen; omega) (fun s hs => by cases hs) (Reads.nil _ _) (.inl ⟨rfl, rfl, rfl⟩) (Nat.le_refl _)
  · obtain ⟨hr, hs⟩ := row_in Value.string ByteArray.empty hl hz hcell
    exact key (z0.take len0) (by simp; omega) (by omega) (fun s hs => hwz s (List.mem_of_mem_take hs)) hr (.inr ⟨x, rfl, hs⟩) hl

set_option maxRecDepth 100000 in
theorem lifted (os : Os) (started : os.Started) (H : Type) (enc : TypeId × Value → H) :
    ReturnsInHanded {} Tryd.checked os 8 .any (fun w args => (Rows.nameSortsSpec.pre enc Tryd.prog Tryd.f8 [] false w args ∧ laidMetH Tryd.prog Rows.nameSortsRow.laid w) ∧ sizedMet enc Tryd.prog Tryd.f8 (OpenSpec.ofChange Rows.nameSortsSpec) false w args) (Rows.nameSortsSpec.post enc Tryd.prog Tryd.f8 false true false false) := by
  refine returnsInHanded_of_change_and (C := Tryd.checked) (X := fun w _ => laidMetH Tryd.prog Rows.nameSortsRow.laid w) (fun _ _ _ hh h => h.of_heap hh) own started (by kernel_rfl) Tryd.func8
    (ChangeSpec.witness_shaped (enc := enc) (C := Tryd.checked) (os := os) (X := fun w _ => laidMetH Tryd.prog Rows.nameSortsRow.laid w) false (World.doorLaid Tryd.prog 24 os) #[.slice none 0 0] 8 rfl (World.shaped_of_RefB (by kernel_rfl) (by kernel_rfl)) (by kernel_rfl) (by kernel_rfl) (by kernel_rfl) (laid.door_met os _)) ?_
  intro W base args ds gs before hval0 hW _ _ hL _
  have tab := laid.tab_of_laid hL
  have hval : ∀ (j : Nat) t v, Tryd.f8.params[j]? = some t → args[j]? = some v → Value.okWide Tryd.prog W .any base t v := hval0
  have hW' := hW
  obtain ⟨p, q, hA0, hV, rfl, hfz, hnd⟩ := hW
  have hA : DataW.TrodAll enc Tryd.prog W 0 (fun _ => true) true Tryd.f8.params.toList args.toList ds p := hA0
  rw [Tryd.params8] at hA hval
  obtain ⟨v0, vs0, d0, ds0, p0, q0, hargs, rfl, rfl, h0, r0⟩ := trodAll_cons hA
  obtain ⟨rfl, rfl, rfl⟩ := trodAll_nil r0
  obtain rfl : args = #[v0] := by cases args; simp_all
  obtain ⟨rfl, rfl⟩ := trodVars_none hV
  have k0 := h0
  have lt0 : ∀ x ∈ p0, x.block < W.heap.size := by obtain ⟨m, hm⟩ := k0; exact DataW.trod_lt m _ _ _ hm
  obtain ⟨a0, len0, cap0, rfl⟩ := okWide_slice Tryd.underlying26 (hval 0 26 v0 rfl rfl)
  obtain ⟨z0, w0⟩ : ∃ zs, IsRowS W a0 len0 cap0 zs := by
    obtain ⟨fuel, hf⟩ := h0
    rcases open_strings Tryd.underlying26 Tryd.underlying9 (by kernel_rfl) hf with ⟨hcs, _⟩ | ⟨x, l, c, zs, hcs, _, hl, hm, hz, _, hcell, hwz⟩
    · simp [Value.cells] at hcs
      obtain ⟨rfl, rfl, rfl⟩ := hcs
      exact ⟨[], .inl ⟨rfl, rfl, rfl, rfl⟩⟩
    · simp [Value.cells] at hcs
      obtain ⟨rfl, rfl, rfl⟩ := hcs
      exact ⟨zs, .inr ⟨_, rfl, hl, hm, by simpa using hz, hcell, hwz⟩⟩
  clear hA0 hval0
  refine (walk a0 len0 cap0 z0 W w0 tab).mono fun e W' ⟨he, bel⟩ => ?_
  subst he
  exact ⟨_, rfl, _, _, _, [], _, [], hW', trodAll_mk1 (shut_bool Tryd.underlying4 _), trodAll_cons_mk (Below.trod laidOut (by kernel_rfl) (of_decide_eq_true (by kernel_rfl)) k0 bel lt0) trodAll_mk0, rfl, bel.frame _, fun h => by cases h⟩

theorem over : Rows.nameSortsRow.holds Tryd.pinned (OpenSpec.ofChange Rows.nameSortsSpec) :=
  OpenClaim.holds_of_wide 8 Tryd.f8 rfl rfl rfl rfl rfl rfl rfl ⟨rfl, rfl, rfl, rfl, rfl⟩ rfl rfl rfl rfl rfl (by kernel_rfl) Tryd.func8 (by kernel_rfl)
    (of_decide_eq_true (by kernel_rfl)) (by unfold Func.isWrapper; first | (rw [if_pos (by decide +kernel)]; kernel_rfl) | (rw [if_neg (by decide +kernel)]; exact ⟨rfl, rfl⟩))
    (fun os started H enc _ => lifted os started H enc)

/-- THE STATEMENT -/
theorem proved : Rows.NameSortsCardSaid :=
  Claim7.holds_tied_plain_at .later [] [.data, .data, .data] true _ false
    over (fun _ h => by cases h) (by kernel_rfl) (fun _ h => by cases h) nameSorts_row_tie rfl ⟨rfl, rfl⟩ (by kernel_rfl) rfl
    (fun f fn hf hfn => by
      obtain rfl : f = 8 := Option.some.inj ((show Tryd.prog.funcNamed Rows.nameSortsRow.func = some 8 by kernel_rfl).symm.trans hf) |>.symm
      obtain rfl : fn = Tryd.f8 := (Option.some.inj (Tryd.func8.symm.trans hfn)).symm
      exact ⟨by kernel_rfl, fun j t ht => by
        rw [Tryd.params8] at ht
        have hm : t ∈ Tryd.f8.params.toList := by rw [Tryd.params8]; simpa using Array.mem_of_getElem? ht
        have hall : (Tryd.f8.params.toList.all fun u => !Tryd.prog.wantsStandIn u) = true := by kernel_rfl
        exact (show Tryd.prog.wantsStandIn t = false by simpa using List.all_eq_true.1 hall t hm)⟩)
    (by kernel_rfl)
#print axioms proved
end Go.Proofs.YtabcggmmdjeobaaDoor.nameSorts
