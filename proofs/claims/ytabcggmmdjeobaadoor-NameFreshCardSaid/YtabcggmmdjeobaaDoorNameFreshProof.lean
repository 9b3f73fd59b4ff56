/-
  NameFresh: names that are made are names, small or capital as asked, different for different numbers; a fresh name is not in the list, and another one than the next.
-/
import Derived.Test.YtabcggmmdjeobaaDoorRows
import Derived.Test.YtabcggmmdjeobaaDoorS03N
import Derived.WalkKit
import Derived.ProofKit
import Derived.OpenShut
import Derived.ShutString
import Derived.SliceStrings
import Derived.ChangeOld
import Derived.Below
import Derived.Test.YtabcggmmdjeobaaDoorCards
import Derived.Test.YtabcggmmdjeobaaDoorTie
import Derived.Test.YtabcggmmdjeobaaDoorLaid
import Derived.SevenTiedAt
import Derived.LaidMore
namespace Go.Proofs.YtabcggmmdjeobaaDoor.nameFresh
open Go.ChangeShapes Go.WideShapes Go.ChangeAt Go.RowKit
open kit s03
open Go.ChangeMaps (open_string shut_string)
set_option linter.unusedVariables false
set_option linter.unusedSimpArgs false

theorem own : ownKnob Tryd.prog.godebug = none := by kernel_rfl
theorem laidOut : laidOutB Tryd.prog = true := by kernel_rfl

/-- what the walk is told of a slice of integers that came in: it is nil, or it leads to a row of cap cells -/
def IsRow (k : IntKind) (w : World) (a : Option Addr) (len cap : Nat) (zs : List Int) : Prop :=
  (a = none ∧ len = 0 ∧ cap = 0 ∧ zs = []) ∨
  ∃ x, a = some x ∧ len ≤ cap ∧ cap ≤ maxLen ∧ zs.length = cap ∧ (∀ i, i < zs.length → w.cell? (x.add i) = some (.int k (zs.getD i 0))) ∧ ∀ n ∈ zs, (Lit.int k n).wf = true

set_option maxRecDepth 100000 in
set_option maxHeartbeats 2000000 in
theorem walk (a0 : Int) (a1 : Int) (a2 : Option Addr) (len2 cap2 : Nat) (z2 : List Int) (a3 : Bool) (w : World) (w0 : (Lit.int .i64 a0).wf = true) (w1 : (Lit.int .i64 a1).wf = true) (w2 : IsRow .i64 w a2 len2 cap2 z2) (tab : s03.Tab w) :
    Calls Tryd.prog 9 #[.int .i64 a0, .int .i64 a1, .slice a2 len2 cap2, .bool a3] w fun e w' => e = .returned (.bool true) ∧ Below w.heap.size w w' := by
  obtain ⟨b0, b1⟩ := Go.bounds_i64 w0
  obtain ⟨b2, b3⟩ := Go.bounds_i64 w1
  obtain ⟨m, hm⟩ : ∃ m, a0 % 10000 = m := ⟨_, rfl⟩
  obtain ⟨n, hn⟩ : ∃ n, a1 % 10000 = n := ⟨_, rfl⟩
  have m0 : 0 ≤ m ∧ m ≤ 9999 := by omega
  have n0 : 0 ≤ n ∧ n ≤ 9999 := by omega
  have Hm := Lib.hid hm
  have Hn := Lib.hid hn
  have HMs := Lib.hid (make_ok a3 m0.1 m0.2)
  have HNs := Lib.hid (make_ok a3 n0.1 n0.2)
  have HCs := Lib.hid (name_capital (n := m.toNat) a3 (by omega))
  have HSs := Lib.hid (name_small (n := m.toNat) a3 (by omega))
  have hss := name_size (n := m.toNat) a3 (by omega)
  obtain ⟨q, hq1, hq2⟩ := names_eq (m := m) (n := n) a3 m0.1 n0.1
  have mb : -9223372036854775808 ≤ m ∧ m ≤ 9223372036854775807 := by omega
  have nb : -9223372036854775808 ≤ n ∧ n ≤ 9223372036854775807 := by omega
  clear hm hn m0 n0 w0 w1
  generalize nameR m.toNat a3 = s at HMs HCs HSs hss hq1
  generalize nameR n.toNat a3 = t at HNs hq1
  have key : ∀ (zs : List Int), zs.length = len2 → len2 ≤ maxLen → (∀ z ∈ zs, -9223372036854775808 ≤ z ∧ z ≤ 9223372036854775807) → ReadsI w a2 zs → Calls Tryd.prog 9 #[.int .i64 a0, .int .i64 a1, .slice a2 len2 cap2, .bool a3] w fun e w' => e = .returned (.bool true) ∧ Below w.heap.size w w' := by
    intro zs hl hmx hz hr
    subst hl
    unfold maxLen at hmx
    have HZ := Lib.hid hz
    have HR := Lib.hid hr
    clear hz hr w2
    go_enter Tryd.func9, Tryd.ntmps9
    go_wp2_with (first
      | (go_at_call 38; (with_reducible refine (mod_is a0 10000 m b0 b1 (by decide) (by decide) _ Hm).mono ?_); rintro e w1 ⟨rfl, rfl⟩)
      | (go_at_call 38; (with_reducible refine (mod_is a1 10000 n b2 b3 (by decide) (by decide) _ Hn).mono ?_); rintro e w1 ⟨rfl, rfl⟩)
      | (go_at_call 21; (with_reducible refine (make_any m a3 s 0 _ mb.1 mb.2 (Or.inr tab) HMs).mono ?_); rintro e w1 ⟨rfl, K1⟩; have tab1 := Lib.hid (Tab.below tab K1))
      | (go_at_call 21; (with_reducible refine (make_any n a3 t 0 _ nb.1 nb.2 (Or.inr tab1.out) HNs).mono ?_); rintro e w2 ⟨rfl, hB⟩; have K2 := below_then K1 hB)
      | (go_at_call 15; (with_reducible refine (capital_is s a3 _ (by omega) HCs).mono ?_); rintro e w3 ⟨rfl, hB⟩; have K3 := below_then K2 hB)
      | (go_at_call 14; (with_reducible refine (small_is s (!a3) _ (by omega) HSs).mono ?_); rintro e w4 ⟨rfl, hB⟩; have K4 := below_then K3 hB))
    go_loopw [15, 16] (fun l v wr => ∃ (k : Nat) (D : List ByteArray), k ≤ 20 ∧ k ≤ zs.length ∧ v = .int .i64 k ∧ D.length = k ∧ wr.ownsRow w.heap.size 9 1 l k (D.map Value.string) ∧ Below w.heap.size w wr) (fun _ v _ => zs.length - (intOf v).toNat)
    case atStart => exact ⟨0, [], by omega, by omega, rfl, rfl, ⟨rfl, .inl ⟨rfl, rfl⟩⟩, K4⟩
    case round =>
      obtain ⟨k, D, hk1, hk2, rfl, hD, hrow, hB⟩ := hrel
      have HROW := Lib.hid hrow
      clear hrow
      by_cases hlt : k < zs.length
      · by_cases h20 : k < 20
        · obtain ⟨c, off, rfl, _, hc⟩ := (HR.out.below hB : ReadsI wr a2 zs) k hlt
          obtain ⟨z0, z1⟩ := HZ.out _ (mem_getD zs k hlt)
          generalize zs[k]?.getD 0 = z at hc z0 z1
          obtain ⟨r, hr⟩ : ∃ r, z % 25 = r := ⟨_, rfl⟩
          have r0 : 0 ≤ r ∧ r ≤ 24 := by omega
          have rb : -9223372036854775808 ≤ r ∧ r ≤ 9223372036854775807 := by omega
          have r100 : r < 100 := by omega
          have Hr := Lib.hid hr
          have HX := Lib.hid (make_ok a3 r0.1 (by omega))
          generalize nameR r.toNat a3 = x at HX
          clear hr r0
          go_wp2_with (first
            | (go_at_call 38; (with_reducible refine (mod_is z 25 r z0 z1 (by decide) (by decide) _ Hr).mono ?_); rintro e w5 ⟨rfl, rfl⟩)
            | (go_at_call 21; (with_reducible refine (make_any r a3 x 0 _ rb.1 rb.2 (Or.inl r100) HX).mono ?_); rintro e w5 ⟨rfl, hB5⟩; have K5 := below_on hB (Nat.le_refl _) hB5; have HR5 := Lib.hid (row_below HROW.out hB5))
            | (at_builtin; refine append_in Tryd.underlying26 info9 rfl (by omega) rfl (.tmp 87) (.tmp 89) rfl w.heap.size _ k (D.map Value.string) rfl (row_alloc HR5.out _) _ [.string x] 1 1 rfl rfl (src_one _ _ _) (by simp [Value.oneCell']) (by omega) (by have := K5.size; simp; omega) ?_; intro v1 wA hv1 hBA; have K6 := (K5.alloc K5.size _).trans hBA))
          go_roundw
          case rel => exact ⟨k + 1, D ++ [x], by omega, by omega, by go_num, by simp [hD], by simpa using hv1, K6⟩
          case measure => simp [intOf]; omega
        · obtain ⟨la, lc, rfl⟩ := row_shape HROW.out
          have hD90 : D.length ≤ 90 := by omega
          obtain ⟨x, hF, hxn, hxc, hxs⟩ := fresh_few D a3 hD90
          have HFx := Lib.hid hF
          have HFi := Lib.hid (find_not hD90 hxn)
          have HC := Lib.hid hxc
          have hD91 : (D ++ [x]).length = k + 1 := by simp [hD]
          obtain ⟨y, hG, hyn, _, _⟩ := fresh_few (D ++ [x]) a3 (by omega)
          have HGy := Lib.hid hG
          have hxy : x ≠ y := by rintro rfl; exact hyn (by simp)
          have txy : (x.toList != y.toList) = true := by rw [bne, str_beq_false hxy]; rfl
          have txy2 : (x.toList == y.toList) = false := str_beq_false hxy
          have hx9 : x.size ≤ 9223372036854775807 := by omega
          have hk90 : k < 100 := by omega
          have hk91 : k + 1 < 100 := by omega
          clear hF hxn hxc hG hyn hxy
          go_wp2_with (first
            | (go_at_call 22; (with_reducible refine (fresh_n la k lc D a3 x 0 _ hD hk90 (reads_of_row hD HROW.out) HFx).mono ?_); rintro e w5 ⟨rfl, hB5⟩; have K5 := below_on hB (Nat.le_refl _) hB5; have HR5 := Lib.hid (row_below HROW.out hB5))
            | (go_at_call 18; (with_reducible refine (find_n la k lc D x 0 7 _ hD (by omega) (reads_of_row hD HR5.out) HFi).mono ?_); rintro e w6 ⟨rfl, hB6⟩; have K6 := below_on K5 (Nat.le_refl _) hB6; have HR6 := Lib.hid (row_below HR5.out hB6))
            | (at_builtin; refine append_in Tryd.underlying26 info9 rfl (by omega) rfl (.tmp 104) (.tmp 106) rfl w.heap.size _ k (D.map Value.string) rfl (row_alloc HR6.out _) _ [.string x] 1 1 rfl rfl (src_one _ _ _) (by simp [Value.oneCell']) (by omega) (by have := K6.size; simp; omega) ?_; intro v1 w7 hv1 hBA; have K7 := (K6.alloc K6.size _).trans hBA; obtain ⟨ya, yc, rfl⟩ := row_shape hv1; have HV := Lib.hid (reads_of_row (L := D ++ [x]) (f := Value.string) (d := ByteArray.empty) hD91 (by simpa using hv1)); clear hv1)
            | (go_at_call 22; (with_reducible refine (fresh_n ya (k + 1) yc (D ++ [x]) a3 y 0 _ hD91 hk91 HV.out HGy).mono ?_); rintro e w8 ⟨rfl, hB8⟩; have K8 := below_on K7 (Nat.le_refl _) hB8)
            | (go_at_call 12; (with_reducible refine (check_is x 0 _ hx9 HC).mono ?_); rintro e w9 ⟨rfl, hB9⟩; have K9 := below_on K8 (Nat.le_refl _) hB9)
            | (go_at_call 23; (with_reducible refine (awake_any _).mono ?_); rintro e w10 ⟨rfl, hB10⟩; have K10 := below_on K9 (Nat.le_refl _) hB10))
          go_ret
          exact ⟨rfl, K10⟩
      · obtain ⟨la, lc, rfl⟩ := row_shape HROW.out
        have hD90 : D.length ≤ 90 := by omega
        obtain ⟨x, hF, hxn, hxc, hxs⟩ := fresh_few D a3 hD90
        have HFx := Lib.hid hF
        have HFi := Lib.hid (find_not hD90 hxn)
        have HC := Lib.hid hxc
        have hD91 : (D ++ [x]).length = k + 1 := by simp [hD]
        obtain ⟨y, hG, hyn, _, _⟩ := fresh_few (D ++ [x]) a3 (by omega)
        have HGy := Lib.hid hG
        have hxy : x ≠ y := by rintro rfl; exact hyn (by simp)
        have txy : (x.toList != y.toList) = true := by rw [bne, str_beq_false hxy]; rfl
        have txy2 : (x.toList == y.toList) = false := str_beq_false hxy
        have hx9 : x.size ≤ 9223372036854775807 := by omega
        have hk90 : k < 100 := by omega
        have hk91 : k + 1 < 100 := by omega
        clear hF hxn hxc hG hyn hxy
        go_wp2_with (first
          | (go_at_call 22; (with_reducible refine (fresh_n la k lc D a3 x 0 _ hD hk90 (reads_of_row hD HROW.out) HFx).mono ?_); rintro e w5 ⟨rfl, hB5⟩; have K5 := below_on hB (Nat.le_refl _) hB5; have HR5 := Lib.hid (row_below HROW.out hB5))
          | (go_at_call 18; (with_reducible refine (find_n la k lc D x 0 7 _ hD (by omega) (reads_of_row hD HR5.out) HFi).mono ?_); rintro e w6 ⟨rfl, hB6⟩; have K6 := below_on K5 (Nat.le_refl _) hB6; have HR6 := Lib.hid (row_below HR5.out hB6))
          | (at_builtin; refine append_in Tryd.underlying26 info9 rfl (by omega) rfl (.tmp 104) (.tmp 106) rfl w.heap.size _ k (D.map Value.string) rfl (row_alloc HR6.out _) _ [.string x] 1 1 rfl rfl (src_one _ _ _) (by simp [Value.oneCell']) (by omega) (by have := K6.size; simp; omega) ?_; intro v1 w7 hv1 hBA; have K7 := (K6.alloc K6.size _).trans hBA; obtain ⟨ya, yc, rfl⟩ := row_shape hv1; have HV := Lib.hid (reads_of_row (L := D ++ [x]) (f := Value.string) (d := ByteArray.empty) hD91 (by simpa using hv1)); clear hv1)
          | (go_at_call 22; (with_reducible refine (fresh_n ya (k + 1) yc (D ++ [x]) a3 y 0 _ hD91 hk91 HV.out HGy).mono ?_); rintro e w8 ⟨rfl, hB8⟩; have K8 := below_on K7 (Nat.le_refl _) hB8)
          | (go_at_call 12; (with_reducible refine (check_is x 0 _ hx9 HC).mono ?_); rintro e w9 ⟨rfl, hB9⟩; have K9 := below_on K8 (Nat.le_refl _) hB9)
          | (go_at_call 23; (with_reducible refine (awake_any _).mono ?_); rintro e w10 ⟨rfl, hB10⟩; have K10 := below_on K9 (Nat.le_refl _) hB10))
        go_ret
        exact ⟨rfl, K10⟩
  rcases w2 with ⟨rfl, rfl, rfl, rfl⟩ | ⟨x, rfl, hl, hmx, hz, hcell, hwz⟩
  · exact key [] rfl (by unfold maxLen; omega) (fun s hs => by cases hs) (Reads.nil _ _)
  · obtain ⟨hr, hs⟩ := row_in (Value.int .i64) 0 hl hz hcell
    exact key (z2.take len2) (by simp; omega) (by omega) (fun z hz => Go.bounds_i64 (hwz z (List.mem_of_mem_take hz))) hr

set_option maxRecDepth 100000 in
theorem lifted (os : Os) (started : os.Started) (H : Type) (enc : TypeId × Value → H) :
    ReturnsInHanded {} Tryd.checked os 9 .any (fun w args => (Rows.nameFreshSpec.pre enc Tryd.prog Tryd.f9 [] false w args ∧ laidMetH Tryd.prog Rows.nameFreshRow.laid w) ∧ sizedMet enc Tryd.prog Tryd.f9 (OpenSpec.ofChange Rows.nameFreshSpec) false w args) (Rows.nameFreshSpec.post enc Tryd.prog Tryd.f9 false true false false) := by
  refine returnsInHanded_of_change_and (C := Tryd.checked) (X := fun w _ => laidMetH Tryd.prog Rows.nameFreshRow.laid w) (fun _ _ _ hh h => h.of_heap hh) own started (by kernel_rfl) Tryd.func9
    (ChangeSpec.witness_shaped (enc := enc) (C := Tryd.checked) (os := os) (X := fun w _ => laidMetH Tryd.prog Rows.nameFreshRow.laid w) false (World.doorLaid Tryd.prog 24 os) #[.int .i64 0, .int .i64 0, .slice none 0 0, .bool false] 8 rfl (World.shaped_of_RefB (by kernel_rfl) (by kernel_rfl)) (by kernel_rfl) (by kernel_rfl) (by kernel_rfl) (laid.door_met os _)) ?_
  intro W base args ds gs before hval0 hW _ _ hL _
  have tab := laid.tab_of_laid hL
  have hval : ∀ (j : Nat) t v, Tryd.f9.params[j]? = some t → args[j]? = some v → Value.okWide Tryd.prog W .any base t v := hval0
  have hW' := hW
  obtain ⟨p, q, hA0, hV, rfl, hfz, hnd⟩ := hW
  have hA : DataW.TrodAll enc Tryd.prog W 0 (fun _ => true) true Tryd.f9.params.toList args.toList ds p := hA0
  rw [Tryd.params9] at hA hval
  obtain ⟨v0, vs0, d0, ds0, p0, q0, hargs, rfl, rfl, h0, r0⟩ := trodAll_cons hA
  obtain ⟨v1, vs1, d1, ds1, p1, q1, rfl, rfl, rfl, h1, r1⟩ := trodAll_cons r0
  obtain ⟨v2, vs2, d2, ds2, p2, q2, rfl, rfl, rfl, h2, r2⟩ := trodAll_cons r1
  obtain ⟨v3, vs3, d3, ds3, p3, q3, rfl, rfl, rfl, h3, r3⟩ := trodAll_cons r2
  obtain ⟨rfl, rfl, rfl⟩ := trodAll_nil r3
  obtain rfl : args = #[v0, v1, v2, v3] := by cases args; simp_all
  obtain ⟨rfl, rfl⟩ := trodVars_none hV
  have k0 := h0
  have lt0 : ∀ x ∈ p0, x.block < W.heap.size := by obtain ⟨m, hm⟩ := k0; exact DataW.trod_lt m _ _ _ hm
  have k1 := h1
  have lt1 : ∀ x ∈ p1, x.block < W.heap.size := by obtain ⟨m, hm⟩ := k1; exact DataW.trod_lt m _ _ _ hm
  have k2 := h2
  have lt2 : ∀ x ∈ p2, x.block < W.heap.size := by obtain ⟨m, hm⟩ := k2; exact DataW.trod_lt m _ _ _ hm
  have k3 := h3
  have lt3 : ∀ x ∈ p3, x.block < W.heap.size := by obtain ⟨m, hm⟩ := k3; exact DataW.trod_lt m _ _ _ hm
  obtain ⟨a0, rfl, rfl, rfl, w0⟩ := open_int Tryd.underlying3 (hval 0 3 v0 rfl rfl) h0
  obtain ⟨a1, rfl, rfl, rfl, w1⟩ := open_int Tryd.underlying3 (hval 1 3 v1 rfl rfl) h1
  obtain ⟨a2, len2, cap2, rfl⟩ := okWide_slice Tryd.underlying45 (hval 2 45 v2 rfl rfl)
  obtain ⟨z2, w2⟩ : ∃ zs, IsRow .i64 W a2 len2 cap2 zs := by
    obtain ⟨fuel, hf⟩ := h2
    rcases open_ints Tryd.underlying45 Tryd.underlying3 (by kernel_rfl) hf with ⟨hcs, _⟩ | ⟨x, l, c, zs, hcs, _, hl, hm, hz, _, hcell, hwz⟩
    · simp [Value.cells] at hcs
      obtain ⟨rfl, rfl, rfl⟩ := hcs
      exact ⟨[], .inl ⟨rfl, rfl, rfl, rfl⟩⟩
    · simp [Value.cells] at hcs
      obtain ⟨rfl, rfl, rfl⟩ := hcs
      exact ⟨zs, .inr ⟨_, rfl, hl, hm, by simpa using hz, hcell, hwz⟩⟩
  obtain ⟨a3, rfl, rfl, rfl⟩ := open_bool Tryd.underlying4 (hval 3 4 v3 rfl rfl) h3
  clear hA0 hval0
  refine (walk a0 a1 a2 len2 cap2 z2 a3 W w0 w1 w2 tab).mono fun e W' ⟨he, bel⟩ => ?_
  subst he
  exact ⟨_, rfl, _, _, _, [], _, [], hW', trodAll_mk1 (shut_bool Tryd.underlying4 _), trodAll_cons_mk (Below.trod laidOut (by kernel_rfl) (of_decide_eq_true (by kernel_rfl)) k0 bel lt0) (trodAll_cons_mk (Below.trod laidOut (by kernel_rfl) (of_decide_eq_true (by kernel_rfl)) k1 bel lt1) (trodAll_cons_mk (Below.trod laidOut (by kernel_rfl) (of_decide_eq_true (by kernel_rfl)) k2 bel lt2) (trodAll_cons_mk (Below.trod laidOut (by kernel_rfl) (of_decide_eq_true (by kernel_rfl)) k3 bel lt3) trodAll_mk0))), rfl, bel.frame _, fun h => by cases h⟩

theorem over : Rows.nameFreshRow.holds Tryd.pinned (OpenSpec.ofChange Rows.nameFreshSpec) :=
  OpenClaim.holds_of_wide 9 Tryd.f9 rfl rfl rfl rfl rfl rfl rfl ⟨rfl, rfl, rfl, rfl, rfl⟩ rfl rfl rfl rfl rfl (by kernel_rfl) Tryd.func9 (by kernel_rfl)
    (of_decide_eq_true (by kernel_rfl)) (by unfold Func.isWrapper; first | (rw [if_pos (by decide +kernel)]; kernel_rfl) | (rw [if_neg (by decide +kernel)]; exact ⟨rfl, rfl⟩))
    (fun os started H enc _ => lifted os started H enc)

/-- THE STATEMENT -/
theorem proved : Rows.NameFreshCardSaid :=
  Claim7.holds_tied_plain_at .later [] [.data, .data, .data] true _ false
    over (fun _ h => by cases h) (by kernel_rfl) (fun _ h => by cases h) nameFresh_row_tie rfl ⟨rfl, rfl⟩ (by kernel_rfl) rfl
    (fun f fn hf hfn => by
      obtain rfl : f = 9 := Option.some.inj ((show Tryd.prog.funcNamed Rows.nameFreshRow.func = some 9 by kernel_rfl).symm.trans hf) |>.symm
      obtain rfl : fn = Tryd.f9 := (Option.some.inj (Tryd.func9.symm.trans hfn)).symm
      exact ⟨by kernel_rfl, fun j t ht => by
        rw [Tryd.params9] at ht
        have hm : t ∈ Tryd.f9.params.toList := by rw [Tryd.params9]; simpa using Array.mem_of_getElem? ht
        have hall : (Tryd.f9.params.toList.all fun u => !Tryd.prog.wantsStandIn u) = true := by kernel_rfl
        exact (show Tryd.prog.wantsStandIn t = false by simpa using List.all_eq_true.1 hall t hm)⟩)
    (by kernel_rfl)
#print axioms proved
end Go.Proofs.YtabcggmmdjeobaaDoor.nameFresh
