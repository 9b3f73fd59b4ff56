/-
  TextPlaces: each lexeme of a text stands where it says, between them there are only blanks and remarks, and each one is what comes next behind the one before; no condition.
-/
import Derived.Test.YtjhmlmimgahnmaaRows
import Derived.Test.YtjhmlmimgahnmaaS04R
import Derived.Test.YtjhmlmimgahnmaaKitQuiet
import Derived.WalkKit
import Derived.ProofKit
import Derived.OpenShut
import Derived.ShutString
import Derived.SliceStrings
import Derived.ChangeOld
import Derived.Below
namespace Go.Proofs.Ytjhmlmimgahnmaa.textPlaces
open Go.ChangeShapes Go.WideShapes Go.ChangeAt Go.RowKit
open kit s04
open Go.ChangeMaps (open_string shut_string)
set_option linter.unusedVariables false
set_option linter.unusedSimpArgs false

theorem own : ownKnob Try.prog.godebug = none := by kernel_rfl
theorem laidOut : laidOutB Try.prog = true := by kernel_rfl

set_option maxRecDepth 100000 in
set_option maxHeartbeats 2000000 in
theorem walk (a0 : ByteArray) (w : World) (w0 : a0.size ≤ maxLen) :
    Calls Try.prog 4 #[.string a0] w fun e w' => e = .returned (.bool true) ∧ Below w.heap.size w w' := by
  unfold maxLen at w0
  by_cases hbig : 400 < a0.size
  · go_enter Try.func4, Try.ntmps4
    go_wp2_with (go_at_call 7; refine (awake_any _).mono ?_; rintro e w9 ⟨rfl, hB9⟩)
    go_ret
    exact ⟨rfl, hB9⟩
  · have hsz : a0.size ≤ 400 := by omega
    have hs2 : a0.size ≤ 100000 := by omega
    have hs3 : a0.size ≤ 9223372036854775806 := by omega
    obtain ⟨L, er, p, HL⟩ : ∃ L er p, Hid (lexR a0 = (L, er, p)) := ⟨_, _, _, Lib.hid rfl⟩
    have hlen := lexR_len HL.out
    have hpf := lexR_fault (by omega) HL.out
    clear w0 hbig
    by_cases he : er = 0
    · have HA : Hid (lexS a0 (a0.size + 1) 0 (L.take 0) = (L, 0, 0)) := Lib.hid (by
        have h := HL.out
        unfold lexR at h
        rw [if_neg (by omega)] at h
        have hp : p = 0 := lexS_zero _ _ _ _ _ _ (by rw [h, he])
        rw [List.take_zero, h, he, hp])
      subst he
      clear hpf
      go_enter Try.func4, Try.ntmps4
      go_wp2_with (go_at_call 8; refine (plex_any a0 _ hs2 L 0 p HL).mono ?_; rintro e w1 ⟨b1, c1, rfl, R1, B1⟩; have HR1 := Lib.hid (R1.alloc (.cells #[.int .i64 0, .int .i64 (p : Int)] 26)); have HB1 := Lib.hid (B1.alloc B1.size (.cells #[.int .i64 0, .int .i64 (p : Int)] 26)); clear R1 B1)
      go_loopw [5, 6] (fun at' i wr => ∃ (k j f : Nat), i = .int .i64 j ∧ at' = .int .i64 k ∧ k ≤ a0.size ∧ j ≤ L.length ∧ a0.size - k < f ∧ Hid (lexS a0 f k (L.take j) = (L, 0, 0)) ∧ Hid (ReadsL wr b1 L) ∧ Hid (Below w.heap.size w wr)) (fun _ i _ => L.length - (intOf i).toNat)
      case atStart => exact ⟨0, 0, a0.size + 1, rfl, rfl, by omega, by omega, by omega, HA, HR1, HB1⟩
      case round =>
        obtain ⟨k, j, f, rfl, rfl, hk, hj, hf, HS, HR, HB⟩ := hrel
        obtain ⟨f, rfl⟩ : ∃ g, f = g + 1 := ⟨f - 1, by omega⟩
        obtain ⟨⟨kd, tx, pl⟩, n, e1, a1, HN⟩ : ∃ x n e a, Hid (nextR a0 (k : Int) = (x, n, e, a)) := ⟨_, _, _, _, Lib.hid rfl⟩
        have hst := lexS_walk HS.out HN.out
        by_cases hlt : j < L.length
        · obtain ⟨he1, hLj, hnx⟩ := hst.1 hlt
          subst he1
          obtain rfl := nextR_ok HN.out rfl
          obtain ⟨m, g1, g2, g3, g4, g5, g6, g7, g8, g9, g10, g11, g12⟩ := next_facts hk HN.out
          simp only at g1 g2 g4 g5 g6 g7 g8 g9 g10 g11 g12
          obtain ⟨bb, off, hb1, hbl, h10, h11, h12⟩ := HR.out j hlt
          rw [hLj] at h10 h11 h12
          subst hb1
          replace h10 : wr.cell? ⟨bb, off + j * 3, none⟩ = some (.int .i64 (kd : Int)) := h10
          replace h11 : wr.cell? ⟨bb, off + j * 3 + 1, none⟩ = some (.string tx) := h11
          replace h12 : wr.cell? ⟨bb, off + j * 3 + 2, none⟩ = some (.int .i64 (pl : Int)) := h12
          have HX := Lib.hid (Box.new wr 31 #[.int .i64 (kd : Int), .string tx, .int .i64 (pl : Int)])
          have HN2 : Hid (nextR a0 (k : Int) = ((kd, tx, pl), pl + tx.size, 0, 0)) := Lib.hid (by rw [HN.out, g6, g5])
          have HCk := Lib.hid g11
          have HBl := Lib.hid g12
          have q1 : pl + tx.size ≤ a0.size := by omega
          have HQ := Lib.hid (by rw [← g5] at g4; exact g4 : tx = a0.extract pl (pl + tx.size))
          have HSz := Lib.hid g5
          have HNn := Lib.hid g6
          have HST := Lib.hid hnx
          have g3x : 1 ≤ tx.size := by omega
          clear hst hLj hnx g2 g3 g4 g5 g6 g7 g8 g9 g10 g11 g12
          have HBW := Lib.hid (HB.out.alloc HB.out.size (.cells #[.int .i64 (kd : Int), .string tx, .int .i64 (pl : Int)] 31))
          have HRW := Lib.hid (HR.out.alloc (.cells #[.int .i64 (kd : Int), .string tx, .int .i64 (pl : Int)] 31))
          have tt := str_beq_true HQ.out.symm
          have tn : ((a0.extract pl (pl + tx.size)).toList != tx.toList) = false := by rw [bne, tt]; rfl
          have tl : (a0.extract pl (pl + tx.size)).toList = tx.toList := by rw [← HQ.out]
          have d1 : decide ((pl : Int) < (k : Int)) = false := decide_eq_false (by omega)
          have d1n : decide (pl < k) = false := decide_eq_false (by omega)
          have d2n : decide (a0.size < pl + tx.size) = false := decide_eq_false (by omega)
          have s1 : IntKind.i64.wrap ((pl : Int) + (tx.size : Int)) = (pl : Int) + (tx.size : Int) := IntWalk.i64_in _ (by omega)
          have s2 : (0 : Int) ≤ (pl : Int) + (tx.size : Int) := by omega
          have s3 : ((pl : Int) + (tx.size : Int)).toNat = pl + tx.size := by omega
          have d2 : decide ((a0.size : Int) < (pl : Int) + (tx.size : Int)) = false := decide_eq_false (by omega)
          have s4 : (pl : Int) ≤ (pl : Int) + (tx.size : Int) := by omega
          have s5 : (pl : Int) + (tx.size : Int) ≤ (a0.size : Int) := by omega
          have s6 : (k : Int) ≤ (pl : Int) := by omega
          have s7 : (pl : Int) ≤ (a0.size : Int) := by omega
          have t64 : tx.size ≤ 9223372036854775806 := by omega
          have e64 : (a0.extract k pl).size ≤ 9223372036854775806 := by rw [ByteArray.size_extract]; omega
          have k1 : (-9223372036854775808 : Int) ≤ (k : Int) := by omega
          have k2 : (k : Int) ≤ 9223372036854775807 := by omega
          have HCk2 : Hid (passM false (a0.extract k pl).data.toList = (a0.extract k pl).size) := Lib.hid (by rw [HBl.out, ByteArray.size_extract]; omega)
          go_wp2_with fail
          generalize wr.alloc (.cells #[.int .i64 (kd : Int), .string tx, .int .i64 (pl : Int)] 31) = W1 at HX HBW HRW ⊢
          have z0 : ∀ p : Later W1, p.W.cell? ⟨wr.heap.size, 0, none⟩ = some (.int .i64 (kd : Int)) := fun p => p.cell HX.out.cell3.1 HX.out.lt
          have z1 : ∀ p : Later W1, p.W.cell? ⟨wr.heap.size, 1, none⟩ = some (.string tx) := fun p => p.cell HX.out.cell3.2.1 HX.out.lt
          have z2 : ∀ p : Later W1, p.W.cell? ⟨wr.heap.size, 2, none⟩ = some (.int .i64 (pl : Int)) := fun p => p.cell HX.out.cell3.2.2 HX.out.lt
          clear h10 h11 h12
          refine wp_region_later (by kernel_rfl) (by kernel_rfl) ?_
          repeat (go_big_quiet_step ((first
            | (go_at_call 13; exact calls_later (check_any (kd : Int) (pl : Int) tx _ t64 0 HCk))
            | (go_at_call 14; exact calls_same (blank_yes (a0.extract k pl) _ e64 HCk2))
            | (go_at_call 15; exact calls_later (lnext_yes a0 (k : Int) _ k1 k2 hs3 kd tx pl (pl + tx.size) HN2)))))
          refine wpQuiet_nil ?_
          intro _ hw'
          obtain ⟨p2, hw''⟩ := hw'
          subst hw''
          have y0 := z0 p2
          have y1 := z1 p2
          have y2 := z2 p2
          have HR2 := Lib.hid (HRW.out.below p2.h)
          have HB2 := Lib.hid (below_then HBW.out p2.h)
          clear z0 z1 z2
          generalize p2.W = W2 at y0 y1 y2 HR2 HB2 ⊢
          clear HX HBW HRW s1 s2 s3 d1 d2 d1n d2n
          go_wp2
          go_roundw
          case rel => exact ⟨pl + tx.size, j + 1, f, by go_num, by go_num, q1, by omega, by omega, by rw [HSz.out, ← HNn.out]; exact HST, HR2, HB2⟩
          case measure => simp [intOf]; omega
        · have he1 := hst.2 (by omega)
          have HE : Hid (passM false (a0.extract k a0.size).data.toList = (a0.extract k a0.size).size) := Lib.hid (by
            rw [ext_drop, ByteArray.size_extract]
            have := next_end hk (by rw [HN.out, he1])
            omega)
          have e64 : (a0.extract k a0.size).size ≤ 9223372036854775806 := by rw [ByteArray.size_extract]; omega
          clear hst he1
          go_wp2_with (first
            | (go_at_call 14; refine (blank_yes (a0.extract k a0.size) _ e64 HE).mono ?_; rintro e w3 ⟨rfl, rfl⟩)
            | (go_at_call 7; refine (awake_any _).mono ?_; rintro e w9 ⟨rfl, hB9⟩))
          go_ret
          exact ⟨rfl, below_then HB.out hB9⟩
    · have t0 : ((er : Int) != 0) = true := by rw [bne_iff_ne]; omega
      have p0 : (0 : Int) ≤ (p : Int) := by omega
      have p1 : (p : Int) ≤ (a0.size : Int) := by omega
      clear he hlen
      go_enter Try.func4, Try.ntmps4
      go_wp2_with (first
        | (go_at_call 8; refine (plex_any a0 _ hs2 L er p HL).mono ?_; rintro e w1 ⟨b1, c1, rfl, R1, B1⟩; have HB1 := Lib.hid (B1.alloc B1.size (.cells #[.int .i64 (er : Int), .int .i64 (p : Int)] 26)); clear R1 B1)
        | (go_at_call 7; refine (awake_any _).mono ?_; rintro e w9 ⟨rfl, hB9⟩))
      go_ret
      exact ⟨rfl, below_then HB1.out hB9⟩

set_option maxRecDepth 100000 in
theorem lifted (os : Os) (started : os.Started) (H : Type) (enc : TypeId × Value → H) :
    ReturnsInHanded {} Try.checked os 4 .any (Rows.textPlacesSpec.pre6 enc Try.prog Try.f4 Rows.textPlacesRow.domain false) (Rows.textPlacesSpec.post enc Try.prog Try.f4 false true false false) := by
  refine returnsInHanded_of_change (C := Try.checked) own started (by kernel_rfl) Try.func4
    (ChangeSpec.witness6 (enc := enc) (C := Try.checked) false ⟨#[], #[.string ByteArray.empty], []⟩ 8 (by kernel_rfl) (by kernel_rfl) (by kernel_rfl) (by kernel_rfl)) ?_
  intro W base args ds gs before hval0 hW hcnd _
  have hval : ∀ (j : Nat) t v, Try.f4.params[j]? = some t → args[j]? = some v → Value.okWide Try.prog W .any base t v := hval0
  have hW' := hW
  obtain ⟨p, q, hA0, hV, rfl, hfz, hnd⟩ := hW
  have hA : DataW.TrodAll enc Try.prog W 0 (fun _ => true) true Try.f4.params.toList args.toList ds p := hA0
  rw [Try.params4] at hA hval
  obtain ⟨v0, vs0, d0, ds0, p0, q0, hargs, rfl, rfl, h0, r0⟩ := trodAll_cons hA
  obtain ⟨rfl, rfl, rfl⟩ := trodAll_nil r0
  obtain rfl : args = #[v0] := by cases args; simp_all
  obtain ⟨rfl, rfl⟩ := trodVars_none hV
  have k0 := h0
  have lt0 : ∀ x ∈ p0, x.block < W.heap.size := by obtain ⟨m, hm⟩ := k0; exact DataW.trod_lt m _ _ _ hm
  obtain ⟨a0, rfl, rfl, rfl, w0⟩ := open_string Try.underlying9 (hval 0 9 v0 rfl rfl) h0
  clear hA0 hval0
  refine (walk a0 W w0).mono fun e W' ⟨he, bel⟩ => ?_
  subst he
  exact ⟨_, rfl, _, _, _, [], _, [], hW', trodAll_mk1 (shut_bool Try.underlying4 _), trodAll_cons_mk (Below.trod laidOut (by kernel_rfl) (of_decide_eq_true (by kernel_rfl)) k0 bel lt0) trodAll_mk0, rfl, bel.frame _, fun h => by cases h⟩

theorem over : Rows.textPlacesRow.holds Try.pinned (OpenSpec.ofChange Rows.textPlacesSpec) :=
  OpenClaim.holds_of_wide 4 Try.f4 rfl rfl rfl rfl rfl rfl rfl ⟨rfl, rfl, rfl, rfl, rfl⟩ rfl rfl rfl rfl rfl (by kernel_rfl) Try.func4 (by kernel_rfl)
    (of_decide_eq_true (by kernel_rfl)) (by unfold Func.isWrapper; first | (rw [if_pos (by decide +kernel)]; kernel_rfl) | (rw [if_neg (by decide +kernel)]; exact ⟨rfl, rfl⟩))
    (fun os started H enc _ => lifted os started H enc)

/-- THE STATEMENT -/
theorem proved : Rows.TextPlacesSaid := over
#print axioms proved
end Go.Proofs.Ytjhmlmimgahnmaa.textPlaces
