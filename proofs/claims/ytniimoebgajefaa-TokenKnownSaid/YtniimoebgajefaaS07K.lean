/-
  Layer 7, the program's side: Place and Placed.
-/
import Derived.Test.YtniimoebgajefaaS07J
namespace Go.Proofs.Ytniimoebgajefaa.s07
set_option linter.unusedVariables false
set_option linter.unusedSimpArgs false
open Go.RowKit
open kit

/-- Place's answer -/
def placeR (l : List Li) (t p : Int) : List Li × Int :=
  if allR (chkLP t) l = 0 then (if p < 0 ∨ 1099511627776 < p then ([], 2) else if 1099511627776 < endL p l then ([], 2) else (placeL p l, 0)) else ([], allR (chkLP t) l)
/-- tokens and an error are handed back -/
def ToksTo (w : World) (L : List Li) (er : Int) (e : Ending) (w' : World) : Prop :=
  ∃ a c, e = .returned (.tuple #[.slice a L.length c, .int .i64 er]) ∧ ReadsL w' a L ∧ (a = none → c = 0) ∧ Below w.heap.size w w'
theorem toks_nil {w w' : World} {L : List Li} {er er' : Int} (h : ([], er) = (L, er')) (hB : Below w.heap.size w w') : ToksTo w L er' (.returned (.tuple #[.slice none 0 0, .int .i64 er])) w' := by
  cases h
  exact ⟨none, 0, rfl, ReadsL.nil _ _, fun _ => rfl, hB⟩
set_option maxRecDepth 100000 in
set_option maxHeartbeats 1000000 in
theorem tplace_any (a : Option Addr) (c : Nat) (l : List Li) (t p : Int) (w : World) (hn : l.length ≤ 9223372036854775807) (hr : Hid (ReadsL w a l)) (L : List Li) (er : Int) (H : Hid (placeR l t p = (L, er))) :
    Calls Try.prog 17 #[.slice a l.length c, .int .i64 t, .int .i64 p] w (ToksTo w L er) := by
  obtain ⟨k, hk⟩ : ∃ k, allR (chkLP t) l = k := ⟨_, rfl⟩
  have HK := Lib.hid hk
  have hc := H.out
  unfold placeR at hc
  rw [hk] at hc
  clear H
  by_cases hk0 : k = 0
  · rw [if_pos hk0] at hc
    subst hk0
    obtain ⟨q1, q2⟩ := allR_ok hk
    have hok : Hid (∀ z ∈ l, okB z) := Lib.hid fun z hz => chkLP_okB (q2 z hz)
    clear hk q2
    by_cases hp : p < 0 ∨ 1099511627776 < p
    · rw [if_pos hp] at hc
      have HC := Lib.hid hc
      clear hc
      go_enter Try.func17, Try.ntmps17
      go_wp2_with (first
        | (go_at_call 40; refine (all_parts a c l t _ hn hr 0 HK).mono ?_; rintro e w1 ⟨rfl, hB⟩; have B1 := Lib.hid hB; clear hB)
        | (go_at_call 39; refine (isOffset_no p _ hp).mono ?_; rintro e w2 ⟨rfl, rfl⟩))
      go_ret2
      exact toks_nil HC.out B1.out
    · rw [if_neg hp] at hc
      have p1 : 0 ≤ p := by omega
      have p2 : p ≤ 1099511627776 := by omega
      have hge := endL_ge l p
      have hle := endL_le l hok.out p
      have hpe : 0 ≤ endL p l := by omega
      clear hp hge hle
      by_cases hq : 1099511627776 < endL p l
      · rw [if_pos hq] at hc
        have HC := Lib.hid hc
        have hq2 : endL p l < 0 ∨ 1099511627776 < endL p l := .inr hq
        generalize hE : endL p l = E at hq2 hq hpe
        have HE := Lib.hid hE
        clear hc hE
        go_enter Try.func17, Try.ntmps17
        go_wp2_with (first
          | (go_at_call 40; refine (all_parts a c l t _ hn hr 0 HK).mono ?_; rintro e w1 ⟨rfl, hB⟩; have B1 := Lib.hid hB; have R1 := Lib.hid (hr.out.below hB); clear hB)
          | (go_at_call 41; refine (place_any a c l p _ q1 hok p1 p2 R1).mono ?_; rintro e w2 ⟨a2, c2, rfl, hL, hz2, hB⟩; rw [HE.out]; have B2 := Lib.hid (below_then B1.out hB); clear hB B1)
          | (go_at_call 39; have _hB2 := B2; refine (isOffset_no E _ hq2).mono ?_; rintro e w3 ⟨rfl, rfl⟩)
          | (go_at_call 39; refine (isOffset_yes p _ p1 p2).mono ?_; rintro e w3 ⟨rfl, rfl⟩))
        go_ret2
        exact toks_nil HC.out B2.out
      · rw [if_neg hq] at hc
        have HC := Lib.hid hc
        have hq2 : endL p l ≤ 1099511627776 := by omega
        generalize hE : endL p l = E at hq2 hpe
        have HE := Lib.hid hE
        clear hc hE hq
        go_enter Try.func17, Try.ntmps17
        go_wp2_with (first
          | (go_at_call 40; refine (all_parts a c l t _ hn hr 0 HK).mono ?_; rintro e w1 ⟨rfl, hB⟩; have B1 := Lib.hid hB; have R1 := Lib.hid (hr.out.below hB); clear hB)
          | (go_at_call 41; refine (place_any a c l p _ q1 hok p1 p2 R1).mono ?_; rintro e w2 ⟨a2, c2, rfl, hL, hz2, hB⟩; rw [HE.out]; have HL := Lib.hid hL; have HZ := Lib.hid hz2; have B2 := Lib.hid (below_then B1.out hB); clear hB B1 hL hz2)
          | (go_at_call 39; have _hB2 := B2; refine (isOffset_yes E _ hpe hq2).mono ?_; rintro e w3 ⟨rfl, rfl⟩)
          | (go_at_call 39; refine (isOffset_yes p _ p1 p2).mono ?_; rintro e w3 ⟨rfl, rfl⟩))
        go_ret2
        have hx := HC.out
        simp only [Prod.mk.injEq] at hx
        obtain ⟨rfl, rfl⟩ := hx
        exact ⟨a2, c2, by rw [placeL_len]; rfl, HL.out, HZ.out, B2.out⟩
  · rw [if_neg hk0] at hc
    have HC := Lib.hid hc
    have t0 : (k != 0) = true := by rw [bne_iff_ne]; exact hk0
    clear hc hk0 hk
    go_enter Try.func17, Try.ntmps17
    go_wp2_with (go_at_call 40; refine (all_parts a c l t _ hn hr k HK).mono ?_; rintro e w1 ⟨rfl, hB⟩)
    go_ret2
    exact toks_nil HC.out hB
/-- where the first one is -/
def hdAt (l : List Li) : Int := (l[0]?.getD noLi).2.2
/-- Placed's answer -/
def placedR (l : List Li) (t : Int) : Int := if allR (chkL t) l = 0 then (if placeL (hdAt l) l = l then 0 else 9) else allR (chkL t) l
theorem placeL_at (l : List Li) : ∀ (p : Int) (k : Nat), k < l.length → (placeL p l)[k]?.getD noLi = ((l[k]?.getD noLi).1, (l[k]?.getD noLi).2.1, endL p (l.take k)) := by
  induction l with
  | nil => intro p k h; simp at h
  | cons x r ih =>
    intro p k h
    cases k with
    | zero => simp [placeL, endL]
    | succ k => simp only [placeL, List.getElem?_cons_succ, List.take_succ_cons, endL]; exact ih _ k (by simpa using h)
theorem take_eq_snoc {l r : List Li} {k : Nat} (h1 : k < l.length) (h2 : k < r.length) (h : l.take k = r.take k) (he : l[k]?.getD noLi = r[k]?.getD noLi) : l.take (k + 1) = r.take (k + 1) := by
  rw [take_tok l k h1, take_tok r k h2, h, he]
theorem tok_eta (x : Li) {y p : Int} {tx : ByteArray} (h : x = (y, tx, p)) : x.1 = y ∧ x.2.1 = tx ∧ x.2.2 = p := by subst h; exact ⟨rfl, rfl, rfl⟩
set_option maxRecDepth 100000 in
set_option maxHeartbeats 2000000 in
theorem placed_any (a : Option Addr) (c : Nat) (l : List Li) (t : Int) (w : World) (hn : l.length ≤ 9223372036854775807) (hr : Hid (ReadsL w a l)) (er : Int) (H : Hid (placedR l t = er)) :
    Calls Try.prog 18 #[.slice a l.length c, .int .i64 t] w fun e w' => e = .returned (.int .i64 er) ∧ Below w.heap.size w w' := by
  obtain ⟨k, hk⟩ : ∃ k, allR (chkL t) l = k := ⟨_, rfl⟩
  have HK := Lib.hid hk
  have hc := H.out
  unfold placedR at hc
  rw [hk] at hc
  clear H
  by_cases hk0 : k = 0
  · rw [if_pos hk0] at hc
    subst hk0
    obtain ⟨q1, q2⟩ := allR_ok hk
    have hok : Hid (∀ z ∈ l, okB z) := Lib.hid fun z hz => chkL_okB (q2 z hz)
    by_cases h0 : l.length = 0
    · have hl : l = [] := List.eq_nil_of_length_eq_zero h0
      have HC : Hid (0 = er) := Lib.hid (by rw [← hc, hl]; rfl)
      subst hl
      clear hk q2 hc
      go_enter Try.func18, Try.ntmps18
      go_wp2_with (go_at_call 40; refine (all_check a c [] t _ hn hr 0 HK).mono ?_; rintro e w1 ⟨rfl, hB⟩; have B1 := Lib.hid hB; clear hB)
      go_ret
      exact ⟨ret_int HC.out, B1.out⟩
    · have hpos : 0 < l.length := by omega
      have t0 : ((l.length : Int) == 0) = false := by rw [beq_eq_false_iff_ne]; omega
      have hpos2 : (0 : Int) < (l.length : Int) := by omega
      obtain ⟨_, pp1, pp2⟩ := chkR_ok (q2 _ (mem_tok l 0 hpos))
      have p1 : 0 ≤ hdAt l := pp1
      have p2 : hdAt l ≤ 1099511627776 := pp2
      clear hk q2 h0 pp1 pp2
      obtain ⟨b, off, rfl, hb, h0, h1, h2⟩ := hr.out 0 hpos
      have h2' : w.cell? ⟨b, off + 2, none⟩ = some (.int .i64 (hdAt l)) := by have h := h2; rw [Nat.zero_mul] at h; exact h
      obtain ⟨P, hP⟩ : ∃ P, hdAt l = P := ⟨_, rfl⟩
      rw [hP] at p1 p2 h2' hc
      have HC := Lib.hid hc
      have hlt2 : b < w.heap.size := cell_lt h0
      clear hP h0 h1 h2 hc
      go_enter Try.func18, Try.ntmps18
      go_wp2_with (first
        | (go_at_call 40; refine (all_check _ c l t _ hn hr 0 HK).mono ?_; rintro e w1 ⟨rfl, hB⟩; have B1 := Lib.hid hB; have R1 := Lib.hid (hr.out.below hB); have g2 := (hB.cell (p := ⟨b, off + 2, none⟩) hlt2).trans h2'; clear hB)
        | (go_at_call 41; refine (place_any _ c l P _ q1 hok p1 p2 R1).mono ?_; rintro e w2 ⟨a2, c2, rfl, hL, hz2, hB⟩; have HL := Lib.hid hL; have R2 := Lib.hid (R1.out.below hB); have B2 := Lib.hid (below_then B1.out hB); clear hB B1 hL hz2 g2))
      go_loopw [30] (fun i wr => ∃ k : Nat, i = .int .i64 k ∧ k ≤ l.length ∧ Hid ((placeL P l).take k = l.take k) ∧ Hid (ReadsL wr a2 (placeL P l)) ∧ Hid (ReadsL wr (some ⟨b, off, none⟩) l) ∧ Hid (Below w.heap.size w wr)) (fun i _ => l.length - (intOf i).toNat)
      case atStart => exact ⟨0, rfl, by omega, Lib.hid rfl, HL, R2, B2⟩
      case round =>
        obtain ⟨k, rfl, hk, HT, HL3, HR3, HB⟩ := hrel
        clear HL R2 B2
        by_cases hlt : k < l.length
        · have hlt9 : k < (placeL P l).length := by rw [placeL_len]; exact hlt
          obtain ⟨b', off', e1, hb', c0, c1, c2'⟩ := HR3.out k hlt
          cases e1
          obtain ⟨b2, off2, rfl, hb2, d0, d1, d2⟩ := HL3.out k hlt9
          rw [placeL_at l P k hlt] at d0 d1 d2
          have hts := Lib.hid (fun he => take_eq_snoc hlt9 hlt HT.out he)
          rw [placeL_at l P k hlt] at hts
          have hat := placeL_at l P k hlt
          have HQ : Hid (∀ h : placeL P l = l, endL P (l.take k) = (l[k]?.getD noLi).2.2) := Lib.hid fun h => by rw [h] at hat; exact (congrArg (fun x => x.2.2) hat).symm
          clear hat
          generalize hy : l[k]?.getD noLi = y at c0 c1 c2' d0 d1 hts HQ
          obtain ⟨sy, tx, at'⟩ := y
          simp only at c0 c1 c2' d0 d1
          generalize endL P (l.take k) = at2 at d2 hts HQ
          have hwr := HB.out.size
          have B3 := Lib.hid (HB.out.alloc hwr (.cells #[.int .i64 sy, .string tx, .int .i64 at2] 23))
          by_cases hq : at2 = at'
          · subst hq
            have HTS := Lib.hid (hts.out rfl)
            clear hts HQ hy
            go_wp2
            go_quiet (fail)
            go_wp2
            go_roundw
            case rel => exact ⟨k + 1, by go_num, by omega, HTS, Lib.hid ((HL3.out.alloc _).drewN _), Lib.hid ((HR3.out.alloc _).drewN _), Lib.hid (below_drewN B3.out _)⟩
            case measure => simp [intOf]; omega
          · have HN : Hid (9 = er) := Lib.hid (by rw [← HC.out, if_neg fun h => hq (HQ.out h)])
            have t9 : (at2 == at') = false := by rw [beq_eq_false_iff_ne]; exact hq
            clear hts HQ hy hq
            go_wp2
            go_quiet (fail)
            go_wp2
            go_ret
            exact ⟨ret_int HN.out, below_drewN B3.out _⟩
        · have HN : Hid (0 = er) := Lib.hid (by
            have h := HT.out
            rw [List.take_of_length_le (by rw [placeL_len]; omega), List.take_of_length_le (by omega)] at h
            rw [← HC.out, if_pos h])
          go_wp2
          go_ret
          exact ⟨ret_int HN.out, HB.out⟩
  · rw [if_neg hk0] at hc
    have HC := Lib.hid hc
    have t0 : (k != 0) = true := by rw [bne_iff_ne]; exact hk0
    clear hc hk0 hk
    go_enter Try.func18, Try.ntmps18
    go_wp2_with (go_at_call 40; refine (all_check a c l t _ hn hr k HK).mono ?_; rintro e w1 ⟨rfl, hB⟩)
    go_ret
    exact ⟨ret_int HC.out, hB⟩
end Go.Proofs.Ytniimoebgajefaa.s07
