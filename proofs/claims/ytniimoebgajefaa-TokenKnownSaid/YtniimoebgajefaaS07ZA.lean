/-
  Layer 7: tokens that are placed lie in memory of the call's own; a store into them.
-/
import Derived.Test.YtniimoebgajefaaS07Q
namespace Go.Proofs.Ytniimoebgajefaa.s07
set_option linter.unusedVariables false
set_option linter.unusedSimpArgs false
open Go.RowKit
open kit

set_option maxRecDepth 100000 in
set_option maxHeartbeats 2000000 in
theorem place_own (a : Option Addr) (c : Nat) (l : List Li) (p : Int) (w : World) (hn : l.length ≤ 1000) (hz : Hid (∀ x ∈ l, okB x)) (h1 : 0 ≤ p) (h2 : p ≤ 1099511627776) (hr : Hid (ReadsL w a l)) :
    Calls Try.prog 41 #[.slice a l.length c, .int .i64 p] w fun e w' => ∃ a' c', e = .returned (.tuple #[.slice a' l.length c', .int .i64 (endL p l)]) ∧ w'.ownsRow w.heap.size 23 3 (.slice a' l.length c') l.length (flatL (placeL p l)) ∧ Below w.heap.size w w' := by
  go_enter Try.func41, Try.ntmps41
  go_wp2
  go_loopw [10, 1, 4] (fun i q v wr => ∃ (k : Nat) (e1 : Int), i = .int .i64 k ∧ k ≤ l.length ∧ q = .int .i64 e1 ∧ 0 ≤ e1 ∧ e1 ≤ 1099511627776 + 26 * k ∧ Hid (e1 = endL p (l.take k)) ∧ Hid (wr.ownsRow w.heap.size 23 3 v k (flatL (placeL p (l.take k)))) ∧ Hid (Below w.heap.size w wr)) (fun i _ _ _ => l.length - (intOf i).toNat)
  case atStart => exact ⟨0, p, rfl, by omega, rfl, h1, by omega, Lib.hid rfl, Lib.hid (World.ownsRow_nil _ _ _ _), Lib.hid (Below.refl _ _)⟩
  case round =>
    obtain ⟨k, e1, rfl, hk, rfl, g1, g2, HE, HR, HB⟩ := hrel
    by_cases hlt : k < l.length
    · obtain ⟨b, off, rfl, hb, c0, c1, c2⟩ := (hr.out.below HB.out) k hlt
      have hok := hz.out _ (mem_tok l k hlt)
      have htk := Lib.hid (take_tok l k hlt)
      generalize l[k]?.getD noLi = y at c0 c1 c2 hok htk
      obtain ⟨sy, tx, at'⟩ := y
      obtain ⟨k1, k2, k3⟩ := hok
      simp only at k1 k2 k3
      have hwr := HB.out.size
      have hlt2 : b < wr.heap.size := cell_lt c0
      have B1 := Lib.hid (HB.out.alloc hwr (.cells #[.int .i64 sy, .string tx, .int .i64 e1] 23))
      have X1 := Lib.hid (Box.new wr 23 #[.int .i64 sy, .string tx, .int .i64 e1])
      have R1 := Lib.hid (HR.out.alloc (.cells #[.int .i64 sy, .string tx, .int .i64 e1] 23))
      have hpl : (placeL p (l.take k)).length = k := by rw [placeL_len, List.length_take]; omega
      have hne : u4.ownBlock ≠ some wr.heap.size := fun e => by have := (HR.out.lt _ e).2; omega
      have hk6 : k + 1 ≤ 1000000 := by omega
      have hx8 : tx.size ≤ 9223372036854775805 := by omega
      go_wp2_with (first
        | (at_builtin; refine append_tok Try.underlying34 rfl (.tmp 16) (.tmp 18) rfl w.heap.size _ k (placeL p (l.take k)) rfl (R1.out.alloc _) ⟨wr.heap.size + 1, 0, none⟩ [(sy, tx, e1)] 1 1 rfl rfl (src_new1 _ _ _ (sy, tx, e1)) hk6 (by simp; omega) ?_; intro vA wA hrA hgA; have XA := Lib.hid ((X1.out.alloc (.cells #[.int .i64 sy, .string tx, .int .i64 e1] 23)).grown hgA hne); have BA := Lib.hid ((B1.out.alloc (by simp; omega) (.cells #[.int .i64 sy, .string tx, .int .i64 e1] 23)).grown hgA (by simp; omega) (fun j ej => (HR.out.lt j ej).1)); have RA := Lib.hid hrA; clear hrA hgA; obtain ⟨d0, d1, d2⟩ := XA.out.cell3)
        | (go_at_call 11; refine (size_any sy e1 tx hx8 _).mono ?_; rintro e w2 ⟨rfl, hB⟩; have R2 := Lib.hid (row_below RA.out hB); have B2 := Lib.hid (below_on BA.out (Nat.le_refl _) hB); clear hB))
      go_roundw
      case rel => exact ⟨k + 1, e1 + (2 + (tx.size : Int)), by go_num, by omega, rfl, by omega, by push_cast; omega, Lib.hid (by rw [htk.out, endL_app, ← HE.out]; rfl), Lib.hid (by rw [htk.out, placeL_app, ← HE.out]; exact R2.out), B2⟩
      case measure => simp [intOf]; omega
    · have hke : l.take k = l := List.take_of_length_le (by omega)
      have hkl : k = l.length := by omega
      subst hkl
      rw [hke] at HR HE
      obtain ⟨a', c', rfl, hc, hL, hz⟩ := toks_row (placeL_len l p) HR.out
      have hret : Ending.returned (.tuple #[.slice a' l.length c', .int .i64 e1]) = .returned (.tuple #[.slice a' l.length c', .int .i64 (endL p l)]) := by rw [← HE.out]
      go_wp2
      go_ret2
      exact ⟨a', c', hret, HR.out, HB.out⟩
theorem row_weaken {w : World} {B B' E z k : Nat} {v : Value} {xs : List Value} (h : w.ownsRow B E z v k xs) (hB : B' ≤ B) : w.ownsRow B' E z v k xs := by
  refine ⟨h.1, ?_⟩
  rcases h.2 with h | ⟨g, cap, cur, rfl, hg, rest⟩
  · exact .inl h
  · exact .inr ⟨g, cap, cur, rfl, Nat.le_trans hB hg, rest⟩
set_option maxRecDepth 100000 in
set_option maxHeartbeats 1000000 in
theorem tplace_own (a : Option Addr) (c : Nat) (l : List Li) (t p : Int) (w : World) (hn : l.length ≤ 9223372036854775807) (hr : Hid (ReadsL w a l)) (HK : Hid (allR (chkLP t) l = 0)) (p1 : 0 ≤ p) (p2 : p ≤ 1099511627776) (E : Int) (HE : Hid (endL p l = E)) (hpe : 0 ≤ E) (hq2 : E ≤ 1099511627776) :
    Calls Try.prog 17 #[.slice a l.length c, .int .i64 t, .int .i64 p] w fun e w' => ∃ a' c', e = .returned (.tuple #[.slice a' l.length c', .int .i64 0]) ∧ w'.ownsRow w.heap.size 23 3 (.slice a' l.length c') l.length (flatL (placeL p l)) ∧ Below w.heap.size w w' := by
  obtain ⟨q1, q2⟩ := allR_ok HK.out
  have hok : Hid (∀ z ∈ l, okB z) := Lib.hid fun z hz => chkLP_okB (q2 z hz)
  clear q2
  go_enter Try.func17, Try.ntmps17
  go_wp2_with (first
    | (go_at_call 40; refine (all_parts a c l t _ hn hr 0 HK).mono ?_; rintro e w1 ⟨rfl, hB⟩; have B1 := Lib.hid hB; have R1 := Lib.hid (hr.out.below hB); clear hB)
    | (go_at_call 41; refine (place_own a c l p _ q1 hok p1 p2 R1).mono ?_; rintro e w2 ⟨a2, c2, rfl, hO, hB⟩; rw [HE.out]; have HO := Lib.hid (row_weaken hO B1.out.size); have B2 := Lib.hid (below_then B1.out hB); clear hB B1 hO)
    | (go_at_call 39; have _hB2 := B2; refine (isOffset_yes E _ hpe hq2).mono ?_; rintro e w3 ⟨rfl, rfl⟩)
    | (go_at_call 39; refine (isOffset_yes p _ p1 p2).mono ?_; rintro e w3 ⟨rfl, rfl⟩))
  go_ret2
  exact ⟨a2, c2, rfl, HO.out, B2.out⟩
/-- a row of tokens as an array -/
theorem arr_of_row {w : World} {base n : Nat} {v : Value} {l : List Li} (hn : l.length = n) (hpos : 0 < n) (h : w.ownsRow base 23 3 v n (flatL l)) : ∃ g cap, v = .slice (some ⟨g, 0, none⟩) n cap ∧ base ≤ g ∧ Arr id undef 23 w g (flatL l) := by
  rcases h.2 with ⟨_, h0⟩ | ⟨g, cap, cur, rfl, hb, hk, h1, h2, h3, h4⟩
  · omega
  · refine ⟨g, cap, rfl, hb, cur, hk, by rw [flatL_len]; omega, fun i hi => ?_⟩
    rw [flatL_len] at hi
    have : (cur.toList.take (n * 3))[i]? = (flatL l)[i]? := by rw [h4]
    rw [List.getElem?_take, if_pos (by omega)] at this
    have hi2 : i < (flatL l).length := by rw [flatL_len]; exact hi
    rw [List.getElem?_eq_getElem hi2] at this ⊢
    simpa using this
theorem reads_of_arr {w : World} {g : Nat} {l : List Li} (h : Arr id undef 23 w g (flatL l)) : ReadsL w (some ⟨g, 0, none⟩) l := by
  intro i hi
  have hc : ∀ r, r < 3 → w.cell? ⟨g, i * 3 + r, none⟩ = (cellsL (l[i]?.getD noLi))[r]? := fun r hr => by
    have h1 := (h.cell (i * 3 + r) (by rw [flatL_len]; omega)).1
    rw [h1, ← flatL_at l i hi r hr]
    have h2 : i * 3 + r < (flatL l).length := by rw [flatL_len]; omega
    rw [List.getElem?_eq_getElem h2]; rfl
  exact ⟨g, 0, rfl, h.lt, by rw [Nat.zero_add]; exact hc 0 (by omega), by rw [Nat.zero_add]; exact hc 1 (by omega), by rw [Nat.zero_add]; exact hc 2 (by omega)⟩
end Go.Proofs.Ytniimoebgajefaa.s07
