/-
  Layer 14: the law's made: a set of at most 16 looks of 3 terminals. Layer 14: sets of looks of 3 terminals: how many; the program's calls on them. Layer 14: the program's calls on sets of looks of 3 terminals. Layer 14: the laws of sets, pure. Layer 14: own; appending a row that may be empty. Layer 14: the reference's sorted.
-/
import Derived.Test.YtdahaajfkjmflaaG16
import Derived.Test.YtdahaajfkjmflaaG03
import Derived.Laws.OwnMore
import Derived.Test.YtdahaajfkjmflaaG10
import Derived.Test.YtdahaajfkjmflaaG09
namespace Go.Proofs.Ytdahaajfkjmflaa.s14
set_option linter.unusedVariables false
set_option linter.unusedSimpArgs false
open Go.RowKit
open kit

open s13

open Go.Shelf
theorem quo4 {k : Int} (h : 0 ≤ k) (h2 : k ≤ 1048576) : ∃ r : Int, k.tdiv 4 = r ∧ 0 ≤ r ∧ r ≤ 1048576 := ⟨k.tdiv 4, rfl, by rw [Int.tdiv_eq_ediv_of_nonneg h]; omega, by rw [Int.tdiv_eq_ediv_of_nonneg h]; omega⟩
theorem rem3 {k : Int} (h : 0 ≤ k) : ∃ r : Int, k.tmod 3 = r ∧ 0 ≤ r ∧ r < 3 := ⟨k.tmod 3, rfl, by rw [Int.tmod_eq_emod_of_nonneg h]; omega, by rw [Int.tmod_eq_emod_of_nonneg h]; omega⟩
theorem rem4 {k : Int} (h : 0 ≤ k) : ∃ r : Nat, k.tmod 4 = (r : Int) ∧ r ≤ 3 := ⟨(k.tmod 4).toNat, by rw [Int.tmod_eq_emod_of_nonneg h]; omega, by rw [Int.tmod_eq_emod_of_nonneg h]; omega⟩
def cellsA (x : V5) : Array Value := #[.int .i64 x.1, .int .i64 x.2.1, .int .i64 x.2.2.1, .int .i64 x.2.2.2.1, .int .i64 x.2.2.2.2]
/-- a row of looks of 3 terminals -/
def RowD (w : World) (b : Nat) (v : Value) (i : Nat) : Prop := ∃ D : List (List Int), D.length = i ∧ (∀ x ∈ D, okL 3 x) ∧ w.ownsRow b 25 5 v i (flat5 (D.map pad5))
theorem RowD.below {w w1 : World} {b : Nat} {v : Value} {i : Nat} (h : RowD w b v i) (hB : Below w.heap.size w w1) : RowD w1 b v i := by
  obtain ⟨D, h1, h2, h3⟩ := h
  exact ⟨D, h1, h2, own5_below h3 hB⟩
theorem RowD.setAt {w : World} {b g k k' cp : Nat} {p : Option Addr} (h : RowD w b (.slice p k cp) k') (hp : ∀ g' o, p = some ⟨g', o, none⟩ → g' < g) (i : Nat) (u : Value) : RowD (w.setCell ⟨g, i, none⟩ u) b (.slice p k cp) k' := by
  obtain ⟨D, h1, h2, h3, h4⟩ := h
  refine ⟨D, h1, h2, h3, ?_⟩
  rcases h4 with h4 | ⟨g', cap0, cur, e, h5, h6, h7⟩
  · exact .inl h4
  · cases e
    have := hp _ _ rfl
    exact .inr ⟨g', _, cur, rfl, h5, by rw [Below.heap_setCell _ _ _ _ (by simp; omega)]; exact h6, h7⟩
theorem RowD.inAt {w : World} {b k k' cp : Nat} {p : Option Addr} (h : RowD w b (.slice p k cp) k') : ∀ g' o, p = some ⟨g', o, none⟩ → g' < w.heap.size := by
  obtain ⟨D, h1, h2, h3, h4⟩ := h
  rintro g' o rfl
  rcases h4 with ⟨h4, _⟩ | ⟨g', cap, cur, e, h5, h6, h7⟩
  · cases h4
  · cases e
    exact (Array.getElem?_eq_some_iff.1 h6).1
/-- a look under way -/
def LkD (w : World) (g q : Nat) : Prop := ∃ d : List Int, d.length + q ≤ 3 ∧ okL 3 d ∧ Box w 25 g (cellsA (pad5 d))
set_option maxRecDepth 100000 in
set_option maxHeartbeats 6000000 in
theorem lmade_any (a : Option Addr) (n c : Nat) (l : List Int) (w : World) (hl : Hid (l.length = n)) (hn : n ≤ 9223372036854775807) (hb : Hid (∀ z ∈ l, -9223372036854775808 ≤ z ∧ z ≤ 9223372036854775807)) (hr : Hid (ReadsI w a l)) :
    Calls Try.prog 37 #[.slice a n c] w fun e w' => ∃ p cp N L, e = .returned (.tuple #[.slice p N cp, .bool true]) ∧ List.length L = N ∧ N ≤ 16 ∧ N ≤ cp ∧ Asc L ∧ (∀ x ∈ L, okL 3 x) ∧ Reads5 w' p (L.map pad5) ∧ Below w.heap.size w w' := by
  go_enter Try.func37, Try.ntmps37
  go_wp2
  go_loopw [4, 5] (fun v4 v5 wr => ∃ (i cp : Nat) (p : Option Addr), v5 = .int .i64 i ∧ v4 = .slice p i cp ∧ i ≤ cp ∧ i ≤ n ∧ i ≤ 16 ∧ Hid (RowD wr w.heap.size (.slice p i cp) i) ∧ Hid (Below w.heap.size w wr)) (fun _ v _ => n - (intOf v).toNat)
  case atStart => exact ⟨0, 0, none, rfl, rfl, Nat.le_refl _, by omega, by omega, Lib.hid ⟨[], rfl, by simp, World.ownsRow_nil _ _ _ _⟩, Lib.hid (Below.refl _ _)⟩
  case round =>
    obtain ⟨i, cp, p, rfl, rfl, hcp, hi, h16, HRow, HB⟩ := hrel
    obtain ⟨wo, hwo⟩ : ∃ wo : World, wo = wr := ⟨_, rfl⟩
    subst hwo
    by_cases hlt : i < n
    · by_cases hl16 : i < 16
      · have hil : i < l.length := by rw [hl.out]; exact hlt
        obtain ⟨b, off, rfl, hbb, hc⟩ := (hr.out.below HB.out) i hil
        have hx : -9223372036854775808 ≤ l[i]?.getD 0 ∧ l[i]?.getD 0 ≤ 9223372036854775807 := by
          rw [List.getElem?_eq_getElem hil]; exact hb.out _ (List.getElem_mem hil)
        generalize l[i]?.getD 0 = x at hc hx
        obtain ⟨hx1, hx2⟩ := hx
        obtain ⟨k, hk⟩ : ∃ k, x % 1048576 = k := ⟨_, rfl⟩
        have hk0 : 0 ≤ k := by omega
        have hk1 : k ≤ 1048576 := by omega
        obtain ⟨q, hq, hq3⟩ := rem4 hk0
        have HMO : ∀ W, Calls Try.prog 38 #[.int .i64 x, .int .i64 1048576] W fun e w' => e = .returned (.int .i64 k) ∧ W = w' := fun W => by rw [← hk]; exact mod_any x 1048576 hx1 hx2 (by omega) (by omega) W
        have HM := Lib.hid HMO
        have X0 := Lib.hid (Box.new wo 25 #[.int .i64 0, .int .i64 0, .int .i64 0, .int .i64 0, .int .i64 0])
        have R0 := Lib.hid (HRow.out.below ((Below.refl wo.heap.size wo).alloc (Nat.le_refl _) (.cells #[.int .i64 0, .int .i64 0, .int .i64 0, .int .i64 0, .int .i64 0] 25)))
        have hws := HB.out.size
        have B0 := Lib.hid (HB.out.alloc hws (.cells #[.int .i64 0, .int .i64 0, .int .i64 0, .int .i64 0, .int .i64 0] 25))
        have hl16' : (i : Int) < 16 := by omega
        have HPB := Lib.hid HRow.out.inAt
        clear HMO hk hil
        go_wp2_with (go_at_call 38; refine (HM.out _).mono ?_; rintro e w1 ⟨rfl, rfl⟩)
        clear hc HM hx1 hx2
        go_loopw [6, 8] (fun v6 v8 ws => ∃ (k : Int) (q : Nat), v6 = .int .i64 k ∧ v8 = .int .i64 q ∧ 0 ≤ k ∧ k ≤ 1048576 ∧ q ≤ 3 ∧ Hid (LkD ws wo.heap.size q) ∧ Hid (RowD ws w.heap.size (.slice p i cp) i) ∧ Hid (Below w.heap.size w ws)) (fun _ v _ => (intOf v).toNat)
        case atStart => exact ⟨k, q, rfl, rfl, hk0, hk1, hq3, Lib.hid ⟨[], by simp; exact hq3, ⟨by simp, by simp⟩, X0.out⟩, R0, B0⟩
        case round =>
          clear X0 R0 B0 hq hk0 hk1 hq3 HRow
          obtain ⟨k, q, rfl, rfl, hk0, hk1, hq3, HX, HR, HB2⟩ := hrel
          obtain ⟨k2, hk2, hk20, hk21⟩ := quo4 hk0 hk1
          obtain ⟨r, hr3, hr0, hr1⟩ := rem3 hk20
          have hws2 := HB2.out.size
          have hlws : w.heap.size ≤ wo.heap.size := HB.out.size
          obtain ⟨d, hdq, hok, hbx⟩ := HX.out
          by_cases hq0 : 0 < q
          · obtain ⟨q', rfl⟩ : ∃ q', q = q' + 1 := ⟨q - 1, by omega⟩
            have hqq : ((q' + 1 : Nat) : Int) - 1 = (q' : Int) := by omega
            have hqp : (0 : Int) < ((q' + 1 : Nat) : Int) := by omega
            rcases d with _ | ⟨a, _ | ⟨b, _ | ⟨e, f⟩⟩⟩
            · replace hbx : Box wr 25 wo.heap.size #[.int .i64 0, .int .i64 0, .int .i64 0, .int .i64 0, .int .i64 0] := hbx
              obtain ⟨u0, u1, u2, u3, u4⟩ := hbx.cell5
              obtain ⟨g0, g1, g2, g3, g4⟩ := hbx.free5
              have X2 := Lib.hid ((hbx.set 1 (by simp) (.int .i64 r)).set 0 (by simp) (.int .i64 1))
              have HOK2 : Hid (okL 3 [r]) := Lib.hid ⟨by simp, by have h2 := hok.2; simp at h2 ⊢; omega⟩
              have R2 := Lib.hid ((HR.out.setAt HPB.out 1 (.int .i64 r)).setAt HPB.out 0 (.int .i64 1))
              have B2 := Lib.hid ((HB2.out.setCell (p := ⟨wo.heap.size, 1, none⟩) hlws (.int .i64 r)).setCell (p := ⟨wo.heap.size, 0, none⟩) hlws (.int .i64 1))
              clear hbx HX hok HR HB2
              go_wp2
              go_roundw
              case rel => exact ⟨k2, q', rfl, rfl, hk20, hk21, by omega, Lib.hid ⟨[r], by simp at hdq ⊢; omega, HOK2.out, X2.out⟩, R2, B2⟩
              case measure => simp [intOf]
            · replace hbx : Box wr 25 wo.heap.size #[.int .i64 1, .int .i64 a, .int .i64 0, .int .i64 0, .int .i64 0] := hbx
              obtain ⟨u0, u1, u2, u3, u4⟩ := hbx.cell5
              obtain ⟨g0, g1, g2, g3, g4⟩ := hbx.free5
              have X2 := Lib.hid ((hbx.set 2 (by simp) (.int .i64 r)).set 0 (by simp) (.int .i64 2))
              have HOK2 : Hid (okL 3 [a, r]) := Lib.hid ⟨by simp, by have h2 := hok.2; simp at h2 ⊢; omega⟩
              have R2 := Lib.hid ((HR.out.setAt HPB.out 2 (.int .i64 r)).setAt HPB.out 0 (.int .i64 2))
              have B2 := Lib.hid ((HB2.out.setCell (p := ⟨wo.heap.size, 2, none⟩) hlws (.int .i64 r)).setCell (p := ⟨wo.heap.size, 0, none⟩) hlws (.int .i64 2))
              clear hbx HX hok HR HB2
              go_wp2
              go_roundw
              case rel => exact ⟨k2, q', rfl, rfl, hk20, hk21, by omega, Lib.hid ⟨[a, r], by simp at hdq ⊢; omega, HOK2.out, X2.out⟩, R2, B2⟩
              case measure => simp [intOf]
            · replace hbx : Box wr 25 wo.heap.size #[.int .i64 2, .int .i64 a, .int .i64 b, .int .i64 0, .int .i64 0] := hbx
              obtain ⟨u0, u1, u2, u3, u4⟩ := hbx.cell5
              obtain ⟨g0, g1, g2, g3, g4⟩ := hbx.free5
              have X2 := Lib.hid ((hbx.set 3 (by simp) (.int .i64 r)).set 0 (by simp) (.int .i64 3))
              have HOK2 : Hid (okL 3 [a, b, r]) := Lib.hid ⟨by simp, by have h2 := hok.2; simp at h2 ⊢; omega⟩
              have R2 := Lib.hid ((HR.out.setAt HPB.out 3 (.int .i64 r)).setAt HPB.out 0 (.int .i64 3))
              have B2 := Lib.hid ((HB2.out.setCell (p := ⟨wo.heap.size, 3, none⟩) hlws (.int .i64 r)).setCell (p := ⟨wo.heap.size, 0, none⟩) hlws (.int .i64 3))
              clear hbx HX hok HR HB2
              go_wp2
              go_roundw
              case rel => exact ⟨k2, q', rfl, rfl, hk20, hk21, by omega, Lib.hid ⟨[a, b, r], by simp at hdq ⊢; omega, HOK2.out, X2.out⟩, R2, B2⟩
              case measure => simp [intOf]
            · simp at hdq; omega
          · obtain rfl : q = 0 := by omega
            obtain ⟨⟨x0, x1, x2, x3, x4⟩, ex⟩ : ∃ y, pad5 d = y := ⟨_, rfl⟩
            rw [ex] at hbx
            obtain ⟨u0, u1, u2, u3, u4⟩ := Box.cell5 (x0 := .int .i64 x0) (x1 := .int .i64 x1) (x2 := .int .i64 x2) (x3 := .int .i64 x3) (x4 := .int .i64 x4) hbx
            obtain ⟨D, hD1, hD2, hD3⟩ := HR.out
            have HD3 := Lib.hid hD3
            have HDE := Lib.hid (flat_snoc D d ex)
            have HD4 : Hid (∀ x ∈ D ++ [d], okL 3 x) := Lib.hid (fun x hx => by
              rcases List.mem_append.1 hx with hx | hx
              · exact hD2 x hx
              · obtain rfl := List.mem_singleton.1 hx; exact hok)
            have HD1 := Lib.hid hD1
            clear hD1 hD2 hD3 hok hbx HX HR ex hdq
            go_wp2_with (at_builtin; refine append_in5 rfl (.tmp 44) (.tmp 46) rfl w.heap.size _ i _ rfl (own5_below HD3.out ((Below.refl _ _).alloc (Nat.le_refl _) _)) _ [(x0, x1, x2, x3, x4)] 1 1 rfl rfl (by decide) (reads5_block (Box.new _ 25 #[.int .i64 x0, .int .i64 x1, .int .i64 x2, .int .i64 x3, .int .i64 x4]) rfl) (by omega) (by simp; omega) ?_; intro v3 w3 hv3 hB3; have O3 := Lib.hid hv3; have B3 := Lib.hid ((HB2.out.alloc hws2 (.cells #[.int .i64 x0, .int .i64 x1, .int .i64 x2, .int .i64 x3, .int .i64 x4] 25)).trans hB3); clear hv3 hB3)
            obtain ⟨p3, c3, e3, hc3⟩ := row5_shape O3.out
            subst e3
            go_roundw
            case rel => exact ⟨i + 1, c3, p3, by go_num, rfl, hc3, by omega, by omega, Lib.hid ⟨D ++ [d], by simp [HD1.out], HD4.out, by rw [HDE.out]; exact O3.out⟩, B3⟩
            case measure => simp [intOf]; omega
      · have h16' : ¬ (i : Int) < 16 := by omega
        obtain ⟨D, hD1, hD2, hD3⟩ := HRow.out
        have HD5 : Hid (Reads5 wo p (D.map pad5)) := Lib.hid (reads5_of_row (by rw [List.length_map]; exact hD1) hD3)
        have HD1 := Lib.hid hD1
        have HD2 := Lib.hid hD2
        obtain ⟨N, hN⟩ : ∃ N, (setS D).length = N := ⟨_, rfl⟩
        have hN16 : N ≤ 16 := by have := setS_len D; omega
        have HN := Lib.hid hN
        have HCK : Hid (chkS 3 ((setS D).map pad5) = 0) := Lib.hid (chkS_yes (by omega) (by omega) (setS_asc D) (setS_ok hD2) (by omega))
        clear hD1 hD2 hD3 HRow hN
        go_wp2_with (first
          | (go_at_call 13; refine (pof_set 3 p i cp D _ (by omega) (by omega) HD1 (by omega) HD2 HD5 _ N (Lib.hid rfl) HN).mono ?_; rintro e w1 ⟨p1, c1, rfl, hR1, hB1, hc1⟩; have R1 := Lib.hid hR1; have B1 := Lib.hid (below_then HB.out hB1); clear hR1 hB1)
          | (go_at_call 11; refine (pset_any 3 p1 N c1 ((setS D).map pad5) _ (mlen HN) (by omega) R1 0 HCK).mono ?_; rintro e w2 ⟨rfl, hB2⟩; have B2 := Lib.hid (below_then B1.out hB2); have R2 := Lib.hid (R1.out.below hB2); clear hB2))
        go_ret2
        exact ⟨p1, c1, N, setS D, rfl, HN.out, hN16, hc1, setS_asc D, setS_ok HD2.out, R2.out, B2.out⟩
    · have hlt' : ¬ (i : Int) < n := by omega
      obtain ⟨D, hD1, hD2, hD3⟩ := HRow.out
      have HD5 : Hid (Reads5 wo p (D.map pad5)) := Lib.hid (reads5_of_row (by rw [List.length_map]; exact hD1) hD3)
      have HD1 := Lib.hid hD1
      have HD2 := Lib.hid hD2
      obtain ⟨N, hN⟩ : ∃ N, (setS D).length = N := ⟨_, rfl⟩
      have hN16 : N ≤ 16 := by have := setS_len D; omega
      have HN := Lib.hid hN
      have HCK : Hid (chkS 3 ((setS D).map pad5) = 0) := Lib.hid (chkS_yes (by omega) (by omega) (setS_asc D) (setS_ok hD2) (by omega))
      clear hD1 hD2 hD3 HRow hN
      go_wp2_with (first
        | (go_at_call 13; refine (pof_set 3 p i cp D _ (by omega) (by omega) HD1 (by omega) HD2 HD5 _ N (Lib.hid rfl) HN).mono ?_; rintro e w1 ⟨p1, c1, rfl, hR1, hB1, hc1⟩; have R1 := Lib.hid hR1; have B1 := Lib.hid (below_then HB.out hB1); clear hR1 hB1)
        | (go_at_call 11; refine (pset_any 3 p1 N c1 ((setS D).map pad5) _ (mlen HN) (by omega) R1 0 HCK).mono ?_; rintro e w2 ⟨rfl, hB2⟩; have B2 := Lib.hid (below_then B1.out hB2); have R2 := Lib.hid (R1.out.below hB2); clear hB2))
      go_ret2
      exact ⟨p1, c1, N, setS D, rfl, HN.out, hN16, hc1, setS_asc D, setS_ok HD2.out, R2.out, B2.out⟩
end Go.Proofs.Ytdahaajfkjmflaa.s14

namespace Go.Proofs.Ytdahaajfkjmflaa.s14
set_option linter.unusedVariables false
set_option linter.unusedSimpArgs false
open Go.RowKit
open kit

open s13

open Go.Shelf
/-- digits to base 4, the empty place first -/
def code : Nat → List Int → Int
  | 0, _ => 0
  | _ + 1, [] => 0
  | k + 1, x :: l => (x + 1) * (4 : Int) ^ k + code k l
theorem pow_pos4 (k : Nat) : 0 < (4 : Int) ^ k := Int.pow_pos (by omega)
theorem code_lt : ∀ (k : Nat) (l : List Int), (∀ x ∈ l, 0 ≤ x ∧ x < 3) → 0 ≤ code k l ∧ code k l < (4 : Int) ^ k
  | 0, _, _ => by simp [code]
  | k + 1, [], _ => ⟨by simp [code], by simp only [code]; exact pow_pos4 _⟩
  | k + 1, x :: l, h => by
    have h1 := code_lt k l (fun y hy => h y (List.mem_cons_of_mem _ hy))
    have h2 := h x (List.mem_cons_self ..)
    have e : (4 : Int) ^ (k + 1) = 4 ^ k * 4 := Int.pow_succ ..
    simp only [code]
    rw [e]
    generalize (4 : Int) ^ k = W at h1 ⊢
    have : x = 0 ∨ x = 1 ∨ x = 2 := by omega
    rcases this with rfl | rfl | rfl <;> omega
theorem code_mono : ∀ (k : Nat) (x y : List Int), x.length ≤ k → y.length ≤ k → (∀ z ∈ x, 0 ≤ z ∧ z < 3) → (∀ z ∈ y, 0 ≤ z ∧ z < 3) → cmpL x y < 0 → code k x < code k y
  | _, [], [], _, _, _, _, h => by simp [cmpL] at h
  | 0, [], y :: m, _, hy, _, _, _ => by simp at hy
  | 0, x :: l, _, hx, _, _, _, _ => by simp at hx
  | k + 1, [], y :: m, _, _, _, h2, _ => by
    have h1 := code_lt k m (fun z hz => h2 z (List.mem_cons_of_mem _ hz))
    have h3 := h2 y (List.mem_cons_self ..)
    have h4 := pow_pos4 k
    simp only [code]
    generalize (4 : Int) ^ k = W at h1 h4 ⊢
    have : y = 0 ∨ y = 1 ∨ y = 2 := by omega
    rcases this with rfl | rfl | rfl <;> omega
  | k + 1, x :: l, [], _, _, _, _, h => by simp [cmpL] at h
  | k + 1, x :: l, y :: m, hx, hy, h1, h2, h => by
    have a1 := h1 x (List.mem_cons_self ..)
    have a2 := h2 y (List.mem_cons_self ..)
    have b1 := code_lt k l (fun z hz => h1 z (List.mem_cons_of_mem _ hz))
    have b2 := code_lt k m (fun z hz => h2 z (List.mem_cons_of_mem _ hz))
    have h4 := pow_pos4 k
    simp only [code]
    by_cases e : x = y
    · subst e
      have hc : cmpL l m < 0 := by simpa [cmpL] using h
      have ih := code_mono k l m (by simpa using hx) (by simpa using hy) (fun z hz => h1 z (List.mem_cons_of_mem _ hz)) (fun z hz => h2 z (List.mem_cons_of_mem _ hz)) hc
      omega
    · have hlt : x < y := by
        by_cases e2 : x < y
        · exact e2
        · exfalso
          have e3 : y < x := by omega
          simp [cmpL, e, e2, e3] at h
      generalize (4 : Int) ^ k = W at b1 b2 h4 ⊢
      have : x = 0 ∨ x = 1 ∨ x = 2 := by omega
      have : y = 0 ∨ y = 1 ∨ y = 2 := by omega
      rcases ‹x = 0 ∨ _› with rfl | rfl | rfl <;> rcases ‹y = 0 ∨ _› with rfl | rfl | rfl <;> omega
theorem up_len : ∀ (l : List Int) (lo : Int), l.Pairwise (· < ·) → (∀ x ∈ l, lo ≤ x ∧ x < 256) → lo ≤ 256 → (l.length : Int) ≤ 256 - lo
  | [], _, _, _, h => by simp; omega
  | x :: l, lo, hp, hb, _ => by
    have h1 := hb x (List.mem_cons_self ..)
    have h2 := up_len l (x + 1) (List.pairwise_cons.1 hp).2 (fun y hy => ⟨by have := (List.pairwise_cons.1 hp).1 y hy; omega, (hb y (List.mem_cons_of_mem _ hy)).2⟩) (by omega)
    rw [List.length_cons]
    push_cast
    omega
/-- a set of looks of 3 terminals has at most 256 -/
theorem set_len {L : List (List Int)} (ha : Asc L) (h : ∀ x ∈ L, okL 3 x) : L.length ≤ 256 := by
  have h1 : (L.map (code 4)).Pairwise (· < ·) := by
    rw [List.pairwise_map]
    have : L.Pairwise (fun x y => cmpL x y < 0 ∧ (x ∈ L ∧ y ∈ L)) := by
      refine List.Pairwise.and ha ?_
      exact List.pairwise_of_forall_mem_list (fun x hx y hy => ⟨hx, hy⟩)
    exact this.imp (fun {x y} ⟨h1, h2, h3⟩ => code_mono 4 x y (h x h2).1 (h y h3).1 (h x h2).2 (h y h3).2 h1)
  have h2 := up_len (L.map (code 4)) 0 h1 (fun z hz => by
    obtain ⟨x, hx, rfl⟩ := List.mem_map.1 hz
    have := code_lt 4 x (h x hx).2
    exact ⟨this.1, by simpa using this.2⟩) (by omega)
  rw [List.length_map] at h2
  omega
end Go.Proofs.Ytdahaajfkjmflaa.s14

namespace Go.Proofs.Ytdahaajfkjmflaa.s14
set_option linter.unusedVariables false
set_option linter.unusedSimpArgs false
open Go.RowKit
open kit

open s13

open Go.Shelf
structure SetD (L : List (List Int)) (N : Nat) : Prop where
  asc : Asc L
  ok : ∀ x ∈ L, okL 3 x
  len : L.length = N
theorem SetD.le {L : List (List Int)} {N : Nat} (h : SetD L N) : N ≤ 256 := by rw [← h.len]; exact set_len h.asc h.ok
theorem SetD.ok8 {L : List (List Int)} {N : Nat} (h : SetD L N) : Hid (∀ x ∈ L, okL 8 x) := Lib.hid (fun x hx => okL_mono (h.ok x hx) (by omega))
theorem SetD.hl {L : List (List Int)} {N : Nat} (h : SetD L N) : Hid (L.length = N) := Lib.hid h.len
theorem SetD.chk {L : List (List Int)} {N : Nat} (h : SetD L N) : Hid (chkS 3 (L.map pad5) = 0) := Lib.hid (chkS_yes (by omega) (by omega) h.asc h.ok (by have := h.le; rw [h.len]; omega))
theorem SetD.trip {L : List (List Int)} {N : Nat} (h : SetD L N) : Asc L ∧ (∀ x ∈ L, okL 3 x) ∧ L.length ≤ 4681 := ⟨h.asc, h.ok, by have := h.le; rw [h.len]; omega⟩
theorem chk2 {A B : List (List Int)} {n m : Nat} (ha : SetD A n) (hb : SetD B m) : Hid (chkA 3 [A.map pad5, B.map pad5] = 0) := Lib.hid (chkA_sets (Ls := [A, B]) (by omega) (by omega) (fun L hL => by
  simp at hL
  rcases hL with rfl | rfl
  · exact ha.trip
  · exact hb.trip))
theorem chk3 {A B C : List (List Int)} {n m o : Nat} (ha : SetD A n) (hb : SetD B m) (hc : SetD C o) : Hid (chkA 3 (pad2 [A, B, C]) = 0) := Lib.hid (chkA_sets (Ls := [A, B, C]) (by omega) (by omega) (fun L hL => by
  simp at hL
  rcases hL with rfl | rfl | rfl
  · exact ha.trip
  · exact hb.trip
  · exact hc.trip))
theorem setD_nil : SetD [] 0 := ⟨asc_nil, by simp, rfl⟩
theorem setD_eps : SetD [[]] 1 := ⟨asc_one _, by intro x hx; simp at hx; subst hx; exact ⟨by simp, by simp⟩, rfl⟩
theorem mrg_d {A B : List (List Int)} {n m : Nat} (kp : Bool → Bool → Bool) (ha : SetD A n) (hb : SetD B m) : SetD (mrg kp A B) (mrg kp A B).length := ⟨asc_mrg kp A B ha.asc hb.asc, mrg_ok kp A B ha.ok hb.ok, rfl⟩
theorem cutS_d {A : List (List Int)} {n : Nat} (K : Nat) (ha : SetD A n) : SetD (cutS K A) (cutS K A).length := ⟨cutS_asc K ha.asc, fun x hx => by
  obtain ⟨y, hy, rfl⟩ := (cutS_mem K A x).1 hx
  exact okL_take (ha.ok y hy) K, rfl⟩
theorem sumS_d {A B : List (List Int)} {n m : Nat} {K : Nat} (hK : K ≤ 4) (ha : SetD A n) (hb : SetD B m) : SetD (sumS K A B (K + 1)) (sumS K A B (K + 1)).length := ⟨sumS_asc K ha.asc hb.asc _, sumS_ok hK ha.ok hb.ok _ (Nat.le_refl _), rfl⟩
/-- what a call hands back -/
def Ret5 (w : World) (R : List (List Int)) (e : Ending) (w' : World) : Prop := ∃ p cp N, e = .returned (.tuple #[.slice p N cp, .int .i64 0]) ∧ SetD R N ∧ Reads5 w' p (R.map pad5) ∧ Below w.heap.size w w' ∧ N ≤ cp
theorem meet_d (a b : Option Addr) (n m ca cb : Nat) (A B : List (List Int)) (w : World) (ha : Hid (SetD A n)) (hb : Hid (SetD B m)) (ra : Hid (Reads5 w a (A.map pad5))) (rb : Hid (Reads5 w b (B.map pad5))) (hca : n ≤ ca) (hcb : m ≤ cb) :
    Calls Try.prog 20 #[.int .i64 3, .slice a n ca, .slice b m cb] w (Ret5 w (mrg kM A B)) :=
  (pmeet_ok 3 a b n m ca cb A B w ha.out.hl hb.out.hl (by have := ha.out.le; omega) (by have := hb.out.le; omega) hca hcb ha.out.ok8 hb.out.ok8 ra rb (chk2 ha.out hb.out) _ _ (Lib.hid rfl) (Lib.hid rfl)).mono (fun e w' h => by
    obtain ⟨p, cp, e1, r1, b1, c1⟩ := h
    exact ⟨p, cp, _, e1, mrg_d kM ha.out hb.out, r1, b1, c1⟩)
theorem less_d (a b : Option Addr) (n m ca cb : Nat) (A B : List (List Int)) (w : World) (ha : Hid (SetD A n)) (hb : Hid (SetD B m)) (ra : Hid (Reads5 w a (A.map pad5))) (rb : Hid (Reads5 w b (B.map pad5))) (hca : n ≤ ca) (hcb : m ≤ cb) :
    Calls Try.prog 22 #[.int .i64 3, .slice a n ca, .slice b m cb] w (Ret5 w (mrg s14.kL A B)) :=
  (pless_ok 3 a b n m ca cb A B w ha.out.hl hb.out.hl (by have := ha.out.le; omega) (by have := hb.out.le; omega) hca hcb ha.out.ok8 hb.out.ok8 ra rb (chk2 ha.out hb.out) _ _ (Lib.hid rfl) (Lib.hid rfl)).mono (fun e w' h => by
    obtain ⟨p, cp, e1, r1, b1, c1⟩ := h
    exact ⟨p, cp, _, e1, mrg_d s14.kL ha.out hb.out, r1, b1, c1⟩)
theorem cut_d (K : Nat) (a : Option Addr) (n ca : Nat) (A : List (List Int)) (w : World) (k1 : 1 ≤ K) (k4 : K ≤ 4) (ha : Hid (SetD A n)) (ra : Hid (Reads5 w a (A.map pad5))) :
    Calls Try.prog 32 #[.int .i64 3, .int .i64 K, .slice a n ca] w (Ret5 w (cutS K A)) :=
  (pcut_ok 3 K a n ca A w k1 k4 ha.out.hl (by have := ha.out.le; omega) ha.out.ok8 ra ha.out.chk _ _ (Lib.hid rfl) (Lib.hid rfl)).mono (fun e w' h => by
    obtain ⟨p, cp, e1, r1, b1, c1⟩ := h
    exact ⟨p, cp, _, e1, cutS_d K ha.out, r1, b1, c1⟩)
theorem sum_d (K : Nat) (a b : Option Addr) (n m ca cb : Nat) (A B : List (List Int)) (w : World) (k1 : 1 ≤ K) (k4 : K ≤ 4) (ha : Hid (SetD A n)) (hb : Hid (SetD B m)) (hnm : n * m ≤ 10000) (ra : Hid (Reads5 w a (A.map pad5))) (rb : Hid (Reads5 w b (B.map pad5))) (hca : n ≤ ca) (hcb : m ≤ cb) :
    Calls Try.prog 30 #[.int .i64 3, .int .i64 K, .slice a n ca, .slice b m cb] w (Ret5 w (sumS K A B (K + 1))) :=
  (psum_ok 3 K a b n m ca cb A B w k1 k4 ha.out.hl hb.out.hl (by have := ha.out.le; omega) (by have := hb.out.le; omega) hnm hca hcb ha.out.ok8 hb.out.ok8 ra rb (chk2 ha.out hb.out) _ _ (Lib.hid rfl) (Lib.hid rfl)).mono (fun e w' h => by
    obtain ⟨p, cp, e1, r1, b1, c1⟩ := h
    exact ⟨p, cp, _, e1, sumS_d k4 ha.out hb.out, r1, b1, c1⟩)
theorem prod16 {n m : Nat} (h : n ≤ 16) (k : m ≤ 256) : n * m ≤ 10000 := by have := Nat.mul_le_mul h k; omega
theorem prod61 {n m : Nat} (h : n ≤ 256) (k : m ≤ 32) : n * m ≤ 10000 := by have := Nat.mul_le_mul h k; omega
theorem uni_two {A B : List (List Int)} {n : Nat} (ha : SetD A n) : uniS [A, B] = mrg kU A B := by
  show mrg kU (mrg kU [] A) B = _
  rw [mrgU_set asc_nil ha.asc, List.nil_append]
  congr 1
  exact (setS_eq ha.asc (fun z => Iff.rfl)).symm
theorem uni3_eq {A B C : List (List Int)} {n : Nat} (ha : SetD A n) : uniS [A, B, C] = mrg kU (mrg kU A B) C := by
  show mrg kU (uniS [A, B]) C = _
  rw [uni_two ha]
theorem uni2_d (a b : Option Addr) (n m ca cb : Nat) (A B : List (List Int)) (w : World) (g : Nat) (t : TypeId) (hg : w.heap[g]? = some (.cells #[.slice a n ca, .slice b m cb] t (0, 0))) (ha : Hid (SetD A n)) (hb : Hid (SetD B m)) (ra : Hid (Reads5 w a (A.map pad5))) (rb : Hid (Reads5 w b (B.map pad5))) (hca : n ≤ ca) (hcb : m ≤ cb) :
    Calls Try.prog 18 #[.int .i64 3, .slice (some ⟨g, 0, none⟩) 2 2] w (Ret5 w (mrg kU A B)) :=
  (punion_ok 3 _ 2 2 [A, B] w (Lib.hid rfl) (by omega) (Lib.hid (by have := ha.out.le; have := hb.out.le; simp [totS, ha.out.len, hb.out.len]; omega)) (Lib.hid (gridc2 hg (mlen ha.out.hl).out (mlen hb.out.hl).out hca hcb ra.out rb.out)) (Lib.hid (chk2 ha.out hb.out).out) (Lib.hid (fun L hL => by
      simp at hL
      rcases hL with rfl | rfl
      · exact ha.out.ok8.out
      · exact hb.out.ok8.out)) _ _ (Lib.hid (uni_two ha.out)) (Lib.hid rfl)).mono (fun e w' h => by
    obtain ⟨p, cp, e1, r1, b1, c1⟩ := h
    exact ⟨p, cp, _, e1, mrg_d kU ha.out hb.out, r1, b1, c1⟩)
theorem uni3_d (a b d : Option Addr) (n m o ca cb cd : Nat) (A B D : List (List Int)) (w : World) (g : Nat) (t : TypeId) (hg : w.heap[g]? = some (.cells #[.slice a n ca, .slice b m cb, .slice d o cd] t (0, 0))) (ha : Hid (SetD A n)) (hb : Hid (SetD B m)) (hd : Hid (SetD D o)) (ra : Hid (Reads5 w a (A.map pad5))) (rb : Hid (Reads5 w b (B.map pad5))) (rd : Hid (Reads5 w d (D.map pad5))) (hca : n ≤ ca) (hcb : m ≤ cb) (hcd : o ≤ cd) :
    Calls Try.prog 18 #[.int .i64 3, .slice (some ⟨g, 0, none⟩) 3 3] w (Ret5 w (mrg kU (mrg kU A B) D)) :=
  (punion_ok 3 _ 3 3 [A, B, D] w (Lib.hid rfl) (by omega) (Lib.hid (by have := ha.out.le; have := hb.out.le; have := hd.out.le; simp [totS, ha.out.len, hb.out.len, hd.out.len]; omega)) (Lib.hid (gridc3 hg (mlen ha.out.hl).out (mlen hb.out.hl).out (mlen hd.out.hl).out hca hcb hcd ra.out rb.out rd.out)) (chk3 ha.out hb.out hd.out) (Lib.hid (fun L hL => by
      simp at hL
      rcases hL with rfl | rfl | rfl
      · exact ha.out.ok8.out
      · exact hb.out.ok8.out
      · exact hd.out.ok8.out)) _ _ (Lib.hid (uni3_eq ha.out)) (Lib.hid rfl)).mono (fun e w' h => by
    obtain ⟨p, cp, e1, r1, b1, c1⟩ := h
    exact ⟨p, cp, _, e1, mrg_d kU (mrg_d kU ha.out hb.out) hd.out, r1, b1, c1⟩)
theorem same_d (a b : Option Addr) (n m ca cb : Nat) (A B : List (List Int)) (w : World) (ha : Hid (SetD A n)) (hb : Hid (SetD B m)) (ra : Hid (Reads5 w a (A.map pad5))) (rb : Hid (Reads5 w b (B.map pad5))) (h : Hid (A = B)) :
    Calls Try.prog 15 #[.slice a n ca, .slice b m cb] w fun e w' => e = .returned (.bool true) ∧ Below w.heap.size w w' :=
  lsame_any a b n m ca cb _ _ w (mlen ha.out.hl) (mlen hb.out.hl) (by have := ha.out.le; omega) (by have := hb.out.le; omega) ra rb true (Lib.hid (decide_eq_true (by rw [h.out])))
theorem check_d (a : Option Addr) (n ca : Nat) (A : List (List Int)) (w : World) (ha : Hid (SetD A n)) (ra : Hid (Reads5 w a (A.map pad5))) :
    Calls Try.prog 11 #[.int .i64 3, .slice a n ca] w fun e w' => e = .returned (.int .i64 0) ∧ Below w.heap.size w w' :=
  pset_any 3 a n ca _ w (mlen ha.out.hl) (by have := ha.out.le; omega) ra 0 ha.out.chk
end Go.Proofs.Ytdahaajfkjmflaa.s14

namespace Go.Proofs.Ytdahaajfkjmflaa.s14
set_option linter.unusedVariables false
set_option linter.unusedSimpArgs false
open Go.RowKit
open kit

open s13

theorem take_take1 (K : Nat) (x y : List Int) : (x.take K ++ y).take K = (x ++ y).take K := by
  rw [List.take_append, List.take_append, List.take_take, Nat.min_self]
  by_cases e : x.length ≤ K
  · rw [List.length_take, Nat.min_eq_right e]
  · rw [List.length_take, Nat.min_eq_left (by omega), Nat.sub_self, show K - x.length = 0 by omega]
theorem take_take2 (K : Nat) (x y : List Int) : (x ++ y.take K).take K = (x ++ y).take K := by
  rw [List.take_append, List.take_append, List.take_take, Nat.min_eq_left (by omega)]
theorem cut_cut {A : List (List Int)} (ha : Asc A) {N K : Nat} (h : N ≤ K) : cutS N A = cutS N (cutS K A) := by
  refine asc_ext (cutS_asc N ha) (cutS_asc N (cutS_asc K ha)) (fun z => ?_)
  rw [cutS_mem, cutS_mem]
  constructor
  · rintro ⟨x, hx, e⟩
    exact ⟨x.take K, (cutS_mem K A _).2 ⟨x, hx, rfl⟩, by rw [List.take_take, Nat.min_eq_left h]; exact e⟩
  · rintro ⟨y, hy, e⟩
    obtain ⟨x, hx, rfl⟩ := (cutS_mem K A _).1 hy
    exact ⟨x, hx, by rw [← e, List.take_take, Nat.min_eq_left h]⟩
theorem sum_cut {A B : List (List Int)} (ha : Asc A) (hb : Asc B) (K : Nat) : sumS K A B (K + 1) = sumS K (cutS K A) (cutS K B) (K + 1) := by
  refine asc_ext (sumS_asc K ha hb _) (sumS_asc K (cutS_asc K ha) (cutS_asc K hb) _) (fun z => ?_)
  rw [sum_mem K ha hb, sum_mem K (cutS_asc K ha) (cutS_asc K hb)]
  constructor
  · rintro ⟨x, hx, y, hy, e⟩
    exact ⟨x.take K, (cutS_mem K A _).2 ⟨x, hx, rfl⟩, y.take K, (cutS_mem K B _).2 ⟨y, hy, rfl⟩, by rw [take_take2, take_take1]; exact e⟩
  · rintro ⟨x', hx, y', hy, e⟩
    obtain ⟨x, hx2, rfl⟩ := (cutS_mem K A _).1 hx
    obtain ⟨y, hy2, rfl⟩ := (cutS_mem K B _).1 hy
    exact ⟨x, hx2, y, hy2, by rw [← e, take_take2, take_take1]⟩
theorem cut_short {A : List (List Int)} {N : Nat} : ∀ x ∈ cutS N A, x.length ≤ N := fun x hx => by
  obtain ⟨y, _, rfl⟩ := (cutS_mem N A x).1 hx
  rw [List.length_take]; omega
theorem cut_left {A : List (List Int)} (ha : Asc A) (K : Nat) : cutS K A = sumS K [[]] A (K + 1) := by
  refine asc_ext (cutS_asc K ha) (sumS_asc K (asc_one _) ha _) (fun z => ?_)
  rw [cutS_mem, sum_mem K (asc_one _) ha]
  constructor
  · rintro ⟨x, hx, e⟩; exact ⟨[], by simp, x, hx, e⟩
  · rintro ⟨x, hx, y, hy, e⟩
    obtain rfl := List.mem_singleton.1 hx
    exact ⟨y, hy, e⟩
theorem cut_right {A : List (List Int)} (ha : Asc A) (K : Nat) : cutS K A = sumS K A [[]] (K + 1) := by
  refine asc_ext (cutS_asc K ha) (sumS_asc K ha (asc_one _) _) (fun z => ?_)
  rw [cutS_mem, sum_mem K ha (asc_one _)]
  constructor
  · rintro ⟨x, hx, e⟩; exact ⟨x, hx, [], by simp, by rw [List.append_nil]; exact e⟩
  · rintro ⟨x, hx, y, hy, e⟩
    obtain rfl := List.mem_singleton.1 hy
    exact ⟨x, hx, by rw [List.append_nil] at e; exact e⟩
theorem sum_nil {A : List (List Int)} (ha : Asc A) (K : Nat) : sumS K A [] (K + 1) = [] := by
  refine asc_ext (sumS_asc K ha asc_nil _) asc_nil (fun z => ?_)
  rw [sum_mem K ha asc_nil]
  simp
theorem sum_assoc {A B C : List (List Int)} (ha : Asc A) (hb : Asc B) (hc : Asc C) (K : Nat) : sumS K (sumS K A B (K + 1)) C (K + 1) = sumS K A (sumS K B C (K + 1)) (K + 1) := by
  have hab := sumS_asc K ha hb (K + 1)
  have hbc := sumS_asc K hb hc (K + 1)
  refine asc_ext (sumS_asc K hab hc _) (sumS_asc K ha hbc _) (fun z => ?_)
  rw [sum_mem K hab hc, sum_mem K ha hbc]
  constructor
  · rintro ⟨w, hw, c, hc', e⟩
    obtain ⟨x, hx, y, hy, rfl⟩ := (sum_mem K ha hb w).1 hw
    exact ⟨x, hx, (y ++ c).take K, (sum_mem K hb hc _).2 ⟨y, hy, c, hc', rfl⟩, by rw [← e, take_take1, take_take2, List.append_assoc]⟩
  · rintro ⟨x, hx, w, hw, e⟩
    obtain ⟨y, hy, c, hc', rfl⟩ := (sum_mem K hb hc w).1 hw
    exact ⟨(x ++ y).take K, (sum_mem K ha hb _).2 ⟨x, hx, y, hy, rfl⟩, c, hc', by rw [← e, take_take1, take_take2, List.append_assoc]⟩
theorem sum_uni {A B C : List (List Int)} (ha : Asc A) (hb : Asc B) (hc : Asc C) (K : Nat) : sumS K A (mrg kU B C) (K + 1) = mrg kU (sumS K A B (K + 1)) (sumS K A C (K + 1)) := by
  have hbc := asc_mrg kU B C hb hc
  have h1 := sumS_asc K ha hb (K + 1)
  have h2 := sumS_asc K ha hc (K + 1)
  refine asc_ext (sumS_asc K ha hbc _) (asc_mrg kU _ _ h1 h2) (fun z => ?_)
  rw [sum_mem K ha hbc, mem_mrg kU z _ _ h1 h2, inM_U, sum_mem K ha hb, sum_mem K ha hc]
  constructor
  · rintro ⟨x, hx, y, hy, e⟩
    rcases inM_U.1 ((mem_mrg kU y B C hb hc).1 hy) with hy | hy
    · exact .inl ⟨x, hx, y, hy, e⟩
    · exact .inr ⟨x, hx, y, hy, e⟩
  · rintro (⟨x, hx, y, hy, e⟩ | ⟨x, hx, y, hy, e⟩)
    · exact ⟨x, hx, y, (mem_mrg kU y B C hb hc).2 (inM_U.2 (.inl hy)), e⟩
    · exact ⟨x, hx, y, (mem_mrg kU y B C hb hc).2 (inM_U.2 (.inr hy)), e⟩
theorem uni_comm {A B : List (List Int)} (ha : Asc A) (hb : Asc B) : mrg kU A B = mrg kU B A :=
  asc_ext (asc_mrg kU A B ha hb) (asc_mrg kU B A hb ha) (fun z => by rw [mem_mrg kU z A B ha hb, mem_mrg kU z B A hb ha, inM_U, inM_U, or_comm])
theorem meet_comm {A B : List (List Int)} (ha : Asc A) (hb : Asc B) : mrg kM A B = mrg kM B A :=
  asc_ext (asc_mrg kM A B ha hb) (asc_mrg kM B A hb ha) (fun z => by rw [mem_mrg kM z A B ha hb, mem_mrg kM z B A hb ha, inM_M, inM_M, and_comm])
theorem uni_assoc {A B C : List (List Int)} (ha : Asc A) (hb : Asc B) (hc : Asc C) : mrg kU (mrg kU A B) C = mrg kU (mrg kU C A) B := by
  have h1 := asc_mrg kU A B ha hb
  have h2 := asc_mrg kU C A hc ha
  refine asc_ext (asc_mrg kU _ _ h1 hc) (asc_mrg kU _ _ h2 hb) (fun z => ?_)
  rw [mem_mrg kU z _ _ h1 hc, mem_mrg kU z _ _ h2 hb, inM_U, inM_U, mem_mrg kU z A B ha hb, mem_mrg kU z C A hc ha, inM_U, inM_U, or_comm, or_assoc]
theorem whole_eq {A B : List (List Int)} (ha : Asc A) (hb : Asc B) : mrg kU (mrg kM A B) (mrg s14.kL A B) = A := by
  have h1 := asc_mrg kM A B ha hb
  have h2 := asc_mrg s14.kL A B ha hb
  refine asc_ext (asc_mrg kU _ _ h1 h2) ha (fun z => ?_)
  rw [mem_mrg kU z _ _ h1 h2, inM_U, mem_mrg kM z A B ha hb, mem_mrg s14.kL z A B ha hb, inM_M, inM_L]
  by_cases h : z ∈ B <;> simp [h]
theorem twice_eq {A B : List (List Int)} (ha : Asc A) (hb : Asc B) : setS (B ++ (A ++ B)) = mrg kU A B :=
  (setS_eq (asc_mrg kU A B ha hb) (fun z => by rw [mem_mrg kU z A B ha hb, inM_U, List.mem_append, List.mem_append]; constructor <;> (intro h; rcases h with h | h <;> simp_all))).symm
theorem filter_two {α : Type} (p : α → Bool) : ∀ A : List α, (A.filter p).length + (A.filter (fun x => !p x)).length = A.length
  | [] => rfl
  | x :: A => by
    have ih := filter_two p A
    cases h : p x <;> simp [List.filter_cons, h] <;> omega
/-- what Meet and Less give are as many as the first set has -/
theorem parts_len {A B : List (List Int)} (ha : Asc A) (hb : Asc B) : (mrg kM A B).length + (mrg s14.kL A B).length = A.length := by
  have e1 : mrg kM A B = A.filter (fun x => B.contains x) := asc_ext (asc_mrg kM A B ha hb) (List.Pairwise.filter _ ha) (fun z => by rw [mem_mrg kM z A B ha hb, inM_M, List.mem_filter, List.contains_iff_mem])
  have e2 : mrg s14.kL A B = A.filter (fun x => !B.contains x) := asc_ext (asc_mrg s14.kL A B ha hb) (List.Pairwise.filter _ ha) (fun z => by rw [mem_mrg s14.kL z A B ha hb, inM_L, List.mem_filter]; simp)
  rw [e1, e2]
  exact filter_two _ A
end Go.Proofs.Ytdahaajfkjmflaa.s14

namespace Go.Proofs.Ytdahaajfkjmflaa.s14
set_option linter.unusedVariables false
set_option linter.unusedSimpArgs false
open Go.RowKit
open kit

open s13

open Go.Shelf
theorem run_append_none5 {w : World} {base n c : Nat} {ty : TypeId} {v : Value} {xs : List Value} (hown : w.ownsRow base 25 5 v n xs) : (Builtin.append_ #[22, 22] ty #[v, .slice none 0 c]).run Try.prog w = .ok v w := by
  obtain ⟨i0, hi, hz0, hz1, hz2⟩ := info_parts info5
  have ht := Try.underlying22
  rcases hown.2 with ⟨rfl, rfl⟩ | ⟨g, cap, cur, rfl, _, _, hnc, _⟩
  · simp [Builtin.append_, run_underlying ht, sizeOf, typeInfo, hi, Builtin.lenOf, Builtin.firstCells]
  · simp [Builtin.append_, run_underlying ht, sizeOf, typeInfo, hi, Builtin.lenOf, Builtin.firstCells, hnc, storeCells]
theorem append_all5 {w : World} {ops : Array Oper} {rest : List Oper} {o : Oper} {a : Act} {Q : Exit → Act → World → Prop}
    (hg : o.guard = none) (s x : Operand) (hop : o.op = Op.call { callee := Callee.builtin Builtin.append, args := #[s, x], argTypes := #[22, 22] })
    (base : Nat) (v : Value) (k : Nat) (L1 : List V5) (hs : a.eval s = v) (hown : w.ownsRow base 25 5 v k (flat5 L1)) (src : Option Addr) (L2 : List V5) (n c : Nat) (hx : a.eval x = .slice src n c) (hn : L2.length = n) (hsrc : Reads5 w src L2)
    (hk : k + n ≤ 100000) (hb : base ≤ w.heap.size)
    (hK : ∀ v' w', w'.ownsRow base 25 5 v' (k + n) (flat5 (L1 ++ L2)) → Below base w w' → wpList Try.prog ops Q rest (a.put o.dst v') w') :
    wpList Try.prog ops Q (o :: rest) a w := by
  by_cases hp : 0 < n
  · exact append_in5 hg s x hop base v k L1 hs hown src L2 n c hx hn hp hsrc hk hb hK
  · obtain rfl : n = 0 := by omega
    obtain rfl : L2 = [] := List.length_eq_zero_iff.1 hn
    rcases src with _ | ad
    · refine wpList_plain hg fun K hK2 => ?_
      have hrun := run_append_none5 (ty := o.type) (c := c) hown
      unfold Oper.wp
      simp [execOp, hop, resolve, invoke, builtin, hs, hx, hrun, Result.andThen]
      exact hK2 _ _ (hK v w (by rw [List.append_nil]; exact hown) (Below.refl _ _))
    · obtain ⟨i0, hi, hz0, hz1, hz2⟩ := info_parts info5
      refine wpList_append_own w hg s x 22 hop base 25 i0 (.agg #[.int .i64 0, .int .i64 0, .int .i64 0, .int .i64 0, .int .i64 0]) 5 40 Try.underlying22 hi hz0 hz1 hz2 rfl (by decide) v k _ hs hown ad 0 c (flat5 []) hx rfl (fun j u h => by simp [flat5] at h) (fun u h => by simp [flat5] at h) (by unfold maxLen; omega) (by omega) hb fun v' w' h1 h2 _ => hK v' w' (by rw [flat5_app]; exact h1) (below_grown5 (Below.refl _ _) hown h2 hb)
theorem empty_row5 (w : World) (base : Nat) (hb : base ≤ w.heap.size) : (w.alloc (.cells #[] 25)).ownsRow base 25 5 (.slice (some ⟨w.heap.size, 0, none⟩) 0 0) 0 (flat5 []) :=
  ⟨rfl, .inr ⟨w.heap.size, 0, #[], rfl, hb, World.alloc_heap_new w _, by omega, by unfold maxLen; omega, rfl, rfl⟩⟩
set_option maxRecDepth 100000 in
set_option maxHeartbeats 2000000 in
theorem lown_any (a : Option Addr) (n c : Nat) (l : List V5) (w : World) (hl : Hid (l.length = n)) (hn : n ≤ 60000) (hr : Hid (Reads5 w a l)) :
    Calls Try.prog 10 #[.slice a n c] w fun e w' => ∃ v, e = .returned v ∧ w'.ownsRow w.heap.size 25 5 v n (flat5 l) ∧ Below w.heap.size w w' := by
  go_enter Try.func10, Try.ntmps10
  go_wp2_with (at_builtin; refine append_all5 rfl (.tmp 3) (.tmp 4) rfl w.heap.size _ 0 [] rfl (empty_row5 w _ (Nat.le_refl _)) _ l n c rfl hl.out (hr.out.alloc _) (by omega) (by simp) ?_; intro v3 w3 hv3 hB3; have O3 := Lib.hid hv3; have B3 := Lib.hid (((Below.refl w.heap.size w).alloc (Nat.le_refl _) (.cells #[] 25)).trans hB3); clear hv3 hB3)
  go_ret
  exact ⟨_, rfl, by have h := O3.out; rw [Nat.zero_add, List.nil_append] at h; exact h, B3.out⟩
theorem of_d (a : Option Addr) (n c : Nat) (L : List (List Int)) (w : World) (hl : Hid (L.length = n)) (hn : n ≤ 20000) (hL : Hid (∀ x ∈ L, okL 3 x)) (hr : Hid (Reads5 w a (L.map pad5))) : Calls Try.prog 13 #[.int .i64 3, .slice a n c] w (Ret5 w (setS L)) :=
  (pof_set 3 a n c L w (by omega) (by omega) hl hn hL hr _ _ (Lib.hid rfl) (Lib.hid rfl)).mono (fun e w' h => by
    obtain ⟨p, cp, e1, r1, b1, c1⟩ := h
    exact ⟨p, cp, _, e1, ⟨setS_asc L, setS_ok hL.out, rfl⟩, r1, b1, c1⟩)
end Go.Proofs.Ytdahaajfkjmflaa.s14

namespace Go.Proofs.Ytdahaajfkjmflaa.s14
set_option linter.unusedVariables false
set_option linter.unusedSimpArgs false
open Go.RowKit
open kit

open s13

open Go.Shelf
section
variable {P : Program} {l : List Oper} {S : List Sp} {a A : Act} {o : Oper} {w : World}
theorem step_subhi (h : Pre l S a o A w) (hg : guardB l S o = true) (t : TypeId) (x y : Operand) (u v : Value) {c : Value} (hop : o.op = .slice t x none (some y) none) (hx : lookAt l S o x = some u) (hy : lookAt l S o y = some v) (hr : (Instr.sliceAt t u none (some v) none).run P w = .ok c w) : stepOk P l o A w (.con c) :=
  step_of h hg (spec_val (u := c) (by
    have e1 := lookAt_eval h hx
    have e2 := lookAt_eval h hy
    unfold execOp; rw [hop]
    simp only [e1, e2, Option.map_none, Option.map_some, Sem.run_bind, hr, Result.andThen_ok]; rfl) rfl)
theorem step_sublo (h : Pre l S a o A w) (hg : guardB l S o = true) (t : TypeId) (x y : Operand) (u v : Value) {c : Value} (hop : o.op = .slice t x (some y) none none) (hx : lookAt l S o x = some u) (hy : lookAt l S o y = some v) (hr : (Instr.sliceAt t u (some v) none none).run P w = .ok c w) : stepOk P l o A w (.con c) :=
  step_of h hg (spec_val (u := c) (by
    have e1 := lookAt_eval h hx
    have e2 := lookAt_eval h hy
    unfold execOp; rw [hop]
    simp only [e1, e2, Option.map_none, Option.map_some, Sem.run_bind, hr, Result.andThen_ok]; rfl) rfl)
theorem step_asgrel (h : Pre l S a o A w) (hg : guardB l S o = true) (i : Nat) (d : Tmp) {R : Value → World → Prop} (hop : o.op = .assign (.tmp d)) (h1 : (o.after.any fun e => e.on == i && Region.binds .any e) = true) (h2 : (l[i]?).bind (·.dst) = some d) (h3 : S[i]? = some (.rel R)) : stepOk P l o A w (.rel R) :=
  step_of h hg (spec_val (u := A.eval (.tmp d)) (by unfold execOp; rw [hop]; rfl) (h.rel i h1 h2 h3))
end
theorem sub_hi (a : Option Addr) (n c h : Nat) (hh : h ≤ c) (W : World) : (Instr.sliceAt 22 (.slice a n c) none (some (.int .i64 h)) none).run Try.prog W = .ok (.slice a h c) W := by
  obtain ⟨i0, hi, hz0, hz1, hz2⟩ := info_parts info5
  by_cases hc : c = 0
  · have h0 : h = 0 := by omega
    subst hc h0
    simp [Instr.sliceAt, Instr.slice, Instr.sliceBounds, Instr.sliceBound, asIntOf, run_underlying Try.underlying22, sizeOf, typeInfo, hi, go_sem]
  · have : (h : Int) ≤ c := by omega
    simp [Instr.sliceAt, Instr.slice, Instr.sliceBounds, Instr.sliceBound, asIntOf, run_underlying Try.underlying22, sizeOf, typeInfo, hi, go_sem, this, hc]
    intro hx
    omega
theorem sub_lo (b off n c h : Nat) (hh : h ≤ n) (hc : n ≤ c) (hlt : h < c) (h0 : 0 < h) (W : World) : (Instr.sliceAt 22 (.slice (some ⟨b, off, none⟩) n c) (some (.int .i64 h)) none none).run Try.prog W = .ok (.slice (some ⟨b, off + h * 5, none⟩) (n - h) (c - h)) W := by
  obtain ⟨i0, hi, hz0, hz1, hz2⟩ := info_parts info5
  have h1 : (h : Int) ≤ n := by omega
  have h2 : ¬ c = h := by omega
  simp [Instr.sliceAt, Instr.slice, Instr.sliceBounds, Instr.sliceBound, asIntOf, run_underlying Try.underlying22, sizeOf, typeInfo, hi, hz1, hz2, go_sem, h1, h2, Addr.add]
  rw [if_pos hh, if_neg (by omega)]
theorem quo2 (n : Nat) (hn : n ≤ 100000) (W : World) : (binOp .quo 3 (.int .i64 n) (.int .i64 2)).run Try.prog W = .ok (.int .i64 ((n / 2 : Nat) : Int)) W := by
  simp [go_sem, binOp]
  exact IntWalk.i64_in _ (by omega)
/-- a row that a call hands back -/
def RowS (R : List (List Int)) : Sp := .rel fun v w => ∃ p cp N, v = .slice p N cp ∧ R.length = N ∧ N ≤ cp ∧ Reads5 w p (R.map pad5)
theorem RowS.keeps (R : List (List Int)) : (RowS R).Keeps := by
  rintro v w w' ⟨p, cp, N, e, h1, h2, h⟩ hB
  exact ⟨p, cp, N, e, h1, h2, h.below hB⟩
theorem reads_take {w : World} {a : Option Addr} {L : List (List Int)} (h : Reads5 w a (L.map pad5)) (k : Nat) : Reads5 w a ((L.take k).map pad5) := fun i hi => by
  have hi2 : i < k ∧ i < L.length := by simp at hi; omega
  obtain ⟨b, off, e, hb, hat⟩ := h i (by simpa using hi2.2)
  refine ⟨b, off, e, hb, ?_⟩
  rw [List.map_take, List.getElem?_take_of_lt hi2.1]; exact hat
theorem reads_drop {w : World} {b off : Nat} {L : List (List Int)} (h : Reads5 w (some ⟨b, off, none⟩) (L.map pad5)) (k : Nat) : Reads5 w (some ⟨b, off + k * 5, none⟩) ((L.drop k).map pad5) := fun i hi => by
  have hi2 : k + i < L.length := by simp at hi; omega
  obtain ⟨b', off', e, hb, hat⟩ := h (k + i) (by simpa using hi2)
  cases e
  refine ⟨b, off + k * 5, rfl, hb, ?_⟩
  rw [List.map_drop, List.getElem?_drop, show off + k * 5 + i * 5 = off + (k + i) * 5 by omega]; exact hat
theorem setS_two (X Y : List (List Int)) : mrg kU (setS X) (setS Y) = setS (X ++ Y) :=
  setS_eq (asc_mrg kU _ _ (setS_asc X) (setS_asc Y)) (fun z => by rw [mem_mrg kU z _ _ (setS_asc X) (setS_asc Y), inM_U, setS_mem, setS_mem, List.mem_append])
theorem setS_short {L : List (List Int)} (h : L.length < 2) : setS L = L := by
  refine (setS_eq ?_ (fun _ => Iff.rfl)).symm
  rcases L with _ | ⟨x, _ | ⟨y, L⟩⟩
  · exact asc_nil
  · exact asc_one x
  · simp at h; omega
/-- what sorted hands back -/
def RetS (w : World) (R : List (List Int)) (e : Ending) (w' : World) : Prop := ∃ p cp N, e = .returned (.slice p N cp) ∧ R.length = N ∧ N ≤ cp ∧ Reads5 w' p (R.map pad5) ∧ Below w.heap.size w w'
set_option maxRecDepth 100000 in
set_option maxHeartbeats 6000000 in
theorem rsorted_short (a : Option Addr) (n c : Nat) (L : List (List Int)) (w : World) (h2 : n < 2) (hl : Hid (L.length = n)) (hr : Hid (Reads5 w a (L.map pad5))) :
    Calls Try.prog 48 #[.slice a n c] w (RetS w (setS L)) := by
  have hlt : (n : Int) < 2 := by omega
  have HS := Lib.hid (setS_short (L := L) (by rw [hl.out]; exact h2))
  go_enter Try.func48, Try.ntmps48
  go_wp2_with (at_builtin; refine append_all5 rfl (.tmp 6) (.tmp 7) rfl w.heap.size _ 0 [] rfl (empty_row5 w _ (Nat.le_refl _)) _ (L.map pad5) n c rfl (mlen hl).out (hr.out.alloc _) (by omega) (by simp) ?_; intro v3 w3 hv3 hB3; rw [Nat.zero_add, List.nil_append] at hv3; obtain ⟨p3, c3, e3, hc3⟩ := row5_shape hv3; subst e3; have R3 := Lib.hid (reads5_of_row (mlen hl).out hv3); have B3 := Lib.hid (((Below.refl w.heap.size w).alloc (Nat.le_refl _) (.cells #[] 25)).trans hB3); clear hv3 hB3)
  go_ret
  exact ⟨p3, c3, n, rfl, by rw [HS.out]; exact hl.out, hc3, by rw [HS.out]; exact R3.out, B3.out⟩
set_option maxRecDepth 100000 in
set_option maxHeartbeats 6000000 in
theorem rsorted_any : ∀ (k n : Nat), n ≤ k → ∀ (a : Option Addr) (c : Nat) (L : List (List Int)) (w : World), Hid (L.length = n) → n ≤ 40000 → n ≤ c → Hid (∀ x ∈ L, okL 8 x) → Hid (Reads5 w a (L.map pad5)) →
    Calls Try.prog 48 #[.slice a n c] w (RetS w (setS L)) := by
  intro k
  induction k with
  | zero =>
    intro n hk a c L w hl hn hc hL hr
    exact rsorted_short a n c L w (by omega) hl hr
  | succ k ih =>
    intro n hk a c L w hl hn hc hL hr
    by_cases h2 : n < 2
    · exact rsorted_short a n c L w h2 hl hr
    · obtain ⟨b, off, rfl, hb, _⟩ := hr.out 0 (by rw [List.length_map, hl.out]; omega)
      obtain ⟨q, hq⟩ : ∃ q, n / 2 = q := ⟨_, rfl⟩
      have HQ : ∀ W, (binOp .quo 3 (.int .i64 n) (.int .i64 2)).run Try.prog W = .ok (.int .i64 (q : Int)) W := fun W => by rw [← hq]; exact quo2 n (by omega) W
      have q1 : 1 ≤ q := by omega
      have q2 : q < n := by omega
      have q3 : q ≤ k := by omega
      have q4 : n - q ≤ k := by omega
      have hlt : ¬ (n : Int) < 2 := by omega
      have HIH := Lib.hid ih
      have HQQ := Lib.hid HQ
      have HT1 : Hid ((L.take q).length = q) := Lib.hid (by rw [List.length_take, hl.out]; omega)
      have HT2 : Hid ((L.drop q).length = n - q) := Lib.hid (by rw [List.length_drop, hl.out])
      have HO1 : Hid (∀ x ∈ L.take q, okL 8 x) := Lib.hid (fun x hx => hL.out x (List.mem_of_mem_take hx))
      have HO2 : Hid (∀ x ∈ L.drop q, okL 8 x) := Lib.hid (fun x hx => hL.out x (List.mem_of_mem_drop hx))
      have HR1 := Lib.hid (reads_take hr.out q)
      have HR2 := Lib.hid (reads_drop hr.out q)
      have HS1 := Lib.hid (setS_len (L.take q))
      have HS2 := Lib.hid (setS_len (L.drop q))
      have HSS : Hid (mrg kU (setS (L.take q)) (setS (L.drop q)) = setS L) := Lib.hid (by rw [setS_two, List.take_append_drop])
      clear ih HQ hq
      go_enter Try.func48, Try.ntmps48
      go_wp2_with (fail)
      refine wp_region_specs [.con (.slice (some ⟨b, off, none⟩) n c), .con (.slice (some ⟨b, off, none⟩) n c), .con (.int .i64 n), .con (.int .i64 q), .con (.slice (some ⟨b, off, none⟩) q c), RowS (setS (L.take q)), .con (.slice (some ⟨b, off, none⟩) n c), .con (.slice (some ⟨b, off, none⟩) n c), .con (.int .i64 n), .con (.int .i64 q), .con (.slice (some ⟨b, off + q * 5, none⟩) (n - q) (c - q)), RowS (setS (L.drop q)), RowS (setS L), RowS (setS L)] (by kernel_rfl) (by kernel_rfl) ?keeps ?steps ?rest
      case keeps =>
        intro s hs
        simp only [List.mem_cons, List.not_mem_nil, or_false] at hs
        rcases hs with rfl | rfl | rfl | rfl | rfl | rfl | rfl | rfl | rfl | rfl | rfl | rfl | rfl | rfl <;> first | exact con_keeps _ | exact RowS.keeps _
      case steps =>
        refine ⟨fun A w9 hB9 h => step_move_old h (by kernel_rfl) 0 rfl (by kernel_rfl) (by rfl), ?_⟩
        refine ⟨fun A w9 hB9 h => step_move_old h (by kernel_rfl) 0 rfl (by kernel_rfl) (by rfl), ?_⟩
        refine ⟨fun A w9 hB9 h => step_len h (by kernel_rfl) (.tmp 10) _ (some ⟨b, off, none⟩) n c rfl (by rfl) (by rfl), ?_⟩
        refine ⟨fun A w9 hB9 h => step_bin h (by kernel_rfl) _ _ _ _ _ (.int .i64 n) (.int .i64 2) rfl (by rfl) (by rfl) (fun W => by kernel_rfl) (fun W => HQQ.out W), ?_⟩
        refine ⟨fun A w9 hB9 h => step_subhi h (by kernel_rfl) _ (.tmp 9) (.tmp 12) (.slice (some ⟨b, off, none⟩) n c) (.int .i64 q) rfl (by rfl) (by rfl) (sub_hi _ n c q (by omega) _), ?_⟩
        refine ⟨fun A w9 hB9 h => step_call_rel h (by kernel_rfl) 48 _ [.slice (some ⟨b, off, none⟩) q c] rfl rfl (by kernel_rfl) (by rfl) ((HIH.out q q3 (some ⟨b, off, none⟩) c (L.take q) w9 HT1 (by omega) (by omega) HO1 (Lib.hid (HR1.out.below hB9))).mono (fun e9 w8 h9 => by obtain ⟨p9, c9, n9, e8, l9, m9, r9, b9⟩ := h9; exact ⟨_, e8, b9, p9, c9, n9, rfl, l9, m9, r9⟩)), ?_⟩
        refine ⟨fun A w9 hB9 h => step_move_old h (by kernel_rfl) 0 rfl (by kernel_rfl) (by rfl), ?_⟩
        refine ⟨fun A w9 hB9 h => step_move_old h (by kernel_rfl) 0 rfl (by kernel_rfl) (by rfl), ?_⟩
        refine ⟨fun A w9 hB9 h => step_len h (by kernel_rfl) (.tmp 16) _ (some ⟨b, off, none⟩) n c rfl (by rfl) (by rfl), ?_⟩
        refine ⟨fun A w9 hB9 h => step_bin h (by kernel_rfl) _ _ _ _ _ (.int .i64 n) (.int .i64 2) rfl (by rfl) (by rfl) (fun W => by kernel_rfl) (fun W => HQQ.out W), ?_⟩
        refine ⟨fun A w9 hB9 h => step_sublo h (by kernel_rfl) _ (.tmp 15) (.tmp 18) (.slice (some ⟨b, off, none⟩) n c) (.int .i64 q) rfl (by rfl) (by rfl) (sub_lo b off n c q (by omega) hc (by omega) (by omega) _), ?_⟩
        refine ⟨fun A w9 hB9 h => step_call_rel h (by kernel_rfl) 48 _ [.slice (some ⟨b, off + q * 5, none⟩) (n - q) (c - q)] rfl rfl (by kernel_rfl) (by rfl) ((HIH.out (n - q) q4 (some ⟨b, off + q * 5, none⟩) (c - q) (L.drop q) w9 HT2 (by omega) (by omega) HO2 (Lib.hid (HR2.out.below hB9))).mono (fun e9 w8 h9 => by obtain ⟨p9, c9, n9, e8, l9, m9, r9, b9⟩ := h9; exact ⟨_, e8, b9, p9, c9, n9, rfl, l9, m9, r9⟩)), ?_⟩
        refine ⟨fun A w9 hB9 h => ?_, ?_⟩
        · obtain ⟨p1, c1, n1, e1, l1, m1, r1⟩ := h.rel 5 (d := 14) (by kernel_rfl) (by kernel_rfl) rfl
          obtain ⟨p2, c2, n2, e2, l2, m2, r2⟩ := h.rel 11 (d := 20) (by kernel_rfl) (by kernel_rfl) rfl
          have t1 := HS1.out
          have t2 := HS2.out
          rw [l1, HT1.out] at t1
          rw [l2, HT2.out] at t2
          exact step_call h (by kernel_rfl) 53 _ #[.slice p1 n1 c1, .slice p2 n2 c2] rfl rfl (by kernel_rfl) (by simp [e1, e2]) ((rmerge_any p1 p2 n1 n2 c1 c2 _ _ w9 (Lib.hid l1) (Lib.hid l2) m1 m2 (by omega) (Lib.hid (setS_ok HO1.out)) (Lib.hid (setS_ok HO2.out)) (Lib.hid r1) (Lib.hid r2) (setS L) _ HSS (Lib.hid rfl)).mono (fun e9 w8 h9 => by obtain ⟨p9, c9, e8, r9, b9, m9⟩ := h9; exact ⟨_, e8, b9, p9, c9, _, rfl, rfl, m9, r9⟩))
        exact ⟨fun A w9 hB9 h => step_asgrel h (by kernel_rfl) 12 21 rfl (by kernel_rfl) (by kernel_rfl) rfl, trivial⟩
      case rest =>
        intro vs w9 hB9 hv
        obtain ⟨p, cp, N, e13, l1, m1, r1⟩ : ∃ p cp N, vs 13 = .slice p N cp ∧ (setS L).length = N ∧ N ≤ cp ∧ Reads5 w9 p ((setS L).map pad5) := hv 13 _ rfl
        obtain ⟨u0, hu0⟩ : ∃ v, vs 0 = v := ⟨_, rfl⟩
        obtain ⟨u1, hu1⟩ : ∃ v, vs 1 = v := ⟨_, rfl⟩
        obtain ⟨u2, hu2⟩ : ∃ v, vs 2 = v := ⟨_, rfl⟩
        obtain ⟨u3, hu3⟩ : ∃ v, vs 3 = v := ⟨_, rfl⟩
        obtain ⟨u4, hu4⟩ : ∃ v, vs 4 = v := ⟨_, rfl⟩
        obtain ⟨u5, hu5⟩ : ∃ v, vs 5 = v := ⟨_, rfl⟩
        obtain ⟨u6, hu6⟩ : ∃ v, vs 6 = v := ⟨_, rfl⟩
        obtain ⟨u7, hu7⟩ : ∃ v, vs 7 = v := ⟨_, rfl⟩
        obtain ⟨u8, hu8⟩ : ∃ v, vs 8 = v := ⟨_, rfl⟩
        obtain ⟨u9, hu9⟩ : ∃ v, vs 9 = v := ⟨_, rfl⟩
        obtain ⟨ua, hua⟩ : ∃ v, vs 10 = v := ⟨_, rfl⟩
        obtain ⟨ub, hub⟩ : ∃ v, vs 11 = v := ⟨_, rfl⟩
        obtain ⟨uc, huc⟩ : ∃ v, vs 12 = v := ⟨_, rfl⟩
        simp only [putAll, hu0, hu1, hu2, hu3, hu4, hu5, hu6, hu7, hu8, hu9, hua, hub, huc, e13]
        have HR9 := Lib.hid r1
        have HL9 := Lib.hid l1
        clear hv hu0 hu1 hu2 hu3 hu4 hu5 hu6 hu7 hu8 hu9 hua hub huc e13 r1 l1
        clear HQQ HIH HT1 HT2 HO1 HO2 HR1 HR2 HS1 HS2 HSS q1 q2 q3 q4 hlt h2 hr hL hl hb
        go_simp
        go_wp2_with (fail)
        go_ret
        exact ⟨p, cp, N, rfl, HL9.out, m1, HR9.out, hB9⟩
end Go.Proofs.Ytdahaajfkjmflaa.s14
