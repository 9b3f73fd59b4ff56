/-
  Layer 14: merging two lists, meet. Layer 14: merging two lists, less. Layer 14: the program's Meet, Less, Cut, Least, Has, Bound, Union on sets.
-/
import Derived.Test.YtdahaajfkjmflaaG07
import Derived.BigRegion
import Derived.Test.YtdahaajfkjmflaaG10
namespace Go.Proofs.Ytdahaajfkjmflaa.s14
set_option linter.unusedVariables false
set_option linter.unusedSimpArgs false
open Go.RowKit
open kit

open s13

theorem kM_tt (w : World) : Calls Try.prog 55 #[.bool true, .bool true] w fun e w' => e = .returned (.bool true) ∧ w = w' := by
  go_enter Try.func55, Try.ntmps55
  go_wp2
  go_ret
  exact ⟨rfl, rfl⟩
theorem kM_tf (w : World) : Calls Try.prog 55 #[.bool true, .bool false] w fun e w' => e = .returned (.bool false) ∧ w = w' := by
  go_enter Try.func55, Try.ntmps55
  go_wp2
  go_ret
  exact ⟨rfl, rfl⟩
theorem kM_ft (w : World) : Calls Try.prog 55 #[.bool false, .bool true] w fun e w' => e = .returned (.bool false) ∧ w = w' := by
  go_enter Try.func55, Try.ntmps55
  go_wp2
  go_ret
  exact ⟨rfl, rfl⟩
set_option maxRecDepth 100000 in
set_option maxHeartbeats 20000000 in
theorem mergeM (a b : Option Addr) (n m ca cb : Nat) (A B : List (List Int)) (w : World) (hn : Hid (A.length = n)) (hm : Hid (B.length = m)) (ha : n ≤ ca) (hb : m ≤ cb) (hsz : n + m ≤ 100000) (hA : Hid (∀ x ∈ A, okL 8 x)) (hB : Hid (∀ x ∈ B, okL 8 x)) (ra : Hid (Reads5 w a (A.map pad5))) (rb : Hid (Reads5 w b (B.map pad5))) (R : List (List Int)) (N : Nat) (HR : Hid (mrg kM A B = R)) (HN : Hid (R.length = N)) :
    Calls Try.prog 54 #[.slice a n ca, .slice b m cb, .func (.func 42) #[] #[], .func (.func 55) #[] #[]] w fun e w' => ∃ p cp, e = .returned (.slice p N cp) ∧ Reads5 w' p (R.map pad5) ∧ Below w.heap.size w w' ∧ N ≤ cp := by
  go_enter Try.func54, Try.ntmps54
  go_wp2
  go_loopw [0, 1, 9] (fun va vb vm wr => ∃ (A B D : List (List Int)) (a b : Option Addr) (n m ca cb : Nat), va = .slice a n ca ∧ vb = .slice b m cb ∧ n ≤ ca ∧ m ≤ cb ∧ Hid (A.length = n) ∧ Hid (B.length = m) ∧ Hid (D.length + n + m ≤ 100000) ∧ Hid (RelM kM w R A B D a b vm wr)) (fun va vb _ _ => slen va + slen vb)
  case atStart => exact ⟨A, B, [], a, b, n, m, ca, cb, rfl, rfl, ha, hb, hn, hm, Lib.hid (by simpa using hsz), Lib.hid ⟨ra.out, rb.out, HR.out, hA.out, hB.out, World.ownsRow_nil _ _ _ _, Below.refl _ _⟩⟩
  case round =>
    clear hn hm ha hb hsz hA hB ra rb
    obtain ⟨A, B, D, a, b, n, m, ca, cb, rfl, rfl, ha, hb, hn, hm, hsz, HREL⟩ := hrel
    have HB0 := Lib.hid HREL.out.hb
    have hws := HREL.out.hb.size
    rcases A with _ | ⟨x, A⟩
    · obtain rfl : n = 0 := hn.out.symm
      rcases B with _ | ⟨y, B⟩
      · obtain rfl : m = 0 := hm.out.symm
        have hR := HREL.out.eq
        rw [mrg_nil, List.append_nil] at hR
        subst hR
        have hrow := HREL.out.row
        rw [HN.out] at hrow
        obtain ⟨p, cp, rfl, hcp⟩ := row5_shape hrow
        have HROW := Lib.hid hrow
        clear hrow
        go_wp2
        go_ret
        exact ⟨p, cp, rfl, reads5_of_row (by rw [List.length_map]; exact HN.out) HROW.out, HREL.out.hb, hcp⟩
      · obtain ⟨m, rfl⟩ : ∃ m', m = m' + 1 := ⟨B.length, hm.out.symm⟩
        have HLB : Hid (B.length = m) := Lib.hid (by have := hm.out; simpa using this)
        have hR := HREL.out.eq
        rw [mrg_right] at hR
        have HEQ := Lib.hid hR
        clear hR hm
        obtain ⟨g, o, rfl, hg, haty, htly⟩ := reads_head HREL.out.rb
        have HTy := Lib.hid htly
        have hoy := Lib.hid (HREL.out.ob y (List.mem_cons_self ..))
        obtain ⟨⟨y0, y1, y2, y3, y4⟩, hy⟩ : ∃ v, pad5 y = v := ⟨_, rfl⟩
        rw [hy] at haty
        have Hy := Lib.hid hy
        have HAy := Lib.hid (haty.below HREL.out.hb)
        have hlg : g < wr.heap.size := Nat.lt_of_lt_of_le hg HREL.out.hb.size
        clear htly haty hy
        have h1 : (0 : Int) < ((m + 1 : Nat) : Int) := by omega
        have h2 : decide ((0 : Int) < ((m + 1 : Nat) : Int)) = true := decide_eq_true h1
        have hq : Hid (Reads5 w (if cb = 1 then some ⟨g, o, none⟩ else some ⟨g, o + 5, none⟩) (B.map pad5)) := Lib.hid (tail_if (by have := HLB.out; omega) HTy.out)
        go_wp2_with (first
          | (go_at_call 77; refine (heads_left _ _ _ _ _ _).mono ?_; rintro e w2 ⟨rfl, rfl⟩))
        have X := Box.new wr 25 #[.int .i64 0, .int .i64 0, .int .i64 0, .int .i64 0, .int .i64 0]
        have HB1 := Lib.hid (HB0.out.alloc HB0.out.size (.cells #[.int .i64 0, .int .i64 0, .int .i64 0, .int .i64 0, .int .i64 0] 25))
        have HW1 := Lib.hid ((Below.refl wr.heap.size wr).alloc (Nat.le_refl _) (.cells #[.int .i64 0, .int .i64 0, .int .i64 0, .int .i64 0, .int .i64 0] 25))
        generalize wr.alloc (.cells #[.int .i64 0, .int .i64 0, .int .i64 0, .int .i64 0, .int .i64 0] 25) = W at X HB1 HW1 ⊢
        obtain ⟨c0, c1, c2, c3, c4⟩ := (HAy.out.below HW1.out)
        obtain ⟨zc0, zc1, zc2, zc3, zc4⟩ := X.cell5
        obtain ⟨f0, f1, f2, f3, f4⟩ := X.free5
        have hxg : wr.heap.size ≠ g := by omega
        have hgx : g ≠ wr.heap.size := by omega
        have HX := Lib.hid X
        clear X
        go_region
        have HX2 := Lib.hid (HX.out.put5 (.int .i64 y0) (.int .i64 y1) (.int .i64 y2) (.int .i64 y3) (.int .i64 y4)).drew
        have HB2 := Lib.hid (below_put5 HB1.out HB0.out.size (.int .i64 y0) (.int .i64 y1) (.int .i64 y2) (.int .i64 y3) (.int .i64 y4)).drew
        have HW2 := Lib.hid (below_put5 HW1.out (Nat.le_refl _) (.int .i64 y0) (.int .i64 y1) (.int .i64 y2) (.int .i64 y3) (.int .i64 y4)).drew
        clear c0 c1 c2 c3 c4 zc0 zc1 zc2 zc3 zc4 f0 f1 f2 f3 f4 HX HB1 HW1 hxg hgx
        generalize (if cb = 1 then some (⟨g, o, none⟩ : Addr) else some ⟨g, o + 5, none⟩) = q at hq ⊢
        generalize (((((W.setCell ⟨wr.heap.size, 0, none⟩ (.int .i64 y0)).setCell ⟨wr.heap.size, 1, none⟩ (.int .i64 y1)).setCell ⟨wr.heap.size, 2, none⟩ (.int .i64 y2)).setCell ⟨wr.heap.size, 3, none⟩ (.int .i64 y3)).setCell ⟨wr.heap.size, 4, none⟩ (.int .i64 y4)).drew = W2 at HX2 HB2 HW2 ⊢
        have X := HX2.out
        have HB1 := HB2
        have HW1 := HW2
        clear HX2 HB2 HW2
        obtain ⟨zc0, zc1, zc2, zc3, zc4⟩ := X.cell5
        have HROW2 := Lib.hid (own5_below HREL.out.row HW1.out)
        have HSL := HB1.out.size
        go_wp2_with (go_at_call 55; refine (kM_ft _).mono ?_; rintro e w3 ⟨rfl, rfl⟩)
        refine ⟨⟨[], B, D, a, q, 0, m, ca, (cb - 1), rfl, rfl, ha, (by omega), hn, HLB, Lib.hid (by have := hsz.out; omega), Lib.hid ⟨Reads5.nil _ _, hq.out, ?_, (by simp), (fun z hz => HREL.out.ob z (List.mem_cons_of_mem _ hz)), HROW2.out, HB1.out⟩⟩, by simp [slen]; try omega⟩
        have h := HEQ.out; simpa [one, kM] using h
    · obtain ⟨n, rfl⟩ : ∃ n', n = n' + 1 := ⟨A.length, hn.out.symm⟩
      have HLA : Hid (A.length = n) := Lib.hid (by have := hn.out; simpa using this)
      have h1 : (0 : Int) < ((n + 1 : Nat) : Int) := by omega
      have h2 : decide ((0 : Int) < ((n + 1 : Nat) : Int)) = true := decide_eq_true h1
      obtain ⟨g, o, rfl, hg, hatx, htlx⟩ := reads_head HREL.out.ra
      have HTx := Lib.hid htlx
      have hox := Lib.hid (HREL.out.oa x (List.mem_cons_self ..))
      obtain ⟨⟨x0, x1, x2, x3, x4⟩, hx⟩ : ∃ v, pad5 x = v := ⟨_, rfl⟩
      rw [hx] at hatx
      have Hx := Lib.hid hx
      have HAx := Lib.hid (hatx.below HREL.out.hb)
      have hlg : g < wr.heap.size := Nat.lt_of_lt_of_le hg HREL.out.hb.size
      clear htlx hatx hx
      have hq : Hid (Reads5 w (if ca = 1 then some ⟨g, o, none⟩ else some ⟨g, o + 5, none⟩) (A.map pad5)) := Lib.hid (tail_if (by have := HLA.out; omega) HTx.out)
      rcases B with _ | ⟨y, B⟩
      · obtain rfl : m = 0 := hm.out.symm
        have hR := HREL.out.eq
        rw [mrg_left] at hR
        have HEQ := Lib.hid hR
        clear hR hn
        go_wp2_with (first
          | (go_at_call 77; refine (heads_right _ _ _ _ _ _ (by omega)).mono ?_; rintro e w2 ⟨rfl, rfl⟩))
        have X := Box.new wr 25 #[.int .i64 0, .int .i64 0, .int .i64 0, .int .i64 0, .int .i64 0]
        have HB1 := Lib.hid (HB0.out.alloc HB0.out.size (.cells #[.int .i64 0, .int .i64 0, .int .i64 0, .int .i64 0, .int .i64 0] 25))
        have HW1 := Lib.hid ((Below.refl wr.heap.size wr).alloc (Nat.le_refl _) (.cells #[.int .i64 0, .int .i64 0, .int .i64 0, .int .i64 0, .int .i64 0] 25))
        generalize wr.alloc (.cells #[.int .i64 0, .int .i64 0, .int .i64 0, .int .i64 0, .int .i64 0] 25) = W at X HB1 HW1 ⊢
        obtain ⟨c0, c1, c2, c3, c4⟩ := (HAx.out.below HW1.out)
        obtain ⟨zc0, zc1, zc2, zc3, zc4⟩ := X.cell5
        obtain ⟨f0, f1, f2, f3, f4⟩ := X.free5
        have hxg : wr.heap.size ≠ g := by omega
        have hgx : g ≠ wr.heap.size := by omega
        have HX := Lib.hid X
        clear X
        go_region
        have HX2 := Lib.hid (HX.out.put5 (.int .i64 x0) (.int .i64 x1) (.int .i64 x2) (.int .i64 x3) (.int .i64 x4)).drew
        have HB2 := Lib.hid (below_put5 HB1.out HB0.out.size (.int .i64 x0) (.int .i64 x1) (.int .i64 x2) (.int .i64 x3) (.int .i64 x4)).drew
        have HW2 := Lib.hid (below_put5 HW1.out (Nat.le_refl _) (.int .i64 x0) (.int .i64 x1) (.int .i64 x2) (.int .i64 x3) (.int .i64 x4)).drew
        clear c0 c1 c2 c3 c4 zc0 zc1 zc2 zc3 zc4 f0 f1 f2 f3 f4 HX HB1 HW1 hxg hgx
        generalize (if ca = 1 then some (⟨g, o, none⟩ : Addr) else some ⟨g, o + 5, none⟩) = q at hq ⊢
        generalize (((((W.setCell ⟨wr.heap.size, 0, none⟩ (.int .i64 x0)).setCell ⟨wr.heap.size, 1, none⟩ (.int .i64 x1)).setCell ⟨wr.heap.size, 2, none⟩ (.int .i64 x2)).setCell ⟨wr.heap.size, 3, none⟩ (.int .i64 x3)).setCell ⟨wr.heap.size, 4, none⟩ (.int .i64 x4)).drew = W2 at HX2 HB2 HW2 ⊢
        have X := HX2.out
        have HB1 := HB2
        have HW1 := HW2
        clear HX2 HB2 HW2
        obtain ⟨zc0, zc1, zc2, zc3, zc4⟩ := X.cell5
        have HROW2 := Lib.hid (own5_below HREL.out.row HW1.out)
        have HSL := HB1.out.size
        go_wp2_with (go_at_call 55; refine (kM_tf _).mono ?_; rintro e w3 ⟨rfl, rfl⟩)
        refine ⟨⟨A, [], D, q, b, n, 0, (ca - 1), cb, rfl, rfl, (by omega), hb, HLA, hm, Lib.hid (by have := hsz.out; omega), Lib.hid ⟨hq.out, Reads5.nil _ _, ?_, (fun z hz => HREL.out.oa z (List.mem_cons_of_mem _ hz)), (by simp), HROW2.out, HB1.out⟩⟩, by simp [slen]; try omega⟩
        have h := HEQ.out; simpa [one, kM] using h
      · obtain ⟨m, rfl⟩ : ∃ m', m = m' + 1 := ⟨B.length, hm.out.symm⟩
        have HLB : Hid (B.length = m) := Lib.hid (by have := hm.out; simpa using this)
        obtain ⟨gg, oo, rfl, hgg, haty, htly⟩ := reads_head HREL.out.rb
        have HTy := Lib.hid htly
        have hoy := Lib.hid (HREL.out.ob y (List.mem_cons_self ..))
        obtain ⟨⟨y0, y1, y2, y3, y4⟩, hy⟩ : ∃ v, pad5 y = v := ⟨_, rfl⟩
        rw [hy] at haty
        have Hy := Lib.hid hy
        have HAy := Lib.hid (haty.below HREL.out.hb)
        have hlgg : gg < wr.heap.size := Nat.lt_of_lt_of_le hgg HREL.out.hb.size
        clear htly haty hy
        have hr : Hid (Reads5 w (if cb = 1 then some ⟨gg, oo, none⟩ else some ⟨gg, oo + 5, none⟩) (B.map pad5)) := Lib.hid (tail_if (by have := HLB.out; omega) HTy.out)
        have h3 : (0 : Int) < ((m + 1 : Nat) : Int) := by omega
        obtain ⟨v, hv⟩ : ∃ v, cmpL x y = v := ⟨_, rfl⟩
        have HCV := Lib.hid ((cmpE_ok hox.out hoy.out Hx.out Hy.out).trans (by rw [hv]))
        have hrg := cmpL_range x y
        have hR := HREL.out.eq
        rcases hrg with h | h | h
        · have hv2 : cmpL x y = (-1) := h
          rw [mrg_lt kM x y A B (by omega)] at hR
          have HEQ := Lib.hid hR
          obtain rfl : v = (-1) := hv.symm.trans hv2
          clear hR hv hv2 h
          go_wp2_with (first
            | (go_at_call 77; refine (heads_both _ _ _ _ _ _ _ (by omega) (by omega) g gg o oo x0 x1 x2 x3 x4 y0 y1 y2 y3 y4 (-1) rfl rfl HAx HAy HCV).mono ?_; rintro e w2 ⟨rfl, hB⟩; have B2 := Lib.hid hB; clear hB))
          have HREL2 := Lib.hid (HREL.out.on B2.out)
          have HAx2 := Lib.hid (HAx.out.below B2.out)
          have HAy2 := Lib.hid (HAy.out.below B2.out)
          have hlg2 := Nat.lt_of_lt_of_le hlg B2.out.size
          have hlgg2 := Nat.lt_of_lt_of_le hlgg B2.out.size
          clear HREL HAx HAy HB0 hws hlg hlgg
          have HREL := HREL2
          have HAx := HAx2
          have HAy := HAy2
          have hlg := hlg2
          have hlgg := hlgg2
          clear HREL2 HAx2 HAy2 hlg2 hlgg2 B2
          have HB0 := Lib.hid HREL.out.hb
          have hws := HREL.out.hb.size
          have X := Box.new w2 25 #[.int .i64 0, .int .i64 0, .int .i64 0, .int .i64 0, .int .i64 0]
          have HB1 := Lib.hid (HB0.out.alloc HB0.out.size (.cells #[.int .i64 0, .int .i64 0, .int .i64 0, .int .i64 0, .int .i64 0] 25))
          have HW1 := Lib.hid ((Below.refl w2.heap.size w2).alloc (Nat.le_refl _) (.cells #[.int .i64 0, .int .i64 0, .int .i64 0, .int .i64 0, .int .i64 0] 25))
          generalize w2.alloc (.cells #[.int .i64 0, .int .i64 0, .int .i64 0, .int .i64 0, .int .i64 0] 25) = W at X HB1 HW1 ⊢
          obtain ⟨c0, c1, c2, c3, c4⟩ := (HAx.out.below HW1.out)
          obtain ⟨zc0, zc1, zc2, zc3, zc4⟩ := X.cell5
          obtain ⟨f0, f1, f2, f3, f4⟩ := X.free5
          have hxg : w2.heap.size ≠ g := by omega
          have hgx : g ≠ w2.heap.size := by omega
          have HX := Lib.hid X
          clear X
          go_region
          have HX2 := Lib.hid (HX.out.put5 (.int .i64 x0) (.int .i64 x1) (.int .i64 x2) (.int .i64 x3) (.int .i64 x4)).drew
          have HB2 := Lib.hid (below_put5 HB1.out HB0.out.size (.int .i64 x0) (.int .i64 x1) (.int .i64 x2) (.int .i64 x3) (.int .i64 x4)).drew
          have HW2 := Lib.hid (below_put5 HW1.out (Nat.le_refl _) (.int .i64 x0) (.int .i64 x1) (.int .i64 x2) (.int .i64 x3) (.int .i64 x4)).drew
          clear c0 c1 c2 c3 c4 zc0 zc1 zc2 zc3 zc4 f0 f1 f2 f3 f4 HX HB1 HW1 hxg hgx
          generalize (if ca = 1 then some (⟨g, o, none⟩ : Addr) else some ⟨g, o + 5, none⟩) = q at hq ⊢
          generalize (((((W.setCell ⟨w2.heap.size, 0, none⟩ (.int .i64 x0)).setCell ⟨w2.heap.size, 1, none⟩ (.int .i64 x1)).setCell ⟨w2.heap.size, 2, none⟩ (.int .i64 x2)).setCell ⟨w2.heap.size, 3, none⟩ (.int .i64 x3)).setCell ⟨w2.heap.size, 4, none⟩ (.int .i64 x4)).drew = W2 at HX2 HB2 HW2 ⊢
          have X := HX2.out
          have HB1 := HB2
          have HW1 := HW2
          clear HX2 HB2 HW2
          obtain ⟨zc0, zc1, zc2, zc3, zc4⟩ := X.cell5
          have HROW2 := Lib.hid (own5_below HREL.out.row HW1.out)
          have HSL := HB1.out.size
          go_wp2_with (go_at_call 55; refine (kM_tf _).mono ?_; rintro e w3 ⟨rfl, rfl⟩)
          refine ⟨⟨A, (y :: B), D, q, _, n, (m + 1), (ca - 1), cb, rfl, rfl, (by omega), hb, HLA, hm, Lib.hid (by have := hsz.out; omega), Lib.hid ⟨hq.out, HREL.out.rb, ?_, (fun z hz => HREL.out.oa z (List.mem_cons_of_mem _ hz)), HREL.out.ob, HROW2.out, HB1.out⟩⟩, by simp [slen]; try omega⟩
          have h := HEQ.out; simpa [one, kM] using h
        · have hv2 : cmpL x y = 0 := h
          rw [mrg_eq kM x y A B (by omega)] at hR
          have HEQ := Lib.hid hR
          obtain rfl : v = 0 := hv.symm.trans hv2
          clear hR hv hv2 h
          go_wp2_with (first
            | (go_at_call 77; refine (heads_both _ _ _ _ _ _ _ (by omega) (by omega) g gg o oo x0 x1 x2 x3 x4 y0 y1 y2 y3 y4 0 rfl rfl HAx HAy HCV).mono ?_; rintro e w2 ⟨rfl, hB⟩; have B2 := Lib.hid hB; clear hB))
          have HREL2 := Lib.hid (HREL.out.on B2.out)
          have HAx2 := Lib.hid (HAx.out.below B2.out)
          have HAy2 := Lib.hid (HAy.out.below B2.out)
          have hlg2 := Nat.lt_of_lt_of_le hlg B2.out.size
          have hlgg2 := Nat.lt_of_lt_of_le hlgg B2.out.size
          clear HREL HAx HAy HB0 hws hlg hlgg
          have HREL := HREL2
          have HAx := HAx2
          have HAy := HAy2
          have hlg := hlg2
          have hlgg := hlgg2
          clear HREL2 HAx2 HAy2 hlg2 hlgg2 B2
          have HB0 := Lib.hid HREL.out.hb
          have hws := HREL.out.hb.size
          have X := Box.new w2 25 #[.int .i64 0, .int .i64 0, .int .i64 0, .int .i64 0, .int .i64 0]
          have HB1 := Lib.hid (HB0.out.alloc HB0.out.size (.cells #[.int .i64 0, .int .i64 0, .int .i64 0, .int .i64 0, .int .i64 0] 25))
          have HW1 := Lib.hid ((Below.refl w2.heap.size w2).alloc (Nat.le_refl _) (.cells #[.int .i64 0, .int .i64 0, .int .i64 0, .int .i64 0, .int .i64 0] 25))
          generalize w2.alloc (.cells #[.int .i64 0, .int .i64 0, .int .i64 0, .int .i64 0, .int .i64 0] 25) = W at X HB1 HW1 ⊢
          obtain ⟨c0, c1, c2, c3, c4⟩ := (HAx.out.below HW1.out)
          obtain ⟨zc0, zc1, zc2, zc3, zc4⟩ := X.cell5
          obtain ⟨f0, f1, f2, f3, f4⟩ := X.free5
          have hxg : w2.heap.size ≠ g := by omega
          have hgx : g ≠ w2.heap.size := by omega
          have HX := Lib.hid X
          clear X
          go_region
          have HX2 := Lib.hid (HX.out.put5 (.int .i64 x0) (.int .i64 x1) (.int .i64 x2) (.int .i64 x3) (.int .i64 x4)).drew
          have HB2 := Lib.hid (below_put5 HB1.out HB0.out.size (.int .i64 x0) (.int .i64 x1) (.int .i64 x2) (.int .i64 x3) (.int .i64 x4)).drew
          have HW2 := Lib.hid (below_put5 HW1.out (Nat.le_refl _) (.int .i64 x0) (.int .i64 x1) (.int .i64 x2) (.int .i64 x3) (.int .i64 x4)).drew
          clear c0 c1 c2 c3 c4 zc0 zc1 zc2 zc3 zc4 f0 f1 f2 f3 f4 HX HB1 HW1 hxg hgx
          generalize (if ca = 1 then some (⟨g, o, none⟩ : Addr) else some ⟨g, o + 5, none⟩) = q at hq ⊢
          generalize (((((W.setCell ⟨w2.heap.size, 0, none⟩ (.int .i64 x0)).setCell ⟨w2.heap.size, 1, none⟩ (.int .i64 x1)).setCell ⟨w2.heap.size, 2, none⟩ (.int .i64 x2)).setCell ⟨w2.heap.size, 3, none⟩ (.int .i64 x3)).setCell ⟨w2.heap.size, 4, none⟩ (.int .i64 x4)).drew = W2 at HX2 HB2 HW2 ⊢
          have X := HX2.out
          have HB1 := HB2
          have HW1 := HW2
          clear HX2 HB2 HW2
          go_wp2
          obtain ⟨c0, c1, c2, c3, c4⟩ := (HAy.out.below HW1.out)
          obtain ⟨zc0, zc1, zc2, zc3, zc4⟩ := X.cell5
          obtain ⟨f0, f1, f2, f3, f4⟩ := X.free5
          have hxg : w2.heap.size ≠ gg := by omega
          have hgx : gg ≠ w2.heap.size := by omega
          have HX := Lib.hid X
          clear X
          go_region
          have HX2 := Lib.hid (HX.out.put5 (.int .i64 y0) (.int .i64 y1) (.int .i64 y2) (.int .i64 y3) (.int .i64 y4)).drew
          have HB2 := Lib.hid (below_put5 HB1.out HB0.out.size (.int .i64 y0) (.int .i64 y1) (.int .i64 y2) (.int .i64 y3) (.int .i64 y4)).drew
          have HW2 := Lib.hid (below_put5 HW1.out (Nat.le_refl _) (.int .i64 y0) (.int .i64 y1) (.int .i64 y2) (.int .i64 y3) (.int .i64 y4)).drew
          clear c0 c1 c2 c3 c4 zc0 zc1 zc2 zc3 zc4 f0 f1 f2 f3 f4 HX HB1 HW1 hxg hgx
          generalize (if cb = 1 then some (⟨gg, oo, none⟩ : Addr) else some ⟨gg, oo + 5, none⟩) = r at hr ⊢
          generalize (((((W2.setCell ⟨w2.heap.size, 0, none⟩ (.int .i64 y0)).setCell ⟨w2.heap.size, 1, none⟩ (.int .i64 y1)).setCell ⟨w2.heap.size, 2, none⟩ (.int .i64 y2)).setCell ⟨w2.heap.size, 3, none⟩ (.int .i64 y3)).setCell ⟨w2.heap.size, 4, none⟩ (.int .i64 y4)).drew = W3 at HX2 HB2 HW2 ⊢
          have X := HX2.out
          have HB1 := HB2
          have HW1 := HW2
          clear HX2 HB2 HW2
          obtain ⟨zc0, zc1, zc2, zc3, zc4⟩ := X.cell5
          have HROW2 := Lib.hid (own5_below HREL.out.row HW1.out)
          have HSL := HB1.out.size
          go_wp2_with (first
            | (go_at_call 55; refine (kM_tt _).mono ?_; rintro e w3 ⟨rfl, rfl⟩)
            | (at_builtin; refine append_in5 rfl (.tmp 46) (.tmp 48) rfl w.heap.size _ D.length _ rfl (HROW2.out.alloc _) (some ⟨W3.heap.size, 0, none⟩) [(y0, y1, y2, y3, y4)] 1 1 rfl rfl (by decide) (reads5_block (Box.new W3 25 #[.int .i64 y0, .int .i64 y1, .int .i64 y2, .int .i64 y3, .int .i64 y4]) rfl) (by have := hsz.out; omega) (by simp; omega) ?_; intro v3 w3 hv3 hB3; have O3 := Lib.hid hv3; have B3 := Lib.hid ((HB1.out.alloc HB1.out.size (.cells #[.int .i64 y0, .int .i64 y1, .int .i64 y2, .int .i64 y3, .int .i64 y4] 25)).trans hB3); clear hv3 hB3))
          refine ⟨⟨A, B, D ++ [y], q, r, n, m, (ca - 1), (cb - 1), rfl, rfl, (by omega), (by omega), HLA, HLB, Lib.hid (by have := hsz.out; simp; omega), Lib.hid ⟨hq.out, hr.out, ?_, (fun z hz => HREL.out.oa z (List.mem_cons_of_mem _ hz)), (fun z hz => HREL.out.ob z (List.mem_cons_of_mem _ hz)), ?_, B3.out⟩⟩, by simp [slen]; try omega⟩
          · have h := HEQ.out; simpa [one, kM] using h
          · have h := O3.out; rw [List.length_append, List.map_append, List.map_singleton, Hy.out]; exact h
        · have hv2 : cmpL x y = 1 := h
          rw [mrg_gt kM x y A B (by omega)] at hR
          have HEQ := Lib.hid hR
          obtain rfl : v = 1 := hv.symm.trans hv2
          clear hR hv hv2 h
          go_wp2_with (first
            | (go_at_call 77; refine (heads_both _ _ _ _ _ _ _ (by omega) (by omega) g gg o oo x0 x1 x2 x3 x4 y0 y1 y2 y3 y4 1 rfl rfl HAx HAy HCV).mono ?_; rintro e w2 ⟨rfl, hB⟩; have B2 := Lib.hid hB; clear hB))
          have HREL2 := Lib.hid (HREL.out.on B2.out)
          have HAx2 := Lib.hid (HAx.out.below B2.out)
          have HAy2 := Lib.hid (HAy.out.below B2.out)
          have hlg2 := Nat.lt_of_lt_of_le hlg B2.out.size
          have hlgg2 := Nat.lt_of_lt_of_le hlgg B2.out.size
          clear HREL HAx HAy HB0 hws hlg hlgg
          have HREL := HREL2
          have HAx := HAx2
          have HAy := HAy2
          have hlg := hlg2
          have hlgg := hlgg2
          clear HREL2 HAx2 HAy2 hlg2 hlgg2 B2
          have HB0 := Lib.hid HREL.out.hb
          have hws := HREL.out.hb.size
          have X := Box.new w2 25 #[.int .i64 0, .int .i64 0, .int .i64 0, .int .i64 0, .int .i64 0]
          have HB1 := Lib.hid (HB0.out.alloc HB0.out.size (.cells #[.int .i64 0, .int .i64 0, .int .i64 0, .int .i64 0, .int .i64 0] 25))
          have HW1 := Lib.hid ((Below.refl w2.heap.size w2).alloc (Nat.le_refl _) (.cells #[.int .i64 0, .int .i64 0, .int .i64 0, .int .i64 0, .int .i64 0] 25))
          generalize w2.alloc (.cells #[.int .i64 0, .int .i64 0, .int .i64 0, .int .i64 0, .int .i64 0] 25) = W at X HB1 HW1 ⊢
          obtain ⟨c0, c1, c2, c3, c4⟩ := (HAy.out.below HW1.out)
          obtain ⟨zc0, zc1, zc2, zc3, zc4⟩ := X.cell5
          obtain ⟨f0, f1, f2, f3, f4⟩ := X.free5
          have hxg : w2.heap.size ≠ gg := by omega
          have hgx : gg ≠ w2.heap.size := by omega
          have HX := Lib.hid X
          clear X
          go_region
          have HX2 := Lib.hid (HX.out.put5 (.int .i64 y0) (.int .i64 y1) (.int .i64 y2) (.int .i64 y3) (.int .i64 y4)).drew
          have HB2 := Lib.hid (below_put5 HB1.out HB0.out.size (.int .i64 y0) (.int .i64 y1) (.int .i64 y2) (.int .i64 y3) (.int .i64 y4)).drew
          have HW2 := Lib.hid (below_put5 HW1.out (Nat.le_refl _) (.int .i64 y0) (.int .i64 y1) (.int .i64 y2) (.int .i64 y3) (.int .i64 y4)).drew
          clear c0 c1 c2 c3 c4 zc0 zc1 zc2 zc3 zc4 f0 f1 f2 f3 f4 HX HB1 HW1 hxg hgx
          generalize (if cb = 1 then some (⟨gg, oo, none⟩ : Addr) else some ⟨gg, oo + 5, none⟩) = r at hr ⊢
          generalize (((((W.setCell ⟨w2.heap.size, 0, none⟩ (.int .i64 y0)).setCell ⟨w2.heap.size, 1, none⟩ (.int .i64 y1)).setCell ⟨w2.heap.size, 2, none⟩ (.int .i64 y2)).setCell ⟨w2.heap.size, 3, none⟩ (.int .i64 y3)).setCell ⟨w2.heap.size, 4, none⟩ (.int .i64 y4)).drew = W2 at HX2 HB2 HW2 ⊢
          have X := HX2.out
          have HB1 := HB2
          have HW1 := HW2
          clear HX2 HB2 HW2
          obtain ⟨zc0, zc1, zc2, zc3, zc4⟩ := X.cell5
          have HROW2 := Lib.hid (own5_below HREL.out.row HW1.out)
          have HSL := HB1.out.size
          go_wp2_with (go_at_call 55; refine (kM_ft _).mono ?_; rintro e w3 ⟨rfl, rfl⟩)
          refine ⟨⟨(x :: A), B, D, _, r, (n + 1), m, ca, (cb - 1), rfl, rfl, ha, (by omega), hn, HLB, Lib.hid (by have := hsz.out; omega), Lib.hid ⟨HREL.out.ra, hr.out, ?_, HREL.out.oa, (fun z hz => HREL.out.ob z (List.mem_cons_of_mem _ hz)), HROW2.out, HB1.out⟩⟩, by simp [slen]; try omega⟩
          have h := HEQ.out; simpa [one, kM] using h
end Go.Proofs.Ytdahaajfkjmflaa.s14

namespace Go.Proofs.Ytdahaajfkjmflaa.s14
set_option linter.unusedVariables false
set_option linter.unusedSimpArgs false
open Go.RowKit
open kit

open s13

theorem kL_tt (w : World) : Calls Try.prog 57 #[.bool true, .bool true] w fun e w' => e = .returned (.bool false) ∧ w = w' := by
  go_enter Try.func57, Try.ntmps57
  go_wp2
  go_ret
  exact ⟨rfl, rfl⟩
theorem kL_tf (w : World) : Calls Try.prog 57 #[.bool true, .bool false] w fun e w' => e = .returned (.bool true) ∧ w = w' := by
  go_enter Try.func57, Try.ntmps57
  go_wp2
  go_ret
  exact ⟨rfl, rfl⟩
theorem kL_ft (w : World) : Calls Try.prog 57 #[.bool false, .bool true] w fun e w' => e = .returned (.bool false) ∧ w = w' := by
  go_enter Try.func57, Try.ntmps57
  go_wp2
  go_ret
  exact ⟨rfl, rfl⟩
set_option maxRecDepth 100000 in
set_option maxHeartbeats 20000000 in
theorem mergeL (a b : Option Addr) (n m ca cb : Nat) (A B : List (List Int)) (w : World) (hn : Hid (A.length = n)) (hm : Hid (B.length = m)) (ha : n ≤ ca) (hb : m ≤ cb) (hsz : n + m ≤ 100000) (hA : Hid (∀ x ∈ A, okL 8 x)) (hB : Hid (∀ x ∈ B, okL 8 x)) (ra : Hid (Reads5 w a (A.map pad5))) (rb : Hid (Reads5 w b (B.map pad5))) (R : List (List Int)) (N : Nat) (HR : Hid (mrg kL A B = R)) (HN : Hid (R.length = N)) :
    Calls Try.prog 54 #[.slice a n ca, .slice b m cb, .func (.func 42) #[] #[], .func (.func 57) #[] #[]] w fun e w' => ∃ p cp, e = .returned (.slice p N cp) ∧ Reads5 w' p (R.map pad5) ∧ Below w.heap.size w w' ∧ N ≤ cp := by
  go_enter Try.func54, Try.ntmps54
  go_wp2
  go_loopw [0, 1, 9] (fun va vb vm wr => ∃ (A B D : List (List Int)) (a b : Option Addr) (n m ca cb : Nat), va = .slice a n ca ∧ vb = .slice b m cb ∧ n ≤ ca ∧ m ≤ cb ∧ Hid (A.length = n) ∧ Hid (B.length = m) ∧ Hid (D.length + n + m ≤ 100000) ∧ Hid (RelM kL w R A B D a b vm wr)) (fun va vb _ _ => slen va + slen vb)
  case atStart => exact ⟨A, B, [], a, b, n, m, ca, cb, rfl, rfl, ha, hb, hn, hm, Lib.hid (by simpa using hsz), Lib.hid ⟨ra.out, rb.out, HR.out, hA.out, hB.out, World.ownsRow_nil _ _ _ _, Below.refl _ _⟩⟩
  case round =>
    clear hn hm ha hb hsz hA hB ra rb
    obtain ⟨A, B, D, a, b, n, m, ca, cb, rfl, rfl, ha, hb, hn, hm, hsz, HREL⟩ := hrel
    have HB0 := Lib.hid HREL.out.hb
    have hws := HREL.out.hb.size
    rcases A with _ | ⟨x, A⟩
    · obtain rfl : n = 0 := hn.out.symm
      rcases B with _ | ⟨y, B⟩
      · obtain rfl : m = 0 := hm.out.symm
        have hR := HREL.out.eq
        rw [mrg_nil, List.append_nil] at hR
        subst hR
        have hrow := HREL.out.row
        rw [HN.out] at hrow
        obtain ⟨p, cp, rfl, hcp⟩ := row5_shape hrow
        have HROW := Lib.hid hrow
        clear hrow
        go_wp2
        go_ret
        exact ⟨p, cp, rfl, reads5_of_row (by rw [List.length_map]; exact HN.out) HROW.out, HREL.out.hb, hcp⟩
      · obtain ⟨m, rfl⟩ : ∃ m', m = m' + 1 := ⟨B.length, hm.out.symm⟩
        have HLB : Hid (B.length = m) := Lib.hid (by have := hm.out; simpa using this)
        have hR := HREL.out.eq
        rw [mrg_right] at hR
        have HEQ := Lib.hid hR
        clear hR hm
        obtain ⟨g, o, rfl, hg, haty, htly⟩ := reads_head HREL.out.rb
        have HTy := Lib.hid htly
        have hoy := Lib.hid (HREL.out.ob y (List.mem_cons_self ..))
        obtain ⟨⟨y0, y1, y2, y3, y4⟩, hy⟩ : ∃ v, pad5 y = v := ⟨_, rfl⟩
        rw [hy] at haty
        have Hy := Lib.hid hy
        have HAy := Lib.hid (haty.below HREL.out.hb)
        have hlg : g < wr.heap.size := Nat.lt_of_lt_of_le hg HREL.out.hb.size
        clear htly haty hy
        have h1 : (0 : Int) < ((m + 1 : Nat) : Int) := by omega
        have h2 : decide ((0 : Int) < ((m + 1 : Nat) : Int)) = true := decide_eq_true h1
        have hq : Hid (Reads5 w (if cb = 1 then some ⟨g, o, none⟩ else some ⟨g, o + 5, none⟩) (B.map pad5)) := Lib.hid (tail_if (by have := HLB.out; omega) HTy.out)
        go_wp2_with (first
          | (go_at_call 77; refine (heads_left _ _ _ _ _ _).mono ?_; rintro e w2 ⟨rfl, rfl⟩))
        have X := Box.new wr 25 #[.int .i64 0, .int .i64 0, .int .i64 0, .int .i64 0, .int .i64 0]
        have HB1 := Lib.hid (HB0.out.alloc HB0.out.size (.cells #[.int .i64 0, .int .i64 0, .int .i64 0, .int .i64 0, .int .i64 0] 25))
        have HW1 := Lib.hid ((Below.refl wr.heap.size wr).alloc (Nat.le_refl _) (.cells #[.int .i64 0, .int .i64 0, .int .i64 0, .int .i64 0, .int .i64 0] 25))
        generalize wr.alloc (.cells #[.int .i64 0, .int .i64 0, .int .i64 0, .int .i64 0, .int .i64 0] 25) = W at X HB1 HW1 ⊢
        obtain ⟨c0, c1, c2, c3, c4⟩ := (HAy.out.below HW1.out)
        obtain ⟨zc0, zc1, zc2, zc3, zc4⟩ := X.cell5
        obtain ⟨f0, f1, f2, f3, f4⟩ := X.free5
        have hxg : wr.heap.size ≠ g := by omega
        have hgx : g ≠ wr.heap.size := by omega
        have HX := Lib.hid X
        clear X
        go_region
        have HX2 := Lib.hid (HX.out.put5 (.int .i64 y0) (.int .i64 y1) (.int .i64 y2) (.int .i64 y3) (.int .i64 y4)).drew
        have HB2 := Lib.hid (below_put5 HB1.out HB0.out.size (.int .i64 y0) (.int .i64 y1) (.int .i64 y2) (.int .i64 y3) (.int .i64 y4)).drew
        have HW2 := Lib.hid (below_put5 HW1.out (Nat.le_refl _) (.int .i64 y0) (.int .i64 y1) (.int .i64 y2) (.int .i64 y3) (.int .i64 y4)).drew
        clear c0 c1 c2 c3 c4 zc0 zc1 zc2 zc3 zc4 f0 f1 f2 f3 f4 HX HB1 HW1 hxg hgx
        generalize (if cb = 1 then some (⟨g, o, none⟩ : Addr) else some ⟨g, o + 5, none⟩) = q at hq ⊢
        generalize (((((W.setCell ⟨wr.heap.size, 0, none⟩ (.int .i64 y0)).setCell ⟨wr.heap.size, 1, none⟩ (.int .i64 y1)).setCell ⟨wr.heap.size, 2, none⟩ (.int .i64 y2)).setCell ⟨wr.heap.size, 3, none⟩ (.int .i64 y3)).setCell ⟨wr.heap.size, 4, none⟩ (.int .i64 y4)).drew = W2 at HX2 HB2 HW2 ⊢
        have X := HX2.out
        have HB1 := HB2
        have HW1 := HW2
        clear HX2 HB2 HW2
        obtain ⟨zc0, zc1, zc2, zc3, zc4⟩ := X.cell5
        have HROW2 := Lib.hid (own5_below HREL.out.row HW1.out)
        have HSL := HB1.out.size
        go_wp2_with (go_at_call 57; refine (kL_ft _).mono ?_; rintro e w3 ⟨rfl, rfl⟩)
        refine ⟨⟨[], B, D, a, q, 0, m, ca, (cb - 1), rfl, rfl, ha, (by omega), hn, HLB, Lib.hid (by have := hsz.out; omega), Lib.hid ⟨Reads5.nil _ _, hq.out, ?_, (by simp), (fun z hz => HREL.out.ob z (List.mem_cons_of_mem _ hz)), HROW2.out, HB1.out⟩⟩, by simp [slen]; try omega⟩
        have h := HEQ.out; simpa [one, kL] using h
    · obtain ⟨n, rfl⟩ : ∃ n', n = n' + 1 := ⟨A.length, hn.out.symm⟩
      have HLA : Hid (A.length = n) := Lib.hid (by have := hn.out; simpa using this)
      have h1 : (0 : Int) < ((n + 1 : Nat) : Int) := by omega
      have h2 : decide ((0 : Int) < ((n + 1 : Nat) : Int)) = true := decide_eq_true h1
      obtain ⟨g, o, rfl, hg, hatx, htlx⟩ := reads_head HREL.out.ra
      have HTx := Lib.hid htlx
      have hox := Lib.hid (HREL.out.oa x (List.mem_cons_self ..))
      obtain ⟨⟨x0, x1, x2, x3, x4⟩, hx⟩ : ∃ v, pad5 x = v := ⟨_, rfl⟩
      rw [hx] at hatx
      have Hx := Lib.hid hx
      have HAx := Lib.hid (hatx.below HREL.out.hb)
      have hlg : g < wr.heap.size := Nat.lt_of_lt_of_le hg HREL.out.hb.size
      clear htlx hatx hx
      have hq : Hid (Reads5 w (if ca = 1 then some ⟨g, o, none⟩ else some ⟨g, o + 5, none⟩) (A.map pad5)) := Lib.hid (tail_if (by have := HLA.out; omega) HTx.out)
      rcases B with _ | ⟨y, B⟩
      · obtain rfl : m = 0 := hm.out.symm
        have hR := HREL.out.eq
        rw [mrg_left] at hR
        have HEQ := Lib.hid hR
        clear hR hn
        go_wp2_with (first
          | (go_at_call 77; refine (heads_right _ _ _ _ _ _ (by omega)).mono ?_; rintro e w2 ⟨rfl, rfl⟩))
        have X := Box.new wr 25 #[.int .i64 0, .int .i64 0, .int .i64 0, .int .i64 0, .int .i64 0]
        have HB1 := Lib.hid (HB0.out.alloc HB0.out.size (.cells #[.int .i64 0, .int .i64 0, .int .i64 0, .int .i64 0, .int .i64 0] 25))
        have HW1 := Lib.hid ((Below.refl wr.heap.size wr).alloc (Nat.le_refl _) (.cells #[.int .i64 0, .int .i64 0, .int .i64 0, .int .i64 0, .int .i64 0] 25))
        generalize wr.alloc (.cells #[.int .i64 0, .int .i64 0, .int .i64 0, .int .i64 0, .int .i64 0] 25) = W at X HB1 HW1 ⊢
        obtain ⟨c0, c1, c2, c3, c4⟩ := (HAx.out.below HW1.out)
        obtain ⟨zc0, zc1, zc2, zc3, zc4⟩ := X.cell5
        obtain ⟨f0, f1, f2, f3, f4⟩ := X.free5
        have hxg : wr.heap.size ≠ g := by omega
        have hgx : g ≠ wr.heap.size := by omega
        have HX := Lib.hid X
        clear X
        go_region
        have HX2 := Lib.hid (HX.out.put5 (.int .i64 x0) (.int .i64 x1) (.int .i64 x2) (.int .i64 x3) (.int .i64 x4)).drew
        have HB2 := Lib.hid (below_put5 HB1.out HB0.out.size (.int .i64 x0) (.int .i64 x1) (.int .i64 x2) (.int .i64 x3) (.int .i64 x4)).drew
        have HW2 := Lib.hid (below_put5 HW1.out (Nat.le_refl _) (.int .i64 x0) (.int .i64 x1) (.int .i64 x2) (.int .i64 x3) (.int .i64 x4)).drew
        clear c0 c1 c2 c3 c4 zc0 zc1 zc2 zc3 zc4 f0 f1 f2 f3 f4 HX HB1 HW1 hxg hgx
        generalize (if ca = 1 then some (⟨g, o, none⟩ : Addr) else some ⟨g, o + 5, none⟩) = q at hq ⊢
        generalize (((((W.setCell ⟨wr.heap.size, 0, none⟩ (.int .i64 x0)).setCell ⟨wr.heap.size, 1, none⟩ (.int .i64 x1)).setCell ⟨wr.heap.size, 2, none⟩ (.int .i64 x2)).setCell ⟨wr.heap.size, 3, none⟩ (.int .i64 x3)).setCell ⟨wr.heap.size, 4, none⟩ (.int .i64 x4)).drew = W2 at HX2 HB2 HW2 ⊢
        have X := HX2.out
        have HB1 := HB2
        have HW1 := HW2
        clear HX2 HB2 HW2
        obtain ⟨zc0, zc1, zc2, zc3, zc4⟩ := X.cell5
        have HROW2 := Lib.hid (own5_below HREL.out.row HW1.out)
        have HSL := HB1.out.size
        go_wp2_with (first
          | (go_at_call 57; refine (kL_tf _).mono ?_; rintro e w3 ⟨rfl, rfl⟩)
          | (at_builtin; refine append_in5 rfl (.tmp 46) (.tmp 48) rfl w.heap.size _ D.length _ rfl (HROW2.out.alloc _) (some ⟨W2.heap.size, 0, none⟩) [(x0, x1, x2, x3, x4)] 1 1 rfl rfl (by decide) (reads5_block (Box.new W2 25 #[.int .i64 x0, .int .i64 x1, .int .i64 x2, .int .i64 x3, .int .i64 x4]) rfl) (by have := hsz.out; omega) (by simp; omega) ?_; intro v3 w3 hv3 hB3; have O3 := Lib.hid hv3; have B3 := Lib.hid ((HB1.out.alloc HB1.out.size (.cells #[.int .i64 x0, .int .i64 x1, .int .i64 x2, .int .i64 x3, .int .i64 x4] 25)).trans hB3); clear hv3 hB3))
        refine ⟨⟨A, [], D ++ [x], q, b, n, 0, (ca - 1), cb, rfl, rfl, (by omega), hb, HLA, hm, Lib.hid (by have := hsz.out; simp; omega), Lib.hid ⟨hq.out, Reads5.nil _ _, ?_, (fun z hz => HREL.out.oa z (List.mem_cons_of_mem _ hz)), (by simp), ?_, B3.out⟩⟩, by simp [slen]; try omega⟩
        · have h := HEQ.out; simpa [one, kL] using h
        · have h := O3.out; rw [List.length_append, List.map_append, List.map_singleton, Hx.out]; exact h
      · obtain ⟨m, rfl⟩ : ∃ m', m = m' + 1 := ⟨B.length, hm.out.symm⟩
        have HLB : Hid (B.length = m) := Lib.hid (by have := hm.out; simpa using this)
        obtain ⟨gg, oo, rfl, hgg, haty, htly⟩ := reads_head HREL.out.rb
        have HTy := Lib.hid htly
        have hoy := Lib.hid (HREL.out.ob y (List.mem_cons_self ..))
        obtain ⟨⟨y0, y1, y2, y3, y4⟩, hy⟩ : ∃ v, pad5 y = v := ⟨_, rfl⟩
        rw [hy] at haty
        have Hy := Lib.hid hy
        have HAy := Lib.hid (haty.below HREL.out.hb)
        have hlgg : gg < wr.heap.size := Nat.lt_of_lt_of_le hgg HREL.out.hb.size
        clear htly haty hy
        have hr : Hid (Reads5 w (if cb = 1 then some ⟨gg, oo, none⟩ else some ⟨gg, oo + 5, none⟩) (B.map pad5)) := Lib.hid (tail_if (by have := HLB.out; omega) HTy.out)
        have h3 : (0 : Int) < ((m + 1 : Nat) : Int) := by omega
        obtain ⟨v, hv⟩ : ∃ v, cmpL x y = v := ⟨_, rfl⟩
        have HCV := Lib.hid ((cmpE_ok hox.out hoy.out Hx.out Hy.out).trans (by rw [hv]))
        have hrg := cmpL_range x y
        have hR := HREL.out.eq
        rcases hrg with h | h | h
        · have hv2 : cmpL x y = (-1) := h
          rw [mrg_lt kL x y A B (by omega)] at hR
          have HEQ := Lib.hid hR
          obtain rfl : v = (-1) := hv.symm.trans hv2
          clear hR hv hv2 h
          go_wp2_with (first
            | (go_at_call 77; refine (heads_both _ _ _ _ _ _ _ (by omega) (by omega) g gg o oo x0 x1 x2 x3 x4 y0 y1 y2 y3 y4 (-1) rfl rfl HAx HAy HCV).mono ?_; rintro e w2 ⟨rfl, hB⟩; have B2 := Lib.hid hB; clear hB))
          have HREL2 := Lib.hid (HREL.out.on B2.out)
          have HAx2 := Lib.hid (HAx.out.below B2.out)
          have HAy2 := Lib.hid (HAy.out.below B2.out)
          have hlg2 := Nat.lt_of_lt_of_le hlg B2.out.size
          have hlgg2 := Nat.lt_of_lt_of_le hlgg B2.out.size
          clear HREL HAx HAy HB0 hws hlg hlgg
          have HREL := HREL2
          have HAx := HAx2
          have HAy := HAy2
          have hlg := hlg2
          have hlgg := hlgg2
          clear HREL2 HAx2 HAy2 hlg2 hlgg2 B2
          have HB0 := Lib.hid HREL.out.hb
          have hws := HREL.out.hb.size
          have X := Box.new w2 25 #[.int .i64 0, .int .i64 0, .int .i64 0, .int .i64 0, .int .i64 0]
          have HB1 := Lib.hid (HB0.out.alloc HB0.out.size (.cells #[.int .i64 0, .int .i64 0, .int .i64 0, .int .i64 0, .int .i64 0] 25))
          have HW1 := Lib.hid ((Below.refl w2.heap.size w2).alloc (Nat.le_refl _) (.cells #[.int .i64 0, .int .i64 0, .int .i64 0, .int .i64 0, .int .i64 0] 25))
          generalize w2.alloc (.cells #[.int .i64 0, .int .i64 0, .int .i64 0, .int .i64 0, .int .i64 0] 25) = W at X HB1 HW1 ⊢
          obtain ⟨c0, c1, c2, c3, c4⟩ := (HAx.out.below HW1.out)
          obtain ⟨zc0, zc1, zc2, zc3, zc4⟩ := X.cell5
          obtain ⟨f0, f1, f2, f3, f4⟩ := X.free5
          have hxg : w2.heap.size ≠ g := by omega
          have hgx : g ≠ w2.heap.size := by omega
          have HX := Lib.hid X
          clear X
          go_region
          have HX2 := Lib.hid (HX.out.put5 (.int .i64 x0) (.int .i64 x1) (.int .i64 x2) (.int .i64 x3) (.int .i64 x4)).drew
          have HB2 := Lib.hid (below_put5 HB1.out HB0.out.size (.int .i64 x0) (.int .i64 x1) (.int .i64 x2) (.int .i64 x3) (.int .i64 x4)).drew
          have HW2 := Lib.hid (below_put5 HW1.out (Nat.le_refl _) (.int .i64 x0) (.int .i64 x1) (.int .i64 x2) (.int .i64 x3) (.int .i64 x4)).drew
          clear c0 c1 c2 c3 c4 zc0 zc1 zc2 zc3 zc4 f0 f1 f2 f3 f4 HX HB1 HW1 hxg hgx
          generalize (if ca = 1 then some (⟨g, o, none⟩ : Addr) else some ⟨g, o + 5, none⟩) = q at hq ⊢
          generalize (((((W.setCell ⟨w2.heap.size, 0, none⟩ (.int .i64 x0)).setCell ⟨w2.heap.size, 1, none⟩ (.int .i64 x1)).setCell ⟨w2.heap.size, 2, none⟩ (.int .i64 x2)).setCell ⟨w2.heap.size, 3, none⟩ (.int .i64 x3)).setCell ⟨w2.heap.size, 4, none⟩ (.int .i64 x4)).drew = W2 at HX2 HB2 HW2 ⊢
          have X := HX2.out
          have HB1 := HB2
          have HW1 := HW2
          clear HX2 HB2 HW2
          obtain ⟨zc0, zc1, zc2, zc3, zc4⟩ := X.cell5
          have HROW2 := Lib.hid (own5_below HREL.out.row HW1.out)
          have HSL := HB1.out.size
          go_wp2_with (first
            | (go_at_call 57; refine (kL_tf _).mono ?_; rintro e w3 ⟨rfl, rfl⟩)
            | (at_builtin; refine append_in5 rfl (.tmp 46) (.tmp 48) rfl w.heap.size _ D.length _ rfl (HROW2.out.alloc _) (some ⟨W2.heap.size, 0, none⟩) [(x0, x1, x2, x3, x4)] 1 1 rfl rfl (by decide) (reads5_block (Box.new W2 25 #[.int .i64 x0, .int .i64 x1, .int .i64 x2, .int .i64 x3, .int .i64 x4]) rfl) (by have := hsz.out; omega) (by simp; omega) ?_; intro v3 w3 hv3 hB3; have O3 := Lib.hid hv3; have B3 := Lib.hid ((HB1.out.alloc HB1.out.size (.cells #[.int .i64 x0, .int .i64 x1, .int .i64 x2, .int .i64 x3, .int .i64 x4] 25)).trans hB3); clear hv3 hB3))
          refine ⟨⟨A, (y :: B), D ++ [x], q, _, n, (m + 1), (ca - 1), cb, rfl, rfl, (by omega), hb, HLA, hm, Lib.hid (by have := hsz.out; simp; omega), Lib.hid ⟨hq.out, HREL.out.rb, ?_, (fun z hz => HREL.out.oa z (List.mem_cons_of_mem _ hz)), HREL.out.ob, ?_, B3.out⟩⟩, by simp [slen]; try omega⟩
          · have h := HEQ.out; simpa [one, kL] using h
          · have h := O3.out; rw [List.length_append, List.map_append, List.map_singleton, Hx.out]; exact h
        · have hv2 : cmpL x y = 0 := h
          rw [mrg_eq kL x y A B (by omega)] at hR
          have HEQ := Lib.hid hR
          obtain rfl : v = 0 := hv.symm.trans hv2
          clear hR hv hv2 h
          go_wp2_with (first
            | (go_at_call 77; refine (heads_both _ _ _ _ _ _ _ (by omega) (by omega) g gg o oo x0 x1 x2 x3 x4 y0 y1 y2 y3 y4 0 rfl rfl HAx HAy HCV).mono ?_; rintro e w2 ⟨rfl, hB⟩; have B2 := Lib.hid hB; clear hB))
          have HREL2 := Lib.hid (HREL.out.on B2.out)
          have HAx2 := Lib.hid (HAx.out.below B2.out)
          have HAy2 := Lib.hid (HAy.out.below B2.out)
          have hlg2 := Nat.lt_of_lt_of_le hlg B2.out.size
          have hlgg2 := Nat.lt_of_lt_of_le hlgg B2.out.size
          clear HREL HAx HAy HB0 hws hlg hlgg
          have HREL := HREL2
          have HAx := HAx2
          have HAy := HAy2
          have hlg := hlg2
          have hlgg := hlgg2
          clear HREL2 HAx2 HAy2 hlg2 hlgg2 B2
          have HB0 := Lib.hid HREL.out.hb
          have hws := HREL.out.hb.size
          have X := Box.new w2 25 #[.int .i64 0, .int .i64 0, .int .i64 0, .int .i64 0, .int .i64 0]
          have HB1 := Lib.hid (HB0.out.alloc HB0.out.size (.cells #[.int .i64 0, .int .i64 0, .int .i64 0, .int .i64 0, .int .i64 0] 25))
          have HW1 := Lib.hid ((Below.refl w2.heap.size w2).alloc (Nat.le_refl _) (.cells #[.int .i64 0, .int .i64 0, .int .i64 0, .int .i64 0, .int .i64 0] 25))
          generalize w2.alloc (.cells #[.int .i64 0, .int .i64 0, .int .i64 0, .int .i64 0, .int .i64 0] 25) = W at X HB1 HW1 ⊢
          obtain ⟨c0, c1, c2, c3, c4⟩ := (HAx.out.below HW1.out)
          obtain ⟨zc0, zc1, zc2, zc3, zc4⟩ := X.cell5
          obtain ⟨f0, f1, f2, f3, f4⟩ := X.free5
          have hxg : w2.heap.size ≠ g := by omega
          have hgx : g ≠ w2.heap.size := by omega
          have HX := Lib.hid X
          clear X
          go_region
          have HX2 := Lib.hid (HX.out.put5 (.int .i64 x0) (.int .i64 x1) (.int .i64 x2) (.int .i64 x3) (.int .i64 x4)).drew
          have HB2 := Lib.hid (below_put5 HB1.out HB0.out.size (.int .i64 x0) (.int .i64 x1) (.int .i64 x2) (.int .i64 x3) (.int .i64 x4)).drew
          have HW2 := Lib.hid (below_put5 HW1.out (Nat.le_refl _) (.int .i64 x0) (.int .i64 x1) (.int .i64 x2) (.int .i64 x3) (.int .i64 x4)).drew
          clear c0 c1 c2 c3 c4 zc0 zc1 zc2 zc3 zc4 f0 f1 f2 f3 f4 HX HB1 HW1 hxg hgx
          generalize (if ca = 1 then some (⟨g, o, none⟩ : Addr) else some ⟨g, o + 5, none⟩) = q at hq ⊢
          generalize (((((W.setCell ⟨w2.heap.size, 0, none⟩ (.int .i64 x0)).setCell ⟨w2.heap.size, 1, none⟩ (.int .i64 x1)).setCell ⟨w2.heap.size, 2, none⟩ (.int .i64 x2)).setCell ⟨w2.heap.size, 3, none⟩ (.int .i64 x3)).setCell ⟨w2.heap.size, 4, none⟩ (.int .i64 x4)).drew = W2 at HX2 HB2 HW2 ⊢
          have X := HX2.out
          have HB1 := HB2
          have HW1 := HW2
          clear HX2 HB2 HW2
          go_wp2
          obtain ⟨c0, c1, c2, c3, c4⟩ := (HAy.out.below HW1.out)
          obtain ⟨zc0, zc1, zc2, zc3, zc4⟩ := X.cell5
          obtain ⟨f0, f1, f2, f3, f4⟩ := X.free5
          have hxg : w2.heap.size ≠ gg := by omega
          have hgx : gg ≠ w2.heap.size := by omega
          have HX := Lib.hid X
          clear X
          go_region
          have HX2 := Lib.hid (HX.out.put5 (.int .i64 y0) (.int .i64 y1) (.int .i64 y2) (.int .i64 y3) (.int .i64 y4)).drew
          have HB2 := Lib.hid (below_put5 HB1.out HB0.out.size (.int .i64 y0) (.int .i64 y1) (.int .i64 y2) (.int .i64 y3) (.int .i64 y4)).drew
          have HW2 := Lib.hid (below_put5 HW1.out (Nat.le_refl _) (.int .i64 y0) (.int .i64 y1) (.int .i64 y2) (.int .i64 y3) (.int .i64 y4)).drew
          clear c0 c1 c2 c3 c4 zc0 zc1 zc2 zc3 zc4 f0 f1 f2 f3 f4 HX HB1 HW1 hxg hgx
          generalize (if cb = 1 then some (⟨gg, oo, none⟩ : Addr) else some ⟨gg, oo + 5, none⟩) = r at hr ⊢
          generalize (((((W2.setCell ⟨w2.heap.size, 0, none⟩ (.int .i64 y0)).setCell ⟨w2.heap.size, 1, none⟩ (.int .i64 y1)).setCell ⟨w2.heap.size, 2, none⟩ (.int .i64 y2)).setCell ⟨w2.heap.size, 3, none⟩ (.int .i64 y3)).setCell ⟨w2.heap.size, 4, none⟩ (.int .i64 y4)).drew = W3 at HX2 HB2 HW2 ⊢
          have X := HX2.out
          have HB1 := HB2
          have HW1 := HW2
          clear HX2 HB2 HW2
          obtain ⟨zc0, zc1, zc2, zc3, zc4⟩ := X.cell5
          have HROW2 := Lib.hid (own5_below HREL.out.row HW1.out)
          have HSL := HB1.out.size
          go_wp2_with (go_at_call 57; refine (kL_tt _).mono ?_; rintro e w3 ⟨rfl, rfl⟩)
          refine ⟨⟨A, B, D, q, r, n, m, (ca - 1), (cb - 1), rfl, rfl, (by omega), (by omega), HLA, HLB, Lib.hid (by have := hsz.out; omega), Lib.hid ⟨hq.out, hr.out, ?_, (fun z hz => HREL.out.oa z (List.mem_cons_of_mem _ hz)), (fun z hz => HREL.out.ob z (List.mem_cons_of_mem _ hz)), HROW2.out, HB1.out⟩⟩, by simp [slen]; try omega⟩
          have h := HEQ.out; simpa [one, kL] using h
        · have hv2 : cmpL x y = 1 := h
          rw [mrg_gt kL x y A B (by omega)] at hR
          have HEQ := Lib.hid hR
          obtain rfl : v = 1 := hv.symm.trans hv2
          clear hR hv hv2 h
          go_wp2_with (first
            | (go_at_call 77; refine (heads_both _ _ _ _ _ _ _ (by omega) (by omega) g gg o oo x0 x1 x2 x3 x4 y0 y1 y2 y3 y4 1 rfl rfl HAx HAy HCV).mono ?_; rintro e w2 ⟨rfl, hB⟩; have B2 := Lib.hid hB; clear hB))
          have HREL2 := Lib.hid (HREL.out.on B2.out)
          have HAx2 := Lib.hid (HAx.out.below B2.out)
          have HAy2 := Lib.hid (HAy.out.below B2.out)
          have hlg2 := Nat.lt_of_lt_of_le hlg B2.out.size
          have hlgg2 := Nat.lt_of_lt_of_le hlgg B2.out.size
          clear HREL HAx HAy HB0 hws hlg hlgg
          have HREL := HREL2
          have HAx := HAx2
          have HAy := HAy2
          have hlg := hlg2
          have hlgg := hlgg2
          clear HREL2 HAx2 HAy2 hlg2 hlgg2 B2
          have HB0 := Lib.hid HREL.out.hb
          have hws := HREL.out.hb.size
          have X := Box.new w2 25 #[.int .i64 0, .int .i64 0, .int .i64 0, .int .i64 0, .int .i64 0]
          have HB1 := Lib.hid (HB0.out.alloc HB0.out.size (.cells #[.int .i64 0, .int .i64 0, .int .i64 0, .int .i64 0, .int .i64 0] 25))
          have HW1 := Lib.hid ((Below.refl w2.heap.size w2).alloc (Nat.le_refl _) (.cells #[.int .i64 0, .int .i64 0, .int .i64 0, .int .i64 0, .int .i64 0] 25))
          generalize w2.alloc (.cells #[.int .i64 0, .int .i64 0, .int .i64 0, .int .i64 0, .int .i64 0] 25) = W at X HB1 HW1 ⊢
          obtain ⟨c0, c1, c2, c3, c4⟩ := (HAy.out.below HW1.out)
          obtain ⟨zc0, zc1, zc2, zc3, zc4⟩ := X.cell5
          obtain ⟨f0, f1, f2, f3, f4⟩ := X.free5
          have hxg : w2.heap.size ≠ gg := by omega
          have hgx : gg ≠ w2.heap.size := by omega
          have HX := Lib.hid X
          clear X
          go_region
          have HX2 := Lib.hid (HX.out.put5 (.int .i64 y0) (.int .i64 y1) (.int .i64 y2) (.int .i64 y3) (.int .i64 y4)).drew
          have HB2 := Lib.hid (below_put5 HB1.out HB0.out.size (.int .i64 y0) (.int .i64 y1) (.int .i64 y2) (.int .i64 y3) (.int .i64 y4)).drew
          have HW2 := Lib.hid (below_put5 HW1.out (Nat.le_refl _) (.int .i64 y0) (.int .i64 y1) (.int .i64 y2) (.int .i64 y3) (.int .i64 y4)).drew
          clear c0 c1 c2 c3 c4 zc0 zc1 zc2 zc3 zc4 f0 f1 f2 f3 f4 HX HB1 HW1 hxg hgx
          generalize (if cb = 1 then some (⟨gg, oo, none⟩ : Addr) else some ⟨gg, oo + 5, none⟩) = r at hr ⊢
          generalize (((((W.setCell ⟨w2.heap.size, 0, none⟩ (.int .i64 y0)).setCell ⟨w2.heap.size, 1, none⟩ (.int .i64 y1)).setCell ⟨w2.heap.size, 2, none⟩ (.int .i64 y2)).setCell ⟨w2.heap.size, 3, none⟩ (.int .i64 y3)).setCell ⟨w2.heap.size, 4, none⟩ (.int .i64 y4)).drew = W2 at HX2 HB2 HW2 ⊢
          have X := HX2.out
          have HB1 := HB2
          have HW1 := HW2
          clear HX2 HB2 HW2
          obtain ⟨zc0, zc1, zc2, zc3, zc4⟩ := X.cell5
          have HROW2 := Lib.hid (own5_below HREL.out.row HW1.out)
          have HSL := HB1.out.size
          go_wp2_with (go_at_call 57; refine (kL_ft _).mono ?_; rintro e w3 ⟨rfl, rfl⟩)
          refine ⟨⟨(x :: A), B, D, _, r, (n + 1), m, ca, (cb - 1), rfl, rfl, ha, (by omega), hn, HLB, Lib.hid (by have := hsz.out; omega), Lib.hid ⟨HREL.out.ra, hr.out, ?_, HREL.out.oa, (fun z hz => HREL.out.ob z (List.mem_cons_of_mem _ hz)), HROW2.out, HB1.out⟩⟩, by simp [slen]; try omega⟩
          have h := HEQ.out; simpa [one, kL] using h
end Go.Proofs.Ytdahaajfkjmflaa.s14

namespace Go.Proofs.Ytdahaajfkjmflaa.s14
set_option linter.unusedVariables false
set_option linter.unusedSimpArgs false
open Go.RowKit
open kit

open s13

open Go.Shelf
theorem grid_one (w : World) {a b : Option Addr} {n m ca cb : Nat} {l k : List V5} (t : TypeId) (hl : Hid (l.length = n)) (hk : Hid (k.length = m)) (ra : Hid (Reads5 w a l)) (rb : Hid (Reads5 w b k)) : Hid (Grid (w.alloc (.cells #[.slice a n ca, .slice b m cb] t)) (some ⟨w.heap.size, 0, none⟩) [l, k]) :=
  Lib.hid (grid2 (Box.new w t _) hl.out hk.out (ra.out.alloc _) (rb.out.alloc _))
theorem two_short {l k : List V5} {n m : Nat} (hl : Hid (l.length = n)) (hk : Hid (k.length = m)) (h1 : n ≤ 60000) (h2 : m ≤ 60000) : Hid (∀ i, i < [l, k].length → ([l, k][i]?.getD []).length ≤ 60000) := Lib.hid (fun i hi => by
  have : i = 0 ∨ i = 1 := by simp at hi; omega
  rcases this with rfl | rfl
  · simpa [hl.out] using h1
  · simpa [hk.out] using h2)
theorem mlen {L : List (List Int)} {n : Nat} (h : Hid (L.length = n)) : Hid ((L.map pad5).length = n) := Lib.hid (by rw [List.length_map]; exact h.out)
set_option maxRecDepth 100000 in
set_option maxHeartbeats 2000000 in
theorem pmeet_bad (t : Int) (a b : Option Addr) (n m ca cb : Nat) (la lb : List V5) (w : World) (hn : Hid (la.length = n)) (hm : Hid (lb.length = m)) (hn6 : n ≤ 60000) (hm6 : m ≤ 60000) (ra : Hid (Reads5 w a la)) (rb : Hid (Reads5 w b lb)) (r : Int) (HR : Hid (chkA t [la, lb] = r)) (hr : (r != 0) = true) :
    Calls Try.prog 20 #[.int .i64 t, .slice a n ca, .slice b m cb] w fun e w' => e = noS r ∧ Below w.heap.size w w' := by
  have HG := grid_one w (ca := ca) (cb := cb) 22 hn hm ra rb
  have HM := two_short hn hm hn6 hm6
  go_enter Try.func20, Try.ntmps20
  go_wp2_with (go_at_call 51; refine (checkall_any t _ 2 2 [la, lb] _ (Lib.hid rfl) (by omega) HM HG r HR).mono ?_; rintro e w1 ⟨rfl, hB⟩; have B1 := Lib.hid (made1 hB).2; clear hB)
  go_ret2
  exact ⟨rfl, B1.out⟩
set_option maxRecDepth 100000 in
set_option maxHeartbeats 2000000 in
theorem pmeet_ok (t : Int) (a b : Option Addr) (n m ca cb : Nat) (A B : List (List Int)) (w : World) (hn : Hid (A.length = n)) (hm : Hid (B.length = m)) (hn6 : n ≤ 20000) (hm6 : m ≤ 20000) (hca : n ≤ ca) (hcb : m ≤ cb) (hA : Hid (∀ x ∈ A, okL 8 x)) (hB : Hid (∀ x ∈ B, okL 8 x)) (ra : Hid (Reads5 w a (A.map pad5))) (rb : Hid (Reads5 w b (B.map pad5))) (HR : Hid (chkA t [A.map pad5, B.map pad5] = 0)) (R : List (List Int)) (N : Nat) (HS : Hid (mrg kM A B = R)) (HN : Hid (R.length = N)) :
    Calls Try.prog 20 #[.int .i64 t, .slice a n ca, .slice b m cb] w fun e w' => ∃ p cp, e = .returned (.tuple #[.slice p N cp, .int .i64 0]) ∧ Reads5 w' p (R.map pad5) ∧ Below w.heap.size w w' ∧ N ≤ cp := by
  have HG := grid_one w (ca := ca) (cb := cb) 22 (mlen hn) (mlen hm) ra rb
  have HM := two_short (mlen hn) (mlen hm) (by omega) (by omega)
  go_enter Try.func20, Try.ntmps20
  go_wp2_with (first
    | (go_at_call 51; refine (checkall_any t _ 2 2 [A.map pad5, B.map pad5] _ (Lib.hid rfl) (by omega) HM HG 0 HR).mono ?_; rintro e w1 ⟨rfl, hB1⟩; have B1 := Lib.hid (made1 hB1).2; clear hB1)
    | (go_at_call 54; refine (mergeM a b n m ca cb A B _ hn hm hca hcb (by omega) hA hB (Lib.hid (ra.out.below B1.out)) (Lib.hid (rb.out.below B1.out)) R N HS HN).mono ?_; rintro e w2 ⟨p, cp, rfl, hR2, hB2, hc2⟩; have R2 := Lib.hid hR2; have B2 := Lib.hid (below_then B1.out hB2); clear hR2 hB2))
  go_ret2
  exact ⟨p, cp, rfl, R2.out, B2.out, hc2⟩
set_option maxRecDepth 100000 in
set_option maxHeartbeats 2000000 in
theorem pless_bad (t : Int) (a b : Option Addr) (n m ca cb : Nat) (la lb : List V5) (w : World) (hn : Hid (la.length = n)) (hm : Hid (lb.length = m)) (hn6 : n ≤ 60000) (hm6 : m ≤ 60000) (ra : Hid (Reads5 w a la)) (rb : Hid (Reads5 w b lb)) (r : Int) (HR : Hid (chkA t [la, lb] = r)) (hr : (r != 0) = true) :
    Calls Try.prog 22 #[.int .i64 t, .slice a n ca, .slice b m cb] w fun e w' => e = noS r ∧ Below w.heap.size w w' := by
  have HG := grid_one w (ca := ca) (cb := cb) 22 hn hm ra rb
  have HM := two_short hn hm hn6 hm6
  go_enter Try.func22, Try.ntmps22
  go_wp2_with (go_at_call 51; refine (checkall_any t _ 2 2 [la, lb] _ (Lib.hid rfl) (by omega) HM HG r HR).mono ?_; rintro e w1 ⟨rfl, hB⟩; have B1 := Lib.hid (made1 hB).2; clear hB)
  go_ret2
  exact ⟨rfl, B1.out⟩
set_option maxRecDepth 100000 in
set_option maxHeartbeats 2000000 in
theorem pless_ok (t : Int) (a b : Option Addr) (n m ca cb : Nat) (A B : List (List Int)) (w : World) (hn : Hid (A.length = n)) (hm : Hid (B.length = m)) (hn6 : n ≤ 20000) (hm6 : m ≤ 20000) (hca : n ≤ ca) (hcb : m ≤ cb) (hA : Hid (∀ x ∈ A, okL 8 x)) (hB : Hid (∀ x ∈ B, okL 8 x)) (ra : Hid (Reads5 w a (A.map pad5))) (rb : Hid (Reads5 w b (B.map pad5))) (HR : Hid (chkA t [A.map pad5, B.map pad5] = 0)) (R : List (List Int)) (N : Nat) (HS : Hid (mrg kL A B = R)) (HN : Hid (R.length = N)) :
    Calls Try.prog 22 #[.int .i64 t, .slice a n ca, .slice b m cb] w fun e w' => ∃ p cp, e = .returned (.tuple #[.slice p N cp, .int .i64 0]) ∧ Reads5 w' p (R.map pad5) ∧ Below w.heap.size w w' ∧ N ≤ cp := by
  have HG := grid_one w (ca := ca) (cb := cb) 22 (mlen hn) (mlen hm) ra rb
  have HM := two_short (mlen hn) (mlen hm) (by omega) (by omega)
  go_enter Try.func22, Try.ntmps22
  go_wp2_with (first
    | (go_at_call 51; refine (checkall_any t _ 2 2 [A.map pad5, B.map pad5] _ (Lib.hid rfl) (by omega) HM HG 0 HR).mono ?_; rintro e w1 ⟨rfl, hB1⟩; have B1 := Lib.hid (made1 hB1).2; clear hB1)
    | (go_at_call 54; refine (mergeL a b n m ca cb A B _ hn hm hca hcb (by omega) hA hB (Lib.hid (ra.out.below B1.out)) (Lib.hid (rb.out.below B1.out)) R N HS HN).mono ?_; rintro e w2 ⟨p, cp, rfl, hR2, hB2, hc2⟩; have R2 := Lib.hid hR2; have B2 := Lib.hid (below_then B1.out hB2); clear hR2 hB2))
  go_ret2
  exact ⟨p, cp, rfl, R2.out, B2.out, hc2⟩
set_option maxRecDepth 100000 in
set_option maxHeartbeats 2000000 in
theorem pcut_bad (t k : Int) (a : Option Addr) (n c : Nat) (l : List V5) (w : World) (hl : Hid (l.length = n)) (hn : n ≤ 60000) (hr : Hid (Reads5 w a l)) (r : Int) (HR : Hid (chkS t l = r)) (h0 : (r != 0) = true) :
    Calls Try.prog 32 #[.int .i64 t, .int .i64 k, .slice a n c] w fun e w' => e = noS r ∧ Below w.heap.size w w' := by
  go_enter Try.func32, Try.ntmps32
  go_wp2_with (go_at_call 11; refine (pset_any t a n c l _ hl hn hr r HR).mono ?_; rintro e w1 ⟨rfl, hB⟩; have B1 := Lib.hid hB; clear hB)
  go_ret2
  exact ⟨rfl, B1.out⟩
set_option maxRecDepth 100000 in
set_option maxHeartbeats 2000000 in
theorem pcut_k (t k : Int) (a : Option Addr) (n c : Nat) (l : List V5) (w : World) (hl : Hid (l.length = n)) (hn : n ≤ 60000) (hr : Hid (Reads5 w a l)) (HR : Hid (chkS t l = 0)) (hk : k < 1 ∨ 4 < k) :
    Calls Try.prog 32 #[.int .i64 t, .int .i64 k, .slice a n c] w fun e w' => e = noS 2 ∧ Below w.heap.size w w' := by
  go_enter Try.func32, Try.ntmps32
  go_wp2_with (first
    | (go_at_call 11; refine (pset_any t a n c l _ hl hn hr 0 HR).mono ?_; rintro e w1 ⟨rfl, hB⟩; have B1 := Lib.hid hB; clear hB)
    | (go_at_call 59; refine (isahead_no k _ hk).mono ?_; rintro e w2 ⟨rfl, rfl⟩))
  go_ret2
  exact ⟨rfl, B1.out⟩
set_option maxRecDepth 100000 in
set_option maxHeartbeats 2000000 in
theorem pcut_ok (t : Int) (K : Nat) (a : Option Addr) (n c : Nat) (L : List (List Int)) (w : World) (hK1 : 1 ≤ K) (hK4 : K ≤ 4) (hl : Hid (L.length = n)) (hn : n ≤ 60000) (hL : Hid (∀ x ∈ L, okL 8 x)) (hr : Hid (Reads5 w a (L.map pad5))) (HR : Hid (chkS t (L.map pad5) = 0)) (R : List (List Int)) (N : Nat) (HS : Hid (cutS K L = R)) (HN : Hid (R.length = N)) :
    Calls Try.prog 32 #[.int .i64 t, .int .i64 K, .slice a n c] w fun e w' => ∃ p cp, e = .returned (.tuple #[.slice p N cp, .int .i64 0]) ∧ Reads5 w' p (R.map pad5) ∧ Below w.heap.size w w' ∧ N ≤ cp := by
  go_enter Try.func32, Try.ntmps32
  go_wp2_with (first
    | (go_at_call 11; refine (pset_any t a n c (L.map pad5) _ (mlen hl) hn hr 0 HR).mono ?_; rintro e w1 ⟨rfl, hB⟩; have B1 := Lib.hid hB; clear hB)
    | (go_at_call 59; refine (isahead_yes K _ (by omega) (by omega)).mono ?_; rintro e w2 ⟨rfl, rfl⟩)
    | (go_at_call 60; refine (pcutset_any a n c K L _ hl hn hK4 hL (Lib.hid (hr.out.below B1.out)) R N HS HN).mono ?_; rintro e w2 ⟨p, cp, rfl, hR2, hB2, hc2, _⟩; have R2 := Lib.hid hR2; have B2 := Lib.hid (below_then B1.out hB2); clear hR2 hB2))
  go_ret2
  exact ⟨p, cp, rfl, R2.out, B2.out, hc2⟩
set_option maxRecDepth 100000 in
set_option maxHeartbeats 2000000 in
theorem pbound_any (a : Option Addr) (n c : Nat) (w : World) (hn : n ≤ 60000) : Calls Try.prog 28 #[.slice a n c] w fun e w' => e = .returned (.int .i64 (if 600 < n then 19 else 0)) ∧ Below w.heap.size w w' := by
  by_cases h : 600 < n
  · rw [if_pos h]
    have hq := issize_no n 600 w h hn
    go_enter Try.func28, Try.ntmps28
    go_wp2_with (go_at_call 40; refine hq.mono ?_; rintro e w1 ⟨rfl, rfl⟩)
    go_ret
    exact ⟨rfl, Below.refl _ _⟩
  · rw [if_neg h]
    have hq := issize_yes n 600 w (by omega) (by omega)
    go_enter Try.func28, Try.ntmps28
    go_wp2_with (go_at_call 40; refine hq.mono ?_; rintro e w1 ⟨rfl, rfl⟩)
    go_ret
    exact ⟨rfl, Below.refl _ _⟩
/-- Least -/
def leastP (t : Int) (l : List V5) : V5 × Int := if chkS t l ≠ 0 then (no5, chkS t l) else match l with | [] => (no5, 20) | x :: _ => (x, 0)
end Go.Proofs.Ytdahaajfkjmflaa.s14
