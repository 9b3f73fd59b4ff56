/-
  Layer 14: merging two lists, meet. Layer 14: merging two lists, less.
-/
import Derived.Test.YtdahaajfkjmflaaG07
import Derived.BigRegion
namespace Go.Proofs.Ytdahaajfkjmflaa.s14
set_option linter.unusedVariables false
set_option linter.unusedSimpArgs false
open Go.RowKit
open kit

open s13

theorem kM_tt (w : World) : Calls Try.prog 55 #[.bool true, .bool true] w fun e w' => e = .returned (.bool true) ∧ w = w' := by
  go_enter Try.func55, Try.ntmps55
  go_wp2
  go_ret
  exact ⟨rfl, rfl⟩
theorem kM_tf (w : World) : Calls Try.prog 55 #[.bool true, .bool false] w fun e w' => e = .returned (.bool false) ∧ w = w' := by
  go_enter Try.func55, Try.ntmps55
  go_wp2
  go_ret
  exact ⟨rfl, rfl⟩
theorem kM_ft (w : World) : Calls Try.prog 55 #[.bool false, .bool true] w fun e w' => e = .returned (.bool false) ∧ w = w' := by
  go_enter Try.func55, Try.ntmps55
  go_wp2
  go_ret
  exact ⟨rfl, rfl⟩
set_option maxRecDepth 100000 in
set_option maxHeartbeats 20000000 in
theorem mergeM (a b : Option Addr) (n m ca cb : Nat) (A B : List (List Int)) (w : World) (hn : Hid (A.length = n)) (hm : Hid (B.length = m)) (ha : n ≤ ca) (hb : m ≤ cb) (hsz : n + m ≤ 100000) (hA : Hid (∀ x ∈ A, okL 8 x)) (hB : Hid (∀ x ∈ B, okL 8 x)) (ra : Hid (Reads5 w a (A.map pad5))) (rb : Hid (Reads5 w b (B.map pad5))) (R : List (List Int)) (N : Nat) (HR : Hid (mrg kM A B = R)) (HN : Hid (R.length = N)) :
    Calls Try.prog 54 #[.slice a n ca, .slice b m cb, .func (.func 42) #[] #[], .func (.func 55) #[] #[]] w fun e w' => ∃ p cp, e = .returned (.slice p N cp) ∧ Reads5 w' p (R.map pad5) ∧ Below w.heap.size w w' ∧ N ≤ cp := by
  go_enter Try.func54, Try.ntmps54
  go_wp2
  go_loopw [0, 1, 9] (fun va vb vm wr => ∃ (A B D : List (List Int)) (a b : Option Addr) (n m ca cb : Nat), va = .slice a n ca ∧ vb = .slice b m cb ∧ n ≤ ca ∧ m ≤ cb ∧ Hid (A.length = n) ∧ Hid (B.length = m) ∧ Hid (D.length + n + m ≤ 100000) ∧ Hid (RelM kM w R A B D a b vm wr)) (fun va vb _ _ => slen va + slen vb)
  case atStart => exact ⟨A, B, [], a, b, n, m, ca, cb, rfl, rfl, ha, hb, hn, hm, Lib.hid (by simpa using hsz), Lib.hid ⟨ra.out, rb.out, HR.out, hA.out, hB.out, World.ownsRow_nil _ _ _ _, Below.refl _ _⟩⟩
  case round =>
    clear hn hm ha hb hsz hA hB ra rb
    obtain ⟨A, B, D, a, b, n, m, ca, cb, rfl, rfl, ha, hb, hn, hm, hsz, HREL⟩ := hrel
    have HB0 := Lib.hid HREL.out.hb
    have hws := HREL.out.hb.size
    rcases A with _ | ⟨x, A⟩
    · obtain rfl : n = 0 := hn.out.symm
      rcases B with _ | ⟨y, B⟩
      · obtain rfl : m = 0 := hm.out.symm
        have hR := HREL.out.eq
        rw [mrg_nil, List.append_nil] at hR
        subst hR
        have hrow := HREL.out.row
        rw [HN.out] at hrow
        obtain ⟨p, cp, rfl, hcp⟩ := row5_shape hrow
        have HROW := Lib.hid hrow
        clear hrow
        go_wp2
        go_ret
        exact ⟨p, cp, rfl, reads5_of_row (by rw [List.length_map]; exact HN.out) HROW.out, HREL.out.hb, hcp⟩
      · obtain ⟨m, rfl⟩ : ∃ m', m = m' + 1 := ⟨B.length, hm.out.symm⟩
        have HLB : Hid (B.length = m) := Lib.hid (by have := hm.out; simpa using this)
        have hR := HREL.out.eq
        rw [mrg_right] at hR
        have HEQ := Lib.hid hR
        clear hR hm
        obtain ⟨g, o, rfl, hg, haty, htly⟩ := reads_head HREL.out.rb
        have HTy := Lib.hid htly
        have hoy := Lib.hid (HREL.out.ob y (List.mem_cons_self ..))
        obtain ⟨⟨y0, y1, y2, y3, y4⟩, hy⟩ : ∃ v, pad5 y = v := ⟨_, rfl⟩
        rw [hy] at haty
        have Hy := Lib.hid hy
        have HAy := Lib.hid (haty.below HREL.out.hb)
        have hlg : g < wr.heap.size := Nat.lt_of_lt_of_le hg HREL.out.hb.size
        clear htly haty hy
        have h1 : (0 : Int) < ((m + 1 : Nat) : Int) := by omega
        have h2 : decide ((0 : Int) < ((m + 1 : Nat) : Int)) = true := decide_eq_true h1
        have hq : Hid (Reads5 w (if cb = 1 then some ⟨g, o, none⟩ else some ⟨g, o + 5, none⟩) (B.map pad5)) := Lib.hid (tail_if (by have := HLB.out; omega) HTy.out)
        go_wp2_with (first
          | (go_at_call 77; refine (heads_left _ _ _ _ _ _).mono ?_; rintro e w2 ⟨rfl, rfl⟩))
        have X := Box.new wr 25 #[.int .i64 0, .int .i64 0, .int .i64 0, .int .i64 0, .int .i64 0]
        have HB1 := Lib.hid (HB0.out.alloc HB0.out.size (.cells #[.int .i64 0, .int .i64 0, .int .i64 0, .int .i64 0, .int .i64 0] 25))
        have HW1 := Lib.hid ((Below.refl wr.heap.size wr).alloc (Nat.le_refl _) (.cells #[.int .i64 0, .int .i64 0, .int .i64 0, .int .i64 0, .int .i64 0] 25))
        generalize wr.alloc (.cells #[.int .i64 0, .int .i64 0, .int .i64 0, .int .i64 0, .int .i64 0] 25) = W at X HB1 HW1 ⊢
        obtain ⟨c0, c1, c2, c3, c4⟩ := (HAy.out.below HW1.out)
        obtain ⟨zc0, zc1, zc2, zc3, zc4⟩ := X.cell5
        obtain ⟨f0, f1, f2, f3, f4⟩ := X.free5
        have hxg : wr.heap.size ≠ g := by omega
        have hgx : g ≠ wr.heap.size := by omega
        have HX := Lib.hid X
        clear X
        go_region
        have HX2 := Lib.hid (HX.out.put5 (.int .i64 y0) (.int .i64 y1) (.int .i64 y2) (.int .i64 y3) (.int .i64 y4)).drew
        have HB2 := Lib.hid (below_put5 HB1.out HB0.out.size (.int .i64 y0) (.int .i64 y1) (.int .i64 y2) (.int .i64 y3) (.int .i64 y4)).drew
        have HW2 := Lib.hid (below_put5 HW1.out (Nat.le_refl _) (.int .i64 y0) (.int .i64 y1) (.int .i64 y2) (.int .i64 y3) (.int .i64 y4)).drew
        clear c0 c1 c2 c3 c4 zc0 zc1 zc2 zc3 zc4 f0 f1 f2 f3 f4 HX HB1 HW1 hxg hgx
        generalize (if cb = 1 then some (⟨g, o, none⟩ : Addr) else some ⟨g, o + 5, none⟩) = q at hq ⊢
        generalize (((((W.setCell ⟨wr.heap.size, 0, none⟩ (.int .i64 y0)).setCell ⟨wr.heap.size, 1, none⟩ (.int .i64 y1)).setCell ⟨wr.heap.size, 2, none⟩ (.int .i64 y2)).setCell ⟨wr.heap.size, 3, none⟩ (.int .i64 y3)).setCell ⟨wr.heap.size, 4, none⟩ (.int .i64 y4)).drew = W2 at HX2 HB2 HW2 ⊢
        have X := HX2.out
        have HB1 := HB2
        have HW1 := HW2
        clear HX2 HB2 HW2
        obtain ⟨zc0, zc1, zc2, zc3, zc4⟩ := X.cell5
        have HROW2 := Lib.hid (own5_below HREL.out.row HW1.out)
        have HSL := HB1.out.size
        go_wp2_with (go_at_call 55; refine (kM_ft _).mono ?_; rintro e w3 ⟨rfl, rfl⟩)
        refine ⟨⟨[], B, D, a, q, 0, m, ca, (cb - 1), rfl, rfl, ha, (by omega), hn, HLB, Lib.hid (by have := hsz.out; omega), Lib.hid ⟨Reads5.nil _ _, hq.out, ?_, (by simp), (fun z hz => HREL.out.ob z (List.mem_cons_of_mem _ hz)), HROW2.out, HB1.out⟩⟩, by simp [slen]; try omega⟩
        have h := HEQ.out; simpa [one, kM] using h
    · obtain ⟨n, rfl⟩ : ∃ n', n = n' + 1 := ⟨A.length, hn.out.symm⟩
      have HLA : Hid (A.length = n) := Lib.hid (by have := hn.out; simpa using this)
      have h1 : (0 : Int) < ((n + 1 : Nat) : Int) := by omega
      have h2 : decide ((0 : Int) < ((n + 1 : Nat) : Int)) = true := decide_eq_true h1
      obtain ⟨g, o, rfl, hg, hatx, htlx⟩ := reads_head HREL.out.ra
      have HTx := Lib.hid htlx
      have hox := Lib.hid (HREL.out.oa x (List.mem_cons_self ..))
      obtain ⟨⟨x0, x1, x2, x3, x4⟩, hx⟩ : ∃ v, pad5 x = v := ⟨_, rfl⟩
      rw [hx] at hatx
      have Hx := Lib.hid hx
      have HAx := Lib.hid (hatx.below HREL.out.hb)
      have hlg : g < wr.heap.size := Nat.lt_of_lt_of_le hg HREL.out.hb.size
      clear htlx hatx hx
      have hq : Hid (Reads5 w (if ca = 1 then some ⟨g, o, none⟩ else some ⟨g, o + 5, none⟩) (A.map pad5)) := Lib.hid (tail_if (by have := HLA.out; omega) HTx.out)
      rcases B with _ | ⟨y, B⟩
      · obtain rfl : m = 0 := hm.out.symm
        have hR := HREL.out.eq
        rw [mrg_left] at hR
        have HEQ := Lib.hid hR
        clear hR hn
        go_wp2_with (first
          | (go_at_call 77; refine (heads_right _ _ _ _ _ _ (by omega)).mono ?_; rintro e w2 ⟨rfl, rfl⟩))
        have X := Box.new wr 25 #[.int .i64 0, .int .i64 0, .int .i64 0, .int .i64 0, .int .i64 0]
        have HB1 := Lib.hid (HB0.out.alloc HB0.out.size (.cells #[.int .i64 0, .int .i64 0, .int .i64 0, .int .i64 0, .int .i64 0] 25))
        have HW1 := Lib.hid ((Below.refl wr.heap.size wr).alloc (Nat.le_refl _) (.cells #[.int .i64 0, .int .i64 0, .int .i64 0, .int .i64 0, .int .i64 0] 25))
        generalize wr.alloc (.cells #[.int .i64 0, .int .i64 0, .int .i64 0, .int .i64 0, .int .i64 0] 25) = W at X HB1 HW1 ⊢
        obtain ⟨c0, c1, c2, c3, c4⟩ := (HAx.out.below HW1.out)
        obtain ⟨zc0, zc1, zc2, zc3, zc4⟩ := X.cell5
        obtain ⟨f0, f1, f2, f3, f4⟩ := X.free5
        have hxg : wr.heap.size ≠ g := by omega
        have hgx : g ≠ wr.heap.size := by omega
        have HX := Lib.hid X
        clear X
        go_region
        have HX2 := Lib.hid (HX.out.put5 (.int .i64 x0) (.int .i64 x1) (.int .i64 x2) (.int .i64 x3) (.int .i64 x4)).drew
        have HB2 := Lib.hid (below_put5 HB1.out HB0.out.size (.int .i64 x0) (.int .i64 x1) (.int .i64 x2) (.int .i64 x3) (.int .i64 x4)).drew
        have HW2 := Lib.hid (below_put5 HW1.out (Nat.le_refl _) (.int .i64 x0) (.int .i64 x1) (.int .i64 x2) (.int .i64 x3) (.int .i64 x4)).drew
        clear c0 c1 c2 c3 c4 zc0 zc1 zc2 zc3 zc4 f0 f1 f2 f3 f4 HX HB1 HW1 hxg hgx
        generalize (if ca = 1 then some (⟨g, o, none⟩ : Addr) else some ⟨g, o + 5, none⟩) = q at hq ⊢
        generalize (((((W.setCell ⟨wr.heap.size, 0, none⟩ (.int .i64 x0)).setCell ⟨wr.heap.size, 1, none⟩ (.int .i64 x1)).setCell ⟨wr.heap.size, 2, none⟩ (.int .i64 x2)).setCell ⟨wr.heap.size, 3, none⟩ (.int .i64 x3)).setCell ⟨wr.heap.size, 4, none⟩ (.int .i64 x4)).drew = W2 at HX2 HB2 HW2 ⊢
        have X := HX2.out
        have HB1 := HB2
        have HW1 := HW2
        clear HX2 HB2 HW2
        obtain ⟨zc0, zc1, zc2, zc3, zc4⟩ := X.cell5
        have HROW2 := Lib.hid (own5_below HREL.out.row HW1.out)
        have HSL := HB1.out.size
        go_wp2_with (go_at_call 55; refine (kM_tf _).mono ?_; rintro e w3 ⟨rfl, rfl⟩)
        refine ⟨⟨A, [], D, q, b, n, 0, (ca - 1), cb, rfl, rfl, (by omega), hb, HLA, hm, Lib.hid (by have := hsz.out; omega), Lib.hid ⟨hq.out, Reads5.nil _ _, ?_, (fun z hz => HREL.out.oa z (List.mem_cons_of_mem _ hz)), (by simp), HROW2.out, HB1.out⟩⟩, by simp [slen]; try omega⟩
        have h := HEQ.out; simpa [one, kM] using h
      · obtain ⟨m, rfl⟩ : ∃ m', m = m' + 1 := ⟨B.length, hm.out.symm⟩
        have HLB : Hid (B.length = m) := Lib.hid (by have := hm.out; simpa using this)
        obtain ⟨gg, oo, rfl, hgg, haty, htly⟩ := reads_head HREL.out.rb
        have HTy := Lib.hid htly
        have hoy := Lib.hid (HREL.out.ob y (List.mem_cons_self ..))
        obtain ⟨⟨y0, y1, y2, y3, y4⟩, hy⟩ : ∃ v, pad5 y = v := ⟨_, rfl⟩
        rw [hy] at haty
        have Hy := Lib.hid hy
        have HAy := Lib.hid (haty.below HREL.out.hb)
        have hlgg : gg < wr.heap.size := Nat.lt_of_lt_of_le hgg HREL.out.hb.size
        clear htly haty hy
        have hr : Hid (Reads5 w (if cb = 1 then some ⟨gg, oo, none⟩ else some ⟨gg, oo + 5, none⟩) (B.map pad5)) := Lib.hid (tail_if (by have := HLB.out; omega) HTy.out)
        have h3 : (0 : Int) < ((m + 1 : Nat) : Int) := by omega
        obtain ⟨v, hv⟩ : ∃ v, cmpL x y = v := ⟨_, rfl⟩
        have HCV := Lib.hid ((cmpE_ok hox.out hoy.out Hx.out Hy.out).trans (by rw [hv]))
        have hrg := cmpL_range x y
        have hR := HREL.out.eq
        rcases hrg with h | h | h
        · have hv2 : cmpL x y = (-1) := h
          rw [mrg_lt kM x y A B (by omega)] at hR
          have HEQ := Lib.hid hR
          obtain rfl : v = (-1) := hv.symm.trans hv2
          clear hR hv hv2 h
          go_wp2_with (first
            | (go_at_call 77; refine (heads_both _ _ _ _ _ _ _ (by omega) (by omega) g gg o oo x0 x1 x2 x3 x4 y0 y1 y2 y3 y4 (-1) rfl rfl HAx HAy HCV).mono ?_; rintro e w2 ⟨rfl, hB⟩; have B2 := Lib.hid hB; clear hB))
          have HREL2 := Lib.hid (HREL.out.on B2.out)
          have HAx2 := Lib.hid (HAx.out.below B2.out)
          have HAy2 := Lib.hid (HAy.out.below B2.out)
          have hlg2 := Nat.lt_of_lt_of_le hlg B2.out.size
          have hlgg2 := Nat.lt_of_lt_of_le hlgg B2.out.size
          clear HREL HAx HAy HB0 hws hlg hlgg
          have HREL := HREL2
          have HAx := HAx2
          have HAy := HAy2
          have hlg := hlg2
          have hlgg := hlgg2
          clear HREL2 HAx2 HAy2 hlg2 hlgg2 B2
          have HB0 := Lib.hid HREL.out.hb
          have hws := HREL.out.hb.size
          have X := Box.new w2 25 #[.int .i64 0, .int .i64 0, .int .i64 0, .int .i64 0, .int .i64 0]
          have HB1 := Lib.hid (HB0.out.alloc HB0.out.size (.cells #[.int .i64 0, .int .i64 0, .int .i64 0, .int .i64 0, .int .i64 0] 25))
          have HW1 := Lib.hid ((Below.refl w2.heap.size w2).alloc (Nat.le_refl _) (.cells #[.int .i64 0, .int .i64 0, .int .i64 0, .int .i64 0, .int .i64 0] 25))
          generalize w2.alloc (.cells #[.int .i64 0, .int .i64 0, .int .i64 0, .int .i64 0, .int .i64 0] 25) = W at X HB1 HW1 ⊢
          obtain ⟨c0, c1, c2, c3, c4⟩ := (HAx.out.below HW1.out)
          obtain ⟨zc0, zc1, zc2, zc3, zc4⟩ := X.cell5
          obtain ⟨f0, f1, f2, f3, f4⟩ := X.free5
          have hxg : w2.heap.size ≠ g := by omega
          have hgx : g ≠ w2.heap.size := by omega
          have HX := Lib.hid X
          clear X
          go_region
          have HX2 := Lib.hid (HX.out.put5 (.int .i64 x0) (.int .i64 x1) (.int .i64 x2) (.int .i64 x3) (.int .i64 x4)).drew
          have HB2 := Lib.hid (below_put5 HB1.out HB0.out.size (.int .i64 x0) (.int .i64 x1) (.int .i64 x2) (.int .i64 x3) (.int .i64 x4)).drew
          have HW2 := Lib.hid (below_put5 HW1.out (Nat.le_refl _) (.int .i64 x0) (.int .i64 x1) (.int .i64 x2) (.int .i64 x3) (.int .i64 x4)).drew
          clear c0 c1 c2 c3 c4 zc0 zc1 zc2 zc3 zc4 f0 f1 f2 f3 f4 HX HB1 HW1 hxg hgx
          generalize (if ca = 1 then some (⟨g, o, none⟩ : Addr) else some ⟨g, o + 5, none⟩) = q at hq ⊢
          generalize (((((W.setCell ⟨w2.heap.size, 0, none⟩ (.int .i64 x0)).setCell ⟨w2.heap.size, 1, none⟩ (.int .i64 x1)).setCell ⟨w2.heap.size, 2, none⟩ (.int .i64 x2)).setCell ⟨w2.heap.size, 3, none⟩ (.int .i64 x3)).setCell ⟨w2.heap.size, 4, none⟩ (.int .i64 x4)).drew = W2 at HX2 HB2 HW2 ⊢
          have X := HX2.out
          have HB1 := HB2
          have HW1 := HW2
          clear HX2 HB2 HW2
          obtain ⟨zc0, zc1, zc2, zc3, zc4⟩ := X.cell5
          have HROW2 := Lib.hid (own5_below HREL.out.row HW1.out)
          have HSL := HB1.out.size
          go_wp2_with (go_at_call 55; refine (kM_tf _).mono ?_; rintro e w3 ⟨rfl, rfl⟩)
          refine ⟨⟨A, (y :: B), D, q, _, n, (m + 1), (ca - 1), cb, rfl, rfl, (by omega), hb, HLA, hm, Lib.hid (by have := hsz.out; omega), Lib.hid ⟨hq.out, HREL.out.rb, ?_, (fun z hz => HREL.out.oa z (List.mem_cons_of_mem _ hz)), HREL.out.ob, HROW2.out, HB1.out⟩⟩, by simp [slen]; try omega⟩
          have h := HEQ.out; simpa [one, kM] using h
        · have hv2 : cmpL x y = 0 := h
          rw [mrg_eq kM x y A B (by omega)] at hR
          have HEQ := Lib.hid hR
          obtain rfl : v = 0 := hv.symm.trans hv2
          clear hR hv hv2 h
          go_wp2_with (first
            | (go_at_call 77; refine (heads_both _ _ _ _ _ _ _ (by omega) (by omega) g gg o oo x0 x1 x2 x3 x4 y0 y1 y2 y3 y4 0 rfl rfl HAx HAy HCV).mono ?_; rintro e w2 ⟨rfl, hB⟩; have B2 := Lib.hid hB; clear hB))
          have HREL2 := Lib.hid (HREL.out.on B2.out)
          have HAx2 := Lib.hid (HAx.out.below B2.out)
          have HAy2 := Lib.hid (HAy.out.below B2.out)
          have hlg2 := Nat.lt_of_lt_of_le hlg B2.out.size
          have hlgg2 := Nat.lt_of_lt_of_le hlgg B2.out.size
          clear HREL HAx HAy HB0 hws hlg hlgg
          have HREL := HREL2
          have HAx := HAx2
          have HAy := HAy2
          have hlg := hlg2
          have hlgg := hlgg2
          clear HREL2 HAx2 HAy2 hlg2 hlgg2 B2
          have HB0 := Lib.hid HREL.out.hb
          have hws := HREL.out.hb.size
          have X := Box.new w2 25 #[.int .i64 0, .int .i64 0, .int .i64 0, .int .i64 0, .int .i64 0]
          have HB1 := Lib.hid (HB0.out.alloc HB0.out.size (.cells #[.int .i64 0, .int .i64 0, .int .i64 0, .int .i64 0, .int .i64 0] 25))
          have HW1 := Lib.hid ((Below.refl w2.heap.size w2).alloc (Nat.le_refl _) (.cells #[.int .i64 0, .int .i64 0, .int .i64 0, .int .i64 0, .int .i64 0] 25))
          generalize w2.alloc (.cells #[.int .i64 0, .int .i64 0, .int .i64 0, .int .i64 0, .int .i64 0] 25) = W at X HB1 HW1 ⊢
          obtain ⟨c0, c1, c2, c3, c4⟩ := (HAx.out.below HW1.out)
          obtain ⟨zc0, zc1, zc2, zc3, zc4⟩ := X.cell5
          obtain ⟨f0, f1, f2, f3, f4⟩ := X.free5
          have hxg : w2.heap.size ≠ g := by omega
          have hgx : g ≠ w2.heap.size := by omega
          have HX := Lib.hid X
          clear X
          go_region
          have HX2 := Lib.hid (HX.out.put5 (.int .i64 x0) (.int .i64 x1) (.int .i64 x2) (.int .i64 x3) (.int .i64 x4)).drew
          have HB2 := Lib.hid (below_put5 HB1.out HB0.out.size (.int .i64 x0) (.int .i64 x1) (.int .i64 x2) (.int .i64 x3) (.int .i64 x4)).drew
          have HW2 := Lib.hid (below_put5 HW1.out (Nat.le_refl _) (.int .i64 x0) (.int .i64 x1) (.int .i64 x2) (.int .i64 x3) (.int .i64 x4)).drew
          clear c0 c1 c2 c3 c4 zc0 zc1 zc2 zc3 zc4 f0 f1 f2 f3 f4 HX HB1 HW1 hxg hgx
          generalize (if ca = 1 then some (⟨g, o, none⟩ : Addr) else some ⟨g, o + 5, none⟩) = q at hq ⊢
          generalize (((((W.setCell ⟨w2.heap.size, 0, none⟩ (.int .i64 x0)).setCell ⟨w2.heap.size, 1, none⟩ (.int .i64 x1)).setCell ⟨w2.heap.size, 2, none⟩ (.int .i64 x2)).setCell ⟨w2.heap.size, 3, none⟩ (.int .i64 x3)).setCell ⟨w2.heap.size, 4, none⟩ (.int .i64 x4)).drew = W2 at HX2 HB2 HW2 ⊢
          have X := HX2.out
          have HB1 := HB2
          have HW1 := HW2
          clear HX2 HB2 HW2
          go_wp2
          obtain ⟨c0, c1, c2, c3, c4⟩ := (HAy.out.below HW1.out)
          obtain ⟨zc0, zc1, zc2, zc3, zc4⟩ := X.cell5
          obtain ⟨f0, f1, f2, f3, f4⟩ := X.free5
          have hxg : w2.heap.size ≠ gg := by omega
          have hgx : gg ≠ w2.heap.size := by omega
          have HX := Lib.hid X
          clear X
          go_region
          have HX2 := Lib.hid (HX.out.put5 (.int .i64 y0) (.int .i64 y1) (.int .i64 y2) (.int .i64 y3) (.int .i64 y4)).drew
          have HB2 := Lib.hid (below_put5 HB1.out HB0.out.size (.int .i64 y0) (.int .i64 y1) (.int .i64 y2) (.int .i64 y3) (.int .i64 y4)).drew
          have HW2 := Lib.hid (below_put5 HW1.out (Nat.le_refl _) (.int .i64 y0) (.int .i64 y1) (.int .i64 y2) (.int .i64 y3) (.int .i64 y4)).drew
          clear c0 c1 c2 c3 c4 zc0 zc1 zc2 zc3 zc4 f0 f1 f2 f3 f4 HX HB1 HW1 hxg hgx
          generalize (if cb = 1 then some (⟨gg, oo, none⟩ : Addr) else some ⟨gg, oo + 5, none⟩) = r at hr ⊢
          generalize (((((W2.setCell ⟨w2.heap.size, 0, none⟩ (.int .i64 y0)).setCell ⟨w2.heap.size, 1, none⟩ (.int .i64 y1)).setCell ⟨w2.heap.size, 2, none⟩ (.int .i64 y2)).setCell ⟨w2.heap.size, 3, none⟩ (.int .i64 y3)).setCell ⟨w2.heap.size, 4, none⟩ (.int .i64 y4)).drew = W3 at HX2 HB2 HW2 ⊢
          have X := HX2.out
          have HB1 := HB2
          have HW1 := HW2
          clear HX2 HB2 HW2
          obtain ⟨zc0, zc1, zc2, zc3, zc4⟩ := X.cell5
          have HROW2 := Lib.hid (own5_below HREL.out.row HW1.out)
          have HSL := HB1.out.size
          go_wp2_with (first
            | (go_at_call 55; refine (kM_tt _).mono ?_; rintro e w3 ⟨rfl, rfl⟩)
            | (at_builtin; refine append_in5 rfl (.tmp 46) (.tmp 48) rfl w.heap.size _ D.length _ rfl (HROW2.out.alloc _) (some ⟨W3.heap.size, 0, none⟩) [(y0, y1, y2, y3, y4)] 1 1 rfl rfl (by decide) (reads5_block (Box.new W3 25 #[.int .i64 y0, .int .i64 y1, .int .i64 y2, .int .i64 y3, .int .i64 y4]) rfl) (by have := hsz.out; omega) (by simp; omega) ?_; intro v3 w3 hv3 hB3; have O3 := Lib.hid hv3; have B3 := Lib.hid ((HB1.out.alloc HB1.out.size (.cells #[.int .i64 y0, .int .i64 y1, .int .i64 y2, .int .i64 y3, .int .i64 y4] 25)).trans hB3); clear hv3 hB3))
          refine ⟨⟨A, B, D ++ [y], q, r, n, m, (ca - 1), (cb - 1), rfl, rfl, (by omega), (by omega), HLA, HLB, Lib.hid (by have := hsz.out; simp; omega), Lib.hid ⟨hq.out, hr.out, ?_, (fun z hz => HREL.out.oa z (List.mem_cons_of_mem _ hz)), (fun z hz => HREL.out.ob z (List.mem_cons_of_mem _ hz)), ?_, B3.out⟩⟩, by simp [slen]; try omega⟩
          · have h := HEQ.out; simpa [one, kM] using h
          · have h := O3.out; rw [List.length_append, List.map_append, List.map_singleton, Hy.out]; exact h
        · have hv2 : cmpL x y = 1 := h
          rw [mrg_gt kM x y A B (by omega)] at hR
          have HEQ := Lib.hid hR
          obtain rfl : v = 1 := hv.symm.trans hv2
          clear hR hv hv2 h
          go_wp2_with (first
            | (go_at_call 77; refine (heads_both _ _ _ _ _ _ _ (by omega) (by omega) g gg o oo x0 x1 x2 x3 x4 y0 y1 y2 y3 y4 1 rfl rfl HAx HAy HCV).mono ?_; rintro e w2 ⟨rfl, hB⟩; have B2 := Lib.hid hB; clear hB))
          have HREL2 := Lib.hid (HREL.out.on B2.out)
          have HAx2 := Lib.hid (HAx.out.below B2.out)
          have HAy2 := Lib.hid (HAy.out.below B2.out)
          have hlg2 := Nat.lt_of_lt_of_le hlg B2.out.size
          have hlgg2 := Nat.lt_of_lt_of_le hlgg B2.out.size
          clear HREL HAx HAy HB0 hws hlg hlgg
          have HREL := HREL2
          have HAx := HAx2
          have HAy := HAy2
          have hlg := hlg2
          have hlgg := hlgg2
          clear HREL2 HAx2 HAy2 hlg2 hlgg2 B2
          have HB0 := Lib.hid HREL.out.hb
          have hws := HREL.out.hb.size
          have X := Box.new w2 25 #[.int .i64 0, .int .i64 0, .int .i64 0, .int .i64 0, .int .i64 0]
          have HB1 := Lib.hid (HB0.out.alloc HB0.out.size (.cells #[.int .i64 0, .int .i64 0, .int .i64 0, .int .i64 0, .int .i64 0] 25))
          have HW1 := Lib.hid ((Below.refl w2.heap.size w2).alloc (Nat.le_refl _) (.cells #[.int .i64 0, .int .i64 0, .int .i64 0, .int .i64 0, .int .i64 0] 25))
          generalize w2.alloc (.cells #[.int .i64 0, .int .i64 0, .int .i64 0, .int .i64 0, .int .i64 0] 25) = W at X HB1 HW1 ⊢
          obtain ⟨c0, c1, c2, c3, c4⟩ := (HAy.out.below HW1.out)
          obtain ⟨zc0, zc1, zc2, zc3, zc4⟩ := X.cell5
          obtain ⟨f0, f1, f2, f3, f4⟩ := X.free5
          have hxg : w2.heap.size ≠ gg := by omega
          have hgx : gg ≠ w2.heap.size := by omega
          have HX := Lib.hid X
          clear X
          go_region
          have HX2 := Lib.hid (HX.out.put5 (.int .i64 y0) (.int .i64 y1) (.int .i64 y2) (.int .i64 y3) (.int .i64 y4)).drew
          have HB2 := Lib.hid (below_put5 HB1.out HB0.out.size (.int .i64 y0) (.int .i64 y1) (.int .i64 y2) (.int .i64 y3) (.int .i64 y4)).drew
          have HW2 := Lib.hid (below_put5 HW1.out (Nat.le_refl _) (.int .i64 y0) (.int .i64 y1) (.int .i64 y2) (.int .i64 y3) (.int .i64 y4)).drew
          clear c0 c1 c2 c3 c4 zc0 zc1 zc2 zc3 zc4 f0 f1 f2 f3 f4 HX HB1 HW1 hxg hgx
          generalize (if cb = 1 then some (⟨gg, oo, none⟩ : Addr) else some ⟨gg, oo + 5, none⟩) = r at hr ⊢
          generalize (((((W.setCell ⟨w2.heap.size, 0, none⟩ (.int .i64 y0)).setCell ⟨w2.heap.size, 1, none⟩ (.int .i64 y1)).setCell ⟨w2.heap.size, 2, none⟩ (.int .i64 y2)).setCell ⟨w2.heap.size, 3, none⟩ (.int .i64 y3)).setCell ⟨w2.heap.size, 4, none⟩ (.int .i64 y4)).drew = W2 at HX2 HB2 HW2 ⊢
          have X := HX2.out
          have HB1 := HB2
          have HW1 := HW2
          clear HX2 HB2 HW2
          obtain ⟨zc0, zc1, zc2, zc3, zc4⟩ := X.cell5
          have HROW2 := Lib.hid (own5_below HREL.out.row HW1.out)
          have HSL := HB1.out.size
          go_wp2_with (go_at_call 55; refine (kM_ft _).mono ?_; rintro e w3 ⟨rfl, rfl⟩)
          refine ⟨⟨(x :: A), B, D, _, r, (n + 1), m, ca, (cb - 1), rfl, rfl, ha, (by omega), hn, HLB, Lib.hid (by have := hsz.out; omega), Lib.hid ⟨HREL.out.ra, hr.out, ?_, HREL.out.oa, (fun z hz => HREL.out.ob z (List.mem_cons_of_mem _ hz)), HROW2.out, HB1.out⟩⟩, by simp [slen]; try omega⟩
          have h := HEQ.out; simpa [one, kM] using h
end Go.Proofs.Ytdahaajfkjmflaa.s14

namespace Go.Proofs.Ytdahaajfkjmflaa.s14
set_option linter.unusedVariables false
set_option linter.unusedSimpArgs false
open Go.RowKit
open kit

open s13

theorem kL_tt (w : World) : Calls Try.prog 57 #[.bool true, .bool true] w fun e w' => e = .returned (.bool false) ∧ w = w' := by
  go_enter Try.func57, Try.ntmps57
  go_wp2
  go_ret
  exact ⟨rfl, rfl⟩
theorem kL_tf (w : World) : Calls Try.prog 57 #[.bool true, .bool false] w fun e w' => e = .returned (.bool true) ∧ w = w' := by
  go_enter Try.func57, Try.ntmps57
  go_wp2
  go_ret
  exact ⟨rfl, rfl⟩
theorem kL_ft (w : World) : Calls Try.prog 57 #[.bool false, .bool true] w fun e w' => e = .returned (.bool false) ∧ w = w' := by
  go_enter Try.func57, Try.ntmps57
  go_wp2
  go_ret
  exact ⟨rfl, rfl⟩
set_option maxRecDepth 100000 in
set_option maxHeartbeats 20000000 in
theorem mergeL (a b : Option Addr) (n m ca cb : Nat) (A B : List (List Int)) (w : World) (hn : Hid (A.length = n)) (hm : Hid (B.length = m)) (ha : n ≤ ca) (hb : m ≤ cb) (hsz : n + m ≤ 100000) (hA : Hid (∀ x ∈ A, okL 8 x)) (hB : Hid (∀ x ∈ B, okL 8 x)) (ra : Hid (Reads5 w a (A.map pad5))) (rb : Hid (Reads5 w b (B.map pad5))) (R : List (List Int)) (N : Nat) (HR : Hid (mrg kL A B = R)) (HN : Hid (R.length = N)) :
    Calls Try.prog 54 #[.slice a n ca, .slice b m cb, .func (.func 42) #[] #[], .func (.func 57) #[] #[]] w fun e w' => ∃ p cp, e = .returned (.slice p N cp) ∧ Reads5 w' p (R.map pad5) ∧ Below w.heap.size w w' ∧ N ≤ cp := by
  go_enter Try.func54, Try.ntmps54
  go_wp2
  go_loopw [0, 1, 9] (fun va vb vm wr => ∃ (A B D : List (List Int)) (a b : Option Addr) (n m ca cb : Nat), va = .slice a n ca ∧ vb = .slice b m cb ∧ n ≤ ca ∧ m ≤ cb ∧ Hid (A.length = n) ∧ Hid (B.length = m) ∧ Hid (D.length + n + m ≤ 100000) ∧ Hid (RelM kL w R A B D a b vm wr)) (fun va vb _ _ => slen va + slen vb)
  case atStart => exact ⟨A, B, [], a, b, n, m, ca, cb, rfl, rfl, ha, hb, hn, hm, Lib.hid (by simpa using hsz), Lib.hid ⟨ra.out, rb.out, HR.out, hA.out, hB.out, World.ownsRow_nil _ _ _ _, Below.refl _ _⟩⟩
  case round =>
    clear hn hm ha hb hsz hA hB ra rb
    obtain ⟨A, B, D, a, b, n, m, ca, cb, rfl, rfl, ha, hb, hn, hm, hsz, HREL⟩ := hrel
    have HB0 := Lib.hid HREL.out.hb
    have hws := HREL.out.hb.size
    rcases A with _ | ⟨x, A⟩
    · obtain rfl : n = 0 := hn.out.symm
      rcases B with _ | ⟨y, B⟩
      · obtain rfl : m = 0 := hm.out.symm
        have hR := HREL.out.eq
        rw [mrg_nil, List.append_nil] at hR
        subst hR
        have hrow := HREL.out.row
        rw [HN.out] at hrow
        obtain ⟨p, cp, rfl, hcp⟩ := row5_shape hrow
        have HROW := Lib.hid hrow
        clear hrow
        go_wp2
        go_ret
        exact ⟨p, cp, rfl, reads5_of_row (by rw [List.length_map]; exact HN.out) HROW.out, HREL.out.hb, hcp⟩
      · obtain ⟨m, rfl⟩ : ∃ m', m = m' + 1 := ⟨B.length, hm.out.symm⟩
        have HLB : Hid (B.length = m) := Lib.hid (by have := hm.out; simpa using this)
        have hR := HREL.out.eq
        rw [mrg_right] at hR
        have HEQ := Lib.hid hR
        clear hR hm
        obtain ⟨g, o, rfl, hg, haty, htly⟩ := reads_head HREL.out.rb
        have HTy := Lib.hid htly
        have hoy := Lib.hid (HREL.out.ob y (List.mem_cons_self ..))
        obtain ⟨⟨y0, y1, y2, y3, y4⟩, hy⟩ : ∃ v, pad5 y = v := ⟨_, rfl⟩
        rw [hy] at haty
        have Hy := Lib.hid hy
        have HAy := Lib.hid (haty.below HREL.out.hb)
        have hlg : g < wr.heap.size := Nat.lt_of_lt_of_le hg HREL.out.hb.size
        clear htly haty hy
        have h1 : (0 : Int) < ((m + 1 : Nat) : Int) := by omega
        have h2 : decide ((0 : Int) < ((m + 1 : Nat) : Int)) = true := decide_eq_true h1
        have hq : Hid (Reads5 w (if cb = 1 then some ⟨g, o, none⟩ else some ⟨g, o + 5, none⟩) (B.map pad5)) := Lib.hid (tail_if (by have := HLB.out; omega) HTy.out)
        go_wp2_with (first
          | (go_at_call 77; refine (heads_left _ _ _ _ _ _).mono ?_; rintro e w2 ⟨rfl, rfl⟩))
        have X := Box.new wr 25 #[.int .i64 0, .int .i64 0, .int .i64 0, .int .i64 0, .int .i64 0]
        have HB1 := Lib.hid (HB0.out.alloc HB0.out.size (.cells #[.int .i64 0, .int .i64 0, .int .i64 0, .int .i64 0, .int .i64 0] 25))
        have HW1 := Lib.hid ((Below.refl wr.heap.size wr).alloc (Nat.le_refl _) (.cells #[.int .i64 0, .int .i64 0, .int .i64 0, .int .i64 0, .int .i64 0] 25))
        generalize wr.alloc (.cells #[.int .i64 0, .int .i64 0, .int .i64 0, .int .i64 0, .int .i64 0] 25) = W at X HB1 HW1 ⊢
        obtain ⟨c0, c1, c2, c3, c4⟩ := (HAy.out.below HW1.out)
        obtain ⟨zc0, zc1, zc2, zc3, zc4⟩ := X.cell5
        obtain ⟨f0, f1, f2, f3, f4⟩ := X.free5
        have hxg : wr.heap.size ≠ g := by omega
        have hgx : g ≠ wr.heap.size := by omega
        have HX := Lib.hid X
        clear X
        go_region
        have HX2 := Lib.hid (HX.out.put5 (.int .i64 y0) (.int .i64 y1) (.int .i64 y2) (.int .i64 y3) (.int .i64 y4)).drew
        have HB2 := Lib.hid (below_put5 HB1.out HB0.out.size (.int .i64 y0) (.int .i64 y1) (.int .i64 y2) (.int .i64 y3) (.int .i64 y4)).drew
        have HW2 := Lib.hid (below_put5 HW1.out (Nat.le_refl _) (.int .i64 y0) (.int .i64 y1) (.int .i64 y2) (.int .i64 y3) (.int .i64 y4)).drew
        clear c0 c1 c2 c3 c4 zc0 zc1 zc2 zc3 zc4 f0 f1 f2 f3 f4 HX HB1 HW1 hxg hgx
        generalize (if cb = 1 then some (⟨g, o, none⟩ : Addr) else some ⟨g, o + 5, none⟩) = q at hq ⊢
        generalize (((((W.setCell ⟨wr.heap.size, 0, none⟩ (.int .i64 y0)).setCell ⟨wr.heap.size, 1, none⟩ (.int .i64 y1)).setCell ⟨wr.heap.size, 2, none⟩ (.int .i64 y2)).setCell ⟨wr.heap.size, 3, none⟩ (.int .i64 y3)).setCell ⟨wr.heap.size, 4, none⟩ (.int .i64 y4)).drew = W2 at HX2 HB2 HW2 ⊢
        have X := HX2.out
        have HB1 := HB2
        have HW1 := HW2
        clear HX2 HB2 HW2
        obtain ⟨zc0, zc1, zc2, zc3, zc4⟩ := X.cell5
        have HROW2 := Lib.hid (own5_below HREL.out.row HW1.out)
        have HSL := HB1.out.size
        go_wp2_with (go_at_call 57; refine (kL_ft _).mono ?_; rintro e w3 ⟨rfl, rfl⟩)
        refine ⟨⟨[], B, D, a, q, 0, m, ca, (cb - 1), rfl, rfl, ha, (by omega), hn, HLB, Lib.hid (by have := hsz.out; omega), Lib.hid ⟨Reads5.nil _ _, hq.out, ?_, (by simp), (fun z hz => HREL.out.ob z (List.mem_cons_of_mem _ hz)), HROW2.out, HB1.out⟩⟩, by simp [slen]; try omega⟩
        have h := HEQ.out; simpa [one, kL] using h
    · obtain ⟨n, rfl⟩ : ∃ n', n = n' + 1 := ⟨A.length, hn.out.symm⟩
      have HLA : Hid (A.length = n) := Lib.hid (by have := hn.out; simpa using this)
      have h1 : (0 : Int) < ((n + 1 : Nat) : Int) := by omega
      have h2 : decide ((0 : Int) < ((n + 1 : Nat) : Int)) = true := decide_eq_true h1
      obtain ⟨g, o, rfl, hg, hatx, htlx⟩ := reads_head HREL.out.ra
      have HTx := Lib.hid htlx
      have hox := Lib.hid (HREL.out.oa x (List.mem_cons_self ..))
      obtain ⟨⟨x0, x1, x2, x3, x4⟩, hx⟩ : ∃ v, pad5 x = v := ⟨_, rfl⟩
      rw [hx] at hatx
      have Hx := Lib.hid hx
      have HAx := Lib.hid (hatx.below HREL.out.hb)
      have hlg : g < wr.heap.size := Nat.lt_of_lt_of_le hg HREL.out.hb.size
      clear htlx hatx hx
      have hq : Hid (Reads5 w (if ca = 1 then some ⟨g, o, none⟩ else some ⟨g, o + 5, none⟩) (A.map pad5)) := Lib.hid (tail_if (by have := HLA.out; omega) HTx.out)
      rcases B with _ | ⟨y, B⟩
      · obtain rfl : m = 0 := hm.out.symm
        have hR := HREL.out.eq
        rw [mrg_left] at hR
        have HEQ := Lib.hid hR
        clear hR hn
        go_wp2_with (first
          | (go_at_call 77; refine (heads_right _ _ _ _ _ _ (by omega)).mono ?_; rintro e w2 ⟨rfl, rfl⟩))
        have X := Box.new wr 25 #[.int .i64 0, .int .i64 0, .int .i64 0, .int .i64 0, .int .i64 0]
        have HB1 := Lib.hid (HB0.out.alloc HB0.out.size (.cells #[.int .i64 0, .int .i64 0, .int .i64 0, .int .i64 0, .int .i64 0] 25))
        have HW1 := Lib.hid ((Below.refl wr.heap.size wr).alloc (Nat.le_refl _) (.cells #[.int .i64 0, .int .i64 0, .int .i64 0, .int .i64 0, .int .i64 0] 25))
        generalize wr.alloc (.cells #[.int .i64 0, .int .i64 0, .int .i64 0, .int .i64 0, .int .i64 0] 25) = W at X HB1 HW1 ⊢
        obtain ⟨c0, c1, c2, c3, c4⟩ := (HAx.out.below HW1.out)
        obtain ⟨zc0, zc1, zc2, zc3, zc4⟩ := X.cell5
        obtain ⟨f0, f1, f2, f3, f4⟩ := X.free5
        have hxg : wr.heap.size ≠ g := by omega
        have hgx : g ≠ wr.heap.size := by omega
        have HX := Lib.hid X
        clear X
        go_region
        have HX2 := Lib.hid (HX.out.put5 (.int .i64 x0) (.int .i64 x1) (.int .i64 x2) (.int .i64 x3) (.int .i64 x4)).drew
        have HB2 := Lib.hid (below_put5 HB1.out HB0.out.size (.int .i64 x0) (.int .i64 x1) (.int .i64 x2) (.int .i64 x3) (.int .i64 x4)).drew
        have HW2 := Lib.hid (below_put5 HW1.out (Nat.le_refl _) (.int .i64 x0) (.int .i64 x1) (.int .i64 x2) (.int .i64 x3) (.int .i64 x4)).drew
        clear c0 c1 c2 c3 c4 zc0 zc1 zc2 zc3 zc4 f0 f1 f2 f3 f4 HX HB1 HW1 hxg hgx
        generalize (if ca = 1 then some (⟨g, o, none⟩ : Addr) else some ⟨g, o + 5, none⟩) = q at hq ⊢
        generalize (((((W.setCell ⟨wr.heap.size, 0, none⟩ (.int .i64 x0)).setCell ⟨wr.heap.size, 1, none⟩ (.int .i64 x1)).setCell ⟨wr.heap.size, 2, none⟩ (.int .i64 x2)).setCell ⟨wr.heap.size, 3, none⟩ (.int .i64 x3)).setCell ⟨wr.heap.size, 4, none⟩ (.int .i64 x4)).drew = W2 at HX2 HB2 HW2 ⊢
        have X := HX2.out
        have HB1 := HB2
        have HW1 := HW2
        clear HX2 HB2 HW2
        obtain ⟨zc0, zc1, zc2, zc3, zc4⟩ := X.cell5
        have HROW2 := Lib.hid (own5_below HREL.out.row HW1.out)
        have HSL := HB1.out.size
        go_wp2_with (first
          | (go_at_call 57; refine (kL_tf _).mono ?_; rintro e w3 ⟨rfl, rfl⟩)
          | (at_builtin; refine append_in5 rfl (.tmp 46) (.tmp 48) rfl w.heap.size _ D.length _ rfl (HROW2.out.alloc _) (some ⟨W2.heap.size, 0, none⟩) [(x0, x1, x2, x3, x4)] 1 1 rfl rfl (by decide) (reads5_block (Box.new W2 25 #[.int .i64 x0, .int .i64 x1, .int .i64 x2, .int .i64 x3, .int .i64 x4]) rfl) (by have := hsz.out; omega) (by simp; omega) ?_; intro v3 w3 hv3 hB3; have O3 := Lib.hid hv3; have B3 := Lib.hid ((HB1.out.alloc HB1.out.size (.cells #[.int .i64 x0, .int .i64 x1, .int .i64 x2, .int .i64 x3, .int .i64 x4] 25)).trans hB3); clear hv3 hB3))
        refine ⟨⟨A, [], D ++ [x], q, b, n, 0, (ca - 1), cb, rfl, rfl, (by omega), hb, HLA, hm, Lib.hid (by have := hsz.out; simp; omega), Lib.hid ⟨hq.out, Reads5.nil _ _, ?_, (fun z hz => HREL.out.oa z (List.mem_cons_of_mem _ hz)), (by simp), ?_, B3.out⟩⟩, by simp [slen]; try omega⟩
        · have h := HEQ.out; simpa [one, kL] using h
        · have h := O3.out; rw [List.length_append, List.map_append, List.map_singleton, Hx.out]; exact h
      · obtain ⟨m, rfl⟩ : ∃ m', m = m' + 1 := ⟨B.length, hm.out.symm⟩
        have HLB : Hid (B.length = m) := Lib.hid (by have := hm.out; simpa using this)
        obtain ⟨gg, oo, rfl, hgg, haty, htly⟩ := reads_head HREL.out.rb
        have HTy := Lib.hid htly
        have hoy := Lib.hid (HREL.out.ob y (List.mem_cons_self ..))
        obtain ⟨⟨y0, y1, y2, y3, y4⟩, hy⟩ : ∃ v, pad5 y = v := ⟨_, rfl⟩
        rw [hy] at haty
        have Hy := Lib.hid hy
        have HAy := Lib.hid (haty.below HREL.out.hb)
        have hlgg : gg < wr.heap.size := Nat.lt_of_lt_of_le hgg HREL.out.hb.size
        clear htly haty hy
        have hr : Hid (Reads5 w (if cb = 1 then some ⟨gg, oo, none⟩ else some ⟨gg, oo + 5, none⟩) (B.map pad5)) := Lib.hid (tail_if (by have := HLB.out; omega) HTy.out)
        have h3 : (0 : Int) < ((m + 1 : Nat) : Int) := by omega
        obtain ⟨v, hv⟩ : ∃ v, cmpL x y = v := ⟨_, rfl⟩
        have HCV := Lib.hid ((cmpE_ok hox.out hoy.out Hx.out Hy.out).trans (by rw [hv]))
        have hrg := cmpL_range x y
        have hR := HREL.out.eq
        rcases hrg with h | h | h
        · have hv2 : cmpL x y = (-1) := h
          rw [mrg_lt kL x y A B (by omega)] at hR
          have HEQ := Lib.hid hR
          obtain rfl : v = (-1) := hv.symm.trans hv2
          clear hR hv hv2 h
          go_wp2_with (first
            | (go_at_call 77; refine (heads_both _ _ _ _ _ _ _ (by omega) (by omega) g gg o oo x0 x1 x2 x3 x4 y0 y1 y2 y3 y4 (-1) rfl rfl HAx HAy HCV).mono ?_; rintro e w2 ⟨rfl, hB⟩; have B2 := Lib.hid hB; clear hB))
          have HREL2 := Lib.hid (HREL.out.on B2.out)
          have HAx2 := Lib.hid (HAx.out.below B2.out)
          have HAy2 := Lib.hid (HAy.out.below B2.out)
          have hlg2 := Nat.lt_of_lt_of_le hlg B2.out.size
          have hlgg2 := Nat.lt_of_lt_of_le hlgg B2.out.size
          clear HREL HAx HAy HB0 hws hlg hlgg
          have HREL := HREL2
          have HAx := HAx2
          have HAy := HAy2
          have hlg := hlg2
          have hlgg := hlgg2
          clear HREL2 HAx2 HAy2 hlg2 hlgg2 B2
          have HB0 := Lib.hid HREL.out.hb
          have hws := HREL.out.hb.size
          have X := Box.new w2 25 #[.int .i64 0, .int .i64 0, .int .i64 0, .int .i64 0, .int .i64 0]
          have HB1 := Lib.hid (HB0.out.alloc HB0.out.size (.cells #[.int .i64 0, .int .i64 0, .int .i64 0, .int .i64 0, .int .i64 0] 25))
          have HW1 := Lib.hid ((Below.refl w2.heap.size w2).alloc (Nat.le_refl _) (.cells #[.int .i64 0, .int .i64 0, .int .i64 0, .int .i64 0, .int .i64 0] 25))
          generalize w2.alloc (.cells #[.int .i64 0, .int .i64 0, .int .i64 0, .int .i64 0, .int .i64 0] 25) = W at X HB1 HW1 ⊢
          obtain ⟨c0, c1, c2, c3, c4⟩ := (HAx.out.below HW1.out)
          obtain ⟨zc0, zc1, zc2, zc3, zc4⟩ := X.cell5
          obtain ⟨f0, f1, f2, f3, f4⟩ := X.free5
          have hxg : w2.heap.size ≠ g := by omega
          have hgx : g ≠ w2.heap.size := by omega
          have HX := Lib.hid X
          clear X
          go_region
          have HX2 := Lib.hid (HX.out.put5 (.int .i64 x0) (.int .i64 x1) (.int .i64 x2) (.int .i64 x3) (.int .i64 x4)).drew
          have HB2 := Lib.hid (below_put5 HB1.out HB0.out.size (.int .i64 x0) (.int .i64 x1) (.int .i64 x2) (.int .i64 x3) (.int .i64 x4)).drew
          have HW2 := Lib.hid (below_put5 HW1.out (Nat.le_refl _) (.int .i64 x0) (.int .i64 x1) (.int .i64 x2) (.int .i64 x3) (.int .i64 x4)).drew
          clear c0 c1 c2 c3 c4 zc0 zc1 zc2 zc3 zc4 f0 f1 f2 f3 f4 HX HB1 HW1 hxg hgx
          generalize (if ca = 1 then some (⟨g, o, none⟩ : Addr) else some ⟨g, o + 5, none⟩) = q at hq ⊢
          generalize (((((W.setCell ⟨w2.heap.size, 0, none⟩ (.int .i64 x0)).setCell ⟨w2.heap.size, 1, none⟩ (.int .i64 x1)).setCell ⟨w2.heap.size, 2, none⟩ (.int .i64 x2)).setCell ⟨w2.heap.size, 3, none⟩ (.int .i64 x3)).setCell ⟨w2.heap.size, 4, none⟩ (.int .i64 x4)).drew = W2 at HX2 HB2 HW2 ⊢
          have X := HX2.out
          have HB1 := HB2
          have HW1 := HW2
          clear HX2 HB2 HW2
          obtain ⟨zc0, zc1, zc2, zc3, zc4⟩ := X.cell5
          have HROW2 := Lib.hid (own5_below HREL.out.row HW1.out)
          have HSL := HB1.out.size
          go_wp2_with (first
            | (go_at_call 57; refine (kL_tf _).mono ?_; rintro e w3 ⟨rfl, rfl⟩)
            | (at_builtin; refine append_in5 rfl (.tmp 46) (.tmp 48) rfl w.heap.size _ D.length _ rfl (HROW2.out.alloc _) (some ⟨W2.heap.size, 0, none⟩) [(x0, x1, x2, x3, x4)] 1 1 rfl rfl (by decide) (reads5_block (Box.new W2 25 #[.int .i64 x0, .int .i64 x1, .int .i64 x2, .int .i64 x3, .int .i64 x4]) rfl) (by have := hsz.out; omega) (by simp; omega) ?_; intro v3 w3 hv3 hB3; have O3 := Lib.hid hv3; have B3 := Lib.hid ((HB1.out.alloc HB1.out.size (.cells #[.int .i64 x0, .int .i64 x1, .int .i64 x2, .int .i64 x3, .int .i64 x4] 25)).trans hB3); clear hv3 hB3))
          refine ⟨⟨A, (y :: B), D ++ [x], q, _, n, (m + 1), (ca - 1), cb, rfl, rfl, (by omega), hb, HLA, hm, Lib.hid (by have := hsz.out; simp; omega), Lib.hid ⟨hq.out, HREL.out.rb, ?_, (fun z hz => HREL.out.oa z (List.mem_cons_of_mem _ hz)), HREL.out.ob, ?_, B3.out⟩⟩, by simp [slen]; try omega⟩
          · have h := HEQ.out; simpa [one, kL] using h
          · have h := O3.out; rw [List.length_append, List.map_append, List.map_singleton, Hx.out]; exact h
        · have hv2 : cmpL x y = 0 := h
          rw [mrg_eq kL x y A B (by omega)] at hR
          have HEQ := Lib.hid hR
          obtain rfl : v = 0 := hv.symm.trans hv2
          clear hR hv hv2 h
          go_wp2_with (first
            | (go_at_call 77; refine (heads_both _ _ _ _ _ _ _ (by omega) (by omega) g gg o oo x0 x1 x2 x3 x4 y0 y1 y2 y3 y4 0 rfl rfl HAx HAy HCV).mono ?_; rintro e w2 ⟨rfl, hB⟩; have B2 := Lib.hid hB; clear hB))
          have HREL2 := Lib.hid (HREL.out.on B2.out)
          have HAx2 := Lib.hid (HAx.out.below B2.out)
          have HAy2 := Lib.hid (HAy.out.below B2.out)
          have hlg2 := Nat.lt_of_lt_of_le hlg B2.out.size
          have hlgg2 := Nat.lt_of_lt_of_le hlgg B2.out.size
          clear HREL HAx HAy HB0 hws hlg hlgg
          have HREL := HREL2
          have HAx := HAx2
          have HAy := HAy2
          have hlg := hlg2
          have hlgg := hlgg2
          clear HREL2 HAx2 HAy2 hlg2 hlgg2 B2
          have HB0 := Lib.hid HREL.out.hb
          have hws := HREL.out.hb.size
          have X := Box.new w2 25 #[.int .i64 0, .int .i64 0, .int .i64 0, .int .i64 0, .int .i64 0]
          have HB1 := Lib.hid (HB0.out.alloc HB0.out.size (.cells #[.int .i64 0, .int .i64 0, .int .i64 0, .int .i64 0, .int .i64 0] 25))
          have HW1 := Lib.hid ((Below.refl w2.heap.size w2).alloc (Nat.le_refl _) (.cells #[.int .i64 0, .int .i64 0, .int .i64 0, .int .i64 0, .int .i64 0] 25))
          generalize w2.alloc (.cells #[.int .i64 0, .int .i64 0, .int .i64 0, .int .i64 0, .int .i64 0] 25) = W at X HB1 HW1 ⊢
          obtain ⟨c0, c1, c2, c3, c4⟩ := (HAx.out.below HW1.out)
          obtain ⟨zc0, zc1, zc2, zc3, zc4⟩ := X.cell5
          obtain ⟨f0, f1, f2, f3, f4⟩ := X.free5
          have hxg : w2.heap.size ≠ g := by omega
          have hgx : g ≠ w2.heap.size := by omega
          have HX := Lib.hid X
          clear X
          go_region
          have HX2 := Lib.hid (HX.out.put5 (.int .i64 x0) (.int .i64 x1) (.int .i64 x2) (.int .i64 x3) (.int .i64 x4)).drew
          have HB2 := Lib.hid (below_put5 HB1.out HB0.out.size (.int .i64 x0) (.int .i64 x1) (.int .i64 x2) (.int .i64 x3) (.int .i64 x4)).drew
          have HW2 := Lib.hid (below_put5 HW1.out (Nat.le_refl _) (.int .i64 x0) (.int .i64 x1) (.int .i64 x2) (.int .i64 x3) (.int .i64 x4)).drew
          clear c0 c1 c2 c3 c4 zc0 zc1 zc2 zc3 zc4 f0 f1 f2 f3 f4 HX HB1 HW1 hxg hgx
          generalize (if ca = 1 then some (⟨g, o, none⟩ : Addr) else some ⟨g, o + 5, none⟩) = q at hq ⊢
          generalize (((((W.setCell ⟨w2.heap.size, 0, none⟩ (.int .i64 x0)).setCell ⟨w2.heap.size, 1, none⟩ (.int .i64 x1)).setCell ⟨w2.heap.size, 2, none⟩ (.int .i64 x2)).setCell ⟨w2.heap.size, 3, none⟩ (.int .i64 x3)).setCell ⟨w2.heap.size, 4, none⟩ (.int .i64 x4)).drew = W2 at HX2 HB2 HW2 ⊢
          have X := HX2.out
          have HB1 := HB2
          have HW1 := HW2
          clear HX2 HB2 HW2
          go_wp2
          obtain ⟨c0, c1, c2, c3, c4⟩ := (HAy.out.below HW1.out)
          obtain ⟨zc0, zc1, zc2, zc3, zc4⟩ := X.cell5
          obtain ⟨f0, f1, f2, f3, f4⟩ := X.free5
          have hxg : w2.heap.size ≠ gg := by omega
          have hgx : gg ≠ w2.heap.size := by omega
          have HX := Lib.hid X
          clear X
          go_region
          have HX2 := Lib.hid (HX.out.put5 (.int .i64 y0) (.int .i64 y1) (.int .i64 y2) (.int .i64 y3) (.int .i64 y4)).drew
          have HB2 := Lib.hid (below_put5 HB1.out HB0.out.size (.int .i64 y0) (.int .i64 y1) (.int .i64 y2) (.int .i64 y3) (.int .i64 y4)).drew
          have HW2 := Lib.hid (below_put5 HW1.out (Nat.le_refl _) (.int .i64 y0) (.int .i64 y1) (.int .i64 y2) (.int .i64 y3) (.int .i64 y4)).drew
          clear c0 c1 c2 c3 c4 zc0 zc1 zc2 zc3 zc4 f0 f1 f2 f3 f4 HX HB1 HW1 hxg hgx
          generalize (if cb = 1 then some (⟨gg, oo, none⟩ : Addr) else some ⟨gg, oo + 5, none⟩) = r at hr ⊢
          generalize (((((W2.setCell ⟨w2.heap.size, 0, none⟩ (.int .i64 y0)).setCell ⟨w2.heap.size, 1, none⟩ (.int .i64 y1)).setCell ⟨w2.heap.size, 2, none⟩ (.int .i64 y2)).setCell ⟨w2.heap.size, 3, none⟩ (.int .i64 y3)).setCell ⟨w2.heap.size, 4, none⟩ (.int .i64 y4)).drew = W3 at HX2 HB2 HW2 ⊢
          have X := HX2.out
          have HB1 := HB2
          have HW1 := HW2
          clear HX2 HB2 HW2
          obtain ⟨zc0, zc1, zc2, zc3, zc4⟩ := X.cell5
          have HROW2 := Lib.hid (own5_below HREL.out.row HW1.out)
          have HSL := HB1.out.size
          go_wp2_with (go_at_call 57; refine (kL_tt _).mono ?_; rintro e w3 ⟨rfl, rfl⟩)
          refine ⟨⟨A, B, D, q, r, n, m, (ca - 1), (cb - 1), rfl, rfl, (by omega), (by omega), HLA, HLB, Lib.hid (by have := hsz.out; omega), Lib.hid ⟨hq.out, hr.out, ?_, (fun z hz => HREL.out.oa z (List.mem_cons_of_mem _ hz)), (fun z hz => HREL.out.ob z (List.mem_cons_of_mem _ hz)), HROW2.out, HB1.out⟩⟩, by simp [slen]; try omega⟩
          have h := HEQ.out; simpa [one, kL] using h
        · have hv2 : cmpL x y = 1 := h
          rw [mrg_gt kL x y A B (by omega)] at hR
          have HEQ := Lib.hid hR
          obtain rfl : v = 1 := hv.symm.trans hv2
          clear hR hv hv2 h
          go_wp2_with (first
            | (go_at_call 77; refine (heads_both _ _ _ _ _ _ _ (by omega) (by omega) g gg o oo x0 x1 x2 x3 x4 y0 y1 y2 y3 y4 1 rfl rfl HAx HAy HCV).mono ?_; rintro e w2 ⟨rfl, hB⟩; have B2 := Lib.hid hB; clear hB))
          have HREL2 := Lib.hid (HREL.out.on B2.out)
          have HAx2 := Lib.hid (HAx.out.below B2.out)
          have HAy2 := Lib.hid (HAy.out.below B2.out)
          have hlg2 := Nat.lt_of_lt_of_le hlg B2.out.size
          have hlgg2 := Nat.lt_of_lt_of_le hlgg B2.out.size
          clear HREL HAx HAy HB0 hws hlg hlgg
          have HREL := HREL2
          have HAx := HAx2
          have HAy := HAy2
          have hlg := hlg2
          have hlgg := hlgg2
          clear HREL2 HAx2 HAy2 hlg2 hlgg2 B2
          have HB0 := Lib.hid HREL.out.hb
          have hws := HREL.out.hb.size
          have X := Box.new w2 25 #[.int .i64 0, .int .i64 0, .int .i64 0, .int .i64 0, .int .i64 0]
          have HB1 := Lib.hid (HB0.out.alloc HB0.out.size (.cells #[.int .i64 0, .int .i64 0, .int .i64 0, .int .i64 0, .int .i64 0] 25))
          have HW1 := Lib.hid ((Below.refl w2.heap.size w2).alloc (Nat.le_refl _) (.cells #[.int .i64 0, .int .i64 0, .int .i64 0, .int .i64 0, .int .i64 0] 25))
          generalize w2.alloc (.cells #[.int .i64 0, .int .i64 0, .int .i64 0, .int .i64 0, .int .i64 0] 25) = W at X HB1 HW1 ⊢
          obtain ⟨c0, c1, c2, c3, c4⟩ := (HAy.out.below HW1.out)
          obtain ⟨zc0, zc1, zc2, zc3, zc4⟩ := X.cell5
          obtain ⟨f0, f1, f2, f3, f4⟩ := X.free5
          have hxg : w2.heap.size ≠ gg := by omega
          have hgx : gg ≠ w2.heap.size := by omega
          have HX := Lib.hid X
          clear X
          go_region
          have HX2 := Lib.hid (HX.out.put5 (.int .i64 y0) (.int .i64 y1) (.int .i64 y2) (.int .i64 y3) (.int .i64 y4)).drew
          have HB2 := Lib.hid (below_put5 HB1.out HB0.out.size (.int .i64 y0) (.int .i64 y1) (.int .i64 y2) (.int .i64 y3) (.int .i64 y4)).drew
          have HW2 := Lib.hid (below_put5 HW1.out (Nat.le_refl _) (.int .i64 y0) (.int .i64 y1) (.int .i64 y2) (.int .i64 y3) (.int .i64 y4)).drew
          clear c0 c1 c2 c3 c4 zc0 zc1 zc2 zc3 zc4 f0 f1 f2 f3 f4 HX HB1 HW1 hxg hgx
          generalize (if cb = 1 then some (⟨gg, oo, none⟩ : Addr) else some ⟨gg, oo + 5, none⟩) = r at hr ⊢
          generalize (((((W.setCell ⟨w2.heap.size, 0, none⟩ (.int .i64 y0)).setCell ⟨w2.heap.size, 1, none⟩ (.int .i64 y1)).setCell ⟨w2.heap.size, 2, none⟩ (.int .i64 y2)).setCell ⟨w2.heap.size, 3, none⟩ (.int .i64 y3)).setCell ⟨w2.heap.size, 4, none⟩ (.int .i64 y4)).drew = W2 at HX2 HB2 HW2 ⊢
          have X := HX2.out
          have HB1 := HB2
          have HW1 := HW2
          clear HX2 HB2 HW2
          obtain ⟨zc0, zc1, zc2, zc3, zc4⟩ := X.cell5
          have HROW2 := Lib.hid (own5_below HREL.out.row HW1.out)
          have HSL := HB1.out.size
          go_wp2_with (go_at_call 57; refine (kL_ft _).mono ?_; rintro e w3 ⟨rfl, rfl⟩)
          refine ⟨⟨(x :: A), B, D, _, r, (n + 1), m, ca, (cb - 1), rfl, rfl, ha, (by omega), hn, HLB, Lib.hid (by have := hsz.out; omega), Lib.hid ⟨HREL.out.ra, hr.out, ?_, HREL.out.oa, (fun z hz => HREL.out.ob z (List.mem_cons_of_mem _ hz)), HROW2.out, HB1.out⟩⟩, by simp [slen]; try omega⟩
          have h := HEQ.out; simpa [one, kL] using h
end Go.Proofs.Ytdahaajfkjmflaa.s14
