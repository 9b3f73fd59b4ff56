/-
  Layer 14: merging two lists, union. Layer 14: union; cut, ofLength of the program. Layer 14: ofLength, pairs of the program. Layer 14: the iterator over the pairs of two lists.
-/
import Derived.Test.YtdahaajfkjmflaaG05
import Derived.BigRegion
import Derived.Test.YtdahaajfkjmflaaG06
import Derived.Test.YtdahaajfkjmflaaG03
namespace Go.Proofs.Ytdahaajfkjmflaa.s14
set_option linter.unusedVariables false
set_option linter.unusedSimpArgs false
open Go.RowKit
open kit

open s13

theorem kU_tt (w : World) : Calls Try.prog 76 #[.bool true, .bool true] w fun e w' => e = .returned (.bool true) ∧ w = w' := by
  go_enter Try.func76, Try.ntmps76
  go_wp2
  go_ret
  exact ⟨rfl, rfl⟩
theorem kU_tf (w : World) : Calls Try.prog 76 #[.bool true, .bool false] w fun e w' => e = .returned (.bool true) ∧ w = w' := by
  go_enter Try.func76, Try.ntmps76
  go_wp2
  go_ret
  exact ⟨rfl, rfl⟩
theorem kU_ft (w : World) : Calls Try.prog 76 #[.bool false, .bool true] w fun e w' => e = .returned (.bool true) ∧ w = w' := by
  go_enter Try.func76, Try.ntmps76
  go_wp2
  go_ret
  exact ⟨rfl, rfl⟩
theorem tail_if {w : World} {g o cb : Nat} {l : List (List Int)} (h : l.length + 1 ≤ cb) (hr : Reads5 w (some ⟨g, o + 5, none⟩) (l.map pad5)) : Reads5 w (if cb = 1 then some ⟨g, o, none⟩ else some ⟨g, o + 5, none⟩) (l.map pad5) := by
  split
  · have e : l = [] := List.length_eq_zero_iff.1 (by omega)
    rw [e]; exact Reads5.nil _ _
  · exact hr
/-- what the loop says; the lists lie where they lay at the call -/
structure RelM (kp : Bool → Bool → Bool) (w : World) (R : List (List Int)) (A B D : List (List Int)) (a b : Option Addr) (vm : Value) (wr : World) : Prop where
  ra : Reads5 w a (A.map pad5)
  rb : Reads5 w b (B.map pad5)
  eq : D ++ mrg kp A B = R
  oa : ∀ x ∈ A, okL 8 x
  ob : ∀ x ∈ B, okL 8 x
  row : wr.ownsRow w.heap.size 25 5 vm D.length (flat5 (D.map pad5))
  hb : Below w.heap.size w wr
theorem RelM.on {kp : Bool → Bool → Bool} {w wr w2 : World} {R A B D : List (List Int)} {a b : Option Addr} {vm : Value} (h : RelM kp w R A B D a b vm wr) (hB : Below wr.heap.size wr w2) : RelM kp w R A B D a b vm w2 := ⟨h.ra, h.rb, h.eq, h.oa, h.ob, own5_below h.row hB, below_then h.hb hB⟩
set_option maxRecDepth 100000 in
set_option maxHeartbeats 20000000 in
theorem mergeU (a b : Option Addr) (n m ca cb : Nat) (A B : List (List Int)) (w : World) (hn : Hid (A.length = n)) (hm : Hid (B.length = m)) (ha : n ≤ ca) (hb : m ≤ cb) (hsz : n + m ≤ 100000) (hA : Hid (∀ x ∈ A, okL 8 x)) (hB : Hid (∀ x ∈ B, okL 8 x)) (ra : Hid (Reads5 w a (A.map pad5))) (rb : Hid (Reads5 w b (B.map pad5))) (R : List (List Int)) (N : Nat) (HR : Hid (mrg kU A B = R)) (HN : Hid (R.length = N)) :
    Calls Try.prog 54 #[.slice a n ca, .slice b m cb, .func (.func 42) #[] #[], .func (.func 76) #[] #[]] w fun e w' => ∃ p cp, e = .returned (.slice p N cp) ∧ Reads5 w' p (R.map pad5) ∧ Below w.heap.size w w' ∧ N ≤ cp := by
  go_enter Try.func54, Try.ntmps54
  go_wp2
  go_loopw [0, 1, 9] (fun va vb vm wr => ∃ (A B D : List (List Int)) (a b : Option Addr) (n m ca cb : Nat), va = .slice a n ca ∧ vb = .slice b m cb ∧ n ≤ ca ∧ m ≤ cb ∧ Hid (A.length = n) ∧ Hid (B.length = m) ∧ Hid (D.length + n + m ≤ 100000) ∧ Hid (RelM kU w R A B D a b vm wr)) (fun va vb _ _ => slen va + slen vb)
  case atStart => exact ⟨A, B, [], a, b, n, m, ca, cb, rfl, rfl, ha, hb, hn, hm, Lib.hid (by simpa using hsz), Lib.hid ⟨ra.out, rb.out, HR.out, hA.out, hB.out, World.ownsRow_nil _ _ _ _, Below.refl _ _⟩⟩
  case round =>
    clear hn hm ha hb hsz hA hB ra rb
    obtain ⟨A, B, D, a, b, n, m, ca, cb, rfl, rfl, ha, hb, hn, hm, hsz, HREL⟩ := hrel
    have HB0 := Lib.hid HREL.out.hb
    have hws := HREL.out.hb.size
    rcases A with _ | ⟨x, A⟩
    · obtain rfl : n = 0 := hn.out.symm
      rcases B with _ | ⟨y, B⟩
      · obtain rfl : m = 0 := hm.out.symm
        have hR := HREL.out.eq
        rw [mrg_nil, List.append_nil] at hR
        subst hR
        have hrow := HREL.out.row
        rw [HN.out] at hrow
        obtain ⟨p, cp, rfl, hcp⟩ := row5_shape hrow
        have HROW := Lib.hid hrow
        clear hrow
        go_wp2
        go_ret
        exact ⟨p, cp, rfl, reads5_of_row (by rw [List.length_map]; exact HN.out) HROW.out, HREL.out.hb, hcp⟩
      · obtain ⟨m, rfl⟩ : ∃ m', m = m' + 1 := ⟨B.length, hm.out.symm⟩
        have HLB : Hid (B.length = m) := Lib.hid (by have := hm.out; simpa using this)
        have hR := HREL.out.eq
        rw [mrg_right] at hR
        have HEQ := Lib.hid hR
        clear hR hm
        obtain ⟨g, o, rfl, hg, haty, htly⟩ := reads_head HREL.out.rb
        have HTy := Lib.hid htly
        have hoy := Lib.hid (HREL.out.ob y (List.mem_cons_self ..))
        obtain ⟨⟨y0, y1, y2, y3, y4⟩, hy⟩ : ∃ v, pad5 y = v := ⟨_, rfl⟩
        rw [hy] at haty
        have Hy := Lib.hid hy
        have HAy := Lib.hid (haty.below HREL.out.hb)
        have hlg : g < wr.heap.size := Nat.lt_of_lt_of_le hg HREL.out.hb.size
        clear htly haty hy
        have h1 : (0 : Int) < ((m + 1 : Nat) : Int) := by omega
        have h2 : decide ((0 : Int) < ((m + 1 : Nat) : Int)) = true := decide_eq_true h1
        have hq : Hid (Reads5 w (if cb = 1 then some ⟨g, o, none⟩ else some ⟨g, o + 5, none⟩) (B.map pad5)) := Lib.hid (tail_if (by have := HLB.out; omega) HTy.out)
        go_wp2_with (first
          | (go_at_call 77; refine (heads_left _ _ _ _ _ _).mono ?_; rintro e w2 ⟨rfl, rfl⟩))
        have X := Box.new wr 25 #[.int .i64 0, .int .i64 0, .int .i64 0, .int .i64 0, .int .i64 0]
        have HB1 := Lib.hid (HB0.out.alloc HB0.out.size (.cells #[.int .i64 0, .int .i64 0, .int .i64 0, .int .i64 0, .int .i64 0] 25))
        have HW1 := Lib.hid ((Below.refl wr.heap.size wr).alloc (Nat.le_refl _) (.cells #[.int .i64 0, .int .i64 0, .int .i64 0, .int .i64 0, .int .i64 0] 25))
        generalize wr.alloc (.cells #[.int .i64 0, .int .i64 0, .int .i64 0, .int .i64 0, .int .i64 0] 25) = W at X HB1 HW1 ⊢
        obtain ⟨c0, c1, c2, c3, c4⟩ := (HAy.out.below HW1.out)
        obtain ⟨zc0, zc1, zc2, zc3, zc4⟩ := X.cell5
        obtain ⟨f0, f1, f2, f3, f4⟩ := X.free5
        have hxg : wr.heap.size ≠ g := by omega
        have hgx : g ≠ wr.heap.size := by omega
        have HX := Lib.hid X
        clear X
        go_region
        have HX2 := Lib.hid (HX.out.put5 (.int .i64 y0) (.int .i64 y1) (.int .i64 y2) (.int .i64 y3) (.int .i64 y4)).drew
        have HB2 := Lib.hid (below_put5 HB1.out HB0.out.size (.int .i64 y0) (.int .i64 y1) (.int .i64 y2) (.int .i64 y3) (.int .i64 y4)).drew
        have HW2 := Lib.hid (below_put5 HW1.out (Nat.le_refl _) (.int .i64 y0) (.int .i64 y1) (.int .i64 y2) (.int .i64 y3) (.int .i64 y4)).drew
        clear c0 c1 c2 c3 c4 zc0 zc1 zc2 zc3 zc4 f0 f1 f2 f3 f4 HX HB1 HW1 hxg hgx
        generalize (if cb = 1 then some (⟨g, o, none⟩ : Addr) else some ⟨g, o + 5, none⟩) = q at hq ⊢
        generalize (((((W.setCell ⟨wr.heap.size, 0, none⟩ (.int .i64 y0)).setCell ⟨wr.heap.size, 1, none⟩ (.int .i64 y1)).setCell ⟨wr.heap.size, 2, none⟩ (.int .i64 y2)).setCell ⟨wr.heap.size, 3, none⟩ (.int .i64 y3)).setCell ⟨wr.heap.size, 4, none⟩ (.int .i64 y4)).drew = W2 at HX2 HB2 HW2 ⊢
        have X := HX2.out
        have HB1 := HB2
        have HW1 := HW2
        clear HX2 HB2 HW2
        obtain ⟨zc0, zc1, zc2, zc3, zc4⟩ := X.cell5
        have HROW2 := Lib.hid (own5_below HREL.out.row HW1.out)
        have HSL := HB1.out.size
        go_wp2_with (first
          | (go_at_call 76; refine (kU_ft _).mono ?_; rintro e w3 ⟨rfl, rfl⟩)
          | (at_builtin; refine append_in5 rfl (.tmp 46) (.tmp 48) rfl w.heap.size _ D.length _ rfl (HROW2.out.alloc _) (some ⟨W2.heap.size, 0, none⟩) [(y0, y1, y2, y3, y4)] 1 1 rfl rfl (by decide) (reads5_block (Box.new W2 25 #[.int .i64 y0, .int .i64 y1, .int .i64 y2, .int .i64 y3, .int .i64 y4]) rfl) (by have := hsz.out; omega) (by simp; omega) ?_; intro v3 w3 hv3 hB3; have O3 := Lib.hid hv3; have B3 := Lib.hid ((HB1.out.alloc HB1.out.size (.cells #[.int .i64 y0, .int .i64 y1, .int .i64 y2, .int .i64 y3, .int .i64 y4] 25)).trans hB3); clear hv3 hB3))
        refine ⟨⟨[], B, D ++ [y], a, q, 0, m, ca, (cb - 1), rfl, rfl, ha, (by omega), hn, HLB, Lib.hid (by have := hsz.out; simp; omega), Lib.hid ⟨Reads5.nil _ _, hq.out, ?_, (by simp), (fun z hz => HREL.out.ob z (List.mem_cons_of_mem _ hz)), ?_, B3.out⟩⟩, by simp [slen]; try omega⟩
        · have h := HEQ.out; simpa [one, kU] using h
        · have h := O3.out; rw [List.length_append, List.map_append, List.map_singleton, Hy.out]; exact h
    · obtain ⟨n, rfl⟩ : ∃ n', n = n' + 1 := ⟨A.length, hn.out.symm⟩
      have HLA : Hid (A.length = n) := Lib.hid (by have := hn.out; simpa using this)
      have h1 : (0 : Int) < ((n + 1 : Nat) : Int) := by omega
      have h2 : decide ((0 : Int) < ((n + 1 : Nat) : Int)) = true := decide_eq_true h1
      obtain ⟨g, o, rfl, hg, hatx, htlx⟩ := reads_head HREL.out.ra
      have HTx := Lib.hid htlx
      have hox := Lib.hid (HREL.out.oa x (List.mem_cons_self ..))
      obtain ⟨⟨x0, x1, x2, x3, x4⟩, hx⟩ : ∃ v, pad5 x = v := ⟨_, rfl⟩
      rw [hx] at hatx
      have Hx := Lib.hid hx
      have HAx := Lib.hid (hatx.below HREL.out.hb)
      have hlg : g < wr.heap.size := Nat.lt_of_lt_of_le hg HREL.out.hb.size
      clear htlx hatx hx
      have hq : Hid (Reads5 w (if ca = 1 then some ⟨g, o, none⟩ else some ⟨g, o + 5, none⟩) (A.map pad5)) := Lib.hid (tail_if (by have := HLA.out; omega) HTx.out)
      rcases B with _ | ⟨y, B⟩
      · obtain rfl : m = 0 := hm.out.symm
        have hR := HREL.out.eq
        rw [mrg_left] at hR
        have HEQ := Lib.hid hR
        clear hR hn
        go_wp2_with (first
          | (go_at_call 77; refine (heads_right _ _ _ _ _ _ (by omega)).mono ?_; rintro e w2 ⟨rfl, rfl⟩))
        have X := Box.new wr 25 #[.int .i64 0, .int .i64 0, .int .i64 0, .int .i64 0, .int .i64 0]
        have HB1 := Lib.hid (HB0.out.alloc HB0.out.size (.cells #[.int .i64 0, .int .i64 0, .int .i64 0, .int .i64 0, .int .i64 0] 25))
        have HW1 := Lib.hid ((Below.refl wr.heap.size wr).alloc (Nat.le_refl _) (.cells #[.int .i64 0, .int .i64 0, .int .i64 0, .int .i64 0, .int .i64 0] 25))
        generalize wr.alloc (.cells #[.int .i64 0, .int .i64 0, .int .i64 0, .int .i64 0, .int .i64 0] 25) = W at X HB1 HW1 ⊢
        obtain ⟨c0, c1, c2, c3, c4⟩ := (HAx.out.below HW1.out)
        obtain ⟨zc0, zc1, zc2, zc3, zc4⟩ := X.cell5
        obtain ⟨f0, f1, f2, f3, f4⟩ := X.free5
        have hxg : wr.heap.size ≠ g := by omega
        have hgx : g ≠ wr.heap.size := by omega
        have HX := Lib.hid X
        clear X
        go_region
        have HX2 := Lib.hid (HX.out.put5 (.int .i64 x0) (.int .i64 x1) (.int .i64 x2) (.int .i64 x3) (.int .i64 x4)).drew
        have HB2 := Lib.hid (below_put5 HB1.out HB0.out.size (.int .i64 x0) (.int .i64 x1) (.int .i64 x2) (.int .i64 x3) (.int .i64 x4)).drew
        have HW2 := Lib.hid (below_put5 HW1.out (Nat.le_refl _) (.int .i64 x0) (.int .i64 x1) (.int .i64 x2) (.int .i64 x3) (.int .i64 x4)).drew
        clear c0 c1 c2 c3 c4 zc0 zc1 zc2 zc3 zc4 f0 f1 f2 f3 f4 HX HB1 HW1 hxg hgx
        generalize (if ca = 1 then some (⟨g, o, none⟩ : Addr) else some ⟨g, o + 5, none⟩) = q at hq ⊢
        generalize (((((W.setCell ⟨wr.heap.size, 0, none⟩ (.int .i64 x0)).setCell ⟨wr.heap.size, 1, none⟩ (.int .i64 x1)).setCell ⟨wr.heap.size, 2, none⟩ (.int .i64 x2)).setCell ⟨wr.heap.size, 3, none⟩ (.int .i64 x3)).setCell ⟨wr.heap.size, 4, none⟩ (.int .i64 x4)).drew = W2 at HX2 HB2 HW2 ⊢
        have X := HX2.out
        have HB1 := HB2
        have HW1 := HW2
        clear HX2 HB2 HW2
        obtain ⟨zc0, zc1, zc2, zc3, zc4⟩ := X.cell5
        have HROW2 := Lib.hid (own5_below HREL.out.row HW1.out)
        have HSL := HB1.out.size
        go_wp2_with (first
          | (go_at_call 76; refine (kU_tf _).mono ?_; rintro e w3 ⟨rfl, rfl⟩)
          | (at_builtin; refine append_in5 rfl (.tmp 46) (.tmp 48) rfl w.heap.size _ D.length _ rfl (HROW2.out.alloc _) (some ⟨W2.heap.size, 0, none⟩) [(x0, x1, x2, x3, x4)] 1 1 rfl rfl (by decide) (reads5_block (Box.new W2 25 #[.int .i64 x0, .int .i64 x1, .int .i64 x2, .int .i64 x3, .int .i64 x4]) rfl) (by have := hsz.out; omega) (by simp; omega) ?_; intro v3 w3 hv3 hB3; have O3 := Lib.hid hv3; have B3 := Lib.hid ((HB1.out.alloc HB1.out.size (.cells #[.int .i64 x0, .int .i64 x1, .int .i64 x2, .int .i64 x3, .int .i64 x4] 25)).trans hB3); clear hv3 hB3))
        refine ⟨⟨A, [], D ++ [x], q, b, n, 0, (ca - 1), cb, rfl, rfl, (by omega), hb, HLA, hm, Lib.hid (by have := hsz.out; simp; omega), Lib.hid ⟨hq.out, Reads5.nil _ _, ?_, (fun z hz => HREL.out.oa z (List.mem_cons_of_mem _ hz)), (by simp), ?_, B3.out⟩⟩, by simp [slen]; try omega⟩
        · have h := HEQ.out; simpa [one, kU] using h
        · have h := O3.out; rw [List.length_append, List.map_append, List.map_singleton, Hx.out]; exact h
      · obtain ⟨m, rfl⟩ : ∃ m', m = m' + 1 := ⟨B.length, hm.out.symm⟩
        have HLB : Hid (B.length = m) := Lib.hid (by have := hm.out; simpa using this)
        obtain ⟨gg, oo, rfl, hgg, haty, htly⟩ := reads_head HREL.out.rb
        have HTy := Lib.hid htly
        have hoy := Lib.hid (HREL.out.ob y (List.mem_cons_self ..))
        obtain ⟨⟨y0, y1, y2, y3, y4⟩, hy⟩ : ∃ v, pad5 y = v := ⟨_, rfl⟩
        rw [hy] at haty
        have Hy := Lib.hid hy
        have HAy := Lib.hid (haty.below HREL.out.hb)
        have hlgg : gg < wr.heap.size := Nat.lt_of_lt_of_le hgg HREL.out.hb.size
        clear htly haty hy
        have hr : Hid (Reads5 w (if cb = 1 then some ⟨gg, oo, none⟩ else some ⟨gg, oo + 5, none⟩) (B.map pad5)) := Lib.hid (tail_if (by have := HLB.out; omega) HTy.out)
        have h3 : (0 : Int) < ((m + 1 : Nat) : Int) := by omega
        obtain ⟨v, hv⟩ : ∃ v, cmpL x y = v := ⟨_, rfl⟩
        have HCV := Lib.hid ((cmpE_ok hox.out hoy.out Hx.out Hy.out).trans (by rw [hv]))
        have hrg := cmpL_range x y
        have hR := HREL.out.eq
        rcases hrg with h | h | h
        · have hv2 : cmpL x y = (-1) := h
          rw [mrg_lt kU x y A B (by omega)] at hR
          have HEQ := Lib.hid hR
          obtain rfl : v = (-1) := hv.symm.trans hv2
          clear hR hv hv2 h
          go_wp2_with (first
            | (go_at_call 77; refine (heads_both _ _ _ _ _ _ _ (by omega) (by omega) g gg o oo x0 x1 x2 x3 x4 y0 y1 y2 y3 y4 (-1) rfl rfl HAx HAy HCV).mono ?_; rintro e w2 ⟨rfl, hB⟩; have B2 := Lib.hid hB; clear hB))
          have HREL2 := Lib.hid (HREL.out.on B2.out)
          have HAx2 := Lib.hid (HAx.out.below B2.out)
          have HAy2 := Lib.hid (HAy.out.below B2.out)
          have hlg2 := Nat.lt_of_lt_of_le hlg B2.out.size
          have hlgg2 := Nat.lt_of_lt_of_le hlgg B2.out.size
          clear HREL HAx HAy HB0 hws hlg hlgg
          have HREL := HREL2
          have HAx := HAx2
          have HAy := HAy2
          have hlg := hlg2
          have hlgg := hlgg2
          clear HREL2 HAx2 HAy2 hlg2 hlgg2 B2
          have HB0 := Lib.hid HREL.out.hb
          have hws := HREL.out.hb.size
          have X := Box.new w2 25 #[.int .i64 0, .int .i64 0, .int .i64 0, .int .i64 0, .int .i64 0]
          have HB1 := Lib.hid (HB0.out.alloc HB0.out.size (.cells #[.int .i64 0, .int .i64 0, .int .i64 0, .int .i64 0, .int .i64 0] 25))
          have HW1 := Lib.hid ((Below.refl w2.heap.size w2).alloc (Nat.le_refl _) (.cells #[.int .i64 0, .int .i64 0, .int .i64 0, .int .i64 0, .int .i64 0] 25))
          generalize w2.alloc (.cells #[.int .i64 0, .int .i64 0, .int .i64 0, .int .i64 0, .int .i64 0] 25) = W at X HB1 HW1 ⊢
          obtain ⟨c0, c1, c2, c3, c4⟩ := (HAx.out.below HW1.out)
          obtain ⟨zc0, zc1, zc2, zc3, zc4⟩ := X.cell5
          obtain ⟨f0, f1, f2, f3, f4⟩ := X.free5
          have hxg : w2.heap.size ≠ g := by omega
          have hgx : g ≠ w2.heap.size := by omega
          have HX := Lib.hid X
          clear X
          go_region
          have HX2 := Lib.hid (HX.out.put5 (.int .i64 x0) (.int .i64 x1) (.int .i64 x2) (.int .i64 x3) (.int .i64 x4)).drew
          have HB2 := Lib.hid (below_put5 HB1.out HB0.out.size (.int .i64 x0) (.int .i64 x1) (.int .i64 x2) (.int .i64 x3) (.int .i64 x4)).drew
          have HW2 := Lib.hid (below_put5 HW1.out (Nat.le_refl _) (.int .i64 x0) (.int .i64 x1) (.int .i64 x2) (.int .i64 x3) (.int .i64 x4)).drew
          clear c0 c1 c2 c3 c4 zc0 zc1 zc2 zc3 zc4 f0 f1 f2 f3 f4 HX HB1 HW1 hxg hgx
          generalize (if ca = 1 then some (⟨g, o, none⟩ : Addr) else some ⟨g, o + 5, none⟩) = q at hq ⊢
          generalize (((((W.setCell ⟨w2.heap.size, 0, none⟩ (.int .i64 x0)).setCell ⟨w2.heap.size, 1, none⟩ (.int .i64 x1)).setCell ⟨w2.heap.size, 2, none⟩ (.int .i64 x2)).setCell ⟨w2.heap.size, 3, none⟩ (.int .i64 x3)).setCell ⟨w2.heap.size, 4, none⟩ (.int .i64 x4)).drew = W2 at HX2 HB2 HW2 ⊢
          have X := HX2.out
          have HB1 := HB2
          have HW1 := HW2
          clear HX2 HB2 HW2
          obtain ⟨zc0, zc1, zc2, zc3, zc4⟩ := X.cell5
          have HROW2 := Lib.hid (own5_below HREL.out.row HW1.out)
          have HSL := HB1.out.size
          go_wp2_with (first
            | (go_at_call 76; refine (kU_tf _).mono ?_; rintro e w3 ⟨rfl, rfl⟩)
            | (at_builtin; refine append_in5 rfl (.tmp 46) (.tmp 48) rfl w.heap.size _ D.length _ rfl (HROW2.out.alloc _) (some ⟨W2.heap.size, 0, none⟩) [(x0, x1, x2, x3, x4)] 1 1 rfl rfl (by decide) (reads5_block (Box.new W2 25 #[.int .i64 x0, .int .i64 x1, .int .i64 x2, .int .i64 x3, .int .i64 x4]) rfl) (by have := hsz.out; omega) (by simp; omega) ?_; intro v3 w3 hv3 hB3; have O3 := Lib.hid hv3; have B3 := Lib.hid ((HB1.out.alloc HB1.out.size (.cells #[.int .i64 x0, .int .i64 x1, .int .i64 x2, .int .i64 x3, .int .i64 x4] 25)).trans hB3); clear hv3 hB3))
          refine ⟨⟨A, (y :: B), D ++ [x], q, _, n, (m + 1), (ca - 1), cb, rfl, rfl, (by omega), hb, HLA, hm, Lib.hid (by have := hsz.out; simp; omega), Lib.hid ⟨hq.out, HREL.out.rb, ?_, (fun z hz => HREL.out.oa z (List.mem_cons_of_mem _ hz)), HREL.out.ob, ?_, B3.out⟩⟩, by simp [slen]; try omega⟩
          · have h := HEQ.out; simpa [one, kU] using h
          · have h := O3.out; rw [List.length_append, List.map_append, List.map_singleton, Hx.out]; exact h
        · have hv2 : cmpL x y = 0 := h
          rw [mrg_eq kU x y A B (by omega)] at hR
          have HEQ := Lib.hid hR
          obtain rfl : v = 0 := hv.symm.trans hv2
          clear hR hv hv2 h
          go_wp2_with (first
            | (go_at_call 77; refine (heads_both _ _ _ _ _ _ _ (by omega) (by omega) g gg o oo x0 x1 x2 x3 x4 y0 y1 y2 y3 y4 0 rfl rfl HAx HAy HCV).mono ?_; rintro e w2 ⟨rfl, hB⟩; have B2 := Lib.hid hB; clear hB))
          have HREL2 := Lib.hid (HREL.out.on B2.out)
          have HAx2 := Lib.hid (HAx.out.below B2.out)
          have HAy2 := Lib.hid (HAy.out.below B2.out)
          have hlg2 := Nat.lt_of_lt_of_le hlg B2.out.size
          have hlgg2 := Nat.lt_of_lt_of_le hlgg B2.out.size
          clear HREL HAx HAy HB0 hws hlg hlgg
          have HREL := HREL2
          have HAx := HAx2
          have HAy := HAy2
          have hlg := hlg2
          have hlgg := hlgg2
          clear HREL2 HAx2 HAy2 hlg2 hlgg2 B2
          have HB0 := Lib.hid HREL.out.hb
          have hws := HREL.out.hb.size
          have X := Box.new w2 25 #[.int .i64 0, .int .i64 0, .int .i64 0, .int .i64 0, .int .i64 0]
          have HB1 := Lib.hid (HB0.out.alloc HB0.out.size (.cells #[.int .i64 0, .int .i64 0, .int .i64 0, .int .i64 0, .int .i64 0] 25))
          have HW1 := Lib.hid ((Below.refl w2.heap.size w2).alloc (Nat.le_refl _) (.cells #[.int .i64 0, .int .i64 0, .int .i64 0, .int .i64 0, .int .i64 0] 25))
          generalize w2.alloc (.cells #[.int .i64 0, .int .i64 0, .int .i64 0, .int .i64 0, .int .i64 0] 25) = W at X HB1 HW1 ⊢
          obtain ⟨c0, c1, c2, c3, c4⟩ := (HAx.out.below HW1.out)
          obtain ⟨zc0, zc1, zc2, zc3, zc4⟩ := X.cell5
          obtain ⟨f0, f1, f2, f3, f4⟩ := X.free5
          have hxg : w2.heap.size ≠ g := by omega
          have hgx : g ≠ w2.heap.size := by omega
          have HX := Lib.hid X
          clear X
          go_region
          have HX2 := Lib.hid (HX.out.put5 (.int .i64 x0) (.int .i64 x1) (.int .i64 x2) (.int .i64 x3) (.int .i64 x4)).drew
          have HB2 := Lib.hid (below_put5 HB1.out HB0.out.size (.int .i64 x0) (.int .i64 x1) (.int .i64 x2) (.int .i64 x3) (.int .i64 x4)).drew
          have HW2 := Lib.hid (below_put5 HW1.out (Nat.le_refl _) (.int .i64 x0) (.int .i64 x1) (.int .i64 x2) (.int .i64 x3) (.int .i64 x4)).drew
          clear c0 c1 c2 c3 c4 zc0 zc1 zc2 zc3 zc4 f0 f1 f2 f3 f4 HX HB1 HW1 hxg hgx
          generalize (if ca = 1 then some (⟨g, o, none⟩ : Addr) else some ⟨g, o + 5, none⟩) = q at hq ⊢
          generalize (((((W.setCell ⟨w2.heap.size, 0, none⟩ (.int .i64 x0)).setCell ⟨w2.heap.size, 1, none⟩ (.int .i64 x1)).setCell ⟨w2.heap.size, 2, none⟩ (.int .i64 x2)).setCell ⟨w2.heap.size, 3, none⟩ (.int .i64 x3)).setCell ⟨w2.heap.size, 4, none⟩ (.int .i64 x4)).drew = W2 at HX2 HB2 HW2 ⊢
          have X := HX2.out
          have HB1 := HB2
          have HW1 := HW2
          clear HX2 HB2 HW2
          go_wp2
          obtain ⟨c0, c1, c2, c3, c4⟩ := (HAy.out.below HW1.out)
          obtain ⟨zc0, zc1, zc2, zc3, zc4⟩ := X.cell5
          obtain ⟨f0, f1, f2, f3, f4⟩ := X.free5
          have hxg : w2.heap.size ≠ gg := by omega
          have hgx : gg ≠ w2.heap.size := by omega
          have HX := Lib.hid X
          clear X
          go_region
          have HX2 := Lib.hid (HX.out.put5 (.int .i64 y0) (.int .i64 y1) (.int .i64 y2) (.int .i64 y3) (.int .i64 y4)).drew
          have HB2 := Lib.hid (below_put5 HB1.out HB0.out.size (.int .i64 y0) (.int .i64 y1) (.int .i64 y2) (.int .i64 y3) (.int .i64 y4)).drew
          have HW2 := Lib.hid (below_put5 HW1.out (Nat.le_refl _) (.int .i64 y0) (.int .i64 y1) (.int .i64 y2) (.int .i64 y3) (.int .i64 y4)).drew
          clear c0 c1 c2 c3 c4 zc0 zc1 zc2 zc3 zc4 f0 f1 f2 f3 f4 HX HB1 HW1 hxg hgx
          generalize (if cb = 1 then some (⟨gg, oo, none⟩ : Addr) else some ⟨gg, oo + 5, none⟩) = r at hr ⊢
          generalize (((((W2.setCell ⟨w2.heap.size, 0, none⟩ (.int .i64 y0)).setCell ⟨w2.heap.size, 1, none⟩ (.int .i64 y1)).setCell ⟨w2.heap.size, 2, none⟩ (.int .i64 y2)).setCell ⟨w2.heap.size, 3, none⟩ (.int .i64 y3)).setCell ⟨w2.heap.size, 4, none⟩ (.int .i64 y4)).drew = W3 at HX2 HB2 HW2 ⊢
          have X := HX2.out
          have HB1 := HB2
          have HW1 := HW2
          clear HX2 HB2 HW2
          obtain ⟨zc0, zc1, zc2, zc3, zc4⟩ := X.cell5
          have HROW2 := Lib.hid (own5_below HREL.out.row HW1.out)
          have HSL := HB1.out.size
          go_wp2_with (first
            | (go_at_call 76; refine (kU_tt _).mono ?_; rintro e w3 ⟨rfl, rfl⟩)
            | (at_builtin; refine append_in5 rfl (.tmp 46) (.tmp 48) rfl w.heap.size _ D.length _ rfl (HROW2.out.alloc _) (some ⟨W3.heap.size, 0, none⟩) [(y0, y1, y2, y3, y4)] 1 1 rfl rfl (by decide) (reads5_block (Box.new W3 25 #[.int .i64 y0, .int .i64 y1, .int .i64 y2, .int .i64 y3, .int .i64 y4]) rfl) (by have := hsz.out; omega) (by simp; omega) ?_; intro v3 w3 hv3 hB3; have O3 := Lib.hid hv3; have B3 := Lib.hid ((HB1.out.alloc HB1.out.size (.cells #[.int .i64 y0, .int .i64 y1, .int .i64 y2, .int .i64 y3, .int .i64 y4] 25)).trans hB3); clear hv3 hB3))
          refine ⟨⟨A, B, D ++ [y], q, r, n, m, (ca - 1), (cb - 1), rfl, rfl, (by omega), (by omega), HLA, HLB, Lib.hid (by have := hsz.out; simp; omega), Lib.hid ⟨hq.out, hr.out, ?_, (fun z hz => HREL.out.oa z (List.mem_cons_of_mem _ hz)), (fun z hz => HREL.out.ob z (List.mem_cons_of_mem _ hz)), ?_, B3.out⟩⟩, by simp [slen]; try omega⟩
          · have h := HEQ.out; simpa [one, kU] using h
          · have h := O3.out; rw [List.length_append, List.map_append, List.map_singleton, Hy.out]; exact h
        · have hv2 : cmpL x y = 1 := h
          rw [mrg_gt kU x y A B (by omega)] at hR
          have HEQ := Lib.hid hR
          obtain rfl : v = 1 := hv.symm.trans hv2
          clear hR hv hv2 h
          go_wp2_with (first
            | (go_at_call 77; refine (heads_both _ _ _ _ _ _ _ (by omega) (by omega) g gg o oo x0 x1 x2 x3 x4 y0 y1 y2 y3 y4 1 rfl rfl HAx HAy HCV).mono ?_; rintro e w2 ⟨rfl, hB⟩; have B2 := Lib.hid hB; clear hB))
          have HREL2 := Lib.hid (HREL.out.on B2.out)
          have HAx2 := Lib.hid (HAx.out.below B2.out)
          have HAy2 := Lib.hid (HAy.out.below B2.out)
          have hlg2 := Nat.lt_of_lt_of_le hlg B2.out.size
          have hlgg2 := Nat.lt_of_lt_of_le hlgg B2.out.size
          clear HREL HAx HAy HB0 hws hlg hlgg
          have HREL := HREL2
          have HAx := HAx2
          have HAy := HAy2
          have hlg := hlg2
          have hlgg := hlgg2
          clear HREL2 HAx2 HAy2 hlg2 hlgg2 B2
          have HB0 := Lib.hid HREL.out.hb
          have hws := HREL.out.hb.size
          have X := Box.new w2 25 #[.int .i64 0, .int .i64 0, .int .i64 0, .int .i64 0, .int .i64 0]
          have HB1 := Lib.hid (HB0.out.alloc HB0.out.size (.cells #[.int .i64 0, .int .i64 0, .int .i64 0, .int .i64 0, .int .i64 0] 25))
          have HW1 := Lib.hid ((Below.refl w2.heap.size w2).alloc (Nat.le_refl _) (.cells #[.int .i64 0, .int .i64 0, .int .i64 0, .int .i64 0, .int .i64 0] 25))
          generalize w2.alloc (.cells #[.int .i64 0, .int .i64 0, .int .i64 0, .int .i64 0, .int .i64 0] 25) = W at X HB1 HW1 ⊢
          obtain ⟨c0, c1, c2, c3, c4⟩ := (HAy.out.below HW1.out)
          obtain ⟨zc0, zc1, zc2, zc3, zc4⟩ := X.cell5
          obtain ⟨f0, f1, f2, f3, f4⟩ := X.free5
          have hxg : w2.heap.size ≠ gg := by omega
          have hgx : gg ≠ w2.heap.size := by omega
          have HX := Lib.hid X
          clear X
          go_region
          have HX2 := Lib.hid (HX.out.put5 (.int .i64 y0) (.int .i64 y1) (.int .i64 y2) (.int .i64 y3) (.int .i64 y4)).drew
          have HB2 := Lib.hid (below_put5 HB1.out HB0.out.size (.int .i64 y0) (.int .i64 y1) (.int .i64 y2) (.int .i64 y3) (.int .i64 y4)).drew
          have HW2 := Lib.hid (below_put5 HW1.out (Nat.le_refl _) (.int .i64 y0) (.int .i64 y1) (.int .i64 y2) (.int .i64 y3) (.int .i64 y4)).drew
          clear c0 c1 c2 c3 c4 zc0 zc1 zc2 zc3 zc4 f0 f1 f2 f3 f4 HX HB1 HW1 hxg hgx
          generalize (if cb = 1 then some (⟨gg, oo, none⟩ : Addr) else some ⟨gg, oo + 5, none⟩) = r at hr ⊢
          generalize (((((W.setCell ⟨w2.heap.size, 0, none⟩ (.int .i64 y0)).setCell ⟨w2.heap.size, 1, none⟩ (.int .i64 y1)).setCell ⟨w2.heap.size, 2, none⟩ (.int .i64 y2)).setCell ⟨w2.heap.size, 3, none⟩ (.int .i64 y3)).setCell ⟨w2.heap.size, 4, none⟩ (.int .i64 y4)).drew = W2 at HX2 HB2 HW2 ⊢
          have X := HX2.out
          have HB1 := HB2
          have HW1 := HW2
          clear HX2 HB2 HW2
          obtain ⟨zc0, zc1, zc2, zc3, zc4⟩ := X.cell5
          have HROW2 := Lib.hid (own5_below HREL.out.row HW1.out)
          have HSL := HB1.out.size
          go_wp2_with (first
            | (go_at_call 76; refine (kU_ft _).mono ?_; rintro e w3 ⟨rfl, rfl⟩)
            | (at_builtin; refine append_in5 rfl (.tmp 46) (.tmp 48) rfl w.heap.size _ D.length _ rfl (HROW2.out.alloc _) (some ⟨W2.heap.size, 0, none⟩) [(y0, y1, y2, y3, y4)] 1 1 rfl rfl (by decide) (reads5_block (Box.new W2 25 #[.int .i64 y0, .int .i64 y1, .int .i64 y2, .int .i64 y3, .int .i64 y4]) rfl) (by have := hsz.out; omega) (by simp; omega) ?_; intro v3 w3 hv3 hB3; have O3 := Lib.hid hv3; have B3 := Lib.hid ((HB1.out.alloc HB1.out.size (.cells #[.int .i64 y0, .int .i64 y1, .int .i64 y2, .int .i64 y3, .int .i64 y4] 25)).trans hB3); clear hv3 hB3))
          refine ⟨⟨(x :: A), B, D ++ [y], _, r, (n + 1), m, ca, (cb - 1), rfl, rfl, ha, (by omega), hn, HLB, Lib.hid (by have := hsz.out; simp; omega), Lib.hid ⟨HREL.out.ra, hr.out, ?_, HREL.out.oa, (fun z hz => HREL.out.ob z (List.mem_cons_of_mem _ hz)), ?_, B3.out⟩⟩, by simp [slen]; try omega⟩
          · have h := HEQ.out; simpa [one, kU] using h
          · have h := O3.out; rw [List.length_append, List.map_append, List.map_singleton, Hy.out]; exact h
end Go.Proofs.Ytdahaajfkjmflaa.s14

namespace Go.Proofs.Ytdahaajfkjmflaa.s14
set_option linter.unusedVariables false
set_option linter.unusedSimpArgs false
open Go.RowKit
open kit

open s13

set_option maxRecDepth 100000 in
set_option maxHeartbeats 1000000 in
theorem union_any (a b : Option Addr) (n m ca cb : Nat) (A B : List (List Int)) (w : World) (hn : Hid (A.length = n)) (hm : Hid (B.length = m)) (ha : n ≤ ca) (hb : m ≤ cb) (hsz : n + m ≤ 100000) (hA : Hid (∀ x ∈ A, okL 8 x)) (hB : Hid (∀ x ∈ B, okL 8 x)) (ra : Hid (Reads5 w a (A.map pad5))) (rb : Hid (Reads5 w b (B.map pad5))) (R : List (List Int)) (N : Nat) (HR : Hid (mrg kU A B = R)) (HN : Hid (R.length = N)) :
    Calls Try.prog 52 #[.slice a n ca, .slice b m cb] w fun e w' => ∃ p cp, e = .returned (.slice p N cp) ∧ Reads5 w' p (R.map pad5) ∧ Below w.heap.size w w' ∧ N ≤ cp := by
  go_enter Try.func52, Try.ntmps52
  go_wp2_with (go_at_call 54; refine (mergeU a b n m ca cb A B _ hn hm ha hb hsz hA hB ra rb R N HR HN).mono ?_; rintro e w1 ⟨p, cp, rfl, hR1, hB1, hc1⟩; have HR1 := Lib.hid hR1; have HB1 := Lib.hid hB1; clear hR1 hB1)
  go_ret
  exact ⟨p, cp, rfl, HR1.out, HB1.out, hc1⟩
theorem cutE_ok {x : List Int} (hx : okL 8 x) {K : Nat} (hK : K ≤ 4) {X : V5} (ex : pad5 x = X) : cutE X K = (pad5 (x.take K), 0) := by
  have h1 := pad5_chk (n := X.1) (a := X.2.1) (b := X.2.2.1) (c := X.2.2.2.1) (d := X.2.2.2.2) hx (by omega) (by omega) ex
  unfold cutE
  rw [if_neg (by simpa using h1), if_neg (by omega), ← ex, lst_pad hx.1, Int.toNat_natCast]
theorem take_getL {l : List (List Int)} {k : Nat} (h : k < l.length) : l.take (k + 1) = l.take k ++ [l[k]?.getD []] := by rw [List.take_succ_eq_append_getElem h, List.getElem?_eq_getElem h]; rfl
theorem mem_getL {l : List (List Int)} {k : Nat} (h : k < l.length) : l[k]?.getD [] ∈ l := by rw [List.getElem?_eq_getElem h]; exact List.getElem_mem h
theorem map_getD {L : List (List Int)} {i : Nat} (h : i < L.length) : (L.map pad5)[i]?.getD no5 = pad5 (L[i]?.getD []) := by rw [List.getElem?_map, List.getElem?_eq_getElem h]; rfl
theorem flat_snoc (L : List (List Int)) (x : List Int) {X : V5} (h : pad5 x = X) : flat5 ((L ++ [x]).map pad5) = flat5 (L.map pad5 ++ [X]) := by rw [List.map_append, List.map_singleton, h]
set_option maxRecDepth 100000 in
set_option maxHeartbeats 6000000 in
theorem pcutset_any (a : Option Addr) (n c K : Nat) (L : List (List Int)) (w : World) (hl : Hid (L.length = n)) (hn : n ≤ 60000) (hK : K ≤ 4) (hL : Hid (∀ x ∈ L, okL 8 x)) (hr : Hid (Reads5 w a (L.map pad5))) (R : List (List Int)) (N : Nat) (HR : Hid (cutS K L = R)) (HN : Hid (R.length = N)) :
    Calls Try.prog 60 #[.slice a n c, .int .i64 K] w fun e w' => ∃ p cp, e = .returned (.slice p N cp) ∧ Reads5 w' p (R.map pad5) ∧ Below w.heap.size w w' ∧ N ≤ cp ∧ NewAt w.heap.size p := by
  go_enter Try.func60, Try.ntmps60
  go_wp2
  go_loopw [5, 12] (fun v5 v12 wr => ∃ i : Nat, v12 = .int .i64 i ∧ i ≤ n ∧ Hid (wr.ownsRow w.heap.size 25 5 v5 i (flat5 (((L.take i).map (List.take K)).map pad5))) ∧ Hid (Below w.heap.size w wr)) (fun _ v _ => n - (intOf v).toNat)
  case atStart => exact ⟨0, rfl, by omega, Lib.hid (World.ownsRow_nil _ _ _ _), Lib.hid (Below.refl _ _)⟩
  case round =>
    obtain ⟨i, rfl, hi, HRow, HB⟩ := hrel
    by_cases hlt : i < n
    · have hil : i < L.length := by rw [hl.out]; exact hlt
      obtain ⟨g, o, rfl, hg, hat⟩ := (hr.out.below HB.out) i (by rw [List.length_map]; exact hil)
      rw [map_getD hil] at hat
      have hok := hL.out _ (mem_getL hil)
      have htk := take_getL hil
      generalize L[i]?.getD [] = x at hat hok htk
      obtain ⟨⟨x0, x1, x2, x3, x4⟩, ex⟩ : ∃ y, pad5 x = y := ⟨_, rfl⟩
      rw [ex] at hat
      obtain ⟨c0, c1, c2, c3, c4⟩ := hat
      obtain ⟨⟨y0, y1, y2, y3, y4⟩, ey⟩ : ∃ y, pad5 (x.take K) = y := ⟨_, rfl⟩
      have HE : Hid (cutE (x0, x1, x2, x3, x4) (K : Int) = ((y0, y1, y2, y3, y4), 0)) := Lib.hid (by rw [cutE_ok hok hK ex, ey])
      have HTK := Lib.hid (show ((L.take (i + 1)).map (List.take K)) = (L.take i).map (List.take K) ++ [x.take K] by rw [htk, List.map_append]; rfl)
      have HEY := Lib.hid ey
      have hsz := HB.out.size
      clear hil hok htk ex ey
      go_wp2_with (first
        | (go_at_call 78; refine (pcut_any x0 x1 x2 x3 x4 (K : Int) _ (y0, y1, y2, y3, y4) 0 HE).mono ?_; rintro e w1 ⟨rfl, hB⟩; have B1 := Lib.hid (below_on (HB.out.alloc HB.out.size (.cells #[.int .i64 x0, .int .i64 x1, .int .i64 x2, .int .i64 x3, .int .i64 x4] 25)) (Nat.le_refl _) hB); have R1 := Lib.hid (own5_below HRow.out (made1 hB).2); have S1 := B1.out.size; clear hB)
        | (at_builtin; refine append_in5 rfl (.tmp 22) (.tmp 24) rfl w.heap.size _ i _ rfl ((R1.out.alloc _).alloc _) _ [(y0, y1, y2, y3, y4)] 1 1 rfl rfl (by decide) (reads5_block (new2 w1 (.cells #[.int .i64 y0, .int .i64 y1, .int .i64 y2, .int .i64 y3, .int .i64 y4] 25) 25 #[.int .i64 y0, .int .i64 y1, .int .i64 y2, .int .i64 y3, .int .i64 y4]) rfl) (by omega) (by simp; omega) ?_; intro v3 w3 hv3 hB3; have O3 := Lib.hid hv3; have B3 := Lib.hid (((B1.out.alloc B1.out.size (.cells #[.int .i64 y0, .int .i64 y1, .int .i64 y2, .int .i64 y3, .int .i64 y4] 25)).alloc (by simp; omega) (.cells #[.int .i64 y0, .int .i64 y1, .int .i64 y2, .int .i64 y3, .int .i64 y4] 25)).trans hB3); clear hv3 hB3))
      go_roundw
      case rel => exact ⟨i + 1, by go_num, by omega, Lib.hid (by rw [HTK.out, flat_snoc _ _ HEY.out]; exact O3.out), B3⟩
      case measure => simp [intOf]; omega
    · obtain rfl : i = n := by omega
      have hrow := HRow.out
      rw [List.take_of_length_le (by rw [hl.out]; omega)] at hrow
      have hcomp : compV ((L.map (List.take K)).map pad5) = R.map pad5 := by
        rw [compV_pad _ (fun y hy => by
          obtain ⟨x, hx, rfl⟩ := List.mem_map.1 hy
          have := (hL.out x hx).1
          rw [List.length_take]; omega)]
        show (cutS K L).map pad5 = _
        rw [HR.out]
      have hlen : (L.map (List.take K)).length = i := by rw [List.length_map]; exact hl.out
      obtain ⟨p, cp, rfl, hcp⟩ := row5_shape hrow
      by_cases h2 : i < 2
      · have hRl : R = L.map (List.take K) := by
          rw [← HR.out]
          unfold cutS
          match hh : L.map (List.take K), hlen with
          | [], _ => rfl
          | [x], _ => rfl
          | _ :: _ :: _, h => simp at h; omega
        have hNi : N = i := by rw [← HN.out, hRl, hlen]
        subst hNi
        have HNW := Lib.hid (row_new hrow)
        have HRED := Lib.hid (reads5_of_row (by rw [List.length_map]; exact hlen) hrow)
        have HRL := Lib.hid hRl
        clear hrow hcomp hlen hRl HRow
        go_wp2_with (go_at_call 79; refine (compact_short p _ cp _ h2).mono ?_; rintro e w1 ⟨rfl, rfl⟩)
        go_ret
        exact ⟨p, cp, rfl, by rw [HRL.out]; exact HRED.out, HB.out, hcp, HNW.out⟩
      · obtain ⟨g, cap, e, hcg, hbg, hR5⟩ := row5_of (by rw [List.length_map]; exact hlen) (by omega) hrow
        cases e
        have HC := Lib.hid hcomp
        have HL2 := Lib.hid (show ((L.map (List.take K)).map pad5).length = i by rw [List.length_map]; exact hlen)
        have HR5 := Lib.hid hR5
        have HN2 := Lib.hid (show (R.map pad5).length = N by rw [List.length_map]; exact HN.out)
        have hws := HB.out.size
        clear hrow hcomp hlen HRow hR5
        go_wp2_with (go_at_call 79; refine (compact_any w.heap.size g i cp _ _ HL2 (by omega) (by omega) hcp hbg hws HR5 (R.map pad5) N HC HN2).mono ?_; rintro e w1 ⟨q, cq, rfl, hR1, hB1, hc1, hw1⟩; have HR1 := Lib.hid hR1; have HB1 := Lib.hid (HB.out.trans hB1); have HW1 := Lib.hid hw1; clear hR1 hB1 hw1)
        go_ret
        exact ⟨q, cq, rfl, HR1.out, HB1.out, hc1, HW1.out⟩
end Go.Proofs.Ytdahaajfkjmflaa.s14

namespace Go.Proofs.Ytdahaajfkjmflaa.s14
set_option linter.unusedVariables false
set_option linter.unusedSimpArgs false
open Go.RowKit
open kit

open s13

theorem filt_more {L : List (List Int)} {n i : Nat} (h : i < L.length) : ofLen n (L.take (i + 1)) = ofLen n (L.take i) ++ (if (L[i]?.getD []).length = n then [L[i]?.getD []] else []) := by
  rw [take_getL h]
  unfold ofLen
  rw [List.filter_append]
  congr 1
  by_cases e : (L[i]?.getD []).length = n <;> simp [List.filter, e]
theorem ofLen_len (n : Nat) (L : List (List Int)) : (ofLen n L).length ≤ L.length := List.length_filter_le _ _
theorem pad5_n {x : List Int} {x0 x1 x2 x3 x4 : Int} (h : pad5 x = (x0, x1, x2, x3, x4)) : x0 = (x.length : Int) := by
  have := congrArg Prod.fst h; simpa [pad5] using this.symm
set_option maxRecDepth 100000 in
set_option maxHeartbeats 6000000 in
theorem oflen_any (a : Option Addr) (n c m : Nat) (L : List (List Int)) (w : World) (hl : Hid (L.length = n)) (hn : n ≤ 60000) (hm : m ≤ 4) (hr : Hid (Reads5 w a (L.map pad5))) (R : List (List Int)) (N : Nat) (HR : Hid (ofLen m L = R)) (HN : Hid (R.length = N)) :
    Calls Try.prog 62 #[.slice a n c, .int .i64 m] w fun e w' => ∃ p cp, e = .returned (.slice p N cp) ∧ Reads5 w' p (R.map pad5) ∧ Below w.heap.size w w' ∧ N ≤ cp ∧ NewAt w.heap.size p := by
  go_enter Try.func62, Try.ntmps62
  go_wp2
  go_loopw [5, 10] (fun v5 v12 wr => ∃ i q : Nat, v12 = .int .i64 i ∧ i ≤ n ∧ q ≤ i ∧ Hid ((ofLen m (L.take i)).length = q) ∧ Hid (wr.ownsRow w.heap.size 25 5 v5 q (flat5 ((ofLen m (L.take i)).map pad5))) ∧ Hid (Below w.heap.size w wr)) (fun _ v _ => n - (intOf v).toNat)
  case atStart => exact ⟨0, 0, rfl, by omega, Nat.le_refl _, Lib.hid (by simp [ofLen]), Lib.hid (by simp only [List.take_zero, ofLen, List.filter_nil, List.map_nil]; exact World.ownsRow_nil _ _ _ _), Lib.hid (Below.refl _ _)⟩
  case round =>
    obtain ⟨i, q, rfl, hi, hqi, HQ, HRow, HB⟩ := hrel
    by_cases hlt : i < n
    · have hil : i < L.length := by rw [hl.out]; exact hlt
      obtain ⟨g, o, rfl, hg, hat⟩ := (hr.out.below HB.out) i (by rw [List.length_map]; exact hil)
      rw [map_getD hil] at hat
      have hfm := filt_more (n := m) hil
      generalize L[i]?.getD [] = x at hat hfm
      obtain ⟨⟨x0, x1, x2, x3, x4⟩, ex⟩ : ∃ y, pad5 x = y := ⟨_, rfl⟩
      rw [ex] at hat
      obtain ⟨c0, c1, c2, c3, c4⟩ := hat
      have hx0 := pad5_n ex
      have HEX := Lib.hid ex
      have HX0 := Lib.hid hx0
      have hsz := HB.out.size
      clear hil hx0 ex
      by_cases hxm : x.length = m
      · rw [if_pos hxm] at hfm
        have HFM := Lib.hid hfm
        have h1 : x0 = (m : Int) := by rw [HX0.out, hxm]
        subst h1
        have R1 := Lib.hid (HRow.out.alloc (.cells #[.int .i64 ((m : Int)), .int .i64 x1, .int .i64 x2, .int .i64 x3, .int .i64 x4] 25))
        have B1 := Lib.hid (HB.out.alloc HB.out.size (.cells #[.int .i64 ((m : Int)), .int .i64 x1, .int .i64 x2, .int .i64 x3, .int .i64 x4] 25))
        clear hfm hxm
        go_wp2_with (at_builtin; refine append_in5 rfl (.tmp 18) (.tmp 20) rfl w.heap.size _ q _ rfl (R1.out.alloc _) _ [((m : Int), x1, x2, x3, x4)] 1 1 rfl rfl (by decide) (reads5_block (new2 wr (.cells #[.int .i64 ((m : Int)), .int .i64 x1, .int .i64 x2, .int .i64 x3, .int .i64 x4] 25) 25 #[.int .i64 ((m : Int)), .int .i64 x1, .int .i64 x2, .int .i64 x3, .int .i64 x4]) rfl) (by omega) (by simp; omega) ?_; intro v3 w3 hv3 hB3; have O3 := Lib.hid hv3; have B3 := Lib.hid ((B1.out.alloc B1.out.size (.cells #[.int .i64 ((m : Int)), .int .i64 x1, .int .i64 x2, .int .i64 x3, .int .i64 x4] 25)).trans hB3); clear hv3 hB3)
        go_roundw
        case rel => exact ⟨i + 1, q + 1, by go_num, by omega, by omega, Lib.hid (by rw [HFM.out, List.length_append, HQ.out]; rfl), Lib.hid (by rw [HFM.out, flat_snoc _ _ HEX.out]; exact O3.out), B3⟩
        case measure => simp [intOf]; omega
      · rw [if_neg hxm, List.append_nil] at hfm
        have HFM := Lib.hid hfm
        have h1 : ¬ x0 = (m : Int) := by rw [HX0.out]; omega
        have h2 : decide (x0 = (m : Int)) = false := decide_eq_false h1
        clear hfm hxm
        go_wp2
        go_roundw
        case rel => exact ⟨i + 1, q, by go_num, by omega, by omega, Lib.hid (by rw [HFM.out]; exact HQ.out), Lib.hid (by rw [HFM.out]; exact HRow.out.alloc _), Lib.hid (HB.out.alloc HB.out.size _)⟩
        case measure => simp [intOf]; omega
    · obtain rfl : i = n := by omega
      have hrow := HRow.out
      have hq := HQ.out
      rw [List.take_of_length_le (by rw [hl.out]; omega), HR.out] at hrow hq
      rw [HN.out] at hq
      subst hq
      obtain ⟨p, cp, rfl, hcp⟩ := row5_shape hrow
      have HNW := Lib.hid (row_new hrow)
      have HROW := Lib.hid hrow
      clear hrow HRow
      go_wp2
      go_ret
      exact ⟨p, cp, rfl, reads5_of_row (by rw [List.length_map]; exact HN.out) HROW.out, HB.out, hcp, HNW.out⟩
set_option maxRecDepth 100000 in
set_option maxHeartbeats 1000000 in
theorem pairs_any (w : World) (a b : Option Addr) (n m ca cb : Nat) : Calls Try.prog 61 #[.slice a n ca, .slice b m cb] w fun e w' => e = .returned (.func (.func 80) #[] #[.pointer (some ⟨w.heap.size, 0, none⟩), .pointer (some ⟨w.heap.size + 1, 0, none⟩)]) ∧ w' = (w.alloc (.cells #[.slice a n ca] 22)).alloc (.cells #[.slice b m cb] 22) := by
  go_enter Try.func61, Try.ntmps61
  go_wp2
  go_ret
  exact ⟨rfl, rfl⟩
end Go.Proofs.Ytdahaajfkjmflaa.s14

namespace Go.Proofs.Ytdahaajfkjmflaa.s14
set_option linter.unusedVariables false
set_option linter.unusedSimpArgs false
open Go.RowKit
open kit

open s13

open Go.Shelf
attribute [local go_sem] Oper.semAt_some
theorem anyDepthR {F : Fence} {m k : Nat} {P : Program} {l : Nat} {f : FuncId} {tmps : Array Value} {a b : Code} {W : World} {R : Ending → World → Prop} (hd : F.depth = none) (h : RoundIn F m P l f tmps a b W R) : RoundIn F k P l f tmps a b W R :=
  ⟨h.1, fun c cs _ => h.2 c cs (fun d h => by rw [hd] at h; cases h)⟩
abbrev PL := List Int × List Int
/-- the pairs, in order -/
def pairsL (X Y : List (List Int)) : List PL := X.flatMap fun x => Y.map fun y => (x, y)
def aggL (x : List Int) : Value := .agg #[.int .i64 (pad5 x).1, .int .i64 (pad5 x).2.1, .int .i64 (pad5 x).2.2.1, .int .i64 (pad5 x).2.2.2.1, .int .i64 (pad5 x).2.2.2.2]
theorem aggL_eq {x : List Int} {a b c d e : Int} (h : pad5 x = (a, b, c, d, e)) : aggL x = .agg #[.int .i64 a, .int .i64 b, .int .i64 c, .int .i64 d, .int .i64 e] := by unfold aggL; rw [h]
def encP (x : PL) : Array Value := #[aggL x.1, aggL x.2]
def doneP (X Y : List (List Int)) (i j : Nat) : List PL := pairsL (X.take i) Y ++ (Y.take j).map fun y => (X[i]?.getD [], y)
theorem pairsL_more {X Y : List (List Int)} {i : Nat} (h : i < X.length) : pairsL (X.take (i + 1)) Y = pairsL (X.take i) Y ++ Y.map fun y => (X[i]?.getD [], y) := by
  rw [take_getL h]; unfold pairsL; rw [List.flatMap_append]; simp
theorem doneP_more {X Y : List (List Int)} {i j : Nat} (h : j < Y.length) : doneP X Y i (j + 1) = doneP X Y i j ++ [(X[i]?.getD [], Y[j]?.getD [])] := by
  unfold doneP; rw [take_getL h, List.map_append, List.append_assoc]; rfl
theorem doneP_row {X Y : List (List Int)} {i : Nat} (h : i < X.length) : doneP X Y i Y.length = pairsL (X.take (i + 1)) Y := by
  rw [pairsL_more h]; unfold doneP; rw [List.take_length]
theorem doneP_zero (X Y : List (List Int)) (i : Nat) : doneP X Y i 0 = pairsL (X.take i) Y := by unfold doneP; simp
theorem pairsL_pre {X Y : List (List Int)} (i : Nat) : pairsL (X.take i) Y <+: pairsL X Y := by
  refine ⟨pairsL (X.drop i) Y, ?_⟩
  unfold pairsL
  rw [← List.flatMap_append, List.take_append_drop]
theorem doneP_lt {X Y : List (List Int)} {i j : Nat} (hi : i < X.length) (hj : j < Y.length) : doneP X Y i (j + 1) <+: pairsL X Y := by
  refine List.IsPrefix.trans ?_ (pairsL_pre (X := X) (Y := Y) (i + 1))
  rw [pairsL_more hi]
  unfold doneP
  exact (List.prefix_append_right_inj _).2 ((List.take_prefix _ _).map _)
theorem doneP_len {X Y : List (List Int)} {i j : Nat} (hi : i < X.length) (hj : j < Y.length) : (doneP X Y i j).length < (pairsL X Y).length := by
  have h := (doneP_lt hi hj).length_le
  rw [doneP_more hj, List.length_append] at h
  simp at h; omega
/-- a list that lies in blocks of a set -/
def ReadsZ (Z : Nat → Prop) (W : World) (a : Option Addr) (l : List V5) : Prop := Reads5 W a l ∧ ∀ b o, a = some ⟨b, o, none⟩ → 0 < l.length → Z b
theorem ReadsZ.keep {Z : Nat → Prop} {W W' : World} {a : Option Addr} {l : List V5} (h : ReadsZ Z W a l) (hk : KeepZ Z W W') : ReadsZ Z W' a l := by
  refine ⟨fun i hi => ?_, h.2⟩
  obtain ⟨b, off, e, hb, h5⟩ := h.1 i hi
  have hz := h.2 b off e (by omega)
  have hbl := hk b hz
  have hc : ∀ k, W'.cell? ⟨b, k, none⟩ = W.cell? ⟨b, k, none⟩ := fun k => by unfold World.cell?; rw [hbl]
  refine ⟨b, off, e, ?_, ?_⟩
  · rcases Nat.lt_or_ge b W'.heap.size with h | h
    · exact h
    · rw [Array.getElem?_eq_none h] at hbl
      rw [Array.getElem?_eq_getElem hb] at hbl; cases hbl
  · obtain ⟨c0, c1, c2, c3, c4⟩ := h5
    exact ⟨(hc _).trans c0, (hc _).trans c1, (hc _).trans c2, (hc _).trans c3, (hc _).trans c4⟩
/-- what the iterator's variables hold -/
structure OwnP (Z : Nat → Prop) (W : World) (b1 b2 : Nat) (p q : Option Addr) (n m cp cq : Nat) (X Y : List (List Int)) : Prop where
  x : Box W 22 b1 #[.slice p n cp]
  y : Box W 22 b2 #[.slice q m cq]
  zx : Z b1
  zy : Z b2
  rx : ReadsZ Z W p (X.map pad5)
  ry : ReadsZ Z W q (Y.map pad5)
theorem OwnP.keep {Z : Nat → Prop} {W W' : World} {b1 b2 : Nat} {p q : Option Addr} {n m cp cq : Nat} {X Y : List (List Int)} (h : OwnP Z W b1 b2 p q n m cp cq X Y) (hk : KeepZ Z W W') : OwnP Z W' b1 b2 p q n m cp cq X Y :=
  ⟨(hk _ h.zx).trans h.x, (hk _ h.zy).trans h.y, h.zx, h.zy, h.rx.keep hk, h.ry.keep hk⟩
theorem OwnP.alloc {Z : Nat → Prop} {W : World} {b1 b2 : Nat} {p q : Option Addr} {n m cp cq : Nat} {X Y : List (List Int)} (h : OwnP Z W b1 b2 p q n m cp cq X Y) (o : Obj) : OwnP Z (W.alloc o) b1 b2 p q n m cp cq X Y :=
  ⟨h.x.alloc o, h.y.alloc o, h.zx, h.zy, ⟨h.rx.1.alloc o, h.rx.2⟩, ⟨h.ry.1.alloc o, h.ry.2⟩⟩
set_option maxRecDepth 100000 in
set_option maxHeartbeats 10000000 in
theorem pairs1_any (F : Fence) (n0 : Nat) (h80 : F.fn 80) (hro : F.round = none) (hd : F.depth = none) (X Y : List (List Int)) (n m cp cq : Nat) (hX : Hid (X.length = n)) (hY0 : Hid (Y.length = m)) (hn : n ≤ 60000) (hm : m ≤ 60000) (l b1 b2 : Nat) (p q : Option Addr) (J Jx : List PL → (Nat → Prop) → World → Prop) (Z0 : Nat → Prop) (hJ : AbZ J) (hJx : AbZ Jx) (m0 : Nat)
    (hY : ∀ pre x Z W1, J pre Z W1 → (∀ r, Z0 r → Z r) → pre.length < (pairsL X Y).length → YieldAt F m0 Try.prog l (encP x) W1 fun e W' => (e = .returned (.bool true) ∧ J (pre ++ [x]) Z W' ∧ KeepZ Z W1 W') ∨ (e = .returned (.bool false) ∧ Jx (pre ++ [x]) Z W' ∧ KeepZ Z W1 W'))
    (W : World) (hO : OwnP Z0 W b1 b2 p q n m cp cq X Y) (h0 : J [] Z0 W) :
    CallsIn F n0 Try.prog 80 #[.func (.yield l) #[] #[], .pointer (some ⟨b1, 0, none⟩), .pointer (some ⟨b2, 0, none⟩)] W fun e W' => (∃ v, e = .returned v) ∧
      ((∃ xs, xs = pairsL X Y ∧ J xs Z0 W') ∨ (∃ pre, pre <+: pairsL X Y ∧ Jx pre Z0 W')) := by
  refine callsIn_any (m := 6) hd ?_
  refine callsIn_of_wp_marks Try.func80 rfl h80 ?_ hro
  simp only [Try.ntmps80, List.size_toArray, List.length_cons, List.length_nil, Nat.reduceAdd, Nat.reduceSub, Array.replicate_succ, Array.replicate_zero, List.push_toArray, List.append_toArray, List.nil_append, List.cons_append]
  have c1 := hO.x.cell 0
  simp at c1
  gi_wp2
  clear c1
  gi_loopw [10] (fun v wr => ∃ (i : Nat) (Z : Nat → Prop), v = .int .i64 i ∧ i ≤ n ∧ J (pairsL (X.take i) Y) Z wr ∧ (∀ r, Z0 r → Z r) ∧ OwnP Z0 wr b1 b2 p q n m cp cq X Y) (fun v _ => n - (intOf v).toNat)
  case atStart => exact ⟨0, Z0, rfl, by omega, by simpa [pairsL] using h0, fun r hr => hr, hO⟩
  case round =>
    clear h0 hO
    obtain ⟨i, Z, rfl, hi, hJi, hz, hOi⟩ := hrel
    by_cases hlt : i < n
    · have hil : i < X.length := by rw [hX.out]; exact hlt
      obtain ⟨g, o, rfl, hg, hat⟩ := hOi.rx.1 i (by rw [List.length_map]; exact hil)
      rw [map_getD hil] at hat
      obtain ⟨x, hx⟩ : ∃ x, X[i]?.getD [] = x := ⟨_, rfl⟩
      rw [hx] at hat
      have HXI := Lib.hid hx
      clear hx
      obtain ⟨⟨x0, x1, x2, x3, x4⟩, ex⟩ : ∃ y, pad5 x = y := ⟨_, rfl⟩
      rw [ex] at hat
      obtain ⟨c0, c1, c2, c3, c4⟩ := hat
      have HEX := Lib.hid ex
      clear ex
      have cy := hOi.y.cell 0
      simp at cy
      have hO2 := Lib.hid (hOi.alloc (.cells #[.int .i64 x0, .int .i64 x1, .int .i64 x2, .int .i64 x3, .int .i64 x4] 25))
      have hJ2 := Lib.hid (hJ.claim _ _ _ (.cells #[.int .i64 x0, .int .i64 x1, .int .i64 x2, .int .i64 x3, .int .i64 x4] 25) hJi)
      have hB2 := Lib.hid (Box.new wr 25 #[.int .i64 x0, .int .i64 x1, .int .i64 x2, .int .i64 x3, .int .i64 x4])
      have hly := hOi.y.lt
      have HIL := Lib.hid hil
      clear hil hJi hOi
      gi_wp2
      clear c0 c1 c2 c3 c4 cy
      generalize wr.heap.size = gx at hB2 hJ2 ⊢
      gi_loopw [16] (fun v wi => ∃ (j : Nat) (Zi : Nat → Prop), v = .int .i64 j ∧ j ≤ m ∧ J (doneP X Y i j) Zi wi ∧ (∀ r, Z0 r ∨ r = gx → Zi r) ∧ Box wi 25 gx #[.int .i64 x0, .int .i64 x1, .int .i64 x2, .int .i64 x3, .int .i64 x4] ∧ OwnP Z0 wi b1 b2 (some ⟨g, o, none⟩) q n m cp cq X Y) (fun v _ => m - (intOf v).toNat)
      case atStart => exact ⟨0, (fun r => Z r ∨ r = gx), rfl, by omega, by rw [doneP_zero]; exact hJ2.out, fun r hr => hr.elim (fun h => .inl (hz r h)) (fun h => .inr h), hB2.out, hO2.out⟩
      case round =>
        clear hJ2 hB2 hO2
        obtain ⟨j, Zi, rfl, hj, hJj, hzi, hBx, hOj⟩ := hrel
        by_cases hltj : j < m
        · have hjl : j < Y.length := by rw [hY0.out]; exact hltj
          obtain ⟨gy, oy, rfl, hgy, hat⟩ := hOj.ry.1 j (by rw [List.length_map]; exact hjl)
          rw [map_getD hjl] at hat
          have hdm := doneP_more (X := X) (i := i) hjl
          have hlen := doneP_len HIL.out hjl
          have hpre := doneP_lt HIL.out hjl
          rw [HXI.out] at hdm
          generalize Y[j]?.getD [] = y at hat hdm
          obtain ⟨⟨y0, y1, y2, y3, y4⟩, ey⟩ : ∃ z, pad5 y = z := ⟨_, rfl⟩
          rw [ey] at hat
          obtain ⟨c0, c1, c2, c3, c4⟩ := hat
          obtain ⟨fn, tmps, assign, body, hy, hR⟩ := hY (doneP X Y i j) (x, y) Zi _ (hJ.alloc (.cells #[.int .i64 y0, .int .i64 y1, .int .i64 y2, .int .i64 y3, .int .i64 y4] 25) hJj) (fun r hr => hzi r (.inl hr)) hlen
          have he : encP (x, y) = #[.agg #[.int .i64 x0, .int .i64 x1, .int .i64 x2, .int .i64 x3, .int .i64 x4], .agg #[.int .i64 y0, .int .i64 y1, .int .i64 y2, .int .i64 y3, .int .i64 y4]] := by unfold encP; rw [aggL_eq HEX.out, aggL_eq ey]
          rw [he] at hy
          obtain ⟨d0, d1, d2, d3, d4⟩ := hBx.cell5
          have hgx := hBx.lt
          have hO3 := Lib.hid (hOj.alloc (.cells #[.int .i64 y0, .int .i64 y1, .int .i64 y2, .int .i64 y3, .int .i64 y4] 25))
          have hB3 := Lib.hid (hBx.alloc (.cells #[.int .i64 y0, .int .i64 y1, .int .i64 y2, .int .i64 y3, .int .i64 y4] 25))
          have HDM := Lib.hid hdm
          have HPRE := Lib.hid hpre
          clear hdm hlen hpre ey he hOj hBx hjl
          gi_wp2
          refine RoundIn.mono (anyDepthR hd hR) ?_
          clear hR hy c0 c1 c2 c3 c4 d0 d1 d2 d3 d4
          rintro e W3 (⟨rfl, hJ3, hk3⟩ | ⟨rfl, hJx3, hk3⟩)
          · gi_wp2
            go_roundw
            case rel => exact ⟨j + 1, Zi, by go_num, by omega, by rw [HDM.out]; exact hJ3, hzi, (hk3 gx (hzi gx (.inr rfl))).trans hB3.out, hO3.out.keep (fun r hr => hk3 r (hzi r (.inl hr)))⟩
            case measure => simp [intOf]; omega
          · gi_wp2
            refine leaves_marksG (G := fun w => Jx (doneP X Y i j ++ [(x, y)]) Zi w) (fun w => results_none rfl _ _ _) (fun w hw => ⟨⟨_, rfl⟩, .inr ⟨_, by rw [← HDM.out]; exact HPRE.out, hJx.less _ _ _ _ hw (fun r hr => hzi r (.inl hr))⟩⟩) [] W3 List.nodup_nil (by simp) (by simp) hJx3
        · obtain rfl : j = m := by omega
          gi_wp2
          go_roundw
          case rel => exact ⟨i + 1, Zi, by go_num, by omega, by rw [← doneP_row HIL.out, hY0.out]; exact hJj, fun r hr => hzi r (.inl hr), hOj⟩
          case measure => simp [intOf]; omega
    · obtain rfl : i = n := by omega
      rw [List.take_of_length_le (by rw [hX.out]; omega)] at hJi
      gi_wp2
      refine leaves_marksG (G := fun w => J (pairsL X Y) Z w) (fun w => results_none rfl _ _ _) (fun w hw => ⟨⟨_, rfl⟩, .inl ⟨_, rfl, hJ.less _ _ _ _ hw hz⟩⟩) [] wr List.nodup_nil (by simp) (by simp) hJi
end Go.Proofs.Ytdahaajfkjmflaa.s14
