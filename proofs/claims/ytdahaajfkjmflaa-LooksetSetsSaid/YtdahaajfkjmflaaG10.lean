/-
  Layer 14: the reference's merge. Layer 14: a row in a variable that grows while an iterator keeps blocks of its own; joined pairs. Layer 13: a map whose keys are looks. Layer 14: the keys of a map of looks, by their iterator.
-/
import Derived.Test.YtdahaajfkjmflaaG06
import Derived.Test.YtdahaajfkjmflaaG07
import Derived.Test.YtdahaajfkjmflaaG09
import Derived.Test.YtdahaajfkjmflaaG02
import Derived.Test.YtdahaajfkjmflaaG03
import Derived.Maps.OwnSet
import Derived.DeepKeys4
import Derived.ChangeKeys
import Derived.Sort.MapsRangeIn
import Derived.RangeFuncSeq
namespace Go.Proofs.Ytdahaajfkjmflaa.s14
set_option linter.unusedVariables false
set_option linter.unusedSimpArgs false
open Go.RowKit
open kit

open s13

open Go.Shelf
theorem cell_le (v : Int) (h : v = -1) : decide (v ≤ 0) = true := by subst h; rfl
set_option maxRecDepth 100000 in
set_option maxHeartbeats 20000000 in
theorem rmerge_any (a b : Option Addr) (n m ca cb : Nat) (A B : List (List Int)) (w : World) (hn : Hid (A.length = n)) (hm : Hid (B.length = m)) (ha : n ≤ ca) (hb : m ≤ cb) (hsz : n + m ≤ 100000) (hA : Hid (∀ x ∈ A, okL 8 x)) (hB : Hid (∀ x ∈ B, okL 8 x)) (ra : Hid (Reads5 w a (A.map pad5))) (rb : Hid (Reads5 w b (B.map pad5))) (R : List (List Int)) (N : Nat) (HR : Hid (mrg kU A B = R)) (HN : Hid (R.length = N)) :
    Calls Try.prog 53 #[.slice a n ca, .slice b m cb] w fun e w' => ∃ p cp, e = .returned (.slice p N cp) ∧ Reads5 w' p (R.map pad5) ∧ Below w.heap.size w w' ∧ N ≤ cp := by
  go_enter Try.func53, Try.ntmps53
  go_wp2
  go_loopw [0, 1, 5] (fun va vb vm wr => ∃ (A B D : List (List Int)) (a b : Option Addr) (n m ca cb : Nat), va = .slice a n ca ∧ vb = .slice b m cb ∧ n ≤ ca ∧ m ≤ cb ∧ Hid (A.length = n) ∧ Hid (B.length = m) ∧ Hid (D.length + n + m ≤ 100000) ∧ Hid (RelM kU w R A B D a b vm wr)) (fun va vb _ _ => slen va + slen vb)
  case atStart => exact ⟨A, B, [], a, b, n, m, ca, cb, rfl, rfl, ha, hb, hn, hm, Lib.hid (by simpa using hsz), Lib.hid ⟨ra.out, rb.out, HR.out, hA.out, hB.out, World.ownsRow_nil _ _ _ _, Below.refl _ _⟩⟩
  case round =>
    clear hn hm ha hb hsz hA hB ra rb
    obtain ⟨A, B, D, a, b, n, m, ca, cb, rfl, rfl, ha, hb, hn, hm, hsz, HREL⟩ := hrel
    have hws9 := HREL.out.hb.size
    rcases A with _ | ⟨x, A⟩
    · obtain rfl : n = 0 := hn.out.symm
      rcases B with _ | ⟨y, B⟩
      · obtain rfl : m = 0 := hm.out.symm
        have hR := HREL.out.eq
        rw [mrg_nil, List.append_nil] at hR
        subst hR
        have hrow := HREL.out.row
        rw [HN.out] at hrow
        obtain ⟨p, cp, rfl, hcp⟩ := row5_shape hrow
        have HROW := Lib.hid hrow
        clear hrow
        go_wp2
        go_ret
        exact ⟨p, cp, rfl, reads5_of_row (by rw [List.length_map]; exact HN.out) HROW.out, HREL.out.hb, hcp⟩
      · obtain ⟨m, rfl⟩ : ∃ k, m = k + 1 := ⟨B.length, hm.out.symm⟩
        have HLB : Hid (B.length = m) := Lib.hid (by have := hm.out; simpa using this)
        have pm : (0 : Int) < ((m + 1 : Nat) : Int) := by omega
        have zm : ¬ ((m + 1 : Nat) : Int) = 0 := by omega
        obtain ⟨gy, oy, rfl, hgy, haty, htly⟩ := reads_head HREL.out.rb
        have HTy := Lib.hid htly
        have hoy := Lib.hid (HREL.out.ob y (List.mem_cons_self ..))
        obtain ⟨⟨y0, y1, y2, y3, y4⟩, hy⟩ : ∃ v, pad5 y = v := ⟨_, rfl⟩
        rw [hy] at haty
        have Hy := Lib.hid hy
        have HAy := Lib.hid (haty.below HREL.out.hb)
        clear htly haty hy
        have hR := HREL.out.eq
        rw [mrg_right] at hR
        have HEQ := Lib.hid hR
        clear hR hm
        obtain ⟨qy, hqy, HQy⟩ : ∃ q, (if cb = 1 then some (⟨gy, oy, none⟩ : Addr) else some ⟨gy, oy + 5, none⟩) = q ∧ Hid (Reads5 w q (B.map pad5)) := ⟨_, rfl, Lib.hid (tail_if (by have := HLB.out; omega) HTy.out)⟩
        by_cases kcb : cb = 1
        · obtain ⟨c0y, c1y, c2y, c3y, c4y⟩ := HAy.out
          have hqq := hqy
          rw [if_pos kcb] at hqq
          subst hqq
          clear hqy
          go_wp2_with (at_builtin; refine append_in5 rfl (.tmp 40) (.tmp 44) rfl w.heap.size _ D.length _ rfl (own5_below HREL.out.row ((Below.refl _ _).alloc (Nat.le_refl _) _)) _ [(y0, y1, y2, y3, y4)] 1 1 rfl rfl (by decide) (reads5_block (Box.new _ 25 #[.int .i64 y0, .int .i64 y1, .int .i64 y2, .int .i64 y3, .int .i64 y4]) rfl) (by have := hsz.out; omega) (by simp; omega) ?_; intro v3 w3 hv3 hB3; have O3 := Lib.hid hv3; have B3 := Lib.hid ((HREL.out.hb.alloc hws9 (.cells #[.int .i64 y0, .int .i64 y1, .int .i64 y2, .int .i64 y3, .int .i64 y4] 25)).trans hB3); clear hv3 hB3)
          refine ⟨⟨[], B, D ++ [y], a, _, 0, m, ca, 0, rfl, rfl, ha, (by omega), hn, HLB, Lib.hid (by have := hsz.out; simp; omega), Lib.hid ⟨Reads5.nil _ _, HQy.out, ?_, (by simp), (fun z hz => HREL.out.ob z (List.mem_cons_of_mem _ hz)), ?_, B3.out⟩⟩, by simp [slen]; try omega⟩
          · have h := HEQ.out; simpa [one, kU] using h
          · have h := O3.out; rw [List.length_append, List.map_append, List.map_singleton, Hy.out]; exact h
        · obtain ⟨c0y, c1y, c2y, c3y, c4y⟩ := HAy.out
          have hqq := hqy
          rw [if_neg kcb] at hqq
          subst hqq
          clear hqy
          go_wp2_with (at_builtin; refine append_in5 rfl (.tmp 40) (.tmp 44) rfl w.heap.size _ D.length _ rfl (own5_below HREL.out.row ((Below.refl _ _).alloc (Nat.le_refl _) _)) _ [(y0, y1, y2, y3, y4)] 1 1 rfl rfl (by decide) (reads5_block (Box.new _ 25 #[.int .i64 y0, .int .i64 y1, .int .i64 y2, .int .i64 y3, .int .i64 y4]) rfl) (by have := hsz.out; omega) (by simp; omega) ?_; intro v3 w3 hv3 hB3; have O3 := Lib.hid hv3; have B3 := Lib.hid ((HREL.out.hb.alloc hws9 (.cells #[.int .i64 y0, .int .i64 y1, .int .i64 y2, .int .i64 y3, .int .i64 y4] 25)).trans hB3); clear hv3 hB3)
          refine ⟨⟨[], B, D ++ [y], a, _, 0, m, ca, (cb - 1), rfl, rfl, ha, (by omega), hn, HLB, Lib.hid (by have := hsz.out; simp; omega), Lib.hid ⟨Reads5.nil _ _, HQy.out, ?_, (by simp), (fun z hz => HREL.out.ob z (List.mem_cons_of_mem _ hz)), ?_, B3.out⟩⟩, by simp [slen]; try omega⟩
          · have h := HEQ.out; simpa [one, kU] using h
          · have h := O3.out; rw [List.length_append, List.map_append, List.map_singleton, Hy.out]; exact h
    · obtain ⟨n, rfl⟩ : ∃ k, n = k + 1 := ⟨A.length, hn.out.symm⟩
      have HLA : Hid (A.length = n) := Lib.hid (by have := hn.out; simpa using this)
      have pn : (0 : Int) < ((n + 1 : Nat) : Int) := by omega
      have zn : ¬ ((n + 1 : Nat) : Int) = 0 := by omega
      obtain ⟨gx, ox, rfl, hgx, hatx, htlx⟩ := reads_head HREL.out.ra
      have HTx := Lib.hid htlx
      have hox := Lib.hid (HREL.out.oa x (List.mem_cons_self ..))
      obtain ⟨⟨x0, x1, x2, x3, x4⟩, hx⟩ : ∃ v, pad5 x = v := ⟨_, rfl⟩
      rw [hx] at hatx
      have Hx := Lib.hid hx
      have HAx := Lib.hid (hatx.below HREL.out.hb)
      clear htlx hatx hx
      rcases B with _ | ⟨y, B⟩
      · obtain rfl : m = 0 := hm.out.symm
        have hR := HREL.out.eq
        rw [mrg_left] at hR
        have HEQ := Lib.hid hR
        clear hR hn
        obtain ⟨qx, hqx, HQx⟩ : ∃ q, (if ca = 1 then some (⟨gx, ox, none⟩ : Addr) else some ⟨gx, ox + 5, none⟩) = q ∧ Hid (Reads5 w q (A.map pad5)) := ⟨_, rfl, Lib.hid (tail_if (by have := HLA.out; omega) HTx.out)⟩
        by_cases kca : ca = 1
        · obtain ⟨c0x, c1x, c2x, c3x, c4x⟩ := HAx.out
          have hqq := hqx
          rw [if_pos kca] at hqq
          subst hqq
          clear hqx
          go_wp2_with (at_builtin; refine append_in5 rfl (.tmp 30) (.tmp 34) rfl w.heap.size _ D.length _ rfl (own5_below HREL.out.row ((Below.refl _ _).alloc (Nat.le_refl _) _)) _ [(x0, x1, x2, x3, x4)] 1 1 rfl rfl (by decide) (reads5_block (Box.new _ 25 #[.int .i64 x0, .int .i64 x1, .int .i64 x2, .int .i64 x3, .int .i64 x4]) rfl) (by have := hsz.out; omega) (by simp; omega) ?_; intro v3 w3 hv3 hB3; have O3 := Lib.hid hv3; have B3 := Lib.hid ((HREL.out.hb.alloc hws9 (.cells #[.int .i64 x0, .int .i64 x1, .int .i64 x2, .int .i64 x3, .int .i64 x4] 25)).trans hB3); clear hv3 hB3)
          refine ⟨⟨A, [], D ++ [x], _, b, n, 0, 0, cb, rfl, rfl, (by omega), hb, HLA, hm, Lib.hid (by have := hsz.out; simp; omega), Lib.hid ⟨HQx.out, Reads5.nil _ _, ?_, (fun z hz => HREL.out.oa z (List.mem_cons_of_mem _ hz)), (by simp), ?_, B3.out⟩⟩, by simp [slen]; try omega⟩
          · have h := HEQ.out; simpa [one, kU] using h
          · have h := O3.out; rw [List.length_append, List.map_append, List.map_singleton, Hx.out]; exact h
        · obtain ⟨c0x, c1x, c2x, c3x, c4x⟩ := HAx.out
          have hqq := hqx
          rw [if_neg kca] at hqq
          subst hqq
          clear hqx
          go_wp2_with (at_builtin; refine append_in5 rfl (.tmp 30) (.tmp 34) rfl w.heap.size _ D.length _ rfl (own5_below HREL.out.row ((Below.refl _ _).alloc (Nat.le_refl _) _)) _ [(x0, x1, x2, x3, x4)] 1 1 rfl rfl (by decide) (reads5_block (Box.new _ 25 #[.int .i64 x0, .int .i64 x1, .int .i64 x2, .int .i64 x3, .int .i64 x4]) rfl) (by have := hsz.out; omega) (by simp; omega) ?_; intro v3 w3 hv3 hB3; have O3 := Lib.hid hv3; have B3 := Lib.hid ((HREL.out.hb.alloc hws9 (.cells #[.int .i64 x0, .int .i64 x1, .int .i64 x2, .int .i64 x3, .int .i64 x4] 25)).trans hB3); clear hv3 hB3)
          refine ⟨⟨A, [], D ++ [x], _, b, n, 0, (ca - 1), cb, rfl, rfl, (by omega), hb, HLA, hm, Lib.hid (by have := hsz.out; simp; omega), Lib.hid ⟨HQx.out, Reads5.nil _ _, ?_, (fun z hz => HREL.out.oa z (List.mem_cons_of_mem _ hz)), (by simp), ?_, B3.out⟩⟩, by simp [slen]; try omega⟩
          · have h := HEQ.out; simpa [one, kU] using h
          · have h := O3.out; rw [List.length_append, List.map_append, List.map_singleton, Hx.out]; exact h
      · obtain ⟨m, rfl⟩ : ∃ k, m = k + 1 := ⟨B.length, hm.out.symm⟩
        have HLB : Hid (B.length = m) := Lib.hid (by have := hm.out; simpa using this)
        have pm : (0 : Int) < ((m + 1 : Nat) : Int) := by omega
        have zm : ¬ ((m + 1 : Nat) : Int) = 0 := by omega
        obtain ⟨gy, oy, rfl, hgy, haty, htly⟩ := reads_head HREL.out.rb
        have HTy := Lib.hid htly
        have hoy := Lib.hid (HREL.out.ob y (List.mem_cons_self ..))
        obtain ⟨⟨y0, y1, y2, y3, y4⟩, hy⟩ : ∃ v, pad5 y = v := ⟨_, rfl⟩
        rw [hy] at haty
        have Hy := Lib.hid hy
        have HAy := Lib.hid (haty.below HREL.out.hb)
        clear htly haty hy
        obtain ⟨qx, hqx, HQx⟩ : ∃ q, (if ca = 1 then some (⟨gx, ox, none⟩ : Addr) else some ⟨gx, ox + 5, none⟩) = q ∧ Hid (Reads5 w q (A.map pad5)) := ⟨_, rfl, Lib.hid (tail_if (by have := HLA.out; omega) HTx.out)⟩
        obtain ⟨qy, hqy, HQy⟩ : ∃ q, (if cb = 1 then some (⟨gy, oy, none⟩ : Addr) else some ⟨gy, oy + 5, none⟩) = q ∧ Hid (Reads5 w q (B.map pad5)) := ⟨_, rfl, Lib.hid (tail_if (by have := HLB.out; omega) HTy.out)⟩
        obtain ⟨v, hv⟩ : ∃ v, cmpL x y = v := ⟨_, rfl⟩
        have HCV := Lib.hid ((cmpE_ok hox.out hoy.out Hx.out Hy.out).trans (by rw [hv]))
        have hv3 := cmpL_range x y
        rw [hv] at hv3
        have HV := Lib.hid hv
        clear hv
        obtain ⟨zx0, zx1, zx2, zx3, zx4⟩ := At5.later2 HAx.out
        obtain ⟨zy0, zy1, zy2, zy3, zy4⟩ := At5.later2 HAy.out
        simp only at zx0 zx1 zx2 zx3 zx4 zy0 zy1 zy2 zy3 zy4
        go_wp2_with (fail)
        refine wp_region_later (by kernel_rfl) (by kernel_rfl) ?_
        repeat (go_big_quiet_step ((first | (go_at_call 45; exact calls_later (rcmp_any x0 x1 x2 x3 x4 y0 y1 y2 y3 y4 v _ HCV)))))
        refine wpQuiet_nil ?_
        rintro w5 ⟨p5, rfl⟩
        have B5 := Lib.hid (below_then HREL.out.hb p5.h)
        have W5 := Lib.hid p5.h
        generalize p5.W = w6 at B5 W5 ⊢
        have hws6 := B5.out.size
        clear zx0 zx1 zx2 zx3 zx4 zy0 zy1 zy2 zy3 zy4
        rcases hv3 with rfl | rfl | rfl
        · by_cases kca : ca = 1
          · obtain ⟨c0x, c1x, c2x, c3x, c4x⟩ := HAx.out.below W5.out
            have hqqx := hqx
            rw [if_pos kca] at hqqx
            subst hqqx
            clear hqx
            go_wp2_with (at_builtin; refine append_in5 rfl (.tmp 30) (.tmp 34) rfl w.heap.size _ D.length _ rfl (own5_below (own5_below HREL.out.row W5.out) ((Below.refl _ _).alloc (Nat.le_refl _) _)) _ [(x0, x1, x2, x3, x4)] 1 1 rfl rfl (by decide) (reads5_block (Box.new _ 25 #[.int .i64 x0, .int .i64 x1, .int .i64 x2, .int .i64 x3, .int .i64 x4]) rfl) (by have := hsz.out; omega) (by simp; omega) ?_; intro v3 w3 hv3 hB3; have O3 := Lib.hid hv3; have B3 := Lib.hid ((B5.out.alloc hws6 (.cells #[.int .i64 x0, .int .i64 x1, .int .i64 x2, .int .i64 x3, .int .i64 x4] 25)).trans hB3); clear hv3 hB3)
            refine ⟨⟨A, (y :: B), D ++ [x], _, _, n, (m + 1), 0, cb, rfl, rfl, (by omega), hb, HLA, hm, Lib.hid (by have := hsz.out; simp; omega), Lib.hid ⟨HQx.out, HREL.out.rb, ?_, (fun z hz => HREL.out.oa z (List.mem_cons_of_mem _ hz)), HREL.out.ob, ?_, B3.out⟩⟩, by simp [slen]; try omega⟩
            · have h := HREL.out.eq; rw [mrg_lt _ _ _ _ _ (by rw [HV.out]; omega)] at h; simpa [one, kU] using h
            · have h := O3.out; rw [List.length_append, List.map_append, List.map_singleton, Hx.out]; exact h
          · obtain ⟨c0x, c1x, c2x, c3x, c4x⟩ := HAx.out.below W5.out
            have hqqx := hqx
            rw [if_neg kca] at hqqx
            subst hqqx
            clear hqx
            go_wp2_with (at_builtin; refine append_in5 rfl (.tmp 30) (.tmp 34) rfl w.heap.size _ D.length _ rfl (own5_below (own5_below HREL.out.row W5.out) ((Below.refl _ _).alloc (Nat.le_refl _) _)) _ [(x0, x1, x2, x3, x4)] 1 1 rfl rfl (by decide) (reads5_block (Box.new _ 25 #[.int .i64 x0, .int .i64 x1, .int .i64 x2, .int .i64 x3, .int .i64 x4]) rfl) (by have := hsz.out; omega) (by simp; omega) ?_; intro v3 w3 hv3 hB3; have O3 := Lib.hid hv3; have B3 := Lib.hid ((B5.out.alloc hws6 (.cells #[.int .i64 x0, .int .i64 x1, .int .i64 x2, .int .i64 x3, .int .i64 x4] 25)).trans hB3); clear hv3 hB3)
            refine ⟨⟨A, (y :: B), D ++ [x], _, _, n, (m + 1), (ca - 1), cb, rfl, rfl, (by omega), hb, HLA, hm, Lib.hid (by have := hsz.out; simp; omega), Lib.hid ⟨HQx.out, HREL.out.rb, ?_, (fun z hz => HREL.out.oa z (List.mem_cons_of_mem _ hz)), HREL.out.ob, ?_, B3.out⟩⟩, by simp [slen]; try omega⟩
            · have h := HREL.out.eq; rw [mrg_lt _ _ _ _ _ (by rw [HV.out]; omega)] at h; simpa [one, kU] using h
            · have h := O3.out; rw [List.length_append, List.map_append, List.map_singleton, Hx.out]; exact h
        · by_cases kca : ca = 1
          · by_cases kcb : cb = 1
            · obtain ⟨c0x, c1x, c2x, c3x, c4x⟩ := HAx.out.below W5.out
              have hqqx := hqx
              rw [if_pos kca] at hqqx
              subst hqqx
              clear hqx
              have hqqy := hqy
              rw [if_pos kcb] at hqqy
              subst hqqy
              clear hqy
              go_wp2_with (at_builtin; refine append_in5 rfl (.tmp 30) (.tmp 34) rfl w.heap.size _ D.length _ rfl (own5_below (own5_below HREL.out.row W5.out) ((Below.refl _ _).alloc (Nat.le_refl _) _)) _ [(x0, x1, x2, x3, x4)] 1 1 rfl rfl (by decide) (reads5_block (Box.new _ 25 #[.int .i64 x0, .int .i64 x1, .int .i64 x2, .int .i64 x3, .int .i64 x4]) rfl) (by have := hsz.out; omega) (by simp; omega) ?_; intro v3 w3 hv3 hB3; have O3 := Lib.hid hv3; have B3 := Lib.hid ((B5.out.alloc hws6 (.cells #[.int .i64 x0, .int .i64 x1, .int .i64 x2, .int .i64 x3, .int .i64 x4] 25)).trans hB3); clear hv3 hB3)
              refine ⟨⟨A, B, D ++ [x], _, _, n, m, 0, 0, rfl, rfl, (by omega), (by omega), HLA, HLB, Lib.hid (by have := hsz.out; simp; omega), Lib.hid ⟨HQx.out, HQy.out, ?_, (fun z hz => HREL.out.oa z (List.mem_cons_of_mem _ hz)), (fun z hz => HREL.out.ob z (List.mem_cons_of_mem _ hz)), ?_, B3.out⟩⟩, by simp [slen]; try omega⟩
              · have h := HREL.out.eq; rw [mrg_eq _ _ _ _ _ HV.out, ← cmpL_zero HV.out] at h; simpa [one, kU] using h
              · have h := O3.out; rw [List.length_append, List.map_append, List.map_singleton, Hx.out]; exact h
            · obtain ⟨c0x, c1x, c2x, c3x, c4x⟩ := HAx.out.below W5.out
              have hqqx := hqx
              rw [if_pos kca] at hqqx
              subst hqqx
              clear hqx
              have hqqy := hqy
              rw [if_neg kcb] at hqqy
              subst hqqy
              clear hqy
              go_wp2_with (at_builtin; refine append_in5 rfl (.tmp 30) (.tmp 34) rfl w.heap.size _ D.length _ rfl (own5_below (own5_below HREL.out.row W5.out) ((Below.refl _ _).alloc (Nat.le_refl _) _)) _ [(x0, x1, x2, x3, x4)] 1 1 rfl rfl (by decide) (reads5_block (Box.new _ 25 #[.int .i64 x0, .int .i64 x1, .int .i64 x2, .int .i64 x3, .int .i64 x4]) rfl) (by have := hsz.out; omega) (by simp; omega) ?_; intro v3 w3 hv3 hB3; have O3 := Lib.hid hv3; have B3 := Lib.hid ((B5.out.alloc hws6 (.cells #[.int .i64 x0, .int .i64 x1, .int .i64 x2, .int .i64 x3, .int .i64 x4] 25)).trans hB3); clear hv3 hB3)
              refine ⟨⟨A, B, D ++ [x], _, _, n, m, 0, (cb - 1), rfl, rfl, (by omega), (by omega), HLA, HLB, Lib.hid (by have := hsz.out; simp; omega), Lib.hid ⟨HQx.out, HQy.out, ?_, (fun z hz => HREL.out.oa z (List.mem_cons_of_mem _ hz)), (fun z hz => HREL.out.ob z (List.mem_cons_of_mem _ hz)), ?_, B3.out⟩⟩, by simp [slen]; try omega⟩
              · have h := HREL.out.eq; rw [mrg_eq _ _ _ _ _ HV.out, ← cmpL_zero HV.out] at h; simpa [one, kU] using h
              · have h := O3.out; rw [List.length_append, List.map_append, List.map_singleton, Hx.out]; exact h
          · by_cases kcb : cb = 1
            · obtain ⟨c0x, c1x, c2x, c3x, c4x⟩ := HAx.out.below W5.out
              have hqqx := hqx
              rw [if_neg kca] at hqqx
              subst hqqx
              clear hqx
              have hqqy := hqy
              rw [if_pos kcb] at hqqy
              subst hqqy
              clear hqy
              go_wp2_with (at_builtin; refine append_in5 rfl (.tmp 30) (.tmp 34) rfl w.heap.size _ D.length _ rfl (own5_below (own5_below HREL.out.row W5.out) ((Below.refl _ _).alloc (Nat.le_refl _) _)) _ [(x0, x1, x2, x3, x4)] 1 1 rfl rfl (by decide) (reads5_block (Box.new _ 25 #[.int .i64 x0, .int .i64 x1, .int .i64 x2, .int .i64 x3, .int .i64 x4]) rfl) (by have := hsz.out; omega) (by simp; omega) ?_; intro v3 w3 hv3 hB3; have O3 := Lib.hid hv3; have B3 := Lib.hid ((B5.out.alloc hws6 (.cells #[.int .i64 x0, .int .i64 x1, .int .i64 x2, .int .i64 x3, .int .i64 x4] 25)).trans hB3); clear hv3 hB3)
              refine ⟨⟨A, B, D ++ [x], _, _, n, m, (ca - 1), 0, rfl, rfl, (by omega), (by omega), HLA, HLB, Lib.hid (by have := hsz.out; simp; omega), Lib.hid ⟨HQx.out, HQy.out, ?_, (fun z hz => HREL.out.oa z (List.mem_cons_of_mem _ hz)), (fun z hz => HREL.out.ob z (List.mem_cons_of_mem _ hz)), ?_, B3.out⟩⟩, by simp [slen]; try omega⟩
              · have h := HREL.out.eq; rw [mrg_eq _ _ _ _ _ HV.out, ← cmpL_zero HV.out] at h; simpa [one, kU] using h
              · have h := O3.out; rw [List.length_append, List.map_append, List.map_singleton, Hx.out]; exact h
            · obtain ⟨c0x, c1x, c2x, c3x, c4x⟩ := HAx.out.below W5.out
              have hqqx := hqx
              rw [if_neg kca] at hqqx
              subst hqqx
              clear hqx
              have hqqy := hqy
              rw [if_neg kcb] at hqqy
              subst hqqy
              clear hqy
              go_wp2_with (at_builtin; refine append_in5 rfl (.tmp 30) (.tmp 34) rfl w.heap.size _ D.length _ rfl (own5_below (own5_below HREL.out.row W5.out) ((Below.refl _ _).alloc (Nat.le_refl _) _)) _ [(x0, x1, x2, x3, x4)] 1 1 rfl rfl (by decide) (reads5_block (Box.new _ 25 #[.int .i64 x0, .int .i64 x1, .int .i64 x2, .int .i64 x3, .int .i64 x4]) rfl) (by have := hsz.out; omega) (by simp; omega) ?_; intro v3 w3 hv3 hB3; have O3 := Lib.hid hv3; have B3 := Lib.hid ((B5.out.alloc hws6 (.cells #[.int .i64 x0, .int .i64 x1, .int .i64 x2, .int .i64 x3, .int .i64 x4] 25)).trans hB3); clear hv3 hB3)
              refine ⟨⟨A, B, D ++ [x], _, _, n, m, (ca - 1), (cb - 1), rfl, rfl, (by omega), (by omega), HLA, HLB, Lib.hid (by have := hsz.out; simp; omega), Lib.hid ⟨HQx.out, HQy.out, ?_, (fun z hz => HREL.out.oa z (List.mem_cons_of_mem _ hz)), (fun z hz => HREL.out.ob z (List.mem_cons_of_mem _ hz)), ?_, B3.out⟩⟩, by simp [slen]; try omega⟩
              · have h := HREL.out.eq; rw [mrg_eq _ _ _ _ _ HV.out, ← cmpL_zero HV.out] at h; simpa [one, kU] using h
              · have h := O3.out; rw [List.length_append, List.map_append, List.map_singleton, Hx.out]; exact h
        · by_cases kcb : cb = 1
          · obtain ⟨c0y, c1y, c2y, c3y, c4y⟩ := HAy.out.below W5.out
            have hqqy := hqy
            rw [if_pos kcb] at hqqy
            subst hqqy
            clear hqy
            go_wp2_with (at_builtin; refine append_in5 rfl (.tmp 40) (.tmp 44) rfl w.heap.size _ D.length _ rfl (own5_below (own5_below HREL.out.row W5.out) ((Below.refl _ _).alloc (Nat.le_refl _) _)) _ [(y0, y1, y2, y3, y4)] 1 1 rfl rfl (by decide) (reads5_block (Box.new _ 25 #[.int .i64 y0, .int .i64 y1, .int .i64 y2, .int .i64 y3, .int .i64 y4]) rfl) (by have := hsz.out; omega) (by simp; omega) ?_; intro v3 w3 hv3 hB3; have O3 := Lib.hid hv3; have B3 := Lib.hid ((B5.out.alloc hws6 (.cells #[.int .i64 y0, .int .i64 y1, .int .i64 y2, .int .i64 y3, .int .i64 y4] 25)).trans hB3); clear hv3 hB3)
            refine ⟨⟨(x :: A), B, D ++ [y], _, _, (n + 1), m, ca, 0, rfl, rfl, ha, (by omega), hn, HLB, Lib.hid (by have := hsz.out; simp; omega), Lib.hid ⟨HREL.out.ra, HQy.out, ?_, HREL.out.oa, (fun z hz => HREL.out.ob z (List.mem_cons_of_mem _ hz)), ?_, B3.out⟩⟩, by simp [slen]; try omega⟩
            · have h := HREL.out.eq; rw [mrg_gt _ _ _ _ _ (by rw [HV.out]; omega)] at h; simpa [one, kU] using h
            · have h := O3.out; rw [List.length_append, List.map_append, List.map_singleton, Hy.out]; exact h
          · obtain ⟨c0y, c1y, c2y, c3y, c4y⟩ := HAy.out.below W5.out
            have hqqy := hqy
            rw [if_neg kcb] at hqqy
            subst hqqy
            clear hqy
            go_wp2_with (at_builtin; refine append_in5 rfl (.tmp 40) (.tmp 44) rfl w.heap.size _ D.length _ rfl (own5_below (own5_below HREL.out.row W5.out) ((Below.refl _ _).alloc (Nat.le_refl _) _)) _ [(y0, y1, y2, y3, y4)] 1 1 rfl rfl (by decide) (reads5_block (Box.new _ 25 #[.int .i64 y0, .int .i64 y1, .int .i64 y2, .int .i64 y3, .int .i64 y4]) rfl) (by have := hsz.out; omega) (by simp; omega) ?_; intro v3 w3 hv3 hB3; have O3 := Lib.hid hv3; have B3 := Lib.hid ((B5.out.alloc hws6 (.cells #[.int .i64 y0, .int .i64 y1, .int .i64 y2, .int .i64 y3, .int .i64 y4] 25)).trans hB3); clear hv3 hB3)
            refine ⟨⟨(x :: A), B, D ++ [y], _, _, (n + 1), m, ca, (cb - 1), rfl, rfl, ha, (by omega), hn, HLB, Lib.hid (by have := hsz.out; simp; omega), Lib.hid ⟨HREL.out.ra, HQy.out, ?_, HREL.out.oa, (fun z hz => HREL.out.ob z (List.mem_cons_of_mem _ hz)), ?_, B3.out⟩⟩, by simp [slen]; try omega⟩
            · have h := HREL.out.eq; rw [mrg_gt _ _ _ _ _ (by rw [HV.out]; omega)] at h; simpa [one, kU] using h
            · have h := O3.out; rw [List.length_append, List.map_append, List.map_singleton, Hy.out]; exact h
end Go.Proofs.Ytdahaajfkjmflaa.s14

namespace Go.Proofs.Ytdahaajfkjmflaa.s14
set_option linter.unusedVariables false
set_option linter.unusedSimpArgs false
open Go.RowKit
open kit

open s13

open Go.Shelf
attribute [local go_sem] Oper.semAt_some
/-- what the collecting loop says of the state: its variable b2, the row that grows, what it is no block of -/
def CollV (B b2 : Nat) (w0 : World) (l : List V5) (Z : Nat → Prop) (W : World) : Prop :=
  (∃ v, Box W 22 b2 #[v] ∧ W.ownsRow w0.heap.size 25 5 v l.length (flat5 l) ∧ ∀ r, Z r → v.ownBlock ≠ some r) ∧ Below B w0 W ∧ w0.heap.size ≤ W.heap.size ∧ ∀ r, Z r → B ≤ r ∧ r ≠ b2 ∧ r < W.heap.size
theorem own_lt {W : World} {base size k : Nat} {E : TypeId} {v : Value} {xs : List Value} (h : W.ownsRow base E size v k xs) {g : Nat} (hg : v.ownBlock = some g) : g < W.heap.size ∧ ∃ cs t z, W.heap[g]? = some (.cells cs t z) := by
  rcases h.2 with ⟨rfl, _⟩ | ⟨g', cap, cur, rfl, _, hgb, _⟩
  · cases hg
  · obtain rfl : g' = g := by simpa [Value.ownBlock] using hg
    exact ⟨(Array.getElem?_eq_some_iff.1 hgb).1, _, _, _, hgb⟩
theorem collV_ab {β : Type} (f : β → List V5) (B b2 : Nat) (w0 : World) (hB : B ≤ w0.heap.size) : AbZ (fun s => CollV B b2 w0 (f s)) :=
  { size := fun s Z W h r hr => (h.2.2.2 r hr).2.2
    grown := fun s Z W W' ⟨⟨v, h1, h2, h3⟩, h4, h5, h6⟩ hg => ⟨⟨v, (grown_keep hg h1.lt (fun e => by cases e)).trans h1, h2.kept hg (by
        rcases e : v.ownBlock with _ | g
        · exact .inl rfl
        · exact .inr (fun e => by cases e)), h3⟩, h4.grown hg (Nat.le_trans hB h5) (fun j e => by cases e), Nat.le_trans h5 hg.size, fun r hr => ⟨(h6 r hr).1, (h6 r hr).2.1, Nat.lt_of_lt_of_le (h6 r hr).2.2 hg.size⟩⟩
    claim := fun s Z W o ⟨⟨v, h1, h2, h3⟩, h4, h5, h6⟩ => ⟨⟨v, h1.alloc o, h2.alloc o, fun r hr => by
        rcases hr with hr | rfl
        · exact h3 r hr
        · exact fun e => Nat.lt_irrefl _ (own_lt h2 e).1⟩, h4.alloc (Nat.le_trans hB h5) o, by simp; omega, fun r hr => by
        have := h1.lt
        rcases hr with hr | rfl
        · have := h6 r hr; simp; omega
        · simp; omega⟩
    turn := fun s Z W W' r ⟨⟨v, h1, h2, h3⟩, h4, h5, h6⟩ hr hg => ⟨⟨v, (grown_keep hg h1.lt (fun e => (h6 r hr).2.1 (by cases e; rfl))).trans h1, h2.kept hg (.inr (h3 r hr)), h3⟩, h4.grown hg (Nat.le_trans hB h5) (fun j e => by cases e; exact (h6 r hr).1), Nat.le_trans h5 hg.size, fun q hq => ⟨(h6 q hq).1, (h6 q hq).2.1, Nat.lt_of_lt_of_le (h6 q hq).2.2 hg.size⟩⟩
    less := fun s Z Z' W ⟨⟨v, h1, h2, h3⟩, h4, h5, h6⟩ hz => ⟨⟨v, h1, h2, fun r hr => h3 r (hz r hr)⟩, h4, h5, fun r hr => h6 r (hz r hr)⟩ }
theorem collV_put {B b2 : Nat} {w0 : World} {l : List V5} {Z : Nat → Prop} {W : World} {k : Nat} {o : Obj} (o' : Obj) (hB : B ≤ k) (hk : W.heap[k]? = some o) (ho : o.isCells = false) (hw : B ≤ w0.heap.size) (h : CollV B b2 w0 l Z W) : CollV B b2 w0 l Z (W.putObj k o') := by
  obtain ⟨⟨v, h1, h2, h3⟩, h4, h5, h6⟩ := h
  have hg := grownBy_putObj' W k o'
  have hne : b2 ≠ k := by
    rintro rfl
    have e : W.heap[b2]? = _ := h1
    rw [hk] at e; cases e; cases ho
  exact ⟨⟨v, (World.putObj_heap_other hne).trans h1, ownsRow_putObj h2 o' hk ho, h3⟩, h4.grown hg (Nat.le_trans hw h5) (fun j e => by cases e; exact hB), Nat.le_trans h5 hg.size, fun q hq => ⟨(h6 q hq).1, (h6 q hq).2.1, Nat.lt_of_lt_of_le (h6 q hq).2.2 hg.size⟩⟩
theorem abz_false {β : Type} : AbZ (fun (_ : β) (_ : Nat → Prop) (_ : World) => False) := ⟨fun _ _ _ h => h.elim, fun _ _ _ _ h _ => h, fun _ _ _ _ h => h, fun _ _ _ _ _ h _ _ => h, fun _ _ _ _ h _ => h⟩
/-- a pair joined -/
def jV (K : Nat) (x : PL) : V5 := (joinE (K : Int) (pad5 x.1) (pad5 x.2)).1
theorem joinE_ok {x y : List Int} (hx : okL 8 x) (hy : okL 8 y) {K : Nat} (h1 : 1 ≤ K) (hK : K ≤ 4) : joinE (K : Int) (pad5 x) (pad5 y) = (pad5 ((x ++ y).take K), 0) := by
  have e1 := chkV_pad hx (t := 8) (by omega) (by omega)
  have e2 := chkV_pad hy (t := 8) (by omega) (by omega)
  unfold chkV at e1 e2
  unfold joinE bothP
  rw [if_pos e1, if_neg (by simpa using e2), if_neg (by omega), lst_pad hx.1, lst_pad hy.1, Int.toNat_natCast]
theorem jV_ok {x y : List Int} (hx : okL 8 x) (hy : okL 8 y) {K : Nat} (h1 : 1 ≤ K) (hK : K ≤ 4) (hl : x.length + y.length ≤ K) : jV K (x, y) = pad5 (x ++ y) := by
  unfold jV
  rw [joinE_ok hx hy h1 hK, List.take_of_length_le (by rw [List.length_append]; omega)]
theorem pairs_joined {X Y : List (List Int)} {K : Nat} (h1 : 1 ≤ K) (hK : K ≤ 4) (hX : ∀ x ∈ X, okL 8 x) (hY : ∀ y ∈ Y, okL 8 y) (hl : ∀ x ∈ X, ∀ y ∈ Y, x.length + y.length ≤ K) : (pairsL X Y).map (jV K) = (prodS X Y).map pad5 := by
  unfold pairsL prodS
  rw [List.map_flatMap, List.map_flatMap]
  induction X with
  | nil => rfl
  | cons x X ih =>
    rw [List.flatMap_cons, List.flatMap_cons, ih (fun z hz => hX z (List.mem_cons_of_mem _ hz)) (fun z hz => hl z (List.mem_cons_of_mem _ hz))]
    congr 1
    rw [List.map_map, List.map_map]
    refine List.map_congr_left fun y hy => ?_
    exact jV_ok (hX x (List.mem_cons_self ..)) (hY y hy) h1 hK (hl x (List.mem_cons_self ..) y hy)
theorem pairsL_len (X Y : List (List Int)) : (pairsL X Y).length = X.length * Y.length := by
  unfold pairsL
  induction X with
  | nil => simp
  | cons x X ih => rw [List.flatMap_cons, List.length_append, ih, List.length_map, List.length_cons, Nat.add_mul]; omega
theorem prodS_len (X Y : List (List Int)) : (prodS X Y).length = X.length * Y.length := by
  unfold prodS
  induction X with
  | nil => simp
  | cons x X ih => rw [List.flatMap_cons, List.length_append, ih, List.length_map, List.length_cons, Nat.add_mul]; omega
theorem partS_len (k n : Nat) (a b : List (List Int)) : (partS k n a b).length ≤ a.length * b.length := by
  unfold partS
  rw [prodS_len]
  exact Nat.mul_le_mul (Nat.le_trans (ofLen_len n _) (cutS_len k a)) (cutS_len _ b)
theorem sumS_len (k : Nat) (a b : List (List Int)) : ∀ n, (sumS k a b n).length ≤ n * (a.length * b.length)
  | 0 => by simp [sumS]
  | n + 1 => by
    rw [sumS]
    have h1 := mrg_len kU (sumS k a b n) (partS k n a b)
    have h2 := sumS_len k a b n
    have h3 := partS_len k n a b
    rw [Nat.add_mul]; omega
theorem cutS_ok {t : Int} (k : Nat) {L : List (List Int)} (h : ∀ x ∈ L, okL t x) : ∀ x ∈ cutS k L, okL t x := fun x hx => by
  obtain ⟨y, hy, rfl⟩ := (cutS_mem k L x).1 hx
  exact okL_take (h y hy) k
theorem ofLen_ok {t : Int} (k : Nat) {L : List (List Int)} (h : ∀ x ∈ L, okL t x) : ∀ x ∈ ofLen k L, okL t x := fun x hx => h x ((ofLen_mem k L x).1 hx).1
theorem prodS_ok {t : Int} {K : Nat} (hK : K ≤ 4) {X Y : List (List Int)} (hX : ∀ x ∈ X, okL t x) (hY : ∀ y ∈ Y, okL t y) (hl : ∀ x ∈ X, ∀ y ∈ Y, x.length + y.length ≤ K) : ∀ z ∈ prodS X Y, okL t z := fun z hz => by
  obtain ⟨x, hx, y, hy, rfl⟩ := (prodS_mem X Y z).1 hz
  refine ⟨by have := hl x hx y hy; rw [List.length_append]; omega, fun v hv => ?_⟩
  rcases List.mem_append.1 hv with h | h
  · exact (hX x hx).2 v h
  · exact (hY y hy).2 v h
theorem part_fit {K i : Nat} (hi : i ≤ K) {A B : List (List Int)} : ∀ x ∈ ofLen i (cutS K A), ∀ y ∈ cutS (K - i) B, x.length + y.length ≤ K := fun x hx y hy => by
  have h1 := ((ofLen_mem i _ x).1 hx).2
  obtain ⟨z, hz, rfl⟩ := (cutS_mem _ B y).1 hy
  rw [List.length_take]; omega
theorem mrg_ok {t : Int} (kp : Bool → Bool → Bool) : ∀ (a b : List (List Int)), (∀ x ∈ a, okL t x) → (∀ x ∈ b, okL t x) → ∀ x ∈ mrg kp a b, okL t x
  | [], [], _, _, z, hz => by rw [mrg_nil] at hz; cases hz
  | x :: a, [], ha, hb, z, hz => by
    rw [mrg_left] at hz
    rcases List.mem_append.1 hz with h | h
    · rw [(mem_one.1 h).1]; exact ha x (List.mem_cons_self ..)
    · exact mrg_ok kp a [] (fun y hy => ha y (List.mem_cons_of_mem _ hy)) hb z h
  | [], y :: b, ha, hb, z, hz => by
    rw [mrg_right] at hz
    rcases List.mem_append.1 hz with h | h
    · rw [(mem_one.1 h).1]; exact hb y (List.mem_cons_self ..)
    · exact mrg_ok kp [] b ha (fun x hx => hb x (List.mem_cons_of_mem _ hx)) z h
  | x :: a, y :: b, ha, hb, z, hz => by
    have ha2 := fun u (hu : u ∈ a) => ha u (List.mem_cons_of_mem _ hu)
    have hb2 := fun u (hu : u ∈ b) => hb u (List.mem_cons_of_mem _ hu)
    rcases cmpL_range x y with h | h | h
    · rw [mrg_lt kp x y a b (by omega)] at hz
      rcases List.mem_append.1 hz with h | h
      · rw [(mem_one.1 h).1]; exact ha x (List.mem_cons_self ..)
      · exact mrg_ok kp a (y :: b) ha2 hb z h
    · rw [mrg_eq kp x y a b h] at hz
      rcases List.mem_append.1 hz with h | h
      · rw [(mem_one.1 h).1]; exact hb y (List.mem_cons_self ..)
      · exact mrg_ok kp a b ha2 hb2 z h
    · rw [mrg_gt kp x y a b (by omega)] at hz
      rcases List.mem_append.1 hz with h | h
      · rw [(mem_one.1 h).1]; exact hb y (List.mem_cons_self ..)
      · exact mrg_ok kp (x :: a) b ha hb2 z h
  termination_by a b => a.length + b.length
theorem sumS_ok {t : Int} {K : Nat} (hK : K ≤ 4) {A B : List (List Int)} (hA : ∀ x ∈ A, okL t x) (hB : ∀ x ∈ B, okL t x) : ∀ n, n ≤ K + 1 → ∀ x ∈ sumS K A B n, okL t x
  | 0, _ => by simp [sumS]
  | n + 1, hn => by
    rw [sumS]
    exact mrg_ok kU _ _ (sumS_ok hK hA hB n (by omega)) (prodS_ok hK (ofLen_ok n (cutS_ok K hA)) (cutS_ok _ hB) (part_fit (by omega)))
end Go.Proofs.Ytdahaajfkjmflaa.s14

namespace Go.Proofs.Ytdahaajfkjmflaa.s13
set_option linter.unusedVariables false
set_option linter.unusedSimpArgs false
open Go.RowKit
open kit

theorem laidOut9 : laidOutB Try.prog = true := by kernel_rfl
theorem levLook : Try.prog.keyTypeAt 3 25 = true := by kernel_rfl
theorem rowLook : (25 : TypeId) < Try.prog.types.size := of_decide_eq_true (by kernel_rfl)
theorem wideLook : (match Try.prog.underlying 25 with | some (.array _ _) | some (.struct _) => true | _ => false) = true := by rw [Try.underlying25]
set_option maxRecDepth 100000 in
set_option maxHeartbeats 1000000 in
theorem lawLook : Maps.Keyed Try.prog 25 := Maps.Keyed.of_law (deep_law_laid laidOut9 (m := 3) (by omega) rowLook levLook wideLook)
def inK (x : Int) : Prop := -9223372036854775808 ≤ x ∧ x ≤ 9223372036854775807
theorem wf_int {x : Int} (h : inK x) : (Lit.int .i64 x).wf = true := by
  obtain ⟨h1, h2⟩ := h
  simp [Lit.wf, IntKind.min, IntKind.max, IntKind.signed, IntKind.bits]
  omega
def lits (x : V5) : List Lit := [.int .i64 x.1, .int .i64 x.2.1, .int .i64 x.2.2.1, .int .i64 x.2.2.2.1, .int .i64 x.2.2.2.2]
theorem lits_of (n a b c d : Int) (hn : inK n) (ha : inK a) (hb : inK b) (hc : inK c) (hd : inK d) (D : Nat) : Try.prog.keyLits (D + 3) 25 [.int .i64 n, .int .i64 a, .int .i64 b, .int .i64 c, .int .i64 d] = some (lits (n, a, b, c, d)) := by
  have one : ∀ (E : Nat) (x : Int), inK x → Try.prog.keyLits (E + 1) 3 [.int .i64 x] = some [.int .i64 x] := fun E x hx => by
    unfold Program.keyLits
    rw [Try.underlying3]
    simp [wf_int hx]
  have c3 : Try.prog.cellsOf 3 = 1 := by kernel_rfl
  have c23 : Try.prog.cellsOf 23 = 4 := by kernel_rfl
  have c25 : Try.prog.cellsOf 25 = 5 := by kernel_rfl
  have arr : Try.prog.keyLits (D + 2) 23 [.int .i64 a, .int .i64 b, .int .i64 c, .int .i64 d] = some [.int .i64 a, .int .i64 b, .int .i64 c, .int .i64 d] := by
    unfold Program.keyLits
    rw [Try.underlying23]
    simp only [c3, c23, Nat.mul_one]
    show (if _ then Option.map List.flatten ([0, 1, 2, 3].mapM _) else none) = _
    simp [one D a ha, one D b hb, one D c hc, one D d hd]
  unfold Program.keyLits
  rw [Try.underlying25]
  simp [c3, c23, c25, one (D + 1) n hn, arr, lits]
def kL (x : V5) : Lit := .string (keyBytes (lits x))
theorem types_size : ∃ D, Try.prog.types.size + 1 = D + 3 := ⟨Try.prog.types.size - 2, by have : (2 : Nat) < Try.prog.types.size := of_decide_eq_true (by kernel_rfl); omega⟩
def inV (x : V5) : Prop := inK x.1 ∧ inK x.2.1 ∧ inK x.2.2.1 ∧ inK x.2.2.2.1 ∧ inK x.2.2.2.2
set_option maxRecDepth 100000 in
set_option maxHeartbeats 1000000 in
theorem key_of (n a b c d : Int) (h : inV (n, a, b, c, d)) : keyOf Try.prog 25 (.agg #[.int .i64 n, .int .i64 a, .int .i64 b, .int .i64 c, .int .i64 d]) = some (kL (n, a, b, c, d)) := by
  obtain ⟨D, hD⟩ := types_size
  have h1 : Try.prog.keyType 25 = true := by kernel_rfl
  have h2 : (.agg #[.int .i64 n, .int .i64 a, .int .i64 b, .int .i64 c, .int .i64 d] : Value).formed Try.prog 25 = true := by kernel_rfl
  unfold keyOf
  rw [Try.underlying25]
  simp only [h1, h2, Bool.and_self, if_true]
  rw [hD, show (.agg #[.int .i64 n, .int .i64 a, .int .i64 b, .int .i64 c, .int .i64 d] : Value).cells.toList = [.int .i64 n, .int .i64 a, .int .i64 b, .int .i64 c, .int .i64 d] from rfl, lits_of n a b c d h.1 h.2.1 h.2.2.1 h.2.2.2.1 h.2.2.2.2]
  rfl
theorem kL_inj {x y : V5} (hx : inV x) (hy : inV y) (h : kL x = kL y) : x = y := by
  obtain ⟨n, a, b, c, d⟩ := x
  obtain ⟨n', a', b', c', d'⟩ := y
  have e := keyLits_inj (lits_of n a b c d hx.1 hx.2.1 hx.2.2.1 hx.2.2.2.1 hx.2.2.2.2 0) (lits_of n' a' b' c' d' hy.1 hy.2.1 hy.2.2.1 hy.2.2.2.1 hy.2.2.2.2 0) (by unfold kL at h; simpa using h)
  simp only [lits, List.cons.injEq, Lit.int.injEq, true_and, and_true] at e
  obtain ⟨rfl, rfl, rfl, rfl, rfl⟩ := e
  rfl
theorem kL_key (x : V5) : WideAt.IsKeyLit (kL x) := by unfold kL; trivial
theorem zeroBool (w : World) : (zeroValue 4).run Try.prog w = .ok (.bool false) w := by kernel_rfl
/-- a map of looks that are in it -/
def MapB (w : World) (g k : Nat) (q : V5 → Bool) : Prop := ∃ D : DataW Unit, w.ownsMap Try.prog 25 (plainElem Try.prog 4) g k D ∧ ∀ x, inV x → D.atKey (kL x) (.lit (.bool false)) = .lit (.bool (q x))
theorem MapB.new (w : World) : MapB (w.alloc (.map #[] 0)) w.heap.size 0 (fun _ => false) := ⟨_, World.ownsMap_made w _ _ _, fun x _ => rfl⟩
theorem MapB.below {w w1 : World} {g k : Nat} {q : V5 → Bool} (h : MapB w g k q) (hB : Below w.heap.size w w1) : MapB w1 g k q := by
  obtain ⟨D, h1, h2⟩ := h
  exact ⟨D, h1.kept (row := none) ⟨hB.os, hB.tape, hB.output, hB.size, fun i hi _ => hB.block i hi⟩ (by simp), h2⟩
theorem MapB.lt {w : World} {g k : Nat} {q : V5 → Bool} (h : MapB w g k q) : g < w.heap.size := by obtain ⟨D, h1, h2⟩ := h; exact h1.lt
theorem MapB.step {D : DataW Unit} {q : V5 → Bool} (hm : Maps.IsMap D) (h : ∀ x, inV x → D.atKey (kL x) (.lit (.bool false)) = .lit (.bool (q x))) {y : V5} (hy : inV y) :
    ∀ x, inV x → (D.put (kL y) (.lit (.bool true))).atKey (kL x) (.lit (.bool false)) = .lit (.bool (q x || decide (x = y))) := by
  intro x hx
  by_cases e : x = y
  · subst e
    rw [Maps.atKey_put_same hm (kL_key x)]; simp
  · rw [Maps.atKey_put_other (fun h => e (kL_inj hx hy h)), h x hx]; simp [e]
set_option maxRecDepth 100000 in
set_option maxHeartbeats 1000000 in
theorem MapB.look {w : World} {g k : Nat} {q : V5 → Bool} (h : MapB w g k q) (n a b c d : Int) (hx : inV (n, a, b, c, d)) : (Instr.lookup 60 (.map (some g)) (.agg #[.int .i64 n, .int .i64 a, .int .i64 b, .int .i64 c, .int .i64 d]) false).run Try.prog w = .ok (.bool (q (n, a, b, c, d))) w := by
  obtain ⟨D, h1, h2⟩ := h
  obtain ⟨v, ps, hr, hv⟩ := h1.lookup lawLook Try.underlying60 (zeroBool w) (plainElem_bool Try.underlying4 false) (key_of n a b c d hx)
  rw [h2 _ hx] at hv
  unfold plainElem at hv
  rw [Try.underlying4] at hv
  cases v <;> simp at hv
  obtain ⟨e, _⟩ := hv
  rw [hr, e]
end Go.Proofs.Ytdahaajfkjmflaa.s13

namespace Go.Proofs.Ytdahaajfkjmflaa.s14
set_option linter.unusedVariables false
set_option linter.unusedSimpArgs false
open Go.RowKit
open kit

open s13

open Go.Shelf
attribute [local go_sem] Oper.semAt_some
theorem abz_claim2 {β : Type} {J : β → (Nat → Prop) → World → Prop} (h : AbZ J) {s : β} {Z : Nat → Prop} {W W' : World} (hs : J s Z W) (hg : W.grownBy W' none) (hz : W'.heap.size = W.heap.size + 1) : J s (fun r => Z r ∨ r = W.heap.size) W' := by
  have h1 := h.claim s Z W (.cells #[] 0) hs
  refine h.turn _ _ _ _ W.heap.size h1 (.inr rfl) ⟨hg.os, hg.tape, hg.output, by simp; omega, fun i hi hne => ?_⟩
  have hlt : i < W.heap.size := by
    have : i ≠ W.heap.size := fun e => hne (by rw [e])
    simp at hi; omega
  exact (hg.block i hlt (by simp)).trans (Below.heap_alloc W _ i hlt).symm
/-- the keys of a map are those of a list -/
def KeySet (D : DataW Unit) (l : List V5) : Prop := ∀ kl, Maps.has D kl = true ↔ ∃ y ∈ l, s13.kL y = kl
theorem KeySet.put {D : DataW Unit} {l : List V5} (h : KeySet D l) (hm : Maps.IsMap D) (y : V5) (d : DataW Unit) : KeySet (D.put (s13.kL y) d) (l ++ [y]) := fun kl => by
  by_cases e : kl = s13.kL y
  · subst e
    rw [Maps.has_put_same hm (kL_key y)]
    exact ⟨fun _ => ⟨y, by simp, rfl⟩, fun _ => rfl⟩
  · rw [Maps.has_put_other e, h kl]
    constructor
    · rintro ⟨z, hz, rfl⟩; exact ⟨z, by simp [hz], rfl⟩
    · rintro ⟨z, hz, rfl⟩
      rcases List.mem_append.1 hz with hz | hz
      · exact ⟨z, hz, rfl⟩
      · obtain rfl := List.mem_singleton.1 hz; exact absurd rfl e
/-- what has come, and what is left -/
def CollK (D : DataW Unit) (left : Lit → Bool) (ss : List V5) : Prop := ss.Nodup ∧ (∀ y ∈ ss, inV y) ∧ ∀ y, inV y → (y ∈ ss ↔ Maps.has D (s13.kL y) = true ∧ left (s13.kL y) = false)
theorem collK_start (D : DataW Unit) : CollK D (Maps.has D) [] := ⟨List.nodup_nil, by simp, fun y _ => by cases Maps.has D (s13.kL y) <;> simp⟩
theorem kL_same {x y : V5} (hx : inV x) (hy : inV y) : (s13.kL x).sameKey (s13.kL y) = decide (x = y) := by
  by_cases e : x = y
  · subst e; simp [s13.kL, Lit.sameKey]
  · rw [decide_eq_false e]
    have : s13.kL x ≠ s13.kL y := fun h => e (kL_inj hx hy h)
    unfold s13.kL at this ⊢
    simpa [Lit.sameKey] using this
theorem collK_step {D : DataW Unit} {left : Lit → Bool} {ss : List V5} (h : CollK D left ss) {y : V5} (hy : inV y) (hlk : left (s13.kL y) = true) (hh : Maps.has D (s13.kL y) = true) : CollK D (fun z => left z && !z.sameKey (s13.kL y)) (ss ++ [y]) := by
  have hnew : y ∉ ss := fun hx => by have := ((h.2.2 y hy).1 hx).2; rw [hlk] at this; cases this
  refine ⟨List.nodup_append.2 ⟨h.1, by simp, fun a ha b hb => by simp at hb; subst hb; exact fun e => hnew (e ▸ ha)⟩, fun z hz => ?_, fun z hz => ?_⟩
  · rcases List.mem_append.1 hz with hz | hz
    · exact h.2.1 z hz
    · obtain rfl := List.mem_singleton.1 hz; exact hy
  · have hk := kL_same hz hy
    show _ ↔ Maps.has D (s13.kL z) = true ∧ (left (s13.kL z) && !(s13.kL z).sameKey (s13.kL y)) = false
    rw [List.mem_append, List.mem_singleton, h.2.2 z hz, hk]
    by_cases e : z = y
    · subst e; simp [hh]
    · simp [e]
theorem collK_end {D : DataW Unit} {left : Lit → Bool} {ss l : List V5} (h : CollK D left ss) (hl : ∀ kl, left kl = false) (hk : KeySet D l) (hv : ∀ y ∈ l, inV y) : ss.Nodup ∧ ∀ y, y ∈ ss ↔ y ∈ l := by
  refine ⟨h.1, fun y => ⟨fun hy => ?_, fun hy => ?_⟩⟩
  · have hi := h.2.1 y hy
    obtain ⟨z, hz, e⟩ := (hk _).1 ((h.2.2 y hi).1 hy).1
    rwa [← kL_inj (hv z hz) hi e]
  · exact (h.2.2 y (hv y hy)).2 ⟨(hk _).2 ⟨y, hy, rfl⟩, hl _⟩
def encV (x : V5) : Array Value := #[.agg #[.int .i64 x.1, .int .i64 x.2.1, .int .i64 x.2.2.1, .int .i64 x.2.2.2.1, .int .i64 x.2.2.2.2]]
def aggV (x : V5) : Value := .agg #[.int .i64 x.1, .int .i64 x.2.1, .int .i64 x.2.2.1, .int .i64 x.2.2.2.1, .int .i64 x.2.2.2.2]
theorem key_aggV {y : V5} (h : inV y) : keyOf Try.prog 25 (aggV y) = some (s13.kL y) := by obtain ⟨a, b, c, d, e⟩ := y; exact key_of a b c d e h
theorem ranges_keepZ {Z : Nat → Prop} {w w' : World} {b r nn cnt : Nat} {D : DataW Unit} {left : Lit → Bool} (h : w.ranges Try.prog 25 (plainElem Try.prog 4) b r nn D left cnt) (hk : KeepZ Z w w') (hb : Z b) (hr : Z r) : w'.ranges Try.prog 25 (plainElem Try.prog 4) b r nn D left cnt := by
  obtain ⟨es, clock, since, seen, c0, h1, F, hs, hD, h2, rest⟩ := h
  exact ⟨es, clock, since, seen, c0, (hk b hb).trans h1, F, hs, hD, (hk r hr).trans h2, rest⟩
set_option maxRecDepth 100000 in
set_option maxHeartbeats 6000000 in
theorem keys1_any (F : Fence) (n0 : Nat) (h74 : F.fn 74) (hro : F.round = none) (hd : F.depth = none) (l bm b nn : Nat) (L : List V5) (hL : ∀ y ∈ L, inV y) (D0 : DataW Unit) (hD : KeySet D0 L) (J Jx : List V5 → (Nat → Prop) → World → Prop) (Z0 : Nat → Prop) (hJ : AbZ J) (hJx : AbZ Jx) (zm : Z0 bm) (zb : Z0 b) (m0 : Nat)
    (hY : ∀ pre x Z W1, J pre Z W1 → (∀ r, Z0 r → Z r) → pre.length < nn → YieldAt F m0 Try.prog l (encV x) W1 fun e W' => (e = .returned (.bool true) ∧ J (pre ++ [x]) Z W' ∧ KeepZ Z W1 W') ∨ (e = .returned (.bool false) ∧ Jx (pre ++ [x]) Z W' ∧ KeepZ Z W1 W'))
    (W : World) (hB : Box W 60 bm #[.map (some b)]) (hown : W.ownsMap Try.prog 25 (plainElem Try.prog 4) b nn D0) (h0 : J [] Z0 W) :
    CallsIn F n0 Try.prog 74 #[.func (.yield l) #[] #[], .pointer (some ⟨bm, 0, none⟩)] W fun e W' => (∃ v, e = .returned v) ∧
      ((∃ ss : List V5, (ss.Nodup ∧ ∀ y, y ∈ ss ↔ y ∈ L) ∧ J ss Z0 W') ∨ (∃ pre, True ∧ Jx pre Z0 W')) := by
  refine callsIn_any (m := 6) hd ?_
  refine callsIn_of_wp_marks Try.func74 rfl h74 ?_ hro
  simp only [Try.ntmps74, List.size_toArray, List.length_cons, List.length_nil, Nat.reduceAdd, Nat.reduceSub, Array.replicate_succ, Array.replicate_zero, List.push_toArray, List.append_toArray, List.nil_append, List.cons_append]
  have hsz := hown.size_le
  have c1 := box1 hB
  gi_wp2_with (first
    | (gi_at_range; refine wpListIn_range_own _ rfl _ 60 rfl 25 4 lawLook Try.underlying60 _ b nn _ rfl hown ?_; intro w0 hrg0 hg0 hs0)
    | gi_in)
  clear c1
  go_frame
  gi_loopw [3] (fun _ wr => ∃ (left : Lit → Bool) (cnt : Nat) (ss : List V5) (Z : Nat → Prop), wr.ranges Try.prog 25 (plainElem Try.prog 4) b W.heap.size nn D0 left cnt ∧ ss.length + cnt ≤ nn ∧ CollK D0 left ss ∧ J ss Z wr ∧ ∀ r, Z0 r ∨ r = W.heap.size → Z r) (fun _ wr => wr.rangeLeft b W.heap.size)
  case atStart => exact ⟨_, _, [], _, hrg0, by simpa using hsz, collK_start D0, abz_claim2 hJ h0 hg0 hs0, fun r hr => hr⟩
  case round =>
    clear hrg0 hg0 hs0
    obtain ⟨left, cnt, ss, Z, hrg, hcs, hC, hJs, hz⟩ := hrel
    gi_wp2_with (first
      | (gi_at_next; refine wpListIn_next_ranges (α := Value) (β := Value) _ rfl _ rfl 25 lawLook (plainElem Try.prog 4) id id (fun key kl hk => ⟨key, rfl⟩) (fun v _ _ => ⟨v, rfl⟩) b W.heap.size nn _ _ _ rfl hrg ?_ ?_)
      | gi_in)
    · intro hc0 hl0
      gi_wp2
      refine leaves_marksG (G := fun w => J ss Z w) (fun w => results_none rfl _ _ _) (fun w hw => ⟨⟨_, rfl⟩, .inl ⟨ss, collK_end hC hl0 hD hL, hJ.less _ _ _ _ hw (fun r hr => hz r (.inl hr))⟩⟩) [] _ List.nodup_nil (by simp) (by simp) hJs
    · intro x c kl yd yp w2 cnt2 hkey hlk hv hat hrg2 hlt hg2 hs2 hen
      have hhas : Maps.has D0 kl = true := Maps.has_true_of_atKey hat
      obtain ⟨y, hyL, rfl⟩ := (hD kl).1 hhas
      obtain rfl : x = aggV y := lawLook.inj hkey (key_aggV (hL y hyL))
      have hJ2 : J ss Z w2 := hJ.turn _ _ _ _ W.heap.size hJs (hz _ (.inr rfl)) hg2
      obtain ⟨⟨x0, x1, x2, x3, x4⟩, hyy⟩ : ∃ v, y = v := ⟨_, rfl⟩
      subst hyy
      have hJ3 := hJ.alloc (.cells #[.int .i64 x0, .int .i64 x1, .int .i64 x2, .int .i64 x3, .int .i64 x4] 25) hJ2
      obtain ⟨fn, tmps, assign, body, hy, hR⟩ := hY ss (x0, x1, x2, x3, x4) Z _ hJ3 (fun r hr => hz r (.inl hr)) (by omega)
      have hCs := collK_step hC (hL _ hyL) hlk hhas
      have hrg3 := ranges_keepZ (Z := Z) hrg2 (w' := w2.alloc (.cells #[.int .i64 x0, .int .i64 x1, .int .i64 x2, .int .i64 x3, .int .i64 x4] 25)) (fun r hr => Below.heap_alloc w2 _ r (hJ.size _ _ _ hJ2 r hr)) (hz _ (.inl zb)) (hz _ (.inr rfl))
      clear hs2 hkey hv hat hhas
      simp only [id_eq, aggV] at hen ⊢
      simp only [encV] at hy
      gi_wp2
      refine RoundIn.mono (anyDepthR hd hR) ?_
      clear hR hy hen
      rintro e W3 (⟨rfl, hJ4, hk4⟩ | ⟨rfl, hJx4, hk4⟩)
      · gi_wp2
        have hrg4 := ranges_keepZ hrg3 hk4 (hz _ (.inl zb)) (hz _ (.inr rfl))
        go_roundw
        case rel => exact ⟨_, cnt2, ss ++ [(x0, x1, x2, x3, x4)], Z, hrg4, by rw [List.length_append, List.length_singleton]; omega, hCs, hJ4, hz⟩
        case measure => rw [hrg4.left_eq, hrg.left_eq]; exact hlt
      · gi_wp2
        refine leaves_marksG (G := fun w => Jx (ss ++ [(x0, x1, x2, x3, x4)]) Z w) (fun w => results_none rfl _ _ _) (fun w hw => ⟨⟨_, rfl⟩, .inr ⟨_, trivial, hJx.less _ _ _ _ hw (fun r hr => hz r (.inl hr))⟩⟩) [] W3 List.nodup_nil (by simp) (by simp) hJx4
set_option maxRecDepth 100000 in
set_option maxHeartbeats 1000000 in
theorem keys_any (w : World) (m : Option Nat) : Calls Try.prog 47 #[.map m] w fun e w' => e = .returned (.func (.func 74) #[] #[.pointer (some ⟨w.heap.size, 0, none⟩)]) ∧ w' = w.alloc (.cells #[.map m] 60) := by
  go_enter Try.func47, Try.ntmps47
  go_wp2
  go_ret
  exact ⟨rfl, rfl⟩
end Go.Proofs.Ytdahaajfkjmflaa.s14
