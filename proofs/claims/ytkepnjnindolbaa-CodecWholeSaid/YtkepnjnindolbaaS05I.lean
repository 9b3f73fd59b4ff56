/-
  Layer 5, the program's side: the contract of list.
-/
import Derived.Test.YtkepnjnindolbaaS05H
namespace Go.Proofs.Ytkepnjnindolbaa.s05
set_option linter.unusedVariables false
set_option linter.unusedSimpArgs false
open Go.RowKit
open kit

set_option maxRecDepth 100000 in
set_option maxHeartbeats 2000000 in
theorem list_any (s : ByteArray) (a most least greatest : Int) (hs : s.size ≤ 20000) (h1 : 0 ≤ a) (h2 : a ≤ s.size) (h3 : -9223372036854775808 ≤ most) (h4 : most ≤ 9223372036854775807) (h5 : -9223372036854775808 ≤ least) (h6 : least ≤ 9223372036854775807) (h7 : -9223372036854775808 ≤ greatest) (h8 : greatest ≤ 9223372036854775807)
    (l : List Int) (nx er p : Int) (H : Hid (lstF most least greatest s a = (l, nx, er, p))) (w : World) :
    Calls Try.prog 65 #[.string s, .int .i64 a, .int .i64 most, .int .i64 least, .int .i64 greatest] w (GivesC (RelL l) nx er p w) := by
  have hx := H.out
  unfold lstF at hx
  clear H
  have LB := LSt.begin w s least greatest
  have R0 := Lib.hid LB.1
  have B0 := Lib.hid LB.2
  clear LB
  by_cases hr : greatest < least
  · rw [if_pos hr] at hx
    have HX := Lib.hid hx
    clear hx
    go_enter Try.func65, Try.ntmps65
    go_wp2
    cases HX.out
    refine bodyPost_ret (v := .tuple #[.slice none 0 0, .int .i64 0, .agg #[.int .i64 2, .int .i64 a]]) (by simp [results, Try.results65, go_sem]) rfl ⟨_, rfl, RelL.nil _ _, ?_⟩
    exact ((((((Below.refl w.heap.size w).alloc (Nat.le_refl _) _).alloc (by simp) _).alloc (by simp; omega) _).alloc (by simp; omega) _).alloc (by simp; omega) _).alloc (by simp; omega) _
  · rw [if_neg hr] at hx
    obtain ⟨n', nx', er', p', hb⟩ : ∃ n' nx' er' p', lenF most s a = (n', nx', er', p') := ⟨_, _, _, _, rfl⟩
    obtain ⟨b1, b2⟩ := lenF_bounds hb h1 h2
    have HB := Lib.hid hb
    rw [hb] at hx
    simp only [] at hx
    clear hb
    by_cases he : er' = 0
    · subst he
      obtain ⟨g1, g2, g3, g4, rfl⟩ := b1 rfl
      rw [if_pos rfl] at hx
      clear b1 b2
      have HX := Lib.hid hx
      clear hx
      obtain ⟨k, rfl⟩ := Int.eq_ofNat_of_zero_le g1
      go_enter Try.func65, Try.ntmps65
      go_wp2_with (go_at_call 87; refine (length_any s a most hs h1 h2 h3 h4 k nx' 0 0 HB _).mono ?_; rintro en w1 ⟨rfl, hB⟩; have R1 := Lib.hid (R0.out.below hB); have B1 := Lib.hid (below_then B0.out hB); clear hB; have c3 := R1.out.X.c1; have f3 := Box.free R1.out.X 0; have c4 := R1.out.N.c1; have f4 := Box.free R1.out.N 0; obtain ⟨c5, c6⟩ := R1.out.F.cell2; obtain ⟨f5, f6⟩ := R1.out.F.free2; have R2 := Lib.hid ((R1.out.next nx').fault 0 0); have B2 := Lib.hid (((B1.out.setCell (p := ⟨w.heap.size + 4, 0, none⟩) (by simp) (.int .i64 nx')).setCell (p := ⟨w.heap.size + 5, 0, none⟩) (by simp) (.int .i64 0)).setCell (p := ⟨w.heap.size + 5, 1, none⟩) (by simp) (.int .i64 0)))
      clear c3 f3 c4 f4 c5 c6 f5 f6
      have hk9 : (k : Int) ≤ 9223372036854775807 := by omega
      go_loopw [34] (fun i wr => ∃ (j : Nat) (q' : Int) (v : Value) (d : List Int), i = .int .i64 j ∧ j ≤ k ∧ d.length = j ∧ (j : Int) ≤ q' ∧ q' ≤ s.size ∧ Hid (LSt wr w.heap.size s least greatest q' 0 0 v d) ∧ Hid (Below w.heap.size w wr) ∧ Hid (appG d (lstG least greatest s (k - j) q') = (l, nx, er, p))) (fun i _ => k - (intOf i).toNat)
      case atStart => exact ⟨0, nx', _, [], rfl, by omega, rfl, by omega, g4, R2, B2, Lib.hid (by rw [appG_nil]; simpa using HX.out)⟩
      case round =>
        obtain ⟨j, q', v, d, rfl, hj, hdl, hq1, hq2, R3, B3, HQ⟩ := hrel
        have hd := Lib.hid hdl
        have hdle : d.length ≤ 20000 := by omega
        clear hdl
        by_cases hlt : j < k
        · obtain ⟨m, hm⟩ : ∃ m, k - j = m + 1 := ⟨k - j - 1, by omega⟩
          obtain ⟨x, ny, ey, py, hsg⟩ : ∃ x ny ey py, sgnF least greatest s q' = (x, ny, ey, py) := ⟨_, _, _, _, rfl⟩
          obtain ⟨v1, v2⟩ := sgnF_bounds hsg (by omega) hq2
          have HS := Lib.hid hsg
          have hq := HQ.out
          rw [hm] at hq
          have hm2 : k - (j + 1) = m := by omega
          have HM := Lib.hid hm2
          clear hsg hm hm2 HQ
          by_cases hey : ey = 0
          · subst hey
            obtain ⟨t1, t2, t3, t4, t5, t6, rfl⟩ := v1 rfl
            rw [appG_more d HS.out] at hq
            have HQ := Lib.hid hq
            clear hq v1 v2
            go_wp2_with (go_at_call 89; refine (listone_ok w.heap.size s least greatest q' 0 0 v d hs (by omega) hq2 h5 h6 h7 h8 hdle x ny HS _ R3).mono ?_; rintro en w4 ⟨v4, rfl, hR4, hB4⟩; have R4 := Lib.hid hR4; have B4 := Lib.hid (B3.out.trans hB4); clear hR4 hB4)
            go_roundw
            case rel => exact ⟨j + 1, ny, v4, d ++ [x], by go_num, by omega, by simp [hd.out], by omega, t6, R4, B4, Lib.hid (by rw [HM.out]; exact HQ.out)⟩
            case measure => simp [intOf]; omega
          · obtain ⟨rfl, rfl, t3, t4, t5, t6⟩ := v2 hey
            rw [appG_bad d HS.out hey] at hq
            have HX2 := Lib.hid hq
            have te : Hid ((ey != 0) = true) := Lib.hid (by simpa using hey)
            clear hq v1 v2 hey
            go_wp2_with (go_at_call 89; refine (listone_bad w.heap.size s least greatest q' 0 0 v d hs (by omega) hq2 h5 h6 h7 h8 ey py te HS _ R3).mono ?_; rintro en w4 ⟨v4, rfl, hR4, hB4⟩; have R4 := Lib.hid hR4; have B4 := Lib.hid (B3.out.trans hB4); clear hR4 hB4; have c3 := R4.out.X.c1; have f3 := Box.free R4.out.X 0; have c4 := R4.out.N.c1; have f4 := Box.free R4.out.N 0; obtain ⟨c5, c6⟩ := R4.out.F.cell2; obtain ⟨f5, f6⟩ := R4.out.F.free2)
            go_region
            go_wp2
            obtain ⟨d0, d1, d2, d3, dB, _⟩ := LSt.fin R4.out (.slice none 0 0) 0 ey py rfl
            refine bodyPost_ret (v := .tuple #[.slice none 0 0, .int .i64 0, .agg #[.int .i64 ey, .int .i64 py]]) (by simp [results, Try.results65, go_sem, d0, d1, d2, d3]) rfl ?_
            have BE := (B4.out.trans dB).drew
            cases HX2.out
            exact ⟨_, rfl, RelL.nil _ _, BE⟩
        · have hjk : j = k := by omega
          have hq := HQ.out
          rw [hjk, Nat.sub_self] at hq
          unfold lstG at hq
          rw [appG_end] at hq
          have HX2 := Lib.hid hq
          clear hq hjk HQ
          obtain ⟨a9, c9, rfl⟩ := row_shape R3.out.row
          have c3 := R3.out.X.c1
          have f3 := Box.free R3.out.X 0
          have c4 := R3.out.N.c1
          have f4 := Box.free R3.out.N 0
          obtain ⟨c5, c6⟩ := R3.out.F.cell2
          obtain ⟨f5, f6⟩ := R3.out.F.free2
          go_wp2
          go_region
          go_wp2
          obtain ⟨d0, d1, d2, d3, dB, dR⟩ := LSt.fin R3.out (.slice a9 d.length c9) q' 0 0 rfl
          refine bodyPost_ret (v := .tuple #[.slice a9 d.length c9, .int .i64 q', .agg #[.int .i64 0, .int .i64 0]]) (by simp [results, Try.results65, go_sem, d0, d1, d2, d3]) rfl ?_
          have BE := (B3.out.trans dB).drew
          cases HX2.out
          exact ⟨_, rfl, (RelL.of_row dR).mono (by omega), BE⟩
    · rw [if_neg he] at hx
      obtain ⟨rfl, rfl, g3, g4, g5⟩ := b2 he
      have te : (er' != 0) = true := by simpa using he
      have HX := Lib.hid hx
      clear hx he b1 b2
      go_enter Try.func65, Try.ntmps65
      go_wp2_with (go_at_call 87; refine (length_any s a most hs h1 h2 h3 h4 0 0 er' p' HB _).mono ?_; rintro en w1 ⟨rfl, hB⟩; have R1 := Lib.hid (R0.out.below hB); have B1 := Lib.hid (below_then B0.out hB); clear hB; have c3 := R1.out.X.c1; have f3 := Box.free R1.out.X 0; have c4 := R1.out.N.c1; have f4 := Box.free R1.out.N 0; obtain ⟨c5, c6⟩ := R1.out.F.cell2; obtain ⟨f5, f6⟩ := R1.out.F.free2)
      go_region
      go_wp2
      obtain ⟨d0, d1, d2, d3, dB, _⟩ := LSt.fin ((R1.out.next 0).fault er' p') (.slice none 0 0) 0 er' p' rfl
      refine bodyPost_ret (v := .tuple #[.slice none 0 0, .int .i64 0, .agg #[.int .i64 er', .int .i64 p']]) (by simp [results, Try.results65, go_sem, d0, d1, d2, d3]) rfl ?_
      have BE := (((((B1.out.setCell (p := ⟨w.heap.size + 4, 0, none⟩) (by simp) (.int .i64 0)).setCell (p := ⟨w.heap.size + 5, 0, none⟩) (by simp) (.int .i64 er')).setCell (p := ⟨w.heap.size + 5, 1, none⟩) (by simp) (.int .i64 p'))).trans dB).drew
      cases HX.out
      exact ⟨_, rfl, RelL.nil _ _, BE⟩
end Go.Proofs.Ytkepnjnindolbaa.s05
