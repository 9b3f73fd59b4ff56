/-
  Layer 4: the reference's Lexemes.
-/
import Derived.Test.YtjhmlmimgahnmaaS04L
namespace Go.Proofs.Ytjhmlmimgahnmaa.s04
set_option linter.unusedVariables false
set_option linter.unusedSimpArgs false
open Go.RowKit
open kit

theorem rlex_results (tm : Array Value) (W : World) (b : Nat) {v x y : Value} (h2 : tm.getD 2 undef = v) (h3 : tm.getD 3 undef = .pointer (some ⟨b, 0, none⟩))
    (X : Box W 26 b #[x, y]) : (results Try.f9 tm).run Try.prog W = .ok (.tuple #[v, .agg #[x, y]]) W := by
  obtain ⟨c0, c1⟩ := X.cell2
  simp only [Array.getD_eq_getD_getElem?] at h2 h3
  simp [results, Try.results9, go_sem, h2, h3, c0, c1]
set_option maxRecDepth 100000 in
set_option maxHeartbeats 2000000 in
theorem rlex_any (s : ByteArray) (w : World) (hs : s.size ≤ 100000) (L : List Li) (er p : Nat) (H : Hid (lexR s = (L, er, p))) :
    Calls Try.prog 9 #[.string s] w (LexsTo w L er p) := by
  by_cases hbig : 2000 < s.size
  · have HX : Hid (([], 4, 2000) = (L, er, p)) := Lib.hid (by rw [← H.out]; unfold lexR; rw [if_pos hbig])
    go_enter Try.func9, Try.ntmps9
    go_wp2
    refine bodyPost_ret (v := .tuple #[.slice none 0 0, .agg #[.int .i64 ((4 : Nat) : Int), .int .i64 ((2000 : Nat) : Int)]]) (by simp [results, Try.results9, go_sem]; first | rfl | done) rfl (lexs_nil HX.out ((Below.refl _ _).alloc (Nat.le_refl _) _))
  · have H0 : Hid (lexS s (s.size + 1) 0 [] = (L, er, p)) := Lib.hid (by rw [← H.out]; unfold lexR; rw [if_neg hbig])
    have HB0 := Lib.hid ((Below.refl w.heap.size w).alloc (Nat.le_refl _) (.cells #[.int .i64 0, .int .i64 0] 26))
    have HX0 := Lib.hid (Box.new w 26 #[.int .i64 0, .int .i64 0])
    go_enter Try.func9, Try.ntmps9
    go_wp2
    go_loopw [4, 5] (fun v i wr => ∃ (k f : Nat) (acc : List Li), i = .int .i64 k ∧ k ≤ s.size ∧ s.size - k < f ∧ acc.length ≤ k ∧ Hid (lexS s f k acc = (L, er, p)) ∧ Hid (wr.ownsRow (w.heap.size + 1) 31 3 v acc.length (flatL acc)) ∧ Hid (Box wr 26 w.heap.size #[.int .i64 0, .int .i64 0]) ∧ Hid (Below w.heap.size w wr)) (fun _ i _ => s.size - (intOf i).toNat)
    case atStart => exact ⟨0, s.size + 1, [], rfl, by omega, by omega, by simp, H0, Lib.hid (World.ownsRow_nil _ _ _ _), HX0, HB0⟩
    case round =>
      obtain ⟨k, f, acc, rfl, hk, hf, hal, HL, HR, HX, HB⟩ := hrel
      obtain ⟨f, rfl⟩ : ∃ g, f = g + 1 := ⟨f - 1, by omega⟩
      obtain ⟨⟨kd, tx, pl⟩, n, e1, a1, HN⟩ : ∃ x n e a, Hid (nextR s (k : Int) = (x, n, e, a)) := ⟨_, _, _, _, Lib.hid rfl⟩
      have hst := lexS_step HL.out HN.out
      have hw0 : w.heap.size ≤ w.heap.size := Nat.le_refl _
      by_cases h5 : e1 = 5
      · have HE := Lib.hid (hst.1 h5)
        subst h5
        clear hst
        go_wp2_with (go_at_call 12; (with_reducible refine (next_any s (k : Int) _ (by omega) (by omega) (by omega) (kd, tx, pl) n 5 a1 HN).mono ?_); rintro e w1 ⟨rfl, hB1⟩; have HB1 := Lib.hid (below_on HB.out hw0 hB1); have HR1 := Lib.hid (row_below HR.out hB1); have HX1 := Lib.hid (HX.out.below hB1); have hlt1 := HX1.out.lt; clear hB1; obtain ⟨c0, c1⟩ := HX1.out.cell2; obtain ⟨f0, f1⟩ := HX1.out.free2)
        have XF := ((((HX1.out.set 0 (by simp) (.int .i64 0)).set 1 (by simp) (.int .i64 0)).alloc (.cells #[.int .i64 (kd : Int), .string tx, .int .i64 (pl : Int)] 31)).alloc (.cells #[.int .i64 5, .int .i64 (a1 : Int)] 26))
        refine bodyPost_ret (rlex_results _ _ w.heap.size rfl rfl XF) rfl (lexs_row HE.out (((row_far (row_far HR1.out (Nat.lt_succ_self _) 0 _) (Nat.lt_succ_self _) 1 _).alloc _).alloc _) ?_)
        exact (((HB1.out.setCell (p := ⟨w.heap.size, 0, none⟩) (Nat.le_refl _) _).setCell (p := ⟨w.heap.size, 1, none⟩) (Nat.le_refl _) _).alloc (by simp; omega) _).alloc (by simp; omega) _
      · by_cases h0 : e1 = 0
        · have HE := Lib.hid (hst.2.1 h0)
          have hon := nextR_on hk HN.out h0
          subst h0
          clear hst h5
          go_wp2_with (first
            | (go_at_call 12; (with_reducible refine (next_any s (k : Int) _ (by omega) (by omega) (by omega) (kd, tx, pl) n 0 a1 HN).mono ?_); rintro e w1 ⟨rfl, hB1⟩; have HB1 := Lib.hid (below_on HB.out hw0 hB1); have HR1 := Lib.hid (row_below HR.out hB1); have HX1 := Lib.hid (HX.out.below hB1); have hlt1 := HX1.out.lt; clear hB1; obtain ⟨c0, c1⟩ := HX1.out.cell2; obtain ⟨f0, f1⟩ := HX1.out.free2)
            | (at_builtin; refine append_lex Try.underlying23 rfl (.tmp 29) (.tmp 31) rfl (w.heap.size + 1) _ acc.length acc rfl (((HR1.out.alloc _).alloc _).alloc _) ⟨w1.heap.size + 1 + 1, 0, none⟩ [((kd : Int), tx, (pl : Int))] 1 1 rfl rfl (src_new2 _ _ _ _ ((kd : Int), tx, (pl : Int))) (by omega) (by simp; omega) ?_; intro vA wA hrA hgA))
          have XA := Lib.hid ((((HX1.out.alloc _).alloc _).alloc _).grown hgA (own_ne HR1.out (Nat.lt_succ_self _)))
          have BA := Lib.hid ((((HB1.out.alloc (Nat.le_of_lt hlt1) _).alloc (by simp; omega) _).alloc (by simp; omega) _).grown hgA (by simp; omega) (fun j ej => by have := (HR1.out.lt j ej).1; omega))
          have RA := Lib.hid hrA
          clear hrA hgA
          go_roundw
          case rel => exact ⟨n, f, acc ++ [((kd : Int), tx, (pl : Int))], rfl, hon.2, by omega, by simp; omega, HE, by rw [List.length_append]; exact RA, XA, BA⟩
          case measure => simp [intOf]; omega
        · have HE := Lib.hid (hst.2.2 h5 h0)
          have t5 : ((e1 : Int) == 5) = false := by rw [beq_eq_false_iff_ne]; omega
          have t0 : ((e1 : Int) != 0) = true := by rw [bne_iff_ne]; omega
          clear hst h5 h0
          go_wp2_with (go_at_call 12; (with_reducible refine (next_any s (k : Int) _ (by omega) (by omega) (by omega) (kd, tx, pl) n e1 a1 HN).mono ?_); rintro e w1 ⟨rfl, hB1⟩; have HB1 := Lib.hid (below_on HB.out hw0 hB1); have HR1 := Lib.hid (row_below HR.out hB1); have HX1 := Lib.hid (HX.out.below hB1); have hlt1 := HX1.out.lt; clear hB1; obtain ⟨c0, c1⟩ := HX1.out.cell2; obtain ⟨f0, f1⟩ := HX1.out.free2)
          go_region
          go_wp2
          have XF := ((((HX1.out.set 0 (by simp) (.int .i64 (e1 : Int))).set 1 (by simp) (.int .i64 (a1 : Int))).alloc (.cells #[.int .i64 (kd : Int), .string tx, .int .i64 (pl : Int)] 31)).alloc (.cells #[.int .i64 (e1 : Int), .int .i64 (a1 : Int)] 26)).drew
          refine bodyPost_ret (rlex_results _ _ w.heap.size rfl rfl XF) rfl (lexs_nil HE.out ?_)
          exact ((((HB1.out.setCell (p := ⟨w.heap.size, 0, none⟩) (Nat.le_refl _) _).setCell (p := ⟨w.heap.size, 1, none⟩) (Nat.le_refl _) _).alloc (by simp; omega) _).alloc (by simp; omega) _).drew
end Go.Proofs.Ytjhmlmimgahnmaa.s04
