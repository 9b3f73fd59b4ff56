/-
  The contract of the reference's ReadList.
-/
import Derived.Test.YtjobmgnabfnhbaaWalksJ
namespace Go.Proofs.Ytjobmgnabfnhbaa
open Go.RowKit

set_option maxRecDepth 100000 in
set_option maxHeartbeats 1000000 in
theorem rlistr_far (s : ByteArray) (m : Int) (h : m < 0 ∨ 20000 < m) (w : World) : Calls Try.prog 26 #[.string s, .int .i64 m] w (Listed w [] 2 0) := by
  by_cases hn : m < 0
  · clear h
    go_enter Try.func26, Try.ntmps26
    go_wp2
    refine bodyPost_ret (v := .tuple #[.slice none 0 0, .agg #[.int .i64 2, .int .i64 0]]) (by simp [results, Try.results26, go_sem]) rfl (listed_nil rfl ?_)
    exact (Below.refl _ _).alloc (Nat.le_refl _) _
  · have hb : 20000 < m := by omega
    clear h
    go_enter Try.func26, Try.ntmps26
    go_wp2
    refine bodyPost_ret (v := .tuple #[.slice none 0 0, .agg #[.int .i64 2, .int .i64 0]]) (by simp [results, Try.results26, go_sem]) rfl (listed_nil rfl ?_)
    exact (Below.refl _ _).alloc (Nat.le_refl _) _

set_option maxRecDepth 100000 in
set_option maxHeartbeats 1000000 in
theorem rlistr_near (s : ByteArray) (m : Nat) (hs : s.size ≤ 9223372036854775807) (h : m ≤ 20000) (L : List Int) (er p : Int) (H : Hid (rlg s m 0 [] = (L, er, p))) (w : World) :
    Calls Try.prog 26 #[.string s, .int .i64 m] w (Listed w L er p) := by
  have d1 : decide ((m : Int) < 0) = false := decide_eq_false (by omega)
  have d2 : decide (20000 < (m : Int)) = false := decide_eq_false (by omega)
  obtain ⟨i0, hi, hz0, hz1, hz2⟩ := info_parts info22
  go_enter Try.func26, Try.ntmps26
  go_wp2
  go_loopw [6, 7, 8] (fun v q i wr => ∃ (k : Nat) (q' : Int) (acc : List Int), k ≤ m ∧ i = .int .i64 k ∧ q = .int .i64 q' ∧ 0 ≤ q' ∧ q' ≤ s.size ∧ acc.length = k ∧ wr.ownsRow w.heap.size 22 1 v acc.length (acc.map (Value.int .u64)) ∧ rlg s (m - k) q' acc = (L, er, p) ∧ Box2 wr w.heap.size (.int .i64 0) (.int .i64 0) ∧ Below w.heap.size w wr) (fun _ _ i _ => m - (intOf i).toNat)
  case atStart => exact ⟨0, 0, [], by omega, rfl, rfl, by omega, by omega, rfl, World.ownsRow_nil _ _ _ _, by simpa using H.out, Box2.new w _ _, (Below.refl _ _).alloc (Nat.le_refl _) _⟩
  case round =>
    obtain ⟨k, q, acc, hk, rfl, rfl, hq0, hq1, hacc, hrow, hrl, hbox, hB⟩ := hrel
    have HL := Lib.hid hrl
    have HA := Lib.hid hacc
    have hBz := hB.size
    have hBz' : w.heap.size ≤ w.heap.size := Nat.le_refl _
    have hlt2 := hbox.lt
    clear hrl hacc
    by_cases hlt : k < m
    · obtain ⟨n, nx, er1, p1, HR⟩ : ∃ n nx er p, Hid (rd s q = (n, nx, er, p)) := ⟨_, _, _, _, Lib.hid rfl⟩
      obtain ⟨b1, b2⟩ := rd_bounds s q HR.out
      have HS : Hid ((if er1 = 0 then rlg s (m - (k + 1)) nx (acc ++ [n]) else ([], er1, p1)) = (L, er, p)) := Lib.hid (by
        have := HL.out
        rw [show m - k = (m - (k + 1)) + 1 by omega, rlg, HR.out] at this
        exact this)
      by_cases he : er1 = 0
      · subst he
        obtain ⟨b3, b4, _, b5, b6, rfl⟩ := b1 rfl
        clear b1 b2 HL
        have HT := Lib.hid ((if_pos rfl).symm.trans HS.out)
        clear HS
        have hak : acc.length ≤ 20000 := by have := HA.out; omega
        go_wp2_with (first
          | (go_at_call 12; refine (readr_any s q (by omega) (by omega) (by omega) n nx 0 0 HR _).mono ?_; rintro e w1 ⟨rfl, hB1⟩; have hbox1 := hbox.below hB1; have hrow1 := row_below hrow hB1; have hB1z := hB1.size)
          | (at_builtin; refine wpList_append_own _ rfl _ _ 38 rfl w.heap.size 22 i0 (.int .u64 0) 1 8 Try.underlying38 hi hz0 hz1 hz2 rfl (by decide) _ _ _ rfl ((hrow1.alloc _).alloc _) ⟨w1.heap.size + 1, 0, none⟩ 1 1 [.int .u64 n] rfl rfl (cell_two_on _ _ _ _) (by simp [Value.oneCell']) (by unfold maxLen; omega) (by omega) (by simp; omega) ?_; intro v' wA hown' hgrow _; obtain ⟨g', cap', rfl⟩ := ownsRow_succ' hown'))
        have hr2 := (hrow1.alloc (.cells #[.int .i64 0, .int .i64 0] 26)).alloc (.cells #[.int .u64 n] 22)
        have hx2 := (hbox1.alloc (.cells #[.int .i64 0, .int .i64 0] 26)).alloc (.cells #[.int .u64 n] 22)
        have hB2 := ((below_on hB hBz' hB1).alloc (by omega) (.cells #[.int .i64 0, .int .i64 0] 26)).alloc (by simp; omega) (.cells #[.int .u64 n] 22)
        have hboxA := hx2.kept hgrow (hx2.not_row hr2)
        have hBA := below_grown hB2 hr2 hgrow (by simp; omega)
        go_roundw
        case rel => exact ⟨k + 1, nx, acc ++ [n], by omega, by go_num, rfl, by omega, by omega, by simp [HA.out], by simpa using hown', HT.out, hboxA, hBA⟩
        case measure => simp [intOf]; omega
      · have hne : (er1 != 0) = true := by simpa using he
        have HT := Lib.hid ((if_neg he).symm.trans HS.out)
        clear b1 b2 HL HS he
        go_wp2_with (go_at_call 12; refine (readr_any s q (by omega) (by omega) (by omega) n nx er1 p1 HR _).mono ?_; rintro e w1 ⟨rfl, hB1⟩; have hbox1 := hbox.below hB1; have hB1z := hB1.size; obtain ⟨cA0, cA1⟩ := hbox1.cells; obtain ⟨fA0, fA1⟩ := hbox1.frees; have lA := hbox1.lt)
        go_region
        all_goals
          go_wp2
          refine bodyPost_ret (v := .tuple #[.slice none 0 0, .agg #[.int .i64 er1, .int .i64 p1]]) (by simp [results, Try.results26, go_sem, cA0, cA1, lA]) rfl (listed_nil HT.out ?_)
          have HB := below_on hB hBz' hB1
          repeat (first | exact HB | apply Below.drew | refine Below.setCell ?_ (by first | exact Nat.le_refl _ | (simp; omega)) _ | refine Below.alloc ?_ (by simp; omega) _)
    · have hkm : m - k = 0 := by omega
      have HS : Hid ((if q < s.size then ([], 4, q) else (acc, 0, 0)) = (L, er, p)) := Lib.hid (by
        have := HL.out
        rw [hkm, rlg] at this
        exact this)
      obtain ⟨cA0, cA1⟩ := hbox.cells
      obtain ⟨fA0, fA1⟩ := hbox.frees
      clear HL hkm
      by_cases hq : q < s.size
      · have HT := Lib.hid ((if_pos hq).symm.trans HS.out)
        clear HS
        go_wp2
        refine bodyPost_ret (v := .tuple #[.slice none 0 0, .agg #[.int .i64 4, .int .i64 q]]) (by simp [results, Try.results26, go_sem, cA0, cA1]) rfl (listed_nil HT.out ?_)
        exact below_set hB _ (Nat.le_refl _) _ _
      · have HT := Lib.hid ((if_neg hq).symm.trans HS.out)
        clear HS
        go_wp2
        refine bodyPost_ret (v := .tuple #[u6, .agg #[.int .i64 0, .int .i64 0]]) (by simp [results, Try.results26, go_sem, cA0, cA1]) rfl (listed_some HT.out ?_ ?_)
        · exact row_set hrow (hbox.not_row hrow)
        · exact below_set hB _ (Nat.le_refl _) _ _
theorem rlistr_any (s : ByteArray) (m : Int) (hs : s.size ≤ 9223372036854775807) (L : List Int) (er p : Int) (H : Hid (rlist s m = (L, er, p))) (w : World) :
    Calls Try.prog 26 #[.string s, .int .i64 m] w (Listed w L er p) := by
  have h := H.out
  unfold rlist at h
  by_cases hf : m < 0 ∨ 20000 < m
  · rw [if_pos hf] at h; cases h
    exact rlistr_far s m hf w
  · rw [if_neg hf] at h
    obtain ⟨n, rfl⟩ := Int.eq_ofNat_of_zero_le (show 0 ≤ m by omega)
    exact rlistr_near s n hs (by omega) L er p h w
end Go.Proofs.Ytjobmgnabfnhbaa
