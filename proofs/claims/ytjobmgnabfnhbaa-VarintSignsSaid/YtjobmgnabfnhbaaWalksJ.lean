/-
  The contract of the program's ReadList.
-/
import Derived.Test.YtjobmgnabfnhbaaBoxes
import Derived.RegionTactic
namespace Go.Proofs.Ytjobmgnabfnhbaa
open Go.RowKit

/-- so many numbers more, from an offset on; behind them the end -/
def rlg (s : ByteArray) : Nat → Int → List Int → List Int × Int × Int
  | 0, q, acc => if q < s.size then ([], 4, q) else (acc, 0, 0)
  | k + 1, q, acc => if (rd s q).2.2.1 = 0 then rlg s k (rd s q).2.1 (acc ++ [(rd s q).1]) else ([], (rd s q).2.2.1, (rd s q).2.2.2)
/-- what ReadList answers: the numbers, error, its offset -/
def rlist (s : ByteArray) (many : Int) : List Int × Int × Int :=
  if many < 0 ∨ 20000 < many then ([], 2, 0) else rlg s many.toNat 0 []

def Listed (w : World) (L : List Int) (er p : Int) (e : Ending) (w' : World) : Prop :=
  ∃ v, e = .returned (.tuple #[v, .agg #[.int .i64 er, .int .i64 p]]) ∧ w'.ownsRow w.heap.size 22 1 v L.length (L.map (Value.int .u64)) ∧ Below w.heap.size w w'

theorem listed_nil {w w' : World} {L : List Int} {er p er' p' : Int} (h : ([], er, p) = (L, er', p')) (hB : Below w.heap.size w w') : Listed w L er' p' (.returned (.tuple #[.slice none 0 0, .agg #[.int .i64 er, .int .i64 p]])) w' := by
  cases h
  exact ⟨_, rfl, World.ownsRow_nil _ _ _ _, hB⟩
theorem listed_some {w w' : World} {acc L : List Int} {er' p' : Int} {v : Value} (h : (acc, 0, 0) = (L, er', p')) (hr : w'.ownsRow w.heap.size 22 1 v acc.length (acc.map (Value.int .u64))) (hB : Below w.heap.size w w') : Listed w L er' p' (.returned (.tuple #[v, .agg #[.int .i64 0, .int .i64 0]])) w' := by
  cases h
  exact ⟨_, rfl, hr, hB⟩
theorem Box2.kept {w w1 : World} {b : Nat} {x y : Value} {row : Option Nat} (h : Box2 w b x y) (hg : w.grownBy w1 row) (hne : some b ≠ row) : Box2 w1 b x y := (hg.block b h.lt hne).trans h
theorem Box2.not_row {w : World} {b : Nat} {x y : Value} (h : Box2 w b x y) {base k : Nat} {v : Value} {xs : List Value} (hr : w.ownsRow base 22 1 v k xs) : some b ≠ v.ownBlock := by
  rcases hr.2 with ⟨rfl, _⟩ | ⟨g, cap, cur, rfl, _, hgb, _⟩
  · simp [Value.ownBlock]
  · intro e'
    obtain rfl : b = g := by simpa [Value.ownBlock] using e'
    have := (show w.heap[b]? = _ from h).symm.trans hgb
    simp at this
theorem row_below {w w1 : World} {base k : Nat} {v : Value} {xs : List Value} (hr : w.ownsRow base 22 1 v k xs) (hB : Below w.heap.size w w1) : w1.ownsRow base 22 1 v k xs := by
  refine ⟨hr.1, ?_⟩
  rcases hr.2 with h | ⟨g, cap, cur, rfl, hb, hgb, rest⟩
  · exact .inl h
  · exact .inr ⟨g, cap, cur, rfl, hb, (hB.block g (Array.getElem?_eq_some_iff.1 hgb).1).trans hgb, rest⟩
theorem row_set {w : World} {base k b : Nat} {v x y : Value} {xs : List Value} (hr : w.ownsRow base 22 1 v k xs) (hb : some b ≠ v.ownBlock) : ((w.setCell ⟨b, 0, none⟩ x).setCell ⟨b, 1, none⟩ y).ownsRow base 22 1 v k xs := by
  refine ⟨hr.1, ?_⟩
  rcases hr.2 with h | ⟨g, cap, cur, rfl, hb', hgb, rest⟩
  · exact .inl h
  · refine .inr ⟨g, cap, cur, rfl, hb', ?_, rest⟩
    have hne : g ≠ b := fun e => hb (by rw [e]; rfl)
    exact (Below.heap_setCell _ _ _ _ hne).trans ((Below.heap_setCell _ _ _ _ hne).trans hgb)
theorem ownsRow_succ' {W : World} {base : Nat} {e : TypeId} {size : Nat} {v : Value} {k : Nat} {xs : List Value} (h : W.ownsRow base e size v (k + 1) xs) : ∃ g cap, v = .slice (some ⟨g, 0, none⟩) (k + 1) cap := by
  rcases h.2 with ⟨_, h0⟩ | ⟨g, cap, _, rfl, _⟩
  · omega
  · exact ⟨g, cap, rfl⟩
theorem below_grown {B : Nat} {w w1 w2 : World} {v : Value} {k : Nat} {xs : List Value} (h : Below B w w1) (hr : w1.ownsRow B 22 1 v k xs) (hg : w1.grownBy w2 v.ownBlock) (hB : B ≤ w1.heap.size) : Below B w w2 := by
  refine h.grown hg hB fun j ej => ?_
  rcases hr.2 with ⟨rfl, _⟩ | ⟨g, cap, cur, rfl, hb, _, _⟩
  · simp [Value.ownBlock] at ej
  · obtain rfl : g = j := by simpa [Value.ownBlock] using ej
    exact hb
theorem cell_two_on (w : World) (o : Obj) (v : Value) (t : TypeId) : ∀ j u, [v][j]? = some u → ((w.alloc o).alloc (.cells #[v] t)).cell? ((⟨w.heap.size + 1, 0, none⟩ : Addr).add j) = some u := by
  have := cell_one_new (w.alloc o) v t
  rw [World.size_alloc] at this
  exact this
theorem info22 : (Try.prog.info? 22).map (fun i => (i.zero, i.size, i.bytes)) = some (some (.int .u64 0), 1, 8) := by kernel_rfl

set_option maxRecDepth 100000 in
set_option maxHeartbeats 1000000 in
theorem rlist_far (s : ByteArray) (m : Int) (h : m < 0 ∨ 20000 < m) (w : World) : Calls Try.prog 25 #[.string s, .int .i64 m] w (Listed w [] 2 0) := by
  by_cases hn : m < 0
  · clear h
    go_enter Try.func25, Try.ntmps25
    go_wp2
    refine bodyPost_ret (v := .tuple #[.slice none 0 0, .agg #[.int .i64 2, .int .i64 0]]) (by simp [results, Try.results25, go_sem]) rfl (listed_nil rfl ?_)
    exact (Below.refl _ _).alloc (Nat.le_refl _) _
  · have hb : 20000 < m := by omega
    clear h
    go_enter Try.func25, Try.ntmps25
    go_wp2
    refine bodyPost_ret (v := .tuple #[.slice none 0 0, .agg #[.int .i64 2, .int .i64 0]]) (by simp [results, Try.results25, go_sem]) rfl (listed_nil rfl ?_)
    exact (Below.refl _ _).alloc (Nat.le_refl _) _

set_option maxRecDepth 100000 in
set_option maxHeartbeats 1000000 in
theorem rlist_near (s : ByteArray) (m : Nat) (hs : s.size ≤ 9223372036854775807) (h : m ≤ 20000) (L : List Int) (er p : Int) (H : Hid (rlg s m 0 [] = (L, er, p))) (w : World) :
    Calls Try.prog 25 #[.string s, .int .i64 m] w (Listed w L er p) := by
  have d1 : decide ((m : Int) < 0) = false := decide_eq_false (by omega)
  have d2 : decide (20000 < (m : Int)) = false := decide_eq_false (by omega)
  obtain ⟨i0, hi, hz0, hz1, hz2⟩ := info_parts info22
  go_enter Try.func25, Try.ntmps25
  go_wp2
  go_loopw [6, 7, 19] (fun v q i wr => ∃ (k : Nat) (q' : Int) (acc : List Int), k ≤ m ∧ i = .int .i64 k ∧ q = .int .i64 q' ∧ 0 ≤ q' ∧ q' ≤ s.size ∧ acc.length = k ∧ wr.ownsRow w.heap.size 22 1 v acc.length (acc.map (Value.int .u64)) ∧ rlg s (m - k) q' acc = (L, er, p) ∧ Box2 wr w.heap.size (.int .i64 0) (.int .i64 0) ∧ Below w.heap.size w wr) (fun _ _ i _ => m - (intOf i).toNat)
  case atStart => exact ⟨0, 0, [], by omega, rfl, rfl, by omega, by omega, rfl, World.ownsRow_nil _ _ _ _, by simpa using H.out, Box2.new w _ _, (Below.refl _ _).alloc (Nat.le_refl _) _⟩
  case round =>
    obtain ⟨k, q, acc, hk, rfl, rfl, hq0, hq1, hacc, hrow, hrl, hbox, hB⟩ := hrel
    have HL := Lib.hid hrl
    have HA := Lib.hid hacc
    have hBz := hB.size
    have hBz' : w.heap.size ≤ w.heap.size := Nat.le_refl _
    have hlt2 := hbox.lt
    clear hrl hacc
    by_cases hlt : k < m
    · obtain ⟨n, nx, er1, p1, HR⟩ : ∃ n nx er p, Hid (rd s q = (n, nx, er, p)) := ⟨_, _, _, _, Lib.hid rfl⟩
      obtain ⟨b1, b2⟩ := rd_bounds s q HR.out
      have HS : Hid ((if er1 = 0 then rlg s (m - (k + 1)) nx (acc ++ [n]) else ([], er1, p1)) = (L, er, p)) := Lib.hid (by
        have := HL.out
        rw [show m - k = (m - (k + 1)) + 1 by omega, rlg, HR.out] at this
        exact this)
      by_cases he : er1 = 0
      · subst he
        obtain ⟨b3, b4, _, b5, b6, rfl⟩ := b1 rfl
        clear b1 b2 HL
        have HT := Lib.hid ((if_pos rfl).symm.trans HS.out)
        clear HS
        have hak : acc.length ≤ 20000 := by have := HA.out; omega
        go_wp2_with (first
          | (go_at_call 11; refine (read_any s q (by omega) (by omega) (by omega) n nx 0 0 HR _).mono ?_; rintro e w1 ⟨rfl, hB1⟩; have hbox1 := hbox.below hB1; have hrow1 := row_below hrow hB1; have hB1z := hB1.size)
          | (at_builtin; refine wpList_append_own _ rfl _ _ 38 rfl w.heap.size 22 i0 (.int .u64 0) 1 8 Try.underlying38 hi hz0 hz1 hz2 rfl (by decide) _ _ _ rfl ((hrow1.alloc _).alloc _) ⟨w1.heap.size + 1, 0, none⟩ 1 1 [.int .u64 n] rfl rfl (cell_two_on _ _ _ _) (by simp [Value.oneCell']) (by unfold maxLen; omega) (by omega) (by simp; omega) ?_; intro v' wA hown' hgrow _; obtain ⟨g', cap', rfl⟩ := ownsRow_succ' hown'))
        have hr2 := (hrow1.alloc (.cells #[.int .i64 0, .int .i64 0] 26)).alloc (.cells #[.int .u64 n] 22)
        have hx2 := (hbox1.alloc (.cells #[.int .i64 0, .int .i64 0] 26)).alloc (.cells #[.int .u64 n] 22)
        have hB2 := ((below_on hB hBz' hB1).alloc (by omega) (.cells #[.int .i64 0, .int .i64 0] 26)).alloc (by simp; omega) (.cells #[.int .u64 n] 22)
        have hboxA := hx2.kept hgrow (hx2.not_row hr2)
        have hBA := below_grown hB2 hr2 hgrow (by simp; omega)
        go_roundw
        case rel => exact ⟨k + 1, nx, acc ++ [n], by omega, by go_num, rfl, by omega, by omega, by simp [HA.out], by simpa using hown', HT.out, hboxA, hBA⟩
        case measure => simp [intOf]; omega
      · have hne : (er1 != 0) = true := by simpa using he
        have HT := Lib.hid ((if_neg he).symm.trans HS.out)
        clear b1 b2 HL HS he
        go_wp2_with (go_at_call 11; refine (read_any s q (by omega) (by omega) (by omega) n nx er1 p1 HR _).mono ?_; rintro e w1 ⟨rfl, hB1⟩; have hbox1 := hbox.below hB1; have hB1z := hB1.size; obtain ⟨cA0, cA1⟩ := hbox1.cells; obtain ⟨fA0, fA1⟩ := hbox1.frees; have lA := hbox1.lt)
        go_region
        all_goals
          go_wp2
          refine bodyPost_ret (v := .tuple #[.slice none 0 0, .agg #[.int .i64 er1, .int .i64 p1]]) (by simp [results, Try.results25, go_sem, cA0, cA1, lA]) rfl (listed_nil HT.out ?_)
          have HB := below_on hB hBz' hB1
          repeat (first | exact HB | apply Below.drew | refine Below.setCell ?_ (by first | exact Nat.le_refl _ | (simp; omega)) _ | refine Below.alloc ?_ (by simp; omega) _)
    · have hkm : m - k = 0 := by omega
      have HS : Hid ((if q < s.size then ([], 4, q) else (acc, 0, 0)) = (L, er, p)) := Lib.hid (by
        have := HL.out
        rw [hkm, rlg] at this
        exact this)
      obtain ⟨cA0, cA1⟩ := hbox.cells
      obtain ⟨fA0, fA1⟩ := hbox.frees
      clear HL hkm
      by_cases hq : q < s.size
      · have HT := Lib.hid ((if_pos hq).symm.trans HS.out)
        clear HS
        go_wp2
        refine bodyPost_ret (v := .tuple #[.slice none 0 0, .agg #[.int .i64 4, .int .i64 q]]) (by simp [results, Try.results25, go_sem, cA0, cA1]) rfl (listed_nil HT.out ?_)
        exact below_set hB _ (Nat.le_refl _) _ _
      · have HT := Lib.hid ((if_neg hq).symm.trans HS.out)
        clear HS
        go_wp2
        refine bodyPost_ret (v := .tuple #[u6, .agg #[.int .i64 0, .int .i64 0]]) (by simp [results, Try.results25, go_sem, cA0, cA1]) rfl (listed_some HT.out ?_ ?_)
        · exact row_set hrow (hbox.not_row hrow)
        · exact below_set hB _ (Nat.le_refl _) _ _
theorem rlist_any (s : ByteArray) (m : Int) (hs : s.size ≤ 9223372036854775807) (L : List Int) (er p : Int) (H : Hid (rlist s m = (L, er, p))) (w : World) :
    Calls Try.prog 25 #[.string s, .int .i64 m] w (Listed w L er p) := by
  have h := H.out
  unfold rlist at h
  by_cases hf : m < 0 ∨ 20000 < m
  · rw [if_pos hf] at h; cases h
    exact rlist_far s m hf w
  · rw [if_neg hf] at h
    obtain ⟨n, rfl⟩ := Int.eq_ofNat_of_zero_le (show 0 ≤ m by omega)
    exact rlist_near s n hs (by omega) L er p h w
end Go.Proofs.Ytjobmgnabfnhbaa
