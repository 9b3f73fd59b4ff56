/-
  The contract of the program's Bits.
-/
import Derived.Test.YtpdpdmkfgbmdmaaWalksK
namespace Go.Proofs.Ytpdpdmkfgbmdmaa
set_option linter.unusedSimpArgs false
set_option linter.unusedVariables false
open Go.RowKit Go.Shelf
open crcs (W)
attribute [local go_sem] Oper.semAt_some

theorem row_put {W0 : World} {base k D : Nat} {v : Value} {xs : List Value} (hr : W0.ownsRow base 3 1 v k xs) (hK : W0.heap[D]? = some (.deferred (some []))) (o : Obj) : (W0.putObj D o).ownsRow base 3 1 v k xs := by
  refine ⟨hr.1, ?_⟩
  rcases hr.2 with h | ⟨g, cap, cur, rfl, hb, hgb, rest⟩
  · exact .inl h
  · have hne : g ≠ D := by rintro rfl; rw [hgb] at hK; cases hK
    exact .inr ⟨g, cap, cur, rfl, hb, (putObj_heap W0 D g o hne (Array.getElem?_eq_some_iff.1 hgb).1).trans hgb, rest⟩

set_option maxRecDepth 100000 in
set_option maxHeartbeats 2000000 in
theorem bits_in (F : Fence) (n : Nat) (h31 : F.fn 31) (h42 : F.fn 42) (h43 : F.fn 43) (hro : F.round = none) (hn : 3 ≤ n) (s t : ByteArray) (w : World) (hs : s.size ≤ 10000) (hst : s.size = t.size) :
    CallsIn F n Try.prog 31 #[.string s, .string t] w (Lst w (diffs s t (8 * s.size)) 0) := by
  have h1 : 1 ≤ n := by omega
  have HE := Lib.hid hst
  have teq : ((s.size : Int) != t.size) = false := by rw [bne_eq_false_iff_eq]; omega
  have hN := diffs_len s t (8 * s.size)
  clear hst
  refine callsIn_of_wp_marks Try.func31 rfl h31 ?_ hro
  simp only [Try.ntmps31, List.size_toArray, List.length_cons, List.length_nil, Nat.reduceAdd, Nat.reduceSub, Array.replicate_succ, Array.replicate_zero, List.push_toArray, List.append_toArray, List.nil_append, List.cons_append]
  gi_wp2_with (gi_at_call 42; refine (differing_in F (n - 1) h42 hro _ _ _).mono ?_; rintro e w1 ⟨rfl, rfl⟩)
  have bS := Boxed.new (w.alloc (.cells #[.slice none 0 0] 36)) 9 (.string s)
  have bT := Boxed.new ((w.alloc (.cells #[.slice none 0 0] 36)).alloc (.cells #[.string s] 9)) 9 (.string t)
  have bN2 := ((Boxed.new w 36 (.slice none 0 0)).alloc (.cells #[.string s] 9)).alloc (.cells #[.string t] 9)
  have bS2 := bS.alloc (.cells #[.string t] 9)
  rw [World.size_alloc] at bS2 bT
  rw [World.size_alloc] at bT
  have hBW := (((Below.refl w.heap.size w).alloc (Nat.le_refl _) (.cells #[.slice none 0 0] 36)).alloc (by simp) (.cells #[.string s] 9)).alloc (by simp; omega) (.cells #[.string t] 9)
  have hsz : (((w.alloc (.cells #[.slice none 0 0] 36)).alloc (.cells #[.string s] 9)).alloc (.cells #[.string t] 9)).heap.size = w.heap.size + 3 := by simp
  clear bS
  generalize ((w.alloc (.cells #[.slice none 0 0] 36)).alloc (.cells #[.string s] 9)).alloc (.cells #[.string t] 9) = W0 at bN2 bS2 bT hBW hsz ⊢
  obtain ⟨i0, hi, hz0, hz1, hz2⟩ := info_parts info3
  refine wpIn_rangeFunc_ownG hro h1 (gf := 43) (lb := #[.pointer (some ⟨w.heap.size + 1, 0, none⟩), .pointer (some ⟨w.heap.size + 1 + 1, 0, none⟩)]) rfl h43 (enters_of Try.func43 (by kernel_rfl) rfl)
    (differing_stops F (n - 1) h43 hro (by omega) (w.heap.size + 1) (w.heap.size + 1 + 1) s t (by omega) HE.out W0 (by omega) (by omega) bS2.cell bT.cell) Keep2.trans (fun W l o o' hl hk _ _ => keep2_put (B := W0.heap.size) (by omega) (by omega) W l o o' hl hk) (Below.refl _ _) (fun _ => rfl)
    (fun (pre : List Int) W' => ((∃ v, Boxed W' w.heap.size 36 v ∧ W'.ownsRow w.heap.size 3 1 v pre.length (pre.map (Value.int .i64)) ∧ True) ∧ Below w.heap.size w W') ∧ Boxed W' (w.heap.size + 1) 9 (.string s) ∧ Boxed W' (w.heap.size + 1 + 1) 9 (.string t))
    (fun _ _ _ => False)
    (OwnFrom.and (OwnFrom.and (Own.from (holdsRow_own w.heap.size w.heap.size 36 3 1 (fun pre : List Int => pre.length) (fun pre : List Int => pre.map (Value.int .i64)) (fun _ _ => True)) _) (ownFrom_below (Nat.le_refl _) (by omega))) (OwnFrom.and ((boxed_own _ _ (fun _ => _)).from _) ((boxed_own _ _ (fun _ => _)).from _)))
    (fun _ _ _ _ _ hs _ _ => hs)
    ⟨⟨⟨_, bN2, World.ownsRow_nil _ _ _ _, trivial⟩, hBW⟩, bS2, bT⟩
    (fun x => { tmps := #[.string s, .string t, undef, undef, .slice none 0 0, .int .i64 0, .pointer (some ⟨w.heap.size, 0, none⟩), .int .i64 x, .string s, .int .i64 s.size, .string t, .int .i64 t.size, .bool false, .string s, .string t, .func (.func 43) #[] #[.pointer (some ⟨w.heap.size + 1, 0, none⟩), .pointer (some ⟨w.heap.size + 1 + 1, 0, none⟩)], .int .i64 x, undef, undef, undef, undef, undef], defers := [] }) ?assign ?body ?done ?stop
  case assign =>
    intro l x W2 K hK
    gi_wp2
    exact hK
  case body =>
    rintro l pre x W2 ⟨⟨⟨v2, hv2, hrow2, _⟩, hB2⟩, hS2, hT2⟩ hlt2
    have hc2 := hv2.cell
    have hB2z := hB2.size
    have hsl : pre.length ≤ 1000000 := by omega
    gi_wp2_with (gi_at_builtin; refine wpListIn_append_own _ rfl _ _ 36 rfl w.heap.size 3 i0 (.int .i64 0) 1 8 Try.underlying36 hi hz0 hz1 hz2 rfl (by decide) _ _ _ rfl (hrow2.alloc _) ⟨W2.heap.size, 0, none⟩ 1 1 [.int .i64 x] rfl rfl (cell_one_new _ _ _) (by simp [Value.oneCell']) (by unfold maxLen; omega) (by omega) (by simp; omega) ?_; intro v' w1 hown' hgrow _; obtain ⟨g', cap', rfl⟩ := ownsRow_succ hown'; obtain ⟨hv1, hv3, hr3, hk3, hb3⟩ := hv2.appended (by decide) hrow2 hB2z (Nat.le_refl _) hown' hgrow; have hc1 := hv1.cell; have hf1 := hv1.frozen; have hS3 := ((hS2.alloc _).kept hgrow (hS2.not_row (by decide) hrow2)).other (B' := w.heap.size) (by omega) (.slice (some ⟨g', 0, none⟩) (pre.length + 1) cap'); have hT3 := ((hT2.alloc _).kept hgrow (hT2.not_row (by decide) hrow2)).other (B' := w.heap.size) (by omega) (.slice (some ⟨g', 0, none⟩) (pre.length + 1) cap'))
    exact ⟨hk3.from _, ⟨hS3.trans hS2.symm, hT3.trans hT2.symm⟩, ⟨⟨_, hv3, row_snoc rfl hr3, trivial⟩, hB2.trans hb3⟩, hS3, hT3⟩
  case done =>
    rintro D ys W2 hD rfl ⟨⟨⟨v2, hv2, hrow2, _⟩, hB2⟩, hS2, hT2⟩ hK
    have hc2 := hv2.cell
    gi_wp2
    refine ⟨by simp, .inl ⟨_, _, rfl, run_takeDeferred hK, ?_⟩⟩
    have hfin := lst_row rfl (row_put hrow2 hK (.deferred none)) (hB2.trans ((Below.refl w.heap.size W2).grown (grownBy_putObj' W2 D (.deferred none)) hB2.size (fun k e => by cases e; omega)))
    exact ⟨_, results_tmp2 (t := 4) (u := 5) rfl _ _ _, hfin⟩
  case stop =>
    rintro D c pre W2 _ _ h _
    exact h.elim
theorem bits_no (s t : ByteArray) (w : World) (hst : ¬ s.size = t.size) : Calls Try.prog 31 #[.string s, .string t] w (Lst w [] 2) := by
  have tne : ((s.size : Int) != t.size) = true := by rw [bne_iff_ne]; omega
  clear hst
  go_enter Try.func31, Try.ntmps31
  go_wp2
  go_ret2
  exact ⟨_, _, rfl, Reads.nil _ _, Below.refl _ _⟩
theorem bits_any (s t : ByteArray) (L : List Int) (er : Int) (w : World) (hs : s.size ≤ 10000) (H : Hid (bitsR s t = (L, er))) :
    Calls Try.prog 31 #[.string s, .string t] w (Lst w L er) := by
  have h := H.out
  unfold bitsR at h
  by_cases hne : s.size = t.size
  · rw [if_pos hne] at h; cases h
    exact (callsIn_wide (n := 3)).1 (bits_in Fence.wide 3 trivial trivial trivial rfl (by omega) s t w hs hne)
  · rw [if_neg hne] at h; cases h
    exact bits_no s t w hne
end Go.Proofs.Ytpdpdmkfgbmdmaa
