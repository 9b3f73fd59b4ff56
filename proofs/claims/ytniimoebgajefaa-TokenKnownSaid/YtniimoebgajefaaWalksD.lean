/-
  The contracts of the program's join, Bytes and List.
-/
import Derived.Test.YtniimoebgajefaaWalksC
namespace Go.Proofs.Ytniimoebgajefaa
open Go.RowKit Go.Shelf
attribute [local go_sem] Oper.semAt_some

theorem row_snoc {W : World} {base : Nat} {v : Value} {S pre T : List Int} {d : Int} (hT : S ++ pre = T) (h : W.ownsRow base 5 1 v (T.length + 1) (T.map (Value.int .u8) ++ [.int .u8 d])) : W.ownsRow base 5 1 v (S ++ (pre ++ [d])).length ((S ++ (pre ++ [d])).map (Value.int .u8)) := by
  rw [← List.append_assoc, hT]
  simpa using h
theorem conv_own (W : World) (base : Nat) (v : Value) (L : List Int) (h : W.ownsRow base 5 1 v L.length (L.map (Value.int .u8))) : (convert 51 9 v).run Try.prog W = .ok (.string (strOfNums L)) W := by
  rcases h.2 with ⟨rfl, h0⟩ | ⟨g, cap, cur, rfl, _⟩
  · have : L = [] := List.length_eq_zero_iff.1 h0
    subst this
    exact run_convert_bytes_nil W 51 5 Try.underlying51 Try.underlying5 0 0 9 Try.underlying9
  · refine run_convert_bytes_arg W 51 5 Try.underlying51 Try.underlying5 g 0 L.length cap L rfl (fun i hi => ?_) 9 Try.underlying9
    rw [show 0 + i = i by omega, h.cellAt i (by omega)]
    simp [List.getD, List.getElem?_eq_getElem hi]

set_option maxRecDepth 100000 in
set_option maxHeartbeats 2000000 in
theorem join_in (F : Fence) (n : Nat) (h33 : F.fn 51) (h35 : F.fn 54) (h36 : F.fn 55) (hro : F.round = none) (hn : 3 ≤ n) (a : Option Addr) (cap : Nat) (zs : List Int) (w : World) (hl : zs.length ≤ 1000) (hz : ∀ z ∈ zs, 0 ≤ z ∧ z ≤ 18446744073709551615) (hr : Reads64 w a zs) :
    CallsIn F n Try.prog 51 #[.slice a zs.length cap] w fun e w' => e = .returned (.string (strOfNums (zs.flatMap digs))) ∧ Below w.heap.size w w' := by
  have h1 : 1 ≤ n := by omega
  have HZ := Lib.hid hz
  have HR := Lib.hid hr
  clear hz hr
  obtain ⟨i0, hi, hz0, hz1, hz2⟩ := info_parts info5
  refine callsIn_of_wp_marks Try.func51 rfl h33 ?_ hro
  simp only [Try.ntmps51, List.size_toArray, List.length_cons, List.length_nil, Nat.reduceAdd, Nat.reduceSub, Array.replicate_succ, Array.replicate_zero, List.push_toArray, List.append_toArray, List.nil_append, List.cons_append]
  gi_wp2
  refine wpIn_loop (fun A W => ∃ (k : Nat) (ds : List Nat) (v u5 u10 u11 u12 u13 u14 u20 : Value), k ≤ zs.length ∧ A = { tmps := #[.slice a zs.length cap, undef, .string { data := #[] }, .pointer (some ⟨w.heap.size, 0, none⟩), undef, u5, undef, .slice a zs.length cap, .int .i64 zs.length, .int .i64 k, u10, u11, u12, u13, u14, undef, undef, undef, undef, undef, u20, undef, undef], defers := ds.map mark } ∧
      Boxed W w.heap.size 51 v ∧ W.ownsRow w.heap.size 5 1 v ((zs.take k).flatMap digs).length (((zs.take k).flatMap digs).map (Value.int .u8)) ∧ Below w.heap.size w W ∧ Marks w.heap.size ds W)
    (fun A _ => zs.length - (intOf (A.tmps.getD 9 undef)).toNat) ?start ?round
  case start => exact ⟨0, [], _, _, _, _, _, _, _, _, by omega, rfl, Boxed.new w 51 (.slice none 0 0), World.ownsRow_nil _ _ _ _, (Below.refl _ w).alloc (Nat.le_refl _) _, by simp [Marks]⟩
  case round =>
    rintro A W ⟨k, ds, v, u5, u10, u11, u12, u13, u14, u20, hk, rfl, hv, hrow, hB, hM⟩
    have hc := hv.cell
    by_cases hlt : k < zs.length
    · obtain ⟨b, off, rfl, hb, hcell⟩ := (HR.out.below hB) k hlt
      obtain ⟨hx1, hx2⟩ := HZ.out _ (mem_getD zs k hlt)
      have hf := flat_snoc zs k hlt
      generalize zs[k]?.getD 0 = x at hcell hx1 hx2 hf
      have HF := Lib.hid hf
      clear hf
      gi_wp2_with (gi_at_call 54; refine (digits_in F (n - 1) h35 hro _ _).mono ?_; rintro e w1 ⟨rfl, rfl⟩)
      have hM1 : Marks w.heap.size ds (W.alloc (.cells #[.int .u64 x] 74)) := hM.others (KeepsOthers.alloc _ _)
      have hlen : ((zs.take k).flatMap digs).length ≤ 10000 := by
        have g1 := flat_len (zs.take k) (fun z hz => (HZ.out z (take_mem hz)).2)
        have g2 : (zs.take k).length ≤ k := List.length_take_le _ _
        omega
      have hd10 := digs_len10 hx2
      generalize hS : (zs.take k).flatMap digs = S at hrow hlen HF
      have bN := Boxed.new W 74 (.int .u64 x)
      have hBz := hB.size
      have hlt' := hM.lt
      refine wpIn_rangeFunc_ownG hro h1 (gf := 55) (lb := #[.pointer (some ⟨W.heap.size, 0, none⟩)]) rfl h36 (enters_of Try.func55 (by kernel_rfl) rfl)
        (digits_stops F (n - 1) h36 hro (by omega) W.heap.size x hx1 hx2 _ (by simp) bN.cell) (fun _ _ => trivial) (fun _ _ _ _ _ _ _ _ => trivial) (Below.refl _ _) (fun _ => rfl)
        (fun pre W' => ((∃ v, Boxed W' w.heap.size 51 v ∧ W'.ownsRow w.heap.size 5 1 v (S ++ pre).length ((S ++ pre).map (Value.int .u8)) ∧ True) ∧ Below w.heap.size w W') ∧ Marks w.heap.size ds W')
        (fun _ _ _ => False)
        (OwnFrom.and (OwnFrom.and (Own.from (holdsRow_own w.heap.size w.heap.size 51 5 1 (fun pre => (S ++ pre).length) (fun pre => (S ++ pre).map (Value.int .u8)) (fun pre v => True)) _) (ownFrom_below (Nat.le_refl _) (by simp; omega))) (marks_own _ _ ds (fun d hd => by have := hlt' d hd; simp; omega)))
        (fun _ _ _ _ _ hs _ _ => hs)
        ⟨⟨⟨v, hv.alloc _, by simpa using hrow.alloc _, trivial⟩, hB.alloc hBz _⟩, hM1⟩
        (fun d => { tmps := #[.slice (some ⟨b, off, none⟩) zs.length cap, undef, .string { data := #[] }, .pointer (some ⟨w.heap.size, 0, none⟩), undef, .int .u64 x, .int .u8 d, .slice (some ⟨b, off, none⟩) zs.length cap, .int .i64 zs.length, .int .i64 k, .bool true, .pointer (some ⟨b, off + k, none⟩), .int .u64 x, .int .u64 x, .func (.func 55) #[] #[.pointer (some ⟨W.heap.size, 0, none⟩)], .int .u8 d, undef, undef, undef, undef, u20, undef, undef], defers := [] }) ?assign ?body ?done ?stop
      case assign =>
        intro l d W2 K hK
        gi_wp2
        exact hK
      case body =>
        rintro l pre d W2 ⟨⟨⟨v2, hv2, hrow2, _⟩, hB2⟩, hM2⟩ hlt2
        have hc2 := hv2.cell
        have hB2z := hB2.size
        have hsl : (S ++ pre).length ≤ 20000 := by simp; omega
        generalize hT : S ++ pre = T at hrow2 hsl
        have HT := Lib.hid hT
        clear hT
        gi_wp2_with (gi_at_builtin; refine wpListIn_append_own _ rfl _ _ 51 rfl w.heap.size 5 i0 (.int .u8 0) 1 1 Try.underlying51 hi hz0 hz1 hz2 rfl (by decide) _ _ _ rfl (hrow2.alloc _) ⟨W2.heap.size, 0, none⟩ 1 1 [.int .u8 d] rfl rfl (cell_one_new _ _ _) (by simp [Value.oneCell']) (by unfold maxLen; omega) (by omega) (by simp; omega) ?_; intro v' w1 hown' hgrow _; obtain ⟨g', cap', rfl⟩ := ownsRow_succ hown'; obtain ⟨hv1, hv3, hr3, hk3, hb3⟩ := hv2.appended (by decide) hrow2 hB2z (Nat.le_refl _) hown' hgrow; have hc1 := hv1.cell; have hf1 := hv1.frozen)
        exact ⟨hk3.from _, trivial, ⟨⟨_, hv3, row_snoc HT.out hr3, trivial⟩, hB2.trans hb3⟩, hM2.others hk3⟩
      case done =>
        rintro D ys W2 hD rfl ⟨⟨⟨v2, hv2, hrow2, _⟩, hB2⟩, hM2⟩ hK
        clear hcell hc hv hrow
        gi_wp2
        refine ⟨⟨k + 1, D :: ds, v2, .int .u64 x, .bool true, .pointer (some ⟨b, off + k, none⟩), .int .u64 x, .int .u64 x, .func (.func 55) #[] #[.pointer (some ⟨W.heap.size, 0, none⟩)], .int .i64 (k + 1), by omega, ?_, hv2, by rw [HF.out]; exact hrow2, hB2, hM2.cons (by simp at hD; omega) (fun d hd => by have := hlt' d hd; simp at hD; omega) hK⟩, ?_⟩
        · simp [mark]
        · simp [intOf]; omega
      case stop =>
        rintro D c pre W2 _ _ h _
        exact h.elim
    · have hk' : k = zs.length := by omega
      subst hk'
      rw [List.take_length] at hrow
      have cv := conv_own _ _ _ _ hrow
      gi_wp2
      refine leaves_marks (n₀ := w.heap.size) (w0 := w) (Nat.le_refl _) (fun w => results_tmp rfl _ _ _) (fun w hw => ⟨rfl, hw⟩) _ _ hM hB
theorem join_any (a : Option Addr) (cap : Nat) (zs : List Int) (w : World) (hl : zs.length ≤ 1000) (hz : ∀ z ∈ zs, 0 ≤ z ∧ z ≤ 18446744073709551615) (hr : Reads64 w a zs) :
    Calls Try.prog 51 #[.slice a zs.length cap] w fun e w' => e = .returned (.string (strOfNums (zs.flatMap digs))) ∧ Below w.heap.size w w' :=
  (callsIn_wide (n := 3)).1 (join_in Fence.wide 3 trivial trivial trivial rfl (by omega) a cap zs w hl hz hr)
theorem join1 (x : Int) (h1 : 0 ≤ x) (h2 : x ≤ 18446744073709551615) (w : World) :
    Calls Try.prog 51 #[.slice (some ⟨w.heap.size, 0, none⟩) 1 1] (w.alloc (.cells #[.int .u64 x] 74)) fun e w' => e = .returned (.string (strOfNums (digs x))) ∧ Below w.heap.size w w' := by
  refine (join_any (some ⟨w.heap.size, 0, none⟩) 1 [x] _ (by simp) (by simp; omega) ?_).mono ?_
  · intro i hi
    have : i = 0 := by simpa using hi
    subst this
    exact ⟨_, _, rfl, by simp, by simp⟩
  · rintro e w' ⟨rfl, hB⟩
    exact ⟨by simp, ((Below.refl _ w).alloc (Nat.le_refl _) _).trans (hB.mono (by simp))⟩
theorem bytes_any (x : Int) (h1 : 0 ≤ x) (h2 : x ≤ 18446744073709551615) (w : World) :
    Calls Try.prog 47 #[.int .u64 x] w fun e w' => e = .returned (.string (strOfNums (digs x))) ∧ Below w.heap.size w w' := by
  go_enter Try.func47, Try.ntmps47
  go_wp2_with (go_at_call 51; refine (join1 x h1 h2 _).mono ?_; rintro e w1 ⟨rfl, hB⟩)
  go_ret
  exact ⟨rfl, hB⟩
end Go.Proofs.Ytniimoebgajefaa
