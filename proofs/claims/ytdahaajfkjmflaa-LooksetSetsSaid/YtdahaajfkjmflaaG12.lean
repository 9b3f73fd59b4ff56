/-
  Layer 14: a map's keys collected in a list. Layer 14: slices.SortFunc at looks that are right. Which functions of this program are those of the library of which the shelf speaks: 73. Layer 14: sorting a row of looks; SortedFunc over a map's keys. Layer 14: the program's Of. Layer 14: the program's Of, all answers.
-/
import Derived.Test.YtdahaajfkjmflaaG10
import Derived.Maps.OwnIn
import Derived.Test.YtdahaajfkjmflaaG11
import Derived.Shelf.SlSortCmp.WholeK
import Derived.Lib.QuietBelow
import Derived.Test.YtdahaajfkjmflaaRows
import Derived.Test.YtdahaajfkjmflaaG09
namespace Go.Proofs.Ytdahaajfkjmflaa.s14
set_option linter.unusedVariables false
set_option linter.unusedSimpArgs false
open Go.RowKit
open kit

open s13

open Go.Shelf
attribute [local go_sem] Oper.semAt_some
theorem abz_len {J : List V5 → (Nat → Prop) → World → Prop} (h : AbZ J) (n : Nat) : AbZ (fun (s : List V5) Z W => J s Z W ∧ s.length ≤ n) :=
  { size := fun s Z W h0 => h.size s Z W h0.1
    grown := fun s Z W W' h0 hg => ⟨h.grown s Z W W' h0.1 hg, h0.2⟩
    claim := fun s Z W o h0 => ⟨h.claim s Z W o h0.1, h0.2⟩
    turn := fun s Z W W' r h0 hr hg => ⟨h.turn s Z W W' r h0.1 hr hg, h0.2⟩
    less := fun s Z Z' W h0 hz => ⟨h.less s Z Z' W h0.1 hz, h0.2⟩ }
def celV (x : V5) : Array Value := #[.int .i64 x.1, .int .i64 x.2.1, .int .i64 x.2.2.1, .int .i64 x.2.2.2.1, .int .i64 x.2.2.2.2]
set_option maxRecDepth 100000 in
set_option maxHeartbeats 6000000 in
theorem appendseq_any (bm b nn B : Nat) (w : World) (hB : B ≤ w.heap.size) (L : List V5) (hL : ∀ y ∈ L, inV y) (D0 : DataW Unit) (hD : KeySet D0 L) (hX : Box w 60 bm #[.map (some b)]) (hown : w.ownsMap Try.prog 25 (plainElem Try.prog 4) b nn D0) (zm : B ≤ bm) (zb : B ≤ b) (hnn : nn ≤ 20000) :
    Calls Try.prog 87 #[.slice none 0 0, .func (.func 74) #[] #[.pointer (some ⟨bm, 0, none⟩)]] w fun e w' => ∃ v ss, e = .returned v ∧ (ss.Nodup ∧ ∀ y, y ∈ ss ↔ y ∈ L) ∧ w'.ownsRow w.heap.size 25 5 v ss.length (flat5 ss) ∧ Below B w w' ∧ ss.length ≤ nn := by
  obtain ⟨i0, hi, hz0, hz1, hz2⟩ := info_parts info5
  refine (callsIn_wide (n := 6)).1 ?_
  refine callsIn_of_wp_marks Try.func87 rfl trivial ?_ rfl
  simp only [Try.ntmps87, List.size_toArray, List.length_cons, List.length_nil, Nat.reduceAdd, Nat.reduceSub, Array.replicate_succ, Array.replicate_zero, List.push_toArray, List.append_toArray, List.nil_append, List.cons_append]
  gi_wp2
  obtain ⟨W0, hW0⟩ : ∃ W0, w.alloc (.cells #[.slice none 0 0] 22) = W0 := ⟨_, rfl⟩
  have hsz : W0.heap.size = w.heap.size + 1 := by rw [← hW0]; simp
  have X0 : Box W0 60 bm #[.map (some b)] := by rw [← hW0]; exact hX.alloc _
  have M0 : W0.ownsMap Try.prog 25 (plainElem Try.prog 4) b nn D0 := by rw [← hW0]; exact hown.alloc _
  have V0 : Box W0 22 w.heap.size #[.slice none 0 0] := by rw [← hW0]; exact Box.new w _ _
  have Bw : Below B w W0 := by rw [← hW0]; exact (Below.refl _ _).alloc hB _
  have lx := hX.lt
  have lb := hown.lt
  rw [hW0]
  clear hW0 hX hown
  have hI0 : CollV B w.heap.size w ([] : List V5) (fun r => r = bm ∨ r = b) W0 := ⟨⟨_, V0, World.ownsRow_nil _ _ _ _, fun r _ e => by cases e⟩, Bw, by omega, fun r hr => by rcases hr with rfl | rfl <;> exact ⟨by assumption, by omega, by omega⟩⟩
  refine wpIn_rangeFunc_ownZ (F := Fence.wide) rfl (by omega) (gf := 74) (lb := #[.pointer (some ⟨bm, 0, none⟩)]) rfl trivial (enters_of Try.func74 (by kernel_rfl) rfl)
    (encs := encV) (Z0 := fun r => r = bm ∨ r = b) (S := fun ss => ss.Nodup ∧ ∀ y, y ∈ ss ↔ y ∈ L) (Sp := fun _ => True) (N := nn)
    (R := fun W' => Box W' 60 bm #[.map (some b)] ∧ W'.ownsMap Try.prog 25 (plainElem Try.prog 4) b nn D0)
    (fun l' J' Jx' W' hR' hJ' hJx' hY' h0' => keys1_any Fence.wide _ trivial rfl rfl l' bm b nn L hL D0 hD J' Jx' _ hJ' hJx' (.inl rfl) (.inr rfl) _ hY' W' hR'.1 hR'.2 h0')
    (fun o o' => ⟨(X0.alloc o).alloc o', (M0.alloc o).alloc o'⟩) (fun x => rfl) (fun r hr => by omega)
    (fun (s : List V5) Z W' => CollV B w.heap.size w s Z W' ∧ s.length ≤ nn) (fun _ _ _ _ => False) (abz_len (collV_ab (fun s => s) B _ w hB) _) (fun _ => abz_false)
    (fun s Z W' k' o o' h hk' ho hc => ⟨collV_put o' (by omega) ho hc hB h.1, h.2⟩) (fun _ _ _ _ _ _ _ h _ _ _ => h)
    (fun o o' => ⟨(collV_ab (fun s : List V5 => s) B _ w hB).alloc _ ((collV_ab (fun s : List V5 => s) B _ w hB).alloc _ hI0), Nat.zero_le _⟩)
    (fun x a' W' => ∃ b5, Box W' 25 b5 (celV x) ∧ a' = { tmps := #[.slice none 0 0, .func (.func 74) #[] #[.pointer (some ⟨bm, 0, none⟩)], .pointer (some ⟨w.heap.size, 0, none⟩), undef, .slice none 0 0, .pointer (some ⟨b5, 0, none⟩), .func (.func 74) #[] #[.pointer (some ⟨bm, 0, none⟩)], aggV x, undef, undef, undef, undef, undef], defers := [] })
    ?hAx ?assign ?body ?done ?stop
  case hAx =>
    rintro x a' W' k' o o' ⟨b7, hb7, rfl⟩ hk hc
    refine ⟨b7, ?_, rfl⟩
    have hne : b7 ≠ k' := by
      rintro rfl
      have h2 : W'.heap[b7]? = _ := hb7
      rw [hk] at h2
      cases h2
      cases hc
    exact (World.putObj_heap_other hne).trans hb7
  case assign =>
    rintro l1 pre ⟨v0, v1, v2, v3, v4⟩ Z Wc K hi1 hlt1 hK
    have hlts : ∀ r, (Z r ∨ r = W0.heap.size ∨ r = W0.heap.size + 1) → r < Wc.heap.size := fun r hr => by
      rcases hr with hr | rfl | rfl
      · exact (hi1.1.2.2.2 r hr).2.2
      · omega
      · omega
    simp only [encV]
    clear hsz
    gi_wp2
    exact hK _ _ (fun r hr => Below.heap_alloc Wc _ r (hlts r hr)) ((abz_len (collV_ab (fun s : List V5 => s) B _ w hB) _).alloc _ hi1) ⟨Wc.heap.size, Box.new Wc _ _, rfl⟩
  case body =>
    rintro l1 pre ⟨v0, v1, v2, v3, v4⟩ a' Z Wc ⟨⟨⟨v, h1, h2, h3⟩, h4, h5, h6⟩, hpn⟩ ⟨b5, hb5, rfl⟩ hz hne hlt2 hnc hln
    simp only [celV] at hb5
    simp only [aggV]
    obtain ⟨c0, c1, c2, c3, c4⟩ := hb5.cell5
    have lb5 := hb5.lt
    have cv := h1.cell 0
    simp at cv
    clear hsz
    have hsrc : ∀ (i : Nat) (u : Value), (cells5 (v0, v1, v2, v3, v4))[i]? = some u → (Wc.alloc (.cells #[.int .i64 v0, .int .i64 v1, .int .i64 v2, .int .i64 v3, .int .i64 v4] 25)).cell? ((⟨Wc.heap.size, 0, none⟩ : Addr).add i) = some u := fun i u hu => by
      rw [Go.WideShapes.add_plain, Nat.zero_add, (Box.new Wc 25 #[.int .i64 v0, .int .i64 v1, .int .i64 v2, .int .i64 v3, .int .i64 v4]).cell i]
      simpa [cells5] using hu
    have hpl : (pre.length + 1) * 40 ≤ 140737488355328 := by omega
    have hpm : pre.length + 1 ≤ maxLen := by unfold maxLen; omega
    gi_wp2_with (gi_at_builtin; go_loud (refine wpListIn_append_own_at _ rfl (.tmp 8) (.tmp 10) 22 rfl w.heap.size 25 i0 (.agg #[.int .i64 0, .int .i64 0, .int .i64 0, .int .i64 0, .int .i64 0]) 5 40 Try.underlying22 hi hz0 hz1 hz2 rfl (by decide) v pre.length _ rfl (h2.alloc _) ⟨Wc.heap.size, 0, none⟩ 1 1 (cells5 (v0, v1, v2, v3, v4)) rfl rfl hsrc (by simp [cells5, Value.oneCell']) hpm hpl (by simp; omega) ?_); intro v' w1 hown' hgrow _ hblk; obtain ⟨g', cap', rfl⟩ := ownsRow_succ hown'; obtain ⟨hv1, hv2, hr2, hk2, hb2⟩ := Boxed.appended h1 (by decide) h2 h5 (Nat.le_refl _) hown' hgrow; have hc1 := hv1.cell; have hf1 := hv1.frozen)
    have hkeep : ∀ r, r < Wc.heap.size → v.ownBlock ≠ some r → r ≠ w.heap.size → (w1.setCell ⟨w.heap.size, 0, none⟩ (.slice (some ⟨g', 0, none⟩) (pre.length + 1) cap')).heap[r]? = Wc.heap[r]? := fun r hr ho hb =>
      (Below.heap_setCell _ _ _ _ hb).trans ((grown_keep hgrow (by simp; omega) (fun e => ho e.symm)).trans (Below.heap_alloc Wc _ r hr))
    have hncr : ∀ r, r = W0.heap.size ∨ r = W0.heap.size + 1 → r < Wc.heap.size ∧ v.ownBlock ≠ some r ∧ r ≠ w.heap.size := fun r hr => by
      obtain ⟨o, ho, hc⟩ := hnc r hr
      refine ⟨(Array.getElem?_eq_some_iff.1 ho).1, fun e => ?_, fun e => ?_⟩
      · obtain ⟨_, cs, t', z, h⟩ := own_lt h2 e
        rw [ho] at h; cases h; cases hc
      · have h : Wc.heap[w.heap.size]? = _ := h1
        rw [← e, ho] at h; cases h; cases hc
    refine ⟨fun r hr => ?_, ⟨⟨_, hv2, ?_, fun r hr e => ?_⟩, h4.trans (hb2.mono hB), ?_, fun r hr => ⟨(h6 r hr).1, (h6 r hr).2.1, ?_⟩⟩, ?_⟩
    · rcases hr with hr | hr
      · exact hkeep r (h6 r hr).2.2 (h3 r hr) (h6 r hr).2.1
      · obtain ⟨e1, e2, e3⟩ := hncr r hr
        exact hkeep r e1 e2 e3
    · rw [List.length_append, flat5_app, flat5_one]
      exact hr2
    · rcases hblk with hb | hb
      · exact h3 r hr (hb ▸ e)
      · rw [hb] at e
        have e2 := (h6 r hr).2.2
        simp at e
        omega
    · exact Nat.le_trans h5 hb2.size
    · exact Nat.lt_of_lt_of_le (h6 r hr).2.2 hb2.size
    · rw [List.length_append, List.length_singleton]; omega
  case done =>
    rintro xs W8 hxs ⟨⟨⟨v, h1, h2, h3⟩, h4, h5, h6⟩, hxn⟩ hK8
    have cv := h1.cell 0
    simp at cv
    have hne : v.ownBlock ≠ some W0.heap.size := fun e => by
      obtain ⟨_, cs, t', z, h⟩ := own_lt h2 e
      rw [hK8] at h; cases h
    have HSZ := Lib.hid hsz
    clear hsz
    gi_wp2
    refine leaves_marksG (G := fun W' => W'.ownsRow w.heap.size 25 5 v xs.length (flat5 xs) ∧ Below B w W' ∧ w.heap.size ≤ W'.heap.size) (fun w => results_tmp rfl _ _ _) (fun w' hw => ⟨v, rfl, xs, ⟨hxs.1, fun a b c d e => hxs.2 (a, b, c, d, e)⟩, hw.1, hw.2.1, hxn⟩) [W0.heap.size] W8 (by simp) (fun q hq => by obtain rfl := List.mem_singleton.1 hq; exact hK8) (fun W' q o' hq h => by
      obtain rfl := List.mem_singleton.1 hq
      exact ⟨h.1.kept (grownBy_putObj' W' _ o') (.inr hne), h.2.1.grown (grownBy_putObj' W' _ o') (Nat.le_trans hB h.2.2) (fun j e => by cases e; have := HSZ.out; omega), Nat.le_trans h.2.2 (grownBy_putObj' W' W0.heap.size o').size⟩) ⟨h2, h4, h5⟩
  case stop =>
    rintro c pre W8 _ h _
    exact h.elim
set_option maxRecDepth 100000 in
set_option maxHeartbeats 2000000 in
theorem collect_any (bm b nn B : Nat) (w : World) (hB : B ≤ w.heap.size) (L : List V5) (hL : Hid (∀ y ∈ L, inV y)) (D0 : DataW Unit) (hD : Hid (KeySet D0 L)) (hX : Hid (Box w 60 bm #[.map (some b)])) (hown : Hid (w.ownsMap Try.prog 25 (plainElem Try.prog 4) b nn D0)) (zm : B ≤ bm) (zb : B ≤ b) (hnn : nn ≤ 20000) :
    Calls Try.prog 72 #[.func (.func 74) #[] #[.pointer (some ⟨bm, 0, none⟩)]] w fun e w' => ∃ v ss, e = .returned v ∧ (ss.Nodup ∧ ∀ y, y ∈ ss ↔ y ∈ L) ∧ w'.ownsRow w.heap.size 25 5 v ss.length (flat5 ss) ∧ Below B w w' ∧ ss.length ≤ nn := by
  go_enter Try.func72, Try.ntmps72
  go_wp2_with (go_at_call 87; refine (appendseq_any bm b nn B _ hB L hL.out D0 hD.out hX.out hown.out zm zb hnn).mono ?_; rintro e w1 ⟨v, ss, rfl, hs, hR, hB1, hn⟩; have HS := Lib.hid hs; have HR := Lib.hid hR; have HB1 := Lib.hid hB1; clear hs hR hB1)
  go_ret
  exact ⟨v, ss, rfl, HS.out, HR.out, HB1.out, hn⟩
end Go.Proofs.Ytdahaajfkjmflaa.s14

namespace Go.Proofs.Ytdahaajfkjmflaa.s14
set_option linter.unusedVariables false
set_option linter.unusedSimpArgs false
open Go.RowKit
open kit

open s13

open Go.Shelf Go.Sort
theorem grown_of_belowD {w w' : World} (h : BelowD w.heap.size w w') : ∃ q os', w' = grow (w.drewN q) os' := by
  obtain ⟨p, hp⟩ := regrown_of_below h.b
  have hd := h.d
  refine ⟨p.d - w.drawn, p.os, ?_⟩
  have e : w'.drawn = p.d := by rw [hp]; rfl
  rw [hp]
  have : redrawn w p.d = w.drewN (p.d - w.drawn) := by
    unfold redrawn World.drewN
    rw [show w.drawn + (p.d - w.drawn) = p.d by omega]
  rw [this]
abbrev L8 := { l : List Int // okL 8 l }
instance : Inhabited L8 := ⟨⟨[], okL_nil 8⟩⟩
def enc8 (x : L8) : List Value := cells5 (pad5 x.1)
theorem enc8_len (x : L8) : (enc8 x).length = 5 := rfl
theorem enc8_one (x : L8) : ∀ v ∈ enc8 x, v.oneCell' = true := fun v hv => by
  simp only [enc8, cells5, List.mem_cons, List.not_mem_nil, or_false] at hv
  rcases hv with rfl | rfl | rfl | rfl | rfl <;> rfl
def cf8 (x y : L8) : Int := cmpL x.1 y.1
theorem swo8 : SWO (Go.Proofs.ltOf cf8) where
  irrefl := fun x => by unfold Go.Proofs.ltOf cf8; rw [cmpL_self]; rfl
  trans := fun x y z h1 h2 => by
    unfold Go.Proofs.ltOf cf8 at *
    simp only [decide_eq_true_eq] at *
    exact cmpL_strict _ _ _ h1 (by omega)
  ntrans := fun x y z h1 h2 => by
    unfold Go.Proofs.ltOf cf8 at *
    simp only [decide_eq_false_iff_not] at *
    have a1 := cmpL_neg x.1 y.1
    have a2 := cmpL_neg y.1 z.1
    have a3 := cmpL_neg x.1 z.1
    have := cmpL_trans z.1 y.1 x.1 (by omega) (by omega)
    omega
theorem cmplays8 (blk off size : Nat) (w : World) : Go.Proofs.CmpLays Try.prog 42 #[] enc8 5 cf8 blk off size w := by
  intro m os dk hd x y
  obtain ⟨⟨x0, x1, x2, x3, x4⟩, hx⟩ : ∃ v, pad5 x.1 = v := ⟨_, rfl⟩
  obtain ⟨⟨y0, y1, y2, y3, y4⟩, hy⟩ : ∃ v, pad5 y.1 = v := ⟨_, rfl⟩
  have e : (#[.agg (enc8 x).toArray, .agg (enc8 y).toArray] ++ #[] : Array Value) = #[.agg #[.int .i64 x0, .int .i64 x1, .int .i64 x2, .int .i64 x3, .int .i64 x4], .agg #[.int .i64 y0, .int .i64 y1, .int .i64 y2, .int .i64 y3, .int .i64 y4]] := by
    unfold enc8; rw [hx, hy]; rfl
  rw [e]
  refine (pcmpD_anyD x0 x1 x2 x3 x4 y0 y1 y2 y3 y4 (cf8 x y) _ (Lib.hid (cmpE_ok x.2 y.2 hx hy))).mono ?_
  rintro e' w' ⟨rfl, hB⟩
  exact ⟨rfl, grown_of_belowD hB⟩
end Go.Proofs.Ytdahaajfkjmflaa.s14

namespace Go.Proofs.Ytdahaajfkjmflaa.lay
open Go.Shelf
def lay73_ren : Go.Shelf.Ren := ⟨fun | 6 => 73 | 15 => 89 | 14 => 88 | 28 => 100 | 29 => 101 | 20 => 92 | 21 => 93 | 22 => 94 | 23 => 95 | 24 => 96 | 25 => 97 | 26 => 98 | 27 => 99 | 46 => 102 | 47 => 103 | 48 => 104 | 49 => 105 | 50 => 106 | 57 => 107 | n => n, fun | 22 => 22 | 24 => 25 | 25 => 58 | 3 => 3 | 39 => 96 | 0 => 0 | 53 => 106 | 55 => 108 | 4 => 4 | 46 => 99 | 45 => 98 | 50 => 103 | 5 => 5 | 9 => 9 | 66 => 109 | 70 => 113 | 76 => 115 | 77 => 116 | n => n, fun | n => n⟩
theorem lay73 : Go.Proofs.SlLaysF0.n6 Try.prog lay73_ren := {
  mixed := by kernel_rfl
  f6 := ⟨Try.f73.name, by decide, Try.func73.trans (congrArg some (by kernel_rfl))⟩
  f14 := ⟨Try.f88.name, by decide, Try.func88.trans (congrArg some (by kernel_rfl))⟩
  f15 := Try.func89.trans (congrArg some (by kernel_rfl))
  f20 := ⟨Try.f92.name, by decide, Try.func92.trans (congrArg some (by kernel_rfl))⟩
  f21 := ⟨Try.f93.name, by decide, Try.func93.trans (congrArg some (by kernel_rfl))⟩
  f22 := ⟨Try.f94.name, by decide, Try.func94.trans (congrArg some (by kernel_rfl))⟩
  f23 := ⟨Try.f95.name, by decide, Try.func95.trans (congrArg some (by kernel_rfl))⟩
  f24 := ⟨Try.f96.name, by decide, Try.func96.trans (congrArg some (by kernel_rfl))⟩
  f25 := ⟨Try.f97.name, by decide, Try.func97.trans (congrArg some (by kernel_rfl))⟩
  f26 := ⟨Try.f98.name, by decide, Try.func98.trans (congrArg some (by kernel_rfl))⟩
  f27 := ⟨Try.f99.name, by decide, Try.func99.trans (congrArg some (by kernel_rfl))⟩
  f28 := Try.func100.trans (congrArg some (by kernel_rfl))
  f29 := Try.func101.trans (congrArg some (by kernel_rfl))
  f46 := ⟨Try.f102.name, by decide, Try.func102.trans (congrArg some (by kernel_rfl))⟩
  f47 := Try.func103.trans (congrArg some (by kernel_rfl))
  f48 := Try.func104.trans (congrArg some (by kernel_rfl))
  f49 := ⟨Try.f105.name, by decide, Try.func105.trans (congrArg some (by kernel_rfl))⟩
  f50 := ⟨Try.f106.name, by decide, Try.func106.trans (congrArg some (by kernel_rfl))⟩
  f57 := ⟨Try.f107.name, by decide, Try.func107.trans (congrArg some (by kernel_rfl))⟩
  t0 := Try.underlying0
  a0 := Try.isAgg0
  z0 := Try.sizeOf0
  v0 := Try.zeroValue0
  t3 := Try.underlying3
  a3 := Try.isAgg3
  z3 := Try.sizeOf3
  v3 := Try.zeroValue3
  t4 := Try.underlying4
  a4 := Try.isAgg4
  z4 := Try.sizeOf4
  v4 := Try.zeroValue4
  t5 := Try.underlying5
  a5 := Try.isAgg5
  z5 := Try.sizeOf5
  v5 := Try.zeroValue5
  t9 := Try.underlying9
  a9 := Try.isAgg9
  z9 := Try.sizeOf9
  v9 := Try.zeroValue9
  t22 := Try.underlying22
  a22 := Try.isAgg22
  z22 := Try.sizeOf22
  v22 := Try.zeroValue22
  t25 := Try.underlying58
  a25 := Try.isAgg58
  z25 := Try.sizeOf58
  v25 := Try.zeroValue58
  t39 := Try.underlying96
  a39 := Try.isAgg96
  z39 := Try.sizeOf96
  v39 := Try.zeroValue96
  t45 := Try.underlying98
  a45 := Try.isAgg98
  z45 := Try.sizeOf98
  v45 := Try.zeroValue98
  t46 := Try.underlying99
  a46 := Try.isAgg99
  z46 := Try.sizeOf99
  v46 := Try.zeroValue99
  t50 := Try.underlying103
  a50 := Try.isAgg103
  z50 := Try.sizeOf103
  v50 := Try.zeroValue103
  t53 := Try.underlying106
  a53 := Try.isAgg106
  z53 := Try.sizeOf106
  v53 := Try.zeroValue106
  t55 := Try.underlying108
  a55 := Try.isAgg108
  z55 := Try.sizeOf108
  v55 := Try.zeroValue108
  t66 := Try.underlying109
  a66 := Try.isAgg109
  z66 := Try.sizeOf109
  v66 := Try.zeroValue109
  t70 := Try.underlying113
  a70 := Try.isAgg113
  z70 := Try.sizeOf113
  v70 := Try.zeroValue113
  t76 := Try.underlying115
  a76 := Try.isAgg115
  z76 := Try.sizeOf115
  v76 := Try.zeroValue115
  t77 := Try.underlying116
  a77 := Try.isAgg116
  z77 := Try.sizeOf116
  v77 := Try.zeroValue116 }
end Go.Proofs.Ytdahaajfkjmflaa.lay

namespace Go.Proofs.Ytdahaajfkjmflaa.s14
set_option linter.unusedVariables false
set_option linter.unusedSimpArgs false
open Go.RowKit
open kit

open s13

open Go.Shelf Go.Sort
theorem kl_e (x : L8) : enc8 x = cells5 (pad5 x.1) := rfl
def arr8 (L : List (List Int)) (h : ∀ x ∈ L, okL 8 x) : Array L8 := (L.pmap Subtype.mk h).toArray
theorem arr8_size (L : List (List Int)) (h : ∀ x ∈ L, okL 8 x) : (arr8 L h).size = L.length := by simp [arr8]
theorem arr8_at (L : List (List Int)) (h : ∀ x ∈ L, okL 8 x) (i : Nat) (hi : i < L.length) : ((arr8 L h)[i]!).1 = L[i]?.getD [] := by
  have hs : i < (arr8 L h).size := by rw [arr8_size]; exact hi
  rw [getElem!_pos _ i hs, List.getElem?_eq_getElem hi]
  simp [arr8]
theorem arr8_map (L : List (List Int)) (h : ∀ x ∈ L, okL 8 x) : (arr8 L h).toList.map Subtype.val = L := by
  unfold arr8
  rw [List.map_pmap]
  simp
theorem holds8 {w : World} {g : Nat} {L : List (List Int)} (h : ∀ x ∈ L, okL 8 x) (hr : Row5 w g (L.map pad5)) : HoldsK enc8 5 w g 0 (arr8 L h) := by
  intro j hj
  rw [size_flatK, arr8_size] at hj
  rw [get_flatK _ _ _ _ (by rw [arr8_size]; exact hj), kl_e, arr8_at L h (j / 5) (by omega), Nat.zero_add]
  obtain ⟨h1, h2⟩ := hr.cell j (by rw [flat5_len, List.length_map]; exact hj)
  refine ⟨?_, h2⟩
  rw [h1]
  have hf := flat5_at (L.map pad5) (j / 5) (by rw [List.length_map]; omega) (j % 5) (Nat.mod_lt _ (by omega))
  rw [show j / 5 * 5 + j % 5 = j by omega, map_getD (by omega)] at hf
  rw [hf]
  have h5 : j % 5 < (cells5 (pad5 (L[j / 5]?.getD []))).length := Nat.mod_lt _ (by omega)
  rw [List.getElem?_eq_getElem h5, getElem!_pos (cells5 (pad5 (L[j / 5]?.getD []))) _ h5]
  rfl
theorem reads_holds8 {w : World} {g : Nat} {d : Array L8} (hg : g < w.heap.size) (h : HoldsK enc8 5 w g 0 d) : Reads5 w (some ⟨g, 0, none⟩) ((d.toList.map Subtype.val).map pad5) := by
  intro i hi
  have hi2 : i < d.size := by simpa using hi
  refine ⟨g, 0, rfl, hg, ?_⟩
  have e : ((d.toList.map Subtype.val).map pad5)[i]?.getD no5 = pad5 (d[i]!).1 := by
    rw [List.getElem?_map, List.getElem?_map, Array.getElem?_toList, Array.getElem?_eq_getElem hi2, getElem!_pos d i hi2]; rfl
  rw [e]
  have c : ∀ k, k < 5 → w.cell? ⟨g, 0 + i * 5 + k, none⟩ = some (enc8 d[i]!)[k]! := fun k hk => (h.cell hi2 hk).1
  exact ⟨c 0 (by omega), c 1 (by omega), c 2 (by omega), c 3 (by omega), c 4 (by omega)⟩
theorem below_sortK {w : World} {g off n B : Nat} {d : Array L8} {os : Array Obj} (hB : B ≤ g) (hw : B ≤ w.heap.size) : Below B w (sortWorldK enc8 5 w g off n d os) := by
  refine ⟨rfl, rfl, rfl, ?_, fun k hk => ?_⟩
  · simp [sortWorldK, grow, putRowK, putRow, mapBlock, ahead]
  · have hk2 : k < w.heap.size := by omega
    have hk3 : ¬ g = k := by omega
    unfold sortWorldK grow putRowK putRow mapBlock
    show ((Array.modify w.heap g _) ++ os)[k]? = _
    rw [Array.getElem?_append_left (by rw [Array.size_modify]; exact hk2), Array.getElem?_modify, if_neg hk3]
theorem up_of_sorted {d : Array L8} (h : SortedIn (ltOf cf8) 0 d.size d) : Up (d.toList.map Subtype.val) := by
  refine List.pairwise_map.2 (List.pairwise_iff_getElem.2 fun i j hi hj hij => ?_)
  have hi2 : i < d.size := by simpa using hi
  have hj2 : j < d.size := by simpa using hj
  have := h i j (Nat.zero_le _) hij hj2
  rw [getElem!_pos d i hi2, getElem!_pos d j hj2] at this
  unfold ltOf cf8 at this
  simp only [decide_eq_false_iff_not] at this
  have a1 := cmpL_neg (d.toList[i]).1 (d.toList[j]).1
  simp only [Array.getElem_toList] at a1 ⊢
  omega
set_option maxRecDepth 100000 in
set_option maxHeartbeats 2000000 in
theorem sort_any (L : List (List Int)) (g cap n : Nat) (w : World) (hn : Hid (L.length = n)) (hsz : n ≤ 100000) (hL : Hid (∀ x ∈ L, okL 8 x)) (hrow : Hid (Row5 w g (L.map pad5))) :
    Calls Try.prog 73 #[.slice (some ⟨g, 0, none⟩) n cap, .func (.func 42) #[] #[]] w fun e w' => e = .returned (.tuple #[]) ∧ ∃ L', L'.Perm L ∧ Up L' ∧ Reads5 w' (some ⟨g, 0, none⟩) (L'.map pad5) ∧ ∀ B, B ≤ g → B ≤ w.heap.size → Below B w w' := by
  have hsize := arr8_size L hL.out
  have h := AnyQ.slices_SortFunc lay.lay73 5 (fun w => by kernel_rfl) (fun w => by kernel_rfl) enc8 enc8_len enc8_one cf8 swo8 42 #[] g 0 cap (arr8 L hL.out) w (enters_of Try.func42 (by kernel_rfl) rfl) (cmplays8 _ _ _ _) (holds8 hL.out hrow.out) hrow.out.lt (by rw [hsize, hn.out]; omega)
  change Calls Try.prog 73 _ _ _ at h
  rw [hsize, hn.out] at h
  refine h.mono ?_
  rintro e w' ⟨rfl, d', m, os, hp, hs, rfl⟩
  have hds : d'.size = (arr8 L hL.out).size := hp.1
  refine ⟨rfl, d'.toList.map Subtype.val, ?_, up_of_sorted (by rw [hds, hsize, hn.out]; exact hs), ?_, fun B hB hw => below_sortK hB hw⟩
  · have h3 := hp.2.2
    rw [show (d'.extract 0 n).toList = d'.toList by rw [Array.extract_eq_self_of_le (by rw [hds, hsize, hn.out]; exact Nat.le_refl _)]] at h3
    rw [show ((arr8 L hL.out).extract 0 n).toList = (arr8 L hL.out).toList by rw [Array.extract_eq_self_of_le (by rw [hsize, hn.out]; exact Nat.le_refl _)]] at h3
    have h4 := h3.map Subtype.val
    rwa [arr8_map] at h4
  · exact reads_holds8 (lt_sortWorldK enc8 5 w g 0 m d' os hrow.out.lt) (holdsK_sortWorldK enc8 5 w g 0 m (arr8 L hL.out) d' os hrow.out.lt (holds8 hL.out hrow.out) hds)
end Go.Proofs.Ytdahaajfkjmflaa.s14

namespace Go.Proofs.Ytdahaajfkjmflaa.s14
set_option linter.unusedVariables false
set_option linter.unusedSimpArgs false
open Go.RowKit
open kit

open s13

open Go.Shelf Go.Sort
theorem inV_pad8 {l : List Int} (h : okL 8 l) : inV (pad5 l) := by
  have z : ∀ i : Nat, inK (l[i]?.getD 0) := fun i => by have := okL_at0 h (by omega) i; unfold inK; omega
  have h4 := h.1
  refine ⟨?_, z 0, z 1, z 2, z 3⟩
  show inK (l.length : Int)
  unfold inK; omega
set_option maxRecDepth 100000 in
set_option maxHeartbeats 2000000 in
theorem ins_nil (w : World) : Calls Try.prog 92 #[.slice none 0 0, .int .i64 0, .int .i64 0, .func (.func 42) #[] #[]] w fun e w' => e = .returned (.tuple #[]) ∧ Below w.heap.size w w' := by
  go_enter Try.func92, Try.ntmps92
  go_wp2
  go_loopw [8] (fun v wr => v = .int .i64 1 ∧ Hid (Below w.heap.size w wr)) (fun _ _ => 0)
  case atStart => exact ⟨rfl, Lib.hid (Below.refl _ _)⟩
  case round =>
    obtain ⟨rfl, HB⟩ := hrel
    go_wp2
    go_end0
    exact ⟨rfl, HB.out⟩
set_option maxRecDepth 100000 in
set_option maxHeartbeats 4000000 in
theorem pdq_nil (lim : Int) (w : World) : Calls Try.prog 88 #[.slice none 0 0, .int .i64 0, .int .i64 0, .int .i64 lim, .func (.func 42) #[] #[]] w fun e w' => e = .returned (.tuple #[]) ∧ Below w.heap.size w w' := by
  go_enter Try.func88, Try.ntmps88
  go_wp2
  go_loopw [1, 2] (fun v1 v2 wr => v1 = .int .i64 0 ∧ v2 = .int .i64 0 ∧ Hid (Below w.heap.size w wr)) (fun _ _ _ => 0)
  case atStart => exact ⟨rfl, rfl, Lib.hid (Below.refl _ _)⟩
  case round =>
    obtain ⟨rfl, rfl, HB⟩ := hrel
    go_wp2_with (go_at_call 92; refine (ins_nil _).mono ?_; rintro e w1 ⟨rfl, hB⟩; have B1 := Lib.hid (below_then HB.out hB); clear hB)
    first
      | go_end0
      | (refine bodyPost_ret (results_none rfl _ _ _) rfl ?_)
    exact ⟨rfl, B1.out⟩
set_option maxRecDepth 100000 in
set_option maxHeartbeats 2000000 in
theorem sort_nil (w : World) : Calls Try.prog 73 #[.slice none 0 0, .func (.func 42) #[] #[]] w fun e w' => e = .returned (.tuple #[]) ∧ Below w.heap.size w w' := by
  have hl : Calls Try.prog 89 #[.int .u64 0] w fun e w' => e = .returned (.int .i64 0) ∧ w' = w := by
    have h := Any.bits_Len (SlLaysF0.n15.bits (P := Try.prog) (ρ := lay.lay73_ren) { lay.lay73 with }) 0 w (by omega) (by omega)
    exact h
  go_enter Try.func73, Try.ntmps73
  go_wp2_with (first
    | (go_at_call 89; refine hl.mono ?_; rintro e w1 ⟨rfl, rfl⟩)
    | (go_at_call 88; refine (pdq_nil _ _).mono ?_; rintro e w1 ⟨rfl, hB⟩; have B1 := Lib.hid hB; clear hB))
  go_end0
  exact ⟨rfl, B1.out⟩
theorem asc_of_up {l : List (List Int)} (h : Up l) (hn : l.Nodup) : Asc l := by
  refine (List.Pairwise.and h hn).imp fun {x y} ⟨h1, h2⟩ => ?_
  rcases Int.lt_or_eq_of_le h1 with k | k
  · exact k
  · exact absurd (cmpL_zero k) h2
theorem nodup_of_map {α β : Type} (f : α → β) : ∀ {l : List α}, (l.map f).Nodup → l.Nodup
  | [], _ => List.nodup_nil
  | x :: l, h => by
    rw [List.map_cons, List.nodup_cons] at h
    exact List.nodup_cons.2 ⟨fun hx => h.1 (List.mem_map_of_mem hx), nodup_of_map f h.2⟩
/-- keys that came of right looks, as lists -/
theorem keys_lists {ss : List V5} {L : List (List Int)} (hL : ∀ x ∈ L, okL 8 x) (h : ss.Nodup ∧ ∀ y, y ∈ ss ↔ y ∈ L.map pad5) : (ss.map lst).map pad5 = ss ∧ (ss.map lst).Nodup ∧ (∀ x, x ∈ ss.map lst ↔ x ∈ L) ∧ ∀ x ∈ ss.map lst, okL 8 x := by
  have hp : ∀ y ∈ ss, ∃ x ∈ L, pad5 x = y := fun y hy => List.mem_map.1 ((h.2 y).1 hy)
  have e1 : (ss.map lst).map pad5 = ss := by
    rw [List.map_map]
    refine (List.map_congr_left fun y hy => ?_).trans (List.map_id ss)
    obtain ⟨x, hx, rfl⟩ := hp y hy
    show pad5 (lst (pad5 x)) = pad5 x
    rw [lst_pad (hL x hx).1]
  have e2 : ∀ x, x ∈ ss.map lst ↔ x ∈ L := fun x => by
    rw [List.mem_map]
    constructor
    · rintro ⟨y, hy, rfl⟩
      obtain ⟨x, hx, rfl⟩ := hp y hy
      rw [lst_pad (hL x hx).1]; exact hx
    · intro hx
      exact ⟨pad5 x, (h.2 _).2 (List.mem_map_of_mem hx), lst_pad (hL x hx).1⟩
  refine ⟨e1, ?_, e2, fun x hx => hL x ((e2 x).1 hx)⟩
  have hn := h.1
  rw [← e1] at hn
  exact nodup_of_map pad5 hn
set_option maxRecDepth 100000 in
set_option maxHeartbeats 2000000 in
theorem sortedfunc_any (bm b nn B : Nat) (w : World) (hB : B ≤ w.heap.size) (L : List (List Int)) (hL : Hid (∀ x ∈ L, okL 8 x)) (D0 : DataW Unit) (hD : Hid (KeySet D0 (L.map pad5))) (hX : Hid (Box w 60 bm #[.map (some b)])) (hown : Hid (w.ownsMap Try.prog 25 (plainElem Try.prog 4) b nn D0)) (zm : B ≤ bm) (zb : B ≤ b) (hnn : nn ≤ 20000) (N : Nat) (HN : Hid ((setS L).length = N)) :
    Calls Try.prog 46 #[.func (.func 74) #[] #[.pointer (some ⟨bm, 0, none⟩)], .func (.func 42) #[] #[]] w fun e w' => ∃ p cp, e = .returned (.slice p N cp) ∧ Reads5 w' p ((setS L).map pad5) ∧ Below B w w' ∧ N ≤ cp := by
  have hLV : ∀ y ∈ L.map pad5, inV y := fun y hy => by
    obtain ⟨x, hx, rfl⟩ := List.mem_map.1 hy
    exact inV_pad8 (hL.out x hx)
  have HLV := Lib.hid hLV
  clear hLV
  go_enter Try.func46, Try.ntmps46
  go_wp2_with (go_at_call 72; refine (collect_any bm b nn B _ hB (L.map pad5) HLV D0 hD hX hown zm zb hnn).mono ?_; rintro e w1 ⟨v, ss, rfl, hs, hR, hB1, hn⟩)
  obtain ⟨k1, k2, k3, k4⟩ := keys_lists hL.out hs
  have hlen : (ss.map lst).length = ss.length := List.length_map ..
  rcases hR.2 with ⟨rfl, h0⟩ | ⟨g, cap, cur, rfl, hg, hb, h1, h2, h3, h4⟩
  · have hss : ss = [] := List.length_eq_zero_iff.1 h0
    have hS : setS L = [] := by
      refine (setS_eq asc_nil (fun z => ?_)).symm
      rw [← k3 z, hss]; simp
    have hN0 : N = 0 := by rw [← HN.out, hS]; rfl
    subst hN0
    have HB1 := Lib.hid hB1
    have HS := Lib.hid hS
    clear hs hR k1 k2 k3 k4 hlen h0 hss hS hB1 hn
    go_wp2_with (go_at_call 73; refine (sort_nil _).mono ?_; rintro e w2 ⟨rfl, hB2⟩; have HB2 := Lib.hid (below_on HB1.out hB hB2); clear hB2)
    go_ret
    exact ⟨none, 0, rfl, by rw [HS.out]; exact Reads5.nil _ _, HB2.out, Nat.le_refl _⟩
  · have hr0 : Row5 w1 g ss := by
      by_cases hz : ss.length = 0
      · have hss : ss = [] := List.length_eq_zero_iff.1 hz
        rw [hss]
        exact ⟨cur, hb, Nat.zero_le _, fun i hi => by simp [flat5] at hi⟩
      · obtain ⟨g', cap', e, _, _, hr⟩ := row5_of (l := ss) rfl (by omega) hR
        cases e; exact hr
    have hrow : Row5 w1 g ((ss.map lst).map pad5) := by rw [k1]; exact hr0
    have HROW := Lib.hid hrow
    have HLEN := Lib.hid hlen
    have HK4 := Lib.hid k4
    have HK3 := Lib.hid k3
    have HK2 := Lib.hid k2
    have HB1 := Lib.hid hB1
    have hBg : B ≤ g := Nat.le_trans hB hg
    have hB1s : B ≤ w1.heap.size := Nat.le_trans hB hB1.size
    have hcap := h1
    clear hrow hlen k1 k2 k3 k4 hs hR hb h2 h3 h4 hB1 h1 hr0
    go_wp2_with (go_at_call 73; refine (sort_any (ss.map lst) g cap ss.length _ HLEN (by omega) HK4 HROW).mono ?_; rintro e w2 ⟨rfl, L2, hperm, hup, hr2, hb2⟩; have HP := Lib.hid hperm; have HU := Lib.hid hup; have HR2 := Lib.hid hr2; have HB2 := Lib.hid (HB1.out.trans (hb2 B hBg hB1s)); clear hperm hup hr2 hb2)
    have hS : L2 = setS L := setS_eq (asc_of_up HU.out (HP.out.nodup_iff.2 HK2.out)) (fun z => (HP.out.mem_iff).trans (HK3.out z))
    have hNl : ss.length = N := by rw [← HN.out, ← hS, HP.out.length_eq]; exact HLEN.out.symm
    have HS := Lib.hid hS
    clear hS
    go_ret
    exact ⟨_, cap, ret_slice hNl, by rw [← HS.out]; exact HR2.out, HB2.out, by omega⟩
/-- what Of says -/
def chkOf (t : Int) : List V5 → Int
  | [] => 0
  | x :: l => if chkV x t ≠ 0 then chkV x t else chkOf t l
def ofP (t : Int) (l : List V5) : Int := if t < 1 ∨ 8 < t then 2 else if 20000 < l.length then 6 else chkOf t l
theorem chkOf_look {t : Int} : ∀ {l : List V5}, chkOf t l = 0 → ∃ L : List (List Int), l = L.map pad5 ∧ ∀ x ∈ L, okL t x
  | [], _ => ⟨[], rfl, by simp⟩
  | x :: l, h => by
    rw [chkOf] at h
    by_cases hz : chkV x t = 0
    · rw [if_neg (by simpa using hz)] at h
      obtain ⟨L, e, h2⟩ := chkOf_look h
      obtain ⟨y, hy, rfl⟩ := chkV_look hz
      exact ⟨y :: L, by rw [e]; rfl, fun z hm => by rcases List.mem_cons.1 hm with rfl | hm; exact hy; exact h2 z hm⟩
    · rw [if_pos hz] at h; exact absurd h hz
theorem chkOf_ok {t : Int} (t1 : 1 ≤ t) (t2 : t ≤ 8) : ∀ {L : List (List Int)}, (∀ x ∈ L, okL t x) → chkOf t (L.map pad5) = 0
  | [], _ => rfl
  | x :: L, h => by
    rw [List.map_cons, chkOf, if_neg (by simpa using chkV_pad (h x (List.mem_cons_self ..)) t1 t2)]
    exact chkOf_ok t1 t2 (fun y hy => h y (List.mem_cons_of_mem _ hy))
theorem KeySet.new : KeySet (.map []) [] := fun kl => ⟨fun h => (by cases h), fun ⟨y, hy, _⟩ => (by cases hy)⟩
set_option maxRecDepth 100000 in
set_option maxHeartbeats 2000000 in
theorem pof_range (t : Int) (a : Option Addr) (n c : Nat) (w : World) (h : t < 1 ∨ 8 < t) : Calls Try.prog 13 #[.int .i64 t, .slice a n c] w fun e w' => e = noS 2 ∧ Below w.heap.size w w' := by
  go_enter Try.func13, Try.ntmps13
  go_wp2_with (go_at_call 39; refine (isterms_no t _ h).mono ?_; rintro e w1 ⟨rfl, rfl⟩)
  go_ret2
  exact ⟨rfl, Below.refl _ _⟩
set_option maxRecDepth 100000 in
set_option maxHeartbeats 2000000 in
theorem pof_full (t : Int) (a : Option Addr) (n c : Nat) (w : World) (h1 : 1 ≤ t) (h2 : t ≤ 8) (hn : 20000 < n) (hm : n ≤ 60000) : Calls Try.prog 13 #[.int .i64 t, .slice a n c] w fun e w' => e = noS 6 ∧ Below w.heap.size w w' := by
  have hq := issize_no n 20000 w hn hm
  go_enter Try.func13, Try.ntmps13
  go_wp2_with (first
    | (go_at_call 39; refine (isterms_yes t _ h1 h2).mono ?_; rintro e w1 ⟨rfl, rfl⟩)
    | (go_at_call 40; refine hq.mono ?_; rintro e w1 ⟨rfl, rfl⟩))
  go_ret2
  exact ⟨rfl, Below.refl _ _⟩
end Go.Proofs.Ytdahaajfkjmflaa.s14

namespace Go.Proofs.Ytdahaajfkjmflaa.s14
set_option linter.unusedVariables false
set_option linter.unusedSimpArgs false
open Go.RowKit
open kit

open s13

theorem chkV_inV {x : V5} {t : Int} (h : chkV x t = 0) (ht : t ≤ 8) : inV x := by
  obtain ⟨y, hy, rfl⟩ := chkV_look h
  exact inV_pad8 (okL_mono hy ht)
theorem take_get5 {l : List V5} {k : Nat} (h : k < l.length) : l.take (k + 1) = l.take k ++ [l[k]?.getD no5] := by
  rw [List.take_add_one, List.getElem?_eq_getElem h]; rfl
def MapK (w : World) (g k : Nat) (l : List V5) : Prop := ∃ D : DataW Unit, w.ownsMap Try.prog 25 (plainElem Try.prog 4) g k D ∧ KeySet D l
theorem MapK.new (w : World) : MapK (w.alloc (.map #[] 0)) w.heap.size 0 [] := ⟨_, World.ownsMap_made w _ _ _, KeySet.new⟩
theorem MapK.below {w w1 : World} {g k : Nat} {l : List V5} (h : MapK w g k l) (hB : Below w.heap.size w w1) : MapK w1 g k l := by
  obtain ⟨D, h1, h2⟩ := h
  exact ⟨D, h1.kept (row := none) ⟨hB.os, hB.tape, hB.output, hB.size, fun i hi _ => hB.block i hi⟩ (by simp), h2⟩
theorem MapK.lt {w : World} {g k : Nat} {l : List V5} (h : MapK w g k l) : g < w.heap.size := by obtain ⟨D, h1, h2⟩ := h; exact h1.lt
/-- what Of hands back -/
def OfP (t : Int) (l : List V5) (r : Int) (e : Ending) (w' : World) : Prop := (r ≠ 0 ∧ e = noS r) ∨ (r = 0 ∧ ∃ (L : List (List Int)) (p : Option Addr) (cp : Nat), l = L.map pad5 ∧ (∀ x ∈ L, okL t x) ∧ e = .returned (.tuple #[.slice p (setS L).length cp, .int .i64 0]) ∧ Reads5 w' p ((setS L).map pad5) ∧ (setS L).length ≤ cp)
set_option maxRecDepth 100000 in
set_option maxHeartbeats 6000000 in
theorem pof_scan (t : Int) (a : Option Addr) (c : Nat) (l : List V5) (n : Nat) (w : World) (t1 : 1 ≤ t) (t2 : t ≤ 8) (hl : Hid (l.length = n)) (hn : n ≤ 20000) (hr : Hid (Reads5 w a l)) (r : Int) (H : Hid (chkOf t l = r)) :
    Calls Try.prog 13 #[.int .i64 t, .slice a n c] w fun e w' => OfP t l r e w' ∧ Below w.heap.size w w' := by
  have hq := issize_yes n 20000 w hn (by omega)
  have hmm := @run_makeMap Try.prog
  go_enter Try.func13, Try.ntmps13
  go_wp2_with (first
    | (go_at_call 39; refine (isterms_yes t _ t1 t2).mono ?_; rintro e w1 ⟨rfl, rfl⟩)
    | (go_at_call 40; refine hq.mono ?_; rintro e w1 ⟨rfl, rfl⟩))
  have MP := Lib.hid (MapK.new w)
  have B0 := Lib.hid ((Below.refl w.heap.size w).alloc (Nat.le_refl _) (.map #[] 0))
  clear hq hmm
  go_loopw [20] (fun i wr => ∃ k : Nat, i = .int .i64 k ∧ k ≤ n ∧ Hid (chkOf t (l.drop k) = r) ∧ Hid (MapK wr w.heap.size k (l.take k)) ∧ Hid (Below w.heap.size w wr)) (fun i _ => n - (intOf i).toNat)
  case atStart => exact ⟨0, rfl, by omega, H, MP, B0⟩
  case round =>
    obtain ⟨k, rfl, hk, HK, HMp, HB⟩ := hrel
    by_cases hlt : k < n
    · have hlt2 : k < l.length := by rw [hl.out]; exact hlt
      obtain ⟨b, off, rfl, hb, c0, c1, c2, c3, c4⟩ := (hr.out.below HB.out) k hlt2
      have HD := HK.out
      have HT := take_get5 hlt2
      rw [drop_get hlt2, chkOf] at HD
      have HBs := HB.out.size
      generalize l[k]?.getD no5 = x at c0 c1 c2 c3 c4 HD HT
      obtain ⟨m, x0, x1, x2, x3⟩ := x
      simp only at c0 c1 c2 c3 c4
      by_cases hz : chkV (m, x0, x1, x2, x3) t = 0
      · rw [if_neg (by simpa using hz)] at HD
        have HZ : Hid (chkP m x0 x1 x2 x3 t = 0) := Lib.hid hz
        have hin := chkV_inV hz t2
        have HKY := Lib.hid (key_of m x0 x1 x2 x3 hin)
        have HD2 := Lib.hid HD
        have HT2 := Lib.hid HT
        clear hz HD hin HT HK
        go_wp2_with (first
          | (go_at_call 41; refine (pcheck_any m x0 x1 x2 x3 t 0 _ HZ).mono ?_; rintro e w1 ⟨rfl, hB⟩; have B1 := Lib.hid (below_on (HB.out.alloc HBs (.cells #[.int .i64 m, .int .i64 x0, .int .i64 x1, .int .i64 x2, .int .i64 x3] 25)) (Nat.le_refl _) hB); have X1 := Lib.hid (made1 hB).1; have M1 := Lib.hid (HMp.out.below (made1 hB).2); obtain ⟨u0, u1, u2, u3, u4⟩ := X1.out.cell5; clear hB; obtain ⟨D, hown, hD⟩ := M1.out; have HDD := Lib.hid hD; have HO := Lib.hid hown; clear hown hD)
          | (at_mapUpdate; refine wpList_mapUpdate_own _ rfl _ _ _ 60 rfl 25 4 lawLook Try.underlying60 _ w.heap.size k D rfl HO.out (by unfold maxLen; omega) _ _ _ rfl rfl HKY.out _ [] (plainElem_bool Try.underlying4 true) ?_; intro w3 hown1 hgrow1; have B4 := Lib.hid (B1.out.grown hgrow1 B1.out.size (fun j e => by cases e; omega)); have M4 : Hid (MapK w3 w.heap.size (k + 1) (l.take (k + 1))) := Lib.hid ⟨_, hown1, by rw [HT2.out]; exact HDD.out.put HO.out.isMap _ _⟩; clear hown1 hgrow1))
        go_roundw
        case rel => exact ⟨k + 1, by go_num, by omega, HD2, M4, B4⟩
        case measure => simp [intOf]; omega
      · rw [if_pos hz] at HD
        have hz2 : (r != 0) = true := by rw [HD] at hz; simpa using hz
        have hz3 : r ≠ 0 := by simpa using hz2
        have HZ : Hid (chkP m x0 x1 x2 x3 t = r) := Lib.hid HD
        clear hz HD HT HK
        go_wp2_with (go_at_call 41; refine (pcheck_any m x0 x1 x2 x3 t r _ HZ).mono ?_; rintro e w1 ⟨rfl, hB⟩; have B1 := Lib.hid (below_on (HB.out.alloc HBs (.cells #[.int .i64 m, .int .i64 x0, .int .i64 x1, .int .i64 x2, .int .i64 x3] 25)) (Nat.le_refl _) hB); obtain ⟨u0, u1, u2, u3, u4⟩ := (made1 hB).1.cell5; clear hB)
        go_ret2
        exact ⟨.inl ⟨hz3, rfl⟩, B1.out⟩
    · obtain rfl : k = n := by omega
      have h0 := HK.out
      rw [List.drop_of_length_le (by rw [hl.out]; exact Nat.le_refl _)] at h0
      obtain rfl : r = 0 := h0.symm
      obtain ⟨L, hL, hok⟩ := chkOf_look H.out
      have htk : l.take k = L.map pad5 := by rw [List.take_of_length_le (by rw [hl.out]; exact Nat.le_refl _)]; exact hL
      obtain ⟨D, hown, hD⟩ := HMp.out
      rw [htk] at hD
      have HDD := Lib.hid hD
      have HO := Lib.hid hown
      have HL8 := Lib.hid (fun x hx => okL_mono (hok x hx) t2)
      have HOK := Lib.hid hok
      have HLL := Lib.hid hL
      have HBs := HB.out.size
      have hlt := hown.lt
      clear h0 htk hD hown hL hok HK HMp
      go_wp2_with (first
        | (go_at_call 47; refine (keys_any _ _).mono ?_; rintro e w1 ⟨rfl, rfl⟩)
        | (go_at_call 46; refine (sortedfunc_any wr.heap.size w.heap.size k w.heap.size _ (by simp; omega) L HL8 D HDD (Lib.hid (Box.new _ _ _)) (Lib.hid (HO.out.alloc _)) (by omega) (Nat.le_refl _) (by omega) _ (Lib.hid rfl)).mono ?_; rintro e w2 ⟨p, cp, rfl, hR, hB2, hcp⟩; have B2 := Lib.hid ((HB.out.alloc HBs _).trans hB2); have HR := Lib.hid hR; clear hB2 hR))
      go_ret2
      exact ⟨.inr ⟨rfl, L, p, cp, HLL.out, HOK.out, rfl, HR.out, hcp⟩, B2.out⟩
set_option maxRecDepth 100000 in
set_option maxHeartbeats 2000000 in
theorem pof_any (t : Int) (a : Option Addr) (n c : Nat) (l : List V5) (w : World) (hl : Hid (l.length = n)) (hn : n ≤ 60000) (hr : Hid (Reads5 w a l)) (r : Int) (H : Hid (ofP t l = r)) :
    Calls Try.prog 13 #[.int .i64 t, .slice a n c] w fun e w' => OfP t l r e w' ∧ Below w.heap.size w w' := by
  have h := H.out
  unfold ofP at h
  by_cases h1 : t < 1 ∨ 8 < t
  · rw [if_pos h1] at h
    subst h
    exact (pof_range t a n c w h1).mono (fun e w' ⟨he, hB⟩ => ⟨.inl ⟨by decide, he⟩, hB⟩)
  · rw [if_neg h1] at h
    by_cases h2 : 20000 < l.length
    · rw [if_pos h2] at h
      subst h
      exact (pof_full t a n c w (by omega) (by omega) (by rw [← hl.out]; exact h2) hn).mono (fun e w' ⟨he, hB⟩ => ⟨.inl ⟨by decide, he⟩, hB⟩)
    · rw [if_neg h2] at h
      exact pof_scan t a c l n w (by omega) (by omega) hl (by have := hl.out; omega) hr r (Lib.hid h)
end Go.Proofs.Ytdahaajfkjmflaa.s14
