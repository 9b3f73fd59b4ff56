/-
  Layer 6, the reference's side: Merge.
-/
import Derived.Test.YtndghjfgjkjbdaaS06ZA
import Derived.Deep.Cut
import Derived.Deep.CutRange
import Derived.Deep.DrawnRows
import Derived.Deep.AppendLies
namespace Go.Proofs.Ytndghjfgjkjbdaa.s06
set_option linter.unusedVariables false
set_option linter.unusedSimpArgs false
open Go.RowKit Go.WideMaps Go.Maps
open kit

theorem tab_grownRow {W W' : World} {Bt : Nat} {V : Value} {l : List ByteArray} (h : TabO l Bt V W) {B E k : Nat} {vn : Value} {xs : List Value} (hr : W.ownsRow B E 1 vn k xs) (hg : W.grownBy W' vn.ownBlock) (h2 : 9 ≠ E) : TabO l Bt V W' := by
  obtain ⟨v, rfl, hv⟩ := h
  refine ⟨v, rfl, hv.kept hg ?_⟩
  by_cases e : v.ownBlock = none
  · exact .inl e
  · right
    intro e2
    rcases hv.2 with ⟨rfl, _⟩ | ⟨g, cap, cur, rfl, hg2, hgb, rest⟩
    · exact e rfl
    · rcases hr.2 with ⟨rfl, _⟩ | ⟨g3, cap3, cur3, rfl, hg3, hgb3, rest3⟩
      · simp [Value.ownBlock] at e2
      · simp only [Value.ownBlock, Option.some.injEq] at e2
        subst e2
        rw [hgb] at hgb3
        simp only [Option.some.injEq, Obj.cells.injEq] at hgb3
        exact h2 hgb3.2.1
theorem Box.grownRow {W W' : World} {b : Nat} {t : TypeId} {ys : Array Value} (h : Box W t b ys) {B E k : Nat} {vn : Value} {xs : List Value} (hr : W.ownsRow B E 1 vn k xs) (hg : W.grownBy W' vn.ownBlock) (h2 : t ≠ E) : Box W' t b ys :=
  (hg.block b h.lt (Box.not_row h h2 hr)).trans h
theorem mem_mrg {m : List ByteArray} {cur : List ByteArray} {k : Nat} : True := trivial
theorem putP_sub (cur : List ByteArray) (s : ByteArray) (o : Bool) : ∀ x ∈ (putP cur s o).1, x ∈ cur ∨ x = s := by
  unfold putP
  intro x hx
  split at hx
  · split at hx
    · split at hx <;> exact .inl hx
    · split at hx
      · exact .inl hx
      · simpa using hx
  · exact .inl hx
theorem mergeT_bad {l m : List ByteArray} (h : okT l ≠ 0) : mergeT l m = ([], [], okT l) := if_neg h
theorem mergeT_bad2 {l m : List ByteArray} (h : okT l = 0) (h2 : okT m ≠ 0) : mergeT l m = ([], [], okT m) := by
  have e : mergeP l m = (l, [], okT m) := if_neg h2
  unfold mergeT
  rw [if_pos h, e]
  show ((if okT m = 0 then l else []), ([] : List Int), okT m) = _
  rw [if_neg h2]
theorem mergeT_good {l m : List ByteArray} (h : okT l = 0) (h2 : okT m = 0) : mergeT l m = ((if (mrgG l [] m).2.2 = 0 then (mrgG l [] m).1 else []), (mrgG l [] m).2.1, (mrgG l [] m).2.2) := by
  have e : mergeP l m = mrgG l [] m := if_pos h2
  unfold mergeT
  rw [if_pos h, e]
set_option maxRecDepth 100000 in
set_option maxHeartbeats 2000000 in
theorem rmerge_err (a a2 : Option Addr) (cap cap2 : Nat) (l m : List ByteArray) (er : Int) (w : World) (hn : l.length ≤ 9223372036854775807) (hm : m.length ≤ 9223372036854775807) (hT : Hid (Tb w l a cap)) (hT2 : Hid (Tb w m a2 cap2)) (H : (okT l = er ∧ er ≠ 0) ∨ (okT l = 0 ∧ okT m = er ∧ er ≠ 0)) :
    Calls Try.prog 27 #[.agg #[.slice a l.length cap], .agg #[.slice a2 m.length cap2]] w (WorkOk (RowN []) [] er w) := by
  have P1 := Lib.hid (((Box.new w 24 #[.slice a l.length cap]).alloc (.cells #[.slice a2 m.length cap2] 24)).alloc (.cells #[.slice none 0 0] 24))
  have S1 := Lib.hid ((Box.new2 w (.cells #[.slice a l.length cap] 24) 24 #[.slice a2 m.length cap2]).alloc (.cells #[.slice none 0 0] 24))
  have X1 := Lib.hid (Box.new3 w (.cells #[.slice a l.length cap] 24) (.cells #[.slice a2 m.length cap2] 24) 24 #[.slice none 0 0])
  have B1 := Lib.hid (below3 w (.cells #[.slice a l.length cap] 24) (.cells #[.slice a2 m.length cap2] 24) (.cells #[.slice none 0 0] 24))
  have T1 := Lib.hid (hT.out.below B1.out)
  have T2 := Lib.hid (hT2.out.below B1.out)
  have hsm := Lib.hid hT.out.small
  have hsm2 := Lib.hid hT2.out.small
  have hc1 := hT.out.hcap
  have hc2 := hT2.out.hcap
  rcases H with ⟨h0, he⟩ | ⟨h0, h1, he⟩
  · have H0 := Lib.hid h0
    clear h0
    go_enter Try.func27, Try.ntmps27
    go_wp2_with (go_at_call 47; refine (okt_any a cap l er _ hc1 hn hsm (Lib.hid T1.out.reads) H0).mono ?_; rintro e w2 ⟨rfl, hB⟩; have X2 := Lib.hid (X1.out.below hB); have B2 := Lib.hid (below_then B1.out hB); clear hB; have x0 := X2.out.cell 0; have f0 := X2.out.free 0; have lx := X2.out.lt)
    have d0 := (X2.out.set 0 (by simp) (.slice none 0 0)).cell 0
    exact bodyPost_ret (v := .tuple #[.agg #[.slice none 0 0], .slice none 0 0, .int .i64 er]) (by simp [results, Try.results27, go_sem, d0]) rfl ⟨_, _, w.heap.size, w.heap.size, rfl, Nat.le_refl _, Nat.le_refl _, tab_nil _ _, World.ownsRow_nil _ _ _ _, B2.out.setCell (p := ⟨w.heap.size + 1 + 1, 0, none⟩) (by simp; omega) _⟩
  · have H0 := Lib.hid h0
    have H1 := Lib.hid h1
    clear h0 h1
    go_enter Try.func27, Try.ntmps27
    go_wp2_with (first
      | (go_at_call 47; (with_reducible refine (okt_any a cap l 0 _ hc1 hn hsm (Lib.hid T1.out.reads) H0).mono ?_); rintro e w2 ⟨rfl, hB⟩; have S2 := Lib.hid (S1.out.below hB); have X2 := Lib.hid (X1.out.below hB); have T3 := Lib.hid (T2.out.below hB); have B2 := Lib.hid (below_then B1.out hB); clear hB H0; have s0 := S2.out.cell 0)
      | (go_at_call 47; (with_reducible refine (okt_any a2 cap2 m er _ hc2 hm hsm2 (Lib.hid T3.out.reads) H1).mono ?_); rintro e w3 ⟨rfl, hB⟩; have X3 := Lib.hid (X2.out.below hB); have B3 := Lib.hid (below_then B2.out hB); clear hB; have x0 := X3.out.cell 0; have f0 := X3.out.free 0; have lx := X3.out.lt))
    have d0 := (X3.out.set 0 (by simp) (.slice none 0 0)).cell 0
    exact bodyPost_ret (v := .tuple #[.agg #[.slice none 0 0], .slice none 0 0, .int .i64 er]) (by simp [results, Try.results27, go_sem, d0]) rfl ⟨_, _, w.heap.size, w.heap.size, rfl, Nat.le_refl _, Nat.le_refl _, tab_nil _ _, World.ownsRow_nil _ _ _ _, B3.out.setCell (p := ⟨w.heap.size + 1 + 1, 0, none⟩) (by simp; omega) _⟩
theorem row_otherT {W : World} {B E k : Nat} {v : Value} {xs : List Value} (hr : W.ownsRow B E 1 v k xs) {t : TypeId} {c i : Nat} {ys : Array Value} (hX : Box W t c ys) (ht : t ≠ E) (u : Value) : (W.setCell ⟨c, i, none⟩ u).ownsRow B E 1 v k xs := by
  refine ⟨hr.1, ?_⟩
  rcases hr.2 with h0 | ⟨g, cap, cur, rfl, hg, hgb, rest⟩
  · exact .inl h0
  · refine .inr ⟨g, cap, cur, rfl, hg, (Below.heap_setCell _ _ _ _ (fun e => ?_)).trans hgb, rest⟩
    subst e
    rw [show W.heap[g]? = _ from hX] at hgb
    simp only [Option.some.injEq, Obj.cells.injEq] at hgb
    exact ht hgb.2.1
theorem tab_setT {W : World} {B : Nat} {V : Value} {l : List ByteArray} (h : TabO l B V W) {t : TypeId} {c i : Nat} {ys : Array Value} (hX : Box W t c ys) (ht : t ≠ 9) (u : Value) : TabO l B V (W.setCell ⟨c, i, none⟩ u) := by
  obtain ⟨v, rfl, hr⟩ := h
  exact ⟨v, rfl, row_otherT hr hX ht u⟩
/-- the state of the loop -/
structure MSt (w W : World) (bo Bt Bn : Nat) (a2 : Option Addr) (n2 cap2 : Nat) (va : Option Addr) (vk : Nat) (cur : List ByteArray) (na : Option Addr) (nk : Nat) (acc : List Int) : Prop where
  S : Box W 24 (w.heap.size + 1) #[.slice a2 n2 cap2]
  X : Box W 24 (w.heap.size + 1 + 1) #[.slice none 0 0]
  O : Box W 24 bo #[.slice va cur.length vk]
  T : TabO cur Bt (.agg #[.slice va cur.length vk]) W
  R : W.ownsRow Bn 3 1 (.slice na acc.length nk) acc.length (acc.map (Value.int .i64))
  B : Below w.heap.size w W
  h1 : w.heap.size + 1 + 1 < bo
  h2 : w.heap.size ≤ Bt
  h3 : w.heap.size ≤ Bn
  h4 : Bn ≤ W.heap.size
theorem MSt.store {w W : World} {bo Bt Bn : Nat} {a2 : Option Addr} {n2 cap2 : Nat} {va : Option Addr} {vk : Nat} {cur : List ByteArray} {na : Option Addr} {nk : Nat} {acc : List Int} (h : MSt w W bo Bt Bn a2 n2 cap2 va vk cur na nk acc) {y : Nat} {ys : Array Value} (hY : Box W 24 y ys) (h1 : bo < y) (u : Value) : MSt w (W.setCell ⟨y, 0, none⟩ u) bo Bt Bn a2 n2 cap2 va vk cur na nk acc := by
  have hh := h.h1
  exact ⟨h.S.other (by omega) u, h.X.other (by omega) u, h.O.other (by omega) u, tab_setT h.T hY (by decide) u, row_otherT h.R hY (by decide) u, h.B.setCell (p := ⟨y, 0, none⟩) (by simp; omega) u, h.h1, h.h2, h.h3, by simpa using h.h4⟩
theorem MSt.below {w W W1 : World} {bo Bt Bn : Nat} {a2 : Option Addr} {n2 cap2 : Nat} {va : Option Addr} {vk : Nat} {cur : List ByteArray} {na : Option Addr} {nk : Nat} {acc : List Int} (h : MSt w W bo Bt Bn a2 n2 cap2 va vk cur na nk acc) (hB : Below W.heap.size W W1) : MSt w W1 bo Bt Bn a2 n2 cap2 va vk cur na nk acc :=
  ⟨h.S.below hB, h.X.below hB, h.O.below hB, tab_below h.T hB, row_below h.R hB, below_then h.B hB, h.h1, h.h2, h.h3, Nat.le_trans h.h4 hB.size⟩
theorem step_append3 {T E : TypeId} {z : Value} {bytes : Nat} (hT : Try.prog.underlying T = some (.slice E)) (hE : (Try.prog.info? E).map (fun i => (i.zero, i.size, i.bytes)) = some (some z, 1, bytes)) (hzc : z.cells.size = 1) (hby : bytes ≤ 1000)
    {w : World} {ops : Array Oper} {o : Oper} {a : Act} {K : Act → World → Prop} {Q : Exit → Act → World → Prop} {EE : Prop}
    (hg : o.guard = none) (s x : Operand) (hop : o.op = Op.call { callee := Callee.builtin Builtin.append, args := #[s, x], argTypes := #[T, T] })
    (base : Nat) (v : Value) (k : Nat) (xs : List Value) (hs : a.eval s = v) (hown : w.ownsRow base E 1 v k xs) (ad : Addr) (vs : List Value) (n c : Nat) (hx : a.eval x = .slice (some ad) n c) (hn : vs.length = n) (hsrc : ∀ j u, vs[j]? = some u → w.cell? (ad.add j) = some u) (h1 : ∀ u ∈ vs, u.oneCell' = true)
    (h0 : 0 < n) (hk : k + n ≤ 1000000) (hb : base ≤ w.heap.size)
    (hK : ∀ g cap w', w'.ownsRow base E 1 (.slice (some ⟨g, 0, none⟩) (k + n) cap) (k + n) (xs ++ vs) → w.grownBy w' v.ownBlock → K (a.put o.dst (.slice (some ⟨g, 0, none⟩) (k + n) cap)) w') :
    if Region.wanted o (yielded ops a.tmps) = true then Oper.wp Try.prog o a w K Q else EE := by
  obtain ⟨i0, hi, hz0, hz1, hz2⟩ := info_parts hE
  subst hn
  refine step_append_lies w hg s x T hop base E i0 z 1 bytes hT hi hz0 hz1 hz2 hzc (by decide) v k _ hs hown ad vs.length c vs hx (by simp) hsrc h1 h0 (by unfold maxLen; omega) ?_ hb w.heap.size rfl fun g cap w' h2 h3 _ _ => hK g cap w' h2 h3
  have : (k + vs.length) * bytes ≤ 1000000 * 1000 := Nat.mul_le_mul hk hby
  omega
theorem MSt.next {w W wA : World} {bo Bt Bn : Nat} {a2 : Option Addr} {n2 cap2 : Nat} {va : Option Addr} {vk : Nat} {cur : List ByteArray} {na : Option Addr} {nk : Nat} {acc : List Int} (h : MSt w W bo Bt Bn a2 n2 cap2 va vk cur na nk acc) {l2 : List ByteArray} {Bt2 : Nat} {va2 : Option Addr} {vk2 g gk : Nat} {n : Int} (hT : TabO l2 Bt2 (.agg #[.slice va2 l2.length vk2]) W) (hB2 : w.heap.size ≤ Bt2) (hg : W.grownBy wA (Value.slice na acc.length nk).ownBlock) (hv : wA.ownsRow Bn 3 1 (.slice (some ⟨g, 0, none⟩) (acc.length + 1) gk) (acc.length + 1) (acc.map (Value.int .i64) ++ [.int .i64 n])) :
    MSt w (wA.setCell ⟨bo, 0, none⟩ (.slice va2 l2.length vk2)) bo Bt2 Bn a2 n2 cap2 va2 vk2 l2 (some ⟨g, 0, none⟩) gk (acc ++ [n]) := by
  have hh := h.h1
  have O1 := Box.grownRow h.O h.R hg (by decide)
  have S1 := Box.grownRow h.S h.R hg (by decide)
  have X1 := Box.grownRow h.X h.R hg (by decide)
  have T1 := tab_grownRow hT h.R hg (by decide)
  have B1 : Below w.heap.size w wA := h.B.trans ((below_grown (Below.refl Bn W) h.R hg h.h4).mono h.h3)
  refine ⟨S1.other (by omega) _, X1.other (by omega) _, O1.set 0 (by simp) _, tab_setT T1 O1 (by decide) _, ?_, B1.setCell (p := ⟨bo, 0, none⟩) (by simp; omega) _, h.h1, hB2, h.h3, ?_⟩
  · have := row_otherT (i := 0) hv O1 (by decide) (.slice va2 l2.length vk2)
    simpa using this
  · have := hg.size
    have := h.h4
    simp; omega
set_option maxRecDepth 100000 in
set_option maxHeartbeats 2000000 in
theorem rmerge_ok (a a2 : Option Addr) (cap cap2 : Nat) (l m : List ByteArray) (lr : List ByteArray) (L : List Int) (er : Int) (w : World) (hT : Hid (Tb w l a cap)) (hT2 : Hid (Tb w m a2 cap2)) (hok : Hid (okT l = 0)) (hok2 : Hid (okT m = 0)) (hl : l.length ≤ 32) (hm : m.length ≤ 32) (H : Hid (mergeT l m = (lr, L, er))) :
    Calls Try.prog 27 #[.agg #[.slice a l.length cap], .agg #[.slice a2 m.length cap2]] w (WorkOk (RowN L) lr er w) := by
  have P1 := Lib.hid (((Box.new w 24 #[.slice a l.length cap]).alloc (.cells #[.slice a2 m.length cap2] 24)).alloc (.cells #[.slice none 0 0] 24))
  have S1 := Lib.hid ((Box.new2 w (.cells #[.slice a l.length cap] 24) 24 #[.slice a2 m.length cap2]).alloc (.cells #[.slice none 0 0] 24))
  have X1 := Lib.hid (Box.new3 w (.cells #[.slice a l.length cap] 24) (.cells #[.slice a2 m.length cap2] 24) 24 #[.slice none 0 0])
  have B1 := Lib.hid (below3 w (.cells #[.slice a l.length cap] 24) (.cells #[.slice a2 m.length cap2] 24) (.cells #[.slice none 0 0] 24))
  have T1 := Lib.hid (hT.out.below B1.out)
  have T2 := Lib.hid (hT2.out.below B1.out)
  have hsm := Lib.hid hT.out.small
  have hsm2 := Lib.hid hT2.out.small
  have hc1 := hT.out.hcap
  have hc2 := hT2.out.hcap
  have hH := H.out
  rw [mergeT_good hok.out hok2.out] at hH
  obtain ⟨⟨lx', L', er'⟩, hg⟩ : ∃ r, mrgG l [] m = r := ⟨_, rfl⟩
  rw [hg] at hH
  simp only [Prod.mk.injEq] at hH
  obtain ⟨hlr, rfl, rfl⟩ := hH
  have HG := Lib.hid hg
  have HLR := Lib.hid hlr
  clear hlr hg H
  go_enter Try.func27, Try.ntmps27
  go_wp2_with (first
    | (go_at_call 47; (with_reducible refine (okt_any a cap l 0 _ hc1 (by omega) hsm (Lib.hid T1.out.reads) hok).mono ?_); rintro e w2 ⟨rfl, hB⟩; have P2 := Lib.hid (P1.out.below hB); have S2 := Lib.hid (S1.out.below hB); have X2 := Lib.hid (X1.out.below hB); have T3 := Lib.hid (T2.out.below hB); have T4 := Lib.hid (T1.out.below hB); have B2 := Lib.hid (below_then B1.out hB); clear hB hsm; have s0 := S2.out.cell 0)
    | (go_at_call 47; (with_reducible refine (okt_any a2 cap2 m 0 _ hc2 (by omega) hsm2 (Lib.hid T3.out.reads) hok2).mono ?_); rintro e w3 ⟨rfl, hB⟩; have P3 := Lib.hid (P2.out.below hB); have S3 := Lib.hid (S2.out.below hB); have X3 := Lib.hid (X2.out.below hB); have T5 := Lib.hid (T4.out.below hB); have B3 := Lib.hid (below_then B2.out hB); clear hB s0; have p0 := P3.out.cell 0)
    | (go_at_call 46; refine (own6_any a cap l _ (by omega) (Lib.hid T5.out.src)).mono ?_; rintro e w4 ⟨V, Bo, rfl, hb1, hb2, hV, hB⟩; obtain ⟨va, vk, rfl⟩ := tab_shape hV; have KK := (Below.refl w4.heap.size w4).alloc (Nat.le_refl _) (.cells #[.slice va l.length vk] 24); have hB2 := hB.trans (KK.mono hB.size); have ST : Hid (MSt w (w4.alloc (.cells #[.slice va l.length vk] 24)) w4.heap.size Bo (w4.heap.size + 1) a2 m.length cap2 va vk l none 0 []) := Lib.hid ⟨S3.out.below hB2, X3.out.below hB2, Box.new _ _ _, tab_below hV KK, World.ownsRow_nil _ _ _ _, below_then B3.out hB2, Nat.lt_of_lt_of_le X3.out.lt hB.size, Nat.le_trans B3.out.size hb1, Nat.le_trans B3.out.size (Nat.le_trans hB.size (Nat.le_succ _)), by simp⟩; clear KK hB hB2 hb1 hb2 hV p0))
  have hbo : w3.heap.size ≤ w4.heap.size ∨ True := .inr trivial
  generalize w4.heap.size = bo at ST ⊢
  generalize bo + 1 = Bn at ST
  go_loopw [10, 9] (fun i x9 wr => ∃ (k Bt : Nat) (va : Option Addr) (vk : Nat) (cur : List ByteArray) (na : Option Addr) (nk : Nat) (acc : List Int), k ≤ m.length ∧ i = .int .i64 k ∧ x9 = .slice na k nk ∧ acc.length = k ∧ Hid (okT cur = 0) ∧ Hid (∀ x ∈ cur, x.size ≤ 9223372036854775807) ∧ Hid (MSt w wr bo Bt Bn a2 m.length cap2 va vk cur na nk acc) ∧ Hid (mrgG cur acc (m.drop k) = (lx', L', er'))) (fun i _ _ => m.length - (intOf i).toNat)
  case atStart => exact ⟨0, Bo, va, vk, l, none, 0, [], by omega, rfl, rfl, rfl, hok, Lib.hid hT.out.small, ST, Lib.hid (by simpa using HG.out)⟩
  case round =>
    obtain ⟨k, Bt, va, vk, cur, na, nk, acc, hk, rfl, rfl, hacc, HOK, HSM, ST, HK⟩ := hrel
    subst hacc
    have hcur := ok_len HOK.out
    have s0 := ST.out.S.cell 0
    have o0 := ST.out.O.cell 0
    have ls := ST.out.S.lt
    have lo := ST.out.O.lt
    by_cases hkl : acc.length < m.length
    · have TM := Lib.hid (hT2.out.below ST.out.B)
      obtain ⟨bq, off, rfl, hb, hcl⟩ := TM.out.reads acc.length hkl
      have hx := hsm2.out _ (mem_getS m acc.length hkl)
      have hS := HK.out
      rw [drop_consS m acc.length hkl] at hS
      generalize m[acc.length]?.getD ByteArray.empty = x at hcl hx hS
      unfold mrgG at hS
      have hPT := putT_good (s := x) (once := false) HOK.out
      have hcs := putP_cases cur x
      have hsub := putP_sub cur x false
      obtain ⟨⟨l2, n2, e2⟩, hp⟩ : ∃ r, putP cur x false = r := ⟨_, rfl⟩
      have hpo : e2 = 0 → okT l2 = 0 := fun h => by
        subst h
        have h3 := hcs (by rw [hp])
        rw [putP_ok h3.1 h3.2] at hp
        cases hp
        exact put1_ok HOK.out h3.1 h3.2
      rw [hp] at hS hPT hsub
      simp only at hS hPT hsub
      have HSUB : Hid (∀ y ∈ l2, y.size ≤ 9223372036854775807) := Lib.hid fun y hy => by
        rcases hsub y hy with h | rfl
        · exact HSM.out y h
        · exact hx
      have TC := Lib.hid (ST.out.T.tb HSM.out)
      clear hp HK hcs hsub
      have hd : Below wr.heap.size wr wr.drew := (Below.refl _ _).drew
      have STd := Lib.hid (ST.out.below hd)
      have TCd := Lib.hid (TC.out.below hd)
      clear hd
      have hA : Below wr.heap.size wr (wr.alloc (.cells #[.slice none 0 0] 24)).drew := ((Below.refl _ _).alloc (Nat.le_refl _) _).drew
      have STa := Lib.hid (ST.out.below hA)
      have TCc : Hid ((wr.alloc (.cells #[.slice none 0 0] 24)).drew.cell? ⟨bq, off + acc.length, none⟩ = some (.string x)) := Lib.hid ((hA.cell (p := ⟨bq, off + acc.length, none⟩) hb).trans hcl)
      have TCa := Lib.hid (TC.out.below hA)
      have YA : Hid (Box (wr.alloc (.cells #[.slice none 0 0] 24)).drew 24 wr.heap.size #[.slice none 0 0]) := Lib.hid (Box.new wr 24 #[.slice none 0 0])
      have HP := Lib.hid hPT
      clear hA hPT
      generalize hlr2 : (if e2 = 0 then l2 else []) = lr2 at HP
      go_upto_region 11 with fail
      go_cut [11, 12, 13] from 26 to 52 (fun s11 s12 s13 wx => ∃ (bn Bt2 : Nat) (va2 : Option Addr) (vk2 : Nat), s11 = .pointer (some ⟨bn, 0, none⟩) ∧ s12 = .int .i64 n2 ∧ s13 = .int .i64 e2 ∧ Hid (MSt w wx bo Bt Bn (some ⟨bq, off, none⟩) m.length cap2 va vk cur na nk acc) ∧ Hid (Box wx 24 bn #[.slice va2 lr2.length vk2]) ∧ Hid (TabO lr2 Bt2 (.agg #[.slice va2 lr2.length vk2]) wx) ∧ Hid (w.heap.size ≤ Bt2) ∧ Hid (bo < bn))
      case first =>
        go_region_held3 (fun w' => w'.cell? ⟨bo, 0, none⟩ = some (.slice va cur.length vk) ∧ w'.cell? ⟨w.heap.size + 1, 0, none⟩ = some (.slice (some ⟨bq, off, none⟩) m.length cap2) ∧ w'.cell? ⟨bq, off + acc.length, none⟩ = some (.string x))
          (first | go_keep | exact G5.out | exact G6.out)
          (first
            | (go_at_call 18; (with_reducible refine (rintern_any va vk cur x lr2 n2 e2 _ (by omega) hx TCd HP).mono ?_); rintro e w5 ⟨V, Bt2, rfl, hb1, hV, hB⟩; obtain ⟨va2, vk2, rfl⟩ := tab_shape hV; have ST5 := STd.out.below hB; have KK := (Below.refl w5.heap.size w5).alloc (Nat.le_refl _) (.cells #[.slice va2 lr2.length vk2] 24); have F1 := Lib.hid (ST5.below KK); have F2 := Lib.hid (Box.new w5 24 #[.slice va2 lr2.length vk2]); have F3 := Lib.hid (tab_below hV KK); have F4 : Hid (w.heap.size ≤ Bt2) := Lib.hid (Nat.le_trans STd.out.B.size hb1); have F5 : Hid (bo < w5.heap.size) := Lib.hid ST5.O.lt; have G5 : Hid (w5.cell? ⟨bo, 0, none⟩ = some (.slice va cur.length vk) ∧ w5.cell? ⟨w.heap.size + 1, 0, none⟩ = some (.slice (some ⟨bq, off, none⟩) m.length cap2) ∧ w5.cell? ⟨bq, off + acc.length, none⟩ = some (.string x)) := Lib.hid ⟨ST5.O.cell 0, ST5.S.cell 0, (hB.cell (p := ⟨bq, off + acc.length, none⟩) hb).trans hcl⟩; have G6 : Hid ((w5.alloc (.cells #[.slice va2 lr2.length vk2] 24)).cell? ⟨bo, 0, none⟩ = some (.slice va cur.length vk) ∧ (w5.alloc (.cells #[.slice va2 lr2.length vk2] 24)).cell? ⟨w.heap.size + 1, 0, none⟩ = some (.slice (some ⟨bq, off, none⟩) m.length cap2) ∧ (w5.alloc (.cells #[.slice va2 lr2.length vk2] 24)).cell? ⟨bq, off + acc.length, none⟩ = some (.string x)) := Lib.hid ⟨F1.out.O.cell 0, F1.out.S.cell 0, ((KK.cell (p := ⟨bq, off + acc.length, none⟩) (Nat.lt_of_lt_of_le hb hB.size)).trans ((hB.cell (p := ⟨bq, off + acc.length, none⟩) hb).trans hcl))⟩; clear hV hB hb1 ST5 KK)
            | (go_at_call 18; (with_reducible refine (rintern_any va vk cur x lr2 n2 e2 _ (by omega) hx TCa HP).mono ?_); rintro e w5 ⟨V, Bt2, rfl, hb1, hV, hB⟩; obtain ⟨va2, vk2, rfl⟩ := tab_shape hV; have ST5 := STa.out.below hB; have Y5 := Lib.hid (YA.out.below hB); have F1 := Lib.hid (ST5.store Y5.out ST.out.O.lt (.slice va2 lr2.length vk2)); have F2 := Lib.hid (Y5.out.set 0 (by simp) (.slice va2 lr2.length vk2)); have F3 := Lib.hid (tab_setT (i := 0) hV Y5.out (by decide) (.slice va2 lr2.length vk2)); have F4 : Hid (w.heap.size ≤ Bt2) := Lib.hid (Nat.le_trans STa.out.B.size hb1); have F5 : Hid (bo < wr.heap.size) := Lib.hid ST.out.O.lt; have G5 : Hid (w5.cell? ⟨bo, 0, none⟩ = some (.slice va cur.length vk) ∧ w5.cell? ⟨w.heap.size + 1, 0, none⟩ = some (.slice (some ⟨bq, off, none⟩) m.length cap2) ∧ w5.cell? ⟨bq, off + acc.length, none⟩ = some (.string x)) := Lib.hid ⟨ST5.O.cell 0, ST5.S.cell 0, (hB.cell (p := ⟨bq, off + acc.length, none⟩) (by simp; omega)).trans TCc.out⟩; have G6 : Hid ((w5.setCell ⟨wr.heap.size, 0, none⟩ (.slice va2 lr2.length vk2)).cell? ⟨bo, 0, none⟩ = some (.slice va cur.length vk) ∧ (w5.setCell ⟨wr.heap.size, 0, none⟩ (.slice va2 lr2.length vk2)).cell? ⟨w.heap.size + 1, 0, none⟩ = some (.slice (some ⟨bq, off, none⟩) m.length cap2) ∧ (w5.setCell ⟨wr.heap.size, 0, none⟩ (.slice va2 lr2.length vk2)).cell? ⟨bq, off + acc.length, none⟩ = some (.string x)) := Lib.hid ⟨F1.out.O.cell 0, F1.out.S.cell 0, ((((Below.refl wr.heap.size w5).setCell (p := ⟨wr.heap.size, 0, none⟩) (Nat.le_refl _) _).cell (p := ⟨bq, off + acc.length, none⟩) hb).trans G5.out.2.2)⟩; clear hV hB hb1 ST5; have y0 := Y5.out.cell 0; have y1 := Y5.out.free 0; have y2 := Y5.out.lt))
        all_goals
          go_wp2_with fail
          go_meet
          exact ⟨_, Bt2, va2, vk2, rfl, rfl, rfl, F1, F2, F3, F4, F5⟩
      case rest =>
        obtain ⟨bn, Bt2, va2, vk2, rfl, rfl, rfl, ST2, Y2, V2, H2, H5⟩ := hcut
        by_cases he2 : e2 = 0
        · subst he2
          rw [if_pos rfl] at hlr2 hS
          subst hlr2
          have HN := Lib.hid hS
          have HPO := Lib.hid (hpo rfl)
          clear hS hpo
          have hA : Below wc.heap.size wc (wc.alloc (.cells #[.int .i64 n2] 3)).drew := ((Below.refl _ _).alloc (Nat.le_refl _) _).drew
          have ST3 := Lib.hid (ST2.out.below hA)
          have V3 := Lib.hid (tab_below V2.out hA)
          have Y3 := Lib.hid (Y2.out.below hA)
          have SRC : Hid (∀ (j : Nat) u, [Value.int .i64 n2][j]? = some u → (wc.alloc (.cells #[.int .i64 n2] 3)).drew.cell? ((⟨wc.heap.size, 0, none⟩ : Addr).add j) = some u) := Lib.hid (by
            have h := src_one wc (.int .i64 n2) 3
            rcases h with ⟨h, _⟩ | ⟨x, h, hc⟩
            · cases h
            · cases h; exact hc)
          clear hA
          have y0 := Y2.out.cell 0
          have o2 := ST2.out.O.cell 0
          have o3 := ST2.out.O.free 0
          have o4 := ST2.out.O.lt
          have y1 : ∀ (g : Nat) (wA : World), (wc.alloc (.cells #[.int .i64 n2] 3)).drew.grownBy wA (Value.slice na acc.length nk).ownBlock → Hid (wA.cell? ⟨bn, 0, none⟩ = some (.slice va2 l2.length vk2)) ∧ Hid (wA.cell? ⟨bo, 0, none⟩ = some (.slice va cur.length vk) ∧ wA.frozen? ⟨bo, 0, none⟩ = false ∧ bo < wA.heap.size) ∧ Hid ((wA.setCell ⟨bo, 0, none⟩ (.slice va2 l2.length vk2)).cell? ⟨bn, 0, none⟩ = some (.slice va2 l2.length vk2)) := fun _ wA hg => by
            have Y4 := Box.grownRow Y3.out ST3.out.R hg (by decide)
            have O4 := Box.grownRow ST3.out.O ST3.out.R hg (by decide)
            exact ⟨Lib.hid (Y4.cell 0), Lib.hid ⟨O4.cell 0, O4.free 0, O4.lt⟩, Lib.hid ((Y4.other (by have := H5.out; omega) _).cell 0)⟩
          have Y9 := Lib.hid y1
          have hacc2 : acc.length + 1 ≤ 1000000 := by omega
          clear y1
          go_wp2_with fail
          go_region_held3 (fun w' => w'.cell? ⟨bn, 0, none⟩ = some (.slice va2 l2.length vk2))
            (first | go_keep | exact G7.out | exact G8.out)
            ((refine step_append3 Try.underlying41 info3 rfl (by omega) (by rfl) _ _ (by rfl) Bn _ acc.length (acc.map (Value.int .i64)) (by rfl) ST3.out.R ⟨wc.heap.size, 0, none⟩ [.int .i64 n2] 1 1 (by rfl) rfl SRC.out (by simp [Value.oneCell']) (by omega) hacc2 ST3.out.h4 ?_; intro g4 k4 wA hv4 hgA; have G4 := Lib.hid (ST3.out.next V3.out H2.out hgA hv4); have G7 := (Y9.out g4 wA hgA).1; have G8 := (Y9.out g4 wA hgA).2.2; obtain ⟨x1, x2, x3⟩ := (Y9.out g4 wA hgA).2.1.out; clear hv4 hgA o2 o3 o4))
          all_goals
            go_wp2_with fail
            go_roundw
            case rel => exact ⟨acc.length + 1, Bt2, va2, vk2, l2, some ⟨g4, 0, none⟩, k4, acc ++ [n2], by omega, by go_num, by simp, by simp, HPO, HSUB, G4, HN⟩
            case measure => simp [intOf]; omega
        · rw [if_neg he2] at hlr2 hS
          subst hlr2
          simp only [Prod.mk.injEq] at hS
          obtain ⟨rfl, rfl, rfl⟩ := hS
          have hlr := HLR.out
          rw [if_neg he2] at hlr
          subst hlr
          have x0 := ST2.out.X.cell 0
          have x1 := ST2.out.X.free 0
          have x2 := ST2.out.X.lt
          go_wp2_with fail
          have d0 := (ST2.out.X.set 0 (by simp) (.slice none 0 0)).cell 0
          exact bodyPost_ret (v := .tuple #[.agg #[.slice none 0 0], .slice none 0 0, .int .i64 e2]) (by simp [results, Try.results27, go_sem, d0]) rfl ⟨_, _, w.heap.size, w.heap.size, rfl, Nat.le_refl _, Nat.le_refl _, tab_nil _ _, World.ownsRow_nil _ _ _ _, ST2.out.B.setCell (p := ⟨w.heap.size + 1 + 1, 0, none⟩) (by simp; omega) _⟩
    · have hk2 : acc.length = m.length := by omega
      have hS := HK.out
      rw [hk2, List.drop_length] at hS
      unfold mrgG at hS
      simp only [Prod.mk.injEq] at hS
      obtain ⟨rfl, rfl, rfl⟩ := hS
      have hlr := HLR.out
      rw [if_pos rfl] at hlr
      subst hlr
      clear hk2
      have x0 := ST.out.X.cell 0
      have x1 := ST.out.X.free 0
      have x2 := ST.out.X.lt
      go_wp2_with fail
      have d0 := (ST.out.X.set 0 (by simp) (.slice va cur.length vk)).cell 0
      exact bodyPost_ret (v := .tuple #[.agg #[.slice va cur.length vk], .slice na acc.length nk, .int .i64 0]) (by simp [results, Try.results27, go_sem, d0]) rfl ⟨_, _, Bt, Bn, rfl, ST.out.h2, ST.out.h3, tab_setT ST.out.T ST.out.X (by decide) _, row_otherT ST.out.R ST.out.X (by decide) _, ST.out.B.setCell (p := ⟨w.heap.size + 1 + 1, 0, none⟩) (by simp; omega) _⟩
end Go.Proofs.Ytndghjfgjkjbdaa.s06
