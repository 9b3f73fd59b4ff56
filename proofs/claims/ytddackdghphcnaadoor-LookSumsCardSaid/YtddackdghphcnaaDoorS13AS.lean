/-
  Layer 13: the program's AppendSeq, Collect and All.
-/
import Derived.Test.YtddackdghphcnaaDoorS13FR
import Derived.Test.YtddackdghphcnaaDoorS13L
import Derived.Maps.OwnIn
namespace Go.Proofs.YtddackdghphcnaaDoor.s13
set_option linter.unusedVariables false
set_option linter.unusedSimpArgs false
open Go.RowKit
open kit

open Go.Shelf
attribute [local go_sem] Oper.semAt_some
/-- what the collecting loop says of the state: its variable, the row that grows, what it is no block of -/
def Coll (B b2 : Nat) (w0 : World) (pre : List (List Int)) (Z : Nat → Prop) (W : World) : Prop :=
  (∃ v, Box W 48 b2 #[v] ∧ W.ownsRow w0.heap.size 25 5 v pre.length (flat5 (pre.map pad5)) ∧ ∀ r, Z r → v.ownBlock ≠ some r) ∧ Below B w0 W ∧ w0.heap.size ≤ W.heap.size ∧ ∀ r, Z r → B ≤ r ∧ r ≠ b2 ∧ r < W.heap.size
theorem own_lt {W : World} {base size k : Nat} {E : TypeId} {v : Value} {xs : List Value} (h : W.ownsRow base E size v k xs) {g : Nat} (hg : v.ownBlock = some g) : g < W.heap.size ∧ ∃ cs t z, W.heap[g]? = some (.cells cs t z) := by
  rcases h.2 with ⟨rfl, _⟩ | ⟨g', cap, cur, rfl, _, hgb, _⟩
  · cases hg
  · obtain rfl : g' = g := by simpa [Value.ownBlock] using hg
    exact ⟨(Array.getElem?_eq_some_iff.1 hgb).1, _, _, _, hgb⟩
theorem coll_ab (B b2 : Nat) (w0 : World) (hB : B ≤ w0.heap.size) : AbZ (Coll B b2 w0) :=
  { size := fun s Z W h r hr => (h.2.2.2 r hr).2.2
    grown := fun s Z W W' ⟨⟨v, h1, h2, h3⟩, h4, h5, h6⟩ hg => ⟨⟨v, (grown_keep hg h1.lt (fun e => by cases e)).trans h1, h2.kept hg (by
        rcases e : v.ownBlock with _ | g
        · exact .inl rfl
        · exact .inr (fun e => by cases e)), h3⟩, h4.grown hg (Nat.le_trans hB h5) (fun j e => by cases e), Nat.le_trans h5 hg.size, fun r hr => ⟨(h6 r hr).1, (h6 r hr).2.1, Nat.lt_of_lt_of_le (h6 r hr).2.2 hg.size⟩⟩
    claim := fun s Z W o ⟨⟨v, h1, h2, h3⟩, h4, h5, h6⟩ => ⟨⟨v, h1.alloc o, h2.alloc o, fun r hr => by
        rcases hr with hr | rfl
        · exact h3 r hr
        · exact fun e => Nat.lt_irrefl _ (own_lt h2 e).1⟩, h4.alloc (Nat.le_trans hB h5) o, by simp; omega, fun r hr => by
        have := h1.lt
        rcases hr with hr | rfl
        · have := h6 r hr; simp; omega
        · simp; omega⟩
    turn := fun s Z W W' r ⟨⟨v, h1, h2, h3⟩, h4, h5, h6⟩ hr hg => ⟨⟨v, (grown_keep hg h1.lt (fun e => (h6 r hr).2.1 (by cases e; rfl))).trans h1, h2.kept hg (.inr (h3 r hr)), h3⟩, h4.grown hg (Nat.le_trans hB h5) (fun j e => by cases e; exact (h6 r hr).1), Nat.le_trans h5 hg.size, fun q hq => ⟨(h6 q hq).1, (h6 q hq).2.1, Nat.lt_of_lt_of_le (h6 q hq).2.2 hg.size⟩⟩
    less := fun s Z Z' W ⟨⟨v, h1, h2, h3⟩, h4, h5, h6⟩ hz => ⟨⟨v, h1, h2, fun r hr => h3 r (hz r hr)⟩, h4, h5, fun r hr => h6 r (hz r hr)⟩ }
theorem coll_put {B b2 : Nat} {w0 : World} {s : List (List Int)} {Z : Nat → Prop} {W : World} {k : Nat} {o : Obj} (o' : Obj) (hB : B ≤ k) (hk : W.heap[k]? = some o) (ho : o.isCells = false) (hw : B ≤ w0.heap.size) (h : Coll B b2 w0 s Z W) : Coll B b2 w0 s Z (W.putObj k o') := by
  obtain ⟨⟨v, h1, h2, h3⟩, h4, h5, h6⟩ := h
  have hg := grownBy_putObj' W k o'
  have hne : b2 ≠ k := by
    rintro rfl
    have e : W.heap[b2]? = _ := h1
    rw [hk] at e; cases e; cases ho
  exact ⟨⟨v, (World.putObj_heap_other hne).trans h1, ownsRow_putObj h2 o' hk ho, h3⟩, h4.grown hg (Nat.le_trans hw h5) (fun j e => by cases e; exact hB), Nat.le_trans h5 hg.size, fun q hq => ⟨(h6 q hq).1, (h6 q hq).2.1, Nat.lt_of_lt_of_le (h6 q hq).2.2 hg.size⟩⟩
theorem abz_false {β : Type} : AbZ (fun (_ : β) (_ : Nat → Prop) (_ : World) => False) := ⟨fun _ _ _ h => h.elim, fun _ _ _ _ h _ => h, fun _ _ _ _ h => h, fun _ _ _ _ _ h _ _ => h, fun _ _ _ _ h _ => h⟩
set_option maxRecDepth 100000 in
set_option maxHeartbeats 6000000 in
theorem appendseq_any (k t : Nat) (ht : t ≤ 8) (hk : k ≤ 4) (bx bk bt B : Nat) (w : World) (hB : B ≤ w.heap.size) (hX : Box w 25 bx (cellsL [])) (hK : Box w 3 bk #[.int .i64 k]) (hT : Box w 3 bt #[.int .i64 t]) (zx : B ≤ bx) (zk : B ≤ bk) (zt : B ≤ bt) (L : List (List Int)) (HL : Hid (allL t k [] = L)) (hlen : L.length ≤ 5000) :
    Calls Tryd.prog 69 #[.slice none 0 0, .func (.func 70) #[] #[.pointer (some ⟨bx, 0, none⟩), .pointer (some ⟨bk, 0, none⟩), .pointer (some ⟨bt, 0, none⟩)]] w fun e w' => ∃ a cp, e = .returned (.slice a L.length cp) ∧ Reads5 w' a (L.map pad5) ∧ Below B w w' := by
  obtain ⟨i0, hi, hz0, hz1, hz2⟩ := info_parts info5
  refine (callsIn_wide (n := 6)).1 ?_
  refine callsIn_of_wp_marks Tryd.func69 rfl trivial ?_ rfl
  simp only [Tryd.ntmps69, List.size_toArray, List.length_cons, List.length_nil, Nat.reduceAdd, Nat.reduceSub, Array.replicate_succ, Array.replicate_zero, List.push_toArray, List.append_toArray, List.nil_append, List.cons_append]
  gi_wp2
  obtain ⟨W0, hW0⟩ : ∃ W0, w.alloc (.cells #[.slice none 0 0] 48) = W0 := ⟨_, rfl⟩
  have hsz : W0.heap.size = w.heap.size + 1 := by rw [← hW0]; simp
  have X0 : Box W0 25 bx (cellsL []) := by rw [← hW0]; exact hX.alloc _
  have K0 : Box W0 3 bk #[.int .i64 k] := by rw [← hW0]; exact hK.alloc _
  have T0 : Box W0 3 bt #[.int .i64 t] := by rw [← hW0]; exact hT.alloc _
  have V0 : Box W0 48 w.heap.size #[.slice none 0 0] := by rw [← hW0]; exact Box.new w _ _
  have Bw : Below B w W0 := by rw [← hW0]; exact (Below.refl _ _).alloc hB _
  have lx := hX.lt
  have lk := hK.lt
  have lt := hT.lt
  rw [hW0]
  clear hW0 hX hK hT
  have hI0 : Coll B w.heap.size w [] (fun r => r = bx ∨ r = bk ∨ r = bt) W0 := ⟨⟨_, V0, World.ownsRow_nil _ _ _ _, fun r _ e => by cases e⟩, Bw, by omega, fun r hr => by rcases hr with rfl | rfl | rfl <;> exact ⟨by assumption, by omega, by omega⟩⟩
  refine wpIn_rangeFunc_ownZ (F := Fence.wide) rfl (by omega) (gf := 70) (lb := #[.pointer (some ⟨bx, 0, none⟩), .pointer (some ⟨bk, 0, none⟩), .pointer (some ⟨bt, 0, none⟩)]) rfl trivial (enters_of Tryd.func70 (by kernel_rfl) rfl)
    (encs := encL) (Z0 := fun r => r = bx ∨ r = bk ∨ r = bt) (S := fun xs => xs = allL t k []) (Sp := fun pre => pre <+: allL t k []) (N := (allL t k []).length)
    (R := fun W' => Box W' 25 bx (cellsL []) ∧ Box W' 3 bk #[.int .i64 k] ∧ Box W' 3 bt #[.int .i64 t])
    (fun l' J' Jx' W' hR' hJ' hJx' hY' h0' => from1_any Fence.wide trivial trivial rfl rfl k t ht hk k _ [] (by simp) l' bx bk bt J' Jx' _ hJ' hJx' (.inl rfl) (.inr (.inl rfl)) (.inr (.inr rfl)) _ hY' W' hR'.1 hR'.2.1 hR'.2.2 h0')
    (fun o o' => ⟨(X0.alloc o).alloc o', (K0.alloc o).alloc o', (T0.alloc o).alloc o'⟩) (fun x => rfl) (fun r hr => by omega)
    (Coll B w.heap.size w) (fun _ _ _ _ => False) (coll_ab B _ w hB) (fun _ => abz_false)
    (fun s Z W' k' o o' h hk' ho hc => coll_put o' (by omega) ho hc hB h) (fun _ _ _ _ _ _ _ h _ _ _ => h)
    (fun o o' => (coll_ab B _ w hB).alloc _ ((coll_ab B _ w hB).alloc _ hI0))
    (fun x a' W' => ∃ b5, Box W' 25 b5 (cellsL x) ∧ a' = { tmps := #[.slice none 0 0, .func (.func 70) #[] #[.pointer (some ⟨bx, 0, none⟩), .pointer (some ⟨bk, 0, none⟩), .pointer (some ⟨bt, 0, none⟩)], .pointer (some ⟨w.heap.size, 0, none⟩), undef, .slice none 0 0, .pointer (some ⟨b5, 0, none⟩), .func (.func 70) #[] #[.pointer (some ⟨bx, 0, none⟩), .pointer (some ⟨bk, 0, none⟩), .pointer (some ⟨bt, 0, none⟩)], (encL x).getD 0 undef, undef, undef, undef, undef, undef], defers := [] })
    ?hAx ?assign ?body ?done ?stop
  case hAx =>
    rintro x a' W' k' o o' ⟨b7, hb7, rfl⟩ hk hc
    refine ⟨b7, ?_, rfl⟩
    have hne : b7 ≠ k' := by
      rintro rfl
      have h2 : W'.heap[b7]? = _ := hb7
      rw [hk] at h2
      cases h2
      cases hc
    exact (World.putObj_heap_other hne).trans hb7
  case assign =>
    intro l1 pre x Z Wc K hi hlt1 hK
    have hlts : ∀ r, (Z r ∨ r = W0.heap.size ∨ r = W0.heap.size + 1) → r < Wc.heap.size := fun r hr => by
      rcases hr with hr | rfl | rfl
      · exact (hi.2.2.2 r hr).2.2
      · omega
      · omega
    obtain ⟨⟨v0, v1, v2, v3, v4⟩, hv⟩ : ∃ y, pad5 x = y := ⟨_, rfl⟩
    have he := encL_eq hv
    have hcl := cellsL_eq hv
    rw [he]
    clear hsz
    gi_wp2
    refine hK _ _ (fun r hr => Below.heap_alloc Wc _ r (hlts r hr)) ((coll_ab B _ w hB).alloc _ hi) ⟨Wc.heap.size, ?_, ?_⟩
    · rw [hcl]; exact Box.new Wc _ _
    · rw [he]; rfl
  case body =>
    rintro l1 pre x a' Z Wc ⟨⟨v, h1, h2, h3⟩, h4, h5, h6⟩ ⟨b5, hb5, rfl⟩ hz hne hlt2 hnc hln
    obtain ⟨⟨v0, v1, v2, v3, v4⟩, hv⟩ : ∃ y, pad5 x = y := ⟨_, rfl⟩
    have he := encL_eq hv
    rw [he]
    rw [cellsL_eq hv] at hb5
    obtain ⟨c0, c1, c2, c3, c4⟩ := hb5.cell5
    have lb5 := hb5.lt
    have cv := h1.cell 0
    simp at cv
    rw [HL.out] at hln
    clear hsz
    have hsrc : ∀ (i : Nat) (u : Value), (cells5 (v0, v1, v2, v3, v4))[i]? = some u → (Wc.alloc (.cells #[.int .i64 v0, .int .i64 v1, .int .i64 v2, .int .i64 v3, .int .i64 v4] 25)).cell? ((⟨Wc.heap.size, 0, none⟩ : Addr).add i) = some u := fun i u hu => by
      rw [Go.WideShapes.add_plain, Nat.zero_add, (Box.new Wc 25 #[.int .i64 v0, .int .i64 v1, .int .i64 v2, .int .i64 v3, .int .i64 v4]).cell i]
      simpa [cells5] using hu
    have hpl : (pre.length + 1) * 40 ≤ 140737488355328 := by omega
    have hpm : pre.length + 1 ≤ maxLen := by unfold maxLen; omega
    gi_wp2_with (gi_at_builtin; go_loud (refine wpListIn_append_own_at _ rfl (.tmp 8) (.tmp 10) 48 rfl w.heap.size 25 i0 (.agg #[.int .i64 0, .int .i64 0, .int .i64 0, .int .i64 0, .int .i64 0]) 5 40 Tryd.underlying48 hi hz0 hz1 hz2 rfl (by decide) v pre.length _ rfl (h2.alloc _) ⟨Wc.heap.size, 0, none⟩ 1 1 (cells5 (v0, v1, v2, v3, v4)) rfl rfl hsrc (by simp [cells5, Value.oneCell']) hpm hpl (by simp; omega) ?_); intro v' w1 hown' hgrow _ hblk; obtain ⟨g', cap', rfl⟩ := ownsRow_succ hown'; obtain ⟨hv1, hv2, hr2, hk2, hb2⟩ := Boxed.appended h1 (by decide) h2 h5 (Nat.le_refl _) hown' hgrow; have hc1 := hv1.cell; have hf1 := hv1.frozen)
    have hkeep : ∀ r, r < Wc.heap.size → v.ownBlock ≠ some r → r ≠ w.heap.size → (w1.setCell ⟨w.heap.size, 0, none⟩ (.slice (some ⟨g', 0, none⟩) (pre.length + 1) cap')).heap[r]? = Wc.heap[r]? := fun r hr ho hb =>
      (Below.heap_setCell _ _ _ _ hb).trans ((grown_keep hgrow (by simp; omega) (fun e => ho e.symm)).trans (Below.heap_alloc Wc _ r hr))
    have hncr : ∀ r, r = W0.heap.size ∨ r = W0.heap.size + 1 → r < Wc.heap.size ∧ v.ownBlock ≠ some r ∧ r ≠ w.heap.size := fun r hr => by
      obtain ⟨o, ho, hc⟩ := hnc r hr
      refine ⟨(Array.getElem?_eq_some_iff.1 ho).1, fun e => ?_, fun e => ?_⟩
      · obtain ⟨_, cs, t', z, h⟩ := own_lt h2 e
        rw [ho] at h; cases h; cases hc
      · have h : Wc.heap[w.heap.size]? = _ := h1
        rw [← e, ho] at h; cases h; cases hc
    refine ⟨fun r hr => ?_, ⟨_, hv2, ?_, fun r hr e => ?_⟩, h4.trans (hb2.mono hB), ?_, fun r hr => ⟨(h6 r hr).1, (h6 r hr).2.1, ?_⟩⟩
    · rcases hr with hr | hr
      · exact hkeep r (h6 r hr).2.2 (h3 r hr) (h6 r hr).2.1
      · obtain ⟨e1, e2, e3⟩ := hncr r hr
        exact hkeep r e1 e2 e3
    · rw [List.length_append, List.map_append, flat5_app, List.map_singleton, hv, flat5_one]
      exact hr2
    · rcases hblk with hb | hb
      · exact h3 r hr (hb ▸ e)
      · rw [hb] at e
        have e2 := (h6 r hr).2.2
        simp at e
        omega
    · exact Nat.le_trans h5 hb2.size
    · exact Nat.lt_of_lt_of_le (h6 r hr).2.2 hb2.size
  case done =>
    rintro xs W8 rfl ⟨⟨v, h1, h2, h3⟩, h4, h5, h6⟩ hK8
    rw [HL.out] at h2
    have cv := h1.cell 0
    simp at cv
    obtain ⟨a, cp, rfl⟩ : ∃ a cp, v = .slice a L.length cp := by
      rcases h2.2 with ⟨rfl, h0⟩ | ⟨g, cap, _, rfl, _⟩
      · exact ⟨none, 0, by rw [show L.length = 0 by omega]⟩
      · exact ⟨_, _, rfl⟩
    have hne : (Value.slice a L.length cp).ownBlock ≠ some W0.heap.size := fun e => by
      obtain ⟨_, cs, t', z, h⟩ := own_lt h2 e
      rw [hK8] at h; cases h
    have HSZ := Lib.hid hsz
    clear hsz
    gi_wp2
    refine leaves_marksG (G := fun W' => W'.ownsRow w.heap.size 25 5 (.slice a L.length cp) L.length (flat5 (L.map pad5)) ∧ Below B w W' ∧ w.heap.size ≤ W'.heap.size) (fun w => results_tmp rfl _ _ _) (fun w' hw => ⟨a, ⟨cp, rfl⟩, reads5_of_row (by simp) hw.1, hw.2.1⟩) [W0.heap.size] W8 (by simp) (fun q hq => by obtain rfl := List.mem_singleton.1 hq; exact hK8) (fun W' q o' hq h => by
      obtain rfl := List.mem_singleton.1 hq
      exact ⟨h.1.kept (grownBy_putObj' W' _ o') (.inr hne), h.2.1.grown (grownBy_putObj' W' _ o') (Nat.le_trans hB h.2.2) (fun j e => by cases e; have := HSZ.out; omega), Nat.le_trans h.2.2 (grownBy_putObj' W' W0.heap.size o').size⟩) ⟨h2, h4, h5⟩
  case stop =>
    rintro c pre W8 _ h _
    exact h.elim
set_option maxRecDepth 100000 in
set_option maxHeartbeats 2000000 in
theorem collect_any (k t : Nat) (ht : t ≤ 8) (hk : k ≤ 4) (bx bk bt B : Nat) (w : World) (hB : B ≤ w.heap.size) (hX : Hid (Box w 25 bx (cellsL []))) (hK : Hid (Box w 3 bk #[.int .i64 k])) (hT : Hid (Box w 3 bt #[.int .i64 t])) (zx : B ≤ bx) (zk : B ≤ bk) (zt : B ≤ bt) (L : List (List Int)) (HL : Hid (allL t k [] = L)) (hlen : L.length ≤ 5000) :
    Calls Tryd.prog 61 #[.func (.func 70) #[] #[.pointer (some ⟨bx, 0, none⟩), .pointer (some ⟨bk, 0, none⟩), .pointer (some ⟨bt, 0, none⟩)]] w fun e w' => ∃ a cp, e = .returned (.slice a L.length cp) ∧ Reads5 w' a (L.map pad5) ∧ Below B w w' := by
  go_enter Tryd.func61, Tryd.ntmps61
  go_wp2_with (go_at_call 69; refine (appendseq_any k t ht hk bx bk bt B _ hB hX.out hK.out hT.out zx zk zt L HL hlen).mono ?_; rintro e w1 ⟨a, cp, rfl, hR, hB1⟩)
  go_ret
  exact ⟨a, cp, rfl, hR, hB1⟩
end Go.Proofs.YtddackdghphcnaaDoor.s13
