/-
  Layer 13: the program's AppendSeq, Collect and All. Layer 13: the program's All. Regions by the specifications of their operations, behind each other: the frame stays a variable, of which is known what its slots hold. Layer 13: reading from a list of looks, by specifications.
-/
import Derived.Test.YtddackdghphcnaaDoorG13
import Derived.Test.YtddackdghphcnaaDoorG03
import Derived.Maps.OwnIn
import Derived.Test.YtddackdghphcnaaDoorG11
import Derived.Test.YtddackdghphcnaaDoorG02
import Derived.Test.YtddackdghphcnaaDoorG08
import Derived.Test.YtddackdghphcnaaDoorG09
namespace Go.Proofs.YtddackdghphcnaaDoor.s13
set_option linter.unusedVariables false
set_option linter.unusedSimpArgs false
open Go.RowKit
open kit

open Go.Shelf
attribute [local go_sem] Oper.semAt_some
/-- what the collecting loop says of the state: its variable, the row that grows, what it is no block of -/
def Coll (B b2 : Nat) (w0 : World) (pre : List (List Int)) (Z : Nat → Prop) (W : World) : Prop :=
  (∃ v, Box W 48 b2 #[v] ∧ W.ownsRow w0.heap.size 25 5 v pre.length (flat5 (pre.map pad5)) ∧ ∀ r, Z r → v.ownBlock ≠ some r) ∧ Below B w0 W ∧ w0.heap.size ≤ W.heap.size ∧ ∀ r, Z r → B ≤ r ∧ r ≠ b2 ∧ r < W.heap.size
theorem own_lt {W : World} {base size k : Nat} {E : TypeId} {v : Value} {xs : List Value} (h : W.ownsRow base E size v k xs) {g : Nat} (hg : v.ownBlock = some g) : g < W.heap.size ∧ ∃ cs t z, W.heap[g]? = some (.cells cs t z) := by
  rcases h.2 with ⟨rfl, _⟩ | ⟨g', cap, cur, rfl, _, hgb, _⟩
  · cases hg
  · obtain rfl : g' = g := by simpa [Value.ownBlock] using hg
    exact ⟨(Array.getElem?_eq_some_iff.1 hgb).1, _, _, _, hgb⟩
theorem coll_ab (B b2 : Nat) (w0 : World) (hB : B ≤ w0.heap.size) : AbZ (Coll B b2 w0) :=
  { size := fun s Z W h r hr => (h.2.2.2 r hr).2.2
    grown := fun s Z W W' ⟨⟨v, h1, h2, h3⟩, h4, h5, h6⟩ hg => ⟨⟨v, (grown_keep hg h1.lt (fun e => by cases e)).trans h1, h2.kept hg (by
        rcases e : v.ownBlock with _ | g
        · exact .inl rfl
        · exact .inr (fun e => by cases e)), h3⟩, h4.grown hg (Nat.le_trans hB h5) (fun j e => by cases e), Nat.le_trans h5 hg.size, fun r hr => ⟨(h6 r hr).1, (h6 r hr).2.1, Nat.lt_of_lt_of_le (h6 r hr).2.2 hg.size⟩⟩
    claim := fun s Z W o ⟨⟨v, h1, h2, h3⟩, h4, h5, h6⟩ => ⟨⟨v, h1.alloc o, h2.alloc o, fun r hr => by
        rcases hr with hr | rfl
        · exact h3 r hr
        · exact fun e => Nat.lt_irrefl _ (own_lt h2 e).1⟩, h4.alloc (Nat.le_trans hB h5) o, by simp; omega, fun r hr => by
        have := h1.lt
        rcases hr with hr | rfl
        · have := h6 r hr; simp; omega
        · simp; omega⟩
    turn := fun s Z W W' r ⟨⟨v, h1, h2, h3⟩, h4, h5, h6⟩ hr hg => ⟨⟨v, (grown_keep hg h1.lt (fun e => (h6 r hr).2.1 (by cases e; rfl))).trans h1, h2.kept hg (.inr (h3 r hr)), h3⟩, h4.grown hg (Nat.le_trans hB h5) (fun j e => by cases e; exact (h6 r hr).1), Nat.le_trans h5 hg.size, fun q hq => ⟨(h6 q hq).1, (h6 q hq).2.1, Nat.lt_of_lt_of_le (h6 q hq).2.2 hg.size⟩⟩
    less := fun s Z Z' W ⟨⟨v, h1, h2, h3⟩, h4, h5, h6⟩ hz => ⟨⟨v, h1, h2, fun r hr => h3 r (hz r hr)⟩, h4, h5, fun r hr => h6 r (hz r hr)⟩ }
theorem coll_put {B b2 : Nat} {w0 : World} {s : List (List Int)} {Z : Nat → Prop} {W : World} {k : Nat} {o : Obj} (o' : Obj) (hB : B ≤ k) (hk : W.heap[k]? = some o) (ho : o.isCells = false) (hw : B ≤ w0.heap.size) (h : Coll B b2 w0 s Z W) : Coll B b2 w0 s Z (W.putObj k o') := by
  obtain ⟨⟨v, h1, h2, h3⟩, h4, h5, h6⟩ := h
  have hg := grownBy_putObj' W k o'
  have hne : b2 ≠ k := by
    rintro rfl
    have e : W.heap[b2]? = _ := h1
    rw [hk] at e; cases e; cases ho
  exact ⟨⟨v, (World.putObj_heap_other hne).trans h1, ownsRow_putObj h2 o' hk ho, h3⟩, h4.grown hg (Nat.le_trans hw h5) (fun j e => by cases e; exact hB), Nat.le_trans h5 hg.size, fun q hq => ⟨(h6 q hq).1, (h6 q hq).2.1, Nat.lt_of_lt_of_le (h6 q hq).2.2 hg.size⟩⟩
theorem abz_false {β : Type} : AbZ (fun (_ : β) (_ : Nat → Prop) (_ : World) => False) := ⟨fun _ _ _ h => h.elim, fun _ _ _ _ h _ => h, fun _ _ _ _ h => h, fun _ _ _ _ _ h _ _ => h, fun _ _ _ _ h _ => h⟩
set_option maxRecDepth 100000 in
set_option maxHeartbeats 6000000 in
theorem appendseq_any (k t : Nat) (ht : t ≤ 8) (hk : k ≤ 4) (bx bk bt B : Nat) (w : World) (hB : B ≤ w.heap.size) (hX : Box w 25 bx (cellsL [])) (hK : Box w 3 bk #[.int .i64 k]) (hT : Box w 3 bt #[.int .i64 t]) (zx : B ≤ bx) (zk : B ≤ bk) (zt : B ≤ bt) (L : List (List Int)) (HL : Hid (allL t k [] = L)) (hlen : L.length ≤ 5000) :
    Calls Tryd.prog 69 #[.slice none 0 0, .func (.func 70) #[] #[.pointer (some ⟨bx, 0, none⟩), .pointer (some ⟨bk, 0, none⟩), .pointer (some ⟨bt, 0, none⟩)]] w fun e w' => ∃ a cp, e = .returned (.slice a L.length cp) ∧ Reads5 w' a (L.map pad5) ∧ Below B w w' := by
  obtain ⟨i0, hi, hz0, hz1, hz2⟩ := info_parts info5
  refine (callsIn_wide (n := 6)).1 ?_
  refine callsIn_of_wp_marks Tryd.func69 rfl trivial ?_ rfl
  simp only [Tryd.ntmps69, List.size_toArray, List.length_cons, List.length_nil, Nat.reduceAdd, Nat.reduceSub, Array.replicate_succ, Array.replicate_zero, List.push_toArray, List.append_toArray, List.nil_append, List.cons_append]
  gi_wp2
  obtain ⟨W0, hW0⟩ : ∃ W0, w.alloc (.cells #[.slice none 0 0] 48) = W0 := ⟨_, rfl⟩
  have hsz : W0.heap.size = w.heap.size + 1 := by rw [← hW0]; simp
  have X0 : Box W0 25 bx (cellsL []) := by rw [← hW0]; exact hX.alloc _
  have K0 : Box W0 3 bk #[.int .i64 k] := by rw [← hW0]; exact hK.alloc _
  have T0 : Box W0 3 bt #[.int .i64 t] := by rw [← hW0]; exact hT.alloc _
  have V0 : Box W0 48 w.heap.size #[.slice none 0 0] := by rw [← hW0]; exact Box.new w _ _
  have Bw : Below B w W0 := by rw [← hW0]; exact (Below.refl _ _).alloc hB _
  have lx := hX.lt
  have lk := hK.lt
  have lt := hT.lt
  rw [hW0]
  clear hW0 hX hK hT
  have hI0 : Coll B w.heap.size w [] (fun r => r = bx ∨ r = bk ∨ r = bt) W0 := ⟨⟨_, V0, World.ownsRow_nil _ _ _ _, fun r _ e => by cases e⟩, Bw, by omega, fun r hr => by rcases hr with rfl | rfl | rfl <;> exact ⟨by assumption, by omega, by omega⟩⟩
  refine wpIn_rangeFunc_ownZ (F := Fence.wide) rfl (by omega) (gf := 70) (lb := #[.pointer (some ⟨bx, 0, none⟩), .pointer (some ⟨bk, 0, none⟩), .pointer (some ⟨bt, 0, none⟩)]) rfl trivial (enters_of Tryd.func70 (by kernel_rfl) rfl)
    (encs := encL) (Z0 := fun r => r = bx ∨ r = bk ∨ r = bt) (S := fun xs => xs = allL t k []) (Sp := fun pre => pre <+: allL t k []) (N := (allL t k []).length)
    (R := fun W' => Box W' 25 bx (cellsL []) ∧ Box W' 3 bk #[.int .i64 k] ∧ Box W' 3 bt #[.int .i64 t])
    (fun l' J' Jx' W' hR' hJ' hJx' hY' h0' => from1_any Fence.wide trivial trivial rfl rfl k t ht hk k _ [] (by simp) l' bx bk bt J' Jx' _ hJ' hJx' (.inl rfl) (.inr (.inl rfl)) (.inr (.inr rfl)) _ hY' W' hR'.1 hR'.2.1 hR'.2.2 h0')
    (fun o o' => ⟨(X0.alloc o).alloc o', (K0.alloc o).alloc o', (T0.alloc o).alloc o'⟩) (fun x => rfl) (fun r hr => by omega)
    (Coll B w.heap.size w) (fun _ _ _ _ => False) (coll_ab B _ w hB) (fun _ => abz_false)
    (fun s Z W' k' o o' h hk' ho hc => coll_put o' (by omega) ho hc hB h) (fun _ _ _ _ _ _ _ h _ _ _ => h)
    (fun o o' => (coll_ab B _ w hB).alloc _ ((coll_ab B _ w hB).alloc _ hI0))
    (fun x a' W' => ∃ b5, Box W' 25 b5 (cellsL x) ∧ a' = { tmps := #[.slice none 0 0, .func (.func 70) #[] #[.pointer (some ⟨bx, 0, none⟩), .pointer (some ⟨bk, 0, none⟩), .pointer (some ⟨bt, 0, none⟩)], .pointer (some ⟨w.heap.size, 0, none⟩), undef, .slice none 0 0, .pointer (some ⟨b5, 0, none⟩), .func (.func 70) #[] #[.pointer (some ⟨bx, 0, none⟩), .pointer (some ⟨bk, 0, none⟩), .pointer (some ⟨bt, 0, none⟩)], (encL x).getD 0 undef, undef, undef, undef, undef, undef], defers := [] })
    ?hAx ?assign ?body ?done ?stop
  case hAx =>
    rintro x a' W' k' o o' ⟨b7, hb7, rfl⟩ hk hc
    refine ⟨b7, ?_, rfl⟩
    have hne : b7 ≠ k' := by
      rintro rfl
      have h2 : W'.heap[b7]? = _ := hb7
      rw [hk] at h2
      cases h2
      cases hc
    exact (World.putObj_heap_other hne).trans hb7
  case assign =>
    intro l1 pre x Z Wc K hi hlt1 hK
    have hlts : ∀ r, (Z r ∨ r = W0.heap.size ∨ r = W0.heap.size + 1) → r < Wc.heap.size := fun r hr => by
      rcases hr with hr | rfl | rfl
      · exact (hi.2.2.2 r hr).2.2
      · omega
      · omega
    obtain ⟨⟨v0, v1, v2, v3, v4⟩, hv⟩ : ∃ y, pad5 x = y := ⟨_, rfl⟩
    have he := encL_eq hv
    have hcl := cellsL_eq hv
    rw [he]
    clear hsz
    gi_wp2
    refine hK _ _ (fun r hr => Below.heap_alloc Wc _ r (hlts r hr)) ((coll_ab B _ w hB).alloc _ hi) ⟨Wc.heap.size, ?_, ?_⟩
    · rw [hcl]; exact Box.new Wc _ _
    · rw [he]; rfl
  case body =>
    rintro l1 pre x a' Z Wc ⟨⟨v, h1, h2, h3⟩, h4, h5, h6⟩ ⟨b5, hb5, rfl⟩ hz hne hlt2 hnc hln
    obtain ⟨⟨v0, v1, v2, v3, v4⟩, hv⟩ : ∃ y, pad5 x = y := ⟨_, rfl⟩
    have he := encL_eq hv
    rw [he]
    rw [cellsL_eq hv] at hb5
    obtain ⟨c0, c1, c2, c3, c4⟩ := hb5.cell5
    have lb5 := hb5.lt
    have cv := h1.cell 0
    simp at cv
    rw [HL.out] at hln
    clear hsz
    have hsrc : ∀ (i : Nat) (u : Value), (cells5 (v0, v1, v2, v3, v4))[i]? = some u → (Wc.alloc (.cells #[.int .i64 v0, .int .i64 v1, .int .i64 v2, .int .i64 v3, .int .i64 v4] 25)).cell? ((⟨Wc.heap.size, 0, none⟩ : Addr).add i) = some u := fun i u hu => by
      rw [Go.WideShapes.add_plain, Nat.zero_add, (Box.new Wc 25 #[.int .i64 v0, .int .i64 v1, .int .i64 v2, .int .i64 v3, .int .i64 v4]).cell i]
      simpa [cells5] using hu
    have hpl : (pre.length + 1) * 40 ≤ 140737488355328 := by omega
    have hpm : pre.length + 1 ≤ maxLen := by unfold maxLen; omega
    gi_wp2_with (gi_at_builtin; go_loud (refine wpListIn_append_own_at _ rfl (.tmp 8) (.tmp 10) 48 rfl w.heap.size 25 i0 (.agg #[.int .i64 0, .int .i64 0, .int .i64 0, .int .i64 0, .int .i64 0]) 5 40 Tryd.underlying48 hi hz0 hz1 hz2 rfl (by decide) v pre.length _ rfl (h2.alloc _) ⟨Wc.heap.size, 0, none⟩ 1 1 (cells5 (v0, v1, v2, v3, v4)) rfl rfl hsrc (by simp [cells5, Value.oneCell']) hpm hpl (by simp; omega) ?_); intro v' w1 hown' hgrow _ hblk; obtain ⟨g', cap', rfl⟩ := ownsRow_succ hown'; obtain ⟨hv1, hv2, hr2, hk2, hb2⟩ := Boxed.appended h1 (by decide) h2 h5 (Nat.le_refl _) hown' hgrow; have hc1 := hv1.cell; have hf1 := hv1.frozen)
    have hkeep : ∀ r, r < Wc.heap.size → v.ownBlock ≠ some r → r ≠ w.heap.size → (w1.setCell ⟨w.heap.size, 0, none⟩ (.slice (some ⟨g', 0, none⟩) (pre.length + 1) cap')).heap[r]? = Wc.heap[r]? := fun r hr ho hb =>
      (Below.heap_setCell _ _ _ _ hb).trans ((grown_keep hgrow (by simp; omega) (fun e => ho e.symm)).trans (Below.heap_alloc Wc _ r hr))
    have hncr : ∀ r, r = W0.heap.size ∨ r = W0.heap.size + 1 → r < Wc.heap.size ∧ v.ownBlock ≠ some r ∧ r ≠ w.heap.size := fun r hr => by
      obtain ⟨o, ho, hc⟩ := hnc r hr
      refine ⟨(Array.getElem?_eq_some_iff.1 ho).1, fun e => ?_, fun e => ?_⟩
      · obtain ⟨_, cs, t', z, h⟩ := own_lt h2 e
        rw [ho] at h; cases h; cases hc
      · have h : Wc.heap[w.heap.size]? = _ := h1
        rw [← e, ho] at h; cases h; cases hc
    refine ⟨fun r hr => ?_, ⟨_, hv2, ?_, fun r hr e => ?_⟩, h4.trans (hb2.mono hB), ?_, fun r hr => ⟨(h6 r hr).1, (h6 r hr).2.1, ?_⟩⟩
    · rcases hr with hr | hr
      · exact hkeep r (h6 r hr).2.2 (h3 r hr) (h6 r hr).2.1
      · obtain ⟨e1, e2, e3⟩ := hncr r hr
        exact hkeep r e1 e2 e3
    · rw [List.length_append, List.map_append, flat5_app, List.map_singleton, hv, flat5_one]
      exact hr2
    · rcases hblk with hb | hb
      · exact h3 r hr (hb ▸ e)
      · rw [hb] at e
        have e2 := (h6 r hr).2.2
        simp at e
        omega
    · exact Nat.le_trans h5 hb2.size
    · exact Nat.lt_of_lt_of_le (h6 r hr).2.2 hb2.size
  case done =>
    rintro xs W8 rfl ⟨⟨v, h1, h2, h3⟩, h4, h5, h6⟩ hK8
    rw [HL.out] at h2
    have cv := h1.cell 0
    simp at cv
    obtain ⟨a, cp, rfl⟩ : ∃ a cp, v = .slice a L.length cp := by
      rcases h2.2 with ⟨rfl, h0⟩ | ⟨g, cap, _, rfl, _⟩
      · exact ⟨none, 0, by rw [show L.length = 0 by omega]⟩
      · exact ⟨_, _, rfl⟩
    have hne : (Value.slice a L.length cp).ownBlock ≠ some W0.heap.size := fun e => by
      obtain ⟨_, cs, t', z, h⟩ := own_lt h2 e
      rw [hK8] at h; cases h
    have HSZ := Lib.hid hsz
    clear hsz
    gi_wp2
    refine leaves_marksG (G := fun W' => W'.ownsRow w.heap.size 25 5 (.slice a L.length cp) L.length (flat5 (L.map pad5)) ∧ Below B w W' ∧ w.heap.size ≤ W'.heap.size) (fun w => results_tmp rfl _ _ _) (fun w' hw => ⟨a, ⟨cp, rfl⟩, reads5_of_row (by simp) hw.1, hw.2.1⟩) [W0.heap.size] W8 (by simp) (fun q hq => by obtain rfl := List.mem_singleton.1 hq; exact hK8) (fun W' q o' hq h => by
      obtain rfl := List.mem_singleton.1 hq
      exact ⟨h.1.kept (grownBy_putObj' W' _ o') (.inr hne), h.2.1.grown (grownBy_putObj' W' _ o') (Nat.le_trans hB h.2.2) (fun j e => by cases e; have := HSZ.out; omega), Nat.le_trans h.2.2 (grownBy_putObj' W' W0.heap.size o').size⟩) ⟨h2, h4, h5⟩
  case stop =>
    rintro c pre W8 _ h _
    exact h.elim
set_option maxRecDepth 100000 in
set_option maxHeartbeats 2000000 in
theorem collect_any (k t : Nat) (ht : t ≤ 8) (hk : k ≤ 4) (bx bk bt B : Nat) (w : World) (hB : B ≤ w.heap.size) (hX : Hid (Box w 25 bx (cellsL []))) (hK : Hid (Box w 3 bk #[.int .i64 k])) (hT : Hid (Box w 3 bt #[.int .i64 t])) (zx : B ≤ bx) (zk : B ≤ bk) (zt : B ≤ bt) (L : List (List Int)) (HL : Hid (allL t k [] = L)) (hlen : L.length ≤ 5000) :
    Calls Tryd.prog 61 #[.func (.func 70) #[] #[.pointer (some ⟨bx, 0, none⟩), .pointer (some ⟨bk, 0, none⟩), .pointer (some ⟨bt, 0, none⟩)]] w fun e w' => ∃ a cp, e = .returned (.slice a L.length cp) ∧ Reads5 w' a (L.map pad5) ∧ Below B w w' := by
  go_enter Tryd.func61, Tryd.ntmps61
  go_wp2_with (go_at_call 69; refine (appendseq_any k t ht hk bx bk bt B _ hB hX.out hK.out hT.out zx zk zt L HL hlen).mono ?_; rintro e w1 ⟨a, cp, rfl, hR, hB1⟩)
  go_ret
  exact ⟨a, cp, rfl, hR, hB1⟩
end Go.Proofs.YtddackdghphcnaaDoor.s13

namespace Go.Proofs.YtddackdghphcnaaDoor.s13
set_option linter.unusedVariables false
set_option linter.unusedSimpArgs false
open Go.RowKit
open kit

theorem from_any (a b c d e t k : Int) (w : World) : Calls Tryd.prog 62 #[.agg #[.int .i64 a, .int .i64 b, .int .i64 c, .int .i64 d, .int .i64 e], .int .i64 t, .int .i64 k] w fun e' w' => e' = .returned (.func (.func 70) #[] #[.pointer (some ⟨w.heap.size, 0, none⟩), .pointer (some ⟨w.heap.size + 1 + 1, 0, none⟩), .pointer (some ⟨w.heap.size + 1, 0, none⟩)]) ∧ w' = ((w.alloc (.cells #[.int .i64 a, .int .i64 b, .int .i64 c, .int .i64 d, .int .i64 e] 25)).alloc (.cells #[.int .i64 t] 3)).alloc (.cells #[.int .i64 k] 3) :=
  (callsIn_wide (n := 6)).1 (from_in Fence.wide 6 trivial rfl a b c d e t k w)
set_option maxRecDepth 100000 in
set_option maxHeartbeats 2000000 in
theorem pall_terms (t k : Int) (w : World) (h : t < 1 ∨ 8 < t) : Calls Tryd.prog 35 #[.int .i64 t, .int .i64 k] w fun e w' => e = .returned (.tuple #[.slice none 0 0, .int .i64 2]) ∧ Below w.heap.size w w' := by
  go_enter Tryd.func35, Tryd.ntmps35
  go_wp2_with (go_at_call 50; refine (isterms_no t _ h).mono ?_; rintro e w1 ⟨rfl, rfl⟩)
  go_ret2
  exact ⟨rfl, Below.refl _ _⟩
set_option maxRecDepth 100000 in
set_option maxHeartbeats 2000000 in
theorem pall_len (t k : Int) (w : World) (h1 : 1 ≤ t) (h2 : t ≤ 8) (h : k < 0 ∨ 4 < k) : Calls Tryd.prog 35 #[.int .i64 t, .int .i64 k] w fun e w' => e = .returned (.tuple #[.slice none 0 0, .int .i64 2]) ∧ Below w.heap.size w w' := by
  go_enter Tryd.func35, Tryd.ntmps35
  go_wp2_with (first
    | (go_at_call 50; refine (isterms_yes t _ h1 h2).mono ?_; rintro e w1 ⟨rfl, rfl⟩)
    | (go_at_call 51; refine (islen_no k _ h).mono ?_; rintro e w1 ⟨rfl, rfl⟩))
  go_ret2
  exact ⟨rfl, Below.refl _ _⟩
set_option maxRecDepth 100000 in
set_option maxHeartbeats 4000000 in
theorem pall_ok (t k : Nat) (w : World) (h1 : 1 ≤ t) (h2 : t ≤ 8) (hk : k ≤ 4) (L : List (List Int)) (HL : Hid (allL t k [] = L)) : Calls Tryd.prog 35 #[.int .i64 t, .int .i64 k] w fun e w' => ∃ a cp, e = .returned (.tuple #[.slice a L.length cp, .int .i64 0]) ∧ Reads5 w' a (L.map pad5) ∧ Below w.heap.size w w' := by
  have t1 : (1 : Int) ≤ t := by omega
  have t2 : (t : Int) ≤ 8 := by omega
  have k1 : (0 : Int) ≤ k := by omega
  have k2 : (k : Int) ≤ 4 := by omega
  have hlen : Hid (L.length ≤ 5000) := Lib.hid (by
    have e1 := allL_len t k []
    have e2 := (cnt_le t t1 t2 k hk).2
    rw [HL.out] at e1
    omega)
  have X0 := Lib.hid (((Box.new w 25 #[.int .i64 0, .int .i64 0, .int .i64 0, .int .i64 0, .int .i64 0]).alloc (.cells #[.int .i64 t] 3)).alloc (.cells #[.int .i64 k] 3))
  have T0 := Lib.hid ((Box.new (w.alloc (.cells #[.int .i64 0, .int .i64 0, .int .i64 0, .int .i64 0, .int .i64 0] 25)) 3 #[.int .i64 t]).alloc (.cells #[.int .i64 k] 3))
  have K0 := Lib.hid (Box.new ((w.alloc (.cells #[.int .i64 0, .int .i64 0, .int .i64 0, .int .i64 0, .int .i64 0] 25)).alloc (.cells #[.int .i64 t] 3)) 3 #[.int .i64 k])
  have B0 := Lib.hid (((((Below.refl w.heap.size w).alloc (Nat.le_refl _) (.cells #[.int .i64 0, .int .i64 0, .int .i64 0, .int .i64 0, .int .i64 0] 25)).alloc (by simp) (.cells #[.int .i64 t] 3))).alloc (by simp; omega) (.cells #[.int .i64 k] 3))
  have hsz : Hid ((((w.alloc (.cells #[.int .i64 0, .int .i64 0, .int .i64 0, .int .i64 0, .int .i64 0] 25)).alloc (.cells #[.int .i64 t] 3)).alloc (.cells #[.int .i64 k] 3)).heap.size = w.heap.size + 3) := Lib.hid (by simp)
  have K0 : Hid (Box (((w.alloc (.cells #[.int .i64 0, .int .i64 0, .int .i64 0, .int .i64 0, .int .i64 0] 25)).alloc (.cells #[.int .i64 t] 3)).alloc (.cells #[.int .i64 k] 3)) 3 (w.heap.size + 1 + 1) #[.int .i64 k]) := Lib.hid (by have := K0.out; rwa [World.size_alloc, World.size_alloc] at this)
  have T0 : Hid (Box (((w.alloc (.cells #[.int .i64 0, .int .i64 0, .int .i64 0, .int .i64 0, .int .i64 0] 25)).alloc (.cells #[.int .i64 t] 3)).alloc (.cells #[.int .i64 k] 3)) 3 (w.heap.size + 1) #[.int .i64 t]) := Lib.hid (by have := T0.out; rwa [World.size_alloc] at this)
  obtain ⟨W7, hW7⟩ : ∃ W7, ((w.alloc (.cells #[.int .i64 0, .int .i64 0, .int .i64 0, .int .i64 0, .int .i64 0] 25)).alloc (.cells #[.int .i64 t] 3)).alloc (.cells #[.int .i64 k] 3) = W7 := ⟨_, rfl⟩
  have HW := Lib.hid hW7
  rw [hW7] at X0 T0 K0 B0 hsz
  have hf := from_any 0 0 0 0 0 t k w
  rw [hW7] at hf
  have hcl := Lib.hid (collect_any k t h2 hk w.heap.size (w.heap.size + 1 + 1) (w.heap.size + 1) w.heap.size W7 (by have := hsz.out; omega) (Lib.hid X0.out) K0 T0 (Nat.le_refl _) (by omega) (by omega) L HL hlen.out)
  have HF := Lib.hid hf
  clear hW7 hf
  go_enter Tryd.func35, Tryd.ntmps35
  go_wp2_with (first
    | (go_at_call 50; refine (isterms_yes t _ t1 t2).mono ?_; rintro e w1 ⟨rfl, rfl⟩)
    | (go_at_call 51; refine (islen_yes k _ k1 k2).mono ?_; rintro e w1 ⟨rfl, rfl⟩)
    | (go_at_call 62; refine HF.out.mono ?_; rintro e w1 ⟨rfl, rfl⟩)
    | (go_at_call 61; refine hcl.out.mono ?_; rintro e w2 ⟨a, cp, rfl, hR, hB⟩; have R2 := Lib.hid hR; have B2 := Lib.hid (B0.out.trans hB); clear hR hB))
  go_ret2
  exact ⟨a, cp, rfl, R2.out, B2.out⟩
/-- what All says -/
def allE (t k : Int) : List V5 × Int := if (t < 1 ∨ 8 < t) ∨ (k < 0 ∨ 4 < k) then ([], 2) else ((allL t.toNat k.toNat []).map pad5, 0)
theorem pall_any (t k : Int) (w : World) (L : List V5) (r : Int) (H : Hid (allE t k = (L, r))) : Calls Tryd.prog 35 #[.int .i64 t, .int .i64 k] w fun e w' => ∃ a cp, e = .returned (.tuple #[.slice a L.length cp, .int .i64 r]) ∧ Reads5 w' a L ∧ Below w.heap.size w w' := by
  have h := H.out
  unfold allE at h
  by_cases h1 : t < 1 ∨ 8 < t
  · rw [if_pos (.inl h1)] at h; cases h
    exact (pall_terms t k w h1).mono fun e w' ⟨e1, e2⟩ => ⟨none, 0, e1, Reads5.nil _ _, e2⟩
  · by_cases h2 : k < 0 ∨ 4 < k
    · rw [if_pos (.inr h2)] at h; cases h
      exact (pall_len t k w (by omega) (by omega) h2).mono fun e w' ⟨e1, e2⟩ => ⟨none, 0, e1, Reads5.nil _ _, e2⟩
    · rw [if_neg (by omega)] at h; cases h
      obtain ⟨T, rfl⟩ : ∃ T : Nat, t = T := ⟨t.toNat, by omega⟩
      obtain ⟨K, rfl⟩ : ∃ K : Nat, k = K := ⟨k.toNat, by omega⟩
      rw [Int.toNat_natCast, Int.toNat_natCast]
      refine (pall_ok T K w (by omega) (by omega) (by omega) _ (Lib.hid rfl)).mono ?_
      rintro e w' ⟨a, cp, e1, e2⟩
      exact ⟨a, cp, by rw [List.length_map]; exact e1, e2⟩
end Go.Proofs.YtddackdghphcnaaDoor.s13

namespace Go.Proofs.YtddackdghphcnaaDoor.kit
set_option linter.unusedVariables false
set_option linter.unusedSimpArgs false
set_option linter.unnecessarySimpa false
open Go Go.RowKit
section
variable {P : Program} {l : List Oper}
/-- what is known of the frame behind a region -/
structure Behind (l : List Oper) (S : List Sp) (a A : Act) : Prop where
  size : A.tmps.size = a.tmps.size
  defers : A.defers = a.defers
  old : ∀ t : Tmp, (l.all fun x => x.dst != some t) = true → A.eval (.tmp t) = a.eval (.tmp t)
  con : ∀ (i : Nat) (d : Tmp) (c : Value), dstOf l[i]? = some d → conOf S[i]? = some c → A.eval (.tmp d) = c
theorem conOf_some {s : Option Sp} {c : Value} (h : conOf s = some c) : s = some (.con c) := by
  cases s with
  | none => cases h
  | some s => cases s <;> simp [conOf] at h; rw [h]
theorem dstOf_some {o : Option Oper} {d : Tmp} (h : dstOf o = some d) : ∃ x, o = some x ∧ x.dst = some d := by
  cases o with
  | none => cases h
  | some x => exact ⟨x, rfl, h⟩
theorem wp_region_drawn {id : Nat} {Q : Exit → Act → World → Prop} {a : Act} {w : World} (S : List Sp) (hm : P.follows .mixedOrders = true) (hB : fitB l a.tmps.size = true) (hK : ∀ s ∈ S, s.Keeps)
    (hS : stepsOk P l S a w l S) (hQ : ∀ A w', Below w.heap.size w w' → Behind l S a A → Q .normal A w') : (Code.region id l.toArray true).wp P Q a w := by
  refine wp_region_specs S hm hB hK hS fun vs w' hb hv => hQ _ _ hb ?_
  have hF := fit_of hB
  obtain ⟨s1, s2⟩ := size_putAll vs l 0 a
  refine ⟨s1, s2, fun t ht => (eval_putAll vs t l 0 a hF.lies).1 fun i x hx => ?_, fun i d c hd hc => ?_⟩
  · rw [List.all_eq_true] at ht
    simpa using ht x (List.mem_of_getElem? hx)
  · obtain ⟨x, hx, hxd⟩ := dstOf_some hd
    have e := (eval_putAll vs d l 0 a hF.lies).2 i x hx hxd fun j y hij hy => hF.once i j x y hij hx hy d hxd
    rw [e, Nat.zero_add]
    exact hv i _ (conOf_some hc)
theorem wpList_of_specs {S : List Sp} {a : Act} {w0 : World} {Q : Exit → Act → World → Prop} (hK : ∀ s ∈ S, s.Keeps) (hF : Fit l a.tmps.size) (hS : stepsOk P l S a w0 l S)
    (hQ : ∀ A w', Below w0.heap.size w0 w' → Behind l S a A → Q .normal A w') :
    ∀ (r : List Oper) (j : Nat) (listed : Array Bool) (vs : Nat → Value) (A : Act) (w : World), r = l.drop j → j ≤ l.length → listed.size = l.length → (∀ i, i < l.length → listed.getD i false = decide (i < j)) → In l S a w0 listed vs A w → wpList P l.toArray Q r A w := by
  obtain ⟨hlen, hat⟩ := stepsOk_at hS
  intro r
  induction r with
  | nil =>
    intro j listed vs A w hr hj hsz hls hI
    have hjl : j = l.length := by
      have := congrArg List.length hr
      rw [List.length_drop] at this
      simp at this; omega
    refine hQ A w hI.below ⟨hI.size, hI.defers, fun t ht => hI.rest t fun i o ho _ => ?_, fun i d c hd hc => ?_⟩
    · rw [List.all_eq_true] at ht
      simpa using ht o (List.mem_of_getElem? ho)
    · obtain ⟨x, hx, hxd⟩ := dstOf_some hd
      have hil := (List.getElem?_eq_some_iff.1 hx).1
      obtain ⟨h1, h2⟩ := hI.done i x _ hx (conOf_some hc) (by rw [hls i hil]; simp; omega)
      rw [h2 d hxd]; exact h1
  | cons o r ih =>
    intro j listed vs A w hr hj hsz hls hI
    have hjl : j < l.length := by
      have := congrArg List.length hr
      rw [List.length_drop] at this
      simp at this; omega
    have ho : l[j]? = some o := by
      have h := List.drop_eq_getElem_cons hjl
      rw [← hr] at h
      injection h with h1 h2
      rw [List.getElem?_eq_getElem hjl, h1]
    have hr2 : r = l.drop (j + 1) := by
      have h := List.drop_eq_getElem_cons hjl
      rw [← hr] at h
      injection h with h1 h2
    have hun : listed.getD j true = false := by
      have h := hls j hjl
      have hjs : j < listed.size := by omega
      simp [hjs] at h ⊢; exact h
    have hin : j ∈ Region.ready .any l.toArray listed := mem_ready.2 ⟨by
        have hjs : j < listed.size := by omega
        simpa [hjs] using hun, o, by simpa using ho, fun ed hed hb => by
        have hlt := hF.back j _ ho ed hed hb
        rw [hls _ (by omega)]; simpa using hlt⟩
    obtain ⟨s, hs, hstep⟩ := hat j o ho
    have hst := hstep A w hI.below (pre_of hI hin ho)
    have hgo : ∀ v w', Below w.heap.size w w' → s.Ok v w' → wpList P l.toArray Q r (A.put o.dst v) w' := fun v w' hB hv =>
      ih (j + 1) _ _ _ _ hr2 (by omega) (by simpa using hsz) (fun i hi => by
        have h := hls i hi
        have his : i < listed.size := by omega
        by_cases e : i = j
        · subst e; simp [his]
        · simp [Array.getElem?_setIfInBounds, his, Ne.symm e] at h ⊢
          rw [h]; apply Bool.eq_iff_iff.2; simp; omega) (hI.next hK hF ho hs hun hB hv)
    unfold wpList
    rcases hst with ⟨hw, h⟩ | ⟨hw, h⟩
    · rw [if_pos hw]
      exact .inl (wp_of_spec h hgo)
    · rw [if_neg (by rw [hw]; exact Bool.false_ne_true)]
      exact hgo _ _ (Below.refl _ _) h
theorem wp_region_inText {id : Nat} {Q : Exit → Act → World → Prop} {a : Act} {w : World} (S : List Sp) (hB : fitB l a.tmps.size = true) (hK : ∀ s ∈ S, s.Keeps)
    (hS : stepsOk P l S a w l S) (hQ : ∀ A w', Below w.heap.size w w' → Behind l S a A → Q .normal A w') : (Code.region id l.toArray false).wp P Q a w := by
  refine wp_region_lit ?_
  refine wpList_of_specs hK (fit_of hB) hS hQ l 0 (Array.replicate l.length false) (fun _ => undef) a w (by simp) (by omega) (by simp) (fun i hi => by simp [hi]) ⟨Below.refl _ _, rfl, rfl, fun i o s ho hs hl => ?_, fun t _ => rfl⟩
  have := (List.getElem?_eq_some_iff.1 ho).1
  simp [this] at hl
variable {S : List Sp} {a A : Act} {o : Oper} {w : World}
def guardNo (l : List Oper) (S : List Sp) (o : Oper) : Bool :=
  match o.guard with
  | none => false
  | some (j, b) => match dstOf l[j]? with
    | some d => match lookAt l S o (.tmp d) with
      | some (.bool c) => c != b
      | _ => false
    | none => false
theorem step_skip (h : Pre l S a o A w) (hg : guardNo l S o = true) : stepOk P l o A w (.con undef) := by
  refine .inr ⟨?_, rfl⟩
  unfold guardNo at hg
  unfold Region.wanted
  cases ho : o.guard with
  | none => rw [ho] at hg; cases hg
  | some p =>
    obtain ⟨j, b⟩ := p
    rw [ho] at hg
    simp only at hg ⊢
    cases hd : dstOf l[j]? with
    | none => rw [hd] at hg; cases hg
    | some d =>
      rw [hd] at hg
      simp only at hg
      cases hl : lookAt l S o (.tmp d) with
      | none => rw [hl] at hg; cases hg
      | some v =>
        rw [hl] at hg
        have he := lookAt_eval h hl
        cases v <;> simp at hg
        rename_i c
        have hj : (l[j]?).bind (·.dst) = some d := by
          obtain ⟨x, hx, hxd⟩ := dstOf_some hd
          rw [hx]; exact hxd
        have ht : A.tmps[d]? = some (.bool c) := by
          simp only [Act.eval] at he
          cases hq : A.tmps[d]? with
          | none => simp [Array.getD_eq_getD_getElem?, hq, undef] at he
          | some v => simp [Array.getD_eq_getD_getElem?, hq] at he; rw [he]
        unfold yielded
        simp only [List.getElem?_toArray, hj, Option.bind_some, ht]
        simpa using hg
theorem step_un (h : Pre l S a o A w) (hg : guardB l S o = true) (op : UnOp) (t : TypeId) (x : Operand) (u : Value) {c : Value} (hop : o.op = .unOp op t x) (hx : lookAt l S o x = some u) (hr : (Op.unary op u).run P w = .ok c w) : stepOk P l o A w (.con c) :=
  step_of h hg (spec_val (u := c) (by
    have e1 := lookAt_eval h hx
    unfold execOp; rw [hop]
    simp only [e1, Sem.run_bind, hr, Result.andThen_ok]; rfl) rfl)
theorem step_field (h : Pre l S a o A w) (hg : guardB l S o = true) (t : TypeId) (x : Operand) (i : Nat) (u : Value) {c : Value} (hop : o.op = .fieldAddr t x i) (hx : A.eval x = u) (hr : (Instr.fieldAt t u i).run P w = .ok c w) : stepOk P l o A w (.con c) :=
  step_of h hg (spec_val (u := c) (by
    unfold execOp; rw [hop]
    simp only [hx, Sem.run_bind, hr, Result.andThen_ok]; rfl) rfl)
theorem step_min (h : Pre l S a o A w) (hg : guardB l S o = true) (x y : Operand) (ts : Array TypeId) (u v : Value) {c : Value} (hop : o.op = .call { callee := .builtin .min, args := #[x, y], argTypes := ts }) (hx : lookAt l S o x = some u) (hy : lookAt l S o y = some v) (hr : (Builtin.min_ ts o.type #[u, v]).run P w = .ok c w) : stepOk P l o A w (.con c) :=
  step_of h hg (spec_val (u := c) (by
    have e := lookAt_eval h hx
    have e' := lookAt_eval h hy
    obtain ⟨dst, op, ty, pos, aft, gd⟩ := o
    simp only at hop hr
    subst hop
    have e2 : (#[x, y].map A.eval) = #[u, v] := by simp only [List.map_toArray, List.map_cons, List.map_nil, e, e']
    rw [BigFrame.execOp_builtin, BigFrame.builtin_min, e2]
    simp only [Sem.run_bind, hr, Result.andThen_ok]; rfl) rfl)
theorem step_len (h : Pre l S a o A w) (hg : guardB l S o = true) (x : Operand) (ts : Array TypeId) (p : Option Addr) (n cp : Nat) (hop : o.op = .call { callee := .builtin .len, args := #[x], argTypes := ts }) (hx : lookAt l S o x = some (.slice p n cp)) (hr : (Builtin.len_ ts o.type #[Value.slice p n cp]).run P w = .ok (.int .i64 n) w) : stepOk P l o A w (.con (.int .i64 n)) :=
  step_of h hg (spec_val (u := .int .i64 n) (by
    have e := lookAt_eval h hx
    obtain ⟨dst, op, ty, pos, aft, gd⟩ := o
    simp only at hop hr
    subst hop
    have e2 : (#[x].map A.eval) = #[Value.slice p n cp] := by simp only [List.map_toArray, List.map_cons, List.map_nil, e]
    rw [BigFrame.execOp_builtin, BigFrame.builtin_len, e2]
    simp only [Sem.run_bind, hr, Result.andThen_ok]; rfl) rfl)
theorem step_idx (h : Pre l S a o A w) (hg : guardB l S o = true) (t : TypeId) (x y : Operand) (u v : Value) {c : Value} (hop : o.op = .indexAddr t x y) (hx : lookAt l S o x = some u) (hy : lookAt l S o y = some v) (hr : (Instr.indexAt t u v).run P w = .ok c w) : stepOk P l o A w (.con c) :=
  step_of h hg (spec_val (u := c) (by
    have e1 := lookAt_eval h hx
    have e2 := lookAt_eval h hy
    unfold execOp; rw [hop]
    simp only [e1, e2, Sem.run_bind, hr, Result.andThen_ok]; rfl) rfl)
end
end Go.Proofs.YtddackdghphcnaaDoor.kit

namespace Go.Proofs.YtddackdghphcnaaDoor.s13
set_option linter.unusedVariables false
set_option linter.unusedSimpArgs false
open Go.RowKit
open kit

theorem at5_of {w : World} {b o : Nat} {l : List V5} (h : Reads5 w (some ⟨b, o, none⟩) l) (i : Nat) (hi : i < l.length) {x : V5} (hx : l[i]?.getD no5 = x) : At5 w b (o + i * 5) x := by
  obtain ⟨b', o', e, _, h5⟩ := h i hi
  cases e
  rw [hx] at h5
  exact h5
theorem load_at5 {w : World} {b o : Nat} {n x y z u : Int} (h : At5 w b o (n, x, y, z, u)) : (Instr.loadAt 25 (.pointer (some ⟨b, o, none⟩))).run Tryd.prog w = .ok (.agg #[.int .i64 n, .int .i64 x, .int .i64 y, .int .i64 z, .int .i64 u]) w := by
  obtain ⟨z0, z1, z2, z3, z4⟩ := h
  simp only at z0 z1 z2 z3 z4
  simp [go_sem, z0, z1, z2, z3, z4]
theorem idx5_0 (b o c : Nat) (w : World) : (Instr.indexAt 48 (.slice (some ⟨b, o, none⟩) 3 c) (.int .i64 0)).run Tryd.prog w = .ok (.pointer (some ⟨b, o + 0 * 5, none⟩)) w := by simp [go_sem]
theorem idx5_1 (b o c : Nat) (w : World) : (Instr.indexAt 48 (.slice (some ⟨b, o, none⟩) 3 c) (.int .i64 1)).run Tryd.prog w = .ok (.pointer (some ⟨b, o + 1 * 5, none⟩)) w := by simp [go_sem]
theorem idx5_2 (b o c : Nat) (w : World) : (Instr.indexAt 48 (.slice (some ⟨b, o, none⟩) 3 c) (.int .i64 2)).run Tryd.prog w = .ok (.pointer (some ⟨b, o + 2 * 5, none⟩)) w := by simp [go_sem]
theorem spS_keeps {l : List Sp} (h : ∀ s ∈ l, (∃ c, s = .con c) ∨ ∃ xs, s = SlI xs) : ∀ s ∈ l, s.Keeps := by
  intro s hs
  rcases h s hs with ⟨c, rfl⟩ | ⟨xs, rfl⟩
  · exact con_keeps c
  · exact SlI.keeps xs
end Go.Proofs.YtddackdghphcnaaDoor.s13
