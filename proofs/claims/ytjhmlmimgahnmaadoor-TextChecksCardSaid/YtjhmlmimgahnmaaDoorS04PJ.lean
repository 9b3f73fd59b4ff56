/-
  Layer 4, the program's side: Lexemes.
-/
import Derived.Test.YtjhmlmimgahnmaaDoorS04PI
namespace Go.Proofs.YtjhmlmimgahnmaaDoor.s04
set_option linter.unusedVariables false
set_option linter.unusedSimpArgs false
open Go.RowKit Go.Shelf
open kit
attribute [local go_sem] Oper.semAt_some

theorem lexIt_seq (n : Nat) (hn : 2 ≤ n) (Bn : Nat) (s : ByteArray) (hs : s.size ≤ 100000) (w : World) (hb : Bn < w.heap.size) (hB : w.cell? ⟨Bn, 0, none⟩ = some (.string s)) :
    SeqQ Fence.wide n Tryd.prog 38 #[.pointer (some ⟨Bn, 0, none⟩)] encY isR KpL (EndsAt s) (StopsAt s) (s.size + 1) w := fun l J Jx W hW hJ _ hY h0 =>
  lexIt_in n hn l Bn s hs J Jx W hJ hY ((hW.cell (p := ⟨Bn, 0, none⟩) hb).trans hB) h0
/-- none of them bears a fault -/
def clean (l : List Yl) : Prop := ∀ y ∈ l, y.2.1 = 0
theorem box_q {W W' : World} {t : TypeId} {b : Nat} {xs : Array Value} {row : Option Nat} (h : Box W t b xs) (ht : t ≠ 61) (hg : W.grownBy W' row) (hr : ∀ r, row = some r → ∃ o : Obj, W.heap[r]? = some o ∧ (o.isCells = false ∨ isR o)) : Box W' t b xs :=
  h.grown hg fun e => by
    obtain ⟨o, ho, hq⟩ := hr b e
    rw [show W.heap[b]? = _ from h] at ho
    cases ho
    rcases hq with hq | ⟨cs, fz, hq⟩
    · cases hq
    · cases hq; exact ht rfl
theorem row_q {W W' : World} {B k : Nat} {v : Value} {xs : List Value} {row : Option Nat} (h : W.ownsRow B 23 3 v k xs) (hg : W.grownBy W' row) (hr : ∀ r, row = some r → ∃ o : Obj, W.heap[r]? = some o ∧ (o.isCells = false ∨ isR o)) : W'.ownsRow B 23 3 v k xs := by
  refine h.kept hg ?_
  rcases h.2 with ⟨rfl, _⟩ | ⟨g, cap, cur, rfl, _, hgb, _⟩
  · exact .inl rfl
  · refine .inr fun e => ?_
    obtain ⟨o, ho, hq⟩ := hr g e.symm
    rw [hgb] at ho
    cases ho
    rcases hq with hq | ⟨cs, fz, hq⟩
    · cases hq
    · cases hq
/-- what the loop keeps: the list so far in its variable, and both results as they were -/
def Col (w : World) (pre : List Yl) (W : World) : Prop :=
  ((∃ v, Box W 24 (w.heap.size + 2) #[v] ∧ W.ownsRow (w.heap.size + 4) 23 3 v pre.length (flatL (lisY pre))) ∧ clean pre) ∧
  (Box W 24 w.heap.size #[.slice none 0 0] ∧ Box W 37 (w.heap.size + 1) #[.int .i64 0, .int .i64 0]) ∧ Below w.heap.size w W ∧ w.heap.size + 4 ≤ W.heap.size
def ColX (w : World) (c : Code) (pre : List Yl) (W : World) : Prop :=
  (c = .ret ∧ ∃ p2 y, pre = p2 ++ [y] ∧ y.2.1 ≠ 0 ∧ Box W 24 w.heap.size #[.slice none 0 0] ∧ Box W 37 (w.heap.size + 1) #[.int .i64 (y.2.1 : Int), .int .i64 (y.2.2 : Int)]) ∧ Below w.heap.size w W ∧ w.heap.size + 4 ≤ W.heap.size
theorem below_q {B B' : Nat} {w W W' : World} {row : Option Nat} (h : Below B w W) (hB : B ≤ B') (hBW : B ≤ W.heap.size) (hg : W.grownBy W' row) (hr : ∀ r, row = some r → B' ≤ r) : Below B w W' := h.grown hg hBW fun k e => Nat.le_trans hB (hr k e)
theorem col_own (w : World) (B : Nat) (hB : w.heap.size ≤ B) : OwnQ isR B (Col w) := by
  rintro pre W W' row ⟨⟨⟨v, hv, hrow⟩, hc⟩, ⟨hx, hy⟩, hb, hs⟩ hg hr
  have hr2 : ∀ r, row = some r → ∃ o : Obj, W.heap[r]? = some o ∧ (o.isCells = false ∨ isR o) := fun r e => (hr r e).2
  exact ⟨⟨⟨v, box_q hv (by decide) hg hr2, row_q hrow hg hr2⟩, hc⟩, ⟨box_q hx (by decide) hg hr2, box_q hy (by decide) hg hr2⟩, below_q hb hB (by omega) hg (fun r e => (hr r e).1), Nat.le_trans hs hg.size⟩
theorem colX_own (w : World) (B : Nat) (hB : w.heap.size ≤ B) (c : Code) : OwnQ isR B (ColX w c) := by
  rintro pre W W' row ⟨⟨hc, p2, y, hp, h0, hx, hy⟩, hb, hs⟩ hg hr
  have hr2 : ∀ r, row = some r → ∃ o : Obj, W.heap[r]? = some o ∧ (o.isCells = false ∨ isR o) := fun r e => (hr r e).2
  exact ⟨⟨hc, p2, y, hp, h0, box_q hx (by decide) hg hr2, box_q hy (by decide) hg hr2⟩, below_q hb hB (by omega) hg (fun r e => (hr r e).1), Nat.le_trans hs hg.size⟩
/-- the loop's variables lie in blocks of their own -/
def Vars (w : World) (s : ByteArray) (y : Yl) (a' : Act) (W : World) : Prop :=
  ∃ b5 b6, w.heap.size + 4 ≤ b5 ∧ w.heap.size + 4 ≤ b6 ∧ Box W 23 b5 #[.int .i64 (y.1.1 : Int), .string y.1.2.1, .int .i64 (y.1.2.2 : Int)] ∧ Box W 37 b6 #[.int .i64 (y.2.1 : Int), .int .i64 (y.2.2 : Int)] ∧
    a' = { tmps := #[.string s, undef, .pointer (some ⟨w.heap.size, 0, none⟩), .pointer (some ⟨w.heap.size + 1, 0, none⟩), .pointer (some ⟨w.heap.size + 1 + 1, 0, none⟩), .pointer (some ⟨b5, 0, none⟩), .pointer (some ⟨b6, 0, none⟩), .string s, .int .i64 (s.size : Int), .bool false, undef, .string s, .func (.func 38) #[] #[.pointer (some ⟨w.heap.size + 1 + 1 + 1, 0, none⟩)], lexV y.1, .agg #[.int .i64 (y.2.1 : Int), .int .i64 (y.2.2 : Int)], undef, undef, undef, undef, undef, undef, undef, undef, undef, undef], defers := [] }
theorem vars_own (w : World) (s : ByteArray) (B : Nat) (y : Yl) (a' : Act) : OwnQ isR B (fun (_ : Unit) W => Vars w s y a' W) := by
  rintro _ W W' row ⟨b5, b6, h5, h6, hx, hy, ha⟩ hg hr
  have hr2 : ∀ r, row = some r → ∃ o : Obj, W.heap[r]? = some o ∧ (o.isCells = false ∨ isR o) := fun r e => (hr r e).2
  exact ⟨b5, b6, h5, h6, box_q hx (by decide) hg hr2, box_q hy (by decide) hg hr2, ha⟩
theorem lisY_snoc (pre : List Yl) (y : Yl) : lisY (pre ++ [y]) = lisY pre ++ [((y.1.1 : Int), y.1.2.1, (y.1.2.2 : Int))] := by
  unfold lisY; rw [List.map_append]; rfl
theorem append_lexIn {F : Fence} {n : Nat} {T : TypeId} (hT : Tryd.prog.underlying T = some (.slice 23))
    {w : World} {ops : Array Oper} {rest : List Oper} {o : Oper} {a : Act} {Q : Exit → Act → World → Prop}
    (hg : o.guard = none) (s x : Operand) (hop : o.op = Op.call { callee := Callee.builtin Builtin.append, args := #[s, x], argTypes := #[T, T] })
    (base : Nat) (v : Value) (k : Nat) (xs : List Li) (hs : a.eval s = v) (hown : w.ownsRow base 23 3 v k (flatL xs)) (ad : Addr) (vs : List Li) (m c : Nat) (hx : a.eval x = .slice (some ad) m c) (hn : vs.length = m)
    (hsrc : ∀ j u, (flatL vs)[j]? = some u → w.cell? (ad.add j) = some u)
    (hk : k + m ≤ 1000000) (hb : base ≤ w.heap.size)
    (hK : ∀ v' w', w'.ownsRow base 23 3 v' (k + m) (flatL (xs ++ vs)) → w.grownBy w' v.ownBlock → wpListIn F n Tryd.prog ops Q rest (a.put o.dst v') w') :
    wpListIn F n Tryd.prog ops Q (o :: rest) a w := by
  obtain ⟨i0, hi, hz0, hz1, hz2⟩ := info_parts infoL
  subst hn
  refine wpListIn_append_own w hg s x T hop base 23 i0 (.agg #[.int .i64 0, .string ⟨#[]⟩, .int .i64 0]) 3 32 hT hi hz0 hz1 hz2 rfl (by decide) v k _ hs hown ad vs.length c (flatL vs) hx (flatL_len vs) hsrc ?_ (by unfold maxLen; omega) (by omega) hb fun v' w' h1 h2 _ => hK v' w' (by rw [flatL_app]; exact h1) h2
  intro u hu
  unfold flatL at hu
  obtain ⟨y, _, hy⟩ := List.mem_flatMap.1 hu
  unfold cellsL at hy
  simp only [List.mem_cons, List.not_mem_nil, or_false] at hy
  rcases hy with rfl | rfl | rfl <;> rfl
theorem src_new1 (w : World) (E : TypeId) (x : Li) : ∀ j u, (flatL [x])[j]? = some u → (w.alloc (.cells #[.int .i64 x.1, .string x.2.1, .int .i64 x.2.2] E)).cell? ((⟨w.heap.size, 0, none⟩ : Addr).add j) = some u :=
  fun j u hu => src_new w E x j u (by rw [flatL_one] at hu; exact hu)
theorem row3_shape {W : World} {B E k : Nat} {v : Value} {xs : List Value} (h : W.ownsRow B E 3 v (k + 1) xs) : ∃ g cap, v = .slice (some ⟨g, 0, none⟩) (k + 1) cap := by
  rcases h.2 with ⟨_, h0⟩ | ⟨g, cap, _, rfl, _⟩
  · omega
  · exact ⟨g, cap, rfl⟩
theorem KpL.refl (W : World) : KpL W W := fun _ _ _ _ hb _ _ => hb
theorem KpL.alloc (W : World) (o : Obj) : KpL W (W.alloc o) := fun b cs t fz hb _ _ => (Below.heap_alloc W o b (Array.getElem?_eq_some_iff.1 hb).1).trans hb
theorem KpL.grown {W W' : World} {row : Option Nat} (hg : W.grownBy W' row) (hr : ∀ r, row = some r → ∃ cs t fz, W.heap[r]? = some (.cells cs t fz) ∧ (t = 23 ∨ t = 24)) : KpL W W' := fun b cs t fz hb h1 h2 => by
  refine (hg.block b (Array.getElem?_eq_some_iff.1 hb).1 fun e => ?_).trans hb
  obtain ⟨cs', t', fz', hb', ht⟩ := hr b e.symm
  rw [hb] at hb'
  cases hb'
  rcases ht with rfl | rfl
  · exact h1 rfl
  · exact h2 rfl
theorem own_cells {W : World} {B k : Nat} {v : Value} {xs : List Value} (h : W.ownsRow B 23 3 v k xs) : ∀ r, v.ownBlock = some r → ∃ cs t fz, W.heap[r]? = some (.cells cs t fz) ∧ (t = 23 ∨ t = 24) := by
  intro r hr
  rcases h.2 with ⟨rfl, _⟩ | ⟨g, cap, cur, rfl, _, hgb, _⟩
  · cases hr
  · cases hr; exact ⟨_, _, _, hgb, .inl rfl⟩
theorem keeps_grown {B : Nat} {W W' : World} {row : Option Nat} (hg : W.grownBy W' row) (hr : ∀ r, row = some r → ∃ cs t fz, W.heap[r]? = some (.cells cs t fz)) : KeepsFrom B W W' :=
  ⟨hg.size, fun k o _ hk ho => (hg.block k (Array.getElem?_eq_some_iff.1 hk).1 fun e => by
    obtain ⟨cs, t, fz, h⟩ := hr k e.symm
    rw [hk] at h
    cases h
    cases ho).trans hk⟩
theorem box_put {W : World} {t : TypeId} {b : Nat} {xs : Array Value} (h : Box W t b xs) (D : Nat) (o : Obj) (hne : b ≠ D) : Box (W.putObj D o) t b xs := h.grown (grownBy_putObj' W D o) (fun e => by cases e; exact hne rfl)
theorem row_put3 {W : World} {B k D : Nat} {v : Value} {xs : List Value} (hr : W.ownsRow B 23 3 v k xs) (hK : W.heap[D]? = some (.deferred (some []))) (o : Obj) : (W.putObj D o).ownsRow B 23 3 v k xs :=
  row_q hr (grownBy_putObj' W D o) (fun r e => by cases e; exact ⟨_, hK, .inl rfl⟩)
theorem plex_results (tm : Array Value) (W : World) (b1 b2 : Nat) {v u z : Value} (h2 : tm.getD 2 undef = .pointer (some ⟨b1, 0, none⟩)) (h3 : tm.getD 3 undef = .pointer (some ⟨b2, 0, none⟩))
    (X : Box W 24 b1 #[v]) (Y : Box W 37 b2 #[u, z]) : (results Tryd.f18 tm).run Tryd.prog W = .ok (.tuple #[v, .agg #[u, z]]) W := by
  have c0 : W.cell? ⟨b1, 0, none⟩ = some v := X.cell 0
  obtain ⟨d0, d1⟩ := Y.cell2
  simp only [Array.getD_eq_getD_getElem?] at h2 h3
  simp [results, Tryd.results18, go_sem, h2, h3, c0, d0, d1]
set_option maxRecDepth 100000 in
set_option maxHeartbeats 2000000 in
theorem plex_in (n : Nat) (hn : 3 ≤ n) (s : ByteArray) (w : World) (hs : s.size ≤ 2000) (L : List Li) (er p : Nat) (H : Hid (lexAll s = (L, er, p))) :
    CallsIn Fence.wide n Tryd.prog 18 #[.string s] w (LexsTo w L er p) := by
  have d1 : decide (2000 < (s.size : Int)) = false := decide_eq_false (by omega)
  have b0 := Lib.hid ((((Box.new w 24 #[.slice none 0 0]).alloc (.cells #[.int .i64 0, .int .i64 0] 37)).alloc (.cells #[.slice none 0 0] 24)).alloc (.cells #[.string s] 9))
  have b1 := Lib.hid (((Box.new2 w (.cells #[.slice none 0 0] 24) 37 #[.int .i64 0, .int .i64 0]).alloc (.cells #[.slice none 0 0] 24)).alloc (.cells #[.string s] 9))
  have b2 : Hid (Box _ 24 (w.heap.size + 2) #[.slice none 0 0]) := Lib.hid ((by
    have h := Box.new ((w.alloc (.cells #[.slice none 0 0] 24)).alloc (.cells #[.int .i64 0, .int .i64 0] 37)) 24 #[.slice none 0 0]
    rw [two_size] at h
    exact h : Box (((w.alloc (.cells #[.slice none 0 0] 24)).alloc (.cells #[.int .i64 0, .int .i64 0] 37)).alloc (.cells #[.slice none 0 0] 24)) 24 (w.heap.size + 2) #[.slice none 0 0]).alloc (.cells #[.string s] 9))
  have hsz : ((((w.alloc (.cells #[.slice none 0 0] 24)).alloc (.cells #[.int .i64 0, .int .i64 0] 37)).alloc (.cells #[.slice none 0 0] 24)).alloc (.cells #[.string s] 9)).heap.size = w.heap.size + 4 := by simp
  have b3 : Hid (Box ((((w.alloc (.cells #[.slice none 0 0] 24)).alloc (.cells #[.int .i64 0, .int .i64 0] 37)).alloc (.cells #[.slice none 0 0] 24)).alloc (.cells #[.string s] 9)) 9 (w.heap.size + 1 + 1 + 1) #[.string s]) := Lib.hid (by
    have h := Box.new (((w.alloc (.cells #[.slice none 0 0] 24)).alloc (.cells #[.int .i64 0, .int .i64 0] 37)).alloc (.cells #[.slice none 0 0] 24)) 9 #[.string s]
    rw [World.size_alloc, two_size] at h
    exact h)
  have hB0 := Lib.hid (((((Below.refl w.heap.size w).alloc (Nat.le_refl _) (.cells #[.slice none 0 0] 24)).alloc (by simp) (.cells #[.int .i64 0, .int .i64 0] 37)).alloc (by simp; omega) (.cells #[.slice none 0 0] 24)).alloc (by simp; omega) (.cells #[.string s] 9))
  refine callsIn_of_wp_marks Tryd.func18 rfl trivial ?_ rfl
  simp only [Tryd.ntmps18, List.size_toArray, List.length_cons, List.length_nil, Nat.reduceAdd, Nat.reduceSub, Array.replicate_succ, Array.replicate_zero, List.push_toArray, List.append_toArray, List.nil_append, List.cons_append]
  gi_wp2_with (refine ⟨trivial, fun _ => by omega, ?_⟩; refine (lexemes_any Fence.wide (n - 1) trivial rfl s _).mono ?_; rintro e w1 ⟨rfl, rfl⟩)
  generalize (((w.alloc (.cells #[.slice none 0 0] 24)).alloc (.cells #[.int .i64 0, .int .i64 0] 37)).alloc (.cells #[.slice none 0 0] 24)).alloc (.cells #[.string s] 9) = W0 at b0 b1 b2 b3 hB0 hsz ⊢
  refine wpIn_rangeFunc_ownQ rfl (by omega) (gf := 38) (lb := #[.pointer (some ⟨w.heap.size + 1 + 1 + 1, 0, none⟩)]) rfl trivial (enters_of Tryd.func38 (by kernel_rfl) rfl)
    (fun r => by rintro ⟨_, _, h⟩; cases h) (fun r => by rintro ⟨_, _, h⟩; cases h)
    (lexIt_seq (n - 1) (by omega) (w.heap.size + 1 + 1 + 1) s (by omega) W0 b3.out.lt (b3.out.cell 0)) KpL.trans (fun W l o o' _ hl ho => KpL.put W l o o' hl ho) (Below.refl _ _) (fun _ => rfl)
    (Col w) (ColX w) (col_own w _ (by omega)) (colX_own w _ (by omega))
    ⟨⟨⟨_, b2.out, World.ownsRow_nil _ _ _ _⟩, fun y hy => by cases hy⟩, ⟨b0.out, b1.out⟩, hB0.out, by omega⟩
    (Vars w s) (fun x a' => vars_own w s _ x a') ?assign ?body ?done ?stop
  case assign =>
    rintro l pre ⟨⟨kd, tx, pl⟩, e1, a1⟩ W K hi hK
    gi_wp2
    exact hK _ _ (((KeepsOthers.alloc _ _).trans (KeepsOthers.alloc _ _)).from _) ((KpL.alloc _ _).trans (KpL.alloc _ _)) ((col_own w W0.heap.size (by omega)).alloc _ ((col_own w W0.heap.size (by omega)).alloc _ hi)) ⟨W.heap.size, W.heap.size + 1, hi.2.2.2, (Nat.le_succ_of_le hi.2.2.2), (Box.new W _ _).alloc _, Box.new2 W _ _ _, rfl⟩
  case body =>
    rintro l pre ⟨⟨kd, tx, pl⟩, e1, a1⟩ a' W hcol ⟨b5, b6, h5, h6, hx, hy, rfl⟩ hlt
    obtain ⟨x0, x1, x2⟩ := hx.cell3
    obtain ⟨y0, y1⟩ := hy.cell2
    have HC := Lib.hid hcol
    obtain ⟨⟨⟨v, hv, hrow⟩, hc⟩, ⟨hr0, hr1⟩, hb, hs⟩ := hcol
    by_cases h0 : e1 = 0
    · have t0 : ((e1 : Int) != 0) = false := by rw [bne_eq_false_iff_eq]; omega
      have HZ := Lib.hid h0
      obtain ⟨v0, _⟩ := show W.cell? ⟨w.heap.size + 2, 0, none⟩ = some v ∧ True from ⟨hv.cell 0, trivial⟩
      clear h0
      have hlk : pre.length ≤ 3000 := by omega
      gi_wp2_with (gi_at_builtin; refine append_lexIn Tryd.underlying24 rfl (.tmp 19) (.tmp 21) rfl (w.heap.size + 4) _ pre.length (lisY pre) rfl (hrow.alloc _) ⟨W.heap.size, 0, none⟩ [((kd : Int), tx, (pl : Int))] 1 1 rfl rfl (src_new1 _ _ ((kd : Int), tx, (pl : Int))) (by omega) (by simp; omega) ?_; intro vA wA hrA hgA; obtain ⟨gA, cA, rfl⟩ := row3_shape hrA; have hvA := (hv.alloc (.cells #[.int .i64 (kd : Int), .string tx, .int .i64 (pl : Int)] 23)).grown hgA (own_ne hrow (by omega)); have HVA := Lib.hid hvA; have HRA := Lib.hid hrA; have HGA := Lib.hid hgA; have vc := hvA.cell 0; have vf := hvA.free 0; clear hvA hrA hgA)
      have hra := hrow.alloc (.cells #[.int .i64 (kd : Int), .string tx, .int .i64 (pl : Int)] 23)
      have hzA : W.heap.size < wA.heap.size := Nat.lt_of_lt_of_le (by simp) HGA.out.size
      refine ⟨(((KeepsOthers.alloc _ _).from _).trans (keeps_grown HGA.out fun r e => by obtain ⟨cs, t, fz, h, _⟩ := own_cells hra r e; exact ⟨cs, t, fz, h⟩)).trans ((KeepsOthers.setCell _ _ _).from _), ((KpL.alloc _ _).trans (KpL.grown HGA.out (own_cells hra))).trans (KpL.grown (set_grown _ _ 0 _) fun r e => by cases e; exact ⟨_, _, _, HVA.out, .inr rfl⟩), ⟨⟨_, Box.set HVA.out 0 (by simp) _, ?_⟩, ?_⟩, ⟨(Box.grown (hr0.alloc _) HGA.out (own_ne hrow (by omega))).other (b' := w.heap.size + 2) (i := 0) (by omega) _, (Box.grown (hr1.alloc _) HGA.out (own_ne hrow (by omega))).other (b' := w.heap.size + 2) (i := 0) (by omega) _⟩, ?_, ?_⟩
      · rw [lisY_snoc, List.length_append]
        exact row_far HRA.out (by omega) 0 _
      · intro y hy
        rcases List.mem_append.1 hy with hy | hy
        · exact hc y hy
        · rw [List.mem_singleton] at hy
          subst hy
          exact HZ.out
      · exact ((hb.alloc (by omega) _).grown HGA.out (by simp; omega) (fun j ej => by have := (hrow.lt j ej).1; omega)).setCell (p := ⟨w.heap.size + 2, 0, none⟩) (by simp) _
      · simp; omega
    · have t0 : ((e1 : Int) != 0) = true := by rw [bne_iff_ne]; omega
      obtain ⟨c0, _⟩ := show W.cell? ⟨w.heap.size, 0, none⟩ = some (.slice none 0 0) ∧ True from ⟨hr0.cell 0, trivial⟩
      obtain ⟨c1, c2⟩ := hr1.cell2
      obtain ⟨f1, f2⟩ := hr1.free2
      have f0 := hr0.free 0
      have HR0 := Lib.hid hr0
      have HR1 := Lib.hid hr1
      have HNZ := Lib.hid h0
      have HBB := Lib.hid hb
      clear h0
      gi_wp2
      gi_region
      all_goals gi_wp2
      all_goals
        refine ⟨((((KeepsOthers.setCell _ _ _).trans (KeepsOthers.setCell _ _ _)).trans (KeepsOthers.setCell _ _ _)).trans (KeepsOthers.drew _)).from _, ⟨rfl, pre, _, rfl, HNZ.out, ?_, ?_⟩, ?_, ?_⟩
        · exact ((((HR0.out.set 0 (by simp) (.slice none 0 0)).other (b' := w.heap.size + 1) (i := 0) (by omega) (.int .i64 (e1 : Int))).other (b' := w.heap.size + 1) (i := 1) (by omega) (.int .i64 (a1 : Int)))).drew
        · exact ((((HR1.out.other (b' := w.heap.size) (i := 0) (by omega) (.slice none 0 0)).set 0 (by simp) (.int .i64 (e1 : Int))).set 1 (by simp) (.int .i64 (a1 : Int)))).drew
        · exact (((HBB.out.setCell (p := ⟨w.heap.size, 0, none⟩) (Nat.le_refl _) _).setCell (p := ⟨w.heap.size + 1, 0, none⟩) (by simp) _).setCell (p := ⟨w.heap.size + 1, 1, none⟩) (by simp) _).drew
        · simpa using hs
  case done =>
    rintro D ys W hD hend hcol hK
    obtain ⟨⟨⟨v, hv, hrow⟩, hc⟩, ⟨hr0, hr1⟩, hb, hs⟩ := hcol
    have hL : (lisY ys, 0, 0) = (L, er, p) := by
      rcases hend with he | ⟨_, p2, y, rfl, h0⟩
      · exact he.symm.trans H.out
      · exact absurd (hc y (by simp)) h0
    obtain ⟨a, c, rfl⟩ : ∃ a c, v = .slice a ys.length c := by
      rcases hrow.2 with ⟨rfl, h0⟩ | ⟨g, cap, _, rfl, _⟩
      · exact ⟨none, 0, by rw [h0]⟩
      · exact ⟨_, _, rfl⟩
    have vc := hv.cell 0
    have c0 := hr0.cell 0
    obtain ⟨c1, c2⟩ := hr1.cell2
    obtain ⟨f1, f2⟩ := hr1.free2
    have f0 := hr0.free 0
    have HL := Lib.hid hL
    clear hL hend
    gi_wp2
    have hK2 := (((KeepsOthers.setCell W ⟨w.heap.size, 0, none⟩ (.slice a ys.length c)).trans (KeepsOthers.setCell _ ⟨w.heap.size + 1, 0, none⟩ (.int .i64 0))).trans (KeepsOthers.setCell _ ⟨w.heap.size + 1, 1, none⟩ (.int .i64 0))).same D _ hK rfl
    refine ⟨by simp, .inl ⟨_, _, rfl, run_takeDeferred hK2, ?_⟩⟩
    have X := ((hr0.set 0 (by simp) (.slice a ys.length c)).other (b' := w.heap.size + 1) (i := 0) (by omega) (.int .i64 0)).other (b' := w.heap.size + 1) (i := 1) (by omega) (.int .i64 0)
    have Y := ((hr1.other (b' := w.heap.size) (i := 0) (by omega) (.slice a ys.length c)).set 0 (by simp) (.int .i64 0)).set 1 (by simp) (.int .i64 0)
    have R := row_far (row_far (row_far hrow (show w.heap.size < w.heap.size + 4 by omega) 0 (.slice a ys.length c)) (show w.heap.size + 1 < w.heap.size + 4 by omega) 0 (.int .i64 0)) (show w.heap.size + 1 < w.heap.size + 4 by omega) 1 (.int .i64 0)
    have B := ((hb.setCell (p := ⟨w.heap.size, 0, none⟩) (Nat.le_refl _) (.slice a ys.length c)).setCell (p := ⟨w.heap.size + 1, 0, none⟩) (by simp) (.int .i64 0)).setCell (p := ⟨w.heap.size + 1, 1, none⟩) (by simp) (.int .i64 0)
    refine ⟨_, plex_results _ _ w.heap.size (w.heap.size + 1) rfl rfl (box_put X D _ (by omega)) (box_put Y D _ (by omega)), ?_⟩
    have hlen : (lisY ys).length = ys.length := by unfold lisY; simp
    exact lexs_row (base := w.heap.size + 4) HL.out (by rw [hlen]; exact row_put3 R hK2 _) (B.grown (grownBy_putObj' _ D _) (by simp; omega) (fun k e => by cases e; omega))
  case stop =>
    rintro D cd pre W hD hst ⟨⟨rfl, p2, ⟨x, e, a⟩, rfl, h0, hx, hy⟩, hb, hs⟩ hK
    have hL : ([], e, a) = (L, er, p) := by
      obtain ⟨p3, y3, k, f, n3, h1, h2, h3, h5⟩ := hst
      obtain ⟨rfl, h4⟩ := List.append_inj' h1 rfl
      obtain rfl := (List.cons.inj h4).1
      rw [← H.out, h2, lexS, h3]
      rw [if_neg (show ¬ e = 5 from h5), if_neg (show ¬ e = 0 from h0)]
    have HL := Lib.hid hL
    clear hL hst h0
    gi_wp2
    refine ⟨by simp, .inl ⟨_, _, rfl, run_takeDeferred hK, ?_⟩⟩
    exact ⟨_, plex_results _ _ w.heap.size (w.heap.size + 1) rfl rfl (box_put hx D _ (by omega)) (box_put hy D _ (by omega)), lexs_nil HL.out (hb.grown (grownBy_putObj' _ D _) (by omega) (fun k e => by cases e; omega))⟩
theorem plex_any (s : ByteArray) (w : World) (hs : s.size ≤ 100000) (L : List Li) (er p : Nat) (H : Hid (lexR s = (L, er, p))) :
    Calls Tryd.prog 18 #[.string s] w (LexsTo w L er p) := by
  have h := H.out
  unfold lexR at h
  by_cases hbig : 2000 < s.size
  · rw [if_pos hbig] at h
    have HX := Lib.hid h
    clear h
    go_enter Tryd.func18, Tryd.ntmps18
    go_wp2
    refine bodyPost_ret (v := .tuple #[.slice none 0 0, .agg #[.int .i64 ((4 : Nat) : Int), .int .i64 ((2000 : Nat) : Int)]]) (by simp [results, Tryd.results18, go_sem]; first | rfl | done) rfl (lexs_nil HX.out (((Below.refl _ _).alloc (Nat.le_refl _) _).alloc (by simp) _))
  · rw [if_neg hbig] at h
    exact (callsIn_wide (n := 3)).1 (plex_in 3 (by omega) s w (by omega) L er p (Lib.hid h))
end Go.Proofs.YtjhmlmimgahnmaaDoor.s04
