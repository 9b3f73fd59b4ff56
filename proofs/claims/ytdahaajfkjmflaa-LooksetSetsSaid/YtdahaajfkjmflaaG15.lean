/-
  Layer 14: the program's Sum. Layer 14: the law's helpers on known lists. Layer 14: sets, said by their members; known sets. Layer 14: awake. Layer 14: slices of looks among specifications.
-/
import Derived.Test.YtdahaajfkjmflaaG10
import Derived.Maps.OwnIn
import Derived.Test.YtdahaajfkjmflaaG14
import Derived.Test.YtdahaajfkjmflaaG06
import Derived.Test.YtdahaajfkjmflaaG09
import Derived.Deep.DeepMust
namespace Go.Proofs.Ytdahaajfkjmflaa.s14
set_option linter.unusedVariables false
set_option linter.unusedSimpArgs false
open Go.RowKit
open kit

open s13

open Go.Shelf
attribute [local go_sem] Oper.semAt_some
def aggC (x : List Int) : Array Value := #[.int .i64 (pad5 x).1, .int .i64 (pad5 x).2.1, .int .i64 (pad5 x).2.2.1, .int .i64 (pad5 x).2.2.2.1, .int .i64 (pad5 x).2.2.2.2]
theorem aggC_eq {x : List Int} {a b c d e : Int} (h : pad5 x = (a, b, c, d, e)) : aggC x = #[.int .i64 a, .int .i64 b, .int .i64 c, .int .i64 d, .int .i64 e] := by unfold aggC; rw [h]
theorem src_new2 (w : World) (o : Obj) (z0 z1 z2 z3 z4 : Int) (i : Nat) (u : Value) (hu : (cells5 (z0, z1, z2, z3, z4))[i]? = some u) : ((w.alloc o).alloc (.cells #[.int .i64 z0, .int .i64 z1, .int .i64 z2, .int .i64 z3, .int .i64 z4] 25)).cell? ((⟨w.heap.size + 1, 0, none⟩ : Addr).add i) = some u := by
  rw [Go.WideShapes.add_plain, Nat.zero_add, (new2 w o 25 #[.int .i64 z0, .int .i64 z1, .int .i64 z2, .int .i64 z3, .int .i64 z4]).cell i]
  simpa [cells5] using hu
structure SumR (w : World) (K : Nat) (A B XA : List (List Int)) (px : Option Addr) (i : Nat) (v : Value) (W : World) : Prop where
  all : ∃ p q c, v = .slice p q c ∧ (sumS K A B i).length = q ∧ q ≤ c ∧ Reads5 W p ((sumS K A B i).map pad5)
  bk : Box W 3 w.heap.size #[.int .i64 K]
  hb : Below w.heap.size w W
  rx : Reads5 W px (XA.map pad5)
theorem SumR.below {w W W' : World} {K : Nat} {A B XA : List (List Int)} {px : Option Addr} {i : Nat} {v : Value} (h : SumR w K A B XA px i v W) (hB : Below W.heap.size W W') : SumR w K A B XA px i v W' := by
  obtain ⟨⟨p, q, c, e, h1, h2, h3⟩, h4, h5, h6⟩ := h
  exact ⟨⟨p, q, c, e, h1, h2, h3.below hB⟩, h4.below hB, below_then h5 hB, h6.below hB⟩
theorem marks_below {w W W' : World} {ds : List Nat} (h : ds.Nodup ∧ ∀ d ∈ ds, w.heap.size ≤ d ∧ W.heap[d]? = some (.deferred (some []))) (hB : Below W.heap.size W W') : ds.Nodup ∧ ∀ d ∈ ds, w.heap.size ≤ d ∧ W'.heap[d]? = some (.deferred (some [])) :=
  ⟨h.1, fun d hd => ⟨(h.2 d hd).1, (hB.block d (Array.getElem?_eq_some_iff.1 (h.2 d hd).2).1).trans (h.2 d hd).2⟩⟩
def RowOf (W0 : World) (n : Nat) (X : List (List Int)) (v : Value) (W : World) : Prop := ∃ p c, v = .slice p n c ∧ Reads5 W p (X.map pad5) ∧ n ≤ c ∧ NewAt W0.heap.size p
theorem rowOf_keeps (W0 : World) (n : Nat) (X : List (List Int)) : (Sp.rel (RowOf W0 n X)).Keeps := fun v w w' ⟨p, c, e, h, l⟩ hB => ⟨p, c, e, h.below hB, l⟩
def IterOf (W0 : World) (n m : Nat) (X Y : List (List Int)) (v : Value) (W : World) : Prop := ∃ g1 g2 p q cp cq, v = .func (.func 80) #[] #[.pointer (some ⟨g1, 0, none⟩), .pointer (some ⟨g2, 0, none⟩)] ∧ Box W 22 g1 #[.slice p n cp] ∧ Box W 22 g2 #[.slice q m cq] ∧ Reads5 W p (X.map pad5) ∧ Reads5 W q (Y.map pad5) ∧ W0.heap.size ≤ g1 ∧ W0.heap.size ≤ g2 ∧ NewAt W0.heap.size p ∧ NewAt W0.heap.size q
theorem iterOf_keeps (W0 : World) (n m : Nat) (X Y : List (List Int)) : (Sp.rel (IterOf W0 n m X Y)).Keeps := fun v w w' ⟨g1, g2, p, q, cp, cq, e, h1, h2, h3, h4, h5⟩ hB => ⟨g1, g2, p, q, cp, cq, e, h1.below hB, h2.below hB, h3.below hB, h4.below hB, h5⟩
theorem iterOf_new {W0 w9 : World} {n m cp cq : Nat} {p q : Option Addr} {X Y : List (List Int)} (hB : Below W0.heap.size W0 w9) (h1 : Reads5 w9 p (X.map pad5)) (h2 : Reads5 w9 q (Y.map pad5)) (h3 : NewAt W0.heap.size p) (h4 : NewAt W0.heap.size q) : IterOf W0 n m X Y (.func (.func 80) #[] #[.pointer (some ⟨w9.heap.size, 0, none⟩), .pointer (some ⟨w9.heap.size + 1, 0, none⟩)]) ((w9.alloc (.cells #[.slice p n cp] 22)).alloc (.cells #[.slice q m cq] 22)) :=
  ⟨_, _, p, q, cp, cq, rfl, (Box.new w9 _ _).alloc _, new2 w9 _ _ _, (h1.alloc _).alloc _, (h2.alloc _).alloc _, hB.size, Nat.le_succ_of_le hB.size, h3, h4⟩
theorem load1 {w : World} {g : Nat} {v : Int} (h : Box w 3 g #[.int .i64 v]) : (Instr.loadAt 3 (.pointer (some ⟨g, 0, none⟩))).run Try.prog w = .ok (.int .i64 v) w := by
  have z0 := box1 h
  simp [go_sem, z0]
theorem sub_run {x y z : Int} (hz : 0 ≤ z ∧ z ≤ 1000) (h : x - y = z) (W : World) : (binOp .sub 3 (.int .i64 x) (.int .i64 y)).run Try.prog W = .ok (.int .i64 z) W := by
  have hw : IntKind.i64.wrap (x - y) = z := by rw [h]; simp [IntKind.wrap, IntKind.bits, IntKind.signed]; omega
  simp [binOp, Op.intArith, hw]
theorem step_call_rel {P : Program} {l : List Oper} {S : List Sp} {a A : Act} {o : Oper} {w : World} (h : Pre l S a o A w) (hg : guardB l S o = true) (f : FuncId) (c : Call) {R : Value → World → Prop} (args : List Value) (hop : o.op = .call c) (hc : c.callee = .value (.func f)) (hf : (P.funcs[f]?).map (fun fn => (fn.name == "runtime.NumGoroutine", fn.body.isSome)) = some (false, true))
    (ha : argsAt l S o c.args.toList = some args) (hC : Calls P f args.toArray w fun e w' => ∃ v, e = .returned v ∧ Below w.heap.size w w' ∧ R v w') : stepOk P l o A w (.rel R) :=
  step_call h hg f c args.toArray hop hc hf (by rw [← argsAt_eval h ha]; apply Array.ext'; simp) hC
set_option maxRecDepth 100000 in
set_option maxHeartbeats 6000000 in
theorem psum_ok (t : Int) (K : Nat) (a b : Option Addr) (n m ca cb : Nat) (A B : List (List Int)) (w : World) (hK1 : 1 ≤ K) (hK4 : K ≤ 4) (hn : Hid (A.length = n)) (hm : Hid (B.length = m)) (hn6 : n ≤ 60000) (hm6 : m ≤ 60000) (hnm : n * m ≤ 10000) (hca : n ≤ ca) (hcb : m ≤ cb) (hA : Hid (∀ x ∈ A, okL 8 x)) (hB : Hid (∀ x ∈ B, okL 8 x)) (ra : Hid (Reads5 w a (A.map pad5))) (rb : Hid (Reads5 w b (B.map pad5))) (HR : Hid (chkA t [A.map pad5, B.map pad5] = 0)) (R : List (List Int)) (N : Nat) (HS : Hid (sumS K A B (K + 1) = R)) (HN : Hid (R.length = N)) :
    Calls Try.prog 30 #[.int .i64 t, .int .i64 K, .slice a n ca, .slice b m cb] w fun e w' => ∃ p cp, e = .returned (.tuple #[.slice p N cp, .int .i64 0]) ∧ Reads5 w' p (R.map pad5) ∧ Below w.heap.size w w' ∧ N ≤ cp := by
  have HG : Hid (Grid ((w.alloc (.cells #[.int .i64 K] 3)).alloc (.cells #[.slice a n ca, .slice b m cb] 22)) (some ⟨w.heap.size + 1, 0, none⟩) [A.map pad5, B.map pad5]) := Lib.hid (grid2 (new2 w _ _ _) (by rw [List.length_map]; exact hn.out) (by rw [List.length_map]; exact hm.out) ((ra.out.alloc _).alloc _) ((rb.out.alloc _).alloc _))
  have HM : Hid (∀ i, i < [A.map pad5, B.map pad5].length → ([A.map pad5, B.map pad5][i]?.getD []).length ≤ 60000) := Lib.hid (fun i hi => by
    have : i = 0 ∨ i = 1 := by simp at hi; omega
    rcases this with rfl | rfl
    · simpa [hn.out] using hn6
    · simpa [hm.out] using hm6)
  have f51 : Fence.wide.fn 51 := trivial
  have f59 : Fence.wide.fn 59 := trivial
  have f60 : Fence.wide.fn 60 := trivial
  refine (callsIn_wide (n := 6)).1 ?_
  refine callsIn_of_wp_marks Try.func30 rfl trivial ?_ rfl
  simp only [Try.ntmps30, List.size_toArray, List.length_cons, List.length_nil, Nat.reduceAdd, Nat.reduceSub, Array.replicate_succ, Array.replicate_zero, List.push_toArray, List.append_toArray, List.nil_append, List.cons_append]
  obtain ⟨XA, hXA⟩ : ∃ XA, cutS K A = XA := ⟨_, rfl⟩
  obtain ⟨na, hna⟩ : ∃ na, XA.length = na := ⟨_, rfl⟩
  have hnan : na ≤ n := by rw [← hna, ← hXA, ← hn.out]; exact cutS_len K A
  have HXA := Lib.hid hXA
  have HNA := Lib.hid hna
  clear hXA hna
  gi_wp2_with (first
    | (gi_at_call 51; refine ((callsIn_wide (n := _)).2 (checkall_any t _ 2 2 [A.map pad5, B.map pad5] _ (Lib.hid rfl) (by omega) HM HG 0 HR)).mono ?_; rintro e w1 ⟨rfl, hB1⟩; have X1 := Lib.hid (((Box.new w 3 #[.int .i64 K]).alloc _).below hB1); have B1 := Lib.hid (two_below hB1); have k1 := box1 X1.out; clear hB1)
    | (gi_at_call 59; refine ((callsIn_wide (n := _)).2 (isahead_yes K _ (by omega) (by omega))).mono ?_; rintro e w2 ⟨rfl, rfl⟩)
    | (gi_at_call 60; refine ((callsIn_wide (n := _)).2 (pcutset_any a n ca K A _ hn hn6 hK4 hA (Lib.hid (ra.out.below B1.out)) XA na HXA HNA)).mono ?_; rintro e w3 ⟨px, cx, rfl, hR3, hB3, hc3⟩; have R3 := Lib.hid hR3; have B3 := Lib.hid (below_then B1.out hB3); have X3 := Lib.hid (X1.out.below hB3); have k3 := box1 X3.out; clear hR3 hB3))
  clear HG HM X1 B1 k1 k3
  refine wpIn_loop (fun A5 W5 => ∃ (i : Nat) (ds : List Nat) (v11 u13 u14 u36 u37 u38 u39 u40 u41 u42 u43 u44 u45 u46 u60 u61 u62 u63 : Value), i ≤ K + 1 ∧ A5 = { tmps := #[.int .i64 t, .int .i64 K, .slice a n ca, .slice b m cb, undef, .pointer (some ⟨w.heap.size, 0, none⟩), undef, undef, .slice none 0 0, .int .i64 0, .int .i64 0, v11, .slice px na cx, u13, u14, undef, undef, undef, undef, .int .i64 t, .slice a n ca, .slice b m cb, .slice (some ⟨w.heap.size + 1, 0, none⟩) 2 2, .int .i64 0, .int .i64 0, .bool false, undef, .int .i64 K, .bool true, .bool false, .slice a n ca, .int .i64 K, .slice px na cx, .int .i64 K, .int .i64 ((K : Int) + 1), .int .i64 i, u36, u37, u38, u39, u40, u41, u42, u43, u44, u45, u46, undef, undef, undef, undef, undef, undef, undef, undef, undef, undef, undef, undef, undef, u60, u61, u62, u63, undef], defers := ds.map kit.mark } ∧ Hid (SumR w K A B XA px i v11 W5) ∧ Hid (ds.Nodup ∧ ∀ d ∈ ds, w.heap.size ≤ d ∧ W5.heap[d]? = some (.deferred (some []))))
    (fun A5 _ => K + 1 - (intOf (A5.tmps.getD 35 undef)).toNat) ?start ?round
  case start => exact ⟨0, [], .slice none 0 0, undef, undef, undef, undef, undef, undef, undef, undef, undef, undef, undef, undef, undef, undef, undef, undef, undef, by omega, rfl, Lib.hid ⟨⟨none, 0, 0, rfl, by simp [sumS], Nat.le_refl _, by simp only [sumS, List.map_nil]; exact Reads5.nil _ _⟩, X3.out, B3.out, R3.out⟩, Lib.hid ⟨List.nodup_nil, fun d hd => by cases hd⟩⟩
  case round =>
    clear X3 B3 R3
    rintro A5 W5 ⟨i, ds, v11, u13, u14, u36, u37, u38, u39, u40, u41, u42, u43, u44, u45, u46, u60, u61, u62, u63, hi, rfl, HS5, HD5⟩
    by_cases hlt : i < K + 1
    · obtain ⟨p, q, c, rfl, hq, hqc, hR5⟩ := HS5.out.all
      have hk5 := box1 HS5.out.bk
      have hl5 := HS5.out.bk.lt
      gi_wp2
      have hKi : ((K : Int) - (i : Int)) = ((K - i : Nat) : Int) := by omega
      obtain ⟨X, hX⟩ : ∃ X, ofLen i XA = X := ⟨_, rfl⟩
      obtain ⟨nx, hnx⟩ : ∃ nx, X.length = nx := ⟨_, rfl⟩
      obtain ⟨Y, hY⟩ : ∃ Y, cutS (K - i) B = Y := ⟨_, rfl⟩
      obtain ⟨ny, hny⟩ : ∃ ny, Y.length = ny := ⟨_, rfl⟩
      have hnx2 : nx ≤ na := by rw [← hnx, ← hX, ← HNA.out]; exact ofLen_len i XA
      have hny2 : ny ≤ m := by rw [← hny, ← hY, ← hm.out]; exact cutS_len _ B
      have HX := Lib.hid hX
      have HNX := Lib.hid hnx
      have HY := Lib.hid hY
      have HNY := Lib.hid hny
      have hle5 : w.heap.size ≤ W5.heap.size := HS5.out.hb.size
      have HP5 := Lib.hid (Box.new W5 22 #[.slice none 0 0])
      have HS6 := Lib.hid (HS5.out.below ((Below.refl W5.heap.size W5).alloc (Nat.le_refl _) (.cells #[.slice none 0 0] 22)))
      have HB6 := Lib.hid ((Below.refl W5.heap.size W5).alloc (Nat.le_refl _) (.cells #[.slice none 0 0] 22))
      have HZ6 : Hid ((W5.alloc (.cells #[.slice none 0 0] 22)).heap.size = W5.heap.size + 1) := Lib.hid (by simp)
      have hR5' := Lib.hid hR5
      clear hX hnx hY hny hR5 hk5 hl5
      generalize W5.alloc (.cells #[.slice none 0 0] 22) = W6 at HP5 HS6 HB6 HZ6 ⊢
      refine wpIn_wide.2 (wp_region_specs [.con (.slice px na cx), .con (.int .i64 i), .rel (RowOf W6 nx X), .con (.slice b m cb), .con (.int .i64 K), .con (.int .i64 i), .con (.int .i64 ((K - i : Nat) : Int)), .rel (RowOf W6 ny Y), .rel (IterOf W6 nx ny X Y)] (by kernel_rfl) (by kernel_rfl) ?keeps ?steps ?rest)
      case keeps =>
        intro s hs
        simp only [List.mem_cons, List.not_mem_nil, or_false] at hs
        rcases hs with rfl | rfl | rfl | rfl | rfl | rfl | rfl | rfl | rfl
        · trivial
        · trivial
        · exact rowOf_keeps _ _ _
        · trivial
        · trivial
        · trivial
        · trivial
        · exact rowOf_keeps _ _ _
        · exact iterOf_keeps _ _ _ _ _
      case steps =>
        refine ⟨fun A1 w9 hB9 h => step_move_old h (by kernel_rfl) 12 rfl (by kernel_rfl) (by rfl), ?_⟩
        refine ⟨fun A1 w9 hB9 h => step_move_old h (by kernel_rfl) 13 rfl (by kernel_rfl) (by rfl), ?_⟩
        refine ⟨fun A1 w9 hB9 h => step_call_rel h (by kernel_rfl) 62 _ [.slice px na cx, .int .i64 i] rfl rfl (by kernel_rfl) (by rfl) ((oflen_any px na cx i XA w9 HNA (by omega) (by omega) (Lib.hid (HS6.out.rx.below hB9)) X nx HX HNX).mono (fun e w' h9 => by obtain ⟨p9, c9, e9, r9, b9, l9, n9⟩ := h9; exact ⟨_, e9, b9, p9, c9, rfl, r9, l9, fun g o e => Nat.le_trans hB9.size (n9 g o e)⟩)), ?_⟩
        refine ⟨fun A1 w9 hB9 h => step_move_old h (by kernel_rfl) 3 rfl (by kernel_rfl) (by rfl), ?_⟩
        refine ⟨fun A1 w9 hB9 h => step_load h (by kernel_rfl) _ _ (.pointer (some ⟨w.heap.size, 0, none⟩)) rfl (h.old 5 (by kernel_rfl) (by rfl)) (load1 (HS6.out.bk.below hB9)), ?_⟩
        refine ⟨fun A1 w9 hB9 h => step_move_old h (by kernel_rfl) 13 rfl (by kernel_rfl) (by rfl), ?_⟩
        refine ⟨fun A1 w9 hB9 h => step_bin h (by kernel_rfl) _ _ _ _ _ (.int .i64 K) (.int .i64 i) rfl (by rfl) (by rfl) (fun W => by kernel_rfl) (fun W => sub_run (by omega) hKi W), ?_⟩
        refine ⟨fun A1 w9 hB9 h => step_call_rel h (by kernel_rfl) 60 _ [.slice b m cb, .int .i64 ((K - i : Nat) : Int)] rfl rfl (by kernel_rfl) (by rfl) ((pcutset_any b m cb (K - i) B w9 hm hm6 (by omega) hB (Lib.hid (rb.out.below (below_then HS6.out.hb hB9))) Y ny HY HNY).mono (fun e w' h9 => by obtain ⟨p9, c9, e9, r9, b9, l9, n9⟩ := h9; exact ⟨_, e9, b9, p9, c9, rfl, r9, l9, fun g o e => Nat.le_trans hB9.size (n9 g o e)⟩)), ?_⟩
        refine ⟨fun A1 w9 hB9 h => ?_, trivial⟩
        obtain ⟨p1, c1, e1, r1, l1, n1⟩ := h.rel 2 (d := 40) (by kernel_rfl) (by kernel_rfl) rfl
        obtain ⟨p2, c2, e2, r2, l2, n2⟩ := h.rel 7 (d := 45) (by kernel_rfl) (by kernel_rfl) rfl
        exact step_call h (by kernel_rfl) 61 _ #[.slice p1 nx c1, .slice p2 ny c2] rfl rfl (by kernel_rfl) (by simp [e1, e2]) ((pairs_any w9 p1 p2 nx ny c1 c2).mono (fun e w' h9 => by
          obtain ⟨e9, rfl⟩ := h9
          exact ⟨_, e9, ((Below.refl w9.heap.size w9).alloc (Nat.le_refl _) _).alloc (by simp) _, iterOf_new hB9 r1 r2 n1 n2⟩))
      case rest =>
        intro vs w7 hB7 hv
        obtain ⟨g1, g2, p1, p2, c1, c2, e8, hb1, hb2, hr1, hr2, hg1, hg2, hn1, hn2⟩ : IterOf W6 nx ny X Y (vs 8) w7 := hv 8 _ rfl
        obtain ⟨v40, hv40⟩ : ∃ v, vs 2 = v := ⟨_, rfl⟩
        obtain ⟨v45, hv45⟩ : ∃ v, vs 7 = v := ⟨_, rfl⟩
        have q0 := hv 0 _ rfl
        have q1 := hv 1 _ rfl
        have q3 := hv 3 _ rfl
        have q4 := hv 4 _ rfl
        have q5 := hv 5 _ rfl
        have q6 := hv 6 _ rfl
        simp only [Sp.Ok] at q0 q1 q3 q4 q5 q6
        simp only [putAll, q0, q1, q3, q4, q5, q6, hv40, hv45, e8]
        clear hv e8 hv40 hv45 q0 q1 q3 q4 q5 q6
        gi_wp2
        go_simp
        have hs6 := HZ6.out
        obtain ⟨Z0, hZ0⟩ : ∃ Z0 : Nat → Prop, Z0 = fun r => r = g1 ∨ r = g2 ∨ (0 < nx ∧ ∃ o, p1 = some ⟨r, o, none⟩) ∨ (0 < ny ∧ ∃ o, p2 = some ⟨r, o, none⟩) := ⟨_, rfl⟩
        have hz0 : ∀ r, Z0 r → W5.heap.size ≤ r ∧ r ≠ W5.heap.size ∧ r < w7.heap.size := fun r hr => by
          rw [hZ0] at hr
          rcases hr with rfl | rfl | ⟨h1, o, rfl⟩ | ⟨h1, o, rfl⟩
          · have := hb1.lt; omega
          · have := hb2.lt; omega
          · obtain ⟨b, off, e, hb, _⟩ := hr1 0 (by rw [List.length_map, HNX.out]; exact h1)
            cases e
            have := hn1 _ _ rfl
            omega
          · obtain ⟨b, off, e, hb, _⟩ := hr2 0 (by rw [List.length_map, HNY.out]; exact h1)
            cases e
            have := hn2 _ _ rfl
            omega
        have hO7 : OwnP Z0 w7 g1 g2 p1 p2 nx ny c1 c2 X Y := ⟨hb1, hb2, by rw [hZ0]; exact .inl rfl, by rw [hZ0]; exact .inr (.inl rfl), ⟨hr1, fun b o e h => by rw [hZ0]; exact .inr (.inr (.inl ⟨by rw [List.length_map, HNX.out] at h; exact h, o, e⟩))⟩, ⟨hr2, fun b o e h => by rw [hZ0]; exact .inr (.inr (.inr ⟨by rw [List.length_map, HNY.out] at h; exact h, o, e⟩))⟩⟩
        have hP7 := HP5.out.below hB7
        have hl7 : W5.heap.size < w7.heap.size := hP7.lt
        have hB57 : Below W5.heap.size W5 w7 := below_then HB6.out hB7
        have hI0 : CollV W5.heap.size W5.heap.size W5 (([] : List PL).map (jV K)) Z0 w7 := ⟨⟨_, hP7, World.ownsRow_nil _ _ _ _, fun r _ e => by cases e⟩, hB57, hB57.size, hz0⟩
        have hk7 : ∀ W', Below W5.heap.size W5 W' → Box W' 3 w.heap.size #[.int .i64 K] := fun W' h => HS5.out.bk.below h
        obtain ⟨i0, hi0, hz1, hz2, hz3⟩ := info_parts info5
        have HNX2 := HNX
        have hXok : ∀ x ∈ X, okL 8 x := by rw [← HX.out, ← HXA.out]; exact ofLen_ok i (cutS_ok K hA.out)
        have hYok : ∀ x ∈ Y, okL 8 x := by rw [← HY.out]; exact cutS_ok _ hB.out
        have hfit : ∀ x ∈ X, ∀ y ∈ Y, x.length + y.length ≤ K := by rw [← HX.out, ← HXA.out, ← HY.out]; exact part_fit (by omega)
        have hPN : (pairsL X Y).length ≤ 10000 := by
          rw [pairsL_len, HNX.out, HNY.out]
          exact Nat.le_trans (Nat.mul_le_mul (Nat.le_trans hnx2 hnan) hny2) hnm
        clear hb1 hb2 hr1 hr2 hg1 hg2 hn1 hn2 hs6 HZ6 HB6 HS6 HP5
        refine wpIn_rangeFunc_ownZ (F := Fence.wide) rfl (by omega) (gf := 80) (lb := #[.pointer (some ⟨g1, 0, none⟩), .pointer (some ⟨g2, 0, none⟩)]) rfl trivial (enters_of Try.func80 (by kernel_rfl) rfl)
          (encs := encP) (Z0 := Z0) (S := fun xs => xs = pairsL X Y) (Sp := fun pre => pre <+: pairsL X Y) (N := (pairsL X Y).length)
          (R := fun W' => OwnP Z0 W' g1 g2 p1 p2 nx ny c1 c2 X Y)
          (fun l' J' Jx' W' hR' hJ' hJx' hY' h0' => pairs1_any Fence.wide _ trivial rfl rfl X Y nx ny c1 c2 HNX HNY (by omega) (by omega) l' g1 g2 p1 p2 J' Jx' Z0 hJ' hJx' _ hY' W' hR' h0')
          (fun o o' => (hO7.alloc o).alloc o') (fun x => rfl) (fun r hr => (hz0 r hr).2.2)
          (fun (s : List PL) => CollV W5.heap.size W5.heap.size W5 (s.map (jV K))) (fun _ _ _ _ => False) (collV_ab (fun (s : List PL) => s.map (jV K)) _ _ W5 (Nat.le_refl _)) (fun _ => abz_false)
          (fun s Z W' k' o o' h hk' ho hc => collV_put o' (by omega) ho hc (Nat.le_refl _) h) (fun _ _ _ _ _ _ _ h _ _ _ => h)
          (fun o o' => (collV_ab (fun s : List PL => s.map (jV K)) _ _ W5 (Nat.le_refl _)).alloc _ ((collV_ab (fun s : List PL => s.map (jV K)) _ _ W5 (Nat.le_refl _)).alloc _ hI0))
          (fun x a' W' => ∃ bx by1, Box W' 25 bx (aggC x.1) ∧ Box W' 25 by1 (aggC x.2) ∧ a' = { tmps := #[.int .i64 t, .int .i64 K, .slice a n ca, .slice b m cb, undef, .pointer (some ⟨w.heap.size, 0, none⟩), undef, undef, .slice none 0 0, .int .i64 0, .int .i64 0, .slice p q c, .slice px na cx, .int .i64 i, .pointer (some ⟨W5.heap.size, 0, none⟩), .pointer (some ⟨bx, 0, none⟩), .pointer (some ⟨by1, 0, none⟩), undef, undef, .int .i64 t, .slice a n ca, .slice b m cb, .slice (some ⟨w.heap.size + 1, 0, none⟩) 2 2, .int .i64 0, .int .i64 0, .bool false, undef, .int .i64 K, .bool true, .bool false, .slice a n ca, .int .i64 K, .slice px na cx, .int .i64 K, .int .i64 ((K : Int) + 1), .int .i64 i, .bool true, .int .i64 i, .slice px na cx, .int .i64 i, v40, .slice b m cb, .int .i64 K, .int .i64 i, .int .i64 ((K - i : Nat) : Int), v45, .func (.func 80) #[] #[.pointer (some ⟨g1, 0, none⟩), .pointer (some ⟨g2, 0, none⟩)], aggL x.1, aggL x.2, undef, undef, undef, undef, undef, undef, undef, undef, undef, undef, undef, u60, u61, u62, u63, undef], defers := [] })
          ?hAx ?assign ?body ?done ?stop
        case hAx =>
          rintro x a' W' k' o o' ⟨bx, by1, hbx, hby, rfl⟩ hk hc
          have hne : ∀ b7 xs, Box W' 25 b7 xs → b7 ≠ k' := by
            rintro b7 xs hb7 rfl
            have h2 : W'.heap[b7]? = _ := hb7
            rw [hk] at h2
            cases h2
            cases hc
          exact ⟨bx, by1, (World.putObj_heap_other (hne _ _ hbx)).trans hbx, (World.putObj_heap_other (hne _ _ hby)).trans hby, rfl⟩
        case assign =>
          intro l1 pre x Z Wc K1 hi1 hlt1 hK1'
          have hlts : ∀ r, (Z r ∨ r = w7.heap.size ∨ r = w7.heap.size + 1) → r < Wc.heap.size := fun r hr => by
            rcases hr with hr | rfl | rfl
            · exact (hi1.2.2.2 r hr).2.2
            · omega
            · omega
          obtain ⟨⟨v0, v1, v2, v3, v4⟩, hv⟩ : ∃ y, pad5 x.1 = y := ⟨_, rfl⟩
          obtain ⟨⟨y0, y1, y2, y3, y4⟩, hy⟩ : ∃ y, pad5 x.2 = y := ⟨_, rfl⟩
          have he : encP x = #[.agg #[.int .i64 v0, .int .i64 v1, .int .i64 v2, .int .i64 v3, .int .i64 v4], .agg #[.int .i64 y0, .int .i64 y1, .int .i64 y2, .int .i64 y3, .int .i64 y4]] := by unfold encP; rw [aggL_eq hv, aggL_eq hy]
          rw [he]
          gi_wp2
          refine hK1' _ _ (fun r hr => (Below.heap_alloc _ _ r (by have := hlts r hr; simp; omega)).trans (Below.heap_alloc Wc _ r (hlts r hr))) ((collV_ab (fun s : List PL => s.map (jV K)) _ _ W5 (Nat.le_refl _)).alloc _ ((collV_ab (fun s : List PL => s.map (jV K)) _ _ W5 (Nat.le_refl _)).alloc _ hi1)) ⟨Wc.heap.size, Wc.heap.size + 1, ?_, ?_, ?_⟩
          · rw [aggC_eq hv]; exact (Box.new Wc _ _).alloc _
          · rw [aggC_eq hy]; exact new2 Wc _ _ _
          · rw [aggL_eq hv, aggL_eq hy]
        case body =>
          rintro l1 pre x a' Z Wc hcoll ⟨bx, by1, hbx, hby, rfl⟩ hz hne hlt2 hnc hln
          obtain ⟨⟨v0, v1, v2, v3, v4⟩, hv⟩ : ∃ y, pad5 x.1 = y := ⟨_, rfl⟩
          obtain ⟨⟨y0, y1, y2, y3, y4⟩, hy⟩ : ∃ y, pad5 x.2 = y := ⟨_, rfl⟩
          rw [aggC_eq hv] at hbx
          rw [aggC_eq hy] at hby
          obtain ⟨⟨⟨z0, z1, z2, z3, z4⟩, rj⟩, hj⟩ : ∃ y, joinE (K : Int) (v0, v1, v2, v3, v4) (y0, y1, y2, y3, y4) = y := ⟨_, rfl⟩
          have hjx : jV K x = (z0, z1, z2, z3, z4) := by unfold jV; rw [hv, hy, hj]
          have HJ := Lib.hid hj
          have ck := box1 (hk7 Wc hcoll.2.1)
          obtain ⟨c0, c1', c2', c3, c4⟩ := hbx.cell5
          obtain ⟨d0, d1, d2, d3, d4⟩ := hby.cell5
          have f63 : Fence.wide.fn 63 := trivial
          rw [aggL_eq hv, aggL_eq hy]
          have AB := collV_ab (fun (s : List PL) => s.map (jV K)) W5.heap.size W5.heap.size W5 (Nat.le_refl _)
          have hln2 : pre.length < 10000 := Nat.lt_of_lt_of_le hln hPN
          have hlen : (pre.map (jV K)).length = pre.length := List.length_map ..
          have hkz := fun r (hr : Z r ∨ r = w7.heap.size ∨ r = w7.heap.size + 1) => (show r < Wc.heap.size by
            rcases hr with hr | hr
            · exact (hcoll.2.2.2 r hr).2.2
            · obtain ⟨o, ho, _⟩ := hnc r hr
              exact (Array.getElem?_eq_some_iff.1 ho).1)
          clear hj
          gi_wp2_with (first
            | (gi_at_call 63; go_must (refine (CallsIn.inRound l1 ((callsIn_wide (n := _)).2 (pjoin_any (K : Int) v0 v1 v2 v3 v4 y0 y1 y2 y3 y4 _ (z0, z1, z2, z3, z4) rj HJ))).mono ?_; rintro e wj ⟨rfl, hBj⟩; have HC := AB.alloc (.cells #[.int .i64 z0, .int .i64 z1, .int .i64 z2, .int .i64 z3, .int .i64 z4] 25) (AB.grown _ _ _ _ hcoll ⟨hBj.os, hBj.tape, hBj.output, hBj.size, fun i hi _ => hBj.block i hi⟩); obtain ⟨⟨v, h1, h2, h3⟩, h4, h5, h6⟩ := HC; rw [hlen] at h2; have cv := box1 h1; have fv := h1.free 0; have hsrc := src_new2 wj (.cells #[.int .i64 z0, .int .i64 z1, .int .i64 z2, .int .i64 z3, .int .i64 z4] 25) z0 z1 z2 z3 z4))
            | (gi_at_builtin; go_must (refine wpListIn_append_own_at _ rfl (.tmp 56) (.tmp 58) 22 rfl W5.heap.size 25 i0 (.agg #[.int .i64 0, .int .i64 0, .int .i64 0, .int .i64 0, .int .i64 0]) 5 40 Try.underlying22 hi0 hz1 hz2 hz3 rfl (by decide) v pre.length _ rfl (h2.alloc _) ⟨wj.heap.size + 1, 0, none⟩ 1 1 (cells5 (z0, z1, z2, z3, z4)) rfl rfl hsrc (by simp [cells5, Value.oneCell']) (by unfold maxLen; omega) (by omega) (Nat.le_trans h5 (by simp)) ?_); intro v' w1 hown' hgrow _ hblk; obtain ⟨g', cap', rfl⟩ := ownsRow_succ hown'; obtain ⟨hv1, hv2, hr2, hk2, hb2⟩ := Boxed.appended h1 (by decide) h2 h5 (Nat.le_refl _) hown' hgrow; have hc1 := hv1.cell; have hf1 := hv1.frozen))
          have hold : ∀ r, r < Wc.heap.size → (wj.alloc (.cells #[.int .i64 z0, .int .i64 z1, .int .i64 z2, .int .i64 z3, .int .i64 z4] 25)).heap[r]? = Wc.heap[r]? := fun r hr => (Below.heap_alloc wj _ r (Nat.lt_of_lt_of_le hr hBj.size)).trans (hBj.block r hr)
          have hkeep : ∀ r, r < Wc.heap.size → v.ownBlock ≠ some r → r ≠ W5.heap.size → (w1.setCell ⟨W5.heap.size, 0, none⟩ (.slice (some ⟨g', 0, none⟩) (pre.length + 1) cap')).heap[r]? = Wc.heap[r]? := fun r hr ho hb =>
            (Below.heap_setCell _ _ _ _ hb).trans ((grown_keep hgrow (by have := hBj.size; simp; omega) (fun e => ho e.symm)).trans ((Below.heap_alloc _ _ r (by have := hBj.size; simp; omega)).trans (hold r hr)))
          have hncr : ∀ r, r = w7.heap.size ∨ r = w7.heap.size + 1 → v.ownBlock ≠ some r ∧ r ≠ W5.heap.size := fun r hr => by
            obtain ⟨o, ho, hc⟩ := hnc r hr
            have ho2 := (hold r (hkz r (.inr hr))).trans ho
            refine ⟨fun e => ?_, fun e => ?_⟩
            · obtain ⟨_, cs, t', z, h⟩ := own_lt h2 e
              rw [ho2] at h; cases h; cases hc
            · have h : (wj.alloc (.cells #[.int .i64 z0, .int .i64 z1, .int .i64 z2, .int .i64 z3, .int .i64 z4] 25)).heap[W5.heap.size]? = _ := h1
              rw [← e, ho2] at h; cases h; cases hc
          refine ⟨fun r hr => ?_, ⟨⟨_, hv2, ?_, fun r hr e => ?_⟩, h4.trans hb2, Nat.le_trans h5 hb2.size, fun r hr => ⟨(h6 r hr).1, (h6 r hr).2.1, Nat.lt_of_lt_of_le (h6 r hr).2.2 hb2.size⟩⟩⟩
          · rcases hr with hr | hr
            · exact hkeep r (hcoll.2.2.2 r hr).2.2 (h3 r hr) (h6 r hr).2.1
            · obtain ⟨e1, e2⟩ := hncr r hr
              exact hkeep r (hkz r (.inr hr)) e1 e2
          · rw [List.map_append, List.map_singleton, hjx, List.length_append, hlen, flat5_app, flat5_one]
            exact hr2
          · rcases hblk with hb | hb
            · exact h3 r hr (hb ▸ e)
            · rw [hb] at e
              have e2 := (h6 r hr).2.2
              simp at e
              simp at e2
              omega
        case done =>
          rintro xs W8 rfl ⟨⟨v, h1, h2, h3⟩, h4, h5, h6⟩ hK8
          have hpart : prodS X Y = partS K i A B := by unfold partS; rw [HXA.out, HX.out, HY.out]
          have hplen := partS_len K i A B
          rw [hn.out, hm.out] at hplen
          have hslen := sumS_len K A B i
          rw [hn.out, hm.out, hq] at hslen
          have hi4 : i ≤ 4 := by omega
          have hslen2 : q ≤ 4 * (n * m) := Nat.le_trans hslen (Nat.mul_le_mul_right _ hi4)
          rw [pairs_joined hK1 hK4 hXok hYok hfit, hpart] at h2
          rw [List.length_map] at h2
          obtain ⟨pq, hpq⟩ : ∃ pq, (partS K i A B).length = pq := ⟨_, rfl⟩
          rw [hpq] at h2 hplen
          obtain ⟨p', cp', rfl, hcp'⟩ := row5_shape h2
          have HRP := Lib.hid (reads5_of_row (by rw [List.length_map]; exact hpq) h2)
          have HPQ := Lib.hid hpq
          obtain ⟨R2, hR2⟩ : ∃ R2, sumS K A B (i + 1) = R2 := ⟨_, rfl⟩
          obtain ⟨N2, hN2⟩ : ∃ N2, R2.length = N2 := ⟨_, rfl⟩
          have HM2 : Hid (mrg kU (sumS K A B i) (partS K i A B) = R2) := Lib.hid (by rw [← hR2, sumS])
          have HN2 := Lib.hid hN2
          have HR2 := Lib.hid hR2
          have HOS := Lib.hid (sumS_ok hK4 hA.out hB.out i (by omega))
          have HOP : Hid (∀ x ∈ partS K i A B, okL 8 x) := Lib.hid (by rw [← hpart]; exact prodS_ok hK4 hXok hYok hfit)
          have cv := box1 h1
          have f52 : Fence.wide.fn 52 := trivial
          have HRS := Lib.hid (HS5.out.all)
          have HQ := Lib.hid hq
          have hrs8 : Hid (Reads5 W8 p ((sumS K A B i).map pad5)) := Lib.hid (hR5'.out.below h4)
          clear hpart hslen hi4 h2 hpq hR2 hN2 h1 h3 h6 hXok hYok hfit hq
          gi_wp2_with (gi_at_call 52; refine ((callsIn_wide (n := _)).2 (union_any p p' q pq c cp' (sumS K A B i) (partS K i A B) _ HQ HPQ hqc hcp' (by omega) HOS HOP hrs8 HRP R2 N2 HM2 HN2)).mono ?_; rintro e w9 ⟨p9, c9, rfl, hR9, hB9, hc9⟩)
          have hB59 : Below W5.heap.size W5 w9 := h4.trans (hB9.mono h5)
          have hD9 := marks_below HD5.out hB59
          refine ⟨⟨i + 1, w7.heap.size :: ds, .slice p9 N2 c9, .int .i64 i, .pointer (some ⟨W5.heap.size, 0, none⟩), .bool true, .int .i64 i, .slice px na cx, .int .i64 i, v40, .slice b m cb, .int .i64 K, .int .i64 i, .int .i64 ((K - i : Nat) : Int), v45, .func (.func 80) #[] #[.pointer (some ⟨g1, 0, none⟩), .pointer (some ⟨g2, 0, none⟩)], .slice p q c, .slice p' pq cp', .slice p9 N2 c9, .int .i64 ((i : Int) + 1), by omega, rfl, Lib.hid ⟨⟨p9, N2, c9, rfl, by rw [HR2.out]; exact HN2.out, hc9, by rw [HR2.out]; exact hR9⟩, HS5.out.bk.below hB59, below_then HS5.out.hb hB59, HS5.out.rx.below hB59⟩, Lib.hid ⟨List.nodup_cons.2 ⟨fun h => ?_, hD9.1⟩, fun d hd => ?_⟩⟩, by simp [intOf]; omega⟩
          · have := (Array.getElem?_eq_some_iff.1 (HD5.out.2 _ h).2).1
            omega
          · rcases List.mem_cons.1 hd with rfl | hd
            · exact ⟨by omega, (hB9.block _ (Array.getElem?_eq_some_iff.1 hK8).1).trans hK8⟩
            · exact hD9.2 d hd
        case stop =>
          rintro c2 pre W8 _ h _
          exact h.elim
    · obtain rfl : i = K + 1 := by omega
      obtain ⟨p, q, c, rfl, hq, hqc, hR5⟩ := HS5.out.all
      have hRR := HS.out
      rw [hRR] at hq hR5
      obtain rfl : q = N := hq.symm.trans HN.out
      have hne : ∀ g o, p = some ⟨g, o, none⟩ → 0 < (R.map pad5).length → ∀ d ∈ ds, g ≠ d := fun g o e hpos d hd => by
        rintro rfl
        obtain ⟨b', o', e', _, h5⟩ := hR5 0 hpos
        rw [e] at e'; cases e'
        have h1 := h5.1
        unfold World.cell? at h1
        rw [(HD5.out.2 g hd).2] at h1
        cases h1
      have HB5 := Lib.hid HS5.out.hb
      have HR5 := Lib.hid hR5
      have HNE := Lib.hid hne
      clear hne hR5 hq hRR
      gi_wp2
      refine leaves_marksG (G := fun w' => Below w.heap.size w w' ∧ Reads5 w' p (R.map pad5)) (fun w => results_tmp2 (t := 8) (u := 9) rfl _ _ _) (fun w' hw => ⟨p, c, rfl, hw.2, hw.1, hqc⟩) ds W5 HD5.out.1 (fun d hd => (HD5.out.2 d hd).2) (fun w' d o' hd h => ?_) ⟨HB5.out, HR5.out⟩
      refine ⟨h.1.grown (grownBy_putObj' w' d o') h.1.size (fun j e => by cases e; exact (HD5.out.2 d hd).1), ?_⟩
      exact (ReadsZ.keep (Z := fun r => r ≠ d) ⟨h.2, fun b o e hp => HNE.out b o e hp d hd⟩ (fun r hr => World.putObj_heap_other hr)).1
end Go.Proofs.Ytdahaajfkjmflaa.s14

namespace Go.Proofs.Ytdahaajfkjmflaa.s14
set_option linter.unusedVariables false
set_option linter.unusedSimpArgs false
open Go.RowKit
open kit

open s13

open Go.Shelf
theorem reads_new (w : World) (l : List Int) (t : TypeId) : ReadsI (w.alloc (.cells (l.map (Value.int .i64)).toArray t)) (some ⟨w.heap.size, 0, none⟩) l := fun i hi => ⟨w.heap.size, 0, rfl, by simp, by
  rw [Nat.zero_add]
  unfold World.cell?
  rw [World.alloc_heap_new w _]
  simp [hi]⟩
theorem lx_0 (c : Nat) (w : World) : Calls Try.prog 35 #[.slice none 0 c] w fun e w' => e = .returned (.agg #[.int .i64 0, .int .i64 0, .int .i64 0, .int .i64 0, .int .i64 0]) ∧ Below w.heap.size w w' :=
  lx_any none 0 c [] w (Lib.hid rfl) (by omega) (Lib.hid (fun i hi => by simp at hi)) 0 0 0 0 0 (Lib.hid rfl)
theorem lx_1 (a : Option Addr) (c : Nat) (x : Int) (w : World) (hr : ReadsI w a [x]) : Calls Try.prog 35 #[.slice a 1 c] w fun e w' => e = .returned (.agg #[.int .i64 1, .int .i64 x, .int .i64 0, .int .i64 0, .int .i64 0]) ∧ Below w.heap.size w w' :=
  lx_any a 1 c [x] w (Lib.hid rfl) (by omega) (Lib.hid hr) 1 x 0 0 0 (Lib.hid rfl)
theorem lx_2 (a : Option Addr) (c : Nat) (x y : Int) (w : World) (hr : ReadsI w a [x, y]) : Calls Try.prog 35 #[.slice a 2 c] w fun e w' => e = .returned (.agg #[.int .i64 2, .int .i64 x, .int .i64 y, .int .i64 0, .int .i64 0]) ∧ Below w.heap.size w w' :=
  lx_any a 2 c [x, y] w (Lib.hid rfl) (by omega) (Lib.hid hr) 2 x y 0 0 (Lib.hid rfl)
theorem lset_row (a : Option Addr) (n c : Nat) (l : List V5) (w : World) (hr : Reads5 w a l) : Calls Try.prog 34 #[.slice a n c] w fun e w' => e = .returned (.slice a n c) ∧ Reads5 w' a l ∧ Below w.heap.size w w' :=
  (lset_any (.slice a n c) w).mono (fun e w' ⟨h1, h2⟩ => by subst h2; exact ⟨h1, hr, Below.refl _ _⟩)
theorem map_pad_inj : ∀ {A B : List (List Int)}, (∀ x ∈ A, x.length ≤ 4) → (∀ x ∈ B, x.length ≤ 4) → A.map pad5 = B.map pad5 → A = B
  | [], [], _, _, _ => rfl
  | [], _ :: _, _, _, h => by simp at h
  | _ :: _, [], _, _, h => by simp at h
  | x :: A, y :: B, hA, hB, h => by
    simp only [List.map_cons, List.cons.injEq] at h
    rw [pad5_inj (hA x (List.mem_cons_self ..)) h.1, map_pad_inj (fun z hz => hA z (List.mem_cons_of_mem _ hz)) (fun z hz => hB z (List.mem_cons_of_mem _ hz)) h.2]
/-- Of on right looks -/
theorem pof_set (t : Int) (a : Option Addr) (n c : Nat) (L : List (List Int)) (w : World) (t1 : 1 ≤ t) (t2 : t ≤ 8) (hl : Hid (L.length = n)) (hn : n ≤ 20000) (hL : Hid (∀ x ∈ L, okL t x)) (hr : Hid (Reads5 w a (L.map pad5))) (R : List (List Int)) (N : Nat) (HS : Hid (setS L = R)) (HN : Hid (R.length = N)) :
    Calls Try.prog 13 #[.int .i64 t, .slice a n c] w fun e w' => ∃ p cp, e = .returned (.tuple #[.slice p N cp, .int .i64 0]) ∧ Reads5 w' p (R.map pad5) ∧ Below w.heap.size w w' ∧ N ≤ cp := by
  have h0 : ofP t (L.map pad5) = 0 := by
    unfold ofP
    rw [if_neg (by omega), if_neg (by rw [List.length_map, hl.out]; omega)]
    exact chkOf_ok t1 t2 hL.out
  refine (pof_any t a n c (L.map pad5) w (mlen hl) (by omega) hr 0 (Lib.hid h0)).mono ?_
  rintro e w' ⟨h, hB⟩
  rcases h with ⟨h1, _⟩ | ⟨_, L', p, cp, hE, hok, rfl, hR, hc⟩
  · exact absurd rfl h1
  · obtain rfl : L = L' := map_pad_inj (fun x hx => (hL.out x hx).1) (fun x hx => (hok x hx).1) hE
    rw [HS.out] at hR hc ⊢
    rw [HN.out] at hc ⊢
    exact ⟨p, cp, rfl, hR, hB, hc⟩
set_option maxRecDepth 100000 in
set_option maxHeartbeats 4000000 in
theorem lsums_any (K : Nat) (a b d : Option Addr) (n m o ca cb cd : Nat) (A B : List (List Int)) (D : List V5) (w : World) (hK1 : 1 ≤ K) (hK4 : K ≤ 4) (hn : Hid (A.length = n)) (hm : Hid (B.length = m)) (hd : Hid (D.length = o)) (hn6 : n ≤ 100) (hm6 : m ≤ 100) (ho : o ≤ 10000) (hca : n ≤ ca) (hcb : m ≤ cb) (hA : Hid (∀ x ∈ A, okL 8 x)) (hB : Hid (∀ x ∈ B, okL 8 x)) (ra : Hid (Reads5 w a (A.map pad5))) (rb : Hid (Reads5 w b (B.map pad5))) (rd : Hid (Reads5 w d D)) (HR : Hid (chkA 3 [A.map pad5, B.map pad5] = 0)) (r : Bool) (H : Hid (decide ((sumS K A B (K + 1)).map pad5 = D) = r)) :
    Calls Try.prog 36 #[.int .i64 K, .slice a n ca, .slice b m cb, .slice d o cd] w fun e w' => e = .returned (.bool r) ∧ Below w.heap.size w w' := by
  obtain ⟨R, hR⟩ : ∃ R, sumS K A B (K + 1) = R := ⟨_, rfl⟩
  obtain ⟨N, hN⟩ : ∃ N, R.length = N := ⟨_, rfl⟩
  have hnm : n * m ≤ 10000 := by have := Nat.mul_le_mul hn6 hm6; omega
  have hNb : N ≤ 100000 := by
    have h := sumS_len K A B (K + 1)
    rw [hR, hN, hn.out, hm.out] at h
    have : (K + 1) * (n * m) ≤ 5 * 10000 := Nat.mul_le_mul (by omega) hnm
    omega
  have HRR := Lib.hid hR
  have HNN := Lib.hid hN
  have H2 : Hid (decide (R.map pad5 = D) = r) := Lib.hid (by rw [← hR]; exact H.out)
  clear hR hN
  go_enter Try.func36, Try.ntmps36
  go_wp2_with (first
    | (go_at_call 30; refine (psum_ok 3 K a b n m ca cb A B _ hK1 hK4 hn hm (by omega) (by omega) hnm hca hcb hA hB ra rb HR R N HRR HNN).mono ?_; rintro e w1 ⟨p, cp, rfl, hR1, hB1, hc1⟩; have R1 := Lib.hid hR1; have B1 := Lib.hid hB1; clear hR1 hB1)
    | (go_at_call 15; refine (lsame_any p d N o cp cd (R.map pad5) D _ (mlen HNN) hd hNb (by omega) R1 (Lib.hid (rd.out.below B1.out)) r H2).mono ?_; rintro e w2 ⟨rfl, hB2⟩; have B2 := Lib.hid (below_then B1.out hB2); clear hB2))
  go_ret
  exact ⟨rfl, B2.out⟩
end Go.Proofs.Ytdahaajfkjmflaa.s14

namespace Go.Proofs.Ytdahaajfkjmflaa.s14
set_option linter.unusedVariables false
set_option linter.unusedSimpArgs false
open Go.RowKit
open kit

open s13

open Go.Shelf
theorem cutS_set (K : Nat) {L : List (List Int)} (h : Asc L) : cutS K L = setS (L.map (List.take K)) := setS_eq (cutS_asc K h) (fun z => by rw [cutS_mem, List.mem_map])
theorem mrgU_set {A B : List (List Int)} (ha : Asc A) (hb : Asc B) : mrg kU A B = setS (A ++ B) := setS_eq (asc_mrg kU A B ha hb) (fun z => by rw [mem_mrg kU z A B ha hb, inM_U, List.mem_append])
theorem mrgM_set {A B : List (List Int)} (ha : Asc A) (hb : Asc B) : mrg kM A B = setS (A.filter (fun x => B.contains x)) := setS_eq (asc_mrg kM A B ha hb) (fun z => by rw [mem_mrg kM z A B ha hb, inM_M, List.mem_filter, List.contains_iff_mem])
theorem mrgL_set {A B : List (List Int)} (ha : Asc A) (hb : Asc B) : mrg s14.kL A B = setS (A.filter (fun x => !B.contains x)) := setS_eq (asc_mrg s14.kL A B ha hb) (fun z => by rw [mem_mrg s14.kL z A B ha hb, inM_L, List.mem_filter]; simp)
theorem sumS_set (K : Nat) {A B : List (List Int)} (ha : Asc A) (hb : Asc B) : sumS K A B (K + 1) = setS (A.flatMap fun x => B.map fun y => (x ++ y).take K) := setS_eq (sumS_asc K ha hb _) (fun z => by
  rw [sum_mem K ha hb, List.mem_flatMap]
  constructor
  · rintro ⟨x, hx, y, hy, e⟩; exact ⟨x, hx, List.mem_map.2 ⟨y, hy, e⟩⟩
  · rintro ⟨x, hx, h⟩; obtain ⟨y, hy, e⟩ := List.mem_map.1 h; exact ⟨x, hx, y, hy, e⟩)
theorem fold_mem {z : List Int} : ∀ (Ls : List (List (List Int))) (A : List (List Int)), Asc A → (∀ L ∈ Ls, Asc L) → (z ∈ Ls.foldl (mrg kU) A ↔ z ∈ A ∨ z ∈ Ls.flatten)
  | [], A, _, _ => by simp
  | L :: Ls, A, hA, h => by
    have hL := h L (List.mem_cons_self ..)
    rw [List.foldl_cons, fold_mem Ls _ (asc_mrg kU A L hA hL) (fun M hM => h M (List.mem_cons_of_mem _ hM)), mem_mrg kU z A L hA hL, inM_U, List.flatten_cons, List.mem_append, or_assoc]
theorem uni_asc {Ls : List (List (List Int))} (h : ∀ L ∈ Ls, Asc L) : Asc (uniS Ls) := fold_asc Ls [] asc_nil h
theorem uni_mem {z : List Int} {Ls : List (List (List Int))} (h : ∀ L ∈ Ls, Asc L) : z ∈ uniS Ls ↔ z ∈ Ls.flatten := by
  unfold uniS
  rw [fold_mem Ls [] asc_nil h]; simp
theorem uni_set {Ls : List (List (List Int))} (h : ∀ L ∈ Ls, Asc L) : uniS Ls = setS Ls.flatten := setS_eq (uni_asc h) (fun _ => uni_mem h)
theorem setS_ok {t : Int} {L : List (List Int)} (h : ∀ x ∈ L, okL t x) : ∀ x ∈ setS L, okL t x := fun x hx => h x ((setS_mem x L).1 hx)
def okB (t : Int) (l : List Int) : Bool := decide (l.length ≤ 4) && l.all (fun x => decide (0 ≤ x) && decide (x < t))
theorem ok_of {t : Int} {L : List (List Int)} (h : L.all (okB t) = true) : ∀ x ∈ L, okL t x := fun x hx => by
  have h1 := List.all_eq_true.1 h x hx
  unfold okB at h1
  rw [Bool.and_eq_true, decide_eq_true_eq, List.all_eq_true] at h1
  exact ⟨h1.1, fun y hy => by have := h1.2 y hy; simpa using this⟩
def ascB : List (List Int) → Bool
  | [] => true
  | x :: l => l.all (fun y => decide (cmpL x y < 0)) && ascB l
theorem asc_of : ∀ {L : List (List Int)}, ascB L = true → Asc L
  | [], _ => asc_nil
  | x :: l, h => by
    rw [ascB, Bool.and_eq_true, List.all_eq_true] at h
    exact asc_cons.2 ⟨fun y hy => by simpa using h.1 y hy, asc_of h.2⟩
def knownB (L R : List (List Int)) : Bool := ascB R && (R.all (fun x => L.contains x) && L.all (fun x => R.contains x))
theorem known {L R : List (List Int)} (h : knownB L R = true) : setS L = R := by
  unfold knownB at h
  rw [Bool.and_eq_true, Bool.and_eq_true, List.all_eq_true, List.all_eq_true] at h
  exact (setS_eq (asc_of h.1) (fun z => ⟨fun hz => by simpa using h.2.1 z hz, fun hz => by simpa using h.2.2 z hz⟩)).symm
theorem chkM_sets {t : Int} (t1 : 1 ≤ t) (t2 : t ≤ 8) : ∀ {Ls : List (List (List Int))}, (∀ L ∈ Ls, Asc L ∧ (∀ x ∈ L, okL t x) ∧ L.length ≤ 4681) → chkM t (pad2 Ls) = 0
  | [], _ => rfl
  | L :: Ls, h => by
    have h1 := h L (List.mem_cons_self ..)
    show (if chkS t (L.map pad5) ≠ 0 then chkS t (L.map pad5) else chkM t (pad2 Ls)) = 0
    rw [if_neg (by simpa using chkS_yes t1 t2 h1.1 h1.2.1 h1.2.2)]
    exact chkM_sets t1 t2 (fun M hM => h M (List.mem_cons_of_mem _ hM))
theorem chkA_sets {t : Int} (t1 : 1 ≤ t) (t2 : t ≤ 8) {Ls : List (List (List Int))} (h : ∀ L ∈ Ls, Asc L ∧ (∀ x ∈ L, okL t x) ∧ L.length ≤ 4681) : chkA t (pad2 Ls) = 0 := by
  unfold chkA; rw [if_neg (by omega)]; exact chkM_sets t1 t2 h
def setB (t : Int) (L : List (List Int)) : Bool := ascB L && (L.all (okB t) && decide (L.length ≤ 4681))
theorem set_of {t : Int} {L : List (List Int)} (h : setB t L = true) : Asc L ∧ (∀ x ∈ L, okL t x) ∧ L.length ≤ 4681 := by
  unfold setB at h
  rw [Bool.and_eq_true, Bool.and_eq_true, decide_eq_true_eq] at h
  exact ⟨asc_of h.1, ok_of h.2.1, h.2.2⟩
theorem chkA_known {t : Int} (t1 : 1 ≤ t) (t2 : t ≤ 8) {Ls : List (List (List Int))} (h : Ls.all (setB t) = true) : chkA t (pad2 Ls) = 0 := chkA_sets t1 t2 (fun L hL => set_of (List.all_eq_true.1 h L hL))
theorem chkS_known {t : Int} (t1 : 1 ≤ t) (t2 : t ≤ 8) {L : List (List Int)} (h : setB t L = true) : chkS t (L.map pad5) = 0 := chkS_yes t1 t2 (set_of h).1 (set_of h).2.1 (set_of h).2.2
theorem test9 : chkS 3 (([[1], [0]] : List (List Int)).map pad5) = 9 := by rfl
theorem test8 : setS ([[1], [0, 1], [], [1]] : List (List Int)) = [[], [0, 1], [1]] := known (by rfl)
theorem uni_known {Ls : List (List (List Int))} {R : List (List Int)} (h : Ls.all (setB 3) = true) (k : knownB Ls.flatten R = true) : uniS Ls = R := (uni_set (fun L hL => (set_of (List.all_eq_true.1 h L hL)).1)).trans (known k)
theorem okk_of {t : Int} {Ls : List (List (List Int))} (h : Ls.all (fun L => L.all (okB t)) = true) : ∀ L ∈ Ls, ∀ x ∈ L, okL t x := fun L hL => ok_of (List.all_eq_true.1 h L hL)
end Go.Proofs.Ytdahaajfkjmflaa.s14

namespace Go.Proofs.Ytdahaajfkjmflaa.s14
set_option linter.unusedVariables false
set_option linter.unusedSimpArgs false
open Go.RowKit
open kit

open s13

open Go.Shelf
set_option maxRecDepth 100000 in
set_option maxHeartbeats 4000000 in
theorem awake_any (w : World) : Calls Try.prog 9 #[] w fun e w' => e = .returned (.bool true) ∧ Below w.heap.size w w' := by
  go_enter Try.func9, Try.ntmps9
  have B : Hid (Below w.heap.size w w) := Lib.hid (Below.refl _ _)
  go_wp2_with (fail)
  go_at_call 35
  refine (lx_1 _ _ 1 _ (reads_new _ [1] _)).mono ?_
  rintro e w1 ⟨rfl, hB⟩
  have hC := (made1 hB).2
  replace B := Lib.hid (below_then B.out hC)
  clear hB hC
  go_wp2_with (fail)
  go_at_call 35
  refine (lx_2 _ _ 0 1 _ (reads_new _ [0, 1] _)).mono ?_
  rintro e w2 ⟨rfl, hB⟩
  have hC := (made1 hB).2
  replace B := Lib.hid (below_then B.out hC)
  clear hB hC
  go_wp2_with (fail)
  go_at_call 35
  refine (lx_0 _ _).mono ?_
  rintro e w3 ⟨rfl, hB⟩
  have hC := hB
  replace B := Lib.hid (below_then B.out hC)
  clear hB hC
  go_wp2_with (fail)
  go_at_call 35
  refine (lx_1 _ _ 1 _ (reads_new _ [1] _)).mono ?_
  rintro e w4 ⟨rfl, hB⟩
  have hC := (made1 hB).2
  replace B := Lib.hid (below_then B.out hC)
  clear hB hC
  go_wp2_with (fail)
  go_at_call 34
  refine (lset_row _ 4 4 (([[1], [0, 1], [], [1]] : List (List Int)).map pad5) _ (reads5_block (Box.new _ _ _) rfl)).mono ?_
  rintro e w5 ⟨rfl, hR, hB⟩
  have R0 := Lib.hid hR
  have hC := (made1 hB).2
  replace B := Lib.hid (below_then B.out hC)
  clear hB hC
  clear hR
  go_wp2_with (fail)
  go_at_call 13
  refine (pof_set 3 _ 4 4 ([[1], [0, 1], [], [1]] : List (List Int)) _ (by omega) (by omega) (Lib.hid rfl) (by omega) (Lib.hid (ok_of (by rfl))) R0 ([[], [0, 1], [1]] : List (List Int)) 3 (Lib.hid (known (by rfl))) (Lib.hid rfl)).mono ?_
  rintro e w6 ⟨p6, cp6, rfl, hR, hB, hp6⟩
  have R1 := Lib.hid hR
  have hC := hB
  replace R0 := Lib.hid (R0.out.below hC)
  replace B := Lib.hid (below_then B.out hC)
  clear hB hC
  clear hR
  go_wp2_with (fail)
  go_at_call 35
  refine (lx_0 _ _).mono ?_
  rintro e w7 ⟨rfl, hB⟩
  have hC := hB
  replace R0 := Lib.hid (R0.out.below hC)
  replace R1 := Lib.hid (R1.out.below hC)
  replace B := Lib.hid (below_then B.out hC)
  clear hB hC
  go_wp2_with (fail)
  go_at_call 35
  refine (lx_2 _ _ 0 1 _ (reads_new _ [0, 1] _)).mono ?_
  rintro e w8 ⟨rfl, hB⟩
  have hC := (made1 hB).2
  replace R0 := Lib.hid (R0.out.below hC)
  replace R1 := Lib.hid (R1.out.below hC)
  replace B := Lib.hid (below_then B.out hC)
  clear hB hC
  go_wp2_with (fail)
  go_at_call 35
  refine (lx_1 _ _ 1 _ (reads_new _ [1] _)).mono ?_
  rintro e w9 ⟨rfl, hB⟩
  have hC := (made1 hB).2
  replace R0 := Lib.hid (R0.out.below hC)
  replace R1 := Lib.hid (R1.out.below hC)
  replace B := Lib.hid (below_then B.out hC)
  clear hB hC
  go_wp2_with (fail)
  go_at_call 34
  refine (lset_row _ 3 3 (([[], [0, 1], [1]] : List (List Int)).map pad5) _ (reads5_block (Box.new _ _ _) rfl)).mono ?_
  rintro e w10 ⟨rfl, hR, hB⟩
  have R2 := Lib.hid hR
  have hC := (made1 hB).2
  replace R0 := Lib.hid (R0.out.below hC)
  replace R1 := Lib.hid (R1.out.below hC)
  replace B := Lib.hid (below_then B.out hC)
  clear hB hC
  clear hR
  go_wp2_with (fail)
  go_at_call 15
  refine (lsame_any _ _ 3 3 _ _ (([[], [0, 1], [1]] : List (List Int)).map pad5) (([[], [0, 1], [1]] : List (List Int)).map pad5) _ (Lib.hid rfl) (Lib.hid rfl) (by omega) (by omega) R1 R2 true (Lib.hid (decide_eq_true rfl))).mono ?_
  rintro e w11 ⟨rfl, hB⟩
  have hC := hB
  replace R0 := Lib.hid (R0.out.below hC)
  replace R1 := Lib.hid (R1.out.below hC)
  replace R2 := Lib.hid (R2.out.below hC)
  replace B := Lib.hid (below_then B.out hC)
  clear hB hC
  go_wp2_with (fail)
  go_at_call 35
  refine (lx_1 _ _ 1 _ (reads_new _ [1] _)).mono ?_
  rintro e w12 ⟨rfl, hB⟩
  have hC := (made1 hB).2
  replace R0 := Lib.hid (R0.out.below hC)
  replace R1 := Lib.hid (R1.out.below hC)
  replace R2 := Lib.hid (R2.out.below hC)
  replace B := Lib.hid (below_then B.out hC)
  clear hB hC
  go_wp2_with (fail)
  go_at_call 35
  refine (lx_1 _ _ 0 _ (reads_new _ [0] _)).mono ?_
  rintro e w13 ⟨rfl, hB⟩
  have hC := (made1 hB).2
  replace R0 := Lib.hid (R0.out.below hC)
  replace R1 := Lib.hid (R1.out.below hC)
  replace R2 := Lib.hid (R2.out.below hC)
  replace B := Lib.hid (below_then B.out hC)
  clear hB hC
  go_wp2_with (fail)
  go_at_call 34
  refine (lset_row _ 2 2 (([[1], [0]] : List (List Int)).map pad5) _ (reads5_block (Box.new _ _ _) rfl)).mono ?_
  rintro e w14 ⟨rfl, hR, hB⟩
  have R3 := Lib.hid hR
  have hC := (made1 hB).2
  replace R0 := Lib.hid (R0.out.below hC)
  replace R1 := Lib.hid (R1.out.below hC)
  replace R2 := Lib.hid (R2.out.below hC)
  replace B := Lib.hid (below_then B.out hC)
  clear hB hC
  clear hR
  go_wp2_with (fail)
  go_at_call 11
  refine (pset_any 3 _ 2 2 (([[1], [0]] : List (List Int)).map pad5) _ (Lib.hid rfl) (by omega) R3 9 (Lib.hid (by rfl))).mono ?_
  rintro e w15 ⟨rfl, hB⟩
  have hC := hB
  replace R0 := Lib.hid (R0.out.below hC)
  replace R1 := Lib.hid (R1.out.below hC)
  replace R2 := Lib.hid (R2.out.below hC)
  replace R3 := Lib.hid (R3.out.below hC)
  replace B := Lib.hid (below_then B.out hC)
  clear hB hC
  go_wp2_with (fail)
  go_at_call 35
  refine (lx_0 _ _).mono ?_
  rintro e w16 ⟨rfl, hB⟩
  have hC := hB
  replace R0 := Lib.hid (R0.out.below hC)
  replace R1 := Lib.hid (R1.out.below hC)
  replace R2 := Lib.hid (R2.out.below hC)
  replace R3 := Lib.hid (R3.out.below hC)
  replace B := Lib.hid (below_then B.out hC)
  clear hB hC
  go_wp2_with (fail)
  go_at_call 35
  refine (lx_1 _ _ 0 _ (reads_new _ [0] _)).mono ?_
  rintro e w17 ⟨rfl, hB⟩
  have hC := (made1 hB).2
  replace R0 := Lib.hid (R0.out.below hC)
  replace R1 := Lib.hid (R1.out.below hC)
  replace R2 := Lib.hid (R2.out.below hC)
  replace R3 := Lib.hid (R3.out.below hC)
  replace B := Lib.hid (below_then B.out hC)
  clear hB hC
  go_wp2_with (fail)
  go_at_call 34
  refine (lset_row _ 2 2 (([[], [0]] : List (List Int)).map pad5) _ (reads5_block (Box.new _ _ _) rfl)).mono ?_
  rintro e w18 ⟨rfl, hR, hB⟩
  have R4 := Lib.hid hR
  have hC := (made1 hB).2
  replace R0 := Lib.hid (R0.out.below hC)
  replace R1 := Lib.hid (R1.out.below hC)
  replace R2 := Lib.hid (R2.out.below hC)
  replace R3 := Lib.hid (R3.out.below hC)
  replace B := Lib.hid (below_then B.out hC)
  clear hB hC
  clear hR
  go_wp2_with (fail)
  go_at_call 35
  refine (lx_1 _ _ 1 _ (reads_new _ [1] _)).mono ?_
  rintro e w19 ⟨rfl, hB⟩
  have hC := (made1 hB).2
  replace R0 := Lib.hid (R0.out.below hC)
  replace R1 := Lib.hid (R1.out.below hC)
  replace R2 := Lib.hid (R2.out.below hC)
  replace R3 := Lib.hid (R3.out.below hC)
  replace R4 := Lib.hid (R4.out.below hC)
  replace B := Lib.hid (below_then B.out hC)
  clear hB hC
  go_wp2_with (fail)
  go_at_call 35
  refine (lx_2 _ _ 1 2 _ (reads_new _ [1, 2] _)).mono ?_
  rintro e w20 ⟨rfl, hB⟩
  have hC := (made1 hB).2
  replace R0 := Lib.hid (R0.out.below hC)
  replace R1 := Lib.hid (R1.out.below hC)
  replace R2 := Lib.hid (R2.out.below hC)
  replace R3 := Lib.hid (R3.out.below hC)
  replace R4 := Lib.hid (R4.out.below hC)
  replace B := Lib.hid (below_then B.out hC)
  clear hB hC
  go_wp2_with (fail)
  go_at_call 34
  refine (lset_row _ 2 2 (([[1], [1, 2]] : List (List Int)).map pad5) _ (reads5_block (Box.new _ _ _) rfl)).mono ?_
  rintro e w21 ⟨rfl, hR, hB⟩
  have R5 := Lib.hid hR
  have hC := (made1 hB).2
  replace R0 := Lib.hid (R0.out.below hC)
  replace R1 := Lib.hid (R1.out.below hC)
  replace R2 := Lib.hid (R2.out.below hC)
  replace R3 := Lib.hid (R3.out.below hC)
  replace R4 := Lib.hid (R4.out.below hC)
  replace B := Lib.hid (below_then B.out hC)
  clear hB hC
  clear hR
  go_wp2_with (fail)
  go_at_call 35
  refine (lx_2 _ _ 0 1 _ (reads_new _ [0, 1] _)).mono ?_
  rintro e w22 ⟨rfl, hB⟩
  have hC := (made1 hB).2
  replace R0 := Lib.hid (R0.out.below hC)
  replace R1 := Lib.hid (R1.out.below hC)
  replace R2 := Lib.hid (R2.out.below hC)
  replace R3 := Lib.hid (R3.out.below hC)
  replace R4 := Lib.hid (R4.out.below hC)
  replace R5 := Lib.hid (R5.out.below hC)
  replace B := Lib.hid (below_then B.out hC)
  clear hB hC
  go_wp2_with (fail)
  go_at_call 35
  refine (lx_1 _ _ 1 _ (reads_new _ [1] _)).mono ?_
  rintro e w23 ⟨rfl, hB⟩
  have hC := (made1 hB).2
  replace R0 := Lib.hid (R0.out.below hC)
  replace R1 := Lib.hid (R1.out.below hC)
  replace R2 := Lib.hid (R2.out.below hC)
  replace R3 := Lib.hid (R3.out.below hC)
  replace R4 := Lib.hid (R4.out.below hC)
  replace R5 := Lib.hid (R5.out.below hC)
  replace B := Lib.hid (below_then B.out hC)
  clear hB hC
  go_wp2_with (fail)
  go_at_call 35
  refine (lx_2 _ _ 1 2 _ (reads_new _ [1, 2] _)).mono ?_
  rintro e w24 ⟨rfl, hB⟩
  have hC := (made1 hB).2
  replace R0 := Lib.hid (R0.out.below hC)
  replace R1 := Lib.hid (R1.out.below hC)
  replace R2 := Lib.hid (R2.out.below hC)
  replace R3 := Lib.hid (R3.out.below hC)
  replace R4 := Lib.hid (R4.out.below hC)
  replace R5 := Lib.hid (R5.out.below hC)
  replace B := Lib.hid (below_then B.out hC)
  clear hB hC
  go_wp2_with (fail)
  go_at_call 34
  refine (lset_row _ 3 3 (([[0, 1], [1], [1, 2]] : List (List Int)).map pad5) _ (reads5_block (Box.new _ _ _) rfl)).mono ?_
  rintro e w25 ⟨rfl, hR, hB⟩
  have R6 := Lib.hid hR
  have hC := (made1 hB).2
  replace R0 := Lib.hid (R0.out.below hC)
  replace R1 := Lib.hid (R1.out.below hC)
  replace R2 := Lib.hid (R2.out.below hC)
  replace R3 := Lib.hid (R3.out.below hC)
  replace R4 := Lib.hid (R4.out.below hC)
  replace R5 := Lib.hid (R5.out.below hC)
  replace B := Lib.hid (below_then B.out hC)
  clear hB hC
  clear hR
  go_wp2_with (fail)
  go_at_call 36
  refine (lsums_any 2 _ _ _ 2 2 3 _ _ _ ([[], [0]] : List (List Int)) ([[1], [1, 2]] : List (List Int)) (([[0, 1], [1], [1, 2]] : List (List Int)).map pad5) _ (by omega) (by omega) (Lib.hid rfl) (Lib.hid rfl) (Lib.hid rfl) (by omega) (by omega) (by omega) (Nat.le_refl _) (Nat.le_refl _) (Lib.hid (ok_of (by rfl))) (Lib.hid (ok_of (by rfl))) R4 R5 R6 (Lib.hid (chkA_known (Ls := [([[], [0]] : List (List Int)), ([[1], [1, 2]] : List (List Int))]) (by omega) (by omega) (by rfl))) true (Lib.hid (decide_eq_true (congrArg (List.map pad5) ((sumS_set 2 (asc_of (by rfl)) (asc_of (by rfl))).trans (known (by rfl))))))).mono ?_
  rintro e w26 ⟨rfl, hB⟩
  have hC := hB
  replace R0 := Lib.hid (R0.out.below hC)
  replace R1 := Lib.hid (R1.out.below hC)
  replace R2 := Lib.hid (R2.out.below hC)
  replace R3 := Lib.hid (R3.out.below hC)
  replace R4 := Lib.hid (R4.out.below hC)
  replace R5 := Lib.hid (R5.out.below hC)
  replace R6 := Lib.hid (R6.out.below hC)
  replace B := Lib.hid (below_then B.out hC)
  clear hB hC
  go_wp2
  go_ret
  exact ⟨rfl, B.out⟩
end Go.Proofs.Ytdahaajfkjmflaa.s14

namespace Go.Proofs.Ytdahaajfkjmflaa.s14
set_option linter.unusedVariables false
set_option linter.unusedSimpArgs false
open Go.RowKit
open kit

open s13

open Go.Shelf
/-- a built slice of looks -/
def Sl5 (L : List (List Int)) : Sp := .rel fun v w => ∃ a, v = .slice a L.length L.length ∧ Reads5 w a (L.map pad5)
theorem Sl5.keeps (L : List (List Int)) : (Sl5 L).Keeps := by
  rintro v w w' ⟨a, e, h⟩ hB
  exact ⟨a, e, h.below hB⟩
theorem flat5_of : ∀ (L : List (List Int)), ((L.map fun x => lkV (pad5 x)).flatMap fun v => v.cells.toList) = flat5 (L.map pad5)
  | [] => rfl
  | x :: L => by
    rw [List.map_cons, List.flatMap_cons, flat5_of L]
    rfl
theorem step_slice5 {l : List Oper} {S : List Sp} {a A : Act} {o : Oper} {w : World} (h : Pre l S a o A w) (hg : guardB l S o = true) (len : Nat) (ps : Array (Nat × Operand)) (L : List (List Int)) (hop : o.op = .buildSlice 22 len ps) (hlen : len = L.length) (hpos : 0 < len) (hsmall : len ≤ 1000)
    (hps : partsAt l S o ps.toList = some (((L.map fun x => lkV (pad5 x)).zipIdx 0).map fun x => (x.2, x.1))) : stepOk Try.prog l o A w (Sl5 L) := by
  refine step_of h hg ?_
  obtain ⟨i0, hi0, hz1, hz2, hz3⟩ := info_parts info5
  have he := partsAt_eval h hps
  have hrun := run_buildSlice (P := Try.prog) w 22 25 len (ps.map fun (i, x) => (i, A.eval x)) ((L.map fun x => lkV (pad5 x)).flatMap fun v => v.cells.toList).toArray i0 _ (by kernel_rfl) hi0 hz1 (by rw [hz2]; omega) (by rw [hz2]; omega) (by
    rw [Array.toList_map, he, hz2]
    exact Great.fill_whole (by omega) _ _ (fun v hv => by obtain ⟨n, _, rfl⟩ := List.mem_map.1 hv; rfl) (by simp [hlen]))
  unfold specAt execOp
  rw [hop]
  simp only [Sem.run_bind, hrun, Result.andThen_ok]
  subst hlen
  exact ⟨(Below.refl _ _).alloc (Nat.le_refl _) _, _, rfl, reads5_block (Box.new _ _ _) (by rw [← flat5_of])⟩
end Go.Proofs.Ytdahaajfkjmflaa.s14
