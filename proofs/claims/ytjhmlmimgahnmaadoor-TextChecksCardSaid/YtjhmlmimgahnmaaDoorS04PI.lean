/-
  Layer 4, the program's side: the iterator over a text's lexemes.
-/
import Derived.Test.YtjhmlmimgahnmaaDoorS04PR
import Derived.Test.YtjhmlmimgahnmaaDoorS04L
import Derived.Test.YtjhmlmimgahnmaaDoorKitRange
namespace Go.Proofs.YtjhmlmimgahnmaaDoor.s04
set_option linter.unusedVariables false
set_option linter.unusedSimpArgs false
open Go.RowKit Go.Shelf
open kit
attribute [local go_sem] Oper.semAt_some

/-- what is yielded: a lexeme, and a fault -/
abbrev Yl := Lx × Nat × Nat
abbrev encY (y : Yl) : Array Value := #[lexV y.1, .agg #[.int .i64 (y.2.1 : Int), .int .i64 (y.2.2 : Int)]]
def lisY (l : List Yl) : List Li := l.map fun y => liOf y.1
def isR (o : Obj) : Prop := ∃ cs fz, o = .cells cs 61 fz
/-- what a round that goes on keeps: all cells but lexemes and lists of them -/
def KpL (w w' : World) : Prop := ∀ (b : Nat) (cs : Array Value) (t : TypeId) (fz : Nat × Nat), w.heap[b]? = some (.cells cs t fz) → t ≠ 23 → t ≠ 24 → w'.heap[b]? = some (.cells cs t fz)
theorem KpL.trans {A B C : World} (h : KpL A B) (k : KpL B C) : KpL A C := fun b cs t fz hb h1 h2 => k b cs t fz (h b cs t fz hb h1 h2) h1 h2
theorem KpL.put (W : World) (l : Nat) (o o' : Obj) (hl : W.heap[l]? = some o) (ho : o.isCells = false) : KpL W (W.putObj l o') := fun b cs t fz hb h1 h2 => by
  refine ((grownBy_putObj' W l o').block b (Array.getElem?_eq_some_iff.1 hb).1 fun e => ?_).trans hb
  cases e
  rw [hb] at hl
  cases hl
  cases ho
theorem Box.kp {w w' : World} {t : TypeId} {b : Nat} {xs : Array Value} (h : Box w t b xs) (hk : KpL w w') (h1 : t ≠ 23) (h2 : t ≠ 24) : Box w' t b xs := hk b xs t (0, 0) h h1 h2
theorem Rd.kp {w w' : World} {b : Nat} {s : ByteArray} {k : Nat} {g : Int} (h : Rd w b s k g) (hk : KpL w w') : Rd w' b s k g := Box.kp h hk (by decide) (by decide)
def lexAll (s : ByteArray) : List Li × Nat × Nat := lexS s (s.size + 1) 0 []
/-- the iterator has stopped behind y -/
def StopsAt (s : ByteArray) (pre : List Yl) : Prop := ∃ (p2 : List Yl) (y : Yl) (k f n : Nat), pre = p2 ++ [y] ∧ lexAll s = lexS s (f + 1) k (lisY p2) ∧ nextR s (k : Int) = (y.1, n, y.2.1, y.2.2) ∧ y.2.1 ≠ 5
def EndsAt (s : ByteArray) (ys : List Yl) : Prop := lexAll s = (lisY ys, 0, 0) ∨ (StopsAt s ys ∧ ∃ p2 y, ys = p2 ++ [y] ∧ y.2.1 ≠ 0)
def atOf (w : World) (b : Nat) : Nat := match w.cell? ⟨b, 1, none⟩ with
  | some (.int _ m) => m.toNat
  | _ => 0
theorem atOf_rd {w : World} {b : Nat} {s : ByteArray} {k : Nat} {g : Int} (h : Rd w b s k g) : atOf w b = k := by
  unfold atOf
  rw [(Box.cell3 h).2.1]
  simp
theorem lexemes_any (F : Fence) (n : Nat) (h5 : F.fn 28) (hro : F.round = none) (s : ByteArray) (w : World) :
    CallsIn F n Tryd.prog 28 #[.string s] w fun e w' => e = .returned (.func (.func 38) #[] #[.pointer (some ⟨w.heap.size, 0, none⟩)]) ∧ w' = w.alloc (.cells #[.string s] 9) := by
  refine callsIn_of_wp Tryd.func28 rfl h5 ?_ hro
  simp only [Tryd.ntmps28, List.size_toArray, List.length_cons, List.length_nil, Nat.reduceAdd, Nat.reduceSub, Array.replicate_succ, Array.replicate_zero, List.push_toArray, List.append_toArray, List.nil_append, List.cons_append]
  gi_wp2
  go_ret
  exact ⟨rfl, rfl⟩
set_option maxRecDepth 100000 in
set_option maxHeartbeats 2000000 in
theorem lexIt_in (n : Nat) (hn : 2 ≤ n) (l Bn : Nat) (s : ByteArray) (hs : s.size ≤ 100000) (J Jx : List Yl → World → Prop) (W : World) (hJ : AbQ isR W.heap.size J)
    (hY : ∀ pre x W1, J pre W1 → pre.length < s.size + 1 → YieldAt Fence.wide (n - 1) Tryd.prog l (encY x) W1 fun e W' =>
      (e = .returned (.bool true) ∧ J (pre ++ [x]) W' ∧ KpL W1 W') ∨ (e = .returned (.bool false) ∧ Jx (pre ++ [x]) W'))
    (hB : W.cell? ⟨Bn, 0, none⟩ = some (.string s)) (hJ0 : J [] W) :
    CallsIn Fence.wide n Tryd.prog 38 #[.func (.yield l) #[] #[], .pointer (some ⟨Bn, 0, none⟩)] W fun e W' => (∃ v, e = .returned v) ∧
      ((∃ ys, EndsAt s ys ∧ J ys W') ∨ (∃ pre : List Yl, StopsAt s pre ∧ Jx pre W')) := by
  have HJ0 := Lib.hid (hJ.alloc (.cells #[.string s, .int .i64 0, .int .i64 0] 61) hJ0)
  have HR0 : Hid (Rd (W.alloc (.cells #[.string s, .int .i64 0, .int .i64 0] 61)) W.heap.size s 0 0) := Lib.hid (Box.new W _ _)
  have HBW := Lib.hid (show W.heap.size ≤ W.heap.size from Nat.le_refl _)
  have HY := Lib.hid hY
  have HJ := Lib.hid hJ
  clear hY hJ hJ0
  refine callsIn_of_wp Tryd.func38 rfl trivial ?_ rfl
  simp only [Tryd.ntmps38, List.size_toArray, List.length_cons, List.length_nil, Nat.reduceAdd, Nat.reduceSub, Array.replicate_succ, Array.replicate_zero, List.push_toArray, List.append_toArray, List.nil_append, List.cons_append]
  gi_wp2
  gi_loopw [] (fun wr => ∃ (pre : List Yl) (k f : Nat) (g : Int), k ≤ s.size ∧ s.size - k < f ∧ pre.length ≤ k ∧ Hid (Rd wr W.heap.size s k g) ∧ Hid (J pre wr) ∧ Hid (lexAll s = lexS s f k (lisY pre))) (fun wr => s.size - atOf wr W.heap.size)
  case atStart => exact ⟨[], 0, s.size + 1, 0, by omega, by omega, by simp, HR0, HJ0, Lib.hid rfl⟩
  case round =>
    obtain ⟨pre, k, f, g, hk, hf, hpl, HR, HJk, HL⟩ := hrel
    obtain ⟨f, rfl⟩ : ∃ g, f = g + 1 := ⟨f - 1, by omega⟩
    obtain ⟨⟨kd, tx, pl⟩, m, e1, a1, HN⟩ : ∃ x n e a, Hid (nextR s (k : Int) = (x, n, e, a)) := ⟨_, _, _, _, Lib.hid rfl⟩
    have HAt := Lib.hid (atOf_rd HR.out)
    by_cases h5 : e1 = 5
    · have HE : Hid (EndsAt s pre) := Lib.hid (.inl (by rw [HL.out, lexS, HN.out, if_pos h5]))
      subst h5
      gi_wp2_with (refine ⟨trivial, fun _ => by omega, ?_⟩; (with_reducible refine (callsIn_wide.2 (read_any W.heap.size s k g _ hk (by omega) HR (kd, tx, pl) m 5 a1 HN)).mono ?_); rintro e w1 ⟨at', g', rfl, hat, _, hR1, hG1⟩; have HJ1 := Lib.hid (HJ.out pre _ w1 (some W.heap.size) HJk.out hG1 (fun r e => by cases e; exact ⟨HBW.out, _, HR.out, _, _, rfl⟩)); clear hR1 hG1)
      refine ⟨fun _ h => (by cases h), ?_⟩
      gi_wp2
      refine bodyPost_ret (results_none rfl _ _ _) rfl ?_
      exact ⟨⟨_, rfl⟩, .inl ⟨pre, HE.out, HJ.out.alloc _ (HJ.out.alloc _ HJ1.out)⟩⟩
    · have t5 : ((e1 : Int) == 5) = false := by rw [beq_eq_false_iff_ne]; omega
      have HS : Hid (StopsAt s (pre ++ [((kd, tx, pl), e1, a1)])) := Lib.hid ⟨pre, _, k, f, m, rfl, HL.out, HN.out, h5⟩
      by_cases h0 : e1 = 0
      · have t0 : ((e1 : Int) != 0) = false := by rw [bne_eq_false_iff_eq]; omega
        have hon := nextR_on hk HN.out h0
        have HE : Hid (lexAll s = lexS s f m (lisY (pre ++ [((kd, tx, pl), e1, a1)]))) := Lib.hid (by
          rw [HL.out, lexS, HN.out]
          rw [if_neg (show ¬ e1 = 5 from h5), if_pos (show e1 = 0 from h0)]
          unfold lisY
          rw [List.map_append]; rfl)
        have H0 := Lib.hid h0
        clear h5 h0
        gi_wp2_with (refine ⟨trivial, fun _ => by omega, ?_⟩; (with_reducible refine (callsIn_wide.2 (read_any W.heap.size s k g _ hk (by omega) HR (kd, tx, pl) m e1 a1 HN)).mono ?_); rintro e w1 ⟨at', g', rfl, hat, hat2, hR1, hG1⟩; have HR1 := Lib.hid hR1; have HJ1 := Lib.hid (HJ.out pre _ w1 (some W.heap.size) HJk.out hG1 (fun r e => by cases e; exact ⟨HBW.out, _, HR.out, _, _, rfl⟩)); clear hR1 hG1; obtain ⟨fn, tmps, assign, body, hy, hR⟩ := HY.out pre ((kd, tx, pl), e1, a1) ((w1.alloc (.cells #[.int .i64 (kd : Int), .string tx, .int .i64 (pl : Int)] 23)).alloc (.cells #[.int .i64 (e1 : Int), .int .i64 (a1 : Int)] 37)) (HJ.out.alloc _ (HJ.out.alloc _ HJ1.out)) (by omega); dsimp only [encY, lexV] at hy; have HR3 := Lib.hid ((HR1.out.alloc (.cells #[.int .i64 (kd : Int), .string tx, .int .i64 (pl : Int)] 23)).alloc (.cells #[.int .i64 (e1 : Int), .int .i64 (a1 : Int)] 37)); have HF3 := Lib.hid (Box.new2 w1 (.cells #[.int .i64 (kd : Int), .string tx, .int .i64 (pl : Int)] 23) 37 #[.int .i64 (e1 : Int), .int .i64 (a1 : Int)]))
        refine ⟨fun _ => by omega, hR.mono ?_⟩
        rintro e W3 (⟨rfl, hJ3, hk3⟩ | ⟨rfl, hJx3⟩)
        · obtain ⟨y0, y1⟩ := (HF3.out.kp hk3 (by decide) (by decide)).cell2
          have HR4 := Lib.hid (HR3.out.kp hk3)
          have HJ3 := Lib.hid hJ3
          obtain rfl := hat2 H0.out
          have HM := Lib.hid (atOf_rd HR4.out)
          clear hJ3 hk3 hat2 hR hy
          gi_wp2
          go_roundw
          case rel => exact ⟨_, at', f, g', hat, by omega, by simp; omega, HR4, HJ3, HE⟩
          case measure => rw [HM.out, HAt.out]; omega
        · gi_wp2
          refine bodyPost_ret (results_none rfl _ _ _) rfl ?_
          exact ⟨⟨_, rfl⟩, .inr ⟨_, HS.out, hJx3⟩⟩
      · have t0 : ((e1 : Int) != 0) = true := by rw [bne_iff_ne]; omega
        have HE : Hid (EndsAt s (pre ++ [((kd, tx, pl), e1, a1)])) := Lib.hid (.inr ⟨HS.out, pre, _, rfl, h0⟩)
        clear h5 h0
        gi_wp2_with (refine ⟨trivial, fun _ => by omega, ?_⟩; (with_reducible refine (callsIn_wide.2 (read_any W.heap.size s k g _ hk (by omega) HR (kd, tx, pl) m e1 a1 HN)).mono ?_); rintro e w1 ⟨at', g', rfl, hat, hat2, hR1, hG1⟩; have HR1 := Lib.hid hR1; have HJ1 := Lib.hid (HJ.out pre _ w1 (some W.heap.size) HJk.out hG1 (fun r e => by cases e; exact ⟨HBW.out, _, HR.out, _, _, rfl⟩)); clear hR1 hG1; obtain ⟨fn, tmps, assign, body, hy, hR⟩ := HY.out pre ((kd, tx, pl), e1, a1) ((w1.alloc (.cells #[.int .i64 (kd : Int), .string tx, .int .i64 (pl : Int)] 23)).alloc (.cells #[.int .i64 (e1 : Int), .int .i64 (a1 : Int)] 37)) (HJ.out.alloc _ (HJ.out.alloc _ HJ1.out)) (by omega); dsimp only [encY, lexV] at hy; have HR3 := Lib.hid ((HR1.out.alloc (.cells #[.int .i64 (kd : Int), .string tx, .int .i64 (pl : Int)] 23)).alloc (.cells #[.int .i64 (e1 : Int), .int .i64 (a1 : Int)] 37)); have HF3 := Lib.hid (Box.new2 w1 (.cells #[.int .i64 (kd : Int), .string tx, .int .i64 (pl : Int)] 23) 37 #[.int .i64 (e1 : Int), .int .i64 (a1 : Int)]))
        refine ⟨fun _ => by omega, hR.mono ?_⟩
        rintro e W3 (⟨rfl, hJ3, hk3⟩ | ⟨rfl, hJx3⟩)
        · obtain ⟨y0, y1⟩ := (HF3.out.kp hk3 (by decide) (by decide)).cell2
          clear hk3 hat2 hR hy
          gi_wp2
          refine bodyPost_ret (results_none rfl _ _ _) rfl ?_
          exact ⟨⟨_, rfl⟩, .inl ⟨_, HE.out, hJ3⟩⟩
        · gi_wp2
          refine bodyPost_ret (results_none rfl _ _ _) rfl ?_
          exact ⟨⟨_, rfl⟩, .inr ⟨_, HS.out, hJx3⟩⟩
end Go.Proofs.YtjhmlmimgahnmaaDoor.s04
