/-
  The contracts of the program's digits (an iterator), join, Bytes and List.
-/
import Derived.WalkMore
import Derived.RangeFuncNested
import Derived.RangeFuncBound
import Derived.RangeFuncCalls
import Derived.RangeFuncLeaves
import Derived.RangeFuncBox
import Derived.Shelf.Abstract
import Derived.Shelf.RegionOpen
import Derived.OwnWalkIn
import Derived.TacticsInMore
import Derived.LoopNIn
import Derived.LoopIn
import Derived.Maps.AppendAt
import Derived.Test.YtniimoebgajefaaWalksB
namespace Go.Proofs.Ytniimoebgajefaa
open Go.RowKit Go.Shelf
attribute [local go_sem] Oper.semAt_some

theorem stepR_scope {P : Program} {b : Frame} {a : Act} {k : List Item} {cs : List Frame} {w : World} {c : Code} : step P (lone (b.atR a (.code (.scope c) :: k)) cs w) = .next (lone (b.atR a (.code c :: .inScope c :: k)) cs w) :=
  step_lone_go (by simp [stepG, stepG.exec, Frame.atR])
theorem stepR_inScope {P : Program} {b : Frame} {a : Act} {k : List Item} {cs : List Frame} {w : World} {c : Code} : step P (lone (b.atR a (.inScope c :: k)) cs w) = .next (lone (b.atR a k) cs w) :=
  step_lone_go (by simp [stepG, stepG.exec, Frame.atR])
/-- a scope through which the run goes without a goto, inside a fence -/
theorem wpIn_scope_straight {F : Fence} {n : Nat} {P : Program} {Q : Exit → Act → World → Prop} {a : Act} {w : World} {c : Code} (h : c.wpIn F n P (Exit.noGoto Q) a w) : (Code.scope c).wpIn F n P Q a w := by
  intro b k cs hro hb hr
  have h0 : (lone (b.atR a (.code (.scope c) :: k)) cs w).fenced P F := fenced_calm hb hr rfl
  obtain ⟨e, a₁, w₁, hq, harr⟩ := h b (.inScope c :: k) cs hro hb hr
  cases e with
  | normal => exact ⟨.normal, a₁, w₁, hq, .head h0 stepR_scope (StepsIn.trans harr (.one (fenced_calm hb hr rfl) stepR_inScope))⟩
  | exit id => exact ⟨.exit id, a₁, w₁, hq, fun k' hk => .head h0 stepR_scope (harr.1 k' (by simpa [exitTo] using hk)),
      fun hr' hk => let ⟨k₁, h1, h2⟩ := harr.2 hr' (by simpa [exitTo] using hk); ⟨k₁, h1, .head h0 stepR_scope h2⟩⟩
  | goto l => exact hq.elim
  | ret => exact ⟨_, a₁, w₁, hq, .of_steps (.one h0 stepR_scope) harr⟩
  | panic ch => exact ⟨_, a₁, w₁, hq, .of_steps (.one h0 stepR_scope) harr⟩
  | outgrown => exact ⟨_, a₁, w₁, hq, .of_steps (.one h0 stepR_scope) harr⟩

theorem digits_in (F : Fence) (n : Nat) (h5 : F.fn 54) (hro : F.round = none) (x : Int) (w : World) :
    CallsIn F n Try.prog 54 #[.int .u64 x] w fun e w' => e = .returned (.func (.func 55) #[] #[.pointer (some ⟨w.heap.size, 0, none⟩)]) ∧ w' = w.alloc (.cells #[.int .u64 x] 74) := by
  refine callsIn_of_wp Try.func54 rfl h5 ?_ hro
  simp only [Try.ntmps54, List.size_toArray, List.length_cons, List.length_nil, Nat.reduceAdd, Nat.reduceSub, Array.replicate_succ, Array.replicate_zero, List.push_toArray, List.append_toArray, List.nil_append, List.cons_append]
  gi_wp2
  go_ret
  exact ⟨rfl, rfl⟩

set_option maxRecDepth 100000 in
set_option maxHeartbeats 1000000 in
theorem digits1_in (F : Fence) (n : Nat) (h6 : F.fn 55) (hro : F.round = none) (hn : 1 ≤ n) (l Bn : Nat) (x0 : Int) (h0 : 0 ≤ x0) (h1 : x0 ≤ 18446744073709551615) (J Jx : List Int → World → Prop)
    (hY : ∀ pre x W, J pre W → pre.length < (digs x0).length → YieldAt F (n - 1) Try.prog l #[.int .u8 x] W fun e W' =>
      (e = .returned (.bool true) ∧ J (pre ++ [x]) W' ∧ True) ∨ (e = .returned (.bool false) ∧ Jx (pre ++ [x]) W'))
    (W : World) (hBn : W.cell? ⟨Bn, 0, none⟩ = some (.int .u64 x0)) (hJ0 : J [] W) :
    CallsIn F n Try.prog 55 #[.func (.yield l) #[] #[], .pointer (some ⟨Bn, 0, none⟩)] W fun e W' => (∃ v, e = .returned v) ∧
      ((∃ ys, ys = digs x0 ∧ J ys W') ∨ (∃ pre : List Int, True ∧ Jx pre W')) := by
  refine callsIn_of_wp Try.func55 rfl h6 ?_ hro
  simp only [Try.ntmps55, List.size_toArray, List.length_cons, List.length_nil, Nat.reduceAdd, Nat.reduceSub, Array.replicate_succ, Array.replicate_zero, List.push_toArray, List.append_toArray, List.nil_append, List.cons_append]
  gi_wp2
  refine wpIn_scope_straight ?_
  refine wpIn_seq ?_
  refine wpIn_label ?_
  gi_wp2
  gi_loopw [3] (fun r wr => ∃ (x : Int) (pre : List Int), r = .int .u64 x ∧ 0 ≤ x ∧ x ≤ 18446744073709551615 ∧ pre ++ digs x = digs x0 ∧ J pre wr)
    (fun r _ => (intOf r).toNat)
  case atStart => exact ⟨x0, [], rfl, h0, h1, rfl, hJ0⟩
  case round =>
    obtain ⟨x, pre, rfl, hx1, hx2, hp, hJs⟩ := hrel
    have hpl : pre.length < (digs x0).length := by
      have := congrArg List.length hp
      have := digs_pos x
      simp at *; omega
    have hP := Lib.hid hp
    clear hp
    by_cases hlt : 128 ≤ x
    · have hd := Lib.hid (digs_more hlt)
      have ho := Lib.hid (or128' (x % 256) (by omega) (by omega))
      obtain ⟨fn, tmps, assign, body, hy, hR⟩ := hY pre (bits BinOp.or IntKind.u8 (x % 256) 128) wr hJs hpl
      gi_wp2
      refine hR.mono ?_
      rintro e W3 (⟨rfl, hJ3, _⟩ | ⟨rfl, hJx3⟩)
      · gi_wp2
        go_roundw
        case rel => exact ⟨x / 128, _, rfl, by omega, by omega, by rw [← hP.out, hd.out, ho.out, show x % 256 % 128 = x % 128 by omega]; simp, hJ3⟩
        case measure => simp [intOf]; omega
      · gi_wp2
        rw [Exit.noGoto_normal]
        go_end0
        exact ⟨⟨_, rfl⟩, .inr ⟨_, trivial, hJx3⟩⟩
    · have hd := Lib.hid (digs_last (r := x) (by omega))
      obtain ⟨fn, tmps, assign, body, hy, hR⟩ := hY pre x wr hJs hpl
      gi_wp2
      refine hR.mono ?_
      rintro e W3 (⟨rfl, hJ3, _⟩ | ⟨rfl, hJx3⟩)
      · gi_wp2
        rw [Exit.noGoto_normal]
        go_end0
        exact ⟨⟨_, rfl⟩, .inl ⟨_, by rw [← hP.out, hd.out], hJ3⟩⟩
      · gi_wp2
        rw [Exit.noGoto_normal]
        go_end0
        exact ⟨⟨_, rfl⟩, .inr ⟨_, trivial, hJx3⟩⟩

theorem digits_stops (F : Fence) (n : Nat) (h6 : F.fn 55) (hro : F.round = none) (hn : 1 ≤ n) (Bn : Nat) (x0 : Int) (h0 : 0 ≤ x0) (h1 : x0 ≤ 18446744073709551615) (w : World) (hBn : Bn < w.heap.size) (hc : w.cell? ⟨Bn, 0, none⟩ = some (.int .u64 x0)) :
    SeqStopsK F n Try.prog 55 #[.pointer (some ⟨Bn, 0, none⟩)] (fun x : Int => #[Value.int .u8 x]) (fun _ _ => True) (fun ys => ys = digs x0) (fun _ => True) (digs x0).length w := fun l J Jx W hW _ _ hY hJ0 =>
  digits1_in F n h6 hro hn l Bn x0 h0 h1 J Jx hY W ((hW.cell (p := ⟨Bn, 0, none⟩) hBn).trans hc) hJ0

/-- the marks that the loops over iterators have left among the deferred calls -/
def mark (D : Nat) : Deferred := { target := .collected D, args := #[] }
def Marks (n₀ : Nat) (ds : List Nat) (W : World) : Prop := ds.Nodup ∧ ∀ d ∈ ds, n₀ ≤ d ∧ W.heap[d]? = some (.deferred (some []))
theorem Marks.others {n₀ : Nat} {ds : List Nat} {W W' : World} (h : Marks n₀ ds W) (hk : KeepsOthers W W') : Marks n₀ ds W' :=
  ⟨h.1, fun d hd => ⟨(h.2 d hd).1, hk.same d _ (h.2 d hd).2 rfl⟩⟩
theorem Marks.lt {n₀ : Nat} {ds : List Nat} {W : World} (h : Marks n₀ ds W) : ∀ d ∈ ds, d < W.heap.size := fun d hd => (Array.getElem?_eq_some_iff.1 (h.2 d hd).2).1
theorem marks_own {β : Type} (n₀ B : Nat) (ds : List Nat) (hB : ∀ d ∈ ds, d < B) : OwnFrom B (fun (_ : β) W => Marks n₀ ds W) := by
  intro s W W' row hs hg hr
  refine ⟨hs.1, fun d hd => ⟨(hs.2 d hd).1, (hg.block d (hs.lt d hd) (fun e => ?_)).trans (hs.2 d hd).2⟩⟩
  have := (hr d e.symm).1
  have := hB d hd
  omega
theorem Marks.cons {n₀ D : Nat} {ds : List Nat} {W : World} (h : Marks n₀ ds W) (hn : n₀ ≤ D) (hB : ∀ d ∈ ds, d < D) (hK : W.heap[D]? = some (.deferred (some []))) : Marks n₀ (D :: ds) W := by
  refine ⟨List.nodup_cons.2 ⟨fun hd => by have := hB D hd; omega, h.1⟩, fun d hd => ?_⟩
  rcases List.mem_cons.1 hd with rfl | hd
  · exact ⟨hn, hK⟩
  · exact h.2 d hd
theorem putObj_heap (W : World) (D k : Nat) (o : Obj) (h : k ≠ D) (hk : k < W.heap.size) : (W.putObj D o).heap[k]? = W.heap[k]? :=
  (grownBy_putObj' W D o).block k hk (fun e => h (by simpa using e))
/-- a function leaves through its marks -/
theorem leaves_marks {F : Fence} {n : Nat} {P : Program} {fn : Func} {tmps : Array Value} {R : Ending → World → Prop} {n₀ : Nat} {w0 : World} {v : Value} (hn : n₀ ≤ w0.heap.size)
    (hres : ∀ w, (results fn tmps).run P w = .ok v w) (hR : ∀ w, Below n₀ w0 w → R (.returned v) w) :
    ∀ (ds : List Nat) (w : World), Marks n₀ ds w → Below n₀ w0 w → LeavesInM F n P fn tmps R (ds.map mark) .returning w := by
  intro ds
  induction ds with
  | nil => intro w _ hB; exact ⟨v, hres w, hR w hB⟩
  | cons D ds ih =>
    intro w hM hB
    have hD := hM.2 D (List.mem_cons_self ..)
    refine ⟨by simp, .inl ⟨D, _, rfl, run_takeDeferred hD.2, ih _ ?_ ?_⟩⟩
    · refine ⟨(List.nodup_cons.1 hM.1).2, fun d hd => ⟨(hM.2 d (List.mem_cons_of_mem _ hd)).1, ?_⟩⟩
      have hne : d ≠ D := by rintro rfl; exact (List.nodup_cons.1 hM.1).1 hd
      rw [putObj_heap _ _ _ _ hne (hM.lt d (List.mem_cons_of_mem _ hd))]
      exact (hM.2 d (List.mem_cons_of_mem _ hd)).2
    · exact hB.trans ((Below.refl n₀ w).grown (grownBy_putObj' w D _) (Nat.le_trans hn hB.size) (fun k e => by cases e; exact hD.1))

theorem info5 : (Try.prog.info? 5).map (fun i => (i.zero, i.size, i.bytes)) = some (some (.int .u8 0), 1, 1) := by kernel_rfl
end Go.Proofs.Ytniimoebgajefaa
