/-
  Operations of a region that draws its order, by their specifications: the kinds of operation. Layer 13: the laws' own test of the helpers. Layer 13: the reference's Text. Layer 13: the law of Of, List, Text, Check.
-/
import Derived.Test.YtddackdghphcnaaDoorG05
import Derived.Laws.Tables
import Derived.Great.BuildSlice
import Derived.Test.YtddackdghphcnaaDoorG04
import Derived.Test.YtddackdghphcnaaDoorG03
namespace Go.Proofs.YtddackdghphcnaaDoor.kit
set_option linter.unusedVariables false
set_option linter.unusedSimpArgs false
set_option linter.unnecessarySimpa false
open Go Go.RowKit

def conOf : Option Sp → Option Value
  | some (.con c) => some c
  | _ => none
def dstOf : Option Oper → Option Tmp
  | some o => o.dst
  | none => none
def lookGo (l : List Oper) (S : List Sp) (d : Tmp) : List Edge → Option Value
  | [] => none
  | e :: r => if Region.binds .any e && (dstOf l[e.on]? == some d) then conOf S[e.on]? else lookGo l S d r
/-- what an operand holds, by the specifications -/
def lookAt (l : List Oper) (S : List Sp) (o : Oper) : Operand → Option Value
  | .const v => some v
  | .tmp d => lookGo l S d o.after.toList
  | _ => none
def guardB (l : List Oper) (S : List Sp) (o : Oper) : Bool :=
  match o.guard with
  | none => true
  | some (j, b) => match dstOf l[j]? with
    | some d => match lookAt l S o (.tmp d) with
      | some (.bool c) => c == b
      | _ => false
    | none => false
section
variable {P : Program} {l : List Oper} {S : List Sp} {a A : Act} {o : Oper} {w : World}
theorem lookGo_spec {d : Tmp} {c : Value} : ∀ {es : List Edge}, lookGo l S d es = some c → ∃ e ∈ es, Region.binds .any e = true ∧ (l[e.on]?).bind (·.dst) = some d ∧ S[e.on]? = some (.con c)
  | [], h => by cases h
  | e :: r, h => by
    unfold lookGo at h
    by_cases hb : (Region.binds .any e && (dstOf l[e.on]? == some d)) = true
    · rw [if_pos hb] at h
      simp only [Bool.and_eq_true, beq_iff_eq] at hb
      refine ⟨e, by simp, hb.1, ?_, ?_⟩
      · have := hb.2
        cases hl : l[e.on]? with
        | none => rw [hl] at this; cases this
        | some x => rw [hl] at this; exact this
      · cases hs : S[e.on]? with
        | none => rw [hs] at h; cases h
        | some s => rw [hs] at h; cases s <;> simp [conOf] at h; rw [h]
    · rw [if_neg hb] at h
      obtain ⟨x, hx, h2⟩ := lookGo_spec h
      exact ⟨x, by simp [hx], h2⟩
theorem lookAt_eval (h : Pre l S a o A w) {x : Operand} {c : Value} (hx : lookAt l S o x = some c) : A.eval x = c := by
  cases x with
  | const v => simp [lookAt] at hx; subst hx; rfl
  | tmp d =>
    obtain ⟨e, he, hb, h1, h2⟩ := lookGo_spec hx
    exact h.con e.on (by rw [Array.any_eq_true']; exact ⟨e, by simpa using he, by simp [hb]⟩) h1 h2
  | global g => cases hx
  | func f => cases hx
theorem wanted_of (h : Pre l S a o A w) (hg : guardB l S o = true) : Region.wanted o (yielded l.toArray A.tmps) = true := by
  unfold guardB at hg
  unfold Region.wanted
  cases ho : o.guard with
  | none => rfl
  | some p =>
    obtain ⟨j, b⟩ := p
    rw [ho] at hg
    simp only at hg ⊢
    cases hd : dstOf l[j]? with
    | none => rw [hd] at hg; cases hg
    | some d =>
      rw [hd] at hg
      simp only at hg
      cases hl : lookAt l S o (.tmp d) with
      | none => rw [hl] at hg; cases hg
      | some v =>
        rw [hl] at hg
        have he := lookAt_eval h hl
        cases v <;> simp at hg
        rw [hg] at he
        have hj : (l[j]?).bind (·.dst) = some d := by
          cases hx : l[j]? with
          | none => rw [hx] at hd; cases hd
          | some y => rw [hx] at hd; exact hd
        unfold yielded
        have ht : A.tmps[d]? = some (.bool b) := by
          simp only [Act.eval] at he
          cases hq : A.tmps[d]? with
          | none => simp [Array.getD_eq_getD_getElem?, hq, undef] at he
          | some v => simp [Array.getD_eq_getD_getElem?, hq] at he; rw [he]
        simp only [List.getElem?_toArray, hj, Option.bind_some, ht]
        simp
theorem step_of (h : Pre l S a o A w) (hg : guardB l S o = true) {s : Sp} (hs : specAt P o A w s) : stepOk P l o A w s := .inl ⟨wanted_of h hg, hs⟩
theorem spec_val {s : Sp} {u : Value} (hr : (execOp A.eval o).run P w = .ok (.value u) w) (hu : s.Ok u w) : specAt P o A w s := by
  unfold specAt; rw [hr]; exact ⟨Below.refl _ _, hu⟩
theorem step_move (h : Pre l S a o A w) (hg : guardB l S o = true) (x : Operand) {c : Value} (hop : o.op = .move x) (hx : lookAt l S o x = some c) : stepOk P l o A w (.con c) :=
  step_of h hg (spec_val (u := c) (by unfold execOp; rw [hop, ← lookAt_eval h hx]; rfl) rfl)
theorem step_assign (h : Pre l S a o A w) (hg : guardB l S o = true) (x : Operand) {c : Value} (hop : o.op = .assign x) (hx : lookAt l S o x = some c) : stepOk P l o A w (.con c) :=
  step_of h hg (spec_val (u := c) (by unfold execOp; rw [hop, ← lookAt_eval h hx]; rfl) rfl)
theorem step_move_old (h : Pre l S a o A w) (hg : guardB l S o = true) (t : Tmp) {c : Value} (hop : o.op = .move (.tmp t)) (h1 : (l.all fun x => x.dst != some t) = true) (h2 : a.eval (.tmp t) = c) : stepOk P l o A w (.con c) :=
  step_of h hg (spec_val (u := c) (by unfold execOp; rw [hop, ← h.old t h1 h2]; rfl) rfl)
theorem step_pick (h : Pre l S a o A w) (hg : guardB l S o = true) (x y z : Operand) (b : Bool) {c : Value} (hop : o.op = .pick x y z) (hx : lookAt l S o x = some (.bool b)) (hy : lookAt l S o (if b then y else z) = some c) : stepOk P l o A w (.con c) :=
  step_of h hg (spec_val (u := c) (by
    have e1 := lookAt_eval h hx
    have e2 := lookAt_eval h hy
    unfold execOp; rw [hop]
    cases b
    · simp [e1, asBool] at e2 ⊢; simp [e2]
    · simp [e1, asBool] at e2 ⊢; simp [e2]) rfl)
theorem step_bin (h : Pre l S a o A w) (hg : guardB l S o = true) (op : BinOp) (t t2 : TypeId) (x y : Operand) (u v : Value) {c : Value} (hop : o.op = .binOp op t x y t2) (hx : lookAt l S o x = some u) (hy : lookAt l S o y = some v)
    (hq : ∀ W, (eqGuard op t x y u v).run P W = .ok () W) (hb : ∀ W, (binOp op t u v).run P W = .ok c W) : stepOk P l o A w (.con c) :=
  step_of h hg (spec_val (u := c) (by
    have e1 := lookAt_eval h hx
    have e2 := lookAt_eval h hy
    unfold execOp; rw [hop]
    simp only [e1, e2, Sem.run_bind, hq, hb, Result.andThen_ok]; rfl) rfl)
theorem step_load (h : Pre l S a o A w) (hg : guardB l S o = true) (t : TypeId) (x : Operand) (p : Value) {c : Value} (hop : o.op = .load t x) (hx : A.eval x = p) (hr : (Instr.loadAt t p).run P w = .ok c w) : stepOk P l o A w (.con c) :=
  step_of h hg (spec_val (u := c) (by
    unfold execOp; rw [hop]
    simp only [hx, Sem.run_bind, hr, Result.andThen_ok]; rfl) rfl)
/-- the parts of a literal, by the specifications -/
def partsAt (l : List Oper) (S : List Sp) (o : Oper) : List (Nat × Operand) → Option (List (Nat × Value))
  | [] => some []
  | (i, x) :: r => match lookAt l S o x, partsAt l S o r with
    | some v, some q => some ((i, v) :: q)
    | _, _ => none
theorem partsAt_eval (h : Pre l S a o A w) : ∀ {ps : List (Nat × Operand)} {vs : List (Nat × Value)}, partsAt l S o ps = some vs → ps.map (fun x => (x.1, A.eval x.2)) = vs
  | [], vs, e => by simp [partsAt] at e; subst e; rfl
  | (i, x) :: r, vs, e => by
    unfold partsAt at e
    cases hx : lookAt l S o x with
    | none => simp [hx] at e
    | some v =>
      cases hr : partsAt l S o r with
      | none => simp [hx, hr] at e
      | some q =>
        simp [hx, hr] at e
        subst e
        rw [List.map_cons, partsAt_eval h hr, lookAt_eval h hx]
theorem step_build (h : Pre l S a o A w) (hg : guardB l S o = true) (t : TypeId) (ps : Array (Nat × Operand)) (vs : List (Nat × Value)) (cells : Array Value) (hop : o.op = .build t ps) (hx : partsAt l S o ps.toList = some vs) (hb : P.built t vs = some cells) : stepOk P l o A w (.con (.agg cells)) :=
  step_of h hg (spec_val (u := .agg cells) (by
    unfold execOp; rw [hop]
    have e : (ps.map fun (i, x) => (i, A.eval x)).toList = vs := by rw [Array.toList_map]; exact partsAt_eval h hx
    have := run_build (P := P) w t (ps.map fun (i, x) => (i, A.eval x)) cells (by rw [e]; exact hb)
    simp only [Sem.run_bind, this, Result.andThen_ok]; rfl) rfl)
/-- a slice of integers that reads as xs -/
def SlI (xs : List Int) : Sp := .rel fun v w => ∃ a, v = .slice a xs.length xs.length ∧ ReadsI w a xs
theorem SlI.keeps (xs : List Int) : (SlI xs).Keeps := by
  rintro v w w' ⟨a, e, h⟩ hB
  exact ⟨a, e, h.below hB⟩
theorem con_keeps (c : Value) : (Sp.con c).Keeps := trivial
theorem step_slice (h : Pre l S a o A w) (hg : guardB l S o = true) (t e : TypeId) (len : Nat) (ps : Array (Nat × Operand)) (xs : List Int) (hop : o.op = .buildSlice t len ps)
    (hu : P.underlying t = some (.slice e)) (hsz : (P.info? e).map (·.size) = some 1) (hz : ((P.info? e).bind (·.zero)).isSome = true) (hlen : len = xs.length) (hpos : 0 < len) (hsmall : len ≤ 2 ^ 24)
    (hps : ps.toList = (xs.zipIdx 0).map fun x => (x.2, Operand.const (Value.int .i64 x.1))) : stepOk P l o A w (SlI xs) := by
  refine step_of h hg ?_
  cases hie : P.info? e with
  | none => simp [hie] at hsz
  | some ie =>
    simp only [hie, Option.map_some, Option.some.injEq, Option.bind_some] at hsz hz
    obtain ⟨z, hzz⟩ := Option.isSome_iff_exists.1 hz
    have hrun := run_buildSlice (P := P) w t e len (ps.map fun (i, x) => (i, A.eval x)) (xs.map (Value.int .i64)).toArray ie z hu hie hzz (by rw [hsz]; omega) (by rw [hsz]; omega) (by
      rw [parts_eval A ps .i64 xs hps, hsz]
      exact Great.fill_flat _ _ (fun v hv => by obtain ⟨n, _, rfl⟩ := List.mem_map.1 hv; rfl) (by simp [hlen]))
    unfold specAt execOp
    rw [hop]
    simp only [Sem.run_bind, hrun, Result.andThen_ok]
    subst hlen
    refine ⟨(Below.refl _ _).alloc (Nat.le_refl _) _, _, rfl, fun i hi => ⟨w.heap.size, 0, rfl, by simp, ?_⟩⟩
    rw [Nat.zero_add]
    unfold World.cell?
    rw [World.alloc_heap_new w _]
    simp [hi]
theorem run_enter {f : FuncId} (hf : (P.funcs[f]?).map (fun fn => (fn.name == "runtime.NumGoroutine", fn.body.isSome)) = some (false, true)) (args : Array Value) (w : World) : (callFunc f args).run P w = .ok (.enter f args) w := by
  cases hq : P.funcs[f]? with
  | none => simp [hq] at hf
  | some fn =>
    simp only [hq, Option.map_some, Option.some.injEq, Prod.mk.injEq] at hf
    obtain ⟨h1, h2⟩ := hf
    obtain ⟨c, hc⟩ := Option.isSome_iff_exists.1 h2
    have h3 : fn.name ≠ "runtime.NumGoroutine" := by simpa using h1
    simp [callFunc, hq, h3, hc]
theorem step_call (h : Pre l S a o A w) (hg : guardB l S o = true) (f : FuncId) (c : Call) {s : Sp} (args : Array Value) (hop : o.op = .call c) (hc : c.callee = .value (.func f)) (hf : (P.funcs[f]?).map (fun fn => (fn.name == "runtime.NumGoroutine", fn.body.isSome)) = some (false, true))
    (ha : c.args.map A.eval = args) (hC : Calls P f args w fun e w' => ∃ v, e = .returned v ∧ Below w.heap.size w w' ∧ s.Ok v w') : stepOk P l o A w s := by
  refine step_of h hg ?_
  have e : (execOp A.eval o).run P w = .ok (.enter f args) w := by
    obtain ⟨ca, xs, ts⟩ := c
    simp only at hc ha
    subst hc ha
    unfold execOp
    rw [hop]
    show (callFunc f (#[] ++ xs.map A.eval ++ #[])).run P w = _
    rw [Array.append_empty, Array.empty_append, run_enter hf]
  unfold specAt
  rw [e]
  exact hC
/-- a call that hands back a value, on operands that hold values -/
def argsAt (l : List Oper) (S : List Sp) (o : Oper) : List Operand → Option (List Value)
  | [] => some []
  | x :: r => match lookAt l S o x, argsAt l S o r with
    | some v, some q => some (v :: q)
    | _, _ => none
theorem argsAt_eval (h : Pre l S a o A w) : ∀ {ps : List Operand} {vs : List Value}, argsAt l S o ps = some vs → ps.map A.eval = vs
  | [], vs, e => by simp [argsAt] at e; subst e; rfl
  | x :: r, vs, e => by
    unfold argsAt at e
    cases hx : lookAt l S o x with
    | none => simp [hx] at e
    | some v =>
      cases hr : argsAt l S o r with
      | none => simp [hx, hr] at e
      | some q =>
        simp [hx, hr] at e
        subst e
        rw [List.map_cons, argsAt_eval h hr, lookAt_eval h hx]
theorem step_call_con (h : Pre l S a o A w) (hg : guardB l S o = true) (f : FuncId) (c : Call) {v : Value} (args : List Value) (hop : o.op = .call c) (hc : c.callee = .value (.func f)) (hf : (P.funcs[f]?).map (fun fn => (fn.name == "runtime.NumGoroutine", fn.body.isSome)) = some (false, true))
    (ha : argsAt l S o c.args.toList = some args) (hC : Calls P f args.toArray w fun e w' => e = .returned v ∧ Below w.heap.size w w') : stepOk P l o A w (.con v) :=
  step_call h hg f c args.toArray hop hc hf (by rw [← argsAt_eval h ha]; apply Array.ext'; simp) (hC.mono fun e w' ⟨e1, e2⟩ => ⟨v, e1, e2, rfl⟩)
/-- a call on a slice that an operation built -/
theorem step_call_sl (h : Pre l S a o A w) (hg : guardB l S o = true) (f : FuncId) (c : Call) {v : Value} (xs : List Int) (i : Nat) (d : Tmp) (hop : o.op = .call c) (hc : c.callee = .value (.func f)) (hca : c.args = #[.tmp d]) (hf : (P.funcs[f]?).map (fun fn => (fn.name == "runtime.NumGoroutine", fn.body.isSome)) = some (false, true))
    (h1 : (o.after.any fun e => e.on == i && Region.binds .any e) = true) (h2 : (l[i]?).bind (·.dst) = some d) (h3 : S[i]? = some (SlI xs)) (hC : ∀ a, ReadsI w a xs → Calls P f #[.slice a xs.length xs.length] w fun e w' => e = .returned v ∧ Below w.heap.size w w') : stepOk P l o A w (.con v) := by
  obtain ⟨p, e, hr⟩ := h.rel i h1 h2 h3
  exact step_call h hg f c #[.slice p xs.length xs.length] hop hc hf (by rw [hca]; simp [e]) ((hC p hr).mono fun e w' ⟨e1, e2⟩ => ⟨v, e1, e2, rfl⟩)
theorem take_at {α : Type} {l : List α} {n i : Nat} {x : α} (h : (l.take n)[i]? = some x) : l[i]? = some x := by
  rw [List.getElem?_take] at h
  by_cases e : i < n
  · rwa [if_pos e] at h
  · rw [if_neg e] at h; cases h
theorem putAll_app (vs : Nat → Value) : ∀ (r : List Oper) (k : Nat) (a : Act) (o : Oper), putAll vs k (r ++ [o]) a = (putAll vs k r a).put o.dst (vs (k + r.length))
  | [], k, a, o => rfl
  | x :: r, k, a, o => by
    show putAll vs (k + 1) (r ++ [o]) (a.put x.dst (vs k)) = _
    rw [putAll_app vs r (k + 1) _ o]
    show _ = (putAll vs (k + 1) r (a.put x.dst (vs k))).put o.dst _
    congr 2
    simp; omega
/-- a region whose last operation alone matters: the frame before it is a variable -/
theorem wp_region_last {id : Nat} {Q : Exit → Act → World → Prop} (S : List Sp) (d : Tmp) (n : Nat) (c : Value) (hm : P.follows .mixedOrders = true) (hB : fitB l a.tmps.size = true) (hK : ∀ s ∈ S, s.Keeps)
    (hn : l.length = n + 1) (hd : (l[n]?).map (·.dst) = some (some d)) (hs : S[n]? = some (.con c)) (hS : stepsOk P l S a w l S)
    (hQ : ∀ (B : Act) (w' : World), Below w.heap.size w w' → B.tmps.size = a.tmps.size → B.defers = a.defers → (∀ t, (l.all fun x => x.dst != some t) = true → B.eval (.tmp t) = a.eval (.tmp t)) → Q .normal (B.put (some d) c) w') : (Code.region id l.toArray true).wp P Q a w := by
  refine wp_region_specs S hm hB hK hS fun vs w' hB2 hv => ?_
  have hv := hv n _ hs
  cases ho : l[n]? with
  | none => rw [ho] at hd; cases hd
  | some o =>
    rw [ho] at hd
    simp only [Option.map_some, Option.some.injEq] at hd
    have hl : l = l.take n ++ [o] := by
      obtain ⟨h1, h2⟩ := List.getElem?_eq_some_iff.1 ho
      rw [← h2, ← List.take_succ_eq_append_getElem h1, List.take_of_length_le (by omega)]
    obtain ⟨s1, s2⟩ := size_putAll vs (l.take n) 0 a
    have hF := fit_of hB
    have hq := hQ (putAll vs 0 (l.take n) a) w' hB2 s1 s2 (fun t ht => by
      refine (eval_putAll vs t (l.take n) 0 a fun i x hx e he => ?_).1 fun i x hx => ?_
      · exact hF.lies i x (take_at hx) e he
      · rw [List.all_eq_true] at ht
        simpa using ht x (List.mem_of_getElem? (take_at hx)))
    have e : putAll vs 0 l a = (putAll vs 0 (l.take n) a).put (some d) c := by
      conv => lhs; rw [hl, putAll_app]
      rw [hd]
      have : vs (0 + (l.take n).length) = c := by
        rw [List.length_take, Nat.min_eq_left (by omega), Nat.zero_add]; exact hv
      rw [this]
    rw [e]
    exact hq
end
end Go.Proofs.YtddackdghphcnaaDoor.kit

namespace Go.Proofs.YtddackdghphcnaaDoor.s13
set_option linter.unusedVariables false
set_option linter.unusedSimpArgs false
set_option linter.unnecessarySimpa false
open Go.RowKit
open kit

def awS : List Sp := [SlI [0, 7], .con (.agg #[.int .i64 2, .int .i64 0, .int .i64 7, .int .i64 0, .int .i64 0]), .con (.agg #[.int .i64 0, .int .i64 7, .int .i64 0, .int .i64 0]), .con (.agg #[.int .i64 2, .int .i64 0, .int .i64 7, .int .i64 0, .int .i64 0]), .con (.bool true), .con (.bool true), .con (.int .i64 0), .con (.bool true), .con (.bool true), .con (.bool true), .con (.string ⟨#[48, 32, 55]⟩), .con (.bool true), .con (.bool true), .con (.bool true), .con (.int .i64 0), .con (.bool true), .con (.bool true), .con (.bool true), .con (.agg #[.int .i64 2, .int .i64 0, .int .i64 7, .int .i64 0, .int .i64 0]), SlI [0, 7], .con (.agg #[.int .i64 2, .int .i64 0, .int .i64 7, .int .i64 0, .int .i64 0]), .con (.bool true), .con (.bool true), .con (.bool true), SlI [0, 1], .con (.agg #[.int .i64 2, .int .i64 0, .int .i64 1, .int .i64 0, .int .i64 0]), SlI [2], .con (.agg #[.int .i64 1, .int .i64 2, .int .i64 0, .int .i64 0, .int .i64 0]), SlI [0, 1], .con (.agg #[.int .i64 2, .int .i64 0, .int .i64 1, .int .i64 0, .int .i64 0]), .con (.bool true), .con (.bool true), .con (.bool true), SlI [0, 1], .con (.agg #[.int .i64 2, .int .i64 0, .int .i64 1, .int .i64 0, .int .i64 0]), SlI [2], .con (.agg #[.int .i64 1, .int .i64 2, .int .i64 0, .int .i64 0, .int .i64 0]), SlI [0, 1, 2], .con (.agg #[.int .i64 3, .int .i64 0, .int .i64 1, .int .i64 2, .int .i64 0]), .con (.bool true), .con (.bool true), .con (.bool true), SlI [0], .con (.agg #[.int .i64 1, .int .i64 0, .int .i64 0, .int .i64 0, .int .i64 0]), SlI [0, 0], .con (.agg #[.int .i64 2, .int .i64 0, .int .i64 0, .int .i64 0, .int .i64 0]), .con (.bool true), .con (.bool true), .con (.bool true), SlI [1], .con (.agg #[.int .i64 1, .int .i64 1, .int .i64 0, .int .i64 0, .int .i64 0]), SlI [0, 7], .con (.agg #[.int .i64 2, .int .i64 0, .int .i64 7, .int .i64 0, .int .i64 0]), .con (.bool true), .con (.bool true), .con (.bool true)]
set_option maxRecDepth 100000 in
theorem awS_keeps : ∀ s ∈ awS, s.Keeps := by
  intro s hs
  simp only [awS, List.mem_cons, List.not_mem_nil, or_false] at hs
  rcases hs with rfl | rfl | rfl | rfl | rfl | rfl | rfl | rfl | rfl | rfl | rfl | rfl | rfl | rfl | rfl | rfl | rfl | rfl | rfl | rfl | rfl | rfl | rfl | rfl | rfl | rfl | rfl | rfl | rfl | rfl | rfl | rfl | rfl | rfl | rfl | rfl | rfl | rfl | rfl | rfl | rfl | rfl | rfl | rfl | rfl | rfl | rfl | rfl | rfl | rfl | rfl | rfl | rfl | rfl | rfl | rfl <;> first | exact con_keeps _ | exact SlI.keeps _
theorem load5 {w : World} {g : Nat} {n a b c d : Int} (h : Box w 25 g #[.int .i64 n, .int .i64 a, .int .i64 b, .int .i64 c, .int .i64 d]) : (Instr.loadAt 25 (.pointer (some ⟨g, 0, none⟩))).run Tryd.prog w = .ok (.agg #[.int .i64 n, .int .i64 a, .int .i64 b, .int .i64 c, .int .i64 d]) w := by
  obtain ⟨z0, z1, z2, z3, z4⟩ := h.cell5
  simp [go_sem, z0, z1, z2, z3, z4]
theorem reads_new (w : World) (l : List Int) (t : TypeId) : ReadsI (w.alloc (.cells (l.map (Value.int .i64)).toArray t)) (some ⟨w.heap.size, 0, none⟩) l := fun i hi => ⟨w.heap.size, 0, rfl, by simp, by
  rw [Nat.zero_add]
  unfold World.cell?
  rw [World.alloc_heap_new w _]
  simp [hi]⟩
set_option maxRecDepth 100000 in
set_option maxHeartbeats 4000000 in
theorem awake_any (w : World) : Calls Tryd.prog 10 #[] w fun e w' => e = .returned (.bool true) ∧ Below w.heap.size w w' := by
  go_enter Tryd.func10, Tryd.ntmps10
  go_wp2_with (first
    | (go_at_call 37; refine (lof_any _ _ [0, 7] _ (by simp) (Lib.hid (reads_new _ _ _)) 2 0 7 0 0 0 (Lib.hid (by decide))).mono ?_; rintro e w1 ⟨rfl, hB⟩; have B1 := Lib.hid (made1 hB).2; clear hB)
    | (go_at_call 16; refine (ptext_any 2 0 7 0 0 _ ⟨#[48, 32, 55]⟩ 0 (Lib.hid (by decide))).mono ?_; rintro e w2 ⟨rfl, hB⟩; have B2 := Lib.hid (below_on B1.out (Nat.le_refl _) hB); clear hB)
    | (go_at_call 29; refine (pparse_any ⟨#[48, 32, 55]⟩ _ (by decide) (2, 0, 7, 0, 0) 0 (Lib.hid (by decide))).mono ?_; rintro e w3 ⟨rfl, hB⟩; have B3 := Lib.hid (below_on B2.out (Nat.le_refl _) hB); clear hB)
    | (refine wp_region_last awS 0 55 (.bool true) (by kernel_rfl) (by kernel_rfl) awS_keeps rfl rfl rfl ?steps ?fin))
  case steps =>
    refine ⟨fun A w9 hB h => step_slice h (by kernel_rfl) _ 3 _ _ [0, 7] rfl (by kernel_rfl) (by kernel_rfl) (by kernel_rfl) rfl (by decide) (by decide) (by kernel_rfl), ?_⟩
    refine ⟨fun A w9 hB h => step_call_sl h (by kernel_rfl) _ _ [0, 7] 0 15 rfl rfl rfl (by kernel_rfl) (by kernel_rfl) rfl rfl (fun p hr => lof_any p 2 [0, 7] w9 (by simp) (Lib.hid hr) 2 0 7 0 0 0 (Lib.hid (by decide))), ?_⟩
    refine ⟨fun A w9 hB h => step_build h (by kernel_rfl) _ _ [(0, .int .i64 0), (1, .int .i64 7)] _ rfl (by kernel_rfl) (by kernel_rfl), ?_⟩
    refine ⟨fun A w9 hB h => step_build h (by kernel_rfl) _ _ [(0, .int .i64 2), (1, .agg #[.int .i64 0, .int .i64 7, .int .i64 0, .int .i64 0])] _ rfl (by kernel_rfl) (by kernel_rfl), ?_⟩
    refine ⟨fun A w9 hB h => step_bin h (by kernel_rfl) _ _ _ _ _ (.agg #[.int .i64 2, .int .i64 0, .int .i64 7, .int .i64 0, .int .i64 0]) (.agg #[.int .i64 2, .int .i64 0, .int .i64 7, .int .i64 0, .int .i64 0]) rfl (by kernel_rfl) (by kernel_rfl) (fun W => guard_look _ _ _ _ _ W) (fun W => (eql_look 2 0 7 0 0 2 0 7 0 0 W).trans (by rfl)), ?_⟩
    refine ⟨fun A w9 hB h => step_move h (by kernel_rfl) _ rfl (by kernel_rfl), ?_⟩
    refine ⟨fun A w9 hB h => step_move_old h (by kernel_rfl) 2 rfl (by kernel_rfl) (by rfl), ?_⟩
    refine ⟨fun A w9 hB h => step_bin h (by kernel_rfl) _ _ _ _ _ (.int .i64 0) (.int .i64 0) rfl (by kernel_rfl) (by kernel_rfl) (fun W => by kernel_rfl) (fun W => by kernel_rfl), ?_⟩
    refine ⟨fun A w9 hB h => step_pick h (by kernel_rfl) _ _ _ true rfl (by kernel_rfl) (by kernel_rfl), ?_⟩
    refine ⟨fun A w9 hB h => step_move h (by kernel_rfl) _ rfl (by kernel_rfl), ?_⟩
    refine ⟨fun A w9 hB h => step_move_old h (by kernel_rfl) 1 rfl (by kernel_rfl) (by rfl), ?_⟩
    refine ⟨fun A w9 hB h => step_bin h (by kernel_rfl) _ _ _ _ _ (.string ⟨#[48, 32, 55]⟩) (.string ⟨#[48, 32, 55]⟩) rfl (by kernel_rfl) (by kernel_rfl) (fun W => by kernel_rfl) (fun W => by kernel_rfl), ?_⟩
    refine ⟨fun A w9 hB h => step_pick h (by kernel_rfl) _ _ _ true rfl (by kernel_rfl) (by kernel_rfl), ?_⟩
    refine ⟨fun A w9 hB h => step_move h (by kernel_rfl) _ rfl (by kernel_rfl), ?_⟩
    refine ⟨fun A w9 hB h => step_move_old h (by kernel_rfl) 4 rfl (by kernel_rfl) (by rfl), ?_⟩
    refine ⟨fun A w9 hB h => step_bin h (by kernel_rfl) _ _ _ _ _ (.int .i64 0) (.int .i64 0) rfl (by kernel_rfl) (by kernel_rfl) (fun W => by kernel_rfl) (fun W => by kernel_rfl), ?_⟩
    refine ⟨fun A w9 hB h => step_pick h (by kernel_rfl) _ _ _ true rfl (by kernel_rfl) (by kernel_rfl), ?_⟩
    refine ⟨fun A w9 hB h => step_move h (by kernel_rfl) _ rfl (by kernel_rfl), ?_⟩
    refine ⟨fun A w9 hB h => step_load h (by kernel_rfl) _ _ (.pointer (some ⟨w3.heap.size, 0, none⟩)) rfl (h.old 3 (by kernel_rfl) (by rfl)) (load5 ((Box.new _ _ _).below hB)), ?_⟩
    refine ⟨fun A w9 hB h => step_slice h (by kernel_rfl) _ 3 _ _ [0, 7] rfl (by kernel_rfl) (by kernel_rfl) (by kernel_rfl) rfl (by decide) (by decide) (by kernel_rfl), ?_⟩
    refine ⟨fun A w9 hB h => step_call_sl h (by kernel_rfl) _ _ [0, 7] 19 34 rfl rfl rfl (by kernel_rfl) (by kernel_rfl) rfl rfl (fun p hr => lof_any p 2 [0, 7] w9 (by simp) (Lib.hid hr) 2 0 7 0 0 0 (Lib.hid (by decide))), ?_⟩
    refine ⟨fun A w9 hB h => step_bin h (by kernel_rfl) _ _ _ _ _ (.agg #[.int .i64 2, .int .i64 0, .int .i64 7, .int .i64 0, .int .i64 0]) (.agg #[.int .i64 2, .int .i64 0, .int .i64 7, .int .i64 0, .int .i64 0]) rfl (by kernel_rfl) (by kernel_rfl) (fun W => guard_look _ _ _ _ _ W) (fun W => (eql_look 2 0 7 0 0 2 0 7 0 0 W).trans (by rfl)), ?_⟩
    refine ⟨fun A w9 hB h => step_pick h (by kernel_rfl) _ _ _ true rfl (by kernel_rfl) (by kernel_rfl), ?_⟩
    refine ⟨fun A w9 hB h => step_move h (by kernel_rfl) _ rfl (by kernel_rfl), ?_⟩
    refine ⟨fun A w9 hB h => step_slice h (by kernel_rfl) _ 3 _ _ [0, 1] rfl (by kernel_rfl) (by kernel_rfl) (by kernel_rfl) rfl (by decide) (by decide) (by kernel_rfl), ?_⟩
    refine ⟨fun A w9 hB h => step_call_sl h (by kernel_rfl) _ _ [0, 1] 24 39 rfl rfl rfl (by kernel_rfl) (by kernel_rfl) rfl rfl (fun p hr => lof_any p 2 [0, 1] w9 (by simp) (Lib.hid hr) 2 0 1 0 0 0 (Lib.hid (by decide))), ?_⟩
    refine ⟨fun A w9 hB h => step_slice h (by kernel_rfl) _ 3 _ _ [2] rfl (by kernel_rfl) (by kernel_rfl) (by kernel_rfl) rfl (by decide) (by decide) (by kernel_rfl), ?_⟩
    refine ⟨fun A w9 hB h => step_call_sl h (by kernel_rfl) _ _ [2] 26 41 rfl rfl rfl (by kernel_rfl) (by kernel_rfl) rfl rfl (fun p hr => lof_any p 1 [2] w9 (by simp) (Lib.hid hr) 1 2 0 0 0 0 (Lib.hid (by decide))), ?_⟩
    refine ⟨fun A w9 hB h => step_slice h (by kernel_rfl) _ 3 _ _ [0, 1] rfl (by kernel_rfl) (by kernel_rfl) (by kernel_rfl) rfl (by decide) (by decide) (by kernel_rfl), ?_⟩
    refine ⟨fun A w9 hB h => step_call_sl h (by kernel_rfl) _ _ [0, 1] 28 43 rfl rfl rfl (by kernel_rfl) (by kernel_rfl) rfl rfl (fun p hr => lof_any p 2 [0, 1] w9 (by simp) (Lib.hid hr) 2 0 1 0 0 0 (Lib.hid (by decide))), ?_⟩
    refine ⟨fun A w9 hB h => step_call_con h (by kernel_rfl) _ _ [.int .i64 2, .agg #[.int .i64 2, .int .i64 0, .int .i64 1, .int .i64 0, .int .i64 0], .agg #[.int .i64 1, .int .i64 2, .int .i64 0, .int .i64 0, .int .i64 0], .agg #[.int .i64 2, .int .i64 0, .int .i64 1, .int .i64 0, .int .i64 0]] rfl rfl (by kernel_rfl) (by kernel_rfl) (ljoins_any 2 2 0 1 0 0 1 2 0 0 0 2 0 1 0 0 2 0 1 0 0 0 w9 (Lib.hid (by decide)) rfl true (by decide)), ?_⟩
    refine ⟨fun A w9 hB h => step_pick h (by kernel_rfl) _ _ _ true rfl (by kernel_rfl) (by kernel_rfl), ?_⟩
    refine ⟨fun A w9 hB h => step_move h (by kernel_rfl) _ rfl (by kernel_rfl), ?_⟩
    refine ⟨fun A w9 hB h => step_slice h (by kernel_rfl) _ 3 _ _ [0, 1] rfl (by kernel_rfl) (by kernel_rfl) (by kernel_rfl) rfl (by decide) (by decide) (by kernel_rfl), ?_⟩
    refine ⟨fun A w9 hB h => step_call_sl h (by kernel_rfl) _ _ [0, 1] 33 48 rfl rfl rfl (by kernel_rfl) (by kernel_rfl) rfl rfl (fun p hr => lof_any p 2 [0, 1] w9 (by simp) (Lib.hid hr) 2 0 1 0 0 0 (Lib.hid (by decide))), ?_⟩
    refine ⟨fun A w9 hB h => step_slice h (by kernel_rfl) _ 3 _ _ [2] rfl (by kernel_rfl) (by kernel_rfl) (by kernel_rfl) rfl (by decide) (by decide) (by kernel_rfl), ?_⟩
    refine ⟨fun A w9 hB h => step_call_sl h (by kernel_rfl) _ _ [2] 35 50 rfl rfl rfl (by kernel_rfl) (by kernel_rfl) rfl rfl (fun p hr => lof_any p 1 [2] w9 (by simp) (Lib.hid hr) 1 2 0 0 0 0 (Lib.hid (by decide))), ?_⟩
    refine ⟨fun A w9 hB h => step_slice h (by kernel_rfl) _ 3 _ _ [0, 1, 2] rfl (by kernel_rfl) (by kernel_rfl) (by kernel_rfl) rfl (by decide) (by decide) (by kernel_rfl), ?_⟩
    refine ⟨fun A w9 hB h => step_call_sl h (by kernel_rfl) _ _ [0, 1, 2] 37 52 rfl rfl rfl (by kernel_rfl) (by kernel_rfl) rfl rfl (fun p hr => lof_any p 3 [0, 1, 2] w9 (by simp) (Lib.hid hr) 3 0 1 2 0 0 (Lib.hid (by decide))), ?_⟩
    refine ⟨fun A w9 hB h => step_call_con h (by kernel_rfl) _ _ [.int .i64 3, .agg #[.int .i64 2, .int .i64 0, .int .i64 1, .int .i64 0, .int .i64 0], .agg #[.int .i64 1, .int .i64 2, .int .i64 0, .int .i64 0, .int .i64 0], .agg #[.int .i64 3, .int .i64 0, .int .i64 1, .int .i64 2, .int .i64 0]] rfl rfl (by kernel_rfl) (by kernel_rfl) (ljoins_any 3 2 0 1 0 0 1 2 0 0 0 3 0 1 2 0 3 0 1 2 0 0 w9 (Lib.hid (by decide)) rfl true (by decide)), ?_⟩
    refine ⟨fun A w9 hB h => step_pick h (by kernel_rfl) _ _ _ true rfl (by kernel_rfl) (by kernel_rfl), ?_⟩
    refine ⟨fun A w9 hB h => step_move h (by kernel_rfl) _ rfl (by kernel_rfl), ?_⟩
    refine ⟨fun A w9 hB h => step_slice h (by kernel_rfl) _ 3 _ _ [0] rfl (by kernel_rfl) (by kernel_rfl) (by kernel_rfl) rfl (by decide) (by decide) (by kernel_rfl), ?_⟩
    refine ⟨fun A w9 hB h => step_call_sl h (by kernel_rfl) _ _ [0] 42 57 rfl rfl rfl (by kernel_rfl) (by kernel_rfl) rfl rfl (fun p hr => lof_any p 1 [0] w9 (by simp) (Lib.hid hr) 1 0 0 0 0 0 (Lib.hid (by decide))), ?_⟩
    refine ⟨fun A w9 hB h => step_slice h (by kernel_rfl) _ 3 _ _ [0, 0] rfl (by kernel_rfl) (by kernel_rfl) (by kernel_rfl) rfl (by decide) (by decide) (by kernel_rfl), ?_⟩
    refine ⟨fun A w9 hB h => step_call_sl h (by kernel_rfl) _ _ [0, 0] 44 59 rfl rfl rfl (by kernel_rfl) (by kernel_rfl) rfl rfl (fun p hr => lof_any p 2 [0, 0] w9 (by simp) (Lib.hid hr) 2 0 0 0 0 0 (Lib.hid (by decide))), ?_⟩
    refine ⟨fun A w9 hB h => step_call_con h (by kernel_rfl) _ _ [.agg #[.int .i64 1, .int .i64 0, .int .i64 0, .int .i64 0, .int .i64 0], .agg #[.int .i64 2, .int .i64 0, .int .i64 0, .int .i64 0, .int .i64 0], .int .i64 (-1)] rfl rfl (by kernel_rfl) (by kernel_rfl) ((lcompares_any 1 0 0 0 0 2 0 0 0 0 w9 (-1) (-1) 0 rfl (Lib.hid (by decide))).mono (fun e w8 q => by simpa using q)), ?_⟩
    refine ⟨fun A w9 hB h => step_pick h (by kernel_rfl) _ _ _ true rfl (by kernel_rfl) (by kernel_rfl), ?_⟩
    refine ⟨fun A w9 hB h => step_move h (by kernel_rfl) _ rfl (by kernel_rfl), ?_⟩
    refine ⟨fun A w9 hB h => step_slice h (by kernel_rfl) _ 3 _ _ [1] rfl (by kernel_rfl) (by kernel_rfl) (by kernel_rfl) rfl (by decide) (by decide) (by kernel_rfl), ?_⟩
    refine ⟨fun A w9 hB h => step_call_sl h (by kernel_rfl) _ _ [1] 49 64 rfl rfl rfl (by kernel_rfl) (by kernel_rfl) rfl rfl (fun p hr => lof_any p 1 [1] w9 (by simp) (Lib.hid hr) 1 1 0 0 0 0 (Lib.hid (by decide))), ?_⟩
    refine ⟨fun A w9 hB h => step_slice h (by kernel_rfl) _ 3 _ _ [0, 7] rfl (by kernel_rfl) (by kernel_rfl) (by kernel_rfl) rfl (by decide) (by decide) (by kernel_rfl), ?_⟩
    refine ⟨fun A w9 hB h => step_call_sl h (by kernel_rfl) _ _ [0, 7] 51 66 rfl rfl rfl (by kernel_rfl) (by kernel_rfl) rfl rfl (fun p hr => lof_any p 2 [0, 7] w9 (by simp) (Lib.hid hr) 2 0 7 0 0 0 (Lib.hid (by decide))), ?_⟩
    refine ⟨fun A w9 hB h => step_call_con h (by kernel_rfl) _ _ [.agg #[.int .i64 1, .int .i64 1, .int .i64 0, .int .i64 0, .int .i64 0], .agg #[.int .i64 2, .int .i64 0, .int .i64 7, .int .i64 0, .int .i64 0], .int .i64 1] rfl rfl (by kernel_rfl) (by kernel_rfl) ((lcompares_any 1 1 0 0 0 2 0 7 0 0 w9 1 1 0 rfl (Lib.hid (by decide))).mono (fun e w8 q => by simpa using q)), ?_⟩
    refine ⟨fun A w9 hB h => step_pick h (by kernel_rfl) _ _ _ true rfl (by kernel_rfl) (by kernel_rfl), ?_⟩
    refine ⟨fun A w9 hB h => step_assign h (by kernel_rfl) _ rfl (by kernel_rfl), ?_⟩
    exact trivial
  case fin =>
    intro B w4 hB hsz hdf hold
    have hB' : Below (w3.alloc (.cells #[.int .i64 2, .int .i64 0, .int .i64 7, .int .i64 0, .int .i64 0] 25)).heap.size (w3.alloc (.cells #[.int .i64 2, .int .i64 0, .int .i64 7, .int .i64 0, .int .i64 0] 25)) w4 := by rw [size1]; exact hB
    have B5 := Lib.hid (below_on B3.out (Nat.le_refl _) (made1 hB').2)
    clear hB hB'
    clear hold
    have hs : B.tmps.size = 70 := hsz.trans (by simp)
    clear hsz
    rename_i K hK
    refine hK _ _ ?_
    clear hK
    go_wp2
    exact bodyPost_ret (v := .bool true) (by simp [results, Tryd.results10, go_sem, hs]) hdf ⟨rfl, B5.out⟩
end Go.Proofs.YtddackdghphcnaaDoor.s13

namespace Go.Proofs.YtddackdghphcnaaDoor.s13
set_option linter.unusedVariables false
set_option linter.unusedSimpArgs false
open Go.RowKit
open kit

set_option maxRecDepth 100000 in
set_option maxHeartbeats 2000000 in
theorem rtext_bad (n a b c d r : Int) (w : World) (HR : Hid (chkP n a b c d 8 = r)) (hr : (r != 0) = true) : Calls Tryd.prog 17 #[.agg #[.int .i64 n, .int .i64 a, .int .i64 b, .int .i64 c, .int .i64 d]] w fun e w' => e = .returned (.tuple #[.string ⟨#[]⟩, .int .i64 r]) ∧ Below w.heap.size w w' := by
  go_enter Tryd.func17, Tryd.ntmps17
  go_wp2_with (go_at_call 19; refine (rcheck_any n a b c d 8 r _ HR).mono ?_; rintro e w1 ⟨rfl, hB⟩; obtain ⟨X1, hB1⟩ := made1 hB; have B1 := Lib.hid hB1; clear hB hB1 X1)
  go_ret2
  exact ⟨rfl, B1.out⟩
theorem str_app (x y : List UInt8) : (⟨x.toArray⟩ : ByteArray) ++ ⟨y.toArray⟩ = ⟨(x ++ y).toArray⟩ := bytes_ext (by simp)
theorem dg_conv (z : Int) (h0 : 0 ≤ z) (h1 : z < 8) : UInt8.ofNat (48 + z).toNat = dg z := by
  unfold dg
  rw [show (48 + z).toNat = 48 + z.toNat by omega]
theorem conv9 (W : World) (x : Int) : (convert 67 9 (.slice (some ⟨W.heap.size, 0, none⟩) 1 1)).run Tryd.prog (W.alloc (.cells #[.int .u8 x] 5)) = .ok (.string ⟨#[UInt8.ofNat x.toNat]⟩) (W.alloc (.cells #[.int .u8 x] 5)) :=
  run_convert_bytes_arg _ 67 5 Tryd.underlying67 Tryd.underlying5 _ 0 1 1 [x] rfl (fun i hi => by
    obtain rfl : i = 0 := by omega
    simp) 9 Tryd.underlying9
set_option maxRecDepth 100000 in
set_option maxHeartbeats 4000000 in
theorem rtext_ok (l : List Int) (N : Nat) (a b c d : Int) (w : World) (HR : Hid (chkP N a b c d 8 = 0)) (hN : N ≤ 4) (HL : Hid (l.length = N)) (HP : Hid (pad5 l = ((N : Int), a, b, c, d))) (HK : Hid (okL 8 l)) :
    Calls Tryd.prog 17 #[.agg #[.int .i64 N, .int .i64 a, .int .i64 b, .int .i64 c, .int .i64 d]] w fun e w' => e = .returned (.tuple #[.string (txt l), .int .i64 0]) ∧ Below w.heap.size w w' := by
  have n2 : (N : Int) ≤ 4 := by omega
  go_enter Tryd.func17, Tryd.ntmps17
  go_wp2_with (go_at_call 19; refine (rcheck_any N a b c d 8 0 _ HR).mono ?_; rintro e w1 ⟨rfl, hB⟩; obtain ⟨X1, hB1⟩ := made1 hB; have B1 := Lib.hid hB1; have X1 := Lib.hid X1; clear hB hB1)
  go_loopw [5, 6] (fun v i wr => ∃ (k : Nat) (s : ByteArray), i = .int .i64 k ∧ k ≤ N ∧ v = .string s ∧ s.size ≤ 8 ∧ Hid (s = ⟨(txB (l.take k)).toArray⟩) ∧ Hid (Box wr 25 w.heap.size #[.int .i64 N, .int .i64 a, .int .i64 b, .int .i64 c, .int .i64 d]) ∧ Hid (Below w.heap.size w wr)) (fun _ i _ => N - (intOf i).toNat)
  case atStart => exact ⟨0, ⟨#[]⟩, rfl, by omega, rfl, by decide, Lib.hid rfl, X1, B1⟩
  case round =>
    obtain ⟨k, s, rfl, hk, rfl, hsz, HS, HX, HB⟩ := hrel
    have x0 := HX.out.cell 0
    simp at x0
    by_cases hlt : k < N
    · have hk4 : k < 4 := by omega
      have xk := HX.out.place k hk4
      have hp := pad5_pl (l := l) (by have := HL.out; omega) HP.out k
      have hz := okL_at HK.out k (by have := HL.out; omega)
      rw [← hp] at hz
      obtain ⟨z0, z1⟩ := hz
      have hkl : k < l.length := by have := HL.out; omega
      have hsn : txB (l.take (k + 1)) = (if k = 0 then [] else txB (l.take k) ++ [32]) ++ [dg (pl a b c d k)] := by
        rw [List.take_succ_eq_append_getElem hkl, txB_snoc, hp, List.getElem?_eq_getElem hkl, List.length_take, Nat.min_eq_left (by omega)]; rfl
      have hlen := txB_len (l.take (k + 1))
      rw [List.length_take, Nat.min_eq_left (by omega), if_neg (by omega)] at hlen
      have hlen0 := txB_len (l.take k)
      rw [List.length_take, Nat.min_eq_left (by omega)] at hlen0
      have HSN := Lib.hid hsn
      have HLN := Lib.hid hlen
      have hs8 : k = 0 ∨ s.size + 2 ≤ 8 := by
        by_cases h0 : k = 0
        · exact .inl h0
        · rw [if_neg h0] at hlen0
          refine .inr ?_
          rw [HS.out]
          show (txB (l.take k)).toArray.size + 2 ≤ 8
          rw [List.size_toArray, hlen0]; omega
      generalize pl a b c d k = z at xk hp HSN z0 z1
      have HD := Lib.hid (dg_conv z z0 z1)
      clear hp hsn hlen hlen0 hkl
      have cv : ∀ W : World, (convert 67 9 (.slice (some ⟨W.heap.size, 0, none⟩) 1 1)).run Tryd.prog (W.alloc (.cells #[.int .u8 (48 + z)] 5)) = .ok (.string ⟨#[dg z]⟩) (W.alloc (.cells #[.int .u8 (48 + z)] 5)) := fun W => by rw [conv9, HD.out]
      have hB2 := Lib.hid (HB.out.alloc HB.out.size (.cells #[.int .u8 (48 + z)] 5))
      have hX2 := Lib.hid (HX.out.alloc (.cells #[.int .u8 (48 + z)] 5))
      have hd1 : (⟨#[dg z]⟩ : ByteArray).size = 1 := rfl
      have hd2 : (⟨#[32]⟩ : ByteArray).size = 1 := rfl
      by_cases hk0 : k = 0
      · have hse : s = ⟨#[]⟩ := by rw [HS.out, hk0]; rfl
        subst hk0
        have hb1 : s.size + (⟨#[dg z]⟩ : ByteArray).size ≤ 9223372036854775807 := by omega
        have hs2 : Hid (s ++ ⟨#[dg z]⟩ = ⟨(txB (l.take (0 + 1))).toArray⟩) := Lib.hid (by rw [HSN.out, if_pos rfl, hse]; rfl)
        have hs3 : (s ++ ⟨#[dg z]⟩ : ByteArray).size ≤ 8 := by
          have h0 : s.size = 0 := by rw [hse]; rfl
          rw [ByteArray.size_append]; omega
        clear hse hs8 hd1 hd2
        go_wp2
        go_roundw
        case rel => exact ⟨1, s ++ ⟨#[dg z]⟩, by go_num, by omega, rfl, hs3, hs2, hX2, hB2⟩
        case measure => simp [intOf]; omega
      · have hk1 : 0 < k := by omega
        have hk2 : (0 : Int) < k := by omega
        have hs9 : s.size + 2 ≤ 8 := by omega
        have hb0 : s.size + (⟨#[32]⟩ : ByteArray).size ≤ 9223372036854775807 := by omega
        have hb1 : (s ++ ⟨#[32]⟩ : ByteArray).size + (⟨#[dg z]⟩ : ByteArray).size ≤ 9223372036854775807 := by rw [ByteArray.size_append]; omega
        have hs2 : Hid (s ++ ⟨#[32]⟩ ++ ⟨#[dg z]⟩ = ⟨(txB (l.take (k + 1))).toArray⟩) := Lib.hid (by
          rw [HSN.out, if_neg hk0, HS.out]
          refine bytes_ext ?_
          simp)
        have hs3 : (s ++ ⟨#[32]⟩ ++ ⟨#[dg z]⟩ : ByteArray).size ≤ 8 := by rw [ByteArray.size_append, ByteArray.size_append]; omega
        clear hs8 hk0 hd1 hd2
        go_wp2
        go_roundw
        case rel => exact ⟨k + 1, s ++ ⟨#[32]⟩ ++ ⟨#[dg z]⟩, by go_num, by omega, rfl, hs3, hs2, hX2, hB2⟩
        case measure => simp [intOf]; omega
    · obtain rfl : k = N := by omega
      have e : l.take k = l := by rw [← HL.out]; exact List.take_length
      have hs := HS.out
      rw [e] at hs
      by_cases hk0 : k = 0
      · have ht : Hid (txt l = ⟨#[45]⟩) := Lib.hid (by unfold txt; rw [if_pos (by rw [HL.out]; exact hk0)])
        subst hk0
        clear hs e
        go_wp2
        go_ret2
        exact ⟨by rw [ht.out]; rfl, HB.out⟩
      · have ht : Hid (txt l = s) := Lib.hid (by unfold txt; rw [if_neg (by rw [HL.out]; exact hk0), hs])
        have hk1 : ((k : Int) == 0) = false := by rw [beq_eq_false_iff_ne]; omega
        clear hs e hk0
        go_wp2
        go_ret2
        exact ⟨by rw [ht.out]; rfl, HB.out⟩
theorem rtext_any (n a b c d : Int) (w : World) (s : ByteArray) (r : Int) (H : Hid (txtE (n, a, b, c, d) = (s, r))) : Calls Tryd.prog 17 #[.agg #[.int .i64 n, .int .i64 a, .int .i64 b, .int .i64 c, .int .i64 d]] w fun e w' => e = .returned (.tuple #[.string s, .int .i64 r]) ∧ Below w.heap.size w w' := by
  have h := H.out
  unfold txtE at h
  simp only at h
  by_cases hc : chkP n a b c d 8 = 0
  · rw [if_neg (by simpa using hc)] at h
    cases h
    obtain ⟨k1, _, _⟩ := lst_ok hc
    obtain ⟨N, hN, hN4, hl, hp⟩ := lst_nat hc
    subst hN
    exact rtext_ok _ N a b c d w (Lib.hid hc) hN4 (Lib.hid hl) (Lib.hid hp) (Lib.hid k1)
  · rw [if_pos hc] at h; cases h
    exact rtext_bad n a b c d _ w (Lib.hid rfl) (by simpa using hc)
end Go.Proofs.YtddackdghphcnaaDoor.s13

namespace Go.Proofs.YtddackdghphcnaaDoor.s13
set_option linter.unusedVariables false
set_option linter.unusedSimpArgs false
set_option linter.unnecessarySimpa false
open Go.RowKit
open kit

def lisE (x : V5) : List Int × Int := if chkP x.1 x.2.1 x.2.2.1 x.2.2.2.1 x.2.2.2.2 8 ≠ 0 then ([], chkP x.1 x.2.1 x.2.2.1 x.2.2.2.1 x.2.2.2.2 8) else (lst x, 0)
theorem plist_any (n a b c d : Int) (L : List Int) (r : Int) (w : World) (H : Hid (lisE (n, a, b, c, d) = (L, r))) : Calls Tryd.prog 14 #[.agg #[.int .i64 n, .int .i64 a, .int .i64 b, .int .i64 c, .int .i64 d]] w fun e w' => ∃ a' c', e = .returned (.tuple #[.slice a' L.length c', .int .i64 r]) ∧ ReadsI w' a' L ∧ Below w.heap.size w w' := by
  have h := H.out
  unfold lisE at h
  simp only at h
  by_cases hc : chkP n a b c d 8 = 0
  · rw [if_neg (by simpa using hc)] at h; cases h
    obtain ⟨N, hN, hN4, hl, hp⟩ := lst_nat hc
    subst hN
    refine (plist_ok _ N a b c d w (Lib.hid hc) hN4 (Lib.hid hl) (Lib.hid hp)).mono ?_
    rw [hl]
    exact fun e w' h => h
  · rw [if_pos hc] at h; cases h
    refine (plist_bad n a b c d _ w (Lib.hid rfl) (by simpa using hc)).mono ?_
    rintro e w' ⟨h1, h2⟩
    exact ⟨none, 0, h1, Reads.nil _ _, h2⟩
theorem rlist_any (n a b c d : Int) (L : List Int) (r : Int) (w : World) (H : Hid (lisE (n, a, b, c, d) = (L, r))) : Calls Tryd.prog 15 #[.agg #[.int .i64 n, .int .i64 a, .int .i64 b, .int .i64 c, .int .i64 d]] w fun e w' => ∃ a' c', e = .returned (.tuple #[.slice a' L.length c', .int .i64 r]) ∧ ReadsI w' a' L ∧ Below w.heap.size w w' := by
  have h := H.out
  unfold lisE at h
  simp only at h
  by_cases hc : chkP n a b c d 8 = 0
  · rw [if_neg (by simpa using hc)] at h; cases h
    obtain ⟨N, hN, hN4, hl, hp⟩ := lst_nat hc
    subst hN
    refine (rlist_ok _ N a b c d w (Lib.hid hc) hN4 (Lib.hid hl) (Lib.hid hp)).mono ?_
    rw [hl]
    exact fun e w' h => h
  · rw [if_pos hc] at h; cases h
    refine (rlist_bad n a b c d _ w (Lib.hid rfl) (by simpa using hc)).mono ?_
    rintro e w' ⟨h1, h2⟩
    exact ⟨none, 0, h1, Reads.nil _ _, h2⟩
theorem lisE_len {x : V5} {L : List Int} {r : Int} (h : lisE x = (L, r)) : L.length ≤ 4 := by
  unfold lisE at h
  by_cases hc : chkP x.1 x.2.1 x.2.2.1 x.2.2.2.1 x.2.2.2.2 8 = 0
  · rw [if_neg (by simpa using hc)] at h; cases h
    unfold lst
    rw [List.length_take]
    exact Nat.min_le_right _ _
  · rw [if_pos hc] at h; cases h
    exact Nat.zero_le _
theorem look_self (n a b c d : Int) (W : World) : (binOp .eql 25 (.agg #[.int .i64 n, .int .i64 a, .int .i64 b, .int .i64 c, .int .i64 d]) (.agg #[.int .i64 n, .int .i64 a, .int .i64 b, .int .i64 c, .int .i64 d])).run Tryd.prog W = .ok (.bool true) W := by rw [eql_look, decide_eq_true ⟨rfl, rfl, rfl, rfl, rfl⟩]
theorem errno_self (r : Int) (W : World) : (binOp .eql 28 (.int .i64 r) (.int .i64 r)).run Tryd.prog W = .ok (.bool true) W := by simp [go_sem]
theorem str_self (s : ByteArray) (W : World) : (binOp .eql 9 (.string s) (.string s)).run Tryd.prog W = .ok (.bool true) W := by simp [go_sem]
theorem mkS_keeps {l : List Sp} (h : l.all (fun s => match s with | .con _ => true | .rel _ => false) = true) : ∀ s ∈ l, s.Keeps := by
  intro s hs
  rw [List.all_eq_true] at h
  have := h s hs
  cases s with
  | con c => exact con_keeps c
  | rel R => cases this
set_option maxRecDepth 100000 in
set_option maxHeartbeats 4000000 in
theorem lookmakes_long (a0 : Option Addr) (cp : Nat) (z : List Int) (n a b c d t : Int) (w : World) (h : 8 < z.length) (h2 : z.length ≤ 9223372036854775807) : Calls Tryd.prog 3 #[.slice a0 z.length cp, .agg #[.int .i64 n, .int .i64 a, .int .i64 b, .int .i64 c, .int .i64 d], .int .i64 t] w fun e w' => e = .returned (.bool true) ∧ Below w.heap.size w w' := by
  have h3 : (8 : Int) < z.length := by omega
  clear h
  go_enter Tryd.func3, Tryd.ntmps3
  go_wp2_with (go_at_call 10; refine (awake_any _).mono ?_; rintro e w1 ⟨rfl, hB⟩; have B1 := Lib.hid (made1 hB).2; clear hB)
  go_ret
  exact ⟨rfl, B1.out⟩
set_option maxRecDepth 100000 in
set_option maxHeartbeats 4000000 in
theorem lookmakes_any (a0 : Option Addr) (cp : Nat) (z : List Int) (n a b c d t : Int) (w : World) (h : z.length ≤ 8) (hs : Hid (Src w a0 cp (z.map (Value.int .i64)))) (hr : Hid (ReadsI w a0 z)) : Calls Tryd.prog 3 #[.slice a0 z.length cp, .agg #[.int .i64 n, .int .i64 a, .int .i64 b, .int .i64 c, .int .i64 d], .int .i64 t] w fun e w' => e = .returned (.bool true) ∧ Below w.heap.size w w' := by
  obtain ⟨⟨⟨y0, y1, y2, y3, y4⟩, r⟩, hy⟩ : ∃ y, ofP z = y := ⟨_, rfl⟩
  obtain ⟨⟨L, rl⟩, hl⟩ : ∃ y, lisE (n, a, b, c, d) = y := ⟨_, rfl⟩
  obtain ⟨⟨s, rt⟩, ht⟩ : ∃ y, txtE (n, a, b, c, d) = y := ⟨_, rfl⟩
  obtain ⟨rc, hk⟩ : ∃ y, chkP n a b c d t = y := ⟨_, rfl⟩
  have HY := Lib.hid hy
  have HLL := Lib.hid hl
  have HT := Lib.hid ht
  have HK := Lib.hid hk
  have hL4 := lisE_len hl
  have hL2 : L.length ≤ 9223372036854775807 := by omega
  have hz2 : z.length ≤ 9223372036854775807 := by omega
  have hz3 : (z.length : Int) ≤ 8 := by omega
  clear hy hl ht hk hL4
  go_enter Tryd.func3, Tryd.ntmps3
  go_wp2_with (first
    | (go_at_call 11; refine (own_ints a0 cp z _ (by omega) (hs.out.alloc _)).mono ?_; rintro e w1 ⟨a1, c1, rfl, hR, hB⟩; have R1 := Lib.hid hR; have X1 := Lib.hid (made1 hB).1; have B1 := Lib.hid (made1 hB).2; have H1 := Lib.hid ((hr.out.alloc _).below hB); clear hR hB)
    | (go_at_call 12; refine (of_any a1 c1 z _ hz2 R1.out _ _ HY).mono ?_; rintro e w2 ⟨rfl, hB⟩; have B2 := Lib.hid (below_on B1.out (Nat.le_refl _) hB); have X2 := Lib.hid (X1.out.below hB); have H2 := Lib.hid (H1.out.below hB); have R2 := Lib.hid (R1.out.below hB); clear hB; clear X1 H1 R1)
    | (go_at_call 13; refine (rof_any a0 cp z _ hz2 (H2.out.alloc _) _ _ HY).mono ?_; rintro e w3 ⟨rfl, hB⟩; have B3 := Lib.hid (below_on B2.out (Nat.le_refl _) (made1 hB).2); have X3 := Lib.hid ((X2.out.alloc _).below hB); have H3 := Lib.hid ((H2.out.alloc _).below hB); have R3 := Lib.hid ((R2.out.alloc _).below hB); have F3 := Lib.hid (made1 hB).1; clear hB; obtain ⟨cX3_0, cX3_1, cX3_2, cX3_3, cX3_4⟩ := X3.out.cell5; have lX3 := X3.out.lt; clear X2 H2 R2)
    | (go_at_call 14; refine (plist_any n a b c d L rl _ HLL).mono ?_; rintro e w4 ⟨a4, c4, rfl, hRL, hB⟩; have B4 := Lib.hid (below_on B3.out (Nat.le_refl _) (made1 hB).2); have X4 := Lib.hid ((X3.out.alloc _).below hB); have H4 := Lib.hid ((H3.out.alloc _).below hB); have R4 := Lib.hid ((R3.out.alloc _).below hB); have F4 := Lib.hid ((F3.out.alloc _).below hB); have G4 := Lib.hid (made1 hB).1; have L4 := Lib.hid hRL; clear hRL; clear hB; obtain ⟨cX4_0, cX4_1, cX4_2, cX4_3, cX4_4⟩ := X4.out.cell5; have lX4 := X4.out.lt; clear X3 H3 R3 F3; clear cX3_0 cX3_1 cX3_2 cX3_3 cX3_4 lX3)
    | (go_at_call 15; refine (rlist_any n a b c d L rl _ HLL).mono ?_; rintro e w5 ⟨a5, c5, rfl, hRL, hB⟩; have B5 := Lib.hid (below_on B4.out (Nat.le_refl _) hB); have X5 := Lib.hid (X4.out.below hB); have H5 := Lib.hid (H4.out.below hB); have R5 := Lib.hid (R4.out.below hB); have F5 := Lib.hid (F4.out.below hB); have G5 := Lib.hid (G4.out.below hB); have L5 := Lib.hid (L4.out.below hB); have M5 := Lib.hid hRL; clear hRL; clear hB; obtain ⟨cX5_0, cX5_1, cX5_2, cX5_3, cX5_4⟩ := X5.out.cell5; have lX5 := X5.out.lt; clear X4 H4 R4 F4 G4 L4; clear cX4_0 cX4_1 cX4_2 cX4_3 cX4_4 lX4)
    | (go_at_call 16; refine (ptext_any n a b c d _ s rt HT).mono ?_; rintro e w6 ⟨rfl, hB⟩; have B6 := Lib.hid (below_on B5.out (Nat.le_refl _) hB); have X6 := Lib.hid (X5.out.below hB); have H6 := Lib.hid (H5.out.below hB); have R6 := Lib.hid (R5.out.below hB); have F6 := Lib.hid (F5.out.below hB); have G6 := Lib.hid (G5.out.below hB); have L6 := Lib.hid (L5.out.below hB); have M6 := Lib.hid (M5.out.below hB); clear hB; obtain ⟨cX6_0, cX6_1, cX6_2, cX6_3, cX6_4⟩ := X6.out.cell5; have lX6 := X6.out.lt; clear X5 H5 R5 F5 G5 L5 M5; clear cX5_0 cX5_1 cX5_2 cX5_3 cX5_4 lX5)
    | (go_at_call 17; refine (rtext_any n a b c d _ s rt HT).mono ?_; rintro e w7 ⟨rfl, hB⟩; have B7 := Lib.hid (below_on B6.out (Nat.le_refl _) hB); have X7 := Lib.hid (X6.out.below hB); have H7 := Lib.hid (H6.out.below hB); have R7 := Lib.hid (R6.out.below hB); have F7 := Lib.hid (F6.out.below hB); have G7 := Lib.hid (G6.out.below hB); have L7 := Lib.hid (L6.out.below hB); have M7 := Lib.hid (M6.out.below hB); clear hB; clear X6 H6 R6 F6 G6 L6 M6; clear cX6_0 cX6_1 cX6_2 cX6_3 cX6_4 lX6)
    | (refine wp_region_last [.con (.agg #[.int .i64 y0, .int .i64 y1, .int .i64 y2, .int .i64 y3, .int .i64 y4]), .con (.agg #[.int .i64 y0, .int .i64 y1, .int .i64 y2, .int .i64 y3, .int .i64 y4]), .con (.bool true), .con (.bool true), .con (.int .i64 r), .con (.int .i64 r), .con (.bool true), .con (.bool true), .con (.bool true), .con (.agg #[.int .i64 n, .int .i64 a, .int .i64 b, .int .i64 c, .int .i64 d]), .con (.int .i64 t), .con (.int .i64 rc), .con (.agg #[.int .i64 n, .int .i64 a, .int .i64 b, .int .i64 c, .int .i64 d]), .con (.int .i64 t), .con (.int .i64 rc), .con (.bool true), .con (.bool true), .con (.bool true), .con (.slice a4 L.length c4), .con (.slice a5 L.length c5), .con (.bool true), .con (.bool true), .con (.bool true), .con (.int .i64 rl), .con (.int .i64 rl), .con (.bool true), .con (.bool true), .con (.bool true), .con (.string s), .con (.string s), .con (.bool true), .con (.bool true), .con (.bool true), .con (.int .i64 rt), .con (.int .i64 rt), .con (.bool true), .con (.bool true), .con (.bool true), .con (.slice a1 z.length c1), .con (.slice a0 z.length cp), .con (.bool true), .con (.bool true), .con (.bool true), .con (.bool true), .con (.bool true), .con (.bool true)] 6 45 (.bool true) (by kernel_rfl) (by kernel_rfl) (mkS_keeps (by kernel_rfl)) rfl rfl rfl ?steps ?fin))
  case steps =>
    refine ⟨fun A w9 hB h => step_load h (by kernel_rfl) _ _ (.pointer (some ⟨w2.heap.size, 0, none⟩)) rfl (h.old 8 (by kernel_rfl) (by rfl)) (load5 (F7.out.below hB)), ?_⟩
    refine ⟨fun A w9 hB h => step_load h (by kernel_rfl) _ _ (.pointer (some ⟨w3.heap.size, 0, none⟩)) rfl (h.old 10 (by kernel_rfl) (by rfl)) (load5 (G7.out.below hB)), ?_⟩
    refine ⟨fun A w9 hB h => step_bin h (by kernel_rfl) _ _ _ _ _ (.agg #[.int .i64 y0, .int .i64 y1, .int .i64 y2, .int .i64 y3, .int .i64 y4]) (.agg #[.int .i64 y0, .int .i64 y1, .int .i64 y2, .int .i64 y3, .int .i64 y4]) rfl (by kernel_rfl) (by kernel_rfl) (fun W => guard_look _ _ _ _ _ W) (fun W => look_self _ _ _ _ _ W), ?_⟩
    refine ⟨fun A w9 hB h => step_move h (by kernel_rfl) _ rfl (by kernel_rfl), ?_⟩
    refine ⟨fun A w9 hB h => step_move_old h (by kernel_rfl) 9 rfl (by kernel_rfl) (by rfl), ?_⟩
    refine ⟨fun A w9 hB h => step_move_old h (by kernel_rfl) 11 rfl (by kernel_rfl) (by rfl), ?_⟩
    refine ⟨fun A w9 hB h => step_bin h (by kernel_rfl) _ _ _ _ _ (.int .i64 r) (.int .i64 r) rfl (by kernel_rfl) (by kernel_rfl) (fun W => by kernel_rfl) (fun W => errno_self _ W), ?_⟩
    refine ⟨fun A w9 hB h => step_pick h (by kernel_rfl) _ _ _ true rfl (by kernel_rfl) (by kernel_rfl), ?_⟩
    refine ⟨fun A w9 hB h => step_move h (by kernel_rfl) _ rfl (by kernel_rfl), ?_⟩
    refine ⟨fun A w9 hB h => step_load h (by kernel_rfl) _ _ (.pointer (some ⟨w.heap.size, 0, none⟩)) rfl (h.old 4 (by kernel_rfl) (by rfl)) (load5 (X7.out.below hB)), ?_⟩
    refine ⟨fun A w9 hB h => step_move_old h (by kernel_rfl) 2 rfl (by kernel_rfl) (by rfl), ?_⟩
    refine ⟨fun A w9 hB h => step_call_con h (by kernel_rfl) _ _ [.agg #[.int .i64 n, .int .i64 a, .int .i64 b, .int .i64 c, .int .i64 d], .int .i64 t] rfl rfl (by kernel_rfl) (by kernel_rfl) (pcheck_any n a b c d t rc w9 HK), ?_⟩
    refine ⟨fun A w9 hB h => step_load h (by kernel_rfl) _ _ (.pointer (some ⟨w.heap.size, 0, none⟩)) rfl (h.old 4 (by kernel_rfl) (by rfl)) (load5 (X7.out.below hB)), ?_⟩
    refine ⟨fun A w9 hB h => step_move_old h (by kernel_rfl) 2 rfl (by kernel_rfl) (by rfl), ?_⟩
    refine ⟨fun A w9 hB h => step_call_con h (by kernel_rfl) _ _ [.agg #[.int .i64 n, .int .i64 a, .int .i64 b, .int .i64 c, .int .i64 d], .int .i64 t] rfl rfl (by kernel_rfl) (by kernel_rfl) (rcheck_any n a b c d t rc w9 HK), ?_⟩
    refine ⟨fun A w9 hB h => step_bin h (by kernel_rfl) _ _ _ _ _ (.int .i64 rc) (.int .i64 rc) rfl (by kernel_rfl) (by kernel_rfl) (fun W => by kernel_rfl) (fun W => errno_self _ W), ?_⟩
    refine ⟨fun A w9 hB h => step_pick h (by kernel_rfl) _ _ _ true rfl (by kernel_rfl) (by kernel_rfl), ?_⟩
    refine ⟨fun A w9 hB h => step_move h (by kernel_rfl) _ rfl (by kernel_rfl), ?_⟩
    refine ⟨fun A w9 hB h => step_move_old h (by kernel_rfl) 12 rfl (by kernel_rfl) (by rfl), ?_⟩
    refine ⟨fun A w9 hB h => step_move_old h (by kernel_rfl) 14 rfl (by kernel_rfl) (by rfl), ?_⟩
    refine ⟨fun A w9 hB h => step_call_con h (by kernel_rfl) _ _ [.slice a4 L.length c4, .slice a5 L.length c5] rfl rfl (by kernel_rfl) (by kernel_rfl) ((same_ints a4 a5 c4 c5 L w9 hL2 (L7.out.below hB) (M7.out.below hB)).mono (fun e w8 q => by obtain ⟨e1, k, rfl⟩ := q; exact ⟨e1, below_drewN (Below.refl _ _) k⟩)), ?_⟩
    refine ⟨fun A w9 hB h => step_pick h (by kernel_rfl) _ _ _ true rfl (by kernel_rfl) (by kernel_rfl), ?_⟩
    refine ⟨fun A w9 hB h => step_move h (by kernel_rfl) _ rfl (by kernel_rfl), ?_⟩
    refine ⟨fun A w9 hB h => step_move_old h (by kernel_rfl) 13 rfl (by kernel_rfl) (by rfl), ?_⟩
    refine ⟨fun A w9 hB h => step_move_old h (by kernel_rfl) 15 rfl (by kernel_rfl) (by rfl), ?_⟩
    refine ⟨fun A w9 hB h => step_bin h (by kernel_rfl) _ _ _ _ _ (.int .i64 rl) (.int .i64 rl) rfl (by kernel_rfl) (by kernel_rfl) (fun W => by kernel_rfl) (fun W => errno_self _ W), ?_⟩
    refine ⟨fun A w9 hB h => step_pick h (by kernel_rfl) _ _ _ true rfl (by kernel_rfl) (by kernel_rfl), ?_⟩
    refine ⟨fun A w9 hB h => step_move h (by kernel_rfl) _ rfl (by kernel_rfl), ?_⟩
    refine ⟨fun A w9 hB h => step_move_old h (by kernel_rfl) 16 rfl (by kernel_rfl) (by rfl), ?_⟩
    refine ⟨fun A w9 hB h => step_move_old h (by kernel_rfl) 18 rfl (by kernel_rfl) (by rfl), ?_⟩
    refine ⟨fun A w9 hB h => step_bin h (by kernel_rfl) _ _ _ _ _ (.string s) (.string s) rfl (by kernel_rfl) (by kernel_rfl) (fun W => by kernel_rfl) (fun W => str_self _ W), ?_⟩
    refine ⟨fun A w9 hB h => step_pick h (by kernel_rfl) _ _ _ true rfl (by kernel_rfl) (by kernel_rfl), ?_⟩
    refine ⟨fun A w9 hB h => step_move h (by kernel_rfl) _ rfl (by kernel_rfl), ?_⟩
    refine ⟨fun A w9 hB h => step_move_old h (by kernel_rfl) 17 rfl (by kernel_rfl) (by rfl), ?_⟩
    refine ⟨fun A w9 hB h => step_move_old h (by kernel_rfl) 19 rfl (by kernel_rfl) (by rfl), ?_⟩
    refine ⟨fun A w9 hB h => step_bin h (by kernel_rfl) _ _ _ _ _ (.int .i64 rt) (.int .i64 rt) rfl (by kernel_rfl) (by kernel_rfl) (fun W => by kernel_rfl) (fun W => errno_self _ W), ?_⟩
    refine ⟨fun A w9 hB h => step_pick h (by kernel_rfl) _ _ _ true rfl (by kernel_rfl) (by kernel_rfl), ?_⟩
    refine ⟨fun A w9 hB h => step_move h (by kernel_rfl) _ rfl (by kernel_rfl), ?_⟩
    refine ⟨fun A w9 hB h => step_move_old h (by kernel_rfl) 7 rfl (by kernel_rfl) (by rfl), ?_⟩
    refine ⟨fun A w9 hB h => step_move_old h (by kernel_rfl) 0 rfl (by kernel_rfl) (by rfl), ?_⟩
    refine ⟨fun A w9 hB h => step_call_con h (by kernel_rfl) _ _ [.slice a1 z.length c1, .slice a0 z.length cp] rfl rfl (by kernel_rfl) (by kernel_rfl) ((same_ints a1 a0 c1 cp z w9 hz2 (R7.out.below hB) (H7.out.below hB)).mono (fun e w8 q => by obtain ⟨e1, k, rfl⟩ := q; exact ⟨e1, below_drewN (Below.refl _ _) k⟩)), ?_⟩
    refine ⟨fun A w9 hB h => step_pick h (by kernel_rfl) _ _ _ true rfl (by kernel_rfl) (by kernel_rfl), ?_⟩
    refine ⟨fun A w9 hB h => step_move h (by kernel_rfl) _ rfl (by kernel_rfl), ?_⟩
    refine ⟨fun A w9 hB h => step_call_con h (by kernel_rfl) _ _ [] rfl rfl (by kernel_rfl) (by kernel_rfl) (awake_any w9), ?_⟩
    refine ⟨fun A w9 hB h => step_pick h (by kernel_rfl) _ _ _ true rfl (by kernel_rfl) (by kernel_rfl), ?_⟩
    refine ⟨fun A w9 hB h => step_assign h (by kernel_rfl) _ rfl (by kernel_rfl), ?_⟩
    exact trivial
  case fin =>
    intro B w8 hB hsz hdf hold
    have B8 := Lib.hid (below_on B7.out (Nat.le_refl _) hB)
    clear hold hB
    have hs : B.tmps.size = 101 := hsz.trans (by simp)
    clear hsz
    rename_i K hK
    refine hK _ _ ?_
    clear hK
    go_wp2
    exact bodyPost_ret (v := .bool true) (by simp [results, Tryd.results3, go_sem, hs]) hdf ⟨rfl, B8.out⟩
end Go.Proofs.YtddackdghphcnaaDoor.s13
