/-
  Operations of a region that draws its order, by their specifications: the kinds of operation.
-/
import Derived.Test.YtddackdghphcnaaDoorKitSpec
import Derived.Laws.Tables
import Derived.Great.BuildSlice
namespace Go.Proofs.YtddackdghphcnaaDoor.kit
set_option linter.unusedVariables false
set_option linter.unusedSimpArgs false
set_option linter.unnecessarySimpa false
open Go Go.RowKit

def conOf : Option Sp → Option Value
  | some (.con c) => some c
  | _ => none
def dstOf : Option Oper → Option Tmp
  | some o => o.dst
  | none => none
def lookGo (l : List Oper) (S : List Sp) (d : Tmp) : List Edge → Option Value
  | [] => none
  | e :: r => if Region.binds .any e && (dstOf l[e.on]? == some d) then conOf S[e.on]? else lookGo l S d r
/-- what an operand holds, by the specifications -/
def lookAt (l : List Oper) (S : List Sp) (o : Oper) : Operand → Option Value
  | .const v => some v
  | .tmp d => lookGo l S d o.after.toList
  | _ => none
def guardB (l : List Oper) (S : List Sp) (o : Oper) : Bool :=
  match o.guard with
  | none => true
  | some (j, b) => match dstOf l[j]? with
    | some d => match lookAt l S o (.tmp d) with
      | some (.bool c) => c == b
      | _ => false
    | none => false
section
variable {P : Program} {l : List Oper} {S : List Sp} {a A : Act} {o : Oper} {w : World}
theorem lookGo_spec {d : Tmp} {c : Value} : ∀ {es : List Edge}, lookGo l S d es = some c → ∃ e ∈ es, Region.binds .any e = true ∧ (l[e.on]?).bind (·.dst) = some d ∧ S[e.on]? = some (.con c)
  | [], h => by cases h
  | e :: r, h => by
    unfold lookGo at h
    by_cases hb : (Region.binds .any e && (dstOf l[e.on]? == some d)) = true
    · rw [if_pos hb] at h
      simp only [Bool.and_eq_true, beq_iff_eq] at hb
      refine ⟨e, by simp, hb.1, ?_, ?_⟩
      · have := hb.2
        cases hl : l[e.on]? with
        | none => rw [hl] at this; cases this
        | some x => rw [hl] at this; exact this
      · cases hs : S[e.on]? with
        | none => rw [hs] at h; cases h
        | some s => rw [hs] at h; cases s <;> simp [conOf] at h; rw [h]
    · rw [if_neg hb] at h
      obtain ⟨x, hx, h2⟩ := lookGo_spec h
      exact ⟨x, by simp [hx], h2⟩
theorem lookAt_eval (h : Pre l S a o A w) {x : Operand} {c : Value} (hx : lookAt l S o x = some c) : A.eval x = c := by
  cases x with
  | const v => simp [lookAt] at hx; subst hx; rfl
  | tmp d =>
    obtain ⟨e, he, hb, h1, h2⟩ := lookGo_spec hx
    exact h.con e.on (by rw [Array.any_eq_true']; exact ⟨e, by simpa using he, by simp [hb]⟩) h1 h2
  | global g => cases hx
  | func f => cases hx
theorem wanted_of (h : Pre l S a o A w) (hg : guardB l S o = true) : Region.wanted o (yielded l.toArray A.tmps) = true := by
  unfold guardB at hg
  unfold Region.wanted
  cases ho : o.guard with
  | none => rfl
  | some p =>
    obtain ⟨j, b⟩ := p
    rw [ho] at hg
    simp only at hg ⊢
    cases hd : dstOf l[j]? with
    | none => rw [hd] at hg; cases hg
    | some d =>
      rw [hd] at hg
      simp only at hg
      cases hl : lookAt l S o (.tmp d) with
      | none => rw [hl] at hg; cases hg
      | some v =>
        rw [hl] at hg
        have he := lookAt_eval h hl
        cases v <;> simp at hg
        rw [hg] at he
        have hj : (l[j]?).bind (·.dst) = some d := by
          cases hx : l[j]? with
          | none => rw [hx] at hd; cases hd
          | some y => rw [hx] at hd; exact hd
        unfold yielded
        have ht : A.tmps[d]? = some (.bool b) := by
          simp only [Act.eval] at he
          cases hq : A.tmps[d]? with
          | none => simp [Array.getD_eq_getD_getElem?, hq, undef] at he
          | some v => simp [Array.getD_eq_getD_getElem?, hq] at he; rw [he]
        simp only [List.getElem?_toArray, hj, Option.bind_some, ht]
        simp
theorem step_of (h : Pre l S a o A w) (hg : guardB l S o = true) {s : Sp} (hs : specAt P o A w s) : stepOk P l o A w s := .inl ⟨wanted_of h hg, hs⟩
theorem spec_val {s : Sp} {u : Value} (hr : (execOp A.eval o).run P w = .ok (.value u) w) (hu : s.Ok u w) : specAt P o A w s := by
  unfold specAt; rw [hr]; exact ⟨Below.refl _ _, hu⟩
theorem step_move (h : Pre l S a o A w) (hg : guardB l S o = true) (x : Operand) {c : Value} (hop : o.op = .move x) (hx : lookAt l S o x = some c) : stepOk P l o A w (.con c) :=
  step_of h hg (spec_val (u := c) (by unfold execOp; rw [hop, ← lookAt_eval h hx]; rfl) rfl)
theorem step_assign (h : Pre l S a o A w) (hg : guardB l S o = true) (x : Operand) {c : Value} (hop : o.op = .assign x) (hx : lookAt l S o x = some c) : stepOk P l o A w (.con c) :=
  step_of h hg (spec_val (u := c) (by unfold execOp; rw [hop, ← lookAt_eval h hx]; rfl) rfl)
theorem step_move_old (h : Pre l S a o A w) (hg : guardB l S o = true) (t : Tmp) {c : Value} (hop : o.op = .move (.tmp t)) (h1 : (l.all fun x => x.dst != some t) = true) (h2 : a.eval (.tmp t) = c) : stepOk P l o A w (.con c) :=
  step_of h hg (spec_val (u := c) (by unfold execOp; rw [hop, ← h.old t h1 h2]; rfl) rfl)
theorem step_pick (h : Pre l S a o A w) (hg : guardB l S o = true) (x y z : Operand) (b : Bool) {c : Value} (hop : o.op = .pick x y z) (hx : lookAt l S o x = some (.bool b)) (hy : lookAt l S o (if b then y else z) = some c) : stepOk P l o A w (.con c) :=
  step_of h hg (spec_val (u := c) (by
    have e1 := lookAt_eval h hx
    have e2 := lookAt_eval h hy
    unfold execOp; rw [hop]
    cases b
    · simp [e1, asBool] at e2 ⊢; simp [e2]
    · simp [e1, asBool] at e2 ⊢; simp [e2]) rfl)
theorem step_bin (h : Pre l S a o A w) (hg : guardB l S o = true) (op : BinOp) (t t2 : TypeId) (x y : Operand) (u v : Value) {c : Value} (hop : o.op = .binOp op t x y t2) (hx : lookAt l S o x = some u) (hy : lookAt l S o y = some v)
    (hq : ∀ W, (eqGuard op t x y u v).run P W = .ok () W) (hb : ∀ W, (binOp op t u v).run P W = .ok c W) : stepOk P l o A w (.con c) :=
  step_of h hg (spec_val (u := c) (by
    have e1 := lookAt_eval h hx
    have e2 := lookAt_eval h hy
    unfold execOp; rw [hop]
    simp only [e1, e2, Sem.run_bind, hq, hb, Result.andThen_ok]; rfl) rfl)
theorem step_load (h : Pre l S a o A w) (hg : guardB l S o = true) (t : TypeId) (x : Operand) (p : Value) {c : Value} (hop : o.op = .load t x) (hx : A.eval x = p) (hr : (Instr.loadAt t p).run P w = .ok c w) : stepOk P l o A w (.con c) :=
  step_of h hg (spec_val (u := c) (by
    unfold execOp; rw [hop]
    simp only [hx, Sem.run_bind, hr, Result.andThen_ok]; rfl) rfl)
/-- the parts of a literal, by the specifications -/
def partsAt (l : List Oper) (S : List Sp) (o : Oper) : List (Nat × Operand) → Option (List (Nat × Value))
  | [] => some []
  | (i, x) :: r => match lookAt l S o x, partsAt l S o r with
    | some v, some q => some ((i, v) :: q)
    | _, _ => none
theorem partsAt_eval (h : Pre l S a o A w) : ∀ {ps : List (Nat × Operand)} {vs : List (Nat × Value)}, partsAt l S o ps = some vs → ps.map (fun x => (x.1, A.eval x.2)) = vs
  | [], vs, e => by simp [partsAt] at e; subst e; rfl
  | (i, x) :: r, vs, e => by
    unfold partsAt at e
    cases hx : lookAt l S o x with
    | none => simp [hx] at e
    | some v =>
      cases hr : partsAt l S o r with
      | none => simp [hx, hr] at e
      | some q =>
        simp [hx, hr] at e
        subst e
        rw [List.map_cons, partsAt_eval h hr, lookAt_eval h hx]
theorem step_build (h : Pre l S a o A w) (hg : guardB l S o = true) (t : TypeId) (ps : Array (Nat × Operand)) (vs : List (Nat × Value)) (cells : Array Value) (hop : o.op = .build t ps) (hx : partsAt l S o ps.toList = some vs) (hb : P.built t vs = some cells) : stepOk P l o A w (.con (.agg cells)) :=
  step_of h hg (spec_val (u := .agg cells) (by
    unfold execOp; rw [hop]
    have e : (ps.map fun (i, x) => (i, A.eval x)).toList = vs := by rw [Array.toList_map]; exact partsAt_eval h hx
    have := run_build (P := P) w t (ps.map fun (i, x) => (i, A.eval x)) cells (by rw [e]; exact hb)
    simp only [Sem.run_bind, this, Result.andThen_ok]; rfl) rfl)
/-- a slice of integers that reads as xs -/
def SlI (xs : List Int) : Sp := .rel fun v w => ∃ a, v = .slice a xs.length xs.length ∧ ReadsI w a xs
theorem SlI.keeps (xs : List Int) : (SlI xs).Keeps := by
  rintro v w w' ⟨a, e, h⟩ hB
  exact ⟨a, e, h.below hB⟩
theorem con_keeps (c : Value) : (Sp.con c).Keeps := trivial
theorem step_slice (h : Pre l S a o A w) (hg : guardB l S o = true) (t e : TypeId) (len : Nat) (ps : Array (Nat × Operand)) (xs : List Int) (hop : o.op = .buildSlice t len ps)
    (hu : P.underlying t = some (.slice e)) (hsz : (P.info? e).map (·.size) = some 1) (hz : ((P.info? e).bind (·.zero)).isSome = true) (hlen : len = xs.length) (hpos : 0 < len) (hsmall : len ≤ 2 ^ 24)
    (hps : ps.toList = (xs.zipIdx 0).map fun x => (x.2, Operand.const (Value.int .i64 x.1))) : stepOk P l o A w (SlI xs) := by
  refine step_of h hg ?_
  cases hie : P.info? e with
  | none => simp [hie] at hsz
  | some ie =>
    simp only [hie, Option.map_some, Option.some.injEq, Option.bind_some] at hsz hz
    obtain ⟨z, hzz⟩ := Option.isSome_iff_exists.1 hz
    have hrun := run_buildSlice (P := P) w t e len (ps.map fun (i, x) => (i, A.eval x)) (xs.map (Value.int .i64)).toArray ie z hu hie hzz (by rw [hsz]; omega) (by rw [hsz]; omega) (by
      rw [parts_eval A ps .i64 xs hps, hsz]
      exact Great.fill_flat _ _ (fun v hv => by obtain ⟨n, _, rfl⟩ := List.mem_map.1 hv; rfl) (by simp [hlen]))
    unfold specAt execOp
    rw [hop]
    simp only [Sem.run_bind, hrun, Result.andThen_ok]
    subst hlen
    refine ⟨(Below.refl _ _).alloc (Nat.le_refl _) _, _, rfl, fun i hi => ⟨w.heap.size, 0, rfl, by simp, ?_⟩⟩
    rw [Nat.zero_add]
    unfold World.cell?
    rw [World.alloc_heap_new w _]
    simp [hi]
theorem run_enter {f : FuncId} (hf : (P.funcs[f]?).map (fun fn => (fn.name == "runtime.NumGoroutine", fn.body.isSome)) = some (false, true)) (args : Array Value) (w : World) : (callFunc f args).run P w = .ok (.enter f args) w := by
  cases hq : P.funcs[f]? with
  | none => simp [hq] at hf
  | some fn =>
    simp only [hq, Option.map_some, Option.some.injEq, Prod.mk.injEq] at hf
    obtain ⟨h1, h2⟩ := hf
    obtain ⟨c, hc⟩ := Option.isSome_iff_exists.1 h2
    have h3 : fn.name ≠ "runtime.NumGoroutine" := by simpa using h1
    simp [callFunc, hq, h3, hc]
theorem step_call (h : Pre l S a o A w) (hg : guardB l S o = true) (f : FuncId) (c : Call) {s : Sp} (args : Array Value) (hop : o.op = .call c) (hc : c.callee = .value (.func f)) (hf : (P.funcs[f]?).map (fun fn => (fn.name == "runtime.NumGoroutine", fn.body.isSome)) = some (false, true))
    (ha : c.args.map A.eval = args) (hC : Calls P f args w fun e w' => ∃ v, e = .returned v ∧ Below w.heap.size w w' ∧ s.Ok v w') : stepOk P l o A w s := by
  refine step_of h hg ?_
  have e : (execOp A.eval o).run P w = .ok (.enter f args) w := by
    obtain ⟨ca, xs, ts⟩ := c
    simp only at hc ha
    subst hc ha
    unfold execOp
    rw [hop]
    show (callFunc f (#[] ++ xs.map A.eval ++ #[])).run P w = _
    rw [Array.append_empty, Array.empty_append, run_enter hf]
  unfold specAt
  rw [e]
  exact hC
/-- a call that hands back a value, on operands that hold values -/
def argsAt (l : List Oper) (S : List Sp) (o : Oper) : List Operand → Option (List Value)
  | [] => some []
  | x :: r => match lookAt l S o x, argsAt l S o r with
    | some v, some q => some (v :: q)
    | _, _ => none
theorem argsAt_eval (h : Pre l S a o A w) : ∀ {ps : List Operand} {vs : List Value}, argsAt l S o ps = some vs → ps.map A.eval = vs
  | [], vs, e => by simp [argsAt] at e; subst e; rfl
  | x :: r, vs, e => by
    unfold argsAt at e
    cases hx : lookAt l S o x with
    | none => simp [hx] at e
    | some v =>
      cases hr : argsAt l S o r with
      | none => simp [hx, hr] at e
      | some q =>
        simp [hx, hr] at e
        subst e
        rw [List.map_cons, argsAt_eval h hr, lookAt_eval h hx]
theorem step_call_con (h : Pre l S a o A w) (hg : guardB l S o = true) (f : FuncId) (c : Call) {v : Value} (args : List Value) (hop : o.op = .call c) (hc : c.callee = .value (.func f)) (hf : (P.funcs[f]?).map (fun fn => (fn.name == "runtime.NumGoroutine", fn.body.isSome)) = some (false, true))
    (ha : argsAt l S o c.args.toList = some args) (hC : Calls P f args.toArray w fun e w' => e = .returned v ∧ Below w.heap.size w w') : stepOk P l o A w (.con v) :=
  step_call h hg f c args.toArray hop hc hf (by rw [← argsAt_eval h ha]; apply Array.ext'; simp) (hC.mono fun e w' ⟨e1, e2⟩ => ⟨v, e1, e2, rfl⟩)
/-- a call on a slice that an operation built -/
theorem step_call_sl (h : Pre l S a o A w) (hg : guardB l S o = true) (f : FuncId) (c : Call) {v : Value} (xs : List Int) (i : Nat) (d : Tmp) (hop : o.op = .call c) (hc : c.callee = .value (.func f)) (hca : c.args = #[.tmp d]) (hf : (P.funcs[f]?).map (fun fn => (fn.name == "runtime.NumGoroutine", fn.body.isSome)) = some (false, true))
    (h1 : (o.after.any fun e => e.on == i && Region.binds .any e) = true) (h2 : (l[i]?).bind (·.dst) = some d) (h3 : S[i]? = some (SlI xs)) (hC : ∀ a, ReadsI w a xs → Calls P f #[.slice a xs.length xs.length] w fun e w' => e = .returned v ∧ Below w.heap.size w w') : stepOk P l o A w (.con v) := by
  obtain ⟨p, e, hr⟩ := h.rel i h1 h2 h3
  exact step_call h hg f c #[.slice p xs.length xs.length] hop hc hf (by rw [hca]; simp [e]) ((hC p hr).mono fun e w' ⟨e1, e2⟩ => ⟨v, e1, e2, rfl⟩)
theorem take_at {α : Type} {l : List α} {n i : Nat} {x : α} (h : (l.take n)[i]? = some x) : l[i]? = some x := by
  rw [List.getElem?_take] at h
  by_cases e : i < n
  · rwa [if_pos e] at h
  · rw [if_neg e] at h; cases h
theorem putAll_app (vs : Nat → Value) : ∀ (r : List Oper) (k : Nat) (a : Act) (o : Oper), putAll vs k (r ++ [o]) a = (putAll vs k r a).put o.dst (vs (k + r.length))
  | [], k, a, o => rfl
  | x :: r, k, a, o => by
    show putAll vs (k + 1) (r ++ [o]) (a.put x.dst (vs k)) = _
    rw [putAll_app vs r (k + 1) _ o]
    show _ = (putAll vs (k + 1) r (a.put x.dst (vs k))).put o.dst _
    congr 2
    simp; omega
/-- a region whose last operation alone matters: the frame before it is a variable -/
theorem wp_region_last {id : Nat} {Q : Exit → Act → World → Prop} (S : List Sp) (d : Tmp) (n : Nat) (c : Value) (hm : P.follows .mixedOrders = true) (hB : fitB l a.tmps.size = true) (hK : ∀ s ∈ S, s.Keeps)
    (hn : l.length = n + 1) (hd : (l[n]?).map (·.dst) = some (some d)) (hs : S[n]? = some (.con c)) (hS : stepsOk P l S a w l S)
    (hQ : ∀ (B : Act) (w' : World), Below w.heap.size w w' → B.tmps.size = a.tmps.size → B.defers = a.defers → (∀ t, (l.all fun x => x.dst != some t) = true → B.eval (.tmp t) = a.eval (.tmp t)) → Q .normal (B.put (some d) c) w') : (Code.region id l.toArray true).wp P Q a w := by
  refine wp_region_specs S hm hB hK hS fun vs w' hB2 hv => ?_
  have hv := hv n _ hs
  cases ho : l[n]? with
  | none => rw [ho] at hd; cases hd
  | some o =>
    rw [ho] at hd
    simp only [Option.map_some, Option.some.injEq] at hd
    have hl : l = l.take n ++ [o] := by
      obtain ⟨h1, h2⟩ := List.getElem?_eq_some_iff.1 ho
      rw [← h2, ← List.take_succ_eq_append_getElem h1, List.take_of_length_le (by omega)]
    obtain ⟨s1, s2⟩ := size_putAll vs (l.take n) 0 a
    have hF := fit_of hB
    have hq := hQ (putAll vs 0 (l.take n) a) w' hB2 s1 s2 (fun t ht => by
      refine (eval_putAll vs t (l.take n) 0 a fun i x hx e he => ?_).1 fun i x hx => ?_
      · exact hF.lies i x (take_at hx) e he
      · rw [List.all_eq_true] at ht
        simpa using ht x (List.mem_of_getElem? (take_at hx)))
    have e : putAll vs 0 l a = (putAll vs 0 (l.take n) a).put (some d) c := by
      conv => lhs; rw [hl, putAll_app]
      rw [hd]
      have : vs (0 + (l.take n).length) = c := by
        rw [List.length_take, Nat.min_eq_left (by omega), Nat.zero_add]; exact hv
      rw [this]
    rw [e]
    exact hq
end
end Go.Proofs.YtddackdghphcnaaDoor.kit
