/-
  Operations of a region that draws its order, by their specifications: the kinds of operation. Regions by the specifications of their operations, behind each other: the frame stays a variable, of which is known what its slots hold. Layer 14: the program's Sum, where it errs; the loop of its parts. Layer 14: the reference's Meet and Less.
-/
import Derived.Test.YtdahaajfkjmflaaG08
import Derived.Laws.Tables
import Derived.Great.BuildSlice
import Derived.Deep.DeepMust
import Derived.Test.YtdahaajfkjmflaaG06
namespace Go.Proofs.Ytdahaajfkjmflaa.kit
set_option linter.unusedVariables false
set_option linter.unusedSimpArgs false
set_option linter.unnecessarySimpa false
open Go Go.RowKit

def conOf : Option Sp → Option Value
  | some (.con c) => some c
  | _ => none
def dstOf : Option Oper → Option Tmp
  | some o => o.dst
  | none => none
def lookGo (l : List Oper) (S : List Sp) (d : Tmp) : List Edge → Option Value
  | [] => none
  | e :: r => if Region.binds .any e && (dstOf l[e.on]? == some d) then conOf S[e.on]? else lookGo l S d r
/-- what an operand holds, by the specifications -/
def lookAt (l : List Oper) (S : List Sp) (o : Oper) : Operand → Option Value
  | .const v => some v
  | .tmp d => lookGo l S d o.after.toList
  | _ => none
def guardB (l : List Oper) (S : List Sp) (o : Oper) : Bool :=
  match o.guard with
  | none => true
  | some (j, b) => match dstOf l[j]? with
    | some d => match lookAt l S o (.tmp d) with
      | some (.bool c) => c == b
      | _ => false
    | none => false
section
variable {P : Program} {l : List Oper} {S : List Sp} {a A : Act} {o : Oper} {w : World}
theorem lookGo_spec {d : Tmp} {c : Value} : ∀ {es : List Edge}, lookGo l S d es = some c → ∃ e ∈ es, Region.binds .any e = true ∧ (l[e.on]?).bind (·.dst) = some d ∧ S[e.on]? = some (.con c)
  | [], h => by cases h
  | e :: r, h => by
    unfold lookGo at h
    by_cases hb : (Region.binds .any e && (dstOf l[e.on]? == some d)) = true
    · rw [if_pos hb] at h
      simp only [Bool.and_eq_true, beq_iff_eq] at hb
      refine ⟨e, by simp, hb.1, ?_, ?_⟩
      · have := hb.2
        cases hl : l[e.on]? with
        | none => rw [hl] at this; cases this
        | some x => rw [hl] at this; exact this
      · cases hs : S[e.on]? with
        | none => rw [hs] at h; cases h
        | some s => rw [hs] at h; cases s <;> simp [conOf] at h; rw [h]
    · rw [if_neg hb] at h
      obtain ⟨x, hx, h2⟩ := lookGo_spec h
      exact ⟨x, by simp [hx], h2⟩
theorem lookAt_eval (h : Pre l S a o A w) {x : Operand} {c : Value} (hx : lookAt l S o x = some c) : A.eval x = c := by
  cases x with
  | const v => simp [lookAt] at hx; subst hx; rfl
  | tmp d =>
    obtain ⟨e, he, hb, h1, h2⟩ := lookGo_spec hx
    exact h.con e.on (by rw [Array.any_eq_true']; exact ⟨e, by simpa using he, by simp [hb]⟩) h1 h2
  | global g => cases hx
  | func f => cases hx
theorem wanted_of (h : Pre l S a o A w) (hg : guardB l S o = true) : Region.wanted o (yielded l.toArray A.tmps) = true := by
  unfold guardB at hg
  unfold Region.wanted
  cases ho : o.guard with
  | none => rfl
  | some p =>
    obtain ⟨j, b⟩ := p
    rw [ho] at hg
    simp only at hg ⊢
    cases hd : dstOf l[j]? with
    | none => rw [hd] at hg; cases hg
    | some d =>
      rw [hd] at hg
      simp only at hg
      cases hl : lookAt l S o (.tmp d) with
      | none => rw [hl] at hg; cases hg
      | some v =>
        rw [hl] at hg
        have he := lookAt_eval h hl
        cases v <;> simp at hg
        rw [hg] at he
        have hj : (l[j]?).bind (·.dst) = some d := by
          cases hx : l[j]? with
          | none => rw [hx] at hd; cases hd
          | some y => rw [hx] at hd; exact hd
        unfold yielded
        have ht : A.tmps[d]? = some (.bool b) := by
          simp only [Act.eval] at he
          cases hq : A.tmps[d]? with
          | none => simp [Array.getD_eq_getD_getElem?, hq, undef] at he
          | some v => simp [Array.getD_eq_getD_getElem?, hq] at he; rw [he]
        simp only [List.getElem?_toArray, hj, Option.bind_some, ht]
        simp
theorem step_of (h : Pre l S a o A w) (hg : guardB l S o = true) {s : Sp} (hs : specAt P o A w s) : stepOk P l o A w s := .inl ⟨wanted_of h hg, hs⟩
theorem spec_val {s : Sp} {u : Value} (hr : (execOp A.eval o).run P w = .ok (.value u) w) (hu : s.Ok u w) : specAt P o A w s := by
  unfold specAt; rw [hr]; exact ⟨Below.refl _ _, hu⟩
theorem step_move (h : Pre l S a o A w) (hg : guardB l S o = true) (x : Operand) {c : Value} (hop : o.op = .move x) (hx : lookAt l S o x = some c) : stepOk P l o A w (.con c) :=
  step_of h hg (spec_val (u := c) (by unfold execOp; rw [hop, ← lookAt_eval h hx]; rfl) rfl)
theorem step_assign (h : Pre l S a o A w) (hg : guardB l S o = true) (x : Operand) {c : Value} (hop : o.op = .assign x) (hx : lookAt l S o x = some c) : stepOk P l o A w (.con c) :=
  step_of h hg (spec_val (u := c) (by unfold execOp; rw [hop, ← lookAt_eval h hx]; rfl) rfl)
theorem step_move_old (h : Pre l S a o A w) (hg : guardB l S o = true) (t : Tmp) {c : Value} (hop : o.op = .move (.tmp t)) (h1 : (l.all fun x => x.dst != some t) = true) (h2 : a.eval (.tmp t) = c) : stepOk P l o A w (.con c) :=
  step_of h hg (spec_val (u := c) (by unfold execOp; rw [hop, ← h.old t h1 h2]; rfl) rfl)
theorem step_pick (h : Pre l S a o A w) (hg : guardB l S o = true) (x y z : Operand) (b : Bool) {c : Value} (hop : o.op = .pick x y z) (hx : lookAt l S o x = some (.bool b)) (hy : lookAt l S o (if b then y else z) = some c) : stepOk P l o A w (.con c) :=
  step_of h hg (spec_val (u := c) (by
    have e1 := lookAt_eval h hx
    have e2 := lookAt_eval h hy
    unfold execOp; rw [hop]
    cases b
    · simp [e1, asBool] at e2 ⊢; simp [e2]
    · simp [e1, asBool] at e2 ⊢; simp [e2]) rfl)
theorem step_bin (h : Pre l S a o A w) (hg : guardB l S o = true) (op : BinOp) (t t2 : TypeId) (x y : Operand) (u v : Value) {c : Value} (hop : o.op = .binOp op t x y t2) (hx : lookAt l S o x = some u) (hy : lookAt l S o y = some v)
    (hq : ∀ W, (eqGuard op t x y u v).run P W = .ok () W) (hb : ∀ W, (binOp op t u v).run P W = .ok c W) : stepOk P l o A w (.con c) :=
  step_of h hg (spec_val (u := c) (by
    have e1 := lookAt_eval h hx
    have e2 := lookAt_eval h hy
    unfold execOp; rw [hop]
    simp only [e1, e2, Sem.run_bind, hq, hb, Result.andThen_ok]; rfl) rfl)
theorem step_load (h : Pre l S a o A w) (hg : guardB l S o = true) (t : TypeId) (x : Operand) (p : Value) {c : Value} (hop : o.op = .load t x) (hx : A.eval x = p) (hr : (Instr.loadAt t p).run P w = .ok c w) : stepOk P l o A w (.con c) :=
  step_of h hg (spec_val (u := c) (by
    unfold execOp; rw [hop]
    simp only [hx, Sem.run_bind, hr, Result.andThen_ok]; rfl) rfl)
/-- the parts of a literal, by the specifications -/
def partsAt (l : List Oper) (S : List Sp) (o : Oper) : List (Nat × Operand) → Option (List (Nat × Value))
  | [] => some []
  | (i, x) :: r => match lookAt l S o x, partsAt l S o r with
    | some v, some q => some ((i, v) :: q)
    | _, _ => none
theorem partsAt_eval (h : Pre l S a o A w) : ∀ {ps : List (Nat × Operand)} {vs : List (Nat × Value)}, partsAt l S o ps = some vs → ps.map (fun x => (x.1, A.eval x.2)) = vs
  | [], vs, e => by simp [partsAt] at e; subst e; rfl
  | (i, x) :: r, vs, e => by
    unfold partsAt at e
    cases hx : lookAt l S o x with
    | none => simp [hx] at e
    | some v =>
      cases hr : partsAt l S o r with
      | none => simp [hx, hr] at e
      | some q =>
        simp [hx, hr] at e
        subst e
        rw [List.map_cons, partsAt_eval h hr, lookAt_eval h hx]
theorem step_build (h : Pre l S a o A w) (hg : guardB l S o = true) (t : TypeId) (ps : Array (Nat × Operand)) (vs : List (Nat × Value)) (cells : Array Value) (hop : o.op = .build t ps) (hx : partsAt l S o ps.toList = some vs) (hb : P.built t vs = some cells) : stepOk P l o A w (.con (.agg cells)) :=
  step_of h hg (spec_val (u := .agg cells) (by
    unfold execOp; rw [hop]
    have e : (ps.map fun (i, x) => (i, A.eval x)).toList = vs := by rw [Array.toList_map]; exact partsAt_eval h hx
    have := run_build (P := P) w t (ps.map fun (i, x) => (i, A.eval x)) cells (by rw [e]; exact hb)
    simp only [Sem.run_bind, this, Result.andThen_ok]; rfl) rfl)
/-- a slice of integers that reads as xs -/
def SlI (xs : List Int) : Sp := .rel fun v w => ∃ a, v = .slice a xs.length xs.length ∧ ReadsI w a xs
theorem SlI.keeps (xs : List Int) : (SlI xs).Keeps := by
  rintro v w w' ⟨a, e, h⟩ hB
  exact ⟨a, e, h.below hB⟩
theorem con_keeps (c : Value) : (Sp.con c).Keeps := trivial
theorem step_slice (h : Pre l S a o A w) (hg : guardB l S o = true) (t e : TypeId) (len : Nat) (ps : Array (Nat × Operand)) (xs : List Int) (hop : o.op = .buildSlice t len ps)
    (hu : P.underlying t = some (.slice e)) (hsz : (P.info? e).map (·.size) = some 1) (hz : ((P.info? e).bind (·.zero)).isSome = true) (hlen : len = xs.length) (hpos : 0 < len) (hsmall : len ≤ 2 ^ 24)
    (hps : ps.toList = (xs.zipIdx 0).map fun x => (x.2, Operand.const (Value.int .i64 x.1))) : stepOk P l o A w (SlI xs) := by
  refine step_of h hg ?_
  cases hie : P.info? e with
  | none => simp [hie] at hsz
  | some ie =>
    simp only [hie, Option.map_some, Option.some.injEq, Option.bind_some] at hsz hz
    obtain ⟨z, hzz⟩ := Option.isSome_iff_exists.1 hz
    have hrun := run_buildSlice (P := P) w t e len (ps.map fun (i, x) => (i, A.eval x)) (xs.map (Value.int .i64)).toArray ie z hu hie hzz (by rw [hsz]; omega) (by rw [hsz]; omega) (by
      rw [parts_eval A ps .i64 xs hps, hsz]
      exact Great.fill_flat _ _ (fun v hv => by obtain ⟨n, _, rfl⟩ := List.mem_map.1 hv; rfl) (by simp [hlen]))
    unfold specAt execOp
    rw [hop]
    simp only [Sem.run_bind, hrun, Result.andThen_ok]
    subst hlen
    refine ⟨(Below.refl _ _).alloc (Nat.le_refl _) _, _, rfl, fun i hi => ⟨w.heap.size, 0, rfl, by simp, ?_⟩⟩
    rw [Nat.zero_add]
    unfold World.cell?
    rw [World.alloc_heap_new w _]
    simp [hi]
theorem run_enter {f : FuncId} (hf : (P.funcs[f]?).map (fun fn => (fn.name == "runtime.NumGoroutine", fn.body.isSome)) = some (false, true)) (args : Array Value) (w : World) : (callFunc f args).run P w = .ok (.enter f args) w := by
  cases hq : P.funcs[f]? with
  | none => simp [hq] at hf
  | some fn =>
    simp only [hq, Option.map_some, Option.some.injEq, Prod.mk.injEq] at hf
    obtain ⟨h1, h2⟩ := hf
    obtain ⟨c, hc⟩ := Option.isSome_iff_exists.1 h2
    have h3 : fn.name ≠ "runtime.NumGoroutine" := by simpa using h1
    simp [callFunc, hq, h3, hc]
theorem step_call (h : Pre l S a o A w) (hg : guardB l S o = true) (f : FuncId) (c : Call) {s : Sp} (args : Array Value) (hop : o.op = .call c) (hc : c.callee = .value (.func f)) (hf : (P.funcs[f]?).map (fun fn => (fn.name == "runtime.NumGoroutine", fn.body.isSome)) = some (false, true))
    (ha : c.args.map A.eval = args) (hC : Calls P f args w fun e w' => ∃ v, e = .returned v ∧ Below w.heap.size w w' ∧ s.Ok v w') : stepOk P l o A w s := by
  refine step_of h hg ?_
  have e : (execOp A.eval o).run P w = .ok (.enter f args) w := by
    obtain ⟨ca, xs, ts⟩ := c
    simp only at hc ha
    subst hc ha
    unfold execOp
    rw [hop]
    show (callFunc f (#[] ++ xs.map A.eval ++ #[])).run P w = _
    rw [Array.append_empty, Array.empty_append, run_enter hf]
  unfold specAt
  rw [e]
  exact hC
/-- a call that hands back a value, on operands that hold values -/
def argsAt (l : List Oper) (S : List Sp) (o : Oper) : List Operand → Option (List Value)
  | [] => some []
  | x :: r => match lookAt l S o x, argsAt l S o r with
    | some v, some q => some (v :: q)
    | _, _ => none
theorem argsAt_eval (h : Pre l S a o A w) : ∀ {ps : List Operand} {vs : List Value}, argsAt l S o ps = some vs → ps.map A.eval = vs
  | [], vs, e => by simp [argsAt] at e; subst e; rfl
  | x :: r, vs, e => by
    unfold argsAt at e
    cases hx : lookAt l S o x with
    | none => simp [hx] at e
    | some v =>
      cases hr : argsAt l S o r with
      | none => simp [hx, hr] at e
      | some q =>
        simp [hx, hr] at e
        subst e
        rw [List.map_cons, argsAt_eval h hr, lookAt_eval h hx]
theorem step_call_con (h : Pre l S a o A w) (hg : guardB l S o = true) (f : FuncId) (c : Call) {v : Value} (args : List Value) (hop : o.op = .call c) (hc : c.callee = .value (.func f)) (hf : (P.funcs[f]?).map (fun fn => (fn.name == "runtime.NumGoroutine", fn.body.isSome)) = some (false, true))
    (ha : argsAt l S o c.args.toList = some args) (hC : Calls P f args.toArray w fun e w' => e = .returned v ∧ Below w.heap.size w w') : stepOk P l o A w (.con v) :=
  step_call h hg f c args.toArray hop hc hf (by rw [← argsAt_eval h ha]; apply Array.ext'; simp) (hC.mono fun e w' ⟨e1, e2⟩ => ⟨v, e1, e2, rfl⟩)
/-- a call on a slice that an operation built -/
theorem step_call_sl (h : Pre l S a o A w) (hg : guardB l S o = true) (f : FuncId) (c : Call) {v : Value} (xs : List Int) (i : Nat) (d : Tmp) (hop : o.op = .call c) (hc : c.callee = .value (.func f)) (hca : c.args = #[.tmp d]) (hf : (P.funcs[f]?).map (fun fn => (fn.name == "runtime.NumGoroutine", fn.body.isSome)) = some (false, true))
    (h1 : (o.after.any fun e => e.on == i && Region.binds .any e) = true) (h2 : (l[i]?).bind (·.dst) = some d) (h3 : S[i]? = some (SlI xs)) (hC : ∀ a, ReadsI w a xs → Calls P f #[.slice a xs.length xs.length] w fun e w' => e = .returned v ∧ Below w.heap.size w w') : stepOk P l o A w (.con v) := by
  obtain ⟨p, e, hr⟩ := h.rel i h1 h2 h3
  exact step_call h hg f c #[.slice p xs.length xs.length] hop hc hf (by rw [hca]; simp [e]) ((hC p hr).mono fun e w' ⟨e1, e2⟩ => ⟨v, e1, e2, rfl⟩)
theorem take_at {α : Type} {l : List α} {n i : Nat} {x : α} (h : (l.take n)[i]? = some x) : l[i]? = some x := by
  rw [List.getElem?_take] at h
  by_cases e : i < n
  · rwa [if_pos e] at h
  · rw [if_neg e] at h; cases h
theorem putAll_app (vs : Nat → Value) : ∀ (r : List Oper) (k : Nat) (a : Act) (o : Oper), putAll vs k (r ++ [o]) a = (putAll vs k r a).put o.dst (vs (k + r.length))
  | [], k, a, o => rfl
  | x :: r, k, a, o => by
    show putAll vs (k + 1) (r ++ [o]) (a.put x.dst (vs k)) = _
    rw [putAll_app vs r (k + 1) _ o]
    show _ = (putAll vs (k + 1) r (a.put x.dst (vs k))).put o.dst _
    congr 2
    simp; omega
/-- a region whose last operation alone matters: the frame before it is a variable -/
theorem wp_region_last {id : Nat} {Q : Exit → Act → World → Prop} (S : List Sp) (d : Tmp) (n : Nat) (c : Value) (hm : P.follows .mixedOrders = true) (hB : fitB l a.tmps.size = true) (hK : ∀ s ∈ S, s.Keeps)
    (hn : l.length = n + 1) (hd : (l[n]?).map (·.dst) = some (some d)) (hs : S[n]? = some (.con c)) (hS : stepsOk P l S a w l S)
    (hQ : ∀ (B : Act) (w' : World), Below w.heap.size w w' → B.tmps.size = a.tmps.size → B.defers = a.defers → (∀ t, (l.all fun x => x.dst != some t) = true → B.eval (.tmp t) = a.eval (.tmp t)) → Q .normal (B.put (some d) c) w') : (Code.region id l.toArray true).wp P Q a w := by
  refine wp_region_specs S hm hB hK hS fun vs w' hB2 hv => ?_
  have hv := hv n _ hs
  cases ho : l[n]? with
  | none => rw [ho] at hd; cases hd
  | some o =>
    rw [ho] at hd
    simp only [Option.map_some, Option.some.injEq] at hd
    have hl : l = l.take n ++ [o] := by
      obtain ⟨h1, h2⟩ := List.getElem?_eq_some_iff.1 ho
      rw [← h2, ← List.take_succ_eq_append_getElem h1, List.take_of_length_le (by omega)]
    obtain ⟨s1, s2⟩ := size_putAll vs (l.take n) 0 a
    have hF := fit_of hB
    have hq := hQ (putAll vs 0 (l.take n) a) w' hB2 s1 s2 (fun t ht => by
      refine (eval_putAll vs t (l.take n) 0 a fun i x hx e he => ?_).1 fun i x hx => ?_
      · exact hF.lies i x (take_at hx) e he
      · rw [List.all_eq_true] at ht
        simpa using ht x (List.mem_of_getElem? (take_at hx)))
    have e : putAll vs 0 l a = (putAll vs 0 (l.take n) a).put (some d) c := by
      conv => lhs; rw [hl, putAll_app]
      rw [hd]
      have : vs (0 + (l.take n).length) = c := by
        rw [List.length_take, Nat.min_eq_left (by omega), Nat.zero_add]; exact hv
      rw [this]
    rw [e]
    exact hq
end
end Go.Proofs.Ytdahaajfkjmflaa.kit

namespace Go.Proofs.Ytdahaajfkjmflaa.kit
set_option linter.unusedVariables false
set_option linter.unusedSimpArgs false
set_option linter.unnecessarySimpa false
open Go Go.RowKit
section
variable {P : Program} {l : List Oper}
/-- what is known of the frame behind a region -/
structure Behind (l : List Oper) (S : List Sp) (a A : Act) : Prop where
  size : A.tmps.size = a.tmps.size
  defers : A.defers = a.defers
  old : ∀ t : Tmp, (l.all fun x => x.dst != some t) = true → A.eval (.tmp t) = a.eval (.tmp t)
  con : ∀ (i : Nat) (d : Tmp) (c : Value), dstOf l[i]? = some d → conOf S[i]? = some c → A.eval (.tmp d) = c
theorem conOf_some {s : Option Sp} {c : Value} (h : conOf s = some c) : s = some (.con c) := by
  cases s with
  | none => cases h
  | some s => cases s <;> simp [conOf] at h; rw [h]
theorem dstOf_some {o : Option Oper} {d : Tmp} (h : dstOf o = some d) : ∃ x, o = some x ∧ x.dst = some d := by
  cases o with
  | none => cases h
  | some x => exact ⟨x, rfl, h⟩
theorem wp_region_drawn {id : Nat} {Q : Exit → Act → World → Prop} {a : Act} {w : World} (S : List Sp) (hm : P.follows .mixedOrders = true) (hB : fitB l a.tmps.size = true) (hK : ∀ s ∈ S, s.Keeps)
    (hS : stepsOk P l S a w l S) (hQ : ∀ A w', Below w.heap.size w w' → Behind l S a A → Q .normal A w') : (Code.region id l.toArray true).wp P Q a w := by
  refine wp_region_specs S hm hB hK hS fun vs w' hb hv => hQ _ _ hb ?_
  have hF := fit_of hB
  obtain ⟨s1, s2⟩ := size_putAll vs l 0 a
  refine ⟨s1, s2, fun t ht => (eval_putAll vs t l 0 a hF.lies).1 fun i x hx => ?_, fun i d c hd hc => ?_⟩
  · rw [List.all_eq_true] at ht
    simpa using ht x (List.mem_of_getElem? hx)
  · obtain ⟨x, hx, hxd⟩ := dstOf_some hd
    have e := (eval_putAll vs d l 0 a hF.lies).2 i x hx hxd fun j y hij hy => hF.once i j x y hij hx hy d hxd
    rw [e, Nat.zero_add]
    exact hv i _ (conOf_some hc)
theorem wpList_of_specs {S : List Sp} {a : Act} {w0 : World} {Q : Exit → Act → World → Prop} (hK : ∀ s ∈ S, s.Keeps) (hF : Fit l a.tmps.size) (hS : stepsOk P l S a w0 l S)
    (hQ : ∀ A w', Below w0.heap.size w0 w' → Behind l S a A → Q .normal A w') :
    ∀ (r : List Oper) (j : Nat) (listed : Array Bool) (vs : Nat → Value) (A : Act) (w : World), r = l.drop j → j ≤ l.length → listed.size = l.length → (∀ i, i < l.length → listed.getD i false = decide (i < j)) → In l S a w0 listed vs A w → wpList P l.toArray Q r A w := by
  obtain ⟨hlen, hat⟩ := stepsOk_at hS
  intro r
  induction r with
  | nil =>
    intro j listed vs A w hr hj hsz hls hI
    have hjl : j = l.length := by
      have := congrArg List.length hr
      rw [List.length_drop] at this
      simp at this; omega
    refine hQ A w hI.below ⟨hI.size, hI.defers, fun t ht => hI.rest t fun i o ho _ => ?_, fun i d c hd hc => ?_⟩
    · rw [List.all_eq_true] at ht
      simpa using ht o (List.mem_of_getElem? ho)
    · obtain ⟨x, hx, hxd⟩ := dstOf_some hd
      have hil := (List.getElem?_eq_some_iff.1 hx).1
      obtain ⟨h1, h2⟩ := hI.done i x _ hx (conOf_some hc) (by rw [hls i hil]; simp; omega)
      rw [h2 d hxd]; exact h1
  | cons o r ih =>
    intro j listed vs A w hr hj hsz hls hI
    have hjl : j < l.length := by
      have := congrArg List.length hr
      rw [List.length_drop] at this
      simp at this; omega
    have ho : l[j]? = some o := by
      have h := List.drop_eq_getElem_cons hjl
      rw [← hr] at h
      injection h with h1 h2
      rw [List.getElem?_eq_getElem hjl, h1]
    have hr2 : r = l.drop (j + 1) := by
      have h := List.drop_eq_getElem_cons hjl
      rw [← hr] at h
      injection h with h1 h2
    have hun : listed.getD j true = false := by
      have h := hls j hjl
      have hjs : j < listed.size := by omega
      simp [hjs] at h ⊢; exact h
    have hin : j ∈ Region.ready .any l.toArray listed := mem_ready.2 ⟨by
        have hjs : j < listed.size := by omega
        simpa [hjs] using hun, o, by simpa using ho, fun ed hed hb => by
        have hlt := hF.back j _ ho ed hed hb
        rw [hls _ (by omega)]; simpa using hlt⟩
    obtain ⟨s, hs, hstep⟩ := hat j o ho
    have hst := hstep A w hI.below (pre_of hI hin ho)
    have hgo : ∀ v w', Below w.heap.size w w' → s.Ok v w' → wpList P l.toArray Q r (A.put o.dst v) w' := fun v w' hB hv =>
      ih (j + 1) _ _ _ _ hr2 (by omega) (by simpa using hsz) (fun i hi => by
        have h := hls i hi
        have his : i < listed.size := by omega
        by_cases e : i = j
        · subst e; simp [his]
        · simp [Array.getElem?_setIfInBounds, his, Ne.symm e] at h ⊢
          rw [h]; apply Bool.eq_iff_iff.2; simp; omega) (hI.next hK hF ho hs hun hB hv)
    unfold wpList
    rcases hst with ⟨hw, h⟩ | ⟨hw, h⟩
    · rw [if_pos hw]
      exact .inl (wp_of_spec h hgo)
    · rw [if_neg (by rw [hw]; exact Bool.false_ne_true)]
      exact hgo _ _ (Below.refl _ _) h
theorem wp_region_inText {id : Nat} {Q : Exit → Act → World → Prop} {a : Act} {w : World} (S : List Sp) (hB : fitB l a.tmps.size = true) (hK : ∀ s ∈ S, s.Keeps)
    (hS : stepsOk P l S a w l S) (hQ : ∀ A w', Below w.heap.size w w' → Behind l S a A → Q .normal A w') : (Code.region id l.toArray false).wp P Q a w := by
  refine wp_region_lit ?_
  refine wpList_of_specs hK (fit_of hB) hS hQ l 0 (Array.replicate l.length false) (fun _ => undef) a w (by simp) (by omega) (by simp) (fun i hi => by simp [hi]) ⟨Below.refl _ _, rfl, rfl, fun i o s ho hs hl => ?_, fun t _ => rfl⟩
  have := (List.getElem?_eq_some_iff.1 ho).1
  simp [this] at hl
variable {S : List Sp} {a A : Act} {o : Oper} {w : World}
def guardNo (l : List Oper) (S : List Sp) (o : Oper) : Bool :=
  match o.guard with
  | none => false
  | some (j, b) => match dstOf l[j]? with
    | some d => match lookAt l S o (.tmp d) with
      | some (.bool c) => c != b
      | _ => false
    | none => false
theorem step_skip (h : Pre l S a o A w) (hg : guardNo l S o = true) : stepOk P l o A w (.con undef) := by
  refine .inr ⟨?_, rfl⟩
  unfold guardNo at hg
  unfold Region.wanted
  cases ho : o.guard with
  | none => rw [ho] at hg; cases hg
  | some p =>
    obtain ⟨j, b⟩ := p
    rw [ho] at hg
    simp only at hg ⊢
    cases hd : dstOf l[j]? with
    | none => rw [hd] at hg; cases hg
    | some d =>
      rw [hd] at hg
      simp only at hg
      cases hl : lookAt l S o (.tmp d) with
      | none => rw [hl] at hg; cases hg
      | some v =>
        rw [hl] at hg
        have he := lookAt_eval h hl
        cases v <;> simp at hg
        rename_i c
        have hj : (l[j]?).bind (·.dst) = some d := by
          obtain ⟨x, hx, hxd⟩ := dstOf_some hd
          rw [hx]; exact hxd
        have ht : A.tmps[d]? = some (.bool c) := by
          simp only [Act.eval] at he
          cases hq : A.tmps[d]? with
          | none => simp [Array.getD_eq_getD_getElem?, hq, undef] at he
          | some v => simp [Array.getD_eq_getD_getElem?, hq] at he; rw [he]
        unfold yielded
        simp only [List.getElem?_toArray, hj, Option.bind_some, ht]
        simpa using hg
theorem step_un (h : Pre l S a o A w) (hg : guardB l S o = true) (op : UnOp) (t : TypeId) (x : Operand) (u : Value) {c : Value} (hop : o.op = .unOp op t x) (hx : lookAt l S o x = some u) (hr : (Op.unary op u).run P w = .ok c w) : stepOk P l o A w (.con c) :=
  step_of h hg (spec_val (u := c) (by
    have e1 := lookAt_eval h hx
    unfold execOp; rw [hop]
    simp only [e1, Sem.run_bind, hr, Result.andThen_ok]; rfl) rfl)
theorem step_field (h : Pre l S a o A w) (hg : guardB l S o = true) (t : TypeId) (x : Operand) (i : Nat) (u : Value) {c : Value} (hop : o.op = .fieldAddr t x i) (hx : A.eval x = u) (hr : (Instr.fieldAt t u i).run P w = .ok c w) : stepOk P l o A w (.con c) :=
  step_of h hg (spec_val (u := c) (by
    unfold execOp; rw [hop]
    simp only [hx, Sem.run_bind, hr, Result.andThen_ok]; rfl) rfl)
theorem step_min (h : Pre l S a o A w) (hg : guardB l S o = true) (x y : Operand) (ts : Array TypeId) (u v : Value) {c : Value} (hop : o.op = .call { callee := .builtin .min, args := #[x, y], argTypes := ts }) (hx : lookAt l S o x = some u) (hy : lookAt l S o y = some v) (hr : (Builtin.min_ ts o.type #[u, v]).run P w = .ok c w) : stepOk P l o A w (.con c) :=
  step_of h hg (spec_val (u := c) (by
    have e := lookAt_eval h hx
    have e' := lookAt_eval h hy
    obtain ⟨dst, op, ty, pos, aft, gd⟩ := o
    simp only at hop hr
    subst hop
    have e2 : (#[x, y].map A.eval) = #[u, v] := by simp only [List.map_toArray, List.map_cons, List.map_nil, e, e']
    rw [BigFrame.execOp_builtin, BigFrame.builtin_min, e2]
    simp only [Sem.run_bind, hr, Result.andThen_ok]; rfl) rfl)
theorem step_len (h : Pre l S a o A w) (hg : guardB l S o = true) (x : Operand) (ts : Array TypeId) (p : Option Addr) (n cp : Nat) (hop : o.op = .call { callee := .builtin .len, args := #[x], argTypes := ts }) (hx : lookAt l S o x = some (.slice p n cp)) (hr : (Builtin.len_ ts o.type #[Value.slice p n cp]).run P w = .ok (.int .i64 n) w) : stepOk P l o A w (.con (.int .i64 n)) :=
  step_of h hg (spec_val (u := .int .i64 n) (by
    have e := lookAt_eval h hx
    obtain ⟨dst, op, ty, pos, aft, gd⟩ := o
    simp only at hop hr
    subst hop
    have e2 : (#[x].map A.eval) = #[Value.slice p n cp] := by simp only [List.map_toArray, List.map_cons, List.map_nil, e]
    rw [BigFrame.execOp_builtin, BigFrame.builtin_len, e2]
    simp only [Sem.run_bind, hr, Result.andThen_ok]; rfl) rfl)
theorem step_idx (h : Pre l S a o A w) (hg : guardB l S o = true) (t : TypeId) (x y : Operand) (u v : Value) {c : Value} (hop : o.op = .indexAddr t x y) (hx : lookAt l S o x = some u) (hy : lookAt l S o y = some v) (hr : (Instr.indexAt t u v).run P w = .ok c w) : stepOk P l o A w (.con c) :=
  step_of h hg (spec_val (u := c) (by
    have e1 := lookAt_eval h hx
    have e2 := lookAt_eval h hy
    unfold execOp; rw [hop]
    simp only [e1, e2, Sem.run_bind, hr, Result.andThen_ok]; rfl) rfl)
end
end Go.Proofs.Ytdahaajfkjmflaa.kit

namespace Go.Proofs.Ytdahaajfkjmflaa.s14
set_option linter.unusedVariables false
set_option linter.unusedSimpArgs false
open Go.RowKit
open kit

open s13

open Go.Shelf
attribute [local go_sem] Oper.semAt_some
def noS (r : Int) : Ending := .returned (.tuple #[.slice none 0 0, .int .i64 r])
theorem box1 {w : World} {t : TypeId} {g : Nat} {v : Value} (h : Box w t g #[v]) : w.cell? ⟨g, 0, none⟩ = some v := by have := h.cell 0; simpa using this
/-- what a world holds of the call's own -/
theorem two_below {w w1 : World} {o o' : Obj} (hB : Below ((w.alloc o).alloc o').heap.size ((w.alloc o).alloc o') w1) : Below w.heap.size w w1 :=
  below_on (((Below.refl w.heap.size w).alloc (Nat.le_refl _) o).alloc (by simp) o') (Nat.le_refl _) hB
set_option maxRecDepth 100000 in
set_option maxHeartbeats 6000000 in
theorem psum_bad (t k : Int) (a b : Option Addr) (n m ca cb : Nat) (la lb : List V5) (w : World) (hn : Hid (la.length = n)) (hm : Hid (lb.length = m)) (hn6 : n ≤ 60000) (hm6 : m ≤ 60000) (ra : Hid (Reads5 w a la)) (rb : Hid (Reads5 w b lb)) (r : Int) (HR : Hid (chkA t [la, lb] = r)) (hr : (r != 0) = true) :
    Calls Try.prog 30 #[.int .i64 t, .int .i64 k, .slice a n ca, .slice b m cb] w fun e w' => e = noS r ∧ Below w.heap.size w w' := by
  have HG : Hid (Grid ((w.alloc (.cells #[.int .i64 k] 3)).alloc (.cells #[.slice a n ca, .slice b m cb] 22)) (some ⟨w.heap.size + 1, 0, none⟩) [la, lb]) := Lib.hid (grid2 (new2 w _ _ _) hn.out hm.out ((ra.out.alloc _).alloc _) ((rb.out.alloc _).alloc _))
  have HM : Hid (∀ i, i < [la, lb].length → ([la, lb][i]?.getD []).length ≤ 60000) := Lib.hid (fun i hi => by
    have : i = 0 ∨ i = 1 := by simp at hi; omega
    rcases this with rfl | rfl
    · simpa [hn.out] using hn6
    · simpa [hm.out] using hm6)
  have f51 : Fence.wide.fn 51 := trivial
  have f59 : Fence.wide.fn 59 := trivial
  refine (callsIn_wide (n := 6)).1 ?_
  refine callsIn_of_wp_marks Try.func30 rfl trivial ?_ rfl
  simp only [Try.ntmps30, List.size_toArray, List.length_cons, List.length_nil, Nat.reduceAdd, Nat.reduceSub, Array.replicate_succ, Array.replicate_zero, List.push_toArray, List.append_toArray, List.nil_append, List.cons_append]
  gi_wp2_with (gi_at_call 51; go_must (refine ((callsIn_wide (n := _)).2 (checkall_any t _ 2 2 [la, lb] _ (Lib.hid rfl) (by omega) HM HG r HR)).mono ?_); rintro e w1 ⟨rfl, hB⟩; have B1 := Lib.hid (two_below hB); clear hB)
  clear HG HM ra rb
  gi_wp2
  exact leaves_marksG (G := fun w' => Below w.heap.size w w') (fun w => results_tmp2 (t := 8) (u := 9) rfl _ _ _) (fun w' hw => ⟨rfl, hw⟩) [] w1 List.nodup_nil (by simp) (by simp) B1.out
set_option maxRecDepth 100000 in
set_option maxHeartbeats 6000000 in
theorem psum_k (t k : Int) (a b : Option Addr) (n m ca cb : Nat) (la lb : List V5) (w : World) (hn : Hid (la.length = n)) (hm : Hid (lb.length = m)) (hn6 : n ≤ 60000) (hm6 : m ≤ 60000) (ra : Hid (Reads5 w a la)) (rb : Hid (Reads5 w b lb)) (HR : Hid (chkA t [la, lb] = 0)) (hk : k < 1 ∨ 4 < k) :
    Calls Try.prog 30 #[.int .i64 t, .int .i64 k, .slice a n ca, .slice b m cb] w fun e w' => e = noS 2 ∧ Below w.heap.size w w' := by
  have HG : Hid (Grid ((w.alloc (.cells #[.int .i64 k] 3)).alloc (.cells #[.slice a n ca, .slice b m cb] 22)) (some ⟨w.heap.size + 1, 0, none⟩) [la, lb]) := Lib.hid (grid2 (new2 w _ _ _) hn.out hm.out ((ra.out.alloc _).alloc _) ((rb.out.alloc _).alloc _))
  have HM : Hid (∀ i, i < [la, lb].length → ([la, lb][i]?.getD []).length ≤ 60000) := Lib.hid (fun i hi => by
    have : i = 0 ∨ i = 1 := by simp at hi; omega
    rcases this with rfl | rfl
    · simpa [hn.out] using hn6
    · simpa [hm.out] using hm6)
  have f51 : Fence.wide.fn 51 := trivial
  have f59 : Fence.wide.fn 59 := trivial
  refine (callsIn_wide (n := 6)).1 ?_
  refine callsIn_of_wp_marks Try.func30 rfl trivial ?_ rfl
  simp only [Try.ntmps30, List.size_toArray, List.length_cons, List.length_nil, Nat.reduceAdd, Nat.reduceSub, Array.replicate_succ, Array.replicate_zero, List.push_toArray, List.append_toArray, List.nil_append, List.cons_append]
  gi_wp2_with (gi_at_call 51; go_must (refine ((callsIn_wide (n := _)).2 (checkall_any t _ 2 2 [la, lb] _ (Lib.hid rfl) (by omega) HM HG 0 HR)).mono ?_); rintro e w1 ⟨rfl, hB⟩; have B1 := Lib.hid (two_below hB); have X1 := box1 (((Box.new w 3 #[.int .i64 k]).alloc _).below hB); clear hB)
  clear HG HM ra rb
  gi_wp2_with (gi_at_call 59; refine ((callsIn_wide (n := _)).2 (isahead_no k _ hk)).mono ?_; rintro e w2 ⟨rfl, rfl⟩)
  exact leaves_marksG (G := fun w' => Below w.heap.size w w') (fun w => results_tmp2 (t := 8) (u := 9) rfl _ _ _) (fun w' hw => ⟨rfl, hw⟩) [] w1 List.nodup_nil (by simp) (by simp) B1.out
end Go.Proofs.Ytdahaajfkjmflaa.s14

namespace Go.Proofs.Ytdahaajfkjmflaa.s14
set_option linter.unusedVariables false
set_option linter.unusedSimpArgs false
open Go.RowKit
open kit

open s13

open Go.Shelf
theorem filt_step {l : List V5} {f : V5 → Bool} {i : Nat} (h : i < l.length) : (l.take (i + 1)).filter f = (l.take i).filter f ++ (if f (l[i]?.getD no5) then [l[i]?.getD no5] else []) := by
  rw [List.take_succ_eq_append_getElem h, List.filter_append, List.getElem?_eq_getElem h]
  simp only [List.filter_cons, List.filter_nil, Option.getD_some]
theorem flat5_snoc (L : List V5) (x : V5) : flat5 (L ++ [x]) = flat5 L ++ cells5 x := by unfold flat5; rw [List.flatMap_append]; simp
set_option maxRecDepth 100000 in
set_option maxHeartbeats 2000000 in
theorem rmeet_bad (t : Int) (a b : Option Addr) (n m ca cb : Nat) (la lb : List V5) (w : World) (hn : Hid (la.length = n)) (hm : Hid (lb.length = m)) (hn6 : n ≤ 60000) (hm6 : m ≤ 60000) (ra : Hid (Reads5 w a la)) (rb : Hid (Reads5 w b lb)) (r : Int) (HR : Hid (chkA t [la, lb] = r)) (hr : (r != 0) = true) :
    Calls Try.prog 21 #[.int .i64 t, .slice a n ca, .slice b m cb] w fun e w' => e = noS r ∧ Below w.heap.size w w' := by
  have hne : (r == 0) = false := by simpa using hr
  go_enter Try.func21, Try.ntmps21
  go_wp2_with (fail)
  go_at_call 56
  refine (s14.rboth_any t a b n m ca cb la lb _ hn hm hn6 hm6 ra rb r HR).mono ?_
  rintro e w1 ⟨rfl, hB⟩
  have B1 := Lib.hid hB
  clear hB
  go_wp2
  go_loopw [9, 10] (fun v9 v10 wr => v9 = .slice none 0 0 ∧ v10 = .int .i64 0 ∧ Hid (Below w.heap.size w wr)) (fun _ _ _ => 0)
  case atStart => exact ⟨rfl, rfl, B1⟩
  case round =>
    obtain ⟨rfl, rfl, HB⟩ := hrel
    by_cases h0 : (0 : Int) < n
    · go_wp2
      go_ret2
      exact ⟨rfl, HB.out⟩
    · go_wp2
      go_ret2
      exact ⟨rfl, HB.out⟩
set_option maxRecDepth 100000 in
set_option maxHeartbeats 4000000 in
theorem rmeet_ok (t : Int) (a b : Option Addr) (n m ca cb : Nat) (la lb : List V5) (w : World) (hn : Hid (la.length = n)) (hm : Hid (lb.length = m)) (hn6 : n ≤ 60000) (hm6 : m ≤ 60000) (ra : Hid (Reads5 w a la)) (rb : Hid (Reads5 w b lb)) (HR : Hid (chkA t [la, lb] = 0)) :
    Calls Try.prog 21 #[.int .i64 t, .slice a n ca, .slice b m cb] w fun e w' => ∃ p cp N, e = .returned (.tuple #[.slice p N cp, .int .i64 0]) ∧ (la.filter fun x => decide (x ∈ lb)).length = N ∧ Reads5 w' p (la.filter fun x => decide (x ∈ lb)) ∧ Below w.heap.size w w' := by
  go_enter Try.func21, Try.ntmps21
  go_wp2_with (fail)
  go_at_call 56
  refine (s14.rboth_any t a b n m ca cb la lb _ hn hm hn6 hm6 ra rb 0 HR).mono ?_
  rintro e w1 ⟨rfl, hB⟩
  have B1 := Lib.hid hB
  clear hB
  go_wp2
  go_loopw [9, 10] (fun v9 v10 wr => ∃ i k : Nat, v10 = .int .i64 i ∧ i ≤ n ∧ k ≤ i ∧ Hid (((la.take i).filter fun x => decide (x ∈ lb)).length = k) ∧ Hid (wr.ownsRow w.heap.size 25 5 v9 k (flat5 ((la.take i).filter fun x => decide (x ∈ lb)))) ∧ Hid (Below w.heap.size w wr)) (fun _ v _ => n - (intOf v).toNat)
  case atStart => exact ⟨0, 0, rfl, by omega, by omega, Lib.hid (by simp), Lib.hid (World.ownsRow_nil _ _ _ _), B1⟩
  case round =>
    obtain ⟨i, k, rfl, hi, hk, HK, HRow, HB⟩ := hrel
    by_cases hlt : i < n
    · have hil : i < la.length := by have := hn.out; omega
      obtain ⟨ga, oa, rfl, _, ha⟩ := (ra.out.below HB.out) i hil
      have HF := Lib.hid (filt_step (f := fun x => decide (x ∈ lb)) hil)
      have hsz := HB.out.size
      have RB := Lib.hid (rb.out.below HB.out)
      clear hil
      generalize la[i]?.getD no5 = y at ha HF
      obtain ⟨y0, y1, y2, y3, y4⟩ := y
      have HA := Lib.hid ha
      obtain ⟨e0, e1, e2, e3, e4⟩ := ha
      simp only at e0 e1 e2 e3 e4
      by_cases hin : ((y0, y1, y2, y3, y4) : V5) ∈ lb
      · have HI : Hid (decide (((y0, y1, y2, y3, y4) : V5) ∈ lb) = true) := Lib.hid (decide_eq_true hin)
        clear hin
        go_wp2_with (fail)
        go_at_call 50
        refine (rin_any b m cb lb y0 y1 y2 y3 y4 _ hm (by omega) RB true HI).mono ?_
        rintro e w2 ⟨rfl, hB⟩
        have B2 := Lib.hid (below_then HB.out hB)
        have R2 := Lib.hid (own5_below HRow.out hB)
        have hA2 := HA.out.below hB
        have hsz2 := B2.out.size
        clear hB e0 e1 e2 e3 e4
        obtain ⟨e0, e1, e2, e3, e4⟩ := hA2
        simp only at e0 e1 e2 e3 e4
        have HF2 := HF.out
        simp only [HI.out, Bool.not_false, if_true] at HF2
        have HF3 := Lib.hid HF2
        clear HF2
        go_wp2_with (at_builtin; refine append_in5 rfl (.tmp 31) (.tmp 36) rfl w.heap.size _ k _ rfl (R2.out.alloc _) _ [(y0, y1, y2, y3, y4)] 1 1 rfl rfl (by decide) (reads5_block (Box.new w2 25 #[.int .i64 y0, .int .i64 y1, .int .i64 y2, .int .i64 y3, .int .i64 y4]) rfl) (by omega) (by simp; omega) ?_; intro v3 w3 hv3 hB3; have O3 := Lib.hid hv3; have B3 := Lib.hid ((B2.out.alloc B2.out.size (.cells #[.int .i64 y0, .int .i64 y1, .int .i64 y2, .int .i64 y3, .int .i64 y4] 25)).trans hB3); clear hv3 hB3)
        go_roundw
        case rel => exact ⟨i + 1, k + 1, by go_num, by omega, by omega, Lib.hid (by rw [HF3.out, List.length_append, HK.out]; rfl), Lib.hid (by rw [HF3.out]; exact O3.out), B3⟩
        case measure => simp [intOf]; omega
      · have HI : Hid (decide (((y0, y1, y2, y3, y4) : V5) ∈ lb) = false) := Lib.hid (decide_eq_false hin)
        clear hin
        go_wp2_with (fail)
        go_at_call 50
        refine (rin_any b m cb lb y0 y1 y2 y3 y4 _ hm (by omega) RB false HI).mono ?_
        rintro e w2 ⟨rfl, hB⟩
        have B2 := Lib.hid (below_then HB.out hB)
        have R2 := Lib.hid (own5_below HRow.out hB)
        have hA2 := HA.out.below hB
        have hsz2 := B2.out.size
        clear hB e0 e1 e2 e3 e4
        obtain ⟨e0, e1, e2, e3, e4⟩ := hA2
        simp only at e0 e1 e2 e3 e4
        have HF2 := HF.out
        simp only [HI.out, Bool.not_true, Bool.false_eq_true, if_false, List.append_nil] at HF2
        have HF3 := Lib.hid HF2
        clear HF2
        go_wp2
        go_roundw
        case rel => exact ⟨i + 1, k, by go_num, by omega, by omega, Lib.hid (by rw [HF3.out]; exact HK.out), Lib.hid (by rw [HF3.out]; exact R2.out), B2⟩
        case measure => simp [intOf]; omega
    · obtain rfl : i = n := by omega
      have hrow := HRow.out
      have hkk := HK.out
      rw [List.take_of_length_le (by rw [hn.out]; omega)] at hrow hkk
      obtain ⟨p, cp, rfl, hcp⟩ := row5_shape hrow
      have HRR := Lib.hid (reads5_of_row hkk hrow)
      have HK2 := Lib.hid hkk
      clear hrow hkk
      go_wp2
      go_ret2
      exact ⟨p, cp, k, rfl, HK2.out, HRR.out, HB.out⟩
set_option maxRecDepth 100000 in
set_option maxHeartbeats 2000000 in
theorem rless_bad (t : Int) (a b : Option Addr) (n m ca cb : Nat) (la lb : List V5) (w : World) (hn : Hid (la.length = n)) (hm : Hid (lb.length = m)) (hn6 : n ≤ 60000) (hm6 : m ≤ 60000) (ra : Hid (Reads5 w a la)) (rb : Hid (Reads5 w b lb)) (r : Int) (HR : Hid (chkA t [la, lb] = r)) (hr : (r != 0) = true) :
    Calls Try.prog 23 #[.int .i64 t, .slice a n ca, .slice b m cb] w fun e w' => e = noS r ∧ Below w.heap.size w w' := by
  have hne : (r == 0) = false := by simpa using hr
  go_enter Try.func23, Try.ntmps23
  go_wp2_with (fail)
  go_at_call 56
  refine (s14.rboth_any t a b n m ca cb la lb _ hn hm hn6 hm6 ra rb r HR).mono ?_
  rintro e w1 ⟨rfl, hB⟩
  have B1 := Lib.hid hB
  clear hB
  go_wp2
  go_loopw [9, 10] (fun v9 v10 wr => v9 = .slice none 0 0 ∧ v10 = .int .i64 0 ∧ Hid (Below w.heap.size w wr)) (fun _ _ _ => 0)
  case atStart => exact ⟨rfl, rfl, B1⟩
  case round =>
    obtain ⟨rfl, rfl, HB⟩ := hrel
    by_cases h0 : (0 : Int) < n
    · go_wp2
      go_ret2
      exact ⟨rfl, HB.out⟩
    · go_wp2
      go_ret2
      exact ⟨rfl, HB.out⟩
set_option maxRecDepth 100000 in
set_option maxHeartbeats 4000000 in
theorem rless_ok (t : Int) (a b : Option Addr) (n m ca cb : Nat) (la lb : List V5) (w : World) (hn : Hid (la.length = n)) (hm : Hid (lb.length = m)) (hn6 : n ≤ 60000) (hm6 : m ≤ 60000) (ra : Hid (Reads5 w a la)) (rb : Hid (Reads5 w b lb)) (HR : Hid (chkA t [la, lb] = 0)) :
    Calls Try.prog 23 #[.int .i64 t, .slice a n ca, .slice b m cb] w fun e w' => ∃ p cp N, e = .returned (.tuple #[.slice p N cp, .int .i64 0]) ∧ (la.filter fun x => !decide (x ∈ lb)).length = N ∧ Reads5 w' p (la.filter fun x => !decide (x ∈ lb)) ∧ Below w.heap.size w w' := by
  go_enter Try.func23, Try.ntmps23
  go_wp2_with (fail)
  go_at_call 56
  refine (s14.rboth_any t a b n m ca cb la lb _ hn hm hn6 hm6 ra rb 0 HR).mono ?_
  rintro e w1 ⟨rfl, hB⟩
  have B1 := Lib.hid hB
  clear hB
  go_wp2
  go_loopw [9, 10] (fun v9 v10 wr => ∃ i k : Nat, v10 = .int .i64 i ∧ i ≤ n ∧ k ≤ i ∧ Hid (((la.take i).filter fun x => !decide (x ∈ lb)).length = k) ∧ Hid (wr.ownsRow w.heap.size 25 5 v9 k (flat5 ((la.take i).filter fun x => !decide (x ∈ lb)))) ∧ Hid (Below w.heap.size w wr)) (fun _ v _ => n - (intOf v).toNat)
  case atStart => exact ⟨0, 0, rfl, by omega, by omega, Lib.hid (by simp), Lib.hid (World.ownsRow_nil _ _ _ _), B1⟩
  case round =>
    obtain ⟨i, k, rfl, hi, hk, HK, HRow, HB⟩ := hrel
    by_cases hlt : i < n
    · have hil : i < la.length := by have := hn.out; omega
      obtain ⟨ga, oa, rfl, _, ha⟩ := (ra.out.below HB.out) i hil
      have HF := Lib.hid (filt_step (f := fun x => !decide (x ∈ lb)) hil)
      have hsz := HB.out.size
      have RB := Lib.hid (rb.out.below HB.out)
      clear hil
      generalize la[i]?.getD no5 = y at ha HF
      obtain ⟨y0, y1, y2, y3, y4⟩ := y
      have HA := Lib.hid ha
      obtain ⟨e0, e1, e2, e3, e4⟩ := ha
      simp only at e0 e1 e2 e3 e4
      by_cases hin : ((y0, y1, y2, y3, y4) : V5) ∈ lb
      · have HI : Hid (decide (((y0, y1, y2, y3, y4) : V5) ∈ lb) = true) := Lib.hid (decide_eq_true hin)
        clear hin
        go_wp2_with (fail)
        go_at_call 50
        refine (rin_any b m cb lb y0 y1 y2 y3 y4 _ hm (by omega) RB true HI).mono ?_
        rintro e w2 ⟨rfl, hB⟩
        have B2 := Lib.hid (below_then HB.out hB)
        have R2 := Lib.hid (own5_below HRow.out hB)
        have hA2 := HA.out.below hB
        have hsz2 := B2.out.size
        clear hB e0 e1 e2 e3 e4
        obtain ⟨e0, e1, e2, e3, e4⟩ := hA2
        simp only at e0 e1 e2 e3 e4
        have HF2 := HF.out
        simp only [HI.out, Bool.not_true, Bool.false_eq_true, if_false, List.append_nil] at HF2
        have HF3 := Lib.hid HF2
        clear HF2
        go_wp2
        go_roundw
        case rel => exact ⟨i + 1, k, by go_num, by omega, by omega, Lib.hid (by rw [HF3.out]; exact HK.out), Lib.hid (by rw [HF3.out]; exact R2.out), B2⟩
        case measure => simp [intOf]; omega
      · have HI : Hid (decide (((y0, y1, y2, y3, y4) : V5) ∈ lb) = false) := Lib.hid (decide_eq_false hin)
        clear hin
        go_wp2_with (fail)
        go_at_call 50
        refine (rin_any b m cb lb y0 y1 y2 y3 y4 _ hm (by omega) RB false HI).mono ?_
        rintro e w2 ⟨rfl, hB⟩
        have B2 := Lib.hid (below_then HB.out hB)
        have R2 := Lib.hid (own5_below HRow.out hB)
        have hA2 := HA.out.below hB
        have hsz2 := B2.out.size
        clear hB e0 e1 e2 e3 e4
        obtain ⟨e0, e1, e2, e3, e4⟩ := hA2
        simp only at e0 e1 e2 e3 e4
        have HF2 := HF.out
        simp only [HI.out, Bool.not_false, if_true] at HF2
        have HF3 := Lib.hid HF2
        clear HF2
        go_wp2_with (at_builtin; refine append_in5 rfl (.tmp 32) (.tmp 37) rfl w.heap.size _ k _ rfl (R2.out.alloc _) _ [(y0, y1, y2, y3, y4)] 1 1 rfl rfl (by decide) (reads5_block (Box.new w2 25 #[.int .i64 y0, .int .i64 y1, .int .i64 y2, .int .i64 y3, .int .i64 y4]) rfl) (by omega) (by simp; omega) ?_; intro v3 w3 hv3 hB3; have O3 := Lib.hid hv3; have B3 := Lib.hid ((B2.out.alloc B2.out.size (.cells #[.int .i64 y0, .int .i64 y1, .int .i64 y2, .int .i64 y3, .int .i64 y4] 25)).trans hB3); clear hv3 hB3)
        go_roundw
        case rel => exact ⟨i + 1, k + 1, by go_num, by omega, by omega, Lib.hid (by rw [HF3.out, List.length_append, HK.out]; rfl), Lib.hid (by rw [HF3.out]; exact O3.out), B3⟩
        case measure => simp [intOf]; omega
    · obtain rfl : i = n := by omega
      have hrow := HRow.out
      have hkk := HK.out
      rw [List.take_of_length_le (by rw [hn.out]; omega)] at hrow hkk
      obtain ⟨p, cp, rfl, hcp⟩ := row5_shape hrow
      have HRR := Lib.hid (reads5_of_row hkk hrow)
      have HK2 := Lib.hid hkk
      clear hrow hkk
      go_wp2
      go_ret2
      exact ⟨p, cp, k, rfl, HK2.out, HRR.out, HB.out⟩
end Go.Proofs.Ytdahaajfkjmflaa.s14
