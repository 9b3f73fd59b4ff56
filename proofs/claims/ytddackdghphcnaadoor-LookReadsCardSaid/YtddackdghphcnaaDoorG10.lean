/-
  Regions by the specifications of their operations, behind each other: the frame stays a variable, of which is known what its slots hold. Layer 13: reading from a list of looks, by specifications.
-/
import Derived.Test.YtddackdghphcnaaDoorG06
import Derived.Test.YtddackdghphcnaaDoorG02
namespace Go.Proofs.YtddackdghphcnaaDoor.kit
set_option linter.unusedVariables false
set_option linter.unusedSimpArgs false
set_option linter.unnecessarySimpa false
open Go Go.RowKit
section
variable {P : Program} {l : List Oper}
/-- what is known of the frame behind a region -/
structure Behind (l : List Oper) (S : List Sp) (a A : Act) : Prop where
  size : A.tmps.size = a.tmps.size
  defers : A.defers = a.defers
  old : ∀ t : Tmp, (l.all fun x => x.dst != some t) = true → A.eval (.tmp t) = a.eval (.tmp t)
  con : ∀ (i : Nat) (d : Tmp) (c : Value), dstOf l[i]? = some d → conOf S[i]? = some c → A.eval (.tmp d) = c
theorem conOf_some {s : Option Sp} {c : Value} (h : conOf s = some c) : s = some (.con c) := by
  cases s with
  | none => cases h
  | some s => cases s <;> simp [conOf] at h; rw [h]
theorem dstOf_some {o : Option Oper} {d : Tmp} (h : dstOf o = some d) : ∃ x, o = some x ∧ x.dst = some d := by
  cases o with
  | none => cases h
  | some x => exact ⟨x, rfl, h⟩
theorem wp_region_drawn {id : Nat} {Q : Exit → Act → World → Prop} {a : Act} {w : World} (S : List Sp) (hm : P.follows .mixedOrders = true) (hB : fitB l a.tmps.size = true) (hK : ∀ s ∈ S, s.Keeps)
    (hS : stepsOk P l S a w l S) (hQ : ∀ A w', Below w.heap.size w w' → Behind l S a A → Q .normal A w') : (Code.region id l.toArray true).wp P Q a w := by
  refine wp_region_specs S hm hB hK hS fun vs w' hb hv => hQ _ _ hb ?_
  have hF := fit_of hB
  obtain ⟨s1, s2⟩ := size_putAll vs l 0 a
  refine ⟨s1, s2, fun t ht => (eval_putAll vs t l 0 a hF.lies).1 fun i x hx => ?_, fun i d c hd hc => ?_⟩
  · rw [List.all_eq_true] at ht
    simpa using ht x (List.mem_of_getElem? hx)
  · obtain ⟨x, hx, hxd⟩ := dstOf_some hd
    have e := (eval_putAll vs d l 0 a hF.lies).2 i x hx hxd fun j y hij hy => hF.once i j x y hij hx hy d hxd
    rw [e, Nat.zero_add]
    exact hv i _ (conOf_some hc)
theorem wpList_of_specs {S : List Sp} {a : Act} {w0 : World} {Q : Exit → Act → World → Prop} (hK : ∀ s ∈ S, s.Keeps) (hF : Fit l a.tmps.size) (hS : stepsOk P l S a w0 l S)
    (hQ : ∀ A w', Below w0.heap.size w0 w' → Behind l S a A → Q .normal A w') :
    ∀ (r : List Oper) (j : Nat) (listed : Array Bool) (vs : Nat → Value) (A : Act) (w : World), r = l.drop j → j ≤ l.length → listed.size = l.length → (∀ i, i < l.length → listed.getD i false = decide (i < j)) → In l S a w0 listed vs A w → wpList P l.toArray Q r A w := by
  obtain ⟨hlen, hat⟩ := stepsOk_at hS
  intro r
  induction r with
  | nil =>
    intro j listed vs A w hr hj hsz hls hI
    have hjl : j = l.length := by
      have := congrArg List.length hr
      rw [List.length_drop] at this
      simp at this; omega
    refine hQ A w hI.below ⟨hI.size, hI.defers, fun t ht => hI.rest t fun i o ho _ => ?_, fun i d c hd hc => ?_⟩
    · rw [List.all_eq_true] at ht
      simpa using ht o (List.mem_of_getElem? ho)
    · obtain ⟨x, hx, hxd⟩ := dstOf_some hd
      have hil := (List.getElem?_eq_some_iff.1 hx).1
      obtain ⟨h1, h2⟩ := hI.done i x _ hx (conOf_some hc) (by rw [hls i hil]; simp; omega)
      rw [h2 d hxd]; exact h1
  | cons o r ih =>
    intro j listed vs A w hr hj hsz hls hI
    have hjl : j < l.length := by
      have := congrArg List.length hr
      rw [List.length_drop] at this
      simp at this; omega
    have ho : l[j]? = some o := by
      have h := List.drop_eq_getElem_cons hjl
      rw [← hr] at h
      injection h with h1 h2
      rw [List.getElem?_eq_getElem hjl, h1]
    have hr2 : r = l.drop (j + 1) := by
      have h := List.drop_eq_getElem_cons hjl
      rw [← hr] at h
      injection h with h1 h2
    have hun : listed.getD j true = false := by
      have h := hls j hjl
      have hjs : j < listed.size := by omega
      simp [hjs] at h ⊢; exact h
    have hin : j ∈ Region.ready .any l.toArray listed := mem_ready.2 ⟨by
        have hjs : j < listed.size := by omega
        simpa [hjs] using hun, o, by simpa using ho, fun ed hed hb => by
        have hlt := hF.back j _ ho ed hed hb
        rw [hls _ (by omega)]; simpa using hlt⟩
    obtain ⟨s, hs, hstep⟩ := hat j o ho
    have hst := hstep A w hI.below (pre_of hI hin ho)
    have hgo : ∀ v w', Below w.heap.size w w' → s.Ok v w' → wpList P l.toArray Q r (A.put o.dst v) w' := fun v w' hB hv =>
      ih (j + 1) _ _ _ _ hr2 (by omega) (by simpa using hsz) (fun i hi => by
        have h := hls i hi
        have his : i < listed.size := by omega
        by_cases e : i = j
        · subst e; simp [his]
        · simp [Array.getElem?_setIfInBounds, his, Ne.symm e] at h ⊢
          rw [h]; apply Bool.eq_iff_iff.2; simp; omega) (hI.next hK hF ho hs hun hB hv)
    unfold wpList
    rcases hst with ⟨hw, h⟩ | ⟨hw, h⟩
    · rw [if_pos hw]
      exact .inl (wp_of_spec h hgo)
    · rw [if_neg (by rw [hw]; exact Bool.false_ne_true)]
      exact hgo _ _ (Below.refl _ _) h
theorem wp_region_inText {id : Nat} {Q : Exit → Act → World → Prop} {a : Act} {w : World} (S : List Sp) (hB : fitB l a.tmps.size = true) (hK : ∀ s ∈ S, s.Keeps)
    (hS : stepsOk P l S a w l S) (hQ : ∀ A w', Below w.heap.size w w' → Behind l S a A → Q .normal A w') : (Code.region id l.toArray false).wp P Q a w := by
  refine wp_region_lit ?_
  refine wpList_of_specs hK (fit_of hB) hS hQ l 0 (Array.replicate l.length false) (fun _ => undef) a w (by simp) (by omega) (by simp) (fun i hi => by simp [hi]) ⟨Below.refl _ _, rfl, rfl, fun i o s ho hs hl => ?_, fun t _ => rfl⟩
  have := (List.getElem?_eq_some_iff.1 ho).1
  simp [this] at hl
variable {S : List Sp} {a A : Act} {o : Oper} {w : World}
def guardNo (l : List Oper) (S : List Sp) (o : Oper) : Bool :=
  match o.guard with
  | none => false
  | some (j, b) => match dstOf l[j]? with
    | some d => match lookAt l S o (.tmp d) with
      | some (.bool c) => c != b
      | _ => false
    | none => false
theorem step_skip (h : Pre l S a o A w) (hg : guardNo l S o = true) : stepOk P l o A w (.con undef) := by
  refine .inr ⟨?_, rfl⟩
  unfold guardNo at hg
  unfold Region.wanted
  cases ho : o.guard with
  | none => rw [ho] at hg; cases hg
  | some p =>
    obtain ⟨j, b⟩ := p
    rw [ho] at hg
    simp only at hg ⊢
    cases hd : dstOf l[j]? with
    | none => rw [hd] at hg; cases hg
    | some d =>
      rw [hd] at hg
      simp only at hg
      cases hl : lookAt l S o (.tmp d) with
      | none => rw [hl] at hg; cases hg
      | some v =>
        rw [hl] at hg
        have he := lookAt_eval h hl
        cases v <;> simp at hg
        rename_i c
        have hj : (l[j]?).bind (·.dst) = some d := by
          obtain ⟨x, hx, hxd⟩ := dstOf_some hd
          rw [hx]; exact hxd
        have ht : A.tmps[d]? = some (.bool c) := by
          simp only [Act.eval] at he
          cases hq : A.tmps[d]? with
          | none => simp [Array.getD_eq_getD_getElem?, hq, undef] at he
          | some v => simp [Array.getD_eq_getD_getElem?, hq] at he; rw [he]
        unfold yielded
        simp only [List.getElem?_toArray, hj, Option.bind_some, ht]
        simpa using hg
theorem step_un (h : Pre l S a o A w) (hg : guardB l S o = true) (op : UnOp) (t : TypeId) (x : Operand) (u : Value) {c : Value} (hop : o.op = .unOp op t x) (hx : lookAt l S o x = some u) (hr : (Op.unary op u).run P w = .ok c w) : stepOk P l o A w (.con c) :=
  step_of h hg (spec_val (u := c) (by
    have e1 := lookAt_eval h hx
    unfold execOp; rw [hop]
    simp only [e1, Sem.run_bind, hr, Result.andThen_ok]; rfl) rfl)
theorem step_field (h : Pre l S a o A w) (hg : guardB l S o = true) (t : TypeId) (x : Operand) (i : Nat) (u : Value) {c : Value} (hop : o.op = .fieldAddr t x i) (hx : A.eval x = u) (hr : (Instr.fieldAt t u i).run P w = .ok c w) : stepOk P l o A w (.con c) :=
  step_of h hg (spec_val (u := c) (by
    unfold execOp; rw [hop]
    simp only [hx, Sem.run_bind, hr, Result.andThen_ok]; rfl) rfl)
theorem step_min (h : Pre l S a o A w) (hg : guardB l S o = true) (x y : Operand) (ts : Array TypeId) (u v : Value) {c : Value} (hop : o.op = .call { callee := .builtin .min, args := #[x, y], argTypes := ts }) (hx : lookAt l S o x = some u) (hy : lookAt l S o y = some v) (hr : (Builtin.min_ ts o.type #[u, v]).run P w = .ok c w) : stepOk P l o A w (.con c) :=
  step_of h hg (spec_val (u := c) (by
    have e := lookAt_eval h hx
    have e' := lookAt_eval h hy
    obtain ⟨dst, op, ty, pos, aft, gd⟩ := o
    simp only at hop hr
    subst hop
    have e2 : (#[x, y].map A.eval) = #[u, v] := by simp only [List.map_toArray, List.map_cons, List.map_nil, e, e']
    rw [BigFrame.execOp_builtin, BigFrame.builtin_min, e2]
    simp only [Sem.run_bind, hr, Result.andThen_ok]; rfl) rfl)
theorem step_len (h : Pre l S a o A w) (hg : guardB l S o = true) (x : Operand) (ts : Array TypeId) (p : Option Addr) (n cp : Nat) (hop : o.op = .call { callee := .builtin .len, args := #[x], argTypes := ts }) (hx : lookAt l S o x = some (.slice p n cp)) (hr : (Builtin.len_ ts o.type #[Value.slice p n cp]).run P w = .ok (.int .i64 n) w) : stepOk P l o A w (.con (.int .i64 n)) :=
  step_of h hg (spec_val (u := .int .i64 n) (by
    have e := lookAt_eval h hx
    obtain ⟨dst, op, ty, pos, aft, gd⟩ := o
    simp only at hop hr
    subst hop
    have e2 : (#[x].map A.eval) = #[Value.slice p n cp] := by simp only [List.map_toArray, List.map_cons, List.map_nil, e]
    rw [BigFrame.execOp_builtin, BigFrame.builtin_len, e2]
    simp only [Sem.run_bind, hr, Result.andThen_ok]; rfl) rfl)
theorem step_idx (h : Pre l S a o A w) (hg : guardB l S o = true) (t : TypeId) (x y : Operand) (u v : Value) {c : Value} (hop : o.op = .indexAddr t x y) (hx : lookAt l S o x = some u) (hy : lookAt l S o y = some v) (hr : (Instr.indexAt t u v).run P w = .ok c w) : stepOk P l o A w (.con c) :=
  step_of h hg (spec_val (u := c) (by
    have e1 := lookAt_eval h hx
    have e2 := lookAt_eval h hy
    unfold execOp; rw [hop]
    simp only [e1, e2, Sem.run_bind, hr, Result.andThen_ok]; rfl) rfl)
end
end Go.Proofs.YtddackdghphcnaaDoor.kit

namespace Go.Proofs.YtddackdghphcnaaDoor.s13
set_option linter.unusedVariables false
set_option linter.unusedSimpArgs false
open Go.RowKit
open kit

theorem at5_of {w : World} {b o : Nat} {l : List V5} (h : Reads5 w (some ⟨b, o, none⟩) l) (i : Nat) (hi : i < l.length) {x : V5} (hx : l[i]?.getD no5 = x) : At5 w b (o + i * 5) x := by
  obtain ⟨b', o', e, _, h5⟩ := h i hi
  cases e
  rw [hx] at h5
  exact h5
theorem load_at5 {w : World} {b o : Nat} {n x y z u : Int} (h : At5 w b o (n, x, y, z, u)) : (Instr.loadAt 25 (.pointer (some ⟨b, o, none⟩))).run Tryd.prog w = .ok (.agg #[.int .i64 n, .int .i64 x, .int .i64 y, .int .i64 z, .int .i64 u]) w := by
  obtain ⟨z0, z1, z2, z3, z4⟩ := h
  simp only at z0 z1 z2 z3 z4
  simp [go_sem, z0, z1, z2, z3, z4]
theorem idx5_0 (b o c : Nat) (w : World) : (Instr.indexAt 48 (.slice (some ⟨b, o, none⟩) 3 c) (.int .i64 0)).run Tryd.prog w = .ok (.pointer (some ⟨b, o + 0 * 5, none⟩)) w := by simp [go_sem]
theorem idx5_1 (b o c : Nat) (w : World) : (Instr.indexAt 48 (.slice (some ⟨b, o, none⟩) 3 c) (.int .i64 1)).run Tryd.prog w = .ok (.pointer (some ⟨b, o + 1 * 5, none⟩)) w := by simp [go_sem]
theorem idx5_2 (b o c : Nat) (w : World) : (Instr.indexAt 48 (.slice (some ⟨b, o, none⟩) 3 c) (.int .i64 2)).run Tryd.prog w = .ok (.pointer (some ⟨b, o + 2 * 5, none⟩)) w := by simp [go_sem]
theorem spS_keeps {l : List Sp} (h : ∀ s ∈ l, (∃ c, s = .con c) ∨ ∃ xs, s = SlI xs) : ∀ s ∈ l, s.Keeps := by
  intro s hs
  rcases h s hs with ⟨c, rfl⟩ | ⟨xs, rfl⟩
  · exact con_keeps c
  · exact SlI.keeps xs
end Go.Proofs.YtddackdghphcnaaDoor.s13
