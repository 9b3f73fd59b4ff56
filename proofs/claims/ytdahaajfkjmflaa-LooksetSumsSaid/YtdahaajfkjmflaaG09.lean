/-
  A region that draws its order, whose operations only read or make new memory (also values that lie in it): each operation by itself, in any frame and world in which those that it waits for have met their specifications. No order is walked. Operations of a region that draws its order, by their specifications: the kinds of operation. Regions by the specifications of their operations, behind each other: the frame stays a variable, of which is known what its slots hold. Layer 14: the program's Sum, where it errs; the loop of its parts.
-/
import Derived.Test.YtdahaajfkjmflaaG01
import Derived.Still
import Derived.Deep.Quiet
import Derived.Laws.Tables
import Derived.Great.BuildSlice
import Derived.Test.YtdahaajfkjmflaaG08
import Derived.Deep.DeepMust
namespace Go.Proofs.Ytdahaajfkjmflaa.kit
set_option linter.unusedVariables false
set_option linter.unusedSimpArgs false
set_option linter.unnecessarySimpa false
open Go Go.RowKit

/-- what is said of a value -/
inductive Sp where
  | con (c : Value)
  | rel (R : Value → World → Prop)
def Sp.Ok : Sp → Value → World → Prop
  | .con c, v, _ => v = c
  | .rel R, v, w => R v w
def Sp.Keeps : Sp → Prop
  | .con _ => True
  | .rel R => ∀ v w w', R v w → Below w.heap.size w w' → R v w'
theorem Sp.Ok.below {s : Sp} (hs : s.Keeps) {v : Value} {w w' : World} (h : s.Ok v w) (hB : Below w.heap.size w w') : s.Ok v w' := by
  cases s with
  | con c => exact h
  | rel R => exact hs v w w' h hB
def specUpon (P : Program) (T : Value → World → Prop) : Result Next → Prop
  | .ok (.value u) w' => T u w'
  | .ok .skip w' => T undef w'
  | .ok (.enter f args) w' => Calls P f args w' (fun e w'' => ∃ v, e = .returned v ∧ T v w'')
  | _ => False
def specAt (P : Program) (o : Oper) (a : Act) (w : World) (s : Sp) : Prop := specUpon P (fun v w' => Below w.heap.size w w' ∧ s.Ok v w') ((execOp a.eval o).run P w)
theorem wp_of_spec {P : Program} {o : Oper} {a : Act} {w : World} {s : Sp} {K : Act → World → Prop} {Q : Exit → Act → World → Prop} (h : specAt P o a w s)
    (hK : ∀ v w', Below w.heap.size w w' → s.Ok v w' → K (a.put o.dst v) w') : o.wp P a w K Q := by
  unfold specAt at h
  unfold Oper.wp
  generalize (execOp a.eval o).run P w = r at *
  cases r with
  | ok n w' =>
    cases n <;> simp only [specUpon] at h <;> simp only [Oper.upon]
    case value u => exact hK _ _ h.1 h.2
    case skip => exact hK _ _ h.1 h.2
    case enter f args =>
      refine h.mono ?_
      rintro e w'' ⟨v, rfl, h1, h2⟩
      exact hK _ _ h1 h2
  | halt x w' => simp only [specUpon] at h

section
variable {P : Program} {l : List Oper}
/-- what is at hand where an operation comes up: those that it waits for have met their specifications -/
def Pre (l : List Oper) (S : List Sp) (a : Act) (o : Oper) (A : Act) (w : World) : Prop :=
  (∀ t, (l.all fun x => x.dst != some t) = true → A.eval (.tmp t) = a.eval (.tmp t)) ∧
  ∀ i, (o.after.any fun e => e.on == i && Region.binds .any e) = true → ∀ oi s, l[i]? = some oi → S[i]? = some s → ∃ v, s.Ok v w ∧ ∀ d, oi.dst = some d → A.eval (.tmp d) = v
theorem Pre.con {S : List Sp} {a A : Act} {o : Oper} {w : World} (h : Pre l S a o A w) (i : Nat) {d : Tmp} {c : Value} (h1 : (o.after.any fun e => e.on == i && Region.binds .any e) = true) (h2 : (l[i]?).bind (·.dst) = some d) (h3 : S[i]? = some (.con c)) : A.eval (.tmp d) = c := by
  cases hi : l[i]? with
  | none => rw [hi] at h2; cases h2
  | some oi =>
    rw [hi] at h2
    obtain ⟨v, hv, hd⟩ := h.2 i h1 oi _ hi h3
    rw [hd d h2]
    exact hv
theorem Pre.rel {S : List Sp} {a A : Act} {o : Oper} {w : World} (h : Pre l S a o A w) (i : Nat) {d : Tmp} {R : Value → World → Prop} (h1 : (o.after.any fun e => e.on == i && Region.binds .any e) = true) (h2 : (l[i]?).bind (·.dst) = some d) (h3 : S[i]? = some (.rel R)) : R (A.eval (.tmp d)) w := by
  cases hi : l[i]? with
  | none => rw [hi] at h2; cases h2
  | some oi =>
    rw [hi] at h2
    obtain ⟨v, hv, hd⟩ := h.2 i h1 oi _ hi h3
    rw [hd d h2]
    exact hv
theorem Pre.old {S : List Sp} {a A : Act} {o : Oper} {w : World} (h : Pre l S a o A w) (t : Tmp) {c : Value} (h1 : (l.all fun x => x.dst != some t) = true) (h2 : a.eval (.tmp t) = c) : A.eval (.tmp t) = c := by rw [h.1 t h1, h2]
/-- an operation, whether it is wanted or passed over -/
def stepOk (P : Program) (l : List Oper) (o : Oper) (A : Act) (w : World) (s : Sp) : Prop :=
  (Region.wanted o (yielded l.toArray A.tmps) = true ∧ specAt P o A w s) ∨ (Region.wanted o (yielded l.toArray A.tmps) = false ∧ s.Ok undef w)
/-- all operations -/
def stepsOk (P : Program) (l : List Oper) (S : List Sp) (a : Act) (w0 : World) : List Oper → List Sp → Prop
  | o :: r, s :: q => (∀ A w, Below w0.heap.size w0 w → Pre l S a o A w → stepOk P l o A w s) ∧ stepsOk P l S a w0 r q
  | [], [] => True
  | _, _ => False
theorem stepsOk_at {S : List Sp} {a : Act} {w0 : World} : ∀ {r : List Oper} {q : List Sp}, stepsOk P l S a w0 r q → r.length = q.length ∧ ∀ (j : Nat) (o : Oper), r[j]? = some o → ∃ s, q[j]? = some s ∧ ∀ A w, Below w0.heap.size w0 w → Pre l S a o A w → stepOk P l o A w s
  | [], [], _ => ⟨rfl, fun j o h => by simp at h⟩
  | o :: r, s :: q, h => by
    obtain ⟨h1, h2⟩ := h
    obtain ⟨h3, h4⟩ := stepsOk_at h2
    refine ⟨by simp [h3], fun j o' hj => ?_⟩
    cases j with
    | zero => simp at hj; subst hj; exact ⟨s, by simp, h1⟩
    | succ j => simpa using h4 j o' (by simpa using hj)
  | [], _ :: _, h => h.elim
  | _ :: _, [], h => h.elim
def putAll (vs : Nat → Value) : Nat → List Oper → Act → Act
  | _, [], a => a
  | k, o :: r, a => putAll vs (k + 1) r (a.put o.dst (vs k))
/-- edges lead back; no slot twice; slots lie in the frame -/
def fitB (l : List Oper) (n : Nat) : Bool :=
  (List.range l.length).all (fun j => (l[j]?).elim true fun o => (o.after.all fun e => !Region.binds .any e || decide (e.on < j)) && (match o.dst with | some d => decide (d < n) && ((l.drop (j + 1)).all fun x => x.dst != some d) | none => true))
structure Fit (l : List Oper) (n : Nat) : Prop where
  back : ∀ (j : Nat) o, l[j]? = some o → ∀ e ∈ o.after, Region.binds .any e = true → e.on < j
  lies : ∀ (j : Nat) o, l[j]? = some o → ∀ d, o.dst = some d → d < n
  once : ∀ (i j : Nat) o x, i < j → l[i]? = some o → l[j]? = some x → ∀ d, o.dst = some d → x.dst ≠ some d
theorem fit_of {l : List Oper} {n : Nat} (h : fitB l n = true) : Fit l n := by
  unfold fitB at h
  rw [List.all_eq_true] at h
  have key : ∀ (j : Nat) o, l[j]? = some o → (o.after.all fun e => !Region.binds .any e || decide (e.on < j)) = true ∧ (match o.dst with | some d => decide (d < n) && ((l.drop (j + 1)).all fun x => x.dst != some d) | none => true) = true := fun j o hj => by
    have := h j (List.mem_range.2 (List.getElem?_eq_some_iff.1 hj).1)
    rw [hj] at this
    simpa [Option.elim] using this
  refine ⟨fun j o hj e he hb => ?_, fun j o hj d hd => ?_, fun i j o x hij hi hj d hd => ?_⟩
  · have h1 := (key j o hj).1
    rw [Array.all_eq_true'] at h1
    have := h1 e he
    simpa [hb] using this
  · have h1 := (key j o hj).2
    rw [hd] at h1
    simp only [Bool.and_eq_true, decide_eq_true_eq] at h1
    exact h1.1
  · have h1 := (key i o hi).2
    rw [hd] at h1
    simp only [Bool.and_eq_true, List.all_eq_true] at h1
    have h2 := h1.2 x (by
      rw [List.mem_iff_getElem?]
      exact ⟨j - (i + 1), by rw [List.getElem?_drop, show i + 1 + (j - (i + 1)) = j by omega]; exact hj⟩)
    simpa using h2
structure In (l : List Oper) (S : List Sp) (a : Act) (w0 : World) (listed : Array Bool) (vs : Nat → Value) (A : Act) (w : World) : Prop where
  below : Below w0.heap.size w0 w
  defers : A.defers = a.defers
  size : A.tmps.size = a.tmps.size
  done : ∀ i o s, l[i]? = some o → S[i]? = some s → listed.getD i false = true → s.Ok (vs i) w ∧ ∀ d, o.dst = some d → A.eval (.tmp d) = vs i
  rest : ∀ t, (∀ i o, l[i]? = some o → listed.getD i false = true → o.dst ≠ some t) → A.eval (.tmp t) = a.eval (.tmp t)
theorem eval_put_same {a : Act} {d : Tmp} {v : Value} (h : d < a.tmps.size) : (a.put (some d) v).eval (.tmp d) = v := by
  simp [Act.eval, Act.put, h]
theorem eval_put_other {a : Act} {t : Tmp} {dst : Option Tmp} {v : Value} (h : dst ≠ some t) : (a.put dst v).eval (.tmp t) = a.eval (.tmp t) :=
  Act.eval_put fun d hd e => by cases e; exact h hd
theorem In.next {S : List Sp} {a : Act} {w0 : World} {listed : Array Bool} {vs : Nat → Value} {A : Act} {w w' : World} (hK : ∀ s ∈ S, s.Keeps) (hF : Fit l a.tmps.size) (hI : In l S a w0 listed vs A w) {j : Nat} {o : Oper} {s : Sp} (hj : l[j]? = some o) (hs : S[j]? = some s) (hun : listed.getD j true = false)
    {v : Value} (hB : Below w.heap.size w w') (hv : s.Ok v w') : In l S a w0 (listed.setIfInBounds j true) (fun i => if i = j then v else vs i) (A.put o.dst v) w' := by
  have hjs : j < listed.size := by
    rcases Nat.lt_or_ge j listed.size with h | h
    · exact h
    · simp [Array.getElem?_eq_none h] at hun
  have hlist : ∀ i, (listed.setIfInBounds j true).getD i false = true → i ≠ j → listed.getD i false = true := fun i h hne => by
    simpa [Array.getElem?_setIfInBounds, Ne.symm hne] using h
  have hself : (listed.setIfInBounds j true).getD j false = true := by simp [hjs]
  refine ⟨below_on hI.below (Nat.le_refl _) hB, ?_, ?_, ?_, ?_⟩
  · rw [← hI.defers]; cases o.dst <;> rfl
  · rw [← hI.size]; cases o.dst <;> simp [Act.put]
  · intro i oi si hi hsi hl
    by_cases e : i = j
    · subst e
      rw [hj] at hi; cases hi
      rw [hs] at hsi; cases hsi
      refine ⟨by simpa using hv, fun d hd => ?_⟩
      rw [hd, eval_put_same (by rw [hI.size]; exact hF.lies i o hj d hd)]
      simp
    · obtain ⟨h1, h2⟩ := hI.done i oi si hi hsi (hlist i hl e)
      refine ⟨by rw [if_neg e]; exact h1.below (hK si (List.mem_of_getElem? hsi)) hB, fun d hd => ?_⟩
      rw [if_neg e, eval_put_other, h2 d hd]
      rcases Nat.lt_or_gt_of_ne e with hlt | hlt
      · exact hF.once i j oi o hlt hi hj d hd
      · intro hod
        exact hF.once j i o oi hlt hj hi d hod hd
  · intro t ht
    rw [eval_put_other (ht j o hj hself)]
    refine hI.rest t fun i oi hi hl => ht i oi hi ?_
    by_cases e : i = j
    · subst e; exact hself
    · simpa [Array.getElem?_setIfInBounds, Ne.symm e] using hl
/-- how many have not come up -/
def left (listed : Array Bool) : Nat := listed.toList.count false
theorem left_set {listed : Array Bool} {j : Nat} (h : listed.getD j true = false) : left (listed.setIfInBounds j true) + 1 = left listed := by
  have hjs : j < listed.size := by
    rcases Nat.lt_or_ge j listed.size with h' | h'
    · exact h'
    · simp [Array.getElem?_eq_none h'] at h
  have hg : listed.toList[j]'(by simpa using hjs) = false := by simpa [hjs] using h
  unfold left
  rw [Array.toList_setIfInBounds]
  have hp : 0 < listed.toList.count false := List.count_pos_iff.2 (hg ▸ List.getElem_mem _)
  have hc := List.count_set (l := listed.toList) (i := j) (a := true) (b := false) (by rw [Array.length_toList]; exact hjs)
  rw [hg] at hc
  rw [hc, if_pos (by rfl), if_neg (by decide)]
  omega
theorem left_zero {listed : Array Bool} (h : left listed = 0) (j : Nat) (hj : j < listed.size) : listed.getD j false = true := by
  unfold left at h
  rw [List.count_eq_zero] at h
  have := List.getElem_mem (l := listed.toList) (n := j) (by simpa using hj)
  cases e : listed[j] with
  | true => simp [hj, e]
  | false => exact absurd (by rw [← e]; simpa using this) h
theorem left_pos {listed : Array Bool} (h : 0 < left listed) : ∃ j, listed.getD j true = false := by
  unfold left at h
  obtain ⟨j, hj, e⟩ := List.mem_iff_getElem.1 (List.count_pos_iff.1 h)
  rw [Array.length_toList] at hj
  exact ⟨j, by simp at e; simp [hj, e]⟩
theorem pre_of {S : List Sp} {a : Act} {w0 : World} {listed : Array Bool} {vs : Nat → Value} {A : Act} {w : World} (hI : In l S a w0 listed vs A w) {j : Nat} (hj : j ∈ Region.ready .any l.toArray listed) {o : Oper} (ho : l[j]? = some o) : Pre l S a o A w := by
  obtain ⟨_, o', ho', hall⟩ := mem_ready.1 hj
  have e : o' = o := by
    have : l[j]? = some o' := by simpa using ho'
    rw [ho] at this; cases this; rfl
  subst e
  refine ⟨fun t ht => hI.rest t fun i oi hi _ => ?_, fun i hi oi s hoi hs => ?_⟩
  · rw [List.all_eq_true] at ht
    simpa using ht oi (List.mem_of_getElem? hi)
  · obtain ⟨k, hk, hb⟩ := Array.any_eq_true.1 hi
    simp only [Bool.and_eq_true, beq_iff_eq] at hb
    have := hall o'.after[k] (Array.getElem_mem hk) hb.2
    rw [hb.1] at this
    obtain ⟨h1, h2⟩ := hI.done i oi s hoi hs this
    exact ⟨vs i, h1, h2⟩
theorem eval_putAll (vs : Nat → Value) (t : Tmp) : ∀ (r : List Oper) (k : Nat) (a : Act), (∀ (i : Nat) o, r[i]? = some o → ∀ d, o.dst = some d → d < a.tmps.size) →
    ((∀ (i : Nat) o, r[i]? = some o → o.dst ≠ some t) → (putAll vs k r a).eval (.tmp t) = a.eval (.tmp t)) ∧
    (∀ (i : Nat) o, r[i]? = some o → o.dst = some t → (∀ (j : Nat) x, i < j → r[j]? = some x → x.dst ≠ some t) → (putAll vs k r a).eval (.tmp t) = vs (k + i))
  | [], k, a, _ => ⟨fun _ => rfl, fun i o h => by simp at h⟩
  | o :: r, k, a, hl => by
    obtain ⟨h1, h2⟩ := eval_putAll vs t r (k + 1) (a.put o.dst (vs k)) (fun i x hx d hd => by
      have := hl (i + 1) x (by simpa using hx) d hd
      cases o.dst <;> simpa [Act.put] using this)
    refine ⟨fun hn => ?_, fun i x hx hd hlast => ?_⟩
    · show (putAll vs (k + 1) r (a.put o.dst (vs k))).eval _ = _
      rw [h1 fun i x hx => hn (i + 1) x (by simpa using hx), eval_put_other (hn 0 o (by simp))]
    · show (putAll vs (k + 1) r (a.put o.dst (vs k))).eval _ = _
      cases i with
      | zero =>
        simp at hx; subst hx
        rw [h1 fun j y hy => hlast (j + 1) y (by omega) (by simpa using hy), hd, eval_put_same (hl 0 o (by simp) t hd)]
        simp
      | succ i =>
        rw [h2 i x (by simpa using hx) hd fun j y hj hy => hlast (j + 1) y (by omega) (by simpa using hy)]
        congr 1; omega
theorem size_putAll (vs : Nat → Value) : ∀ (r : List Oper) (k : Nat) (a : Act), (putAll vs k r a).tmps.size = a.tmps.size ∧ (putAll vs k r a).defers = a.defers
  | [], _, _ => ⟨rfl, rfl⟩
  | o :: r, k, a => by
    obtain ⟨h1, h2⟩ := size_putAll vs r (k + 1) (a.put o.dst (vs k))
    exact ⟨h1.trans (by cases o.dst <;> simp [Act.put]), h2.trans (by cases o.dst <;> rfl)⟩
theorem act_ext {a b : Act} (hs : a.tmps.size = b.tmps.size) (hd : a.defers = b.defers) (h : ∀ t, a.eval (.tmp t) = b.eval (.tmp t)) : a = b := by
  obtain ⟨x, d⟩ := a
  obtain ⟨y, e⟩ := b
  simp only at hs hd
  subst hd
  have : x = y := Array.ext hs fun i h1 h2 => by
    have := h i
    simpa [Act.eval, h1, h2] using this
  rw [this]
theorem wpAny_of_specs {S : List Sp} {a : Act} {w0 : World} {Q : Exit → Act → World → Prop} (hK : ∀ s ∈ S, s.Keeps) (hF : Fit l a.tmps.size) (hS : stepsOk P l S a w0 l S)
    (hQ : ∀ vs w, Below w0.heap.size w0 w → (∀ (i : Nat) (s : Sp), S[i]? = some s → s.Ok (vs i) w) → Q .normal (putAll vs 0 l a) w) :
    ∀ (fuel : Nat) (listed : Array Bool) (vs : Nat → Value) (A : Act) (w : World), listed.size = l.length → left listed = fuel → In l S a w0 listed vs A w → wpAny P .any l.toArray Q fuel listed A w := by
  obtain ⟨hlen, hat⟩ := stepsOk_at hS
  intro fuel
  induction fuel with
  | zero =>
    intro listed vs A w hsz hleft hI
    have hall := left_zero hleft
    refine ⟨?_, ?_⟩
    · rw [List.eq_nil_iff_forall_not_mem]
      intro j hj
      obtain ⟨h0, o, ho, _⟩ := mem_ready.1 hj
      have hjl : j < l.length := by
        have : l[j]? = some o := by simpa using ho
        exact (List.getElem?_eq_some_iff.1 this).1
      have := hall j (by omega)
      have hjs : j < listed.size := by omega
      simp [hjs] at h0 this
      rw [h0] at this; cases this
    · have hdone : ∀ i o s, l[i]? = some o → S[i]? = some s → s.Ok (vs i) w ∧ ∀ d, o.dst = some d → A.eval (.tmp d) = vs i := fun i o s ho hs =>
        hI.done i o s ho hs (hall i (by rw [hsz]; exact (List.getElem?_eq_some_iff.1 ho).1))
      have hA : A = putAll vs 0 l a := by
        obtain ⟨s1, s2⟩ := size_putAll vs l 0 a
        refine act_ext (hI.size.trans s1.symm) (hI.defers.trans s2.symm) fun t => ?_
        obtain ⟨e1, e2⟩ := eval_putAll vs t l 0 a hF.lies
        by_cases hex : ∃ (i : Nat) (o : Oper), l[i]? = some o ∧ o.dst = some t
        · obtain ⟨i, o, ho, hd⟩ := hex
          have hil := (List.getElem?_eq_some_iff.1 ho).1
          have hsi : S[i]? = some (S[i]'(by omega)) := List.getElem?_eq_getElem (by omega)
          rw [e2 i o ho hd fun j x hij hx hxd => hF.once i j o x hij ho hx t hd hxd, (hdone i o _ ho hsi).2 t hd]
          simp
        · rw [e1 fun i o ho hd => hex ⟨i, o, ho, hd⟩]
          exact hI.rest t fun i o ho _ hd => hex ⟨i, o, ho, hd⟩
      rw [hA]
      refine hQ vs w hI.below fun i s hs => ?_
      have hil := (List.getElem?_eq_some_iff.1 hs).1
      have hli : l[i]? = some (l[i]'(by omega)) := List.getElem?_eq_getElem (by omega)
      exact (hdone i _ s hli hs).1
  | succ fuel ih =>
    intro listed vs A w hsz hleft hI
    have hex : ∃ j, listed.getD j true = false := left_pos (by omega)
    refine ⟨fun hnil => ?_, fun j hj => ?_⟩
    · exfalso
      have key : ∀ j, listed.getD j false = true ∨ l.length ≤ j := by
        intro j
        induction j using Nat.strongRecOn with
        | _ j ihj =>
          rcases Nat.lt_or_ge j l.length with hjl | hjl
          · left
            have hoj : l[j]? = some l[j] := List.getElem?_eq_getElem hjl
            cases e : listed.getD j false with
            | true => rfl
            | false =>
              have hjs : j < listed.size := by omega
              have hin : j ∈ Region.ready .any l.toArray listed := mem_ready.2 ⟨by simpa [hjs] using e, l[j], by simpa using hoj, fun ed hed hb => by
                have hlt := hF.back j _ hoj ed hed hb
                rcases ihj ed.on hlt with h | h
                · exact h
                · omega⟩
              rw [hnil] at hin; cases hin
          · exact .inr hjl
      obtain ⟨j, hj⟩ := hex
      have hjs : j < listed.size := by
        rcases Nat.lt_or_ge j listed.size with h | h
        · exact h
        · simp [Array.getElem?_eq_none h] at hj
      rcases key j with h | h
      · simp [hjs] at h hj; rw [h] at hj; cases hj
      · omega
    · obtain ⟨hun, o, ho, _⟩ := mem_ready.1 hj
      have ho' : l[j]? = some o := by simpa using ho
      obtain ⟨s, hs, hstep⟩ := hat j o ho'
      have hst := hstep A w hI.below (pre_of hI hj ho')
      have hgo : ∀ v w', Below w.heap.size w w' → s.Ok v w' → wpAny P .any l.toArray Q fuel (listed.setIfInBounds j true) (A.put o.dst v) w' := fun v w' hB hv =>
        ih _ _ _ _ (by simpa using hsz) (by have := left_set hun; omega) (hI.next hK hF ho' hs hun hB hv)
      unfold wpOp
      rw [ho]
      simp only
      rcases hst with ⟨hw, h⟩ | ⟨hw, h⟩
      · rw [if_pos hw]
        exact .inl (wp_of_spec h hgo)
      · rw [if_neg (by rw [hw]; exact Bool.false_ne_true)]
        exact hgo _ _ (Below.refl _ _) h
/-- **a region by the specifications of its operations** -/
theorem wp_region_specs {id : Nat} {Q : Exit → Act → World → Prop} {a : Act} {w : World} (S : List Sp) (hm : P.follows .mixedOrders = true) (hB : fitB l a.tmps.size = true) (hK : ∀ s ∈ S, s.Keeps)
    (hS : stepsOk P l S a w l S) (hQ : ∀ vs w', Below w.heap.size w w' → (∀ (i : Nat) (s : Sp), S[i]? = some s → s.Ok (vs i) w') → Q .normal (putAll vs 0 l a) w') : (Code.region id l.toArray true).wp P Q a w := by
  refine wp_region_any hm ?_
  have hb : Below w.heap.size w { w with drawn := w.drawn + 1 } := (Below.refl _ w).drew
  refine wpAny_of_specs hK (fit_of hB) hS hQ _ _ (fun _ => undef) a _ (by simp) (by simp [left]) ⟨hb, rfl, rfl, fun i o s ho hs hl => ?_, fun t _ => rfl⟩
  rcases Nat.lt_or_ge i l.length with h | h
  · simp [h] at hl
  · have := (List.getElem?_eq_some_iff.1 ho).1
    omega
end
end Go.Proofs.Ytdahaajfkjmflaa.kit

namespace Go.Proofs.Ytdahaajfkjmflaa.kit
set_option linter.unusedVariables false
set_option linter.unusedSimpArgs false
set_option linter.unnecessarySimpa false
open Go Go.RowKit

def conOf : Option Sp → Option Value
  | some (.con c) => some c
  | _ => none
def dstOf : Option Oper → Option Tmp
  | some o => o.dst
  | none => none
def lookGo (l : List Oper) (S : List Sp) (d : Tmp) : List Edge → Option Value
  | [] => none
  | e :: r => if Region.binds .any e && (dstOf l[e.on]? == some d) then conOf S[e.on]? else lookGo l S d r
/-- what an operand holds, by the specifications -/
def lookAt (l : List Oper) (S : List Sp) (o : Oper) : Operand → Option Value
  | .const v => some v
  | .tmp d => lookGo l S d o.after.toList
  | _ => none
def guardB (l : List Oper) (S : List Sp) (o : Oper) : Bool :=
  match o.guard with
  | none => true
  | some (j, b) => match dstOf l[j]? with
    | some d => match lookAt l S o (.tmp d) with
      | some (.bool c) => c == b
      | _ => false
    | none => false
section
variable {P : Program} {l : List Oper} {S : List Sp} {a A : Act} {o : Oper} {w : World}
theorem lookGo_spec {d : Tmp} {c : Value} : ∀ {es : List Edge}, lookGo l S d es = some c → ∃ e ∈ es, Region.binds .any e = true ∧ (l[e.on]?).bind (·.dst) = some d ∧ S[e.on]? = some (.con c)
  | [], h => by cases h
  | e :: r, h => by
    unfold lookGo at h
    by_cases hb : (Region.binds .any e && (dstOf l[e.on]? == some d)) = true
    · rw [if_pos hb] at h
      simp only [Bool.and_eq_true, beq_iff_eq] at hb
      refine ⟨e, by simp, hb.1, ?_, ?_⟩
      · have := hb.2
        cases hl : l[e.on]? with
        | none => rw [hl] at this; cases this
        | some x => rw [hl] at this; exact this
      · cases hs : S[e.on]? with
        | none => rw [hs] at h; cases h
        | some s => rw [hs] at h; cases s <;> simp [conOf] at h; rw [h]
    · rw [if_neg hb] at h
      obtain ⟨x, hx, h2⟩ := lookGo_spec h
      exact ⟨x, by simp [hx], h2⟩
theorem lookAt_eval (h : Pre l S a o A w) {x : Operand} {c : Value} (hx : lookAt l S o x = some c) : A.eval x = c := by
  cases x with
  | const v => simp [lookAt] at hx; subst hx; rfl
  | tmp d =>
    obtain ⟨e, he, hb, h1, h2⟩ := lookGo_spec hx
    exact h.con e.on (by rw [Array.any_eq_true']; exact ⟨e, by simpa using he, by simp [hb]⟩) h1 h2
  | global g => cases hx
  | func f => cases hx
theorem wanted_of (h : Pre l S a o A w) (hg : guardB l S o = true) : Region.wanted o (yielded l.toArray A.tmps) = true := by
  unfold guardB at hg
  unfold Region.wanted
  cases ho : o.guard with
  | none => rfl
  | some p =>
    obtain ⟨j, b⟩ := p
    rw [ho] at hg
    simp only at hg ⊢
    cases hd : dstOf l[j]? with
    | none => rw [hd] at hg; cases hg
    | some d =>
      rw [hd] at hg
      simp only at hg
      cases hl : lookAt l S o (.tmp d) with
      | none => rw [hl] at hg; cases hg
      | some v =>
        rw [hl] at hg
        have he := lookAt_eval h hl
        cases v <;> simp at hg
        rw [hg] at he
        have hj : (l[j]?).bind (·.dst) = some d := by
          cases hx : l[j]? with
          | none => rw [hx] at hd; cases hd
          | some y => rw [hx] at hd; exact hd
        unfold yielded
        have ht : A.tmps[d]? = some (.bool b) := by
          simp only [Act.eval] at he
          cases hq : A.tmps[d]? with
          | none => simp [Array.getD_eq_getD_getElem?, hq, undef] at he
          | some v => simp [Array.getD_eq_getD_getElem?, hq] at he; rw [he]
        simp only [List.getElem?_toArray, hj, Option.bind_some, ht]
        simp
theorem step_of (h : Pre l S a o A w) (hg : guardB l S o = true) {s : Sp} (hs : specAt P o A w s) : stepOk P l o A w s := .inl ⟨wanted_of h hg, hs⟩
theorem spec_val {s : Sp} {u : Value} (hr : (execOp A.eval o).run P w = .ok (.value u) w) (hu : s.Ok u w) : specAt P o A w s := by
  unfold specAt; rw [hr]; exact ⟨Below.refl _ _, hu⟩
theorem step_move (h : Pre l S a o A w) (hg : guardB l S o = true) (x : Operand) {c : Value} (hop : o.op = .move x) (hx : lookAt l S o x = some c) : stepOk P l o A w (.con c) :=
  step_of h hg (spec_val (u := c) (by unfold execOp; rw [hop, ← lookAt_eval h hx]; rfl) rfl)
theorem step_assign (h : Pre l S a o A w) (hg : guardB l S o = true) (x : Operand) {c : Value} (hop : o.op = .assign x) (hx : lookAt l S o x = some c) : stepOk P l o A w (.con c) :=
  step_of h hg (spec_val (u := c) (by unfold execOp; rw [hop, ← lookAt_eval h hx]; rfl) rfl)
theorem step_move_old (h : Pre l S a o A w) (hg : guardB l S o = true) (t : Tmp) {c : Value} (hop : o.op = .move (.tmp t)) (h1 : (l.all fun x => x.dst != some t) = true) (h2 : a.eval (.tmp t) = c) : stepOk P l o A w (.con c) :=
  step_of h hg (spec_val (u := c) (by unfold execOp; rw [hop, ← h.old t h1 h2]; rfl) rfl)
theorem step_pick (h : Pre l S a o A w) (hg : guardB l S o = true) (x y z : Operand) (b : Bool) {c : Value} (hop : o.op = .pick x y z) (hx : lookAt l S o x = some (.bool b)) (hy : lookAt l S o (if b then y else z) = some c) : stepOk P l o A w (.con c) :=
  step_of h hg (spec_val (u := c) (by
    have e1 := lookAt_eval h hx
    have e2 := lookAt_eval h hy
    unfold execOp; rw [hop]
    cases b
    · simp [e1, asBool] at e2 ⊢; simp [e2]
    · simp [e1, asBool] at e2 ⊢; simp [e2]) rfl)
theorem step_bin (h : Pre l S a o A w) (hg : guardB l S o = true) (op : BinOp) (t t2 : TypeId) (x y : Operand) (u v : Value) {c : Value} (hop : o.op = .binOp op t x y t2) (hx : lookAt l S o x = some u) (hy : lookAt l S o y = some v)
    (hq : ∀ W, (eqGuard op t x y u v).run P W = .ok () W) (hb : ∀ W, (binOp op t u v).run P W = .ok c W) : stepOk P l o A w (.con c) :=
  step_of h hg (spec_val (u := c) (by
    have e1 := lookAt_eval h hx
    have e2 := lookAt_eval h hy
    unfold execOp; rw [hop]
    simp only [e1, e2, Sem.run_bind, hq, hb, Result.andThen_ok]; rfl) rfl)
theorem step_load (h : Pre l S a o A w) (hg : guardB l S o = true) (t : TypeId) (x : Operand) (p : Value) {c : Value} (hop : o.op = .load t x) (hx : A.eval x = p) (hr : (Instr.loadAt t p).run P w = .ok c w) : stepOk P l o A w (.con c) :=
  step_of h hg (spec_val (u := c) (by
    unfold execOp; rw [hop]
    simp only [hx, Sem.run_bind, hr, Result.andThen_ok]; rfl) rfl)
/-- the parts of a literal, by the specifications -/
def partsAt (l : List Oper) (S : List Sp) (o : Oper) : List (Nat × Operand) → Option (List (Nat × Value))
  | [] => some []
  | (i, x) :: r => match lookAt l S o x, partsAt l S o r with
    | some v, some q => some ((i, v) :: q)
    | _, _ => none
theorem partsAt_eval (h : Pre l S a o A w) : ∀ {ps : List (Nat × Operand)} {vs : List (Nat × Value)}, partsAt l S o ps = some vs → ps.map (fun x => (x.1, A.eval x.2)) = vs
  | [], vs, e => by simp [partsAt] at e; subst e; rfl
  | (i, x) :: r, vs, e => by
    unfold partsAt at e
    cases hx : lookAt l S o x with
    | none => simp [hx] at e
    | some v =>
      cases hr : partsAt l S o r with
      | none => simp [hx, hr] at e
      | some q =>
        simp [hx, hr] at e
        subst e
        rw [List.map_cons, partsAt_eval h hr, lookAt_eval h hx]
theorem step_build (h : Pre l S a o A w) (hg : guardB l S o = true) (t : TypeId) (ps : Array (Nat × Operand)) (vs : List (Nat × Value)) (cells : Array Value) (hop : o.op = .build t ps) (hx : partsAt l S o ps.toList = some vs) (hb : P.built t vs = some cells) : stepOk P l o A w (.con (.agg cells)) :=
  step_of h hg (spec_val (u := .agg cells) (by
    unfold execOp; rw [hop]
    have e : (ps.map fun (i, x) => (i, A.eval x)).toList = vs := by rw [Array.toList_map]; exact partsAt_eval h hx
    have := run_build (P := P) w t (ps.map fun (i, x) => (i, A.eval x)) cells (by rw [e]; exact hb)
    simp only [Sem.run_bind, this, Result.andThen_ok]; rfl) rfl)
/-- a slice of integers that reads as xs -/
def SlI (xs : List Int) : Sp := .rel fun v w => ∃ a, v = .slice a xs.length xs.length ∧ ReadsI w a xs
theorem SlI.keeps (xs : List Int) : (SlI xs).Keeps := by
  rintro v w w' ⟨a, e, h⟩ hB
  exact ⟨a, e, h.below hB⟩
theorem con_keeps (c : Value) : (Sp.con c).Keeps := trivial
theorem step_slice (h : Pre l S a o A w) (hg : guardB l S o = true) (t e : TypeId) (len : Nat) (ps : Array (Nat × Operand)) (xs : List Int) (hop : o.op = .buildSlice t len ps)
    (hu : P.underlying t = some (.slice e)) (hsz : (P.info? e).map (·.size) = some 1) (hz : ((P.info? e).bind (·.zero)).isSome = true) (hlen : len = xs.length) (hpos : 0 < len) (hsmall : len ≤ 2 ^ 24)
    (hps : ps.toList = (xs.zipIdx 0).map fun x => (x.2, Operand.const (Value.int .i64 x.1))) : stepOk P l o A w (SlI xs) := by
  refine step_of h hg ?_
  cases hie : P.info? e with
  | none => simp [hie] at hsz
  | some ie =>
    simp only [hie, Option.map_some, Option.some.injEq, Option.bind_some] at hsz hz
    obtain ⟨z, hzz⟩ := Option.isSome_iff_exists.1 hz
    have hrun := run_buildSlice (P := P) w t e len (ps.map fun (i, x) => (i, A.eval x)) (xs.map (Value.int .i64)).toArray ie z hu hie hzz (by rw [hsz]; omega) (by rw [hsz]; omega) (by
      rw [parts_eval A ps .i64 xs hps, hsz]
      exact Great.fill_flat _ _ (fun v hv => by obtain ⟨n, _, rfl⟩ := List.mem_map.1 hv; rfl) (by simp [hlen]))
    unfold specAt execOp
    rw [hop]
    simp only [Sem.run_bind, hrun, Result.andThen_ok]
    subst hlen
    refine ⟨(Below.refl _ _).alloc (Nat.le_refl _) _, _, rfl, fun i hi => ⟨w.heap.size, 0, rfl, by simp, ?_⟩⟩
    rw [Nat.zero_add]
    unfold World.cell?
    rw [World.alloc_heap_new w _]
    simp [hi]
theorem run_enter {f : FuncId} (hf : (P.funcs[f]?).map (fun fn => (fn.name == "runtime.NumGoroutine", fn.body.isSome)) = some (false, true)) (args : Array Value) (w : World) : (callFunc f args).run P w = .ok (.enter f args) w := by
  cases hq : P.funcs[f]? with
  | none => simp [hq] at hf
  | some fn =>
    simp only [hq, Option.map_some, Option.some.injEq, Prod.mk.injEq] at hf
    obtain ⟨h1, h2⟩ := hf
    obtain ⟨c, hc⟩ := Option.isSome_iff_exists.1 h2
    have h3 : fn.name ≠ "runtime.NumGoroutine" := by simpa using h1
    simp [callFunc, hq, h3, hc]
theorem step_call (h : Pre l S a o A w) (hg : guardB l S o = true) (f : FuncId) (c : Call) {s : Sp} (args : Array Value) (hop : o.op = .call c) (hc : c.callee = .value (.func f)) (hf : (P.funcs[f]?).map (fun fn => (fn.name == "runtime.NumGoroutine", fn.body.isSome)) = some (false, true))
    (ha : c.args.map A.eval = args) (hC : Calls P f args w fun e w' => ∃ v, e = .returned v ∧ Below w.heap.size w w' ∧ s.Ok v w') : stepOk P l o A w s := by
  refine step_of h hg ?_
  have e : (execOp A.eval o).run P w = .ok (.enter f args) w := by
    obtain ⟨ca, xs, ts⟩ := c
    simp only at hc ha
    subst hc ha
    unfold execOp
    rw [hop]
    show (callFunc f (#[] ++ xs.map A.eval ++ #[])).run P w = _
    rw [Array.append_empty, Array.empty_append, run_enter hf]
  unfold specAt
  rw [e]
  exact hC
/-- a call that hands back a value, on operands that hold values -/
def argsAt (l : List Oper) (S : List Sp) (o : Oper) : List Operand → Option (List Value)
  | [] => some []
  | x :: r => match lookAt l S o x, argsAt l S o r with
    | some v, some q => some (v :: q)
    | _, _ => none
theorem argsAt_eval (h : Pre l S a o A w) : ∀ {ps : List Operand} {vs : List Value}, argsAt l S o ps = some vs → ps.map A.eval = vs
  | [], vs, e => by simp [argsAt] at e; subst e; rfl
  | x :: r, vs, e => by
    unfold argsAt at e
    cases hx : lookAt l S o x with
    | none => simp [hx] at e
    | some v =>
      cases hr : argsAt l S o r with
      | none => simp [hx, hr] at e
      | some q =>
        simp [hx, hr] at e
        subst e
        rw [List.map_cons, argsAt_eval h hr, lookAt_eval h hx]
theorem step_call_con (h : Pre l S a o A w) (hg : guardB l S o = true) (f : FuncId) (c : Call) {v : Value} (args : List Value) (hop : o.op = .call c) (hc : c.callee = .value (.func f)) (hf : (P.funcs[f]?).map (fun fn => (fn.name == "runtime.NumGoroutine", fn.body.isSome)) = some (false, true))
    (ha : argsAt l S o c.args.toList = some args) (hC : Calls P f args.toArray w fun e w' => e = .returned v ∧ Below w.heap.size w w') : stepOk P l o A w (.con v) :=
  step_call h hg f c args.toArray hop hc hf (by rw [← argsAt_eval h ha]; apply Array.ext'; simp) (hC.mono fun e w' ⟨e1, e2⟩ => ⟨v, e1, e2, rfl⟩)
/-- a call on a slice that an operation built -/
theorem step_call_sl (h : Pre l S a o A w) (hg : guardB l S o = true) (f : FuncId) (c : Call) {v : Value} (xs : List Int) (i : Nat) (d : Tmp) (hop : o.op = .call c) (hc : c.callee = .value (.func f)) (hca : c.args = #[.tmp d]) (hf : (P.funcs[f]?).map (fun fn => (fn.name == "runtime.NumGoroutine", fn.body.isSome)) = some (false, true))
    (h1 : (o.after.any fun e => e.on == i && Region.binds .any e) = true) (h2 : (l[i]?).bind (·.dst) = some d) (h3 : S[i]? = some (SlI xs)) (hC : ∀ a, ReadsI w a xs → Calls P f #[.slice a xs.length xs.length] w fun e w' => e = .returned v ∧ Below w.heap.size w w') : stepOk P l o A w (.con v) := by
  obtain ⟨p, e, hr⟩ := h.rel i h1 h2 h3
  exact step_call h hg f c #[.slice p xs.length xs.length] hop hc hf (by rw [hca]; simp [e]) ((hC p hr).mono fun e w' ⟨e1, e2⟩ => ⟨v, e1, e2, rfl⟩)
theorem take_at {α : Type} {l : List α} {n i : Nat} {x : α} (h : (l.take n)[i]? = some x) : l[i]? = some x := by
  rw [List.getElem?_take] at h
  by_cases e : i < n
  · rwa [if_pos e] at h
  · rw [if_neg e] at h; cases h
theorem putAll_app (vs : Nat → Value) : ∀ (r : List Oper) (k : Nat) (a : Act) (o : Oper), putAll vs k (r ++ [o]) a = (putAll vs k r a).put o.dst (vs (k + r.length))
  | [], k, a, o => rfl
  | x :: r, k, a, o => by
    show putAll vs (k + 1) (r ++ [o]) (a.put x.dst (vs k)) = _
    rw [putAll_app vs r (k + 1) _ o]
    show _ = (putAll vs (k + 1) r (a.put x.dst (vs k))).put o.dst _
    congr 2
    simp; omega
/-- a region whose last operation alone matters: the frame before it is a variable -/
theorem wp_region_last {id : Nat} {Q : Exit → Act → World → Prop} (S : List Sp) (d : Tmp) (n : Nat) (c : Value) (hm : P.follows .mixedOrders = true) (hB : fitB l a.tmps.size = true) (hK : ∀ s ∈ S, s.Keeps)
    (hn : l.length = n + 1) (hd : (l[n]?).map (·.dst) = some (some d)) (hs : S[n]? = some (.con c)) (hS : stepsOk P l S a w l S)
    (hQ : ∀ (B : Act) (w' : World), Below w.heap.size w w' → B.tmps.size = a.tmps.size → B.defers = a.defers → (∀ t, (l.all fun x => x.dst != some t) = true → B.eval (.tmp t) = a.eval (.tmp t)) → Q .normal (B.put (some d) c) w') : (Code.region id l.toArray true).wp P Q a w := by
  refine wp_region_specs S hm hB hK hS fun vs w' hB2 hv => ?_
  have hv := hv n _ hs
  cases ho : l[n]? with
  | none => rw [ho] at hd; cases hd
  | some o =>
    rw [ho] at hd
    simp only [Option.map_some, Option.some.injEq] at hd
    have hl : l = l.take n ++ [o] := by
      obtain ⟨h1, h2⟩ := List.getElem?_eq_some_iff.1 ho
      rw [← h2, ← List.take_succ_eq_append_getElem h1, List.take_of_length_le (by omega)]
    obtain ⟨s1, s2⟩ := size_putAll vs (l.take n) 0 a
    have hF := fit_of hB
    have hq := hQ (putAll vs 0 (l.take n) a) w' hB2 s1 s2 (fun t ht => by
      refine (eval_putAll vs t (l.take n) 0 a fun i x hx e he => ?_).1 fun i x hx => ?_
      · exact hF.lies i x (take_at hx) e he
      · rw [List.all_eq_true] at ht
        simpa using ht x (List.mem_of_getElem? (take_at hx)))
    have e : putAll vs 0 l a = (putAll vs 0 (l.take n) a).put (some d) c := by
      conv => lhs; rw [hl, putAll_app]
      rw [hd]
      have : vs (0 + (l.take n).length) = c := by
        rw [List.length_take, Nat.min_eq_left (by omega), Nat.zero_add]; exact hv
      rw [this]
    rw [e]
    exact hq
end
end Go.Proofs.Ytdahaajfkjmflaa.kit

namespace Go.Proofs.Ytdahaajfkjmflaa.kit
set_option linter.unusedVariables false
set_option linter.unusedSimpArgs false
set_option linter.unnecessarySimpa false
open Go Go.RowKit
section
variable {P : Program} {l : List Oper}
/-- what is known of the frame behind a region -/
structure Behind (l : List Oper) (S : List Sp) (a A : Act) : Prop where
  size : A.tmps.size = a.tmps.size
  defers : A.defers = a.defers
  old : ∀ t : Tmp, (l.all fun x => x.dst != some t) = true → A.eval (.tmp t) = a.eval (.tmp t)
  con : ∀ (i : Nat) (d : Tmp) (c : Value), dstOf l[i]? = some d → conOf S[i]? = some c → A.eval (.tmp d) = c
theorem conOf_some {s : Option Sp} {c : Value} (h : conOf s = some c) : s = some (.con c) := by
  cases s with
  | none => cases h
  | some s => cases s <;> simp [conOf] at h; rw [h]
theorem dstOf_some {o : Option Oper} {d : Tmp} (h : dstOf o = some d) : ∃ x, o = some x ∧ x.dst = some d := by
  cases o with
  | none => cases h
  | some x => exact ⟨x, rfl, h⟩
theorem wp_region_drawn {id : Nat} {Q : Exit → Act → World → Prop} {a : Act} {w : World} (S : List Sp) (hm : P.follows .mixedOrders = true) (hB : fitB l a.tmps.size = true) (hK : ∀ s ∈ S, s.Keeps)
    (hS : stepsOk P l S a w l S) (hQ : ∀ A w', Below w.heap.size w w' → Behind l S a A → Q .normal A w') : (Code.region id l.toArray true).wp P Q a w := by
  refine wp_region_specs S hm hB hK hS fun vs w' hb hv => hQ _ _ hb ?_
  have hF := fit_of hB
  obtain ⟨s1, s2⟩ := size_putAll vs l 0 a
  refine ⟨s1, s2, fun t ht => (eval_putAll vs t l 0 a hF.lies).1 fun i x hx => ?_, fun i d c hd hc => ?_⟩
  · rw [List.all_eq_true] at ht
    simpa using ht x (List.mem_of_getElem? hx)
  · obtain ⟨x, hx, hxd⟩ := dstOf_some hd
    have e := (eval_putAll vs d l 0 a hF.lies).2 i x hx hxd fun j y hij hy => hF.once i j x y hij hx hy d hxd
    rw [e, Nat.zero_add]
    exact hv i _ (conOf_some hc)
theorem wpList_of_specs {S : List Sp} {a : Act} {w0 : World} {Q : Exit → Act → World → Prop} (hK : ∀ s ∈ S, s.Keeps) (hF : Fit l a.tmps.size) (hS : stepsOk P l S a w0 l S)
    (hQ : ∀ A w', Below w0.heap.size w0 w' → Behind l S a A → Q .normal A w') :
    ∀ (r : List Oper) (j : Nat) (listed : Array Bool) (vs : Nat → Value) (A : Act) (w : World), r = l.drop j → j ≤ l.length → listed.size = l.length → (∀ i, i < l.length → listed.getD i false = decide (i < j)) → In l S a w0 listed vs A w → wpList P l.toArray Q r A w := by
  obtain ⟨hlen, hat⟩ := stepsOk_at hS
  intro r
  induction r with
  | nil =>
    intro j listed vs A w hr hj hsz hls hI
    have hjl : j = l.length := by
      have := congrArg List.length hr
      rw [List.length_drop] at this
      simp at this; omega
    refine hQ A w hI.below ⟨hI.size, hI.defers, fun t ht => hI.rest t fun i o ho _ => ?_, fun i d c hd hc => ?_⟩
    · rw [List.all_eq_true] at ht
      simpa using ht o (List.mem_of_getElem? ho)
    · obtain ⟨x, hx, hxd⟩ := dstOf_some hd
      have hil := (List.getElem?_eq_some_iff.1 hx).1
      obtain ⟨h1, h2⟩ := hI.done i x _ hx (conOf_some hc) (by rw [hls i hil]; simp; omega)
      rw [h2 d hxd]; exact h1
  | cons o r ih =>
    intro j listed vs A w hr hj hsz hls hI
    have hjl : j < l.length := by
      have := congrArg List.length hr
      rw [List.length_drop] at this
      simp at this; omega
    have ho : l[j]? = some o := by
      have h := List.drop_eq_getElem_cons hjl
      rw [← hr] at h
      injection h with h1 h2
      rw [List.getElem?_eq_getElem hjl, h1]
    have hr2 : r = l.drop (j + 1) := by
      have h := List.drop_eq_getElem_cons hjl
      rw [← hr] at h
      injection h with h1 h2
    have hun : listed.getD j true = false := by
      have h := hls j hjl
      have hjs : j < listed.size := by omega
      simp [hjs] at h ⊢; exact h
    have hin : j ∈ Region.ready .any l.toArray listed := mem_ready.2 ⟨by
        have hjs : j < listed.size := by omega
        simpa [hjs] using hun, o, by simpa using ho, fun ed hed hb => by
        have hlt := hF.back j _ ho ed hed hb
        rw [hls _ (by omega)]; simpa using hlt⟩
    obtain ⟨s, hs, hstep⟩ := hat j o ho
    have hst := hstep A w hI.below (pre_of hI hin ho)
    have hgo : ∀ v w', Below w.heap.size w w' → s.Ok v w' → wpList P l.toArray Q r (A.put o.dst v) w' := fun v w' hB hv =>
      ih (j + 1) _ _ _ _ hr2 (by omega) (by simpa using hsz) (fun i hi => by
        have h := hls i hi
        have his : i < listed.size := by omega
        by_cases e : i = j
        · subst e; simp [his]
        · simp [Array.getElem?_setIfInBounds, his, Ne.symm e] at h ⊢
          rw [h]; apply Bool.eq_iff_iff.2; simp; omega) (hI.next hK hF ho hs hun hB hv)
    unfold wpList
    rcases hst with ⟨hw, h⟩ | ⟨hw, h⟩
    · rw [if_pos hw]
      exact .inl (wp_of_spec h hgo)
    · rw [if_neg (by rw [hw]; exact Bool.false_ne_true)]
      exact hgo _ _ (Below.refl _ _) h
theorem wp_region_inText {id : Nat} {Q : Exit → Act → World → Prop} {a : Act} {w : World} (S : List Sp) (hB : fitB l a.tmps.size = true) (hK : ∀ s ∈ S, s.Keeps)
    (hS : stepsOk P l S a w l S) (hQ : ∀ A w', Below w.heap.size w w' → Behind l S a A → Q .normal A w') : (Code.region id l.toArray false).wp P Q a w := by
  refine wp_region_lit ?_
  refine wpList_of_specs hK (fit_of hB) hS hQ l 0 (Array.replicate l.length false) (fun _ => undef) a w (by simp) (by omega) (by simp) (fun i hi => by simp [hi]) ⟨Below.refl _ _, rfl, rfl, fun i o s ho hs hl => ?_, fun t _ => rfl⟩
  have := (List.getElem?_eq_some_iff.1 ho).1
  simp [this] at hl
variable {S : List Sp} {a A : Act} {o : Oper} {w : World}
def guardNo (l : List Oper) (S : List Sp) (o : Oper) : Bool :=
  match o.guard with
  | none => false
  | some (j, b) => match dstOf l[j]? with
    | some d => match lookAt l S o (.tmp d) with
      | some (.bool c) => c != b
      | _ => false
    | none => false
theorem step_skip (h : Pre l S a o A w) (hg : guardNo l S o = true) : stepOk P l o A w (.con undef) := by
  refine .inr ⟨?_, rfl⟩
  unfold guardNo at hg
  unfold Region.wanted
  cases ho : o.guard with
  | none => rw [ho] at hg; cases hg
  | some p =>
    obtain ⟨j, b⟩ := p
    rw [ho] at hg
    simp only at hg ⊢
    cases hd : dstOf l[j]? with
    | none => rw [hd] at hg; cases hg
    | some d =>
      rw [hd] at hg
      simp only at hg
      cases hl : lookAt l S o (.tmp d) with
      | none => rw [hl] at hg; cases hg
      | some v =>
        rw [hl] at hg
        have he := lookAt_eval h hl
        cases v <;> simp at hg
        rename_i c
        have hj : (l[j]?).bind (·.dst) = some d := by
          obtain ⟨x, hx, hxd⟩ := dstOf_some hd
          rw [hx]; exact hxd
        have ht : A.tmps[d]? = some (.bool c) := by
          simp only [Act.eval] at he
          cases hq : A.tmps[d]? with
          | none => simp [Array.getD_eq_getD_getElem?, hq, undef] at he
          | some v => simp [Array.getD_eq_getD_getElem?, hq] at he; rw [he]
        unfold yielded
        simp only [List.getElem?_toArray, hj, Option.bind_some, ht]
        simpa using hg
theorem step_un (h : Pre l S a o A w) (hg : guardB l S o = true) (op : UnOp) (t : TypeId) (x : Operand) (u : Value) {c : Value} (hop : o.op = .unOp op t x) (hx : lookAt l S o x = some u) (hr : (Op.unary op u).run P w = .ok c w) : stepOk P l o A w (.con c) :=
  step_of h hg (spec_val (u := c) (by
    have e1 := lookAt_eval h hx
    unfold execOp; rw [hop]
    simp only [e1, Sem.run_bind, hr, Result.andThen_ok]; rfl) rfl)
theorem step_field (h : Pre l S a o A w) (hg : guardB l S o = true) (t : TypeId) (x : Operand) (i : Nat) (u : Value) {c : Value} (hop : o.op = .fieldAddr t x i) (hx : A.eval x = u) (hr : (Instr.fieldAt t u i).run P w = .ok c w) : stepOk P l o A w (.con c) :=
  step_of h hg (spec_val (u := c) (by
    unfold execOp; rw [hop]
    simp only [hx, Sem.run_bind, hr, Result.andThen_ok]; rfl) rfl)
theorem step_min (h : Pre l S a o A w) (hg : guardB l S o = true) (x y : Operand) (ts : Array TypeId) (u v : Value) {c : Value} (hop : o.op = .call { callee := .builtin .min, args := #[x, y], argTypes := ts }) (hx : lookAt l S o x = some u) (hy : lookAt l S o y = some v) (hr : (Builtin.min_ ts o.type #[u, v]).run P w = .ok c w) : stepOk P l o A w (.con c) :=
  step_of h hg (spec_val (u := c) (by
    have e := lookAt_eval h hx
    have e' := lookAt_eval h hy
    obtain ⟨dst, op, ty, pos, aft, gd⟩ := o
    simp only at hop hr
    subst hop
    have e2 : (#[x, y].map A.eval) = #[u, v] := by simp only [List.map_toArray, List.map_cons, List.map_nil, e, e']
    rw [BigFrame.execOp_builtin, BigFrame.builtin_min, e2]
    simp only [Sem.run_bind, hr, Result.andThen_ok]; rfl) rfl)
theorem step_len (h : Pre l S a o A w) (hg : guardB l S o = true) (x : Operand) (ts : Array TypeId) (p : Option Addr) (n cp : Nat) (hop : o.op = .call { callee := .builtin .len, args := #[x], argTypes := ts }) (hx : lookAt l S o x = some (.slice p n cp)) (hr : (Builtin.len_ ts o.type #[Value.slice p n cp]).run P w = .ok (.int .i64 n) w) : stepOk P l o A w (.con (.int .i64 n)) :=
  step_of h hg (spec_val (u := .int .i64 n) (by
    have e := lookAt_eval h hx
    obtain ⟨dst, op, ty, pos, aft, gd⟩ := o
    simp only at hop hr
    subst hop
    have e2 : (#[x].map A.eval) = #[Value.slice p n cp] := by simp only [List.map_toArray, List.map_cons, List.map_nil, e]
    rw [BigFrame.execOp_builtin, BigFrame.builtin_len, e2]
    simp only [Sem.run_bind, hr, Result.andThen_ok]; rfl) rfl)
theorem step_idx (h : Pre l S a o A w) (hg : guardB l S o = true) (t : TypeId) (x y : Operand) (u v : Value) {c : Value} (hop : o.op = .indexAddr t x y) (hx : lookAt l S o x = some u) (hy : lookAt l S o y = some v) (hr : (Instr.indexAt t u v).run P w = .ok c w) : stepOk P l o A w (.con c) :=
  step_of h hg (spec_val (u := c) (by
    have e1 := lookAt_eval h hx
    have e2 := lookAt_eval h hy
    unfold execOp; rw [hop]
    simp only [e1, e2, Sem.run_bind, hr, Result.andThen_ok]; rfl) rfl)
end
end Go.Proofs.Ytdahaajfkjmflaa.kit

namespace Go.Proofs.Ytdahaajfkjmflaa.s14
set_option linter.unusedVariables false
set_option linter.unusedSimpArgs false
open Go.RowKit
open kit

open s13

open Go.Shelf
attribute [local go_sem] Oper.semAt_some
def noS (r : Int) : Ending := .returned (.tuple #[.slice none 0 0, .int .i64 r])
theorem box1 {w : World} {t : TypeId} {g : Nat} {v : Value} (h : Box w t g #[v]) : w.cell? ⟨g, 0, none⟩ = some v := by have := h.cell 0; simpa using this
/-- what a world holds of the call's own -/
theorem two_below {w w1 : World} {o o' : Obj} (hB : Below ((w.alloc o).alloc o').heap.size ((w.alloc o).alloc o') w1) : Below w.heap.size w w1 :=
  below_on (((Below.refl w.heap.size w).alloc (Nat.le_refl _) o).alloc (by simp) o') (Nat.le_refl _) hB
set_option maxRecDepth 100000 in
set_option maxHeartbeats 6000000 in
theorem psum_bad (t k : Int) (a b : Option Addr) (n m ca cb : Nat) (la lb : List V5) (w : World) (hn : Hid (la.length = n)) (hm : Hid (lb.length = m)) (hn6 : n ≤ 60000) (hm6 : m ≤ 60000) (ra : Hid (Reads5 w a la)) (rb : Hid (Reads5 w b lb)) (r : Int) (HR : Hid (chkA t [la, lb] = r)) (hr : (r != 0) = true) :
    Calls Try.prog 30 #[.int .i64 t, .int .i64 k, .slice a n ca, .slice b m cb] w fun e w' => e = noS r ∧ Below w.heap.size w w' := by
  have HG : Hid (Grid ((w.alloc (.cells #[.int .i64 k] 3)).alloc (.cells #[.slice a n ca, .slice b m cb] 22)) (some ⟨w.heap.size + 1, 0, none⟩) [la, lb]) := Lib.hid (grid2 (new2 w _ _ _) hn.out hm.out ((ra.out.alloc _).alloc _) ((rb.out.alloc _).alloc _))
  have HM : Hid (∀ i, i < [la, lb].length → ([la, lb][i]?.getD []).length ≤ 60000) := Lib.hid (fun i hi => by
    have : i = 0 ∨ i = 1 := by simp at hi; omega
    rcases this with rfl | rfl
    · simpa [hn.out] using hn6
    · simpa [hm.out] using hm6)
  have f51 : Fence.wide.fn 51 := trivial
  have f59 : Fence.wide.fn 59 := trivial
  refine (callsIn_wide (n := 6)).1 ?_
  refine callsIn_of_wp_marks Try.func30 rfl trivial ?_ rfl
  simp only [Try.ntmps30, List.size_toArray, List.length_cons, List.length_nil, Nat.reduceAdd, Nat.reduceSub, Array.replicate_succ, Array.replicate_zero, List.push_toArray, List.append_toArray, List.nil_append, List.cons_append]
  gi_wp2_with (gi_at_call 51; go_must (refine ((callsIn_wide (n := _)).2 (checkall_any t _ 2 2 [la, lb] _ (Lib.hid rfl) (by omega) HM HG r HR)).mono ?_); rintro e w1 ⟨rfl, hB⟩; have B1 := Lib.hid (two_below hB); clear hB)
  clear HG HM ra rb
  gi_wp2
  exact leaves_marksG (G := fun w' => Below w.heap.size w w') (fun w => results_tmp2 (t := 8) (u := 9) rfl _ _ _) (fun w' hw => ⟨rfl, hw⟩) [] w1 List.nodup_nil (by simp) (by simp) B1.out
set_option maxRecDepth 100000 in
set_option maxHeartbeats 6000000 in
theorem psum_k (t k : Int) (a b : Option Addr) (n m ca cb : Nat) (la lb : List V5) (w : World) (hn : Hid (la.length = n)) (hm : Hid (lb.length = m)) (hn6 : n ≤ 60000) (hm6 : m ≤ 60000) (ra : Hid (Reads5 w a la)) (rb : Hid (Reads5 w b lb)) (HR : Hid (chkA t [la, lb] = 0)) (hk : k < 1 ∨ 4 < k) :
    Calls Try.prog 30 #[.int .i64 t, .int .i64 k, .slice a n ca, .slice b m cb] w fun e w' => e = noS 2 ∧ Below w.heap.size w w' := by
  have HG : Hid (Grid ((w.alloc (.cells #[.int .i64 k] 3)).alloc (.cells #[.slice a n ca, .slice b m cb] 22)) (some ⟨w.heap.size + 1, 0, none⟩) [la, lb]) := Lib.hid (grid2 (new2 w _ _ _) hn.out hm.out ((ra.out.alloc _).alloc _) ((rb.out.alloc _).alloc _))
  have HM : Hid (∀ i, i < [la, lb].length → ([la, lb][i]?.getD []).length ≤ 60000) := Lib.hid (fun i hi => by
    have : i = 0 ∨ i = 1 := by simp at hi; omega
    rcases this with rfl | rfl
    · simpa [hn.out] using hn6
    · simpa [hm.out] using hm6)
  have f51 : Fence.wide.fn 51 := trivial
  have f59 : Fence.wide.fn 59 := trivial
  refine (callsIn_wide (n := 6)).1 ?_
  refine callsIn_of_wp_marks Try.func30 rfl trivial ?_ rfl
  simp only [Try.ntmps30, List.size_toArray, List.length_cons, List.length_nil, Nat.reduceAdd, Nat.reduceSub, Array.replicate_succ, Array.replicate_zero, List.push_toArray, List.append_toArray, List.nil_append, List.cons_append]
  gi_wp2_with (gi_at_call 51; go_must (refine ((callsIn_wide (n := _)).2 (checkall_any t _ 2 2 [la, lb] _ (Lib.hid rfl) (by omega) HM HG 0 HR)).mono ?_); rintro e w1 ⟨rfl, hB⟩; have B1 := Lib.hid (two_below hB); have X1 := box1 (((Box.new w 3 #[.int .i64 k]).alloc _).below hB); clear hB)
  clear HG HM ra rb
  gi_wp2_with (gi_at_call 59; refine ((callsIn_wide (n := _)).2 (isahead_no k _ hk)).mono ?_; rintro e w2 ⟨rfl, rfl⟩)
  exact leaves_marksG (G := fun w' => Below w.heap.size w w') (fun w => results_tmp2 (t := 8) (u := 9) rfl _ _ _) (fun w' hw => ⟨rfl, hw⟩) [] w1 List.nodup_nil (by simp) (by simp) B1.out
end Go.Proofs.Ytdahaajfkjmflaa.s14
