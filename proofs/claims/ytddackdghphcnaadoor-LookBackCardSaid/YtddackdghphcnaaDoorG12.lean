/-
  A range over a function whose iterator keeps blocks of its own (claimed ones: a set Z that grows): the body keeps them, the iterator turns them alone.
-/
import Derived.Test.YtddackdghphcnaaDoorG01
namespace Go.Proofs.YtddackdghphcnaaDoor.kit
set_option linter.unusedVariables false
set_option linter.unusedSimpArgs false
set_option linter.unnecessarySimpa false
open Go Go.RowKit Go.Shelf

section
variable {F : Fence} {n : Nat} {P : Program} {w : World}
/-- what is said of the state, the iterator's blocks being Z: it abides new blocks, claimed or not, and a turn of a claimed one -/
structure AbZ {β : Type} (J : β → (Nat → Prop) → World → Prop) : Prop where
  size : ∀ s Z W, J s Z W → ∀ r, Z r → r < W.heap.size
  grown : ∀ s Z W W', J s Z W → W.grownBy W' none → J s Z W'
  claim : ∀ s Z W o, J s Z W → J s (fun r => Z r ∨ r = W.heap.size) (W.alloc o)
  turn : ∀ s Z W W' r, J s Z W → Z r → W.grownBy W' (some r) → J s Z W'
  less : ∀ s Z Z' W, J s Z W → (∀ r, Z' r → Z r) → J s Z' W
def KeepZ (Z : Nat → Prop) (W W' : World) : Prop := ∀ r, Z r → W'.heap[r]? = W.heap[r]?
theorem KeepZ.trans {Z : Nat → Prop} {A B C : World} (h : KeepZ Z A B) (k : KeepZ Z B C) : KeepZ Z A C := fun r hr => (k r hr).trans (h r hr)
theorem KeepZ.refl (Z : Nat → Prop) (A : World) : KeepZ Z A A := fun _ _ => rfl
theorem AbZ.alloc {β : Type} {J : β → (Nat → Prop) → World → Prop} (h : AbZ J) {s : β} {Z : Nat → Prop} {W : World} (o : Obj) (hs : J s Z W) : J s Z (W.alloc o) := h.grown _ _ _ _ hs (World.grownBy_alloc W o none)
/-- the contract of such an iterator; R: what its captured variables hold where it is called -/
def SeqZ {α : Type} (F : Fence) (n : Nat) (P : Program) (g : Nat) (lb : Array Value) (encs : α → Array Value) (Z0 : Nat → Prop) (S Sp : List α → Prop) (N : Nat) (R : World → Prop) : Prop :=
  ∀ (l : Nat) (J Jx : List α → (Nat → Prop) → World → Prop) (W : World), R W → AbZ J → AbZ Jx →
    (∀ pre x Z W1, J pre Z W1 → (∀ r, Z0 r → Z r) → pre.length < N → YieldAt F (n - 1) P l (encs x) W1 fun e W' =>
      (e = .returned (.bool true) ∧ J (pre ++ [x]) Z W' ∧ KeepZ Z W1 W') ∨ (e = .returned (.bool false) ∧ Jx (pre ++ [x]) Z W' ∧ KeepZ Z W1 W')) →
    J [] Z0 W →
    CallsIn F n P g (#[.func (.yield l) #[] #[]] ++ lb) W fun e W' => (∃ v, e = .returned v) ∧ ((∃ xs, S xs ∧ J xs Z0 W') ∨ (∃ pre, Sp pre ∧ Jx pre Z0 W'))
/-- what a round owes -/
def postZ {β : Type} (B : Nat) (Z : Nat → Prop) (I : β → (Nat → Prop) → World → Prop) (Ix : Code → β → (Nat → Prop) → World → Prop) (s : β) (W : World) : Exit → Act → World → Prop
  | .normal, _, W3 => KeepZ (fun r => Z r ∨ r = B ∨ r = B + 1) W W3 ∧ I s Z W3
  | .ret, _, W3 => KeepZ (fun r => Z r ∨ r = B ∨ r = B + 1) W W3 ∧ Ix .ret s Z W3
  | .exit id, _, W3 => KeepZ (fun r => Z r ∨ r = B ∨ r = B + 1) W W3 ∧ Ix (.exit id) s Z W3
  | .goto t, _, W3 => KeepZ (fun r => Z r ∨ r = B ∨ r = B + 1) W W3 ∧ Ix (.goto t) s Z W3
  | _, _, _ => False

theorem wpIn_rangeFunc_ownZ {α : Type} {g : Operand} {ps : Array Tmp} {assign body : Code} {Q : Exit → Act → World → Prop} {a : Act}
    (hro : F.round = none) (h1 : 1 ≤ n) {gf : Nat} {lb : Array Value} (hg : a.eval g = .func (.func gf) #[] lb) (hFg : F.fn gf) (eg : ∀ args w, (callFunc gf args).run P w = .ok (.enter gf args) w)
    {encs : α → Array Value} {Z0 : Nat → Prop} {S Sp : List α → Prop} {N : Nat} {R : World → Prop} (hseq : SeqZ F (n - 1) P gf lb encs Z0 S Sp N R)
    (hR : ∀ o o', R ((w.alloc o).alloc o')) (hps : ∀ x, (encs x).size = ps.size) (hZ0 : ∀ r, Z0 r → r < w.heap.size)
    (I : List α → (Nat → Prop) → World → Prop) (Ix : Code → List α → (Nat → Prop) → World → Prop) (hI : AbZ I) (hIx : ∀ c, AbZ (Ix c))
    (hIo : ∀ s Z W k o o', I s Z W → (k = w.heap.size ∨ k = w.heap.size + 1) → W.heap[k]? = some o → o.isCells = false → I s Z (W.putObj k o'))
    (hIxo : ∀ c s Z W k o o', Ix c s Z W → (k = w.heap.size ∨ k = w.heap.size + 1) → W.heap[k]? = some o → o.isCells = false → Ix c s Z (W.putObj k o'))
    (h0 : ∀ o o', I [] Z0 ((w.alloc o).alloc o')) (Ax : α → Act → World → Prop) (hAx : ∀ x a' W k o o', Ax x a' W → W.heap[k]? = some o → o.isCells = false → Ax x a' (W.putObj k o'))
    (hassign : ∀ (l : Nat) (pre : List α) (x : α) (Z : Nat → Prop) (W : World) (K : Act → World → Prop), I pre Z W → w.heap.size + 1 < W.heap.size → (∀ a' W', KeepZ (fun r => Z r ∨ r = w.heap.size ∨ r = w.heap.size + 1) W W' → I pre Z W' → Ax x a' W' → K a' W') →
      assign.wpIn (F.inRound l) (n - 1 - 1) P (Exit.then K (fun _ _ _ => False)) { tmps := (ps.zip (encs x)).foldl (fun t (p, v) => t.setIfInBounds p v) a.tmps, defers := [] } W)
    (hbody : ∀ (l : Nat) (pre : List α) (x : α) (a' : Act) (Z : Nat → Prop) (W : World), I pre Z W → Ax x a' W → (∀ r, Z0 r → Z r) → (∀ r, Z r → r ≠ w.heap.size ∧ r ≠ w.heap.size + 1) → w.heap.size + 1 < W.heap.size → (∀ r, r = w.heap.size ∨ r = w.heap.size + 1 → ∃ o : Obj, W.heap[r]? = some o ∧ o.isCells = false) → pre.length < N → body.wpIn (F.inRound l) (n - 1 - 1) P (postZ w.heap.size Z I Ix (pre ++ [x]) W) a' W)
    (hdone : ∀ (xs : List α) (W : World), S xs → I xs Z0 W → W.heap[w.heap.size]? = some (.deferred (some [])) → Q .normal { a with defers := { target := .collected w.heap.size, args := #[] } :: a.defers } W)
    (hstop : ∀ (c : Code) (pre : List α) (W : World), Sp pre → Ix c pre Z0 W → W.heap[w.heap.size]? = some (.deferred (some [])) → c.wpIn F n P Q { a with defers := { target := .collected w.heap.size, args := #[] } :: a.defers } W) :
    (Code.rangeFunc g ps assign body).wpIn F n P Q a w := by
  refine wpIn_rangeFunc fun fn hfn => ?_
  rw [hro]
  obtain ⟨rec, hrec⟩ : ∃ rec : LoopState → Option Code → Loop, rec = fun st pe => { state := st, pending := pe, fn, tmps := a.tmps, params := ps, assign, body, defers := w.heap.size } := ⟨_, rfl⟩
  obtain ⟨W1, hW1⟩ : ∃ W1, (w.alloc (.deferred (some []))).alloc (.loop (rec .ready none)) = W1 := ⟨_, rfl⟩
  have hsz : W1.heap.size = w.heap.size + 2 := by rw [← hW1]; simp
  have hL1 : W1.heap[w.heap.size + 1]? = some (.loop (rec .ready none)) := by
    rw [← hW1]; have h := World.alloc_heap_new (w.alloc (.deferred (some []))) (.loop (rec .ready none)); rwa [World.size_alloc] at h
  have hK1 : W1.heap[w.heap.size]? = some (.deferred (some [])) := by
    rw [← hW1]; exact (Below.heap_alloc _ _ _ (by simp)).trans (World.alloc_heap_new w _)
  have hI1 : I [] Z0 W1 := by rw [← hW1]; exact h0 _ _
  have hR1 : R W1 := by rw [← hW1]; exact hR _ _
  have szof : ∀ {A : World} {k : Nat} {o : Obj}, A.heap[k]? = some o → k < A.heap.size := fun h => (Array.getElem?_eq_some_iff.1 h).1
  have keep : ∀ {A B : World} {row : Option Nat} {k : Nat} {o : Obj}, A.grownBy B row → some k ≠ row → A.heap[k]? = some o → B.heap[k]? = some o := fun hg hne h => (hg.block _ (szof h) hne).trans h
  refine ⟨w.heap.size + 1, [{ target := .collected w.heap.size, args := #[] }], W1, { target := .fn (.func gf) lb, args := #[.func (.yield (w.heap.size + 1)) #[] #[]] }, W1, gf,
    #[.func (.yield (w.heap.size + 1)) #[] #[]] ++ lb, W1, ?_, ?_, ?_, ?_, fun _ => h1, ?_⟩
  · rw [← hW1, hrec]; exact run_enterLoop_outer _ _ _ _ _
  · simp only [resolve, hg]
    simp [go_sem]
  · intro f' hf'; simp [Target.leads] at hf'; subst hf'; exact hFg
  · simp [invoke, go_sem, eg]
  · have abz : ∀ (G : List α → (Nat → Prop) → World → Prop) (X : Obj), AbZ G → AbZ (fun pre Z W => G pre Z W ∧ W.heap[w.heap.size + 1]? = some X ∧ W.heap[w.heap.size]? = some (.deferred (some [])) ∧ ∀ r, Z r → r ≠ w.heap.size ∧ r ≠ w.heap.size + 1) := fun G X hG =>
      { size := fun s Z W h => hG.size s Z W h.1
        grown := fun s Z W W' h hg' => ⟨hG.grown s Z W W' h.1 hg', keep hg' (fun e => by cases e) h.2.1, keep hg' (fun e => by cases e) h.2.2.1, h.2.2.2⟩
        claim := fun s Z W o h => ⟨hG.claim s Z W o h.1, (Below.heap_alloc W o _ (szof h.2.1)).trans h.2.1, (Below.heap_alloc W o _ (szof h.2.2.1)).trans h.2.2.1, fun r hr => by
          have e1 := szof h.2.1
          rcases hr with hr | rfl
          · exact h.2.2.2 r hr
          · exact ⟨by omega, by omega⟩⟩
        turn := fun s Z W W' r h hr hg' => ⟨hG.turn s Z W W' r h.1 hr hg', keep hg' (fun e => (h.2.2.2 r hr).2 (by cases e; rfl)) h.2.1, keep hg' (fun e => (h.2.2.2 r hr).1 (by cases e; rfl)) h.2.2.1, h.2.2.2⟩
        less := fun s Z Z' W h hz => ⟨hG.less s Z Z' W h.1 hz, h.2.1, h.2.2.1, fun r hr => h.2.2.2 r (hz r hr)⟩ }
    have abx : AbZ (fun pre Z W => ∃ c, Ix c pre Z W ∧ W.heap[w.heap.size + 1]? = some (.loop (rec .done (some c))) ∧ W.heap[w.heap.size]? = some (.deferred (some [])) ∧ ∀ r, Z r → r ≠ w.heap.size ∧ r ≠ w.heap.size + 1) :=
      { size := fun s Z W ⟨c, h⟩ => (abz _ _ (hIx c)).size s Z W h
        grown := fun s Z W W' ⟨c, h⟩ hg' => ⟨c, (abz _ _ (hIx c)).grown s Z W W' h hg'⟩
        claim := fun s Z W o ⟨c, h⟩ => ⟨c, (abz _ _ (hIx c)).claim s Z W o h⟩
        turn := fun s Z W W' r ⟨c, h⟩ hr hg' => ⟨c, (abz _ _ (hIx c)).turn s Z W W' r h hr hg'⟩
        less := fun s Z Z' W ⟨c, h⟩ hz => ⟨c, (abz _ _ (hIx c)).less s Z Z' W h hz⟩ }
    refine (hseq (w.heap.size + 1)
      (fun pre Z W => I pre Z W ∧ W.heap[w.heap.size + 1]? = some (.loop (rec .ready none)) ∧ W.heap[w.heap.size]? = some (.deferred (some [])) ∧ ∀ r, Z r → r ≠ w.heap.size ∧ r ≠ w.heap.size + 1)
      (fun pre Z W => ∃ c, Ix c pre Z W ∧ W.heap[w.heap.size + 1]? = some (.loop (rec .done (some c))) ∧ W.heap[w.heap.size]? = some (.deferred (some [])) ∧ ∀ r, Z r → r ≠ w.heap.size ∧ r ≠ w.heap.size + 1)
      W1 hR1 (abz I _ hI) abx ?_ ⟨hI1, hL1, hK1, fun r hr => by have := hZ0 r hr; exact ⟨by omega, by omega⟩⟩).mono ?_
    · rintro pre x Z W ⟨hi, hl, hk, hne⟩ hz hlen
      have hy := run_yield (P := P) (args := encs x) hl (by rw [hrec]; exact hps x)
      rw [hrec] at hy
      refine ⟨fn, _, assign, body, hy, roundIn_of_wpIn hfn (hassign _ pre x Z W _ hi (szof hl) ?_)⟩
      intro a' V hkz hiV hax
      have hlV := (hkz _ (.inr (.inr rfl))).trans hl
      have hkV := (hkz _ (.inr (.inl rfl))).trans hk
      have hltV : w.heap.size + 1 < V.heap.size := szof hlV
      refine ⟨_, run_beginRound hlV (by rw [hrec]), ?_⟩
      have hl2 : (V.putObj (w.heap.size + 1) (.loop { rec .ready none with state := .busy })).heap[w.heap.size + 1]? = some (.loop { rec .ready none with state := .busy }) := World.putObj_heap_same hltV
      have hk2 : (V.putObj (w.heap.size + 1) (.loop { rec .ready none with state := .busy })).heap[w.heap.size]? = some (.deferred (some [])) := (World.putObj_heap_other (by omega)).trans hkV
      have hw2 : KeepZ Z V (V.putObj (w.heap.size + 1) (.loop { rec .ready none with state := .busy })) := fun r hr => World.putObj_heap_other (by have := (hne r hr).2; omega)
      refine wpIn_mono (hbody _ pre x a' Z _ (hIo _ _ _ _ _ _ hiV (.inr rfl) hlV rfl) (hAx _ _ _ _ _ _ hax hlV rfl) hz hne (szof hl2) (fun r hr => by rcases hr with rfl | rfl; exact ⟨_, hk2, rfl⟩; exact ⟨_, hl2, rfl⟩) hlen) ?_
      have fin : ∀ (jump : Option Code) (W3 : World), KeepZ (fun r => r = w.heap.size ∨ r = w.heap.size + 1) (V.putObj (w.heap.size + 1) (.loop { rec .ready none with state := .busy })) W3 →
          (Instr.endRound (w.heap.size + 1) jump).run P W3 = .ok (.bool jump.isNone) (W3.putObj (w.heap.size + 1) (.loop (rec (if jump.isNone then .ready else .done) jump))) ∧
          W3.heap[w.heap.size + 1]? = some (.loop { rec .ready none with state := .busy }) ∧
          (W3.putObj (w.heap.size + 1) (.loop (rec (if jump.isNone then .ready else .done) jump))).heap[w.heap.size + 1]? = some (.loop (rec (if jump.isNone then .ready else .done) jump)) ∧
          (W3.putObj (w.heap.size + 1) (.loop (rec (if jump.isNone then .ready else .done) jump))).heap[w.heap.size]? = some (.deferred (some [])) := fun jump W3 hk3 => by
        have hl3 := (hk3 _ (.inr rfl)).trans hl2
        have he := run_endRound (P := P) jump hl3
        rw [hrec] at he ⊢
        exact ⟨he, by rw [hrec] at hl3; exact hl3, World.putObj_heap_same (szof hl3), (World.putObj_heap_other (by omega)).trans ((hk3 _ (.inl rfl)).trans hk2)⟩
      rintro e a3 W3 hp
      cases e with
      | normal =>
        obtain ⟨hk3, hi3⟩ := hp
        obtain ⟨hr, hl3, hl4, hk4⟩ := fin none W3 (fun r h => hk3 r (.inr h))
        exact ⟨_, _, hr, .inl ⟨rfl, ⟨hIo _ _ _ _ _ _ hi3 (.inr rfl) hl3 rfl, hl4, hk4, hne⟩, KeepZ.trans (KeepZ.trans (Z := Z) (B := V) (fun r h => hkz r (.inl h)) hw2) (KeepZ.trans (Z := Z) (B := W3) (fun r h => hk3 r (.inl h)) (fun r h => World.putObj_heap_other (by have := (hne r h).2; omega)))⟩⟩
      | ret =>
        obtain ⟨hk3, hi3⟩ := hp
        obtain ⟨hr, hl3, hl4, hk4⟩ := fin (some .ret) W3 (fun r h => hk3 r (.inr h))
        exact ⟨_, _, hr, .inr ⟨rfl, ⟨.ret, hIxo _ _ _ _ _ _ _ hi3 (.inr rfl) hl3 rfl, hl4, hk4, hne⟩, KeepZ.trans (KeepZ.trans (Z := Z) (B := V) (fun r h => hkz r (.inl h)) hw2) (KeepZ.trans (Z := Z) (B := W3) (fun r h => hk3 r (.inl h)) (fun r h => World.putObj_heap_other (by have := (hne r h).2; omega)))⟩⟩
      | exit id =>
        obtain ⟨hk3, hi3⟩ := hp
        obtain ⟨hr, hl3, hl4, hk4⟩ := fin (some (.exit id)) W3 (fun r h => hk3 r (.inr h))
        exact ⟨_, _, hr, .inr ⟨rfl, ⟨.exit id, hIxo _ _ _ _ _ _ _ hi3 (.inr rfl) hl3 rfl, hl4, hk4, hne⟩, KeepZ.trans (KeepZ.trans (Z := Z) (B := V) (fun r h => hkz r (.inl h)) hw2) (KeepZ.trans (Z := Z) (B := W3) (fun r h => hk3 r (.inl h)) (fun r h => World.putObj_heap_other (by have := (hne r h).2; omega)))⟩⟩
      | goto t =>
        obtain ⟨hk3, hi3⟩ := hp
        obtain ⟨hr, hl3, hl4, hk4⟩ := fin (some (.goto t)) W3 (fun r h => hk3 r (.inr h))
        exact ⟨_, _, hr, .inr ⟨rfl, ⟨.goto t, hIxo _ _ _ _ _ _ _ hi3 (.inr rfl) hl3 rfl, hl4, hk4, hne⟩, KeepZ.trans (KeepZ.trans (Z := Z) (B := V) (fun r h => hkz r (.inl h)) hw2) (KeepZ.trans (Z := Z) (B := W3) (fun r h => hk3 r (.inl h)) (fun r h => World.putObj_heap_other (by have := (hne r h).2; omega)))⟩⟩
      | panic ch => exact hp.elim
      | outgrown => exact hp.elim
    · rintro e W2 ⟨⟨v, rfl⟩, (⟨xs, hS, hi, hl, hk, _⟩ | ⟨pre, hSp, c, hi, hl, hk, _⟩)⟩
      · exact ⟨none, _, by have he := run_endLoop (P := P) hl (by rw [hrec]; simp); rw [hrec] at he; exact he, hdone xs _ hS (hIo _ _ _ _ _ _ hi (.inr rfl) hl rfl) ((World.putObj_heap_other (by omega)).trans hk)⟩
      · exact ⟨some c, _, by have he := run_endLoop (P := P) hl (by rw [hrec]; simp); rw [hrec] at he; exact he, hstop c pre _ hSp (hIxo _ _ _ _ _ _ _ hi (.inr rfl) hl rfl) ((World.putObj_heap_other (by omega)).trans hk)⟩
theorem grown_keep {W W' : World} {row : Option Nat} (hg : W.grownBy W' row) {r : Nat} (hr : r < W.heap.size) (hne : some r ≠ row) : W'.heap[r]? = W.heap[r]? := hg.block r hr hne
/-- what an iterator that loops over another says of the state, while the other one works -/
theorem abz_inner {β γ : Type} {J : γ → (Nat → Prop) → World → Prop} (hJ : AbZ J) (g : β → γ) (Z2 E : Nat → Prop) (H : World → Prop) (hH : ∀ W W', H W → KeepZ Z2 W W' → H W') :
    AbZ (fun (s : β) Z W => J (g s) (fun r => Z2 r ∨ Z r ∨ E r) W ∧ H W ∧ ∀ r, Z r → ¬ Z2 r) :=
  { size := fun s Z W h r hr => hJ.size _ _ _ h.1 r (.inr (.inl hr))
    grown := fun s Z W W' h hg => ⟨hJ.grown _ _ _ _ h.1 hg, hH _ _ h.2.1 (fun r hr => grown_keep hg (hJ.size _ _ _ h.1 r (.inl hr)) (fun e => by cases e)), h.2.2⟩
    claim := fun s Z W o h => ⟨hJ.less _ _ _ _ (hJ.claim _ _ _ o h.1) (fun r hr => by
        rcases hr with hr | (hr | hr) | hr
        · exact .inl (.inl hr)
        · exact .inl (.inr (.inl hr))
        · exact .inr hr
        · exact .inl (.inr (.inr hr))), hH _ _ h.2.1 (fun r hr => Below.heap_alloc W o r (hJ.size _ _ _ h.1 r (.inl hr))), fun r hr h2 => by
        rcases hr with hr | rfl
        · exact h.2.2 r hr h2
        · exact Nat.lt_irrefl _ (hJ.size _ _ _ h.1 _ (.inl h2))⟩
    turn := fun s Z W W' r h hr hg => ⟨hJ.turn _ _ _ _ r h.1 (.inr (.inl hr)) hg, hH _ _ h.2.1 (fun q hq => grown_keep hg (hJ.size _ _ _ h.1 q (.inl hq)) (fun e => by cases e; exact h.2.2 r hr hq)), h.2.2⟩
    less := fun s Z Z' W h hz => ⟨hJ.less _ _ _ _ h.1 (fun r hr => by
        rcases hr with hr | hr | hr
        · exact .inl hr
        · exact .inr (.inl (hz r hr))
        · exact .inr (.inr hr)), h.2.1, fun r hr => h.2.2 r (hz r hr)⟩ }
theorem abz_pure {β : Type} {G : β → (Nat → Prop) → World → Prop} (hG : AbZ G) (q : Prop) : AbZ (fun (s : β) Z W => q ∧ G s Z W) :=
  { size := fun s Z W h => hG.size s Z W h.2
    grown := fun s Z W W' h hg => ⟨h.1, hG.grown s Z W W' h.2 hg⟩
    claim := fun s Z W o h => ⟨h.1, hG.claim s Z W o h.2⟩
    turn := fun s Z W W' r h hr hg => ⟨h.1, hG.turn s Z W W' r h.2 hr hg⟩
    less := fun s Z Z' W h hz => ⟨h.1, hG.less s Z Z' W h.2 hz⟩ }
theorem inner_put {β γ : Type} {J : γ → (Nat → Prop) → World → Prop} (hJ : AbZ J) (g : β → γ) (Z2 E : Nat → Prop) (H : World → Prop) (hH : ∀ W W', H W → KeepZ Z2 W W' → H W') (hE : ∀ r, E r → ¬ Z2 r) {s : β} {Z : Nat → Prop} {W : World} {k : Nat} (o' : Obj) (hk : E k)
    (h : J (g s) (fun r => Z2 r ∨ Z r ∨ E r) W ∧ H W ∧ ∀ r, Z r → ¬ Z2 r) : J (g s) (fun r => Z2 r ∨ Z r ∨ E r) (W.putObj k o') ∧ H (W.putObj k o') ∧ ∀ r, Z r → ¬ Z2 r :=
  ⟨hJ.turn _ _ _ _ k h.1 (.inr (.inr hk)) (grownBy_putObj' W k o'), hH _ _ h.2.1 (fun r hr => World.putObj_heap_other (fun e => hE k hk (e ▸ hr))), h.2.2⟩
theorem callsIn_any {F : Fence} {m k : Nat} {P : Program} {f : FuncId} {args : Array Value} {W : World} {R : Ending → World → Prop} (hd : F.depth = none) (h : CallsIn F m P f args W R) : CallsIn F k P f args W R :=
  ⟨h.1, fun cs _ => h.2 cs (fun d h => by rw [hd] at h; cases h)⟩
/-- the marks that loops over iterators have left among the deferred calls -/
def mark (D : Nat) : Deferred := { target := .collected D, args := #[] }
theorem leaves_marksG {fn : Func} {tmps : Array Value} {R : Ending → World → Prop} {v : Value} {G : World → Prop}
    (hres : ∀ w, (results fn tmps).run P w = .ok v w) (hR : ∀ w, G w → R (.returned v) w) :
    ∀ (ds : List Nat) (w : World), ds.Nodup → (∀ d ∈ ds, w.heap[d]? = some (.deferred (some []))) → (∀ w d o', d ∈ ds → G w → G (w.putObj d o')) → G w → LeavesInM F n P fn tmps R (ds.map mark) .returning w := by
  intro ds
  induction ds with
  | nil => intro w _ _ _ hB; exact ⟨v, hres w, hR w hB⟩
  | cons D ds ih =>
    intro w hn hM hG hB
    have hD := hM D (List.mem_cons_self ..)
    refine ⟨by simp, .inl ⟨D, _, rfl, run_takeDeferred hD, ih _ (List.nodup_cons.1 hn).2 (fun d hd => ?_) (fun w d o' hd h => hG w d o' (List.mem_cons_of_mem _ hd) h) (hG _ _ _ (List.mem_cons_self ..) hB)⟩⟩
    have hne : d ≠ D := by rintro rfl; exact (List.nodup_cons.1 hn).1 hd
    have hd2 := hM d (List.mem_cons_of_mem _ hd)
    exact (World.putObj_heap_other hne).trans hd2
end
end Go.Proofs.YtddackdghphcnaaDoor.kit
