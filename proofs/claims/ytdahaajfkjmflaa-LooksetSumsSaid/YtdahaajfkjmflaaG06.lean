/-
  A range over a function whose iterator keeps blocks of its own (claimed ones: a set Z that grows): the body keeps them, the iterator turns them alone. Layer 14: rows of looks that grow; a list's first element and what is behind it. Layer 14: merging two lists, union.
-/
import Derived.Test.YtdahaajfkjmflaaG01
import Derived.Test.YtdahaajfkjmflaaG05
import Derived.BigRegion
namespace Go.Proofs.Ytdahaajfkjmflaa.kit
set_option linter.unusedVariables false
set_option linter.unusedSimpArgs false
set_option linter.unnecessarySimpa false
open Go Go.RowKit Go.Shelf

section
variable {F : Fence} {n : Nat} {P : Program} {w : World}
/-- what is said of the state, the iterator's blocks being Z: it abides new blocks, claimed or not, and a turn of a claimed one -/
structure AbZ {β : Type} (J : β → (Nat → Prop) → World → Prop) : Prop where
  size : ∀ s Z W, J s Z W → ∀ r, Z r → r < W.heap.size
  grown : ∀ s Z W W', J s Z W → W.grownBy W' none → J s Z W'
  claim : ∀ s Z W o, J s Z W → J s (fun r => Z r ∨ r = W.heap.size) (W.alloc o)
  turn : ∀ s Z W W' r, J s Z W → Z r → W.grownBy W' (some r) → J s Z W'
  less : ∀ s Z Z' W, J s Z W → (∀ r, Z' r → Z r) → J s Z' W
def KeepZ (Z : Nat → Prop) (W W' : World) : Prop := ∀ r, Z r → W'.heap[r]? = W.heap[r]?
theorem KeepZ.trans {Z : Nat → Prop} {A B C : World} (h : KeepZ Z A B) (k : KeepZ Z B C) : KeepZ Z A C := fun r hr => (k r hr).trans (h r hr)
theorem KeepZ.refl (Z : Nat → Prop) (A : World) : KeepZ Z A A := fun _ _ => rfl
theorem AbZ.alloc {β : Type} {J : β → (Nat → Prop) → World → Prop} (h : AbZ J) {s : β} {Z : Nat → Prop} {W : World} (o : Obj) (hs : J s Z W) : J s Z (W.alloc o) := h.grown _ _ _ _ hs (World.grownBy_alloc W o none)
/-- the contract of such an iterator; R: what its captured variables hold where it is called -/
def SeqZ {α : Type} (F : Fence) (n : Nat) (P : Program) (g : Nat) (lb : Array Value) (encs : α → Array Value) (Z0 : Nat → Prop) (S Sp : List α → Prop) (N : Nat) (R : World → Prop) : Prop :=
  ∀ (l : Nat) (J Jx : List α → (Nat → Prop) → World → Prop) (W : World), R W → AbZ J → AbZ Jx →
    (∀ pre x Z W1, J pre Z W1 → (∀ r, Z0 r → Z r) → pre.length < N → YieldAt F (n - 1) P l (encs x) W1 fun e W' =>
      (e = .returned (.bool true) ∧ J (pre ++ [x]) Z W' ∧ KeepZ Z W1 W') ∨ (e = .returned (.bool false) ∧ Jx (pre ++ [x]) Z W' ∧ KeepZ Z W1 W')) →
    J [] Z0 W →
    CallsIn F n P g (#[.func (.yield l) #[] #[]] ++ lb) W fun e W' => (∃ v, e = .returned v) ∧ ((∃ xs, S xs ∧ J xs Z0 W') ∨ (∃ pre, Sp pre ∧ Jx pre Z0 W'))
/-- what a round owes -/
def postZ {β : Type} (B : Nat) (Z : Nat → Prop) (I : β → (Nat → Prop) → World → Prop) (Ix : Code → β → (Nat → Prop) → World → Prop) (s : β) (W : World) : Exit → Act → World → Prop
  | .normal, _, W3 => KeepZ (fun r => Z r ∨ r = B ∨ r = B + 1) W W3 ∧ I s Z W3
  | .ret, _, W3 => KeepZ (fun r => Z r ∨ r = B ∨ r = B + 1) W W3 ∧ Ix .ret s Z W3
  | .exit id, _, W3 => KeepZ (fun r => Z r ∨ r = B ∨ r = B + 1) W W3 ∧ Ix (.exit id) s Z W3
  | .goto t, _, W3 => KeepZ (fun r => Z r ∨ r = B ∨ r = B + 1) W W3 ∧ Ix (.goto t) s Z W3
  | _, _, _ => False

theorem wpIn_rangeFunc_ownZ {α : Type} {g : Operand} {ps : Array Tmp} {assign body : Code} {Q : Exit → Act → World → Prop} {a : Act}
    (hro : F.round = none) (h1 : 1 ≤ n) {gf : Nat} {lb : Array Value} (hg : a.eval g = .func (.func gf) #[] lb) (hFg : F.fn gf) (eg : ∀ args w, (callFunc gf args).run P w = .ok (.enter gf args) w)
    {encs : α → Array Value} {Z0 : Nat → Prop} {S Sp : List α → Prop} {N : Nat} {R : World → Prop} (hseq : SeqZ F (n - 1) P gf lb encs Z0 S Sp N R)
    (hR : ∀ o o', R ((w.alloc o).alloc o')) (hps : ∀ x, (encs x).size = ps.size) (hZ0 : ∀ r, Z0 r → r < w.heap.size)
    (I : List α → (Nat → Prop) → World → Prop) (Ix : Code → List α → (Nat → Prop) → World → Prop) (hI : AbZ I) (hIx : ∀ c, AbZ (Ix c))
    (hIo : ∀ s Z W k o o', I s Z W → (k = w.heap.size ∨ k = w.heap.size + 1) → W.heap[k]? = some o → o.isCells = false → I s Z (W.putObj k o'))
    (hIxo : ∀ c s Z W k o o', Ix c s Z W → (k = w.heap.size ∨ k = w.heap.size + 1) → W.heap[k]? = some o → o.isCells = false → Ix c s Z (W.putObj k o'))
    (h0 : ∀ o o', I [] Z0 ((w.alloc o).alloc o')) (Ax : α → Act → World → Prop) (hAx : ∀ x a' W k o o', Ax x a' W → W.heap[k]? = some o → o.isCells = false → Ax x a' (W.putObj k o'))
    (hassign : ∀ (l : Nat) (pre : List α) (x : α) (Z : Nat → Prop) (W : World) (K : Act → World → Prop), I pre Z W → w.heap.size + 1 < W.heap.size → (∀ a' W', KeepZ (fun r => Z r ∨ r = w.heap.size ∨ r = w.heap.size + 1) W W' → I pre Z W' → Ax x a' W' → K a' W') →
      assign.wpIn (F.inRound l) (n - 1 - 1) P (Exit.then K (fun _ _ _ => False)) { tmps := (ps.zip (encs x)).foldl (fun t (p, v) => t.setIfInBounds p v) a.tmps, defers := [] } W)
    (hbody : ∀ (l : Nat) (pre : List α) (x : α) (a' : Act) (Z : Nat → Prop) (W : World), I pre Z W → Ax x a' W → (∀ r, Z0 r → Z r) → (∀ r, Z r → r ≠ w.heap.size ∧ r ≠ w.heap.size + 1) → w.heap.size + 1 < W.heap.size → (∀ r, r = w.heap.size ∨ r = w.heap.size + 1 → ∃ o : Obj, W.heap[r]? = some o ∧ o.isCells = false) → pre.length < N → body.wpIn (F.inRound l) (n - 1 - 1) P (postZ w.heap.size Z I Ix (pre ++ [x]) W) a' W)
    (hdone : ∀ (xs : List α) (W : World), S xs → I xs Z0 W → W.heap[w.heap.size]? = some (.deferred (some [])) → Q .normal { a with defers := { target := .collected w.heap.size, args := #[] } :: a.defers } W)
    (hstop : ∀ (c : Code) (pre : List α) (W : World), Sp pre → Ix c pre Z0 W → W.heap[w.heap.size]? = some (.deferred (some [])) → c.wpIn F n P Q { a with defers := { target := .collected w.heap.size, args := #[] } :: a.defers } W) :
    (Code.rangeFunc g ps assign body).wpIn F n P Q a w := by
  refine wpIn_rangeFunc fun fn hfn => ?_
  rw [hro]
  obtain ⟨rec, hrec⟩ : ∃ rec : LoopState → Option Code → Loop, rec = fun st pe => { state := st, pending := pe, fn, tmps := a.tmps, params := ps, assign, body, defers := w.heap.size } := ⟨_, rfl⟩
  obtain ⟨W1, hW1⟩ : ∃ W1, (w.alloc (.deferred (some []))).alloc (.loop (rec .ready none)) = W1 := ⟨_, rfl⟩
  have hsz : W1.heap.size = w.heap.size + 2 := by rw [← hW1]; simp
  have hL1 : W1.heap[w.heap.size + 1]? = some (.loop (rec .ready none)) := by
    rw [← hW1]; have h := World.alloc_heap_new (w.alloc (.deferred (some []))) (.loop (rec .ready none)); rwa [World.size_alloc] at h
  have hK1 : W1.heap[w.heap.size]? = some (.deferred (some [])) := by
    rw [← hW1]; exact (Below.heap_alloc _ _ _ (by simp)).trans (World.alloc_heap_new w _)
  have hI1 : I [] Z0 W1 := by rw [← hW1]; exact h0 _ _
  have hR1 : R W1 := by rw [← hW1]; exact hR _ _
  have szof : ∀ {A : World} {k : Nat} {o : Obj}, A.heap[k]? = some o → k < A.heap.size := fun h => (Array.getElem?_eq_some_iff.1 h).1
  have keep : ∀ {A B : World} {row : Option Nat} {k : Nat} {o : Obj}, A.grownBy B row → some k ≠ row → A.heap[k]? = some o → B.heap[k]? = some o := fun hg hne h => (hg.block _ (szof h) hne).trans h
  refine ⟨w.heap.size + 1, [{ target := .collected w.heap.size, args := #[] }], W1, { target := .fn (.func gf) lb, args := #[.func (.yield (w.heap.size + 1)) #[] #[]] }, W1, gf,
    #[.func (.yield (w.heap.size + 1)) #[] #[]] ++ lb, W1, ?_, ?_, ?_, ?_, fun _ => h1, ?_⟩
  · rw [← hW1, hrec]; exact run_enterLoop_outer _ _ _ _ _
  · simp only [resolve, hg]
    simp [go_sem]
  · intro f' hf'; simp [Target.leads] at hf'; subst hf'; exact hFg
  · simp [invoke, go_sem, eg]
  · have abz : ∀ (G : List α → (Nat → Prop) → World → Prop) (X : Obj), AbZ G → AbZ (fun pre Z W => G pre Z W ∧ W.heap[w.heap.size + 1]? = some X ∧ W.heap[w.heap.size]? = some (.deferred (some [])) ∧ ∀ r, Z r → r ≠ w.heap.size ∧ r ≠ w.heap.size + 1) := fun G X hG =>
      { size := fun s Z W h => hG.size s Z W h.1
        grown := fun s Z W W' h hg' => ⟨hG.grown s Z W W' h.1 hg', keep hg' (fun e => by cases e) h.2.1, keep hg' (fun e => by cases e) h.2.2.1, h.2.2.2⟩
        claim := fun s Z W o h => ⟨hG.claim s Z W o h.1, (Below.heap_alloc W o _ (szof h.2.1)).trans h.2.1, (Below.heap_alloc W o _ (szof h.2.2.1)).trans h.2.2.1, fun r hr => by
          have e1 := szof h.2.1
          rcases hr with hr | rfl
          · exact h.2.2.2 r hr
          · exact ⟨by omega, by omega⟩⟩
        turn := fun s Z W W' r h hr hg' => ⟨hG.turn s Z W W' r h.1 hr hg', keep hg' (fun e => (h.2.2.2 r hr).2 (by cases e; rfl)) h.2.1, keep hg' (fun e => (h.2.2.2 r hr).1 (by cases e; rfl)) h.2.2.1, h.2.2.2⟩
        less := fun s Z Z' W h hz => ⟨hG.less s Z Z' W h.1 hz, h.2.1, h.2.2.1, fun r hr => h.2.2.2 r (hz r hr)⟩ }
    have abx : AbZ (fun pre Z W => ∃ c, Ix c pre Z W ∧ W.heap[w.heap.size + 1]? = some (.loop (rec .done (some c))) ∧ W.heap[w.heap.size]? = some (.deferred (some [])) ∧ ∀ r, Z r → r ≠ w.heap.size ∧ r ≠ w.heap.size + 1) :=
      { size := fun s Z W ⟨c, h⟩ => (abz _ _ (hIx c)).size s Z W h
        grown := fun s Z W W' ⟨c, h⟩ hg' => ⟨c, (abz _ _ (hIx c)).grown s Z W W' h hg'⟩
        claim := fun s Z W o ⟨c, h⟩ => ⟨c, (abz _ _ (hIx c)).claim s Z W o h⟩
        turn := fun s Z W W' r ⟨c, h⟩ hr hg' => ⟨c, (abz _ _ (hIx c)).turn s Z W W' r h hr hg'⟩
        less := fun s Z Z' W ⟨c, h⟩ hz => ⟨c, (abz _ _ (hIx c)).less s Z Z' W h hz⟩ }
    refine (hseq (w.heap.size + 1)
      (fun pre Z W => I pre Z W ∧ W.heap[w.heap.size + 1]? = some (.loop (rec .ready none)) ∧ W.heap[w.heap.size]? = some (.deferred (some [])) ∧ ∀ r, Z r → r ≠ w.heap.size ∧ r ≠ w.heap.size + 1)
      (fun pre Z W => ∃ c, Ix c pre Z W ∧ W.heap[w.heap.size + 1]? = some (.loop (rec .done (some c))) ∧ W.heap[w.heap.size]? = some (.deferred (some [])) ∧ ∀ r, Z r → r ≠ w.heap.size ∧ r ≠ w.heap.size + 1)
      W1 hR1 (abz I _ hI) abx ?_ ⟨hI1, hL1, hK1, fun r hr => by have := hZ0 r hr; exact ⟨by omega, by omega⟩⟩).mono ?_
    · rintro pre x Z W ⟨hi, hl, hk, hne⟩ hz hlen
      have hy := run_yield (P := P) (args := encs x) hl (by rw [hrec]; exact hps x)
      rw [hrec] at hy
      refine ⟨fn, _, assign, body, hy, roundIn_of_wpIn hfn (hassign _ pre x Z W _ hi (szof hl) ?_)⟩
      intro a' V hkz hiV hax
      have hlV := (hkz _ (.inr (.inr rfl))).trans hl
      have hkV := (hkz _ (.inr (.inl rfl))).trans hk
      have hltV : w.heap.size + 1 < V.heap.size := szof hlV
      refine ⟨_, run_beginRound hlV (by rw [hrec]), ?_⟩
      have hl2 : (V.putObj (w.heap.size + 1) (.loop { rec .ready none with state := .busy })).heap[w.heap.size + 1]? = some (.loop { rec .ready none with state := .busy }) := World.putObj_heap_same hltV
      have hk2 : (V.putObj (w.heap.size + 1) (.loop { rec .ready none with state := .busy })).heap[w.heap.size]? = some (.deferred (some [])) := (World.putObj_heap_other (by omega)).trans hkV
      have hw2 : KeepZ Z V (V.putObj (w.heap.size + 1) (.loop { rec .ready none with state := .busy })) := fun r hr => World.putObj_heap_other (by have := (hne r hr).2; omega)
      refine wpIn_mono (hbody _ pre x a' Z _ (hIo _ _ _ _ _ _ hiV (.inr rfl) hlV rfl) (hAx _ _ _ _ _ _ hax hlV rfl) hz hne (szof hl2) (fun r hr => by rcases hr with rfl | rfl; exact ⟨_, hk2, rfl⟩; exact ⟨_, hl2, rfl⟩) hlen) ?_
      have fin : ∀ (jump : Option Code) (W3 : World), KeepZ (fun r => r = w.heap.size ∨ r = w.heap.size + 1) (V.putObj (w.heap.size + 1) (.loop { rec .ready none with state := .busy })) W3 →
          (Instr.endRound (w.heap.size + 1) jump).run P W3 = .ok (.bool jump.isNone) (W3.putObj (w.heap.size + 1) (.loop (rec (if jump.isNone then .ready else .done) jump))) ∧
          W3.heap[w.heap.size + 1]? = some (.loop { rec .ready none with state := .busy }) ∧
          (W3.putObj (w.heap.size + 1) (.loop (rec (if jump.isNone then .ready else .done) jump))).heap[w.heap.size + 1]? = some (.loop (rec (if jump.isNone then .ready else .done) jump)) ∧
          (W3.putObj (w.heap.size + 1) (.loop (rec (if jump.isNone then .ready else .done) jump))).heap[w.heap.size]? = some (.deferred (some [])) := fun jump W3 hk3 => by
        have hl3 := (hk3 _ (.inr rfl)).trans hl2
        have he := run_endRound (P := P) jump hl3
        rw [hrec] at he ⊢
        exact ⟨he, by rw [hrec] at hl3; exact hl3, World.putObj_heap_same (szof hl3), (World.putObj_heap_other (by omega)).trans ((hk3 _ (.inl rfl)).trans hk2)⟩
      rintro e a3 W3 hp
      cases e with
      | normal =>
        obtain ⟨hk3, hi3⟩ := hp
        obtain ⟨hr, hl3, hl4, hk4⟩ := fin none W3 (fun r h => hk3 r (.inr h))
        exact ⟨_, _, hr, .inl ⟨rfl, ⟨hIo _ _ _ _ _ _ hi3 (.inr rfl) hl3 rfl, hl4, hk4, hne⟩, KeepZ.trans (KeepZ.trans (Z := Z) (B := V) (fun r h => hkz r (.inl h)) hw2) (KeepZ.trans (Z := Z) (B := W3) (fun r h => hk3 r (.inl h)) (fun r h => World.putObj_heap_other (by have := (hne r h).2; omega)))⟩⟩
      | ret =>
        obtain ⟨hk3, hi3⟩ := hp
        obtain ⟨hr, hl3, hl4, hk4⟩ := fin (some .ret) W3 (fun r h => hk3 r (.inr h))
        exact ⟨_, _, hr, .inr ⟨rfl, ⟨.ret, hIxo _ _ _ _ _ _ _ hi3 (.inr rfl) hl3 rfl, hl4, hk4, hne⟩, KeepZ.trans (KeepZ.trans (Z := Z) (B := V) (fun r h => hkz r (.inl h)) hw2) (KeepZ.trans (Z := Z) (B := W3) (fun r h => hk3 r (.inl h)) (fun r h => World.putObj_heap_other (by have := (hne r h).2; omega)))⟩⟩
      | exit id =>
        obtain ⟨hk3, hi3⟩ := hp
        obtain ⟨hr, hl3, hl4, hk4⟩ := fin (some (.exit id)) W3 (fun r h => hk3 r (.inr h))
        exact ⟨_, _, hr, .inr ⟨rfl, ⟨.exit id, hIxo _ _ _ _ _ _ _ hi3 (.inr rfl) hl3 rfl, hl4, hk4, hne⟩, KeepZ.trans (KeepZ.trans (Z := Z) (B := V) (fun r h => hkz r (.inl h)) hw2) (KeepZ.trans (Z := Z) (B := W3) (fun r h => hk3 r (.inl h)) (fun r h => World.putObj_heap_other (by have := (hne r h).2; omega)))⟩⟩
      | goto t =>
        obtain ⟨hk3, hi3⟩ := hp
        obtain ⟨hr, hl3, hl4, hk4⟩ := fin (some (.goto t)) W3 (fun r h => hk3 r (.inr h))
        exact ⟨_, _, hr, .inr ⟨rfl, ⟨.goto t, hIxo _ _ _ _ _ _ _ hi3 (.inr rfl) hl3 rfl, hl4, hk4, hne⟩, KeepZ.trans (KeepZ.trans (Z := Z) (B := V) (fun r h => hkz r (.inl h)) hw2) (KeepZ.trans (Z := Z) (B := W3) (fun r h => hk3 r (.inl h)) (fun r h => World.putObj_heap_other (by have := (hne r h).2; omega)))⟩⟩
      | panic ch => exact hp.elim
      | outgrown => exact hp.elim
    · rintro e W2 ⟨⟨v, rfl⟩, (⟨xs, hS, hi, hl, hk, _⟩ | ⟨pre, hSp, c, hi, hl, hk, _⟩)⟩
      · exact ⟨none, _, by have he := run_endLoop (P := P) hl (by rw [hrec]; simp); rw [hrec] at he; exact he, hdone xs _ hS (hIo _ _ _ _ _ _ hi (.inr rfl) hl rfl) ((World.putObj_heap_other (by omega)).trans hk)⟩
      · exact ⟨some c, _, by have he := run_endLoop (P := P) hl (by rw [hrec]; simp); rw [hrec] at he; exact he, hstop c pre _ hSp (hIxo _ _ _ _ _ _ _ hi (.inr rfl) hl rfl) ((World.putObj_heap_other (by omega)).trans hk)⟩
theorem grown_keep {W W' : World} {row : Option Nat} (hg : W.grownBy W' row) {r : Nat} (hr : r < W.heap.size) (hne : some r ≠ row) : W'.heap[r]? = W.heap[r]? := hg.block r hr hne
/-- what an iterator that loops over another says of the state, while the other one works -/
theorem abz_inner {β γ : Type} {J : γ → (Nat → Prop) → World → Prop} (hJ : AbZ J) (g : β → γ) (Z2 E : Nat → Prop) (H : World → Prop) (hH : ∀ W W', H W → KeepZ Z2 W W' → H W') :
    AbZ (fun (s : β) Z W => J (g s) (fun r => Z2 r ∨ Z r ∨ E r) W ∧ H W ∧ ∀ r, Z r → ¬ Z2 r) :=
  { size := fun s Z W h r hr => hJ.size _ _ _ h.1 r (.inr (.inl hr))
    grown := fun s Z W W' h hg => ⟨hJ.grown _ _ _ _ h.1 hg, hH _ _ h.2.1 (fun r hr => grown_keep hg (hJ.size _ _ _ h.1 r (.inl hr)) (fun e => by cases e)), h.2.2⟩
    claim := fun s Z W o h => ⟨hJ.less _ _ _ _ (hJ.claim _ _ _ o h.1) (fun r hr => by
        rcases hr with hr | (hr | hr) | hr
        · exact .inl (.inl hr)
        · exact .inl (.inr (.inl hr))
        · exact .inr hr
        · exact .inl (.inr (.inr hr))), hH _ _ h.2.1 (fun r hr => Below.heap_alloc W o r (hJ.size _ _ _ h.1 r (.inl hr))), fun r hr h2 => by
        rcases hr with hr | rfl
        · exact h.2.2 r hr h2
        · exact Nat.lt_irrefl _ (hJ.size _ _ _ h.1 _ (.inl h2))⟩
    turn := fun s Z W W' r h hr hg => ⟨hJ.turn _ _ _ _ r h.1 (.inr (.inl hr)) hg, hH _ _ h.2.1 (fun q hq => grown_keep hg (hJ.size _ _ _ h.1 q (.inl hq)) (fun e => by cases e; exact h.2.2 r hr hq)), h.2.2⟩
    less := fun s Z Z' W h hz => ⟨hJ.less _ _ _ _ h.1 (fun r hr => by
        rcases hr with hr | hr | hr
        · exact .inl hr
        · exact .inr (.inl (hz r hr))
        · exact .inr (.inr hr)), h.2.1, fun r hr => h.2.2 r (hz r hr)⟩ }
theorem abz_pure {β : Type} {G : β → (Nat → Prop) → World → Prop} (hG : AbZ G) (q : Prop) : AbZ (fun (s : β) Z W => q ∧ G s Z W) :=
  { size := fun s Z W h => hG.size s Z W h.2
    grown := fun s Z W W' h hg => ⟨h.1, hG.grown s Z W W' h.2 hg⟩
    claim := fun s Z W o h => ⟨h.1, hG.claim s Z W o h.2⟩
    turn := fun s Z W W' r h hr hg => ⟨h.1, hG.turn s Z W W' r h.2 hr hg⟩
    less := fun s Z Z' W h hz => ⟨h.1, hG.less s Z Z' W h.2 hz⟩ }
theorem inner_put {β γ : Type} {J : γ → (Nat → Prop) → World → Prop} (hJ : AbZ J) (g : β → γ) (Z2 E : Nat → Prop) (H : World → Prop) (hH : ∀ W W', H W → KeepZ Z2 W W' → H W') (hE : ∀ r, E r → ¬ Z2 r) {s : β} {Z : Nat → Prop} {W : World} {k : Nat} (o' : Obj) (hk : E k)
    (h : J (g s) (fun r => Z2 r ∨ Z r ∨ E r) W ∧ H W ∧ ∀ r, Z r → ¬ Z2 r) : J (g s) (fun r => Z2 r ∨ Z r ∨ E r) (W.putObj k o') ∧ H (W.putObj k o') ∧ ∀ r, Z r → ¬ Z2 r :=
  ⟨hJ.turn _ _ _ _ k h.1 (.inr (.inr hk)) (grownBy_putObj' W k o'), hH _ _ h.2.1 (fun r hr => World.putObj_heap_other (fun e => hE k hk (e ▸ hr))), h.2.2⟩
theorem callsIn_any {F : Fence} {m k : Nat} {P : Program} {f : FuncId} {args : Array Value} {W : World} {R : Ending → World → Prop} (hd : F.depth = none) (h : CallsIn F m P f args W R) : CallsIn F k P f args W R :=
  ⟨h.1, fun cs _ => h.2 cs (fun d h => by rw [hd] at h; cases h)⟩
/-- the marks that loops over iterators have left among the deferred calls -/
def mark (D : Nat) : Deferred := { target := .collected D, args := #[] }
theorem leaves_marksG {fn : Func} {tmps : Array Value} {R : Ending → World → Prop} {v : Value} {G : World → Prop}
    (hres : ∀ w, (results fn tmps).run P w = .ok v w) (hR : ∀ w, G w → R (.returned v) w) :
    ∀ (ds : List Nat) (w : World), ds.Nodup → (∀ d ∈ ds, w.heap[d]? = some (.deferred (some []))) → (∀ w d o', d ∈ ds → G w → G (w.putObj d o')) → G w → LeavesInM F n P fn tmps R (ds.map mark) .returning w := by
  intro ds
  induction ds with
  | nil => intro w _ _ _ hB; exact ⟨v, hres w, hR w hB⟩
  | cons D ds ih =>
    intro w hn hM hG hB
    have hD := hM D (List.mem_cons_self ..)
    refine ⟨by simp, .inl ⟨D, _, rfl, run_takeDeferred hD, ih _ (List.nodup_cons.1 hn).2 (fun d hd => ?_) (fun w d o' hd h => hG w d o' (List.mem_cons_of_mem _ hd) h) (hG _ _ _ (List.mem_cons_self ..) hB)⟩⟩
    have hne : d ≠ D := by rintro rfl; exact (List.nodup_cons.1 hn).1 hd
    have hd2 := hM d (List.mem_cons_of_mem _ hd)
    exact (World.putObj_heap_other hne).trans hd2
end
end Go.Proofs.Ytdahaajfkjmflaa.kit

namespace Go.Proofs.Ytdahaajfkjmflaa.s14
set_option linter.unusedVariables false
set_option linter.unusedSimpArgs false
open Go.RowKit
open kit

open s13

theorem own5_below {w w1 : World} {B k : Nat} {v : Value} {xs : List Value} (h : w.ownsRow B 25 5 v k xs) (hB : Below w.heap.size w w1) : w1.ownsRow B 25 5 v k xs := by
  refine ⟨h.1, ?_⟩
  rcases h.2 with h0 | ⟨g, cap, cur, e, h1, h2, h3⟩
  · exact .inl h0
  · exact .inr ⟨g, cap, cur, e, h1, (hB.block g (Array.getElem?_eq_some_iff.1 h2).1).trans h2, h3⟩
theorem below_grown5 {B : Nat} {w w1 w2 : World} {v : Value} {k : Nat} {xs : List Value} (h : Below B w w1) (hr : w1.ownsRow B 25 5 v k xs) (hg : w1.grownBy w2 v.ownBlock) (hB : B ≤ w1.heap.size) : Below B w w2 := by
  refine h.grown hg hB fun j ej => ?_
  rcases hr.2 with ⟨rfl, _⟩ | ⟨g, cap, cur, rfl, hb, _, _⟩
  · simp [Value.ownBlock] at ej
  · obtain rfl : g = j := by simpa [Value.ownBlock] using ej
    exact hb
theorem src5 {w : World} {b o : Nat} {l : List V5} (h : Reads5 w (some ⟨b, o, none⟩) l) (j : Nat) (u : Value) (hu : (flat5 l)[j]? = some u) : w.cell? ((⟨b, o, none⟩ : Addr).add j) = some u := by
  have hj : j < l.length * 5 := by
    rw [← flat5_len]; exact (List.getElem?_eq_some_iff.1 hu).1
  obtain ⟨b', o', e, _, h5⟩ := h (j / 5) (by omega)
  cases e
  have hf := flat5_at l (j / 5) (by omega) (j % 5) (by omega)
  rw [show j / 5 * 5 + j % 5 = j by omega, hu] at hf
  rw [Go.WideShapes.add_plain]
  obtain ⟨z0, z1, z2, z3, z4⟩ := h5
  have hm : j % 5 = 0 ∨ j % 5 = 1 ∨ j % 5 = 2 ∨ j % 5 = 3 ∨ j % 5 = 4 := by omega
  rcases hm with e | e | e | e | e <;> rw [e] at hf <;> simp only [cells5, List.getElem?_cons_zero, List.getElem?_cons_succ, Option.some.injEq] at hf <;> subst hf
  · rw [show o + j = o + j / 5 * 5 by omega]; exact z0
  · rw [show o + j = o + j / 5 * 5 + 1 by omega]; exact z1
  · rw [show o + j = o + j / 5 * 5 + 2 by omega]; exact z2
  · rw [show o + j = o + j / 5 * 5 + 3 by omega]; exact z3
  · rw [show o + j = o + j / 5 * 5 + 4 by omega]; exact z4
theorem flat5_one' (l : List V5) : ∀ u ∈ flat5 l, u.oneCell' = true := by
  intro u hu
  obtain ⟨x, _, hx⟩ := List.mem_flatMap.1 hu
  simp only [cells5, List.mem_cons, List.not_mem_nil, or_false] at hx
  rcases hx with rfl | rfl | rfl | rfl | rfl <;> rfl
theorem append_in5 {w : World} {ops : Array Oper} {rest : List Oper} {o : Oper} {a : Act} {Q : Exit → Act → World → Prop}
    (hg : o.guard = none) (s x : Operand) (hop : o.op = Op.call { callee := Callee.builtin Builtin.append, args := #[s, x], argTypes := #[22, 22] })
    (base : Nat) (v : Value) (k : Nat) (L1 : List V5) (hs : a.eval s = v) (hown : w.ownsRow base 25 5 v k (flat5 L1)) (src : Option Addr) (L2 : List V5) (n c : Nat) (hx : a.eval x = .slice src n c) (hn : L2.length = n) (hp : 0 < n) (hsrc : Reads5 w src L2)
    (hk : k + n ≤ 100000) (hb : base ≤ w.heap.size)
    (hK : ∀ v' w', w'.ownsRow base 25 5 v' (k + n) (flat5 (L1 ++ L2)) → Below base w w' → wpList Try.prog ops Q rest (a.put o.dst v') w') :
    wpList Try.prog ops Q (o :: rest) a w := by
  obtain ⟨i0, hi, hz0, hz1, hz2⟩ := info_parts info5
  obtain ⟨b, off, rfl, _, _⟩ := hsrc 0 (by omega)
  refine wpList_append_own w hg s x 22 hop base 25 i0 (.agg #[.int .i64 0, .int .i64 0, .int .i64 0, .int .i64 0, .int .i64 0]) 5 40 Try.underlying22 hi hz0 hz1 hz2 rfl (by decide) v k _ hs hown ⟨b, off, none⟩ n c (flat5 L2) hx (by rw [flat5_len, hn]) (src5 hsrc) (flat5_one' L2) (by unfold maxLen; omega) (by omega) hb fun v' w' h1 h2 _ => hK v' w' (by rw [flat5_app]; exact h1) (below_grown5 (Below.refl _ _) hown h2 hb)
theorem row5_shape {W : World} {base k : Nat} {v : Value} {xs : List Value} (h : W.ownsRow base 25 5 v k xs) : ∃ a cap, v = .slice a k cap ∧ k ≤ cap := by
  rcases h.2 with ⟨rfl, rfl⟩ | ⟨g, cap, cur, rfl, h1, h2, h3⟩
  · exact ⟨_, _, rfl, Nat.le_refl _⟩
  · exact ⟨_, _, rfl, by first | exact h3.1 | exact h3.2.1 | omega⟩
def slen : Value → Nat
  | .slice _ n _ => n
  | _ => 0
/-- the first element -/
theorem reads_head {w : World} {a : Option Addr} {x : V5} {l : List V5} (h : Reads5 w a (x :: l)) : ∃ b off, a = some ⟨b, off, none⟩ ∧ b < w.heap.size ∧ At5 w b off x ∧ Reads5 w (some ⟨b, off + 5, none⟩) l := by
  obtain ⟨b, off, rfl, hb, h0⟩ := h 0 (by simp)
  refine ⟨b, off, rfl, hb, by simpa using h0, fun i hi => ?_⟩
  obtain ⟨b', off', e, hb', hi'⟩ := h (i + 1) (by simpa using hi)
  cases e
  refine ⟨b, off + 5, rfl, hb, ?_⟩
  rw [show off + 5 + i * 5 = off + (i + 1) * 5 by omega]
  simpa using hi'
theorem ret_slice {a : Option Addr} {n m c : Nat} (h : n = m) : Ending.returned (.slice a n c) = .returned (.slice a m c) := by rw [h]
end Go.Proofs.Ytdahaajfkjmflaa.s14

namespace Go.Proofs.Ytdahaajfkjmflaa.s14
set_option linter.unusedVariables false
set_option linter.unusedSimpArgs false
open Go.RowKit
open kit

open s13

theorem kU_tt (w : World) : Calls Try.prog 76 #[.bool true, .bool true] w fun e w' => e = .returned (.bool true) ∧ w = w' := by
  go_enter Try.func76, Try.ntmps76
  go_wp2
  go_ret
  exact ⟨rfl, rfl⟩
theorem kU_tf (w : World) : Calls Try.prog 76 #[.bool true, .bool false] w fun e w' => e = .returned (.bool true) ∧ w = w' := by
  go_enter Try.func76, Try.ntmps76
  go_wp2
  go_ret
  exact ⟨rfl, rfl⟩
theorem kU_ft (w : World) : Calls Try.prog 76 #[.bool false, .bool true] w fun e w' => e = .returned (.bool true) ∧ w = w' := by
  go_enter Try.func76, Try.ntmps76
  go_wp2
  go_ret
  exact ⟨rfl, rfl⟩
theorem tail_if {w : World} {g o cb : Nat} {l : List (List Int)} (h : l.length + 1 ≤ cb) (hr : Reads5 w (some ⟨g, o + 5, none⟩) (l.map pad5)) : Reads5 w (if cb = 1 then some ⟨g, o, none⟩ else some ⟨g, o + 5, none⟩) (l.map pad5) := by
  split
  · have e : l = [] := List.length_eq_zero_iff.1 (by omega)
    rw [e]; exact Reads5.nil _ _
  · exact hr
/-- what the loop says; the lists lie where they lay at the call -/
structure RelM (kp : Bool → Bool → Bool) (w : World) (R : List (List Int)) (A B D : List (List Int)) (a b : Option Addr) (vm : Value) (wr : World) : Prop where
  ra : Reads5 w a (A.map pad5)
  rb : Reads5 w b (B.map pad5)
  eq : D ++ mrg kp A B = R
  oa : ∀ x ∈ A, okL 8 x
  ob : ∀ x ∈ B, okL 8 x
  row : wr.ownsRow w.heap.size 25 5 vm D.length (flat5 (D.map pad5))
  hb : Below w.heap.size w wr
theorem RelM.on {kp : Bool → Bool → Bool} {w wr w2 : World} {R A B D : List (List Int)} {a b : Option Addr} {vm : Value} (h : RelM kp w R A B D a b vm wr) (hB : Below wr.heap.size wr w2) : RelM kp w R A B D a b vm w2 := ⟨h.ra, h.rb, h.eq, h.oa, h.ob, own5_below h.row hB, below_then h.hb hB⟩
set_option maxRecDepth 100000 in
set_option maxHeartbeats 20000000 in
theorem mergeU (a b : Option Addr) (n m ca cb : Nat) (A B : List (List Int)) (w : World) (hn : Hid (A.length = n)) (hm : Hid (B.length = m)) (ha : n ≤ ca) (hb : m ≤ cb) (hsz : n + m ≤ 100000) (hA : Hid (∀ x ∈ A, okL 8 x)) (hB : Hid (∀ x ∈ B, okL 8 x)) (ra : Hid (Reads5 w a (A.map pad5))) (rb : Hid (Reads5 w b (B.map pad5))) (R : List (List Int)) (N : Nat) (HR : Hid (mrg kU A B = R)) (HN : Hid (R.length = N)) :
    Calls Try.prog 54 #[.slice a n ca, .slice b m cb, .func (.func 42) #[] #[], .func (.func 76) #[] #[]] w fun e w' => ∃ p cp, e = .returned (.slice p N cp) ∧ Reads5 w' p (R.map pad5) ∧ Below w.heap.size w w' ∧ N ≤ cp := by
  go_enter Try.func54, Try.ntmps54
  go_wp2
  go_loopw [0, 1, 9] (fun va vb vm wr => ∃ (A B D : List (List Int)) (a b : Option Addr) (n m ca cb : Nat), va = .slice a n ca ∧ vb = .slice b m cb ∧ n ≤ ca ∧ m ≤ cb ∧ Hid (A.length = n) ∧ Hid (B.length = m) ∧ Hid (D.length + n + m ≤ 100000) ∧ Hid (RelM kU w R A B D a b vm wr)) (fun va vb _ _ => slen va + slen vb)
  case atStart => exact ⟨A, B, [], a, b, n, m, ca, cb, rfl, rfl, ha, hb, hn, hm, Lib.hid (by simpa using hsz), Lib.hid ⟨ra.out, rb.out, HR.out, hA.out, hB.out, World.ownsRow_nil _ _ _ _, Below.refl _ _⟩⟩
  case round =>
    clear hn hm ha hb hsz hA hB ra rb
    obtain ⟨A, B, D, a, b, n, m, ca, cb, rfl, rfl, ha, hb, hn, hm, hsz, HREL⟩ := hrel
    have HB0 := Lib.hid HREL.out.hb
    have hws := HREL.out.hb.size
    rcases A with _ | ⟨x, A⟩
    · obtain rfl : n = 0 := hn.out.symm
      rcases B with _ | ⟨y, B⟩
      · obtain rfl : m = 0 := hm.out.symm
        have hR := HREL.out.eq
        rw [mrg_nil, List.append_nil] at hR
        subst hR
        have hrow := HREL.out.row
        rw [HN.out] at hrow
        obtain ⟨p, cp, rfl, hcp⟩ := row5_shape hrow
        have HROW := Lib.hid hrow
        clear hrow
        go_wp2
        go_ret
        exact ⟨p, cp, rfl, reads5_of_row (by rw [List.length_map]; exact HN.out) HROW.out, HREL.out.hb, hcp⟩
      · obtain ⟨m, rfl⟩ : ∃ m', m = m' + 1 := ⟨B.length, hm.out.symm⟩
        have HLB : Hid (B.length = m) := Lib.hid (by have := hm.out; simpa using this)
        have hR := HREL.out.eq
        rw [mrg_right] at hR
        have HEQ := Lib.hid hR
        clear hR hm
        obtain ⟨g, o, rfl, hg, haty, htly⟩ := reads_head HREL.out.rb
        have HTy := Lib.hid htly
        have hoy := Lib.hid (HREL.out.ob y (List.mem_cons_self ..))
        obtain ⟨⟨y0, y1, y2, y3, y4⟩, hy⟩ : ∃ v, pad5 y = v := ⟨_, rfl⟩
        rw [hy] at haty
        have Hy := Lib.hid hy
        have HAy := Lib.hid (haty.below HREL.out.hb)
        have hlg : g < wr.heap.size := Nat.lt_of_lt_of_le hg HREL.out.hb.size
        clear htly haty hy
        have h1 : (0 : Int) < ((m + 1 : Nat) : Int) := by omega
        have h2 : decide ((0 : Int) < ((m + 1 : Nat) : Int)) = true := decide_eq_true h1
        have hq : Hid (Reads5 w (if cb = 1 then some ⟨g, o, none⟩ else some ⟨g, o + 5, none⟩) (B.map pad5)) := Lib.hid (tail_if (by have := HLB.out; omega) HTy.out)
        go_wp2_with (first
          | (go_at_call 77; refine (heads_left _ _ _ _ _ _).mono ?_; rintro e w2 ⟨rfl, rfl⟩))
        have X := Box.new wr 25 #[.int .i64 0, .int .i64 0, .int .i64 0, .int .i64 0, .int .i64 0]
        have HB1 := Lib.hid (HB0.out.alloc HB0.out.size (.cells #[.int .i64 0, .int .i64 0, .int .i64 0, .int .i64 0, .int .i64 0] 25))
        have HW1 := Lib.hid ((Below.refl wr.heap.size wr).alloc (Nat.le_refl _) (.cells #[.int .i64 0, .int .i64 0, .int .i64 0, .int .i64 0, .int .i64 0] 25))
        generalize wr.alloc (.cells #[.int .i64 0, .int .i64 0, .int .i64 0, .int .i64 0, .int .i64 0] 25) = W at X HB1 HW1 ⊢
        obtain ⟨c0, c1, c2, c3, c4⟩ := (HAy.out.below HW1.out)
        obtain ⟨zc0, zc1, zc2, zc3, zc4⟩ := X.cell5
        obtain ⟨f0, f1, f2, f3, f4⟩ := X.free5
        have hxg : wr.heap.size ≠ g := by omega
        have hgx : g ≠ wr.heap.size := by omega
        have HX := Lib.hid X
        clear X
        go_region
        have HX2 := Lib.hid (HX.out.put5 (.int .i64 y0) (.int .i64 y1) (.int .i64 y2) (.int .i64 y3) (.int .i64 y4)).drew
        have HB2 := Lib.hid (below_put5 HB1.out HB0.out.size (.int .i64 y0) (.int .i64 y1) (.int .i64 y2) (.int .i64 y3) (.int .i64 y4)).drew
        have HW2 := Lib.hid (below_put5 HW1.out (Nat.le_refl _) (.int .i64 y0) (.int .i64 y1) (.int .i64 y2) (.int .i64 y3) (.int .i64 y4)).drew
        clear c0 c1 c2 c3 c4 zc0 zc1 zc2 zc3 zc4 f0 f1 f2 f3 f4 HX HB1 HW1 hxg hgx
        generalize (if cb = 1 then some (⟨g, o, none⟩ : Addr) else some ⟨g, o + 5, none⟩) = q at hq ⊢
        generalize (((((W.setCell ⟨wr.heap.size, 0, none⟩ (.int .i64 y0)).setCell ⟨wr.heap.size, 1, none⟩ (.int .i64 y1)).setCell ⟨wr.heap.size, 2, none⟩ (.int .i64 y2)).setCell ⟨wr.heap.size, 3, none⟩ (.int .i64 y3)).setCell ⟨wr.heap.size, 4, none⟩ (.int .i64 y4)).drew = W2 at HX2 HB2 HW2 ⊢
        have X := HX2.out
        have HB1 := HB2
        have HW1 := HW2
        clear HX2 HB2 HW2
        obtain ⟨zc0, zc1, zc2, zc3, zc4⟩ := X.cell5
        have HROW2 := Lib.hid (own5_below HREL.out.row HW1.out)
        have HSL := HB1.out.size
        go_wp2_with (first
          | (go_at_call 76; refine (kU_ft _).mono ?_; rintro e w3 ⟨rfl, rfl⟩)
          | (at_builtin; refine append_in5 rfl (.tmp 46) (.tmp 48) rfl w.heap.size _ D.length _ rfl (HROW2.out.alloc _) (some ⟨W2.heap.size, 0, none⟩) [(y0, y1, y2, y3, y4)] 1 1 rfl rfl (by decide) (reads5_block (Box.new W2 25 #[.int .i64 y0, .int .i64 y1, .int .i64 y2, .int .i64 y3, .int .i64 y4]) rfl) (by have := hsz.out; omega) (by simp; omega) ?_; intro v3 w3 hv3 hB3; have O3 := Lib.hid hv3; have B3 := Lib.hid ((HB1.out.alloc HB1.out.size (.cells #[.int .i64 y0, .int .i64 y1, .int .i64 y2, .int .i64 y3, .int .i64 y4] 25)).trans hB3); clear hv3 hB3))
        refine ⟨⟨[], B, D ++ [y], a, q, 0, m, ca, (cb - 1), rfl, rfl, ha, (by omega), hn, HLB, Lib.hid (by have := hsz.out; simp; omega), Lib.hid ⟨Reads5.nil _ _, hq.out, ?_, (by simp), (fun z hz => HREL.out.ob z (List.mem_cons_of_mem _ hz)), ?_, B3.out⟩⟩, by simp [slen]; try omega⟩
        · have h := HEQ.out; simpa [one, kU] using h
        · have h := O3.out; rw [List.length_append, List.map_append, List.map_singleton, Hy.out]; exact h
    · obtain ⟨n, rfl⟩ : ∃ n', n = n' + 1 := ⟨A.length, hn.out.symm⟩
      have HLA : Hid (A.length = n) := Lib.hid (by have := hn.out; simpa using this)
      have h1 : (0 : Int) < ((n + 1 : Nat) : Int) := by omega
      have h2 : decide ((0 : Int) < ((n + 1 : Nat) : Int)) = true := decide_eq_true h1
      obtain ⟨g, o, rfl, hg, hatx, htlx⟩ := reads_head HREL.out.ra
      have HTx := Lib.hid htlx
      have hox := Lib.hid (HREL.out.oa x (List.mem_cons_self ..))
      obtain ⟨⟨x0, x1, x2, x3, x4⟩, hx⟩ : ∃ v, pad5 x = v := ⟨_, rfl⟩
      rw [hx] at hatx
      have Hx := Lib.hid hx
      have HAx := Lib.hid (hatx.below HREL.out.hb)
      have hlg : g < wr.heap.size := Nat.lt_of_lt_of_le hg HREL.out.hb.size
      clear htlx hatx hx
      have hq : Hid (Reads5 w (if ca = 1 then some ⟨g, o, none⟩ else some ⟨g, o + 5, none⟩) (A.map pad5)) := Lib.hid (tail_if (by have := HLA.out; omega) HTx.out)
      rcases B with _ | ⟨y, B⟩
      · obtain rfl : m = 0 := hm.out.symm
        have hR := HREL.out.eq
        rw [mrg_left] at hR
        have HEQ := Lib.hid hR
        clear hR hn
        go_wp2_with (first
          | (go_at_call 77; refine (heads_right _ _ _ _ _ _ (by omega)).mono ?_; rintro e w2 ⟨rfl, rfl⟩))
        have X := Box.new wr 25 #[.int .i64 0, .int .i64 0, .int .i64 0, .int .i64 0, .int .i64 0]
        have HB1 := Lib.hid (HB0.out.alloc HB0.out.size (.cells #[.int .i64 0, .int .i64 0, .int .i64 0, .int .i64 0, .int .i64 0] 25))
        have HW1 := Lib.hid ((Below.refl wr.heap.size wr).alloc (Nat.le_refl _) (.cells #[.int .i64 0, .int .i64 0, .int .i64 0, .int .i64 0, .int .i64 0] 25))
        generalize wr.alloc (.cells #[.int .i64 0, .int .i64 0, .int .i64 0, .int .i64 0, .int .i64 0] 25) = W at X HB1 HW1 ⊢
        obtain ⟨c0, c1, c2, c3, c4⟩ := (HAx.out.below HW1.out)
        obtain ⟨zc0, zc1, zc2, zc3, zc4⟩ := X.cell5
        obtain ⟨f0, f1, f2, f3, f4⟩ := X.free5
        have hxg : wr.heap.size ≠ g := by omega
        have hgx : g ≠ wr.heap.size := by omega
        have HX := Lib.hid X
        clear X
        go_region
        have HX2 := Lib.hid (HX.out.put5 (.int .i64 x0) (.int .i64 x1) (.int .i64 x2) (.int .i64 x3) (.int .i64 x4)).drew
        have HB2 := Lib.hid (below_put5 HB1.out HB0.out.size (.int .i64 x0) (.int .i64 x1) (.int .i64 x2) (.int .i64 x3) (.int .i64 x4)).drew
        have HW2 := Lib.hid (below_put5 HW1.out (Nat.le_refl _) (.int .i64 x0) (.int .i64 x1) (.int .i64 x2) (.int .i64 x3) (.int .i64 x4)).drew
        clear c0 c1 c2 c3 c4 zc0 zc1 zc2 zc3 zc4 f0 f1 f2 f3 f4 HX HB1 HW1 hxg hgx
        generalize (if ca = 1 then some (⟨g, o, none⟩ : Addr) else some ⟨g, o + 5, none⟩) = q at hq ⊢
        generalize (((((W.setCell ⟨wr.heap.size, 0, none⟩ (.int .i64 x0)).setCell ⟨wr.heap.size, 1, none⟩ (.int .i64 x1)).setCell ⟨wr.heap.size, 2, none⟩ (.int .i64 x2)).setCell ⟨wr.heap.size, 3, none⟩ (.int .i64 x3)).setCell ⟨wr.heap.size, 4, none⟩ (.int .i64 x4)).drew = W2 at HX2 HB2 HW2 ⊢
        have X := HX2.out
        have HB1 := HB2
        have HW1 := HW2
        clear HX2 HB2 HW2
        obtain ⟨zc0, zc1, zc2, zc3, zc4⟩ := X.cell5
        have HROW2 := Lib.hid (own5_below HREL.out.row HW1.out)
        have HSL := HB1.out.size
        go_wp2_with (first
          | (go_at_call 76; refine (kU_tf _).mono ?_; rintro e w3 ⟨rfl, rfl⟩)
          | (at_builtin; refine append_in5 rfl (.tmp 46) (.tmp 48) rfl w.heap.size _ D.length _ rfl (HROW2.out.alloc _) (some ⟨W2.heap.size, 0, none⟩) [(x0, x1, x2, x3, x4)] 1 1 rfl rfl (by decide) (reads5_block (Box.new W2 25 #[.int .i64 x0, .int .i64 x1, .int .i64 x2, .int .i64 x3, .int .i64 x4]) rfl) (by have := hsz.out; omega) (by simp; omega) ?_; intro v3 w3 hv3 hB3; have O3 := Lib.hid hv3; have B3 := Lib.hid ((HB1.out.alloc HB1.out.size (.cells #[.int .i64 x0, .int .i64 x1, .int .i64 x2, .int .i64 x3, .int .i64 x4] 25)).trans hB3); clear hv3 hB3))
        refine ⟨⟨A, [], D ++ [x], q, b, n, 0, (ca - 1), cb, rfl, rfl, (by omega), hb, HLA, hm, Lib.hid (by have := hsz.out; simp; omega), Lib.hid ⟨hq.out, Reads5.nil _ _, ?_, (fun z hz => HREL.out.oa z (List.mem_cons_of_mem _ hz)), (by simp), ?_, B3.out⟩⟩, by simp [slen]; try omega⟩
        · have h := HEQ.out; simpa [one, kU] using h
        · have h := O3.out; rw [List.length_append, List.map_append, List.map_singleton, Hx.out]; exact h
      · obtain ⟨m, rfl⟩ : ∃ m', m = m' + 1 := ⟨B.length, hm.out.symm⟩
        have HLB : Hid (B.length = m) := Lib.hid (by have := hm.out; simpa using this)
        obtain ⟨gg, oo, rfl, hgg, haty, htly⟩ := reads_head HREL.out.rb
        have HTy := Lib.hid htly
        have hoy := Lib.hid (HREL.out.ob y (List.mem_cons_self ..))
        obtain ⟨⟨y0, y1, y2, y3, y4⟩, hy⟩ : ∃ v, pad5 y = v := ⟨_, rfl⟩
        rw [hy] at haty
        have Hy := Lib.hid hy
        have HAy := Lib.hid (haty.below HREL.out.hb)
        have hlgg : gg < wr.heap.size := Nat.lt_of_lt_of_le hgg HREL.out.hb.size
        clear htly haty hy
        have hr : Hid (Reads5 w (if cb = 1 then some ⟨gg, oo, none⟩ else some ⟨gg, oo + 5, none⟩) (B.map pad5)) := Lib.hid (tail_if (by have := HLB.out; omega) HTy.out)
        have h3 : (0 : Int) < ((m + 1 : Nat) : Int) := by omega
        obtain ⟨v, hv⟩ : ∃ v, cmpL x y = v := ⟨_, rfl⟩
        have HCV := Lib.hid ((cmpE_ok hox.out hoy.out Hx.out Hy.out).trans (by rw [hv]))
        have hrg := cmpL_range x y
        have hR := HREL.out.eq
        rcases hrg with h | h | h
        · have hv2 : cmpL x y = (-1) := h
          rw [mrg_lt kU x y A B (by omega)] at hR
          have HEQ := Lib.hid hR
          obtain rfl : v = (-1) := hv.symm.trans hv2
          clear hR hv hv2 h
          go_wp2_with (first
            | (go_at_call 77; refine (heads_both _ _ _ _ _ _ _ (by omega) (by omega) g gg o oo x0 x1 x2 x3 x4 y0 y1 y2 y3 y4 (-1) rfl rfl HAx HAy HCV).mono ?_; rintro e w2 ⟨rfl, hB⟩; have B2 := Lib.hid hB; clear hB))
          have HREL2 := Lib.hid (HREL.out.on B2.out)
          have HAx2 := Lib.hid (HAx.out.below B2.out)
          have HAy2 := Lib.hid (HAy.out.below B2.out)
          have hlg2 := Nat.lt_of_lt_of_le hlg B2.out.size
          have hlgg2 := Nat.lt_of_lt_of_le hlgg B2.out.size
          clear HREL HAx HAy HB0 hws hlg hlgg
          have HREL := HREL2
          have HAx := HAx2
          have HAy := HAy2
          have hlg := hlg2
          have hlgg := hlgg2
          clear HREL2 HAx2 HAy2 hlg2 hlgg2 B2
          have HB0 := Lib.hid HREL.out.hb
          have hws := HREL.out.hb.size
          have X := Box.new w2 25 #[.int .i64 0, .int .i64 0, .int .i64 0, .int .i64 0, .int .i64 0]
          have HB1 := Lib.hid (HB0.out.alloc HB0.out.size (.cells #[.int .i64 0, .int .i64 0, .int .i64 0, .int .i64 0, .int .i64 0] 25))
          have HW1 := Lib.hid ((Below.refl w2.heap.size w2).alloc (Nat.le_refl _) (.cells #[.int .i64 0, .int .i64 0, .int .i64 0, .int .i64 0, .int .i64 0] 25))
          generalize w2.alloc (.cells #[.int .i64 0, .int .i64 0, .int .i64 0, .int .i64 0, .int .i64 0] 25) = W at X HB1 HW1 ⊢
          obtain ⟨c0, c1, c2, c3, c4⟩ := (HAx.out.below HW1.out)
          obtain ⟨zc0, zc1, zc2, zc3, zc4⟩ := X.cell5
          obtain ⟨f0, f1, f2, f3, f4⟩ := X.free5
          have hxg : w2.heap.size ≠ g := by omega
          have hgx : g ≠ w2.heap.size := by omega
          have HX := Lib.hid X
          clear X
          go_region
          have HX2 := Lib.hid (HX.out.put5 (.int .i64 x0) (.int .i64 x1) (.int .i64 x2) (.int .i64 x3) (.int .i64 x4)).drew
          have HB2 := Lib.hid (below_put5 HB1.out HB0.out.size (.int .i64 x0) (.int .i64 x1) (.int .i64 x2) (.int .i64 x3) (.int .i64 x4)).drew
          have HW2 := Lib.hid (below_put5 HW1.out (Nat.le_refl _) (.int .i64 x0) (.int .i64 x1) (.int .i64 x2) (.int .i64 x3) (.int .i64 x4)).drew
          clear c0 c1 c2 c3 c4 zc0 zc1 zc2 zc3 zc4 f0 f1 f2 f3 f4 HX HB1 HW1 hxg hgx
          generalize (if ca = 1 then some (⟨g, o, none⟩ : Addr) else some ⟨g, o + 5, none⟩) = q at hq ⊢
          generalize (((((W.setCell ⟨w2.heap.size, 0, none⟩ (.int .i64 x0)).setCell ⟨w2.heap.size, 1, none⟩ (.int .i64 x1)).setCell ⟨w2.heap.size, 2, none⟩ (.int .i64 x2)).setCell ⟨w2.heap.size, 3, none⟩ (.int .i64 x3)).setCell ⟨w2.heap.size, 4, none⟩ (.int .i64 x4)).drew = W2 at HX2 HB2 HW2 ⊢
          have X := HX2.out
          have HB1 := HB2
          have HW1 := HW2
          clear HX2 HB2 HW2
          obtain ⟨zc0, zc1, zc2, zc3, zc4⟩ := X.cell5
          have HROW2 := Lib.hid (own5_below HREL.out.row HW1.out)
          have HSL := HB1.out.size
          go_wp2_with (first
            | (go_at_call 76; refine (kU_tf _).mono ?_; rintro e w3 ⟨rfl, rfl⟩)
            | (at_builtin; refine append_in5 rfl (.tmp 46) (.tmp 48) rfl w.heap.size _ D.length _ rfl (HROW2.out.alloc _) (some ⟨W2.heap.size, 0, none⟩) [(x0, x1, x2, x3, x4)] 1 1 rfl rfl (by decide) (reads5_block (Box.new W2 25 #[.int .i64 x0, .int .i64 x1, .int .i64 x2, .int .i64 x3, .int .i64 x4]) rfl) (by have := hsz.out; omega) (by simp; omega) ?_; intro v3 w3 hv3 hB3; have O3 := Lib.hid hv3; have B3 := Lib.hid ((HB1.out.alloc HB1.out.size (.cells #[.int .i64 x0, .int .i64 x1, .int .i64 x2, .int .i64 x3, .int .i64 x4] 25)).trans hB3); clear hv3 hB3))
          refine ⟨⟨A, (y :: B), D ++ [x], q, _, n, (m + 1), (ca - 1), cb, rfl, rfl, (by omega), hb, HLA, hm, Lib.hid (by have := hsz.out; simp; omega), Lib.hid ⟨hq.out, HREL.out.rb, ?_, (fun z hz => HREL.out.oa z (List.mem_cons_of_mem _ hz)), HREL.out.ob, ?_, B3.out⟩⟩, by simp [slen]; try omega⟩
          · have h := HEQ.out; simpa [one, kU] using h
          · have h := O3.out; rw [List.length_append, List.map_append, List.map_singleton, Hx.out]; exact h
        · have hv2 : cmpL x y = 0 := h
          rw [mrg_eq kU x y A B (by omega)] at hR
          have HEQ := Lib.hid hR
          obtain rfl : v = 0 := hv.symm.trans hv2
          clear hR hv hv2 h
          go_wp2_with (first
            | (go_at_call 77; refine (heads_both _ _ _ _ _ _ _ (by omega) (by omega) g gg o oo x0 x1 x2 x3 x4 y0 y1 y2 y3 y4 0 rfl rfl HAx HAy HCV).mono ?_; rintro e w2 ⟨rfl, hB⟩; have B2 := Lib.hid hB; clear hB))
          have HREL2 := Lib.hid (HREL.out.on B2.out)
          have HAx2 := Lib.hid (HAx.out.below B2.out)
          have HAy2 := Lib.hid (HAy.out.below B2.out)
          have hlg2 := Nat.lt_of_lt_of_le hlg B2.out.size
          have hlgg2 := Nat.lt_of_lt_of_le hlgg B2.out.size
          clear HREL HAx HAy HB0 hws hlg hlgg
          have HREL := HREL2
          have HAx := HAx2
          have HAy := HAy2
          have hlg := hlg2
          have hlgg := hlgg2
          clear HREL2 HAx2 HAy2 hlg2 hlgg2 B2
          have HB0 := Lib.hid HREL.out.hb
          have hws := HREL.out.hb.size
          have X := Box.new w2 25 #[.int .i64 0, .int .i64 0, .int .i64 0, .int .i64 0, .int .i64 0]
          have HB1 := Lib.hid (HB0.out.alloc HB0.out.size (.cells #[.int .i64 0, .int .i64 0, .int .i64 0, .int .i64 0, .int .i64 0] 25))
          have HW1 := Lib.hid ((Below.refl w2.heap.size w2).alloc (Nat.le_refl _) (.cells #[.int .i64 0, .int .i64 0, .int .i64 0, .int .i64 0, .int .i64 0] 25))
          generalize w2.alloc (.cells #[.int .i64 0, .int .i64 0, .int .i64 0, .int .i64 0, .int .i64 0] 25) = W at X HB1 HW1 ⊢
          obtain ⟨c0, c1, c2, c3, c4⟩ := (HAx.out.below HW1.out)
          obtain ⟨zc0, zc1, zc2, zc3, zc4⟩ := X.cell5
          obtain ⟨f0, f1, f2, f3, f4⟩ := X.free5
          have hxg : w2.heap.size ≠ g := by omega
          have hgx : g ≠ w2.heap.size := by omega
          have HX := Lib.hid X
          clear X
          go_region
          have HX2 := Lib.hid (HX.out.put5 (.int .i64 x0) (.int .i64 x1) (.int .i64 x2) (.int .i64 x3) (.int .i64 x4)).drew
          have HB2 := Lib.hid (below_put5 HB1.out HB0.out.size (.int .i64 x0) (.int .i64 x1) (.int .i64 x2) (.int .i64 x3) (.int .i64 x4)).drew
          have HW2 := Lib.hid (below_put5 HW1.out (Nat.le_refl _) (.int .i64 x0) (.int .i64 x1) (.int .i64 x2) (.int .i64 x3) (.int .i64 x4)).drew
          clear c0 c1 c2 c3 c4 zc0 zc1 zc2 zc3 zc4 f0 f1 f2 f3 f4 HX HB1 HW1 hxg hgx
          generalize (if ca = 1 then some (⟨g, o, none⟩ : Addr) else some ⟨g, o + 5, none⟩) = q at hq ⊢
          generalize (((((W.setCell ⟨w2.heap.size, 0, none⟩ (.int .i64 x0)).setCell ⟨w2.heap.size, 1, none⟩ (.int .i64 x1)).setCell ⟨w2.heap.size, 2, none⟩ (.int .i64 x2)).setCell ⟨w2.heap.size, 3, none⟩ (.int .i64 x3)).setCell ⟨w2.heap.size, 4, none⟩ (.int .i64 x4)).drew = W2 at HX2 HB2 HW2 ⊢
          have X := HX2.out
          have HB1 := HB2
          have HW1 := HW2
          clear HX2 HB2 HW2
          go_wp2
          obtain ⟨c0, c1, c2, c3, c4⟩ := (HAy.out.below HW1.out)
          obtain ⟨zc0, zc1, zc2, zc3, zc4⟩ := X.cell5
          obtain ⟨f0, f1, f2, f3, f4⟩ := X.free5
          have hxg : w2.heap.size ≠ gg := by omega
          have hgx : gg ≠ w2.heap.size := by omega
          have HX := Lib.hid X
          clear X
          go_region
          have HX2 := Lib.hid (HX.out.put5 (.int .i64 y0) (.int .i64 y1) (.int .i64 y2) (.int .i64 y3) (.int .i64 y4)).drew
          have HB2 := Lib.hid (below_put5 HB1.out HB0.out.size (.int .i64 y0) (.int .i64 y1) (.int .i64 y2) (.int .i64 y3) (.int .i64 y4)).drew
          have HW2 := Lib.hid (below_put5 HW1.out (Nat.le_refl _) (.int .i64 y0) (.int .i64 y1) (.int .i64 y2) (.int .i64 y3) (.int .i64 y4)).drew
          clear c0 c1 c2 c3 c4 zc0 zc1 zc2 zc3 zc4 f0 f1 f2 f3 f4 HX HB1 HW1 hxg hgx
          generalize (if cb = 1 then some (⟨gg, oo, none⟩ : Addr) else some ⟨gg, oo + 5, none⟩) = r at hr ⊢
          generalize (((((W2.setCell ⟨w2.heap.size, 0, none⟩ (.int .i64 y0)).setCell ⟨w2.heap.size, 1, none⟩ (.int .i64 y1)).setCell ⟨w2.heap.size, 2, none⟩ (.int .i64 y2)).setCell ⟨w2.heap.size, 3, none⟩ (.int .i64 y3)).setCell ⟨w2.heap.size, 4, none⟩ (.int .i64 y4)).drew = W3 at HX2 HB2 HW2 ⊢
          have X := HX2.out
          have HB1 := HB2
          have HW1 := HW2
          clear HX2 HB2 HW2
          obtain ⟨zc0, zc1, zc2, zc3, zc4⟩ := X.cell5
          have HROW2 := Lib.hid (own5_below HREL.out.row HW1.out)
          have HSL := HB1.out.size
          go_wp2_with (first
            | (go_at_call 76; refine (kU_tt _).mono ?_; rintro e w3 ⟨rfl, rfl⟩)
            | (at_builtin; refine append_in5 rfl (.tmp 46) (.tmp 48) rfl w.heap.size _ D.length _ rfl (HROW2.out.alloc _) (some ⟨W3.heap.size, 0, none⟩) [(y0, y1, y2, y3, y4)] 1 1 rfl rfl (by decide) (reads5_block (Box.new W3 25 #[.int .i64 y0, .int .i64 y1, .int .i64 y2, .int .i64 y3, .int .i64 y4]) rfl) (by have := hsz.out; omega) (by simp; omega) ?_; intro v3 w3 hv3 hB3; have O3 := Lib.hid hv3; have B3 := Lib.hid ((HB1.out.alloc HB1.out.size (.cells #[.int .i64 y0, .int .i64 y1, .int .i64 y2, .int .i64 y3, .int .i64 y4] 25)).trans hB3); clear hv3 hB3))
          refine ⟨⟨A, B, D ++ [y], q, r, n, m, (ca - 1), (cb - 1), rfl, rfl, (by omega), (by omega), HLA, HLB, Lib.hid (by have := hsz.out; simp; omega), Lib.hid ⟨hq.out, hr.out, ?_, (fun z hz => HREL.out.oa z (List.mem_cons_of_mem _ hz)), (fun z hz => HREL.out.ob z (List.mem_cons_of_mem _ hz)), ?_, B3.out⟩⟩, by simp [slen]; try omega⟩
          · have h := HEQ.out; simpa [one, kU] using h
          · have h := O3.out; rw [List.length_append, List.map_append, List.map_singleton, Hy.out]; exact h
        · have hv2 : cmpL x y = 1 := h
          rw [mrg_gt kU x y A B (by omega)] at hR
          have HEQ := Lib.hid hR
          obtain rfl : v = 1 := hv.symm.trans hv2
          clear hR hv hv2 h
          go_wp2_with (first
            | (go_at_call 77; refine (heads_both _ _ _ _ _ _ _ (by omega) (by omega) g gg o oo x0 x1 x2 x3 x4 y0 y1 y2 y3 y4 1 rfl rfl HAx HAy HCV).mono ?_; rintro e w2 ⟨rfl, hB⟩; have B2 := Lib.hid hB; clear hB))
          have HREL2 := Lib.hid (HREL.out.on B2.out)
          have HAx2 := Lib.hid (HAx.out.below B2.out)
          have HAy2 := Lib.hid (HAy.out.below B2.out)
          have hlg2 := Nat.lt_of_lt_of_le hlg B2.out.size
          have hlgg2 := Nat.lt_of_lt_of_le hlgg B2.out.size
          clear HREL HAx HAy HB0 hws hlg hlgg
          have HREL := HREL2
          have HAx := HAx2
          have HAy := HAy2
          have hlg := hlg2
          have hlgg := hlgg2
          clear HREL2 HAx2 HAy2 hlg2 hlgg2 B2
          have HB0 := Lib.hid HREL.out.hb
          have hws := HREL.out.hb.size
          have X := Box.new w2 25 #[.int .i64 0, .int .i64 0, .int .i64 0, .int .i64 0, .int .i64 0]
          have HB1 := Lib.hid (HB0.out.alloc HB0.out.size (.cells #[.int .i64 0, .int .i64 0, .int .i64 0, .int .i64 0, .int .i64 0] 25))
          have HW1 := Lib.hid ((Below.refl w2.heap.size w2).alloc (Nat.le_refl _) (.cells #[.int .i64 0, .int .i64 0, .int .i64 0, .int .i64 0, .int .i64 0] 25))
          generalize w2.alloc (.cells #[.int .i64 0, .int .i64 0, .int .i64 0, .int .i64 0, .int .i64 0] 25) = W at X HB1 HW1 ⊢
          obtain ⟨c0, c1, c2, c3, c4⟩ := (HAy.out.below HW1.out)
          obtain ⟨zc0, zc1, zc2, zc3, zc4⟩ := X.cell5
          obtain ⟨f0, f1, f2, f3, f4⟩ := X.free5
          have hxg : w2.heap.size ≠ gg := by omega
          have hgx : gg ≠ w2.heap.size := by omega
          have HX := Lib.hid X
          clear X
          go_region
          have HX2 := Lib.hid (HX.out.put5 (.int .i64 y0) (.int .i64 y1) (.int .i64 y2) (.int .i64 y3) (.int .i64 y4)).drew
          have HB2 := Lib.hid (below_put5 HB1.out HB0.out.size (.int .i64 y0) (.int .i64 y1) (.int .i64 y2) (.int .i64 y3) (.int .i64 y4)).drew
          have HW2 := Lib.hid (below_put5 HW1.out (Nat.le_refl _) (.int .i64 y0) (.int .i64 y1) (.int .i64 y2) (.int .i64 y3) (.int .i64 y4)).drew
          clear c0 c1 c2 c3 c4 zc0 zc1 zc2 zc3 zc4 f0 f1 f2 f3 f4 HX HB1 HW1 hxg hgx
          generalize (if cb = 1 then some (⟨gg, oo, none⟩ : Addr) else some ⟨gg, oo + 5, none⟩) = r at hr ⊢
          generalize (((((W.setCell ⟨w2.heap.size, 0, none⟩ (.int .i64 y0)).setCell ⟨w2.heap.size, 1, none⟩ (.int .i64 y1)).setCell ⟨w2.heap.size, 2, none⟩ (.int .i64 y2)).setCell ⟨w2.heap.size, 3, none⟩ (.int .i64 y3)).setCell ⟨w2.heap.size, 4, none⟩ (.int .i64 y4)).drew = W2 at HX2 HB2 HW2 ⊢
          have X := HX2.out
          have HB1 := HB2
          have HW1 := HW2
          clear HX2 HB2 HW2
          obtain ⟨zc0, zc1, zc2, zc3, zc4⟩ := X.cell5
          have HROW2 := Lib.hid (own5_below HREL.out.row HW1.out)
          have HSL := HB1.out.size
          go_wp2_with (first
            | (go_at_call 76; refine (kU_ft _).mono ?_; rintro e w3 ⟨rfl, rfl⟩)
            | (at_builtin; refine append_in5 rfl (.tmp 46) (.tmp 48) rfl w.heap.size _ D.length _ rfl (HROW2.out.alloc _) (some ⟨W2.heap.size, 0, none⟩) [(y0, y1, y2, y3, y4)] 1 1 rfl rfl (by decide) (reads5_block (Box.new W2 25 #[.int .i64 y0, .int .i64 y1, .int .i64 y2, .int .i64 y3, .int .i64 y4]) rfl) (by have := hsz.out; omega) (by simp; omega) ?_; intro v3 w3 hv3 hB3; have O3 := Lib.hid hv3; have B3 := Lib.hid ((HB1.out.alloc HB1.out.size (.cells #[.int .i64 y0, .int .i64 y1, .int .i64 y2, .int .i64 y3, .int .i64 y4] 25)).trans hB3); clear hv3 hB3))
          refine ⟨⟨(x :: A), B, D ++ [y], _, r, (n + 1), m, ca, (cb - 1), rfl, rfl, ha, (by omega), hn, HLB, Lib.hid (by have := hsz.out; simp; omega), Lib.hid ⟨HREL.out.ra, hr.out, ?_, HREL.out.oa, (fun z hz => HREL.out.ob z (List.mem_cons_of_mem _ hz)), ?_, B3.out⟩⟩, by simp [slen]; try omega⟩
          · have h := HEQ.out; simpa [one, kU] using h
          · have h := O3.out; rw [List.length_append, List.map_append, List.map_singleton, Hy.out]; exact h
end Go.Proofs.Ytdahaajfkjmflaa.s14
