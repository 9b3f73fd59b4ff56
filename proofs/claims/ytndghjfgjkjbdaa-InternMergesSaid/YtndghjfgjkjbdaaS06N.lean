/-
  Layer 6, the program's side: Check, Of; the deferred closure of work.
-/
import Derived.Test.YtndghjfgjkjbdaaS06L
namespace Go.Proofs.Ytndghjfgjkjbdaa.s06
set_option linter.unusedVariables false
set_option linter.unusedSimpArgs false
open Go.RowKit Go.WideMaps Go.Maps
open kit

/-- new blocks, and none but the blocks of the list may have changed -/
structure KS (l : List Nat) (w w' : World) : Prop where
  os : w'.os = w.os
  tape : w'.tape = w.tape
  output : w'.output = w.output
  size : w.heap.size ≤ w'.heap.size
  block : ∀ k, k < w.heap.size → ¬ k ∈ l → w'.heap[k]? = w.heap[k]?
theorem KS.refl (l : List Nat) (w : World) : KS l w w := ⟨rfl, rfl, rfl, Nat.le_refl _, fun _ _ _ => rfl⟩
theorem KS.trans {l : List Nat} {w w1 w2 : World} (h : KS l w w1) (k : KS l w1 w2) : KS l w w2 :=
  ⟨k.os.trans h.os, k.tape.trans h.tape, k.output.trans h.output, Nat.le_trans h.size k.size, fun i hi hl => (k.block i (Nat.lt_of_lt_of_le hi h.size) hl).trans (h.block i hi hl)⟩
theorem KS.of_below {l : List Nat} {w w1 : World} (h : Below w.heap.size w w1) : KS l w w1 := ⟨h.os, h.tape, h.output, h.size, fun k hk _ => h.block k hk⟩
theorem KS.then {l : List Nat} {w w1 w2 : World} (h : KS l w w1) (k : Below w1.heap.size w1 w2) : KS l w w2 := h.trans (.of_below k)
theorem KS.set {l : List Nat} {w w1 : World} (h : KS l w w1) (b i : Nat) (u : Value) (hb : b ∈ l) : KS l w (w1.setCell ⟨b, i, none⟩ u) :=
  h.trans ⟨rfl, rfl, rfl, by simp, fun k _ hk => Below.heap_setCell _ _ _ _ (fun e => hk (by rw [e]; exact hb))⟩
theorem KS.below {l : List Nat} {B : Nat} {w w1 : World} (h : KS l w w1) (hl : ∀ k ∈ l, B ≤ k) (hB : B ≤ w.heap.size) : Below B w w1 := ⟨h.os, h.tape, h.output, h.size, fun k hk => h.block k (Nat.lt_of_lt_of_le hk hB) (fun hm => by have := hl k hm; omega)⟩
theorem Box.ne {w : World} {t t' : TypeId} {b c : Nat} {xs ys : Array Value} (h : Box w t b xs) (k : Box w t' c ys) (hne : t ≠ t') : b ≠ c := by
  intro e; subst e
  have := (show w.heap[b]? = some (.cells xs t (0, 0)) from h).symm.trans (show w.heap[b]? = some (.cells ys t' (0, 0)) from k)
  simp only [Option.some.injEq, Obj.cells.injEq] at this
  exact hne this.2.1
set_option maxRecDepth 100000 in
set_option maxHeartbeats 1000000 in
theorem checkp_any (a : Option Addr) (cap : Nat) (l : List ByteArray) (er p : Int) (w : World) (hn : l.length ≤ 9223372036854775807) (hz : Hid (∀ x ∈ l, x.size ≤ 9223372036854775807)) (hr : Hid (ReadsS w a l)) (H : Hid (chkT l = (er, p))) :
    Calls Try.prog 12 #[.agg #[.slice a l.length cap]] w fun e w' => e = .returned (.tuple #[.int .i64 er, .int .i64 p]) ∧ Below w.heap.size w w' := by
  have P1 := Lib.hid (Box.new w 24 #[.slice a l.length cap])
  have B1 := Lib.hid ((Below.refl w.heap.size w).alloc (Nat.le_refl _) (.cells #[.slice a l.length cap] 24))
  have HR1 := Lib.hid (hr.out.alloc (.cells #[.slice a l.length cap] 24))
  go_enter Try.func12, Try.ntmps12
  go_wp2_with (go_at_call 42; refine (madeq_any a cap l er p _ hn hz HR1 H).mono ?_; rintro e w2 ⟨b, bm, base, v, l', rfl, hW, _, _, _, _, _, _, hB⟩; have c2 := hW.box.cell 2; have B2 := Lib.hid (below_then B1.out hB); clear hW hB)
  go_ret2
  exact ⟨rfl, B2.out⟩
theorem plain_shape {w : World} {b bm base : Nat} {v : Value} {l : List ByteArray} {er : Int} (h : Wk w b bm base v l er) : ∃ pa pn pk, plainV v er = .slice pa pn pk := by
  obtain ⟨a, k, rfl⟩ := h.shape
  unfold plainV
  split
  · exact ⟨_, _, _, rfl⟩
  · exact ⟨_, _, _, rfl⟩
theorem plainp_as (b bm base : Nat) (v : Value) (l : List ByteArray) (er : Int) (w : World) (hW : Hid (Wk w b bm base v l er)) (pa : Option Addr) (pn pk : Nat) (HP : Hid (plainV v er = .slice pa pn pk)) :
    Calls Try.prog 45 #[.pointer (some ⟨b, 0, none⟩)] w fun e w' => e = .returned (.agg #[.slice pa pn pk]) ∧ Below w.heap.size w w' :=
  (plainp_any b bm base v l er w hW).mono fun e w' h => by rw [HP.out] at h; exact h
/-- what Of gives -/
def OfP (l : List ByteArray) (er : Int) (w : World) (e : Ending) (w' : World) : Prop :=
  ∃ V B, e = .returned (.tuple #[V, .int .i64 er]) ∧ w.heap.size ≤ B ∧ TabO (if er = 0 then l else []) B V w' ∧ Below w.heap.size w w'
theorem tab_plain {w : World} {b bm base : Nat} {v : Value} {l l' : List ByteArray} {er : Int} (h : Wk w b bm base v l' er) (hl : er = 0 → l' = l) : TabO (if er = 0 then l else []) base (.agg #[plainV v er]) w := by
  unfold plainV
  by_cases h0 : er = 0
  · have e := hl h0
    subst e
    rw [if_pos h0, if_pos h0]
    exact ⟨_, rfl, h.row⟩
  · rw [if_neg h0, if_neg h0]
    exact tab_nil _ _
set_option maxRecDepth 100000 in
set_option maxHeartbeats 1000000 in
theorem ofp_any (a : Option Addr) (cap : Nat) (l : List ByteArray) (er p : Int) (w : World) (hn : l.length ≤ 9223372036854775807) (hz : Hid (∀ x ∈ l, x.size ≤ 9223372036854775807)) (hr : Hid (ReadsS w a l)) (H : Hid (chkT l = (er, p))) :
    Calls Try.prog 14 #[.slice a l.length cap] w (OfP l er w) := by
  have X1 := Lib.hid (Box.new w 24 #[.slice none 0 0])
  have B1 := Lib.hid ((Below.refl w.heap.size w).alloc (Nat.le_refl _) (.cells #[.slice none 0 0] 24))
  have HR1 := Lib.hid (hr.out.alloc (.cells #[.slice none 0 0] 24))
  go_enter Try.func14, Try.ntmps14
  go_wp2_with (go_at_call 42; refine (madeq_any a cap l er p _ hn hz HR1 H).mono ?_; rintro e w2 ⟨b, bm, base, v, l', rfl, hW, hl', _, hb1, _, hb3, _, hB⟩; have hb : w.heap.size ≠ b := (by simp at hb1; omega); have hbb : w.heap.size ≤ base := (by simp at hb3; omega); clear hb1 hb3; have X2 := Lib.hid (X1.out.below hB); have W2 := Lib.hid hW; have HL := Lib.hid hl'; have B2 := Lib.hid (below_then B1.out hB); clear hW hB hl')
  have hd : Below w2.heap.size w2 w2.drew := (Below.refl _ _).drew
  have W3 := Lib.hid (W2.out.below hd)
  have X3 := Lib.hid (X2.out.below hd)
  have B3 := Lib.hid (below_then B2.out hd)
  clear hd
  obtain ⟨pa, pn, pk, hpv⟩ := plain_shape W3.out
  have HP := Lib.hid hpv
  clear hpv
  have z2 := W2.out.box.cell 2
  have z3 := W3.out.box.cell 2
  have hb' := Ne.symm hb
  go_region_with (go_at_call 45; refine (plainp_as b bm base v l' er _ W3 pa pn pk HP).mono ?_; rintro e w5 ⟨rfl, hB5⟩; have X5 := Lib.hid (X3.out.below hB5); have W5 := Lib.hid (W3.out.below hB5); have B5 := Lib.hid (below_then B3.out hB5); clear hB5; have c0 := X5.out.cell 0; have f0 := X5.out.free 0; have lx := X5.out.lt; have c5 := W5.out.box.cell 2)
  all_goals
    go_wp2
    have d0 := (X5.out.set 0 (by simp) (.slice pa pn pk)).cell 0
    have W6 := W5.out.other (i := 0) X5.out (Ne.symm hb) (by decide) (.slice pa pn pk)
    have h6 : TabO (if er = 0 then l else []) base (.agg #[.slice pa pn pk]) (w5.setCell ⟨w.heap.size, 0, none⟩ (.slice pa pn pk)) := by
      have := tab_plain W6 HL.out
      rw [HP.out] at this
      exact this
    exact bodyPost_ret (v := .tuple #[.agg #[.slice pa pn pk], .int .i64 er]) (by simp [results, Try.results14, go_sem, d0]) rfl ⟨_, base, rfl, hbb, h6, B5.out.setCell (p := ⟨w.heap.size, 0, none⟩) (by simp) _⟩
end Go.Proofs.Ytndghjfgjkjbdaa.s06
