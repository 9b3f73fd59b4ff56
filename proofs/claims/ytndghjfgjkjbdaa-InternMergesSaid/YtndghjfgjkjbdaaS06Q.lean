/-
  Layer 6, the program's side: work at I.
-/
import Derived.Test.YtndghjfgjkjbdaaS06P
namespace Go.Proofs.Ytndghjfgjkjbdaa.s06
set_option linter.unusedVariables false
set_option linter.unusedSimpArgs false
open Go.RowKit Go.WideMaps Go.Maps
open kit

/-- what is said of a value stays, where the blocks made since stay -/
def Stays (Rel : Nat → Value → World → Prop) : Prop := ∀ B V (W W' : World), Rel B V W → W.heap.size ≤ W'.heap.size → (∀ k, B ≤ k → k < W.heap.size → W'.heap[k]? = W.heap[k]?) → Rel B V W'
/-- what work's closure gives -/
def GivesK (Rel : Nat → Value → World → Prop) (b bm base : Nat) (l' : List ByteArray) (er : Int) (W : World) (e : Ending) (W' : World) : Prop :=
  ∃ V v', e = .returned (.tuple #[V, .int .i64 er]) ∧ Rel W.heap.size V W' ∧ Wk W' b bm base v' l' 0 ∧ KT base b bm W W'
/-- the closure's contract -/
def Does (g : FuncId) (c : Nat) (Rel : Nat → Value → World → Prop) (l l' : List ByteArray) (er : Int) (w : World) : Prop :=
  ∀ (W : World) (b bm base : Nat) (v : Value), Below w.heap.size w W → Wk W b bm base v l 0 → base ≤ W.heap.size → w.heap.size ≤ b → w.heap.size ≤ bm → w.heap.size ≤ base → Calls Try.prog g #[.pointer (some ⟨b, 0, none⟩), .pointer (some ⟨c, 0, none⟩)] W (GivesK Rel b bm base l' er W)
/-- what work gives -/
def WorkOk (Rel : Nat → Value → World → Prop) (lr : List ByteArray) (er : Int) (w : World) (e : Ending) (w' : World) : Prop :=
  ∃ V1 V B B2, e = .returned (.tuple #[V1, V, .int .i64 er]) ∧ w.heap.size ≤ B ∧ w.heap.size ≤ B2 ∧ TabO lr B V1 w' ∧ Rel B2 V w' ∧ Below w.heap.size w w'
theorem Box.ne_map {w : World} {t : TypeId} {c bm : Nat} {xs : Array Value} {l : List ByteArray} (h : Box w t c xs) (hm : MapO w bm l) : c ≠ bm := by
  intro e; subst e
  obtain ⟨D, ⟨es, ck, hb, _⟩, _⟩ := hm
  rw [show w.heap[c]? = _ from h] at hb
  cases hb
theorem KT.keep {base b bm c : Nat} {t : TypeId} {xs : Array Value} {w w' : World} {v : Value} {l : List ByteArray} {e0 : Int} (h : KT base b bm w w') (hX : Box w t c xs) (hW : Wk w b bm base v l e0) (h1 : t ≠ 67) (h2 : t ≠ 9) : Box w' t c xs :=
  h.box hX (Box.ne hX hW.box h1) (Box.ne_map hX hW.map) (.inr h2)
theorem KS.mono {l l' : List Nat} {w w1 : World} (h : KS l w w1) (hl : ∀ k ∈ l, k ∈ l') : KS l' w w1 := ⟨h.os, h.tape, h.output, h.size, fun k hk hn => h.block k hk (fun hm => hn (hl k hm))⟩
theorem Box.new2 (w : World) (o : Obj) (t : TypeId) (xs : Array Value) : Box ((w.alloc o).alloc (.cells xs t)) t (w.heap.size + 1) xs := by simpa using Box.new (w.alloc o) t xs
theorem Box.new3 (w : World) (o o' : Obj) (t : TypeId) (xs : Array Value) : Box (((w.alloc o).alloc o').alloc (.cells xs t)) t (w.heap.size + 1 + 1) xs := by simpa using Box.new ((w.alloc o).alloc o') t xs
theorem below3 (w : World) (o1 o2 o3 : Obj) : Below w.heap.size w (((w.alloc o1).alloc o2).alloc o3) := (((Below.refl _ _).alloc (Nat.le_refl _) _).alloc (by simp) _).alloc (by simp; omega) _
theorem below2 (w : World) (o1 o2 : Obj) : Below w.heap.size w ((w.alloc o1).alloc o2) := ((Below.refl _ _).alloc (Nat.le_refl _) _).alloc (by simp) _
set_option maxRecDepth 100000 in
set_option maxHeartbeats 1000000 in
theorem work_badI (a : Option Addr) (cap : Nat) (l : List ByteArray) (er p : Int) (fv : Value) (w : World) (hn : l.length ≤ 9223372036854775807) (hz : Hid (∀ x ∈ l, x.size ≤ 9223372036854775807)) (hr : Hid (ReadsS w a l)) (H : Hid (chkT l = (er, p))) (he : er ≠ 0) :
    Calls Try.prog 48 #[.agg #[.slice a l.length cap], fv] w fun e w' => e = .returned (.tuple #[.agg #[.slice none 0 0], .int .i64 0, .int .i64 er]) ∧ Below w.heap.size w w' := by
  have A1 := Lib.hid ((Box.new2 w (.cells #[.slice a l.length cap] 24) 24 #[.slice none 0 0]).alloc (.cells #[.int .i64 0] 28))
  have X1 := Lib.hid (Box.new3 w (.cells #[.slice a l.length cap] 24) (.cells #[.slice none 0 0] 24) 28 #[.int .i64 0])
  have B1 := Lib.hid (below3 w (.cells #[.slice a l.length cap] 24) (.cells #[.slice none 0 0] 24) (.cells #[.int .i64 0] 28))
  have P0 := Lib.hid (((Box.new w 24 #[.slice a l.length cap]).alloc (.cells #[.slice none 0 0] 24)).alloc (.cells #[.int .i64 0] 28))
  have HR1 := Lib.hid (hr.out.below B1.out)
  go_enter_defers Try.func48, Try.ntmps48
  go_wp2_with (go_at_call 42; refine (madeq_any a cap l er p _ hn hz HR1 H).mono ?_; rintro e w1 ⟨b, bm, base, v, l1, rfl, hW, hl1, _, hb1, hb2, hb3, hb4, hB⟩; have W1 := Lib.hid hW; have A2 := Lib.hid (A1.out.below hB); have X2 := Lib.hid (X1.out.below hB); have B2 := Lib.hid (below_then B1.out hB); have hb5 : w.heap.size + 3 ≤ b := (by simp at hb1; omega); clear hW hl1 hb1 hb2 hb3 hb4 hB; have c2 := W1.out.box.cell 2; have lb := W1.out.box.lt)
  obtain ⟨W, hW⟩ : ∃ W, W = ((w1.alloc (.cells #[.pointer (some ⟨b, 0, none⟩)] 60)).alloc (.cells #[.int .i64 er] 28)) := ⟨_, rfl⟩
  rw [← hW]
  have W3 := Lib.hid ((W1.out.below (below2 w1 (.cells #[.pointer (some ⟨b, 0, none⟩)] 60) (.cells #[.int .i64 er] 28))))
  have A3 := Lib.hid ((A2.out.below (below2 w1 (.cells #[.pointer (some ⟨b, 0, none⟩)] 60) (.cells #[.int .i64 er] 28))))
  have X3 := Lib.hid ((X2.out.below (below2 w1 (.cells #[.pointer (some ⟨b, 0, none⟩)] 60) (.cells #[.int .i64 er] 28))))
  have B3 := Lib.hid (below_then B2.out (below2 w1 (.cells #[.pointer (some ⟨b, 0, none⟩)] 60) (.cells #[.int .i64 er] 28)))
  have P3 := Lib.hid ((Box.new w1 60 #[.pointer (some ⟨b, 0, none⟩)]).alloc (.cells #[.int .i64 er] 28))
  have E3 := Lib.hid (Box.new2 w1 (.cells #[.pointer (some ⟨b, 0, none⟩)] 60) 28 #[.int .i64 er])
  rw [← hW] at W3 A3 X3 B3 P3 E3
  have hs1 := X2.out.lt
  clear hW c2 lb W1 A2 X2 B2 A1 X1 B1 P0
  have q1 : w.heap.size < w.heap.size + 1 := by omega
  have q2 : w.heap.size + 1 < w.heap.size + 1 + 1 := by omega
  have q3 : w.heap.size + 1 + 1 < w1.heap.size := hs1
  have q4 : w1.heap.size < w1.heap.size + 1 := by omega
  clear hs1
  generalize w1.heap.size + 1 = be at *
  generalize w1.heap.size = bw at *
  generalize w.heap.size + 1 + 1 = bx at *
  generalize w.heap.size + 1 = ba at *
  have c0 := A3.out.cell 0
  have c1 := X3.out.cell 0
  have f0 := A3.out.free 0
  have f1 := X3.out.free 0
  have la := A3.out.lt
  have lx := X3.out.lt
  have n1 : ba ≠ bx := by omega
  have n2 : bx ≠ ba := by omega
  go_region
  have d1 := Box.ne A3.out P3.out (by decide)
  have d2 := Box.ne A3.out E3.out (by decide)
  have d3 := Box.ne X3.out P3.out (by decide)
  have d4 := Box.ne A3.out W3.out.box (by decide)
  have d5 := Box.ne X3.out W3.out.box (by decide)
  have d6 : be ≠ bx := by omega
  have A4 : Hid (Box ((W.setCell ⟨ba, 0, none⟩ (.slice none 0 0)).setCell ⟨bx, 0, none⟩ (.int .i64 0)).drew 24 ba #[.slice none 0 0]) := Lib.hid ((A3.out.set 0 (by simp) _).other n1 _)
  have X4 : Hid (Box ((W.setCell ⟨ba, 0, none⟩ (.slice none 0 0)).setCell ⟨bx, 0, none⟩ (.int .i64 0)).drew 28 bx #[.int .i64 0]) := Lib.hid ((X3.out.other n2 _).set 0 (by simp) _)
  have P4 : Hid (Box ((W.setCell ⟨ba, 0, none⟩ (.slice none 0 0)).setCell ⟨bx, 0, none⟩ (.int .i64 0)).drew 60 bw #[.pointer (some ⟨b, 0, none⟩)]) := Lib.hid ((P3.out.other (Ne.symm d1) _).other (Ne.symm d3) _)
  have E4 : Hid (Box ((W.setCell ⟨ba, 0, none⟩ (.slice none 0 0)).setCell ⟨bx, 0, none⟩ (.int .i64 0)).drew 28 be #[.int .i64 er]) := Lib.hid ((E3.out.other (Ne.symm d2) _).other d6 _)
  have W4 : Hid (Wk ((W.setCell ⟨ba, 0, none⟩ (.slice none 0 0)).setCell ⟨bx, 0, none⟩ (.int .i64 0)).drew b bm base v l1 er) := Lib.hid (((W3.out.other (i := 0) A3.out (Ne.symm d4) (by decide) _).other (i := 0) (X3.out.other (i := 0) n2 _) (Ne.symm d5) (by decide) _).below (Below.refl _ _).drew)
  have B4 : Hid (Below w.heap.size w ((W.setCell ⟨ba, 0, none⟩ (.slice none 0 0)).setCell ⟨bx, 0, none⟩ (.int .i64 0)).drew) := Lib.hid (((B3.out.setCell (p := ⟨ba, 0, none⟩) (by simp; omega) _).setCell (p := ⟨bx, 0, none⟩) (by simp; omega) _).drew)
  generalize ((W.setCell ⟨ba, 0, none⟩ (.slice none 0 0)).setCell ⟨bx, 0, none⟩ (.int .i64 0)).drew = W5 at A4 X4 P4 E4 W4 B4 ⊢
  go_wp2
  refine leaves_cons (f := 71) (args := #[.pointer (some ⟨be, 0, none⟩), .pointer (some ⟨bw, 0, none⟩), .pointer (some ⟨ba, 0, none⟩), .pointer (some ⟨bx, 0, none⟩)]) (by simp) (by simp [go_sem]) ?_
  refine (fin6I be bw ba bx b bm base v l1 er er 0 _ .returning _ W4 E4 P4 A4 X4).mono ?_
  rintro en u' W6 ⟨rfl, rfl, hA6, hX6, hW6, hK6⟩
  have g0 := hA6.cell 0
  have g1 := hX6.cell 0
  have hpl : plainV v er = .slice none 0 0 := if_neg he
  rw [hpl] at g0
  refine ⟨.tuple #[.agg #[.slice none 0 0], .int .i64 0, .int .i64 er], by simp [results, Try.results48, go_sem, g0, g1], rfl, ?_⟩
  have hz4 := B4.out.size
  refine B4.out.trans (hK6.below ?_ hz4)
  intro k hk
  simp at hk
  omega
set_option maxRecDepth 100000 in
set_option maxHeartbeats 1000000 in
theorem work_okN (a : Option Addr) (cap c : Nat) (l l' lr : List ByteArray) (er : Int) (Rel : Nat → Value → World → Prop) (hRel : Hid (Stays Rel)) (w : World) (hn : l.length ≤ 9223372036854775807) (hz : Hid (∀ x ∈ l, x.size ≤ 9223372036854775807)) (hr : Hid (ReadsS w a l)) (H : Hid (chkT l = (0, 0)))
    (hC : Hid (Does 49 c Rel l l' er w)) (HLR : Hid ((if er = 0 then l' else []) = lr)) :
    Calls Try.prog 48 #[.agg #[.slice a l.length cap], .func (.func 49) #[] #[.pointer (some ⟨c, 0, none⟩)]] w (WorkOk Rel lr er w) := by
  have A1 := Lib.hid ((Box.new2 w (.cells #[.slice a l.length cap] 24) 24 #[.slice none 0 0]).alloc (.cells #[.int .i64 0] 28))
  have X1 := Lib.hid (Box.new3 w (.cells #[.slice a l.length cap] 24) (.cells #[.slice none 0 0] 24) 28 #[.int .i64 0])
  have B1 := Lib.hid (below3 w (.cells #[.slice a l.length cap] 24) (.cells #[.slice none 0 0] 24) (.cells #[.int .i64 0] 28))
  have P0 := Lib.hid (((Box.new w 24 #[.slice a l.length cap]).alloc (.cells #[.slice none 0 0] 24)).alloc (.cells #[.int .i64 0] 28))
  have HR1 := Lib.hid (hr.out.below B1.out)
  go_enter_defers Try.func48, Try.ntmps48
  go_wp2_with (go_at_call 42; refine (madeq_any a cap l 0 0 _ hn hz HR1 H).mono ?_; rintro e w1 ⟨b, bm, base, v, l1, rfl, hW, hl1, _, hb1, hb2, hb3, hb4, hB⟩; rw [hl1 rfl] at hW; have W1 := Lib.hid hW; have A2 := Lib.hid (A1.out.below hB); have X2 := Lib.hid (X1.out.below hB); have B2 := Lib.hid (below_then B1.out hB); have hb5 : w.heap.size + 3 ≤ b := (by simp at hb1; omega); have hb6 : w.heap.size + 3 ≤ bm := (by simp at hb2; omega); have hb7 : w.heap.size + 3 ≤ base := (by simp at hb3; omega); clear hW hl1 hb1 hb2 hb3 hB; have c2 := W1.out.box.cell 2; have lb := W1.out.box.lt)
  obtain ⟨W, hW⟩ : ∃ W, W = ((w1.alloc (.cells #[.pointer (some ⟨b, 0, none⟩)] 60)).alloc (.cells #[.int .i64 0] 28)) := ⟨_, rfl⟩
  rw [← hW]
  have K2 := below2 w1 (.cells #[.pointer (some ⟨b, 0, none⟩)] 60) (.cells #[.int .i64 0] 28)
  have W3 := Lib.hid (W1.out.below K2)
  have A3 := Lib.hid (A2.out.below K2)
  have X3 := Lib.hid (X2.out.below K2)
  have B3 := Lib.hid (below_then B2.out K2)
  have P3 := Lib.hid ((Box.new w1 60 #[.pointer (some ⟨b, 0, none⟩)]).alloc (.cells #[.int .i64 0] 28))
  have E3 := Lib.hid (Box.new2 w1 (.cells #[.pointer (some ⟨b, 0, none⟩)] 60) 28 #[.int .i64 0])
  rw [← hW] at W3 A3 X3 B3 P3 E3 K2
  have hb8 : base ≤ W.heap.size := Nat.le_trans hb4 K2.size
  have hs1 := X2.out.lt
  clear hW c2 lb W1 A2 X2 B2 A1 X1 B1 P0 K2 hb4
  have q1 : w.heap.size < w.heap.size + 1 := by omega
  have q2 : w.heap.size + 1 < w.heap.size + 1 + 1 := by omega
  have q3 : w.heap.size + 1 + 1 < w1.heap.size := hs1
  have q4 : w1.heap.size < w1.heap.size + 1 := by omega
  clear hs1
  have hDo := Lib.hid (hC.out W b bm base v B3.out W3.out hb8 (by omega) (by omega) (by omega))
  clear hb8
  generalize w1.heap.size + 1 = be at *
  generalize w1.heap.size = bw at *
  generalize w.heap.size + 1 + 1 = bx at *
  generalize w.heap.size + 1 = ba at *
  have n1 : ba ≠ bx := by omega
  have n2 : bx ≠ ba := by omega
  have d6 : be ≠ bx := by omega
  have p0 := P3.out.cell 0
  refine (hDo.out).mono ?_
  rintro e w2 ⟨V, v2, rfl, hV, hW2, hK2⟩
  have W5 := Lib.hid hW2
  have HV := Lib.hid hV
  have A5 := Lib.hid (hK2.keep A3.out W3.out (by decide) (by decide))
  have X5 := Lib.hid (hK2.keep X3.out W3.out (by decide) (by decide))
  have P5 := Lib.hid (hK2.keep P3.out W3.out (by decide) (by decide))
  have E5 := Lib.hid (hK2.keep E3.out W3.out (by decide) (by decide))
  have hsz := hK2.size
  have B5 := Lib.hid (B3.out.trans (hK2.below (B := w.heap.size) (by omega) (by omega) (by omega) B3.out.size))
  clear hW2 hV hK2 p0
  have e0 := E5.out.cell 0
  have e1 := E5.out.free 0
  have e2 := E5.out.lt
  go_wp2
  have n3 : ba ≠ be := by omega
  have n4 : bx ≠ be := by omega
  have n5 : bw ≠ be := by omega
  have n6 : b ≠ be := Ne.symm (Box.ne E5.out W5.out.box (by decide))
  have W7 := Lib.hid (W5.out.other (i := 0) E5.out n6 (by decide) (.int .i64 er))
  have A7 := Lib.hid (A5.out.other (b' := be) (i := 0) n3 (.int .i64 er))
  have X7 := Lib.hid (X5.out.other (b' := be) (i := 0) n4 (.int .i64 er))
  have P7 := Lib.hid (P5.out.other (b' := be) (i := 0) n5 (.int .i64 er))
  have E7 : Hid (Box (w2.setCell ⟨be, 0, none⟩ (.int .i64 er)) 28 be #[.int .i64 er]) := Lib.hid (E5.out.set 0 (by simp) (.int .i64 er))
  have B7 := Lib.hid (B5.out.setCell (p := ⟨be, 0, none⟩) (by simp; omega) (.int .i64 er))
  have K7 := Lib.hid ((KS.refl [b, ba, bx, be] w2).set be 0 (.int .i64 er) (by simp))
  clear e0 e1 e2
  generalize w2.setCell ⟨be, 0, none⟩ (.int .i64 er) = W' at W7 A7 X7 P7 E7 B7 K7 ⊢
  have c0 := A7.out.cell 0
  have c1 := X7.out.cell 0
  have f0 := A7.out.free 0
  have f1 := X7.out.free 0
  have la := A7.out.lt
  have lx := X7.out.lt
  go_region
  have d1 := Box.ne A7.out P7.out (by decide)
  have d2 := Box.ne A7.out E7.out (by decide)
  have d3 := Box.ne X7.out P7.out (by decide)
  have d4 := Box.ne A7.out W7.out.box (by decide)
  have d5 := Box.ne X7.out W7.out.box (by decide)
  have A4 : Hid (Box ((W'.setCell ⟨ba, 0, none⟩ (.slice none 0 0)).setCell ⟨bx, 0, none⟩ (.int .i64 0)).drew 24 ba #[.slice none 0 0]) := Lib.hid ((A7.out.set 0 (by simp) _).other n1 _)
  have X4 : Hid (Box ((W'.setCell ⟨ba, 0, none⟩ (.slice none 0 0)).setCell ⟨bx, 0, none⟩ (.int .i64 0)).drew 28 bx #[.int .i64 0]) := Lib.hid ((X7.out.other n2 _).set 0 (by simp) _)
  have P4 : Hid (Box ((W'.setCell ⟨ba, 0, none⟩ (.slice none 0 0)).setCell ⟨bx, 0, none⟩ (.int .i64 0)).drew 60 bw #[.pointer (some ⟨b, 0, none⟩)]) := Lib.hid ((P7.out.other (Ne.symm d1) _).other (Ne.symm d3) _)
  have E4 : Hid (Box ((W'.setCell ⟨ba, 0, none⟩ (.slice none 0 0)).setCell ⟨bx, 0, none⟩ (.int .i64 0)).drew 28 be #[.int .i64 er]) := Lib.hid ((E7.out.other (Ne.symm d2) _).other d6 _)
  have W4 : Hid (Wk ((W'.setCell ⟨ba, 0, none⟩ (.slice none 0 0)).setCell ⟨bx, 0, none⟩ (.int .i64 0)).drew b bm base v2 l' 0) := Lib.hid (((W7.out.other (i := 0) A7.out (Ne.symm d4) (by decide) _).other (i := 0) (X7.out.other (i := 0) n2 _) (Ne.symm d5) (by decide) _).below (Below.refl _ _).drew)
  have B4 : Hid (Below w.heap.size w ((W'.setCell ⟨ba, 0, none⟩ (.slice none 0 0)).setCell ⟨bx, 0, none⟩ (.int .i64 0)).drew) := Lib.hid (((B7.out.setCell (p := ⟨ba, 0, none⟩) (by simp; omega) _).setCell (p := ⟨bx, 0, none⟩) (by simp; omega) _).drew)
  have K4 : Hid (KS [b, ba, bx, be] w2 ((W'.setCell ⟨ba, 0, none⟩ (.slice none 0 0)).setCell ⟨bx, 0, none⟩ (.int .i64 0)).drew) := Lib.hid (((K7.out.set ba 0 _ (by simp)).set bx 0 _ (by simp)).then (Below.refl _ _).drew)
  generalize ((W'.setCell ⟨ba, 0, none⟩ (.slice none 0 0)).setCell ⟨bx, 0, none⟩ (.int .i64 0)).drew = W8 at A4 X4 P4 E4 W4 B4 K4 ⊢
  go_wp2
  refine leaves_cons (f := 71) (args := #[.pointer (some ⟨be, 0, none⟩), .pointer (some ⟨bw, 0, none⟩), .pointer (some ⟨ba, 0, none⟩), .pointer (some ⟨bx, 0, none⟩)]) (by simp) (by simp [go_sem]) ?_
  refine (fin6I be bw ba bx b bm base v2 l' 0 er 0 _ .returning _ W4 E4 P4 A4 X4).mono ?_
  rintro en u' W6 ⟨rfl, rfl, hA6, hX6, hW6, hK6⟩
  obtain ⟨pa, pn, pk, hpv⟩ := plain_shape hW6
  have hT := tab_plain hW6 (l := l') (fun _ => rfl)
  rw [hpv, HLR.out] at hT
  rw [hpv] at hA6
  have g0 := hA6.cell 0
  have g1 := hX6.cell 0
  have hz4 := B4.out.size
  have hBW : w.heap.size ≤ W.heap.size := B3.out.size
  have hK9 := K4.out.trans (hK6.mono (l' := [b, ba, bx, be]) (by intro k hk; simp at hk ⊢; omega))
  have lA := A3.out.lt
  have lX := X3.out.lt
  have lE := E3.out.lt
  have lB := W3.out.box.lt
  refine ⟨.tuple #[.agg #[.slice pa pn pk], V, .int .i64 er], by simp [results, Try.results48, go_sem, g0, g1], _, _, base, W.heap.size, rfl, by omega, hBW, hT, ?_, ?_⟩
  · refine hRel.out _ _ _ _ HV.out hK9.size (fun k h1 h2 => hK9.block k h2 ?_)
    intro hm
    simp at hm
    omega
  · refine B4.out.trans (hK6.below ?_ hz4)
    intro k hk
    simp at hk
    omega
set_option maxRecDepth 100000 in
set_option maxHeartbeats 1000000 in
theorem work_okA (a : Option Addr) (cap c : Nat) (l l' lr : List ByteArray) (er : Int) (Rel : Nat → Value → World → Prop) (hRel : Hid (Stays Rel)) (w : World) (hn : l.length ≤ 9223372036854775807) (hz : Hid (∀ x ∈ l, x.size ≤ 9223372036854775807)) (hr : Hid (ReadsS w a l)) (H : Hid (chkT l = (0, 0)))
    (hC : Hid (Does 52 c Rel l l' er w)) (HLR : Hid ((if er = 0 then l' else []) = lr)) :
    Calls Try.prog 48 #[.agg #[.slice a l.length cap], .func (.func 52) #[] #[.pointer (some ⟨c, 0, none⟩)]] w (WorkOk Rel lr er w) := by
  have A1 := Lib.hid ((Box.new2 w (.cells #[.slice a l.length cap] 24) 24 #[.slice none 0 0]).alloc (.cells #[.int .i64 0] 28))
  have X1 := Lib.hid (Box.new3 w (.cells #[.slice a l.length cap] 24) (.cells #[.slice none 0 0] 24) 28 #[.int .i64 0])
  have B1 := Lib.hid (below3 w (.cells #[.slice a l.length cap] 24) (.cells #[.slice none 0 0] 24) (.cells #[.int .i64 0] 28))
  have P0 := Lib.hid (((Box.new w 24 #[.slice a l.length cap]).alloc (.cells #[.slice none 0 0] 24)).alloc (.cells #[.int .i64 0] 28))
  have HR1 := Lib.hid (hr.out.below B1.out)
  go_enter_defers Try.func48, Try.ntmps48
  go_wp2_with (go_at_call 42; refine (madeq_any a cap l 0 0 _ hn hz HR1 H).mono ?_; rintro e w1 ⟨b, bm, base, v, l1, rfl, hW, hl1, _, hb1, hb2, hb3, hb4, hB⟩; rw [hl1 rfl] at hW; have W1 := Lib.hid hW; have A2 := Lib.hid (A1.out.below hB); have X2 := Lib.hid (X1.out.below hB); have B2 := Lib.hid (below_then B1.out hB); have hb5 : w.heap.size + 3 ≤ b := (by simp at hb1; omega); have hb6 : w.heap.size + 3 ≤ bm := (by simp at hb2; omega); have hb7 : w.heap.size + 3 ≤ base := (by simp at hb3; omega); clear hW hl1 hb1 hb2 hb3 hB; have c2 := W1.out.box.cell 2; have lb := W1.out.box.lt)
  obtain ⟨W, hW⟩ : ∃ W, W = ((w1.alloc (.cells #[.pointer (some ⟨b, 0, none⟩)] 60)).alloc (.cells #[.int .i64 0] 28)) := ⟨_, rfl⟩
  rw [← hW]
  have K2 := below2 w1 (.cells #[.pointer (some ⟨b, 0, none⟩)] 60) (.cells #[.int .i64 0] 28)
  have W3 := Lib.hid (W1.out.below K2)
  have A3 := Lib.hid (A2.out.below K2)
  have X3 := Lib.hid (X2.out.below K2)
  have B3 := Lib.hid (below_then B2.out K2)
  have P3 := Lib.hid ((Box.new w1 60 #[.pointer (some ⟨b, 0, none⟩)]).alloc (.cells #[.int .i64 0] 28))
  have E3 := Lib.hid (Box.new2 w1 (.cells #[.pointer (some ⟨b, 0, none⟩)] 60) 28 #[.int .i64 0])
  rw [← hW] at W3 A3 X3 B3 P3 E3 K2
  have hb8 : base ≤ W.heap.size := Nat.le_trans hb4 K2.size
  have hs1 := X2.out.lt
  clear hW c2 lb W1 A2 X2 B2 A1 X1 B1 P0 K2 hb4
  have q1 : w.heap.size < w.heap.size + 1 := by omega
  have q2 : w.heap.size + 1 < w.heap.size + 1 + 1 := by omega
  have q3 : w.heap.size + 1 + 1 < w1.heap.size := hs1
  have q4 : w1.heap.size < w1.heap.size + 1 := by omega
  clear hs1
  have hDo := Lib.hid (hC.out W b bm base v B3.out W3.out hb8 (by omega) (by omega) (by omega))
  clear hb8
  generalize w1.heap.size + 1 = be at *
  generalize w1.heap.size = bw at *
  generalize w.heap.size + 1 + 1 = bx at *
  generalize w.heap.size + 1 = ba at *
  have n1 : ba ≠ bx := by omega
  have n2 : bx ≠ ba := by omega
  have d6 : be ≠ bx := by omega
  have p0 := P3.out.cell 0
  refine (hDo.out).mono ?_
  rintro e w2 ⟨V, v2, rfl, hV, hW2, hK2⟩
  have W5 := Lib.hid hW2
  have HV := Lib.hid hV
  have A5 := Lib.hid (hK2.keep A3.out W3.out (by decide) (by decide))
  have X5 := Lib.hid (hK2.keep X3.out W3.out (by decide) (by decide))
  have P5 := Lib.hid (hK2.keep P3.out W3.out (by decide) (by decide))
  have E5 := Lib.hid (hK2.keep E3.out W3.out (by decide) (by decide))
  have hsz := hK2.size
  have B5 := Lib.hid (B3.out.trans (hK2.below (B := w.heap.size) (by omega) (by omega) (by omega) B3.out.size))
  clear hW2 hV hK2 p0
  have e0 := E5.out.cell 0
  have e1 := E5.out.free 0
  have e2 := E5.out.lt
  go_wp2
  have n3 : ba ≠ be := by omega
  have n4 : bx ≠ be := by omega
  have n5 : bw ≠ be := by omega
  have n6 : b ≠ be := Ne.symm (Box.ne E5.out W5.out.box (by decide))
  have W7 := Lib.hid (W5.out.other (i := 0) E5.out n6 (by decide) (.int .i64 er))
  have A7 := Lib.hid (A5.out.other (b' := be) (i := 0) n3 (.int .i64 er))
  have X7 := Lib.hid (X5.out.other (b' := be) (i := 0) n4 (.int .i64 er))
  have P7 := Lib.hid (P5.out.other (b' := be) (i := 0) n5 (.int .i64 er))
  have E7 : Hid (Box (w2.setCell ⟨be, 0, none⟩ (.int .i64 er)) 28 be #[.int .i64 er]) := Lib.hid (E5.out.set 0 (by simp) (.int .i64 er))
  have B7 := Lib.hid (B5.out.setCell (p := ⟨be, 0, none⟩) (by simp; omega) (.int .i64 er))
  have K7 := Lib.hid ((KS.refl [b, ba, bx, be] w2).set be 0 (.int .i64 er) (by simp))
  clear e0 e1 e2
  generalize w2.setCell ⟨be, 0, none⟩ (.int .i64 er) = W' at W7 A7 X7 P7 E7 B7 K7 ⊢
  have c0 := A7.out.cell 0
  have c1 := X7.out.cell 0
  have f0 := A7.out.free 0
  have f1 := X7.out.free 0
  have la := A7.out.lt
  have lx := X7.out.lt
  go_region
  have d1 := Box.ne A7.out P7.out (by decide)
  have d2 := Box.ne A7.out E7.out (by decide)
  have d3 := Box.ne X7.out P7.out (by decide)
  have d4 := Box.ne A7.out W7.out.box (by decide)
  have d5 := Box.ne X7.out W7.out.box (by decide)
  have A4 : Hid (Box ((W'.setCell ⟨ba, 0, none⟩ (.slice none 0 0)).setCell ⟨bx, 0, none⟩ (.int .i64 0)).drew 24 ba #[.slice none 0 0]) := Lib.hid ((A7.out.set 0 (by simp) _).other n1 _)
  have X4 : Hid (Box ((W'.setCell ⟨ba, 0, none⟩ (.slice none 0 0)).setCell ⟨bx, 0, none⟩ (.int .i64 0)).drew 28 bx #[.int .i64 0]) := Lib.hid ((X7.out.other n2 _).set 0 (by simp) _)
  have P4 : Hid (Box ((W'.setCell ⟨ba, 0, none⟩ (.slice none 0 0)).setCell ⟨bx, 0, none⟩ (.int .i64 0)).drew 60 bw #[.pointer (some ⟨b, 0, none⟩)]) := Lib.hid ((P7.out.other (Ne.symm d1) _).other (Ne.symm d3) _)
  have E4 : Hid (Box ((W'.setCell ⟨ba, 0, none⟩ (.slice none 0 0)).setCell ⟨bx, 0, none⟩ (.int .i64 0)).drew 28 be #[.int .i64 er]) := Lib.hid ((E7.out.other (Ne.symm d2) _).other d6 _)
  have W4 : Hid (Wk ((W'.setCell ⟨ba, 0, none⟩ (.slice none 0 0)).setCell ⟨bx, 0, none⟩ (.int .i64 0)).drew b bm base v2 l' 0) := Lib.hid (((W7.out.other (i := 0) A7.out (Ne.symm d4) (by decide) _).other (i := 0) (X7.out.other (i := 0) n2 _) (Ne.symm d5) (by decide) _).below (Below.refl _ _).drew)
  have B4 : Hid (Below w.heap.size w ((W'.setCell ⟨ba, 0, none⟩ (.slice none 0 0)).setCell ⟨bx, 0, none⟩ (.int .i64 0)).drew) := Lib.hid (((B7.out.setCell (p := ⟨ba, 0, none⟩) (by simp; omega) _).setCell (p := ⟨bx, 0, none⟩) (by simp; omega) _).drew)
  have K4 : Hid (KS [b, ba, bx, be] w2 ((W'.setCell ⟨ba, 0, none⟩ (.slice none 0 0)).setCell ⟨bx, 0, none⟩ (.int .i64 0)).drew) := Lib.hid (((K7.out.set ba 0 _ (by simp)).set bx 0 _ (by simp)).then (Below.refl _ _).drew)
  generalize ((W'.setCell ⟨ba, 0, none⟩ (.slice none 0 0)).setCell ⟨bx, 0, none⟩ (.int .i64 0)).drew = W8 at A4 X4 P4 E4 W4 B4 K4 ⊢
  go_wp2
  refine leaves_cons (f := 71) (args := #[.pointer (some ⟨be, 0, none⟩), .pointer (some ⟨bw, 0, none⟩), .pointer (some ⟨ba, 0, none⟩), .pointer (some ⟨bx, 0, none⟩)]) (by simp) (by simp [go_sem]) ?_
  refine (fin6I be bw ba bx b bm base v2 l' 0 er 0 _ .returning _ W4 E4 P4 A4 X4).mono ?_
  rintro en u' W6 ⟨rfl, rfl, hA6, hX6, hW6, hK6⟩
  obtain ⟨pa, pn, pk, hpv⟩ := plain_shape hW6
  have hT := tab_plain hW6 (l := l') (fun _ => rfl)
  rw [hpv, HLR.out] at hT
  rw [hpv] at hA6
  have g0 := hA6.cell 0
  have g1 := hX6.cell 0
  have hz4 := B4.out.size
  have hBW : w.heap.size ≤ W.heap.size := B3.out.size
  have hK9 := K4.out.trans (hK6.mono (l' := [b, ba, bx, be]) (by intro k hk; simp at hk ⊢; omega))
  have lA := A3.out.lt
  have lX := X3.out.lt
  have lE := E3.out.lt
  have lB := W3.out.box.lt
  refine ⟨.tuple #[.agg #[.slice pa pn pk], V, .int .i64 er], by simp [results, Try.results48, go_sem, g0, g1], _, _, base, W.heap.size, rfl, by omega, hBW, hT, ?_, ?_⟩
  · refine hRel.out _ _ _ _ HV.out hK9.size (fun k h1 h2 => hK9.block k h2 ?_)
    intro hm
    simp at hm
    omega
  · refine B4.out.trans (hK6.below ?_ hz4)
    intro k hk
    simp at hk
    omega
set_option maxRecDepth 100000 in
set_option maxHeartbeats 1000000 in
theorem work_okF (a : Option Addr) (cap c : Nat) (l l' lr : List ByteArray) (er : Int) (Rel : Nat → Value → World → Prop) (hRel : Hid (Stays Rel)) (w : World) (hn : l.length ≤ 9223372036854775807) (hz : Hid (∀ x ∈ l, x.size ≤ 9223372036854775807)) (hr : Hid (ReadsS w a l)) (H : Hid (chkT l = (0, 0)))
    (hC : Hid (Does 54 c Rel l l' er w)) (HLR : Hid ((if er = 0 then l' else []) = lr)) :
    Calls Try.prog 48 #[.agg #[.slice a l.length cap], .func (.func 54) #[] #[.pointer (some ⟨c, 0, none⟩)]] w (WorkOk Rel lr er w) := by
  have A1 := Lib.hid ((Box.new2 w (.cells #[.slice a l.length cap] 24) 24 #[.slice none 0 0]).alloc (.cells #[.int .i64 0] 28))
  have X1 := Lib.hid (Box.new3 w (.cells #[.slice a l.length cap] 24) (.cells #[.slice none 0 0] 24) 28 #[.int .i64 0])
  have B1 := Lib.hid (below3 w (.cells #[.slice a l.length cap] 24) (.cells #[.slice none 0 0] 24) (.cells #[.int .i64 0] 28))
  have P0 := Lib.hid (((Box.new w 24 #[.slice a l.length cap]).alloc (.cells #[.slice none 0 0] 24)).alloc (.cells #[.int .i64 0] 28))
  have HR1 := Lib.hid (hr.out.below B1.out)
  go_enter_defers Try.func48, Try.ntmps48
  go_wp2_with (go_at_call 42; refine (madeq_any a cap l 0 0 _ hn hz HR1 H).mono ?_; rintro e w1 ⟨b, bm, base, v, l1, rfl, hW, hl1, _, hb1, hb2, hb3, hb4, hB⟩; rw [hl1 rfl] at hW; have W1 := Lib.hid hW; have A2 := Lib.hid (A1.out.below hB); have X2 := Lib.hid (X1.out.below hB); have B2 := Lib.hid (below_then B1.out hB); have hb5 : w.heap.size + 3 ≤ b := (by simp at hb1; omega); have hb6 : w.heap.size + 3 ≤ bm := (by simp at hb2; omega); have hb7 : w.heap.size + 3 ≤ base := (by simp at hb3; omega); clear hW hl1 hb1 hb2 hb3 hB; have c2 := W1.out.box.cell 2; have lb := W1.out.box.lt)
  obtain ⟨W, hW⟩ : ∃ W, W = ((w1.alloc (.cells #[.pointer (some ⟨b, 0, none⟩)] 60)).alloc (.cells #[.int .i64 0] 28)) := ⟨_, rfl⟩
  rw [← hW]
  have K2 := below2 w1 (.cells #[.pointer (some ⟨b, 0, none⟩)] 60) (.cells #[.int .i64 0] 28)
  have W3 := Lib.hid (W1.out.below K2)
  have A3 := Lib.hid (A2.out.below K2)
  have X3 := Lib.hid (X2.out.below K2)
  have B3 := Lib.hid (below_then B2.out K2)
  have P3 := Lib.hid ((Box.new w1 60 #[.pointer (some ⟨b, 0, none⟩)]).alloc (.cells #[.int .i64 0] 28))
  have E3 := Lib.hid (Box.new2 w1 (.cells #[.pointer (some ⟨b, 0, none⟩)] 60) 28 #[.int .i64 0])
  rw [← hW] at W3 A3 X3 B3 P3 E3 K2
  have hb8 : base ≤ W.heap.size := Nat.le_trans hb4 K2.size
  have hs1 := X2.out.lt
  clear hW c2 lb W1 A2 X2 B2 A1 X1 B1 P0 K2 hb4
  have q1 : w.heap.size < w.heap.size + 1 := by omega
  have q2 : w.heap.size + 1 < w.heap.size + 1 + 1 := by omega
  have q3 : w.heap.size + 1 + 1 < w1.heap.size := hs1
  have q4 : w1.heap.size < w1.heap.size + 1 := by omega
  clear hs1
  have hDo := Lib.hid (hC.out W b bm base v B3.out W3.out hb8 (by omega) (by omega) (by omega))
  clear hb8
  generalize w1.heap.size + 1 = be at *
  generalize w1.heap.size = bw at *
  generalize w.heap.size + 1 + 1 = bx at *
  generalize w.heap.size + 1 = ba at *
  have n1 : ba ≠ bx := by omega
  have n2 : bx ≠ ba := by omega
  have d6 : be ≠ bx := by omega
  have p0 := P3.out.cell 0
  refine (hDo.out).mono ?_
  rintro e w2 ⟨V, v2, rfl, hV, hW2, hK2⟩
  have W5 := Lib.hid hW2
  have HV := Lib.hid hV
  have A5 := Lib.hid (hK2.keep A3.out W3.out (by decide) (by decide))
  have X5 := Lib.hid (hK2.keep X3.out W3.out (by decide) (by decide))
  have P5 := Lib.hid (hK2.keep P3.out W3.out (by decide) (by decide))
  have E5 := Lib.hid (hK2.keep E3.out W3.out (by decide) (by decide))
  have hsz := hK2.size
  have B5 := Lib.hid (B3.out.trans (hK2.below (B := w.heap.size) (by omega) (by omega) (by omega) B3.out.size))
  clear hW2 hV hK2 p0
  have e0 := E5.out.cell 0
  have e1 := E5.out.free 0
  have e2 := E5.out.lt
  go_wp2
  have n3 : ba ≠ be := by omega
  have n4 : bx ≠ be := by omega
  have n5 : bw ≠ be := by omega
  have n6 : b ≠ be := Ne.symm (Box.ne E5.out W5.out.box (by decide))
  have W7 := Lib.hid (W5.out.other (i := 0) E5.out n6 (by decide) (.int .i64 er))
  have A7 := Lib.hid (A5.out.other (b' := be) (i := 0) n3 (.int .i64 er))
  have X7 := Lib.hid (X5.out.other (b' := be) (i := 0) n4 (.int .i64 er))
  have P7 := Lib.hid (P5.out.other (b' := be) (i := 0) n5 (.int .i64 er))
  have E7 : Hid (Box (w2.setCell ⟨be, 0, none⟩ (.int .i64 er)) 28 be #[.int .i64 er]) := Lib.hid (E5.out.set 0 (by simp) (.int .i64 er))
  have B7 := Lib.hid (B5.out.setCell (p := ⟨be, 0, none⟩) (by simp; omega) (.int .i64 er))
  have K7 := Lib.hid ((KS.refl [b, ba, bx, be] w2).set be 0 (.int .i64 er) (by simp))
  clear e0 e1 e2
  generalize w2.setCell ⟨be, 0, none⟩ (.int .i64 er) = W' at W7 A7 X7 P7 E7 B7 K7 ⊢
  have c0 := A7.out.cell 0
  have c1 := X7.out.cell 0
  have f0 := A7.out.free 0
  have f1 := X7.out.free 0
  have la := A7.out.lt
  have lx := X7.out.lt
  go_region
  have d1 := Box.ne A7.out P7.out (by decide)
  have d2 := Box.ne A7.out E7.out (by decide)
  have d3 := Box.ne X7.out P7.out (by decide)
  have d4 := Box.ne A7.out W7.out.box (by decide)
  have d5 := Box.ne X7.out W7.out.box (by decide)
  have A4 : Hid (Box ((W'.setCell ⟨ba, 0, none⟩ (.slice none 0 0)).setCell ⟨bx, 0, none⟩ (.int .i64 0)).drew 24 ba #[.slice none 0 0]) := Lib.hid ((A7.out.set 0 (by simp) _).other n1 _)
  have X4 : Hid (Box ((W'.setCell ⟨ba, 0, none⟩ (.slice none 0 0)).setCell ⟨bx, 0, none⟩ (.int .i64 0)).drew 28 bx #[.int .i64 0]) := Lib.hid ((X7.out.other n2 _).set 0 (by simp) _)
  have P4 : Hid (Box ((W'.setCell ⟨ba, 0, none⟩ (.slice none 0 0)).setCell ⟨bx, 0, none⟩ (.int .i64 0)).drew 60 bw #[.pointer (some ⟨b, 0, none⟩)]) := Lib.hid ((P7.out.other (Ne.symm d1) _).other (Ne.symm d3) _)
  have E4 : Hid (Box ((W'.setCell ⟨ba, 0, none⟩ (.slice none 0 0)).setCell ⟨bx, 0, none⟩ (.int .i64 0)).drew 28 be #[.int .i64 er]) := Lib.hid ((E7.out.other (Ne.symm d2) _).other d6 _)
  have W4 : Hid (Wk ((W'.setCell ⟨ba, 0, none⟩ (.slice none 0 0)).setCell ⟨bx, 0, none⟩ (.int .i64 0)).drew b bm base v2 l' 0) := Lib.hid (((W7.out.other (i := 0) A7.out (Ne.symm d4) (by decide) _).other (i := 0) (X7.out.other (i := 0) n2 _) (Ne.symm d5) (by decide) _).below (Below.refl _ _).drew)
  have B4 : Hid (Below w.heap.size w ((W'.setCell ⟨ba, 0, none⟩ (.slice none 0 0)).setCell ⟨bx, 0, none⟩ (.int .i64 0)).drew) := Lib.hid (((B7.out.setCell (p := ⟨ba, 0, none⟩) (by simp; omega) _).setCell (p := ⟨bx, 0, none⟩) (by simp; omega) _).drew)
  have K4 : Hid (KS [b, ba, bx, be] w2 ((W'.setCell ⟨ba, 0, none⟩ (.slice none 0 0)).setCell ⟨bx, 0, none⟩ (.int .i64 0)).drew) := Lib.hid (((K7.out.set ba 0 _ (by simp)).set bx 0 _ (by simp)).then (Below.refl _ _).drew)
  generalize ((W'.setCell ⟨ba, 0, none⟩ (.slice none 0 0)).setCell ⟨bx, 0, none⟩ (.int .i64 0)).drew = W8 at A4 X4 P4 E4 W4 B4 K4 ⊢
  go_wp2
  refine leaves_cons (f := 71) (args := #[.pointer (some ⟨be, 0, none⟩), .pointer (some ⟨bw, 0, none⟩), .pointer (some ⟨ba, 0, none⟩), .pointer (some ⟨bx, 0, none⟩)]) (by simp) (by simp [go_sem]) ?_
  refine (fin6I be bw ba bx b bm base v2 l' 0 er 0 _ .returning _ W4 E4 P4 A4 X4).mono ?_
  rintro en u' W6 ⟨rfl, rfl, hA6, hX6, hW6, hK6⟩
  obtain ⟨pa, pn, pk, hpv⟩ := plain_shape hW6
  have hT := tab_plain hW6 (l := l') (fun _ => rfl)
  rw [hpv, HLR.out] at hT
  rw [hpv] at hA6
  have g0 := hA6.cell 0
  have g1 := hX6.cell 0
  have hz4 := B4.out.size
  have hBW : w.heap.size ≤ W.heap.size := B3.out.size
  have hK9 := K4.out.trans (hK6.mono (l' := [b, ba, bx, be]) (by intro k hk; simp at hk ⊢; omega))
  have lA := A3.out.lt
  have lX := X3.out.lt
  have lE := E3.out.lt
  have lB := W3.out.box.lt
  refine ⟨.tuple #[.agg #[.slice pa pn pk], V, .int .i64 er], by simp [results, Try.results48, go_sem, g0, g1], _, _, base, W.heap.size, rfl, by omega, hBW, hT, ?_, ?_⟩
  · refine hRel.out _ _ _ _ HV.out hK9.size (fun k h1 h2 => hK9.block k h2 ?_)
    intro hm
    simp at hm
    omega
  · refine B4.out.trans (hK6.below ?_ hz4)
    intro k hk
    simp at hk
    omega
end Go.Proofs.Ytndghjfgjkjbdaa.s06
