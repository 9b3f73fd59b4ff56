/-
  Layer 6, the program's side: work at tables.
-/
import Derived.Test.YtndghjfgjkjbdaaS06R
namespace Go.Proofs.Ytndghjfgjkjbdaa.s06
set_option linter.unusedVariables false
set_option linter.unusedSimpArgs false
open Go.RowKit Go.WideMaps Go.Maps
open kit

theorem Box.new4 (w : World) (o o' o2 : Obj) (t : TypeId) (xs : Array Value) : Box ((((w.alloc o).alloc o').alloc o2).alloc (.cells xs t)) t (w.heap.size + 1 + 1 + 1) xs := by simpa using Box.new (((w.alloc o).alloc o').alloc o2) t xs
theorem below4 (w : World) (o1 o2 o3 o4 : Obj) : Below w.heap.size w ((((w.alloc o1).alloc o2).alloc o3).alloc o4) := ((((Below.refl _ _).alloc (Nat.le_refl _) _).alloc (by simp) _).alloc (by simp; omega) _).alloc (by simp; omega) _
def TabR (lk : List ByteArray) (B : Nat) (V : Value) (W : World) : Prop := TabO lk B V W
theorem tabR_stays (lk : List ByteArray) : Stays (TabR lk) := by
  rintro B V W W' ⟨v, rfl, hr⟩ hs hk
  refine ⟨v, rfl, hr.1, ?_⟩
  rcases hr.2 with h | ⟨g, cap, cur, rfl, hb, hgb, rest⟩
  · exact .inl h
  · exact .inr ⟨g, cap, cur, rfl, hb, (hk g hb (Array.getElem?_eq_some_iff.1 hgb).1).trans hgb, rest⟩
set_option maxRecDepth 100000 in
set_option maxHeartbeats 1000000 in
theorem work_badT (a : Option Addr) (cap : Nat) (l : List ByteArray) (er p : Int) (fv : Value) (w : World) (hn : l.length ≤ 9223372036854775807) (hz : Hid (∀ x ∈ l, x.size ≤ 9223372036854775807)) (hr : Hid (ReadsS w a l)) (H : Hid (chkT l = (er, p))) (he : er ≠ 0) :
    Calls Try.prog 62 #[.agg #[.slice a l.length cap], fv] w fun e w' => e = .returned (.tuple #[.agg #[.slice none 0 0], .agg #[.slice none 0 0], .int .i64 er]) ∧ Below w.heap.size w w' := by
  have A1 := Lib.hid (((Box.new2 w (.cells #[.slice a l.length cap] 24) 24 #[.slice none 0 0]).alloc (.cells #[.slice none 0 0] 24)).alloc (.cells #[.int .i64 0] 28))
  have G1 := Lib.hid ((Box.new3 w (.cells #[.slice a l.length cap] 24) (.cells #[.slice none 0 0] 24) 24 #[.slice none 0 0]).alloc (.cells #[.int .i64 0] 28))
  have X1 := Lib.hid (Box.new4 w (.cells #[.slice a l.length cap] 24) (.cells #[.slice none 0 0] 24) (.cells #[.slice none 0 0] 24) 28 #[.int .i64 0])
  have B1 := Lib.hid (below4 w (.cells #[.slice a l.length cap] 24) (.cells #[.slice none 0 0] 24) (.cells #[.slice none 0 0] 24) (.cells #[.int .i64 0] 28))
  have P0 := Lib.hid ((((Box.new w 24 #[.slice a l.length cap]).alloc (.cells #[.slice none 0 0] 24)).alloc (.cells #[.slice none 0 0] 24)).alloc (.cells #[.int .i64 0] 28))
  have HR1 := Lib.hid (hr.out.below B1.out)
  go_enter_defers Try.func62, Try.ntmps62
  go_wp2_with (go_at_call 42; refine (madeq_any a cap l er p _ hn hz HR1 H).mono ?_; rintro e w1 ⟨b, bm, base, v, l1, rfl, hW, hl1, _, hb1, hb2, hb3, hb4, hB⟩; have W1 := Lib.hid hW; have A2 := Lib.hid (A1.out.below hB); have G2 := Lib.hid (G1.out.below hB); have X2 := Lib.hid (X1.out.below hB); have B2 := Lib.hid (below_then B1.out hB); have hb5 : w.heap.size + 4 ≤ b := (by simp at hb1; omega); clear hW hl1 hb1 hb2 hb3 hb4 hB; have c2 := W1.out.box.cell 2; have lb := W1.out.box.lt)
  obtain ⟨W, hW⟩ : ∃ W, W = ((w1.alloc (.cells #[.pointer (some ⟨b, 0, none⟩)] 60)).alloc (.cells #[.int .i64 er] 28)) := ⟨_, rfl⟩
  rw [← hW]
  have W3 := Lib.hid ((W1.out.below (below2 w1 (.cells #[.pointer (some ⟨b, 0, none⟩)] 60) (.cells #[.int .i64 er] 28))))
  have G3 := Lib.hid ((G2.out.below (below2 w1 (.cells #[.pointer (some ⟨b, 0, none⟩)] 60) (.cells #[.int .i64 er] 28))))
  have A3 := Lib.hid ((A2.out.below (below2 w1 (.cells #[.pointer (some ⟨b, 0, none⟩)] 60) (.cells #[.int .i64 er] 28))))
  have X3 := Lib.hid ((X2.out.below (below2 w1 (.cells #[.pointer (some ⟨b, 0, none⟩)] 60) (.cells #[.int .i64 er] 28))))
  have B3 := Lib.hid (below_then B2.out (below2 w1 (.cells #[.pointer (some ⟨b, 0, none⟩)] 60) (.cells #[.int .i64 er] 28)))
  have P3 := Lib.hid ((Box.new w1 60 #[.pointer (some ⟨b, 0, none⟩)]).alloc (.cells #[.int .i64 er] 28))
  have E3 := Lib.hid (Box.new2 w1 (.cells #[.pointer (some ⟨b, 0, none⟩)] 60) 28 #[.int .i64 er])
  rw [← hW] at W3 A3 G3 X3 B3 P3 E3
  have hs1 := X2.out.lt
  clear hW c2 lb W1 A2 G2 X2 B2 A1 G1 X1 B1 P0
  have q1 : w.heap.size < w.heap.size + 1 := by omega
  have q2 : w.heap.size + 1 < w.heap.size + 1 + 1 := by omega
  have q5 : w.heap.size + 1 + 1 < w.heap.size + 1 + 1 + 1 := by omega
  have q3 : w.heap.size + 1 + 1 + 1 < w1.heap.size := hs1
  have q4 : w1.heap.size < w1.heap.size + 1 := by omega
  clear hs1
  generalize w1.heap.size + 1 = be at *
  generalize w1.heap.size = bw at *
  generalize w.heap.size + 1 + 1 + 1 = bx at *
  generalize w.heap.size + 1 + 1 = bg at *
  generalize w.heap.size + 1 = ba at *
  have c0 := A3.out.cell 0
  have c1 := X3.out.cell 0
  have c9 := G3.out.cell 0
  have f9 := G3.out.free 0
  have l9 := G3.out.lt
  have f0 := A3.out.free 0
  have f1 := X3.out.free 0
  have la := A3.out.lt
  have lx := X3.out.lt
  have n1 : ba ≠ bx := by omega
  have n2 : bx ≠ ba := by omega
  have m1 : ba ≠ bg := by omega
  have m2 : bg ≠ ba := by omega
  have m3 : bx ≠ bg := by omega
  have m4 : bg ≠ bx := by omega
  go_region
  have d1 := Box.ne A3.out P3.out (by decide)
  have d2 := Box.ne A3.out E3.out (by decide)
  have d3 := Box.ne X3.out P3.out (by decide)
  have d4 := Box.ne A3.out W3.out.box (by decide)
  have d5 := Box.ne X3.out W3.out.box (by decide)
  have d6 : be ≠ bx := by omega
  have A4 : Hid (Box (((W.setCell ⟨ba, 0, none⟩ (.slice none 0 0)).setCell ⟨bg, 0, none⟩ (.slice none 0 0)).setCell ⟨bx, 0, none⟩ (.int .i64 0)).drew 24 ba #[.slice none 0 0]) := Lib.hid (((A3.out.set 0 (by simp) _).other m1 _).other n1 _)
  have X4 : Hid (Box (((W.setCell ⟨ba, 0, none⟩ (.slice none 0 0)).setCell ⟨bg, 0, none⟩ (.slice none 0 0)).setCell ⟨bx, 0, none⟩ (.int .i64 0)).drew 28 bx #[.int .i64 0]) := Lib.hid (((X3.out.other n2 _).other m3 _).set 0 (by simp) _)
  have P4 : Hid (Box (((W.setCell ⟨ba, 0, none⟩ (.slice none 0 0)).setCell ⟨bg, 0, none⟩ (.slice none 0 0)).setCell ⟨bx, 0, none⟩ (.int .i64 0)).drew 60 bw #[.pointer (some ⟨b, 0, none⟩)]) := Lib.hid (((P3.out.other (Ne.symm d1) _).other (Box.ne P3.out G3.out (by decide)) _).other (Ne.symm d3) _)
  have E4 : Hid (Box (((W.setCell ⟨ba, 0, none⟩ (.slice none 0 0)).setCell ⟨bg, 0, none⟩ (.slice none 0 0)).setCell ⟨bx, 0, none⟩ (.int .i64 0)).drew 28 be #[.int .i64 er]) := Lib.hid (((E3.out.other (Ne.symm d2) _).other (Box.ne E3.out G3.out (by decide)) _).other d6 _)
  have W4 : Hid (Wk (((W.setCell ⟨ba, 0, none⟩ (.slice none 0 0)).setCell ⟨bg, 0, none⟩ (.slice none 0 0)).setCell ⟨bx, 0, none⟩ (.int .i64 0)).drew b bm base v l1 er) := Lib.hid ((((W3.out.other (i := 0) A3.out (Ne.symm d4) (by decide) _).other (i := 0) (G3.out.other (i := 0) m2 _) (Box.ne W3.out.box G3.out (by decide)) (by decide) _).other (i := 0) ((X3.out.other (i := 0) n2 _).other (i := 0) m3 _) (Ne.symm d5) (by decide) _).below (Below.refl _ _).drew)
  have B4 : Hid (Below w.heap.size w (((W.setCell ⟨ba, 0, none⟩ (.slice none 0 0)).setCell ⟨bg, 0, none⟩ (.slice none 0 0)).setCell ⟨bx, 0, none⟩ (.int .i64 0)).drew) := Lib.hid ((((B3.out.setCell (p := ⟨ba, 0, none⟩) (by simp; omega) _).setCell (p := ⟨bg, 0, none⟩) (by simp; omega) _).setCell (p := ⟨bx, 0, none⟩) (by simp; omega) _).drew)
  have G4 : Hid (Box (((W.setCell ⟨ba, 0, none⟩ (.slice none 0 0)).setCell ⟨bg, 0, none⟩ (.slice none 0 0)).setCell ⟨bx, 0, none⟩ (.int .i64 0)).drew 24 bg #[.slice none 0 0]) := Lib.hid (((G3.out.other m2 _).set 0 (by simp) _).other m4 _)
  generalize (((W.setCell ⟨ba, 0, none⟩ (.slice none 0 0)).setCell ⟨bg, 0, none⟩ (.slice none 0 0)).setCell ⟨bx, 0, none⟩ (.int .i64 0)).drew = W5 at A4 G4 X4 P4 E4 W4 B4 ⊢
  go_wp2
  refine leaves_cons (f := 74) (args := #[.pointer (some ⟨be, 0, none⟩), .pointer (some ⟨bw, 0, none⟩), .pointer (some ⟨ba, 0, none⟩), .pointer (some ⟨bx, 0, none⟩)]) (by simp) (by simp [go_sem]) ?_
  refine (fin6T be bw ba bx b bm base v l1 er er 0 _ .returning _ W4 E4 P4 A4 X4).mono ?_
  rintro en u' W6 ⟨rfl, rfl, hA6, hX6, hW6, hK6⟩
  have hG6 : Box W6 24 bg #[.slice none 0 0] := (hK6.block bg G4.out.lt (by simp; exact ⟨Ne.symm (Box.ne W4.out.box G4.out (by decide)), m2, m4⟩)).trans G4.out
  have g9 := hG6.cell 0
  have g0 := hA6.cell 0
  have g1 := hX6.cell 0
  have hpl : plainV v er = .slice none 0 0 := if_neg he
  rw [hpl] at g0
  refine ⟨.tuple #[.agg #[.slice none 0 0], .agg #[.slice none 0 0], .int .i64 er], by simp [results, Try.results62, go_sem, g0, g1, g9], rfl, ?_⟩
  have hz4 := B4.out.size
  refine B4.out.trans (hK6.below ?_ hz4)
  intro k hk
  simp at hk
  omega
set_option maxRecDepth 100000 in
set_option maxHeartbeats 1000000 in
theorem work_okK (a : Option Addr) (cap c : Nat) (l l' lr : List ByteArray) (er : Int) (lk : List ByteArray) (w : World) (hn : l.length ≤ 9223372036854775807) (hz : Hid (∀ x ∈ l, x.size ≤ 9223372036854775807)) (hr : Hid (ReadsS w a l)) (H : Hid (chkT l = (0, 0)))
    (hC : Hid (Does 63 c (TabR lk) l l' er w)) (HLR : Hid ((if er = 0 then l' else []) = lr)) :
    Calls Try.prog 62 #[.agg #[.slice a l.length cap], .func (.func 63) #[] #[.pointer (some ⟨c, 0, none⟩)]] w (WorkOk (TabR lk) lr er w) := by
  have A1 := Lib.hid (((Box.new2 w (.cells #[.slice a l.length cap] 24) 24 #[.slice none 0 0]).alloc (.cells #[.slice none 0 0] 24)).alloc (.cells #[.int .i64 0] 28))
  have G1 := Lib.hid ((Box.new3 w (.cells #[.slice a l.length cap] 24) (.cells #[.slice none 0 0] 24) 24 #[.slice none 0 0]).alloc (.cells #[.int .i64 0] 28))
  have X1 := Lib.hid (Box.new4 w (.cells #[.slice a l.length cap] 24) (.cells #[.slice none 0 0] 24) (.cells #[.slice none 0 0] 24) 28 #[.int .i64 0])
  have B1 := Lib.hid (below4 w (.cells #[.slice a l.length cap] 24) (.cells #[.slice none 0 0] 24) (.cells #[.slice none 0 0] 24) (.cells #[.int .i64 0] 28))
  have P0 := Lib.hid ((((Box.new w 24 #[.slice a l.length cap]).alloc (.cells #[.slice none 0 0] 24)).alloc (.cells #[.slice none 0 0] 24)).alloc (.cells #[.int .i64 0] 28))
  have HR1 := Lib.hid (hr.out.below B1.out)
  go_enter_defers Try.func62, Try.ntmps62
  go_wp2_with (go_at_call 42; refine (madeq_any a cap l 0 0 _ hn hz HR1 H).mono ?_; rintro e w1 ⟨b, bm, base, v, l1, rfl, hW, hl1, _, hb1, hb2, hb3, hb4, hB⟩; rw [hl1 rfl] at hW; have W1 := Lib.hid hW; have A2 := Lib.hid (A1.out.below hB); have G2 := Lib.hid (G1.out.below hB); have X2 := Lib.hid (X1.out.below hB); have B2 := Lib.hid (below_then B1.out hB); have hb5 : w.heap.size + 4 ≤ b := (by simp at hb1; omega); have hb6 : w.heap.size + 4 ≤ bm := (by simp at hb2; omega); have hb7 : w.heap.size + 4 ≤ base := (by simp at hb3; omega); clear hW hl1 hb1 hb2 hb3 hB; have c2 := W1.out.box.cell 2; have lb := W1.out.box.lt)
  obtain ⟨W, hW⟩ : ∃ W, W = ((w1.alloc (.cells #[.pointer (some ⟨b, 0, none⟩)] 60)).alloc (.cells #[.int .i64 0] 28)) := ⟨_, rfl⟩
  rw [← hW]
  have K2 := below2 w1 (.cells #[.pointer (some ⟨b, 0, none⟩)] 60) (.cells #[.int .i64 0] 28)
  have W3 := Lib.hid (W1.out.below K2)
  have A3 := Lib.hid (A2.out.below K2)
  have G3 := Lib.hid (G2.out.below K2)
  have X3 := Lib.hid (X2.out.below K2)
  have B3 := Lib.hid (below_then B2.out K2)
  have P3 := Lib.hid ((Box.new w1 60 #[.pointer (some ⟨b, 0, none⟩)]).alloc (.cells #[.int .i64 0] 28))
  have E3 := Lib.hid (Box.new2 w1 (.cells #[.pointer (some ⟨b, 0, none⟩)] 60) 28 #[.int .i64 0])
  rw [← hW] at W3 A3 G3 X3 B3 P3 E3 K2
  have hb8 : base ≤ W.heap.size := Nat.le_trans hb4 K2.size
  have hs1 := X2.out.lt
  clear hW c2 lb W1 A2 G2 X2 B2 A1 G1 X1 B1 P0 K2 hb4
  have q1 : w.heap.size < w.heap.size + 1 := by omega
  have q2 : w.heap.size + 1 < w.heap.size + 1 + 1 := by omega
  have q5 : w.heap.size + 1 + 1 < w.heap.size + 1 + 1 + 1 := by omega
  have q3 : w.heap.size + 1 + 1 + 1 < w1.heap.size := hs1
  have q4 : w1.heap.size < w1.heap.size + 1 := by omega
  clear hs1
  have hDo := Lib.hid (hC.out W b bm base v B3.out W3.out hb8 (by omega) (by omega) (by omega))
  clear hb8
  generalize w1.heap.size + 1 = be at *
  generalize w1.heap.size = bw at *
  generalize w.heap.size + 1 + 1 + 1 = bx at *
  generalize w.heap.size + 1 + 1 = bg at *
  generalize w.heap.size + 1 = ba at *
  have n1 : ba ≠ bx := by omega
  have n2 : bx ≠ ba := by omega
  have m1 : ba ≠ bg := by omega
  have m2 : bg ≠ ba := by omega
  have m3 : bx ≠ bg := by omega
  have m4 : bg ≠ bx := by omega
  have d6 : be ≠ bx := by omega
  have p0 := P3.out.cell 0
  refine (hDo.out).mono ?_
  rintro e w2 ⟨V, v2, rfl, hV, hW2, hK2⟩
  have W5 := Lib.hid hW2
  have HV := Lib.hid hV
  obtain ⟨vk, rfl, hrk⟩ := hV
  obtain ⟨ga, gk, rfl⟩ := row_shape hrk
  clear hrk
  have A5 := Lib.hid (hK2.keep A3.out W3.out (by decide) (by decide))
  have G5 := Lib.hid (hK2.keep G3.out W3.out (by decide) (by decide))
  have X5 := Lib.hid (hK2.keep X3.out W3.out (by decide) (by decide))
  have P5 := Lib.hid (hK2.keep P3.out W3.out (by decide) (by decide))
  have E5 := Lib.hid (hK2.keep E3.out W3.out (by decide) (by decide))
  have hsz := hK2.size
  have B5 := Lib.hid (B3.out.trans (hK2.below (B := w.heap.size) (by omega) (by omega) (by omega) B3.out.size))
  clear hW2 hK2 p0
  have h9 := G5.out.cell 0
  have h8 := G5.out.free 0
  have h7 := G5.out.lt
  have mg : bg ≠ be := by omega
  have mh : be ≠ bg := by omega
  have e0 := E5.out.cell 0
  have e1 := E5.out.free 0
  have e2 := E5.out.lt
  go_wp2
  have n3 : ba ≠ be := by omega
  have n4 : bx ≠ be := by omega
  have n5 : bw ≠ be := by omega
  have n6 : b ≠ be := Ne.symm (Box.ne E5.out W5.out.box (by decide))
  have W5' := W5.out.other (i := 0) G5.out (Box.ne W5.out.box G5.out (by decide)) (by decide) (.slice ga lk.length gk)
  have E5' := E5.out.other (b' := bg) (i := 0) mh (.slice ga lk.length gk)
  have W7 := Lib.hid (W5'.other (i := 0) E5' n6 (by decide) (.int .i64 er))
  have A7 := Lib.hid ((A5.out.other (b' := bg) (i := 0) m1 (.slice ga lk.length gk)).other (b' := be) (i := 0) n3 (.int .i64 er))
  have X7 := Lib.hid ((X5.out.other (b' := bg) (i := 0) m3 (.slice ga lk.length gk)).other (b' := be) (i := 0) n4 (.int .i64 er))
  have P7 := Lib.hid ((P5.out.other (b' := bg) (i := 0) (Box.ne P5.out G5.out (by decide)) (.slice ga lk.length gk)).other (b' := be) (i := 0) n5 (.int .i64 er))
  have G7 : Hid (Box ((w2.setCell ⟨bg, 0, none⟩ (.slice ga lk.length gk)).setCell ⟨be, 0, none⟩ (.int .i64 er)) 24 bg #[.slice ga lk.length gk]) := Lib.hid ((G5.out.set 0 (by simp) _).other mg _)
  have E7 : Hid (Box ((w2.setCell ⟨bg, 0, none⟩ (.slice ga lk.length gk)).setCell ⟨be, 0, none⟩ (.int .i64 er)) 28 be #[.int .i64 er]) := Lib.hid (E5'.set 0 (by simp) (.int .i64 er))
  have B7 := Lib.hid ((B5.out.setCell (p := ⟨bg, 0, none⟩) (by simp; omega) (.slice ga lk.length gk)).setCell (p := ⟨be, 0, none⟩) (by simp; omega) (.int .i64 er))
  have K7 := Lib.hid (((KS.refl [b, ba, bx, be, bg] w2).set bg 0 (.slice ga lk.length gk) (by simp)).set be 0 (.int .i64 er) (by simp))
  clear e0 e1 e2 h7 h8 h9
  generalize (w2.setCell ⟨bg, 0, none⟩ (.slice ga lk.length gk)).setCell ⟨be, 0, none⟩ (.int .i64 er) = W' at W7 A7 G7 X7 P7 E7 B7 K7 ⊢
  have c0 := A7.out.cell 0
  have c1 := X7.out.cell 0
  have c9 := G7.out.cell 0
  have f9 := G7.out.free 0
  have l9 := G7.out.lt
  have f0 := A7.out.free 0
  have f1 := X7.out.free 0
  have la := A7.out.lt
  have lx := X7.out.lt
  go_region
  have d1 := Box.ne A7.out P7.out (by decide)
  have d2 := Box.ne A7.out E7.out (by decide)
  have d3 := Box.ne X7.out P7.out (by decide)
  have d4 := Box.ne A7.out W7.out.box (by decide)
  have d5 := Box.ne X7.out W7.out.box (by decide)
  have A4 : Hid (Box (((W'.setCell ⟨ba, 0, none⟩ (.slice none 0 0)).setCell ⟨bg, 0, none⟩ (.slice ga lk.length gk)).setCell ⟨bx, 0, none⟩ (.int .i64 0)).drew 24 ba #[.slice none 0 0]) := Lib.hid (((A7.out.set 0 (by simp) _).other m1 _).other n1 _)
  have X4 : Hid (Box (((W'.setCell ⟨ba, 0, none⟩ (.slice none 0 0)).setCell ⟨bg, 0, none⟩ (.slice ga lk.length gk)).setCell ⟨bx, 0, none⟩ (.int .i64 0)).drew 28 bx #[.int .i64 0]) := Lib.hid (((X7.out.other n2 _).other m3 _).set 0 (by simp) _)
  have P4 : Hid (Box (((W'.setCell ⟨ba, 0, none⟩ (.slice none 0 0)).setCell ⟨bg, 0, none⟩ (.slice ga lk.length gk)).setCell ⟨bx, 0, none⟩ (.int .i64 0)).drew 60 bw #[.pointer (some ⟨b, 0, none⟩)]) := Lib.hid (((P7.out.other (Ne.symm d1) _).other (Box.ne P7.out G7.out (by decide)) _).other (Ne.symm d3) _)
  have E4 : Hid (Box (((W'.setCell ⟨ba, 0, none⟩ (.slice none 0 0)).setCell ⟨bg, 0, none⟩ (.slice ga lk.length gk)).setCell ⟨bx, 0, none⟩ (.int .i64 0)).drew 28 be #[.int .i64 er]) := Lib.hid (((E7.out.other (Ne.symm d2) _).other mh _).other d6 _)
  have W4 : Hid (Wk (((W'.setCell ⟨ba, 0, none⟩ (.slice none 0 0)).setCell ⟨bg, 0, none⟩ (.slice ga lk.length gk)).setCell ⟨bx, 0, none⟩ (.int .i64 0)).drew b bm base v2 l' 0) := Lib.hid ((((W7.out.other (i := 0) A7.out (Ne.symm d4) (by decide) _).other (i := 0) (G7.out.other (i := 0) m2 _) (Box.ne W7.out.box G7.out (by decide)) (by decide) _).other (i := 0) ((X7.out.other (i := 0) n2 _).other (i := 0) m3 _) (Ne.symm d5) (by decide) _).below (Below.refl _ _).drew)
  have B4 : Hid (Below w.heap.size w (((W'.setCell ⟨ba, 0, none⟩ (.slice none 0 0)).setCell ⟨bg, 0, none⟩ (.slice ga lk.length gk)).setCell ⟨bx, 0, none⟩ (.int .i64 0)).drew) := Lib.hid ((((B7.out.setCell (p := ⟨ba, 0, none⟩) (by simp; omega) _).setCell (p := ⟨bg, 0, none⟩) (by simp; omega) _).setCell (p := ⟨bx, 0, none⟩) (by simp; omega) _).drew)
  have K4 : Hid (KS [b, ba, bx, be, bg] w2 (((W'.setCell ⟨ba, 0, none⟩ (.slice none 0 0)).setCell ⟨bg, 0, none⟩ (.slice ga lk.length gk)).setCell ⟨bx, 0, none⟩ (.int .i64 0)).drew) := Lib.hid ((((K7.out.set ba 0 _ (by simp)).set bg 0 _ (by simp)).set bx 0 _ (by simp)).then (Below.refl _ _).drew)
  have G4 : Hid (Box (((W'.setCell ⟨ba, 0, none⟩ (.slice none 0 0)).setCell ⟨bg, 0, none⟩ (.slice ga lk.length gk)).setCell ⟨bx, 0, none⟩ (.int .i64 0)).drew 24 bg #[.slice ga lk.length gk]) := Lib.hid (((G7.out.other m2 _).set 0 (by simp) _).other m4 _)
  generalize (((W'.setCell ⟨ba, 0, none⟩ (.slice none 0 0)).setCell ⟨bg, 0, none⟩ (.slice ga lk.length gk)).setCell ⟨bx, 0, none⟩ (.int .i64 0)).drew = W8 at A4 G4 X4 P4 E4 W4 B4 K4 ⊢
  go_wp2
  refine leaves_cons (f := 74) (args := #[.pointer (some ⟨be, 0, none⟩), .pointer (some ⟨bw, 0, none⟩), .pointer (some ⟨ba, 0, none⟩), .pointer (some ⟨bx, 0, none⟩)]) (by simp) (by simp [go_sem]) ?_
  refine (fin6T be bw ba bx b bm base v2 l' 0 er 0 _ .returning _ W4 E4 P4 A4 X4).mono ?_
  rintro en u' W6 ⟨rfl, rfl, hA6, hX6, hW6, hK6⟩
  obtain ⟨pa, pn, pk, hpv⟩ := plain_shape hW6
  have hT := tab_plain hW6 (l := l') (fun _ => rfl)
  rw [hpv, HLR.out] at hT
  rw [hpv] at hA6
  have hG6 : Box W6 24 bg #[.slice ga lk.length gk] := (hK6.block bg G4.out.lt (by simp; exact ⟨Ne.symm (Box.ne W4.out.box G4.out (by decide)), m2, m4⟩)).trans G4.out
  have g9 := hG6.cell 0
  have lG := G3.out.lt
  have g0 := hA6.cell 0
  have g1 := hX6.cell 0
  have hz4 := B4.out.size
  have hBW : w.heap.size ≤ W.heap.size := B3.out.size
  have hK9 := K4.out.trans (hK6.mono (l' := [b, ba, bx, be, bg]) (by intro k hk; simp at hk ⊢; omega))
  have lA := A3.out.lt
  have lX := X3.out.lt
  have lE := E3.out.lt
  have lB := W3.out.box.lt
  refine ⟨.tuple #[.agg #[.slice pa pn pk], (.agg #[.slice ga lk.length gk]), .int .i64 er], by simp [results, Try.results62, go_sem, g0, g1, g9], _, _, base, W.heap.size, rfl, by omega, hBW, hT, ?_, ?_⟩
  · refine tabR_stays lk _ _ _ _ HV.out hK9.size (fun k h1 h2 => hK9.block k h2 ?_)
    intro hm
    simp at hm
    omega
  · refine B4.out.trans (hK6.below ?_ hz4)
    intro k hk
    simp at hk
    omega
end Go.Proofs.Ytndghjfgjkjbdaa.s06
