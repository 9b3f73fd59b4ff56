/-
  Layer 5: field, with each of its closures.
-/
import Derived.Test.YtkepnjnindolbaaS05D
namespace Go.Proofs.Ytkepnjnindolbaa.s05
set_option linter.unusedVariables false
set_option linter.unusedSimpArgs false
open Go.RowKit
open kit

def RdrV (s : ByteArray) (p e o : Int) : Value := .agg #[.string s, .int .i64 p, .int .i64 e, .int .i64 o]
theorem Rb.other {w : World} {t : TypeId} {b b' i : Nat} {s : ByteArray} {e o x : Int} (h : Rb w t b s e o x) (hne : b ≠ b') (u : Value) : Rb (w.setCell ⟨b', i, none⟩ u) t b s e o x := Box.other h hne u
/-- what a field's closure gives: a value, the offset behind, a fault -/
def GivesC (Rel : Nat → Value → World → Prop) (nx fe fo : Int) (W : World) (en : Ending) (W' : World) : Prop :=
  ∃ V, en = .returned (.tuple #[V, .int .i64 nx, .agg #[.int .i64 fe, .int .i64 fo]]) ∧ Rel W.heap.size V W' ∧ Below W.heap.size W W'
/-- a reader and a value -/
def GivesR (Rel : Nat → Value → World → Prop) (s : ByteArray) (p e o : Int) (w : World) (en : Ending) (w' : World) : Prop :=
  ∃ V B, en = .returned (.tuple #[.agg #[.string s, .int .i64 p, .int .i64 e, .int .i64 o], V]) ∧ w.heap.size ≤ B ∧ Rel B V w' ∧ Below w.heap.size w w'
/-- what is said of a value stays, where the blocks made since stay -/
def Stays (Rel : Nat → Value → World → Prop) : Prop := ∀ B V (W W' : World), Rel B V W → W.heap.size ≤ W'.heap.size → (∀ k, B ≤ k → k < W.heap.size → W'.heap[k]? = W.heap[k]?) → Rel B V W'
/-- three new variables -/
theorem three_new (w1 W : World) (o1 : Value) (o2 : Value) (o3 o4 : Value) (t1 t2 t3 : TypeId) (hW : W = ((w1.alloc (.cells #[o1] t1)).alloc (.cells #[o2] t2)).alloc (.cells #[o3, o4] t3)) :
    Box W t1 w1.heap.size #[o1] ∧ Box W t2 (w1.heap.size + 1) #[o2] ∧ Box W t3 (w1.heap.size + 1 + 1) #[o3, o4] ∧ Below w1.heap.size w1 W ∧ W.heap.size = w1.heap.size + 3 := by
  subst hW
  refine ⟨((Box.new w1 t1 _).alloc _).alloc _, (Box.new2 w1 _ t2 _).alloc _, ?_, (((Below.refl _ _).alloc (Nat.le_refl _) _).alloc (by simp) _).alloc (by simp; omega) _, by simp⟩
  have h := Box.new ((w1.alloc (.cells #[o1] t1)).alloc (.cells #[o2] t2)) t3 #[o3, o4]
  simpa using h

set_option maxRecDepth 100000 in
set_option maxHeartbeats 1000000 in
theorem field_oldI (s : ByteArray) (p e o : Int) (hs : s.size ≤ 9223372036854775807) (s' : ByteArray) (p' e' o' : Int) (H : Hid (cnt s p e o = (s', p', e', o'))) (he : Hid ((e' != 0) = true)) (fv : Value) (w : World) :
    Calls Try.prog 47 #[.agg #[.string s, .int .i64 p, .int .i64 e, .int .i64 o], fv] w fun en w' => en = .returned (.tuple #[.agg #[.string s', .int .i64 p', .int .i64 e', .int .i64 o'], .int .i64 0]) ∧ Below w.heap.size w w' := by
  have A1 := Lib.hid (Box.new2 w (.cells #[.string s, .int .i64 p, .int .i64 e, .int .i64 o] 26) 26 #[.string ⟨#[]⟩, .int .i64 0, .int .i64 0, .int .i64 0])
  have B1 := Lib.hid (((Below.refl w.heap.size w).alloc (Nat.le_refl _) (.cells #[.string s, .int .i64 p, .int .i64 e, .int .i64 o] 26)).alloc (by simp) (.cells #[.string ⟨#[]⟩, .int .i64 0, .int .i64 0, .int .i64 0] 26))
  go_enter_defers Try.func47, Try.ntmps47
  go_wp2_with (go_at_call 67; refine (readerOf_any s p e o hs s' p' e' o' H _).mono ?_; rintro en w1 ⟨b, rfl, hb, hR, hB⟩; have R1 := Lib.hid hR; have A2 := Lib.hid (A1.out.below hB); have B2 := Lib.hid (below_then B1.out hB); have hlt := hR.lt; have hz : w.heap.size + 1 < w1.heap.size := (by have := hB.size; simp at this; omega); have hb2 : w.heap.size + 2 ≤ b := (by simp at hb; omega); clear hb hR hB; obtain ⟨c0, c1, c2, c3⟩ := R1.out.cells)
  obtain ⟨W, hW⟩ : ∃ W, W = ((w1.alloc (.cells #[.pointer (some ⟨b, 0, none⟩)] 85)).alloc (.cells #[.int .i64 p'] 3)).alloc (.cells #[.int .i64 0, .int .i64 0] 24) := ⟨_, rfl⟩
  rw [← hW]
  obtain ⟨V3, N3, F3, K3, hs3⟩ := three_new w1 W _ _ _ _ _ _ _ hW
  have R3 := Lib.hid (R1.out.below K3)
  have A3 := Lib.hid (A2.out.below K3)
  have B3 := Lib.hid (below_then B2.out K3)
  clear hW K3 c0 c1 c2 c3
  obtain ⟨c0, c1, c2, c3⟩ := A3.out.c4
  obtain ⟨f0, f1, f2, f3⟩ := A3.out.f4
  have V3h := Lib.hid V3
  have F3h := Lib.hid F3
  clear V3 F3 N3
  have hw3 : w1.heap.size + 3 ≤ W.heap.size := Nat.le_of_eq hs3.symm
  clear hs3
  go_wp2_with (go_at_call 72; refine (failed_any _ b s' e' o' p' _ he _ R3).mono ?_; rintro en w2 ⟨rfl, rfl⟩)
  have A4 := A3.out.set4 (.string ⟨#[]⟩) (.int .i64 0) (.int .i64 0) (.int .i64 0)
  have R4 : Rb ((((W.setCell ⟨w.heap.size + 1, 0, none⟩ (.string ⟨#[]⟩)).setCell ⟨w.heap.size + 1, 1, none⟩ (.int .i64 0)).setCell ⟨w.heap.size + 1, 2, none⟩ (.int .i64 0)).setCell ⟨w.heap.size + 1, 3, none⟩ (.int .i64 0)) 92 b s' e' o' p' := (((Box.other R3.out (by omega) _).other (by omega) _).other (by omega) _).other (by omega) _
  have V4 := (((V3h.out.other (b' := w.heap.size + 1) (i := 0) (by omega) (.string ⟨#[]⟩)).other (b' := w.heap.size + 1) (i := 1) (by omega) (.int .i64 0)).other (b' := w.heap.size + 1) (i := 2) (by omega) (.int .i64 0)).other (b' := w.heap.size + 1) (i := 3) (by omega) (.int .i64 0)
  have F4 := (((F3h.out.other (b' := w.heap.size + 1) (i := 0) (by omega) (.string ⟨#[]⟩)).other (b' := w.heap.size + 1) (i := 1) (by omega) (.int .i64 0)).other (b' := w.heap.size + 1) (i := 2) (by omega) (.int .i64 0)).other (b' := w.heap.size + 1) (i := 3) (by omega) (.int .i64 0)
  have B4 := Below.set4 B3.out (w.heap.size + 1) (by omega) (.string ⟨#[]⟩) (.int .i64 0) (.int .i64 0) (.int .i64 0)
  refine leaves_cons (f := 82) (args := #[.pointer (some ⟨w1.heap.size, 0, none⟩), .pointer (some ⟨w1.heap.size + 1 + 1, 0, none⟩), .pointer (some ⟨w1.heap.size + 1, 0, none⟩), .pointer (some ⟨w.heap.size + 1, 0, none⟩)]) (by simp) (by simp [go_sem]) ?_
  refine (fin_oldI b _ _ _ _ s' e' o' p' _ _ 0 _ _ _ _ .returning _ he (Lib.hid R4) (Lib.hid V4) (Lib.hid F4) (Lib.hid A4) (by omega) (by omega)).mono ?_
  rintro en u' W5 ⟨rfl, rfl, hA5, hK5⟩
  obtain ⟨d0, d1, d2, d3⟩ := hA5.c4
  refine ⟨.tuple #[.agg #[.string s', .int .i64 p', .int .i64 e', .int .i64 o'], .int .i64 0], by simp [results, Try.results47, go_sem, d0, d1, d2, d3], rfl, ?_⟩
  have hz4 := B4.size
  refine B4.trans (hK5.below ?_ hz4)
  intro k hk
  simp at hk
  omega

set_option maxRecDepth 100000 in
set_option maxHeartbeats 1000000 in
theorem field_newI (s : ByteArray) (p e o : Int) (hs : s.size ≤ 9223372036854775807) (s' : ByteArray) (p' : Int) (H : Hid (cnt s p e o = (s', p', 0, 0))) (k1 k2 : Nat) (nx fe fo : Int) (he : Hid ((fe != 0) = true)) (Rel : Nat → Value → World → Prop) (hRel : Hid (Stays Rel)) (w : World)
    (hC : Hid (∀ W, Below w.heap.size w W → Calls Try.prog 48 #[.string s', .int .i64 p', .pointer (some ⟨k1, 0, none⟩), .pointer (some ⟨k2, 0, none⟩)] W (GivesC Rel nx fe fo W))) :
    Calls Try.prog 47 #[.agg #[.string s, .int .i64 p, .int .i64 e, .int .i64 o], .func (.func 48) #[] #[.pointer (some ⟨k1, 0, none⟩), .pointer (some ⟨k2, 0, none⟩)]] w (GivesR Rel s' p' fe fo w) := by
  have A1 := Lib.hid (Box.new2 w (.cells #[.string s, .int .i64 p, .int .i64 e, .int .i64 o] 26) 26 #[.string ⟨#[]⟩, .int .i64 0, .int .i64 0, .int .i64 0])
  have B1 := Lib.hid (((Below.refl w.heap.size w).alloc (Nat.le_refl _) (.cells #[.string s, .int .i64 p, .int .i64 e, .int .i64 o] 26)).alloc (by simp) (.cells #[.string ⟨#[]⟩, .int .i64 0, .int .i64 0, .int .i64 0] 26))
  go_enter_defers Try.func47, Try.ntmps47
  go_wp2_with (go_at_call 67; refine (readerOf_any s p e o hs s' p' 0 0 H _).mono ?_; rintro en w1 ⟨b, rfl, hb, hR, hB⟩; have R1 := Lib.hid hR; have A2 := Lib.hid (A1.out.below hB); have B2 := Lib.hid (below_then B1.out hB); have hlt := hR.lt; have hz : w.heap.size + 1 < w1.heap.size := (by have := hB.size; simp at this; omega); have hb2 : w.heap.size + 2 ≤ b := (by simp at hb; omega); clear hb hR hB; obtain ⟨c0, c1, c2, c3⟩ := R1.out.cells)
  obtain ⟨W, hW⟩ : ∃ W, W = ((w1.alloc (.cells #[.pointer (some ⟨b, 0, none⟩)] 85)).alloc (.cells #[.int .i64 p'] 3)).alloc (.cells #[.int .i64 0, .int .i64 0] 24) := ⟨_, rfl⟩
  rw [← hW]
  obtain ⟨V3, N3, F3, K3, hs3⟩ := three_new w1 W _ _ _ _ _ _ _ hW
  have R3 := Lib.hid (R1.out.below K3)
  have A3 := Lib.hid (A2.out.below K3)
  have B3 := Lib.hid (below_then B2.out K3)
  clear hW K3 c0 c1 c2 c3
  obtain ⟨c0, c1, c2, c3⟩ := A3.out.c4
  obtain ⟨f0, f1, f2, f3⟩ := A3.out.f4
  have V3h := Lib.hid V3
  have F3h := Lib.hid F3
  have N3k := Lib.hid N3
  clear V3 F3 N3
  have hw3 : w1.heap.size + 3 ≤ W.heap.size := Nat.le_of_eq hs3.symm
  clear hs3
  have R3h := R3
  have hb3 := R1.out.lt
  have q0 : w.heap.size < w.heap.size + 1 := by omega
  have q1 : w.heap.size + 1 < b := by omega
  have q2 : b < w1.heap.size := hb3
  have q3 : w1.heap.size < w1.heap.size + 1 := by omega
  have q4 : w1.heap.size + 1 < w1.heap.size + 1 + 1 := by omega
  have q5 : w1.heap.size + 1 + 1 < W.heap.size := by omega
  go_wp2_with (go_at_call 72; refine (failed_any _ b s' 0 0 p' false (Lib.hid rfl) _ R3).mono ?_; rintro en w2 ⟨rfl, rfl⟩)
  generalize w1.heap.size + 1 + 1 = bf at *
  generalize w1.heap.size + 1 = bn at *
  generalize w1.heap.size = br at *
  generalize w.heap.size + 1 = ba at *
  have n1 : br ≠ b := by omega
  have n2 : bn ≠ b := by omega
  have n3 : bf ≠ b := by omega
  have n4 : br ≠ bn := by omega
  have n5 : br ≠ bf := by omega
  have n6 : bn ≠ bf := by omega
  have m1 : b ≠ br := by omega
  have m2 : b ≠ bn := by omega
  have m3 : b ≠ bf := by omega
  have m6 : bf ≠ bn := by omega
  have hBC : Below w.heap.size w W.drew := B3.out.drew
  have V3d : Hid (Box W.drew 85 br #[.pointer (some ⟨b, 0, none⟩)]) := Lib.hid V3h.out
  have R3d : Hid (Rb W.drew 92 b s' 0 0 p') := Lib.hid R3.out
  have N3d : Hid (Box W.drew 3 bn #[.int .i64 p']) := Lib.hid N3k.out
  have F3d : Hid (Box W.drew 24 bf #[.int .i64 0, .int .i64 0]) := Lib.hid F3h.out
  have A3d : Hid (Box W.drew 26 ba #[.string ⟨#[]⟩, .int .i64 0, .int .i64 0, .int .i64 0]) := Lib.hid A3.out
  clear c0 c1 c2 c3 f0 f1 f2 f3
  have g0 := V3d.out.c1
  obtain ⟨g1, _, _, g4⟩ := R3d.out.cells
  go_region_held3 (fun w' => w'.cell? ⟨br, 0, none⟩ = some (.pointer (some ⟨b, 0, none⟩)) ∧ w'.cell? ⟨b, 0, none⟩ = some (.string s') ∧ w'.cell? ⟨b, 3, none⟩ = some (.int .i64 p'))
    (first
      | with_reducible exact ⟨g0, g1, g4⟩
      | with_reducible exact ⟨V4.out.c1, R4.out.cells.1, R4.out.cells.2.2.2⟩
      | with_reducible exact ⟨(V4.out.other n4 _).c1, (R4.out.other m2 _).cells.1, (R4.out.other m2 _).cells.2.2.2⟩
      | with_reducible exact ⟨(((V4.out.other n4 _).other n5 _).other n5 _).c1, (((R4.out.other m2 _).other m3 _).other m3 _).cells.1, (((R4.out.other m2 _).other m3 _).other m3 _).cells.2.2.2⟩)
    (first
      | (go_at_call 48; refine (hC.out _ hBC).mono ?_; rintro en W2 ⟨V, rfl, hV, hB2⟩; have V4 := Lib.hid (V3d.out.below hB2); have R4 := Lib.hid (R3d.out.below hB2); have N4 := Lib.hid (N3d.out.below hB2); have F4 := Lib.hid (F3d.out.below hB2); have A4 := Lib.hid (A3d.out.below hB2); have HV4 := Lib.hid hV; have HB2 := Lib.hid hB2; clear hV hB2; have e0 := N4.out.c1; have e1 := Box.free N4.out 0; obtain ⟨e2, e3⟩ := F4.out.cell2; obtain ⟨e4, e5⟩ := F4.out.free2))
  obtain ⟨W5, hW5⟩ : ∃ W5, W5 = ((W2.setCell ⟨bn, 0, none⟩ (.int .i64 nx)).setCell ⟨bf, 0, none⟩ (.int .i64 fe)).setCell ⟨bf, 1, none⟩ (.int .i64 fo) := ⟨_, rfl⟩
  rw [← hW5]
  have p1 : ba ≠ bn := by omega
  have p2 : ba ≠ bf := by omega
  have p3 : ba ≠ b := by omega
  have p4 : ba ≠ br := by omega
  have p5 : br ≠ ba := by omega
  have p6 : b ≠ ba := by omega
  have p7 : bn ≠ ba := by omega
  have p8 : bf ≠ ba := by omega
  have V5 : Box W5 85 br #[.pointer (some ⟨b, 0, none⟩)] := by rw [hW5]; exact ((V4.out.other n4 _).other n5 _).other n5 _
  have R5 : Rb W5 92 b s' 0 0 p' := by rw [hW5]; exact Box.other (Box.other (Box.other R4.out m2 _) m3 _) m3 _
  have A5 : Box W5 26 ba #[.string ⟨#[]⟩, .int .i64 0, .int .i64 0, .int .i64 0] := by rw [hW5]; exact ((A4.out.other p1 _).other p2 _).other p2 _
  have N5 : Box W5 3 bn #[.int .i64 nx] := by rw [hW5]; exact ((N4.out.set1 _).other n6 _).other n6 _
  have F5 : Box W5 24 bf #[(.int .i64 fe), (.int .i64 fo)] := by rw [hW5]; exact ((F4.out.other m6 _).set2 _ _)
  have K5 : KS [b, br, bn, bf, ba] W2 W5 := by rw [hW5]; exact (((KS.refl _ W2).set bn 0 _ (by simp)).set bf 0 _ (by simp)).set bf 1 _ (by simp)
  clear hW5 e0 e1 e2 e3 e4 e5 g0 g1 g4
  have V5h := Lib.hid V5
  have F5h := Lib.hid F5
  have N5h := Lib.hid N5
  have A5h := Lib.hid A5
  have R5h := Lib.hid R5
  obtain ⟨c0, c1, c2, c3⟩ := A5.c4
  obtain ⟨f0, f1, f2, f3⟩ := A5.f4
  clear V5 F5 N5 A5 R5
  go_wp2
  have A6 := A5h.out.set4 (.string ⟨#[]⟩) (.int .i64 0) (.int .i64 0) (.int .i64 0)
  have R6 : Rb ((((W5.setCell ⟨ba, 0, none⟩ (.string ⟨#[]⟩)).setCell ⟨ba, 1, none⟩ (.int .i64 0)).setCell ⟨ba, 2, none⟩ (.int .i64 0)).setCell ⟨ba, 3, none⟩ (.int .i64 0)) 92 b s' 0 0 p' := (((Box.other R5h.out p6 _).other p6 _).other p6 _).other p6 _
  have V6 := (((V5h.out.other (i := 0) p5 (.string ⟨#[]⟩)).other (i := 1) p5 (.int .i64 0)).other (i := 2) p5 (.int .i64 0)).other (i := 3) p5 (.int .i64 0)
  have F6 := (((F5h.out.other (i := 0) p8 (.string ⟨#[]⟩)).other (i := 1) p8 (.int .i64 0)).other (i := 2) p8 (.int .i64 0)).other (i := 3) p8 (.int .i64 0)
  have N6 := (((N5h.out.other (i := 0) p7 (.string ⟨#[]⟩)).other (i := 1) p7 (.int .i64 0)).other (i := 2) p7 (.int .i64 0)).other (i := 3) p7 (.int .i64 0)
  have K6 : KS [b, br, bn, bf, ba] W2 _ := K5.set4 ba (by simp) (.string ⟨#[]⟩) (.int .i64 0) (.int .i64 0) (.int .i64 0)
  refine leaves_cons (f := 82) (args := #[.pointer (some ⟨br, 0, none⟩), .pointer (some ⟨bf, 0, none⟩), .pointer (some ⟨bn, 0, none⟩), .pointer (some ⟨ba, 0, none⟩)]) (by simp) (by simp [go_sem]) ?_
  refine (fin_newI b _ _ _ _ s' _ p' fe fo 0 _ _ _ _ .returning _ he (Lib.hid R6) (Lib.hid V6) (Lib.hid F6) (Lib.hid A6) p3 p4 n1).mono ?_
  rintro en u' W7 ⟨rfl, rfl, hA7, hK7⟩
  obtain ⟨d0, d1, d2, d3⟩ := hA7.c4
  have K7 := K6.trans (hK7.mono (by simp))
  refine ⟨.tuple #[.agg #[.string s', .int .i64 p', .int .i64 fe, .int .i64 fo], V], by simp [results, Try.results47, go_sem, d0, d1, d2, d3], V, W.drew.heap.size, rfl, hBC.size, hRel.out _ _ _ _ HV4.out K7.size (fun k hk1 hk2 => K7.block k hk2 ?_), (below_then hBC HB2.out).trans (K7.below ?_ (Nat.le_trans hBC.size HB2.out.size))⟩
  · have : W.drew.heap.size = W.heap.size := rfl
    simp
    omega
  · intro k hk
    simp at hk
    omega

set_option maxRecDepth 100000 in
set_option maxHeartbeats 1000000 in
theorem field_okI (s : ByteArray) (p e o : Int) (hs : s.size ≤ 9223372036854775807) (s' : ByteArray) (p' : Int) (H : Hid (cnt s p e o = (s', p', 0, 0))) (k1 k2 : Nat) (nx : Int) (he : Hid (True)) (Rel : Nat → Value → World → Prop) (hRel : Hid (Stays Rel)) (w : World)
    (hC : Hid (∀ W, Below w.heap.size w W → Calls Try.prog 48 #[.string s', .int .i64 p', .pointer (some ⟨k1, 0, none⟩), .pointer (some ⟨k2, 0, none⟩)] W (GivesC Rel nx 0 0 W))) :
    Calls Try.prog 47 #[.agg #[.string s, .int .i64 p, .int .i64 e, .int .i64 o], .func (.func 48) #[] #[.pointer (some ⟨k1, 0, none⟩), .pointer (some ⟨k2, 0, none⟩)]] w (GivesR Rel s' nx 0 0 w) := by
  have A1 := Lib.hid (Box.new2 w (.cells #[.string s, .int .i64 p, .int .i64 e, .int .i64 o] 26) 26 #[.string ⟨#[]⟩, .int .i64 0, .int .i64 0, .int .i64 0])
  have B1 := Lib.hid (((Below.refl w.heap.size w).alloc (Nat.le_refl _) (.cells #[.string s, .int .i64 p, .int .i64 e, .int .i64 o] 26)).alloc (by simp) (.cells #[.string ⟨#[]⟩, .int .i64 0, .int .i64 0, .int .i64 0] 26))
  go_enter_defers Try.func47, Try.ntmps47
  go_wp2_with (go_at_call 67; refine (readerOf_any s p e o hs s' p' 0 0 H _).mono ?_; rintro en w1 ⟨b, rfl, hb, hR, hB⟩; have R1 := Lib.hid hR; have A2 := Lib.hid (A1.out.below hB); have B2 := Lib.hid (below_then B1.out hB); have hlt := hR.lt; have hz : w.heap.size + 1 < w1.heap.size := (by have := hB.size; simp at this; omega); have hb2 : w.heap.size + 2 ≤ b := (by simp at hb; omega); clear hb hR hB; obtain ⟨c0, c1, c2, c3⟩ := R1.out.cells)
  obtain ⟨W, hW⟩ : ∃ W, W = ((w1.alloc (.cells #[.pointer (some ⟨b, 0, none⟩)] 85)).alloc (.cells #[.int .i64 p'] 3)).alloc (.cells #[.int .i64 0, .int .i64 0] 24) := ⟨_, rfl⟩
  rw [← hW]
  obtain ⟨V3, N3, F3, K3, hs3⟩ := three_new w1 W _ _ _ _ _ _ _ hW
  have R3 := Lib.hid (R1.out.below K3)
  have A3 := Lib.hid (A2.out.below K3)
  have B3 := Lib.hid (below_then B2.out K3)
  clear hW K3 c0 c1 c2 c3
  obtain ⟨c0, c1, c2, c3⟩ := A3.out.c4
  obtain ⟨f0, f1, f2, f3⟩ := A3.out.f4
  have V3h := Lib.hid V3
  have F3h := Lib.hid F3
  have N3k := Lib.hid N3
  clear V3 F3 N3
  have hw3 : w1.heap.size + 3 ≤ W.heap.size := Nat.le_of_eq hs3.symm
  clear hs3
  have R3h := R3
  have hb3 := R1.out.lt
  have q0 : w.heap.size < w.heap.size + 1 := by omega
  have q1 : w.heap.size + 1 < b := by omega
  have q2 : b < w1.heap.size := hb3
  have q3 : w1.heap.size < w1.heap.size + 1 := by omega
  have q4 : w1.heap.size + 1 < w1.heap.size + 1 + 1 := by omega
  have q5 : w1.heap.size + 1 + 1 < W.heap.size := by omega
  go_wp2_with (go_at_call 72; refine (failed_any _ b s' 0 0 p' false (Lib.hid rfl) _ R3).mono ?_; rintro en w2 ⟨rfl, rfl⟩)
  generalize w1.heap.size + 1 + 1 = bf at *
  generalize w1.heap.size + 1 = bn at *
  generalize w1.heap.size = br at *
  generalize w.heap.size + 1 = ba at *
  have n1 : br ≠ b := by omega
  have n2 : bn ≠ b := by omega
  have n3 : bf ≠ b := by omega
  have n4 : br ≠ bn := by omega
  have n5 : br ≠ bf := by omega
  have n6 : bn ≠ bf := by omega
  have m1 : b ≠ br := by omega
  have m2 : b ≠ bn := by omega
  have m3 : b ≠ bf := by omega
  have m6 : bf ≠ bn := by omega
  have hBC : Below w.heap.size w W.drew := B3.out.drew
  have V3d : Hid (Box W.drew 85 br #[.pointer (some ⟨b, 0, none⟩)]) := Lib.hid V3h.out
  have R3d : Hid (Rb W.drew 92 b s' 0 0 p') := Lib.hid R3.out
  have N3d : Hid (Box W.drew 3 bn #[.int .i64 p']) := Lib.hid N3k.out
  have F3d : Hid (Box W.drew 24 bf #[.int .i64 0, .int .i64 0]) := Lib.hid F3h.out
  have A3d : Hid (Box W.drew 26 ba #[.string ⟨#[]⟩, .int .i64 0, .int .i64 0, .int .i64 0]) := Lib.hid A3.out
  clear c0 c1 c2 c3 f0 f1 f2 f3
  have g0 := V3d.out.c1
  obtain ⟨g1, _, _, g4⟩ := R3d.out.cells
  go_region_held3 (fun w' => w'.cell? ⟨br, 0, none⟩ = some (.pointer (some ⟨b, 0, none⟩)) ∧ w'.cell? ⟨b, 0, none⟩ = some (.string s') ∧ w'.cell? ⟨b, 3, none⟩ = some (.int .i64 p'))
    (first
      | with_reducible exact ⟨g0, g1, g4⟩
      | with_reducible exact ⟨V4.out.c1, R4.out.cells.1, R4.out.cells.2.2.2⟩
      | with_reducible exact ⟨(V4.out.other n4 _).c1, (R4.out.other m2 _).cells.1, (R4.out.other m2 _).cells.2.2.2⟩
      | with_reducible exact ⟨(((V4.out.other n4 _).other n5 _).other n5 _).c1, (((R4.out.other m2 _).other m3 _).other m3 _).cells.1, (((R4.out.other m2 _).other m3 _).other m3 _).cells.2.2.2⟩)
    (first
      | (go_at_call 48; refine (hC.out _ hBC).mono ?_; rintro en W2 ⟨V, rfl, hV, hB2⟩; have V4 := Lib.hid (V3d.out.below hB2); have R4 := Lib.hid (R3d.out.below hB2); have N4 := Lib.hid (N3d.out.below hB2); have F4 := Lib.hid (F3d.out.below hB2); have A4 := Lib.hid (A3d.out.below hB2); have HV4 := Lib.hid hV; have HB2 := Lib.hid hB2; clear hV hB2; have e0 := N4.out.c1; have e1 := Box.free N4.out 0; obtain ⟨e2, e3⟩ := F4.out.cell2; obtain ⟨e4, e5⟩ := F4.out.free2))
  obtain ⟨W5, hW5⟩ : ∃ W5, W5 = ((W2.setCell ⟨bn, 0, none⟩ (.int .i64 nx)).setCell ⟨bf, 0, none⟩ (.int .i64 0)).setCell ⟨bf, 1, none⟩ (.int .i64 0) := ⟨_, rfl⟩
  rw [← hW5]
  have p1 : ba ≠ bn := by omega
  have p2 : ba ≠ bf := by omega
  have p3 : ba ≠ b := by omega
  have p4 : ba ≠ br := by omega
  have p5 : br ≠ ba := by omega
  have p6 : b ≠ ba := by omega
  have p7 : bn ≠ ba := by omega
  have p8 : bf ≠ ba := by omega
  have V5 : Box W5 85 br #[.pointer (some ⟨b, 0, none⟩)] := by rw [hW5]; exact ((V4.out.other n4 _).other n5 _).other n5 _
  have R5 : Rb W5 92 b s' 0 0 p' := by rw [hW5]; exact Box.other (Box.other (Box.other R4.out m2 _) m3 _) m3 _
  have A5 : Box W5 26 ba #[.string ⟨#[]⟩, .int .i64 0, .int .i64 0, .int .i64 0] := by rw [hW5]; exact ((A4.out.other p1 _).other p2 _).other p2 _
  have N5 : Box W5 3 bn #[.int .i64 nx] := by rw [hW5]; exact ((N4.out.set1 _).other n6 _).other n6 _
  have F5 : Box W5 24 bf #[(.int .i64 0), (.int .i64 0)] := by rw [hW5]; exact ((F4.out.other m6 _).set2 _ _)
  have K5 : KS [b, br, bn, bf, ba] W2 W5 := by rw [hW5]; exact (((KS.refl _ W2).set bn 0 _ (by simp)).set bf 0 _ (by simp)).set bf 1 _ (by simp)
  clear hW5 e0 e1 e2 e3 e4 e5 g0 g1 g4
  have V5h := Lib.hid V5
  have F5h := Lib.hid F5
  have N5h := Lib.hid N5
  have A5h := Lib.hid A5
  have R5h := Lib.hid R5
  obtain ⟨c0, c1, c2, c3⟩ := A5.c4
  obtain ⟨f0, f1, f2, f3⟩ := A5.f4
  clear V5 F5 N5 A5 R5
  go_wp2
  have A6 := A5h.out.set4 (.string ⟨#[]⟩) (.int .i64 0) (.int .i64 0) (.int .i64 0)
  have R6 : Rb ((((W5.setCell ⟨ba, 0, none⟩ (.string ⟨#[]⟩)).setCell ⟨ba, 1, none⟩ (.int .i64 0)).setCell ⟨ba, 2, none⟩ (.int .i64 0)).setCell ⟨ba, 3, none⟩ (.int .i64 0)) 92 b s' 0 0 p' := (((Box.other R5h.out p6 _).other p6 _).other p6 _).other p6 _
  have V6 := (((V5h.out.other (i := 0) p5 (.string ⟨#[]⟩)).other (i := 1) p5 (.int .i64 0)).other (i := 2) p5 (.int .i64 0)).other (i := 3) p5 (.int .i64 0)
  have F6 := (((F5h.out.other (i := 0) p8 (.string ⟨#[]⟩)).other (i := 1) p8 (.int .i64 0)).other (i := 2) p8 (.int .i64 0)).other (i := 3) p8 (.int .i64 0)
  have N6 := (((N5h.out.other (i := 0) p7 (.string ⟨#[]⟩)).other (i := 1) p7 (.int .i64 0)).other (i := 2) p7 (.int .i64 0)).other (i := 3) p7 (.int .i64 0)
  have K6 : KS [b, br, bn, bf, ba] W2 _ := K5.set4 ba (by simp) (.string ⟨#[]⟩) (.int .i64 0) (.int .i64 0) (.int .i64 0)
  refine leaves_cons (f := 82) (args := #[.pointer (some ⟨br, 0, none⟩), .pointer (some ⟨bf, 0, none⟩), .pointer (some ⟨bn, 0, none⟩), .pointer (some ⟨ba, 0, none⟩)]) (by simp) (by simp [go_sem]) ?_
  refine (fin_okI b _ _ _ _ s' _ p' 0 _ _ _ _ _ .returning _ (Lib.hid R6) (Lib.hid V6) (Lib.hid F6) (Lib.hid N6) (Lib.hid A6) p3 p4 n1 n2).mono ?_
  rintro en u' W7 ⟨rfl, rfl, hA7, hK7⟩
  obtain ⟨d0, d1, d2, d3⟩ := hA7.c4
  have K7 := K6.trans (hK7.mono (by simp))
  refine ⟨.tuple #[.agg #[.string s', .int .i64 nx, .int .i64 0, .int .i64 0], V], by simp [results, Try.results47, go_sem, d0, d1, d2, d3], V, W.drew.heap.size, rfl, hBC.size, hRel.out _ _ _ _ HV4.out K7.size (fun k hk1 hk2 => K7.block k hk2 ?_), (below_then hBC HB2.out).trans (K7.below ?_ (Nat.le_trans hBC.size HB2.out.size))⟩
  · have : W.drew.heap.size = W.heap.size := rfl
    simp
    omega
  · intro k hk
    simp at hk
    omega

set_option maxRecDepth 100000 in
set_option maxHeartbeats 1000000 in
theorem field_oldW (s : ByteArray) (p e o : Int) (hs : s.size ≤ 9223372036854775807) (s' : ByteArray) (p' e' o' : Int) (H : Hid (cnt s p e o = (s', p', e', o'))) (he : Hid ((e' != 0) = true)) (fv : Value) (w : World) :
    Calls Try.prog 53 #[.agg #[.string s, .int .i64 p, .int .i64 e, .int .i64 o], fv] w fun en w' => en = .returned (.tuple #[.agg #[.string s', .int .i64 p', .int .i64 e', .int .i64 o'], .int .u64 0]) ∧ Below w.heap.size w w' := by
  have A1 := Lib.hid (Box.new2 w (.cells #[.string s, .int .i64 p, .int .i64 e, .int .i64 o] 26) 26 #[.string ⟨#[]⟩, .int .i64 0, .int .i64 0, .int .i64 0])
  have B1 := Lib.hid (((Below.refl w.heap.size w).alloc (Nat.le_refl _) (.cells #[.string s, .int .i64 p, .int .i64 e, .int .i64 o] 26)).alloc (by simp) (.cells #[.string ⟨#[]⟩, .int .i64 0, .int .i64 0, .int .i64 0] 26))
  go_enter_defers Try.func53, Try.ntmps53
  go_wp2_with (go_at_call 67; refine (readerOf_any s p e o hs s' p' e' o' H _).mono ?_; rintro en w1 ⟨b, rfl, hb, hR, hB⟩; have R1 := Lib.hid hR; have A2 := Lib.hid (A1.out.below hB); have B2 := Lib.hid (below_then B1.out hB); have hlt := hR.lt; have hz : w.heap.size + 1 < w1.heap.size := (by have := hB.size; simp at this; omega); have hb2 : w.heap.size + 2 ≤ b := (by simp at hb; omega); clear hb hR hB; obtain ⟨c0, c1, c2, c3⟩ := R1.out.cells)
  obtain ⟨W, hW⟩ : ∃ W, W = ((w1.alloc (.cells #[.pointer (some ⟨b, 0, none⟩)] 85)).alloc (.cells #[.int .i64 p'] 3)).alloc (.cells #[.int .i64 0, .int .i64 0] 24) := ⟨_, rfl⟩
  rw [← hW]
  obtain ⟨V3, N3, F3, K3, hs3⟩ := three_new w1 W _ _ _ _ _ _ _ hW
  have R3 := Lib.hid (R1.out.below K3)
  have A3 := Lib.hid (A2.out.below K3)
  have B3 := Lib.hid (below_then B2.out K3)
  clear hW K3 c0 c1 c2 c3
  obtain ⟨c0, c1, c2, c3⟩ := A3.out.c4
  obtain ⟨f0, f1, f2, f3⟩ := A3.out.f4
  have V3h := Lib.hid V3
  have F3h := Lib.hid F3
  clear V3 F3 N3
  have hw3 : w1.heap.size + 3 ≤ W.heap.size := Nat.le_of_eq hs3.symm
  clear hs3
  go_wp2_with (go_at_call 72; refine (failed_any _ b s' e' o' p' _ he _ R3).mono ?_; rintro en w2 ⟨rfl, rfl⟩)
  have A4 := A3.out.set4 (.string ⟨#[]⟩) (.int .i64 0) (.int .i64 0) (.int .i64 0)
  have R4 : Rb ((((W.setCell ⟨w.heap.size + 1, 0, none⟩ (.string ⟨#[]⟩)).setCell ⟨w.heap.size + 1, 1, none⟩ (.int .i64 0)).setCell ⟨w.heap.size + 1, 2, none⟩ (.int .i64 0)).setCell ⟨w.heap.size + 1, 3, none⟩ (.int .i64 0)) 92 b s' e' o' p' := (((Box.other R3.out (by omega) _).other (by omega) _).other (by omega) _).other (by omega) _
  have V4 := (((V3h.out.other (b' := w.heap.size + 1) (i := 0) (by omega) (.string ⟨#[]⟩)).other (b' := w.heap.size + 1) (i := 1) (by omega) (.int .i64 0)).other (b' := w.heap.size + 1) (i := 2) (by omega) (.int .i64 0)).other (b' := w.heap.size + 1) (i := 3) (by omega) (.int .i64 0)
  have F4 := (((F3h.out.other (b' := w.heap.size + 1) (i := 0) (by omega) (.string ⟨#[]⟩)).other (b' := w.heap.size + 1) (i := 1) (by omega) (.int .i64 0)).other (b' := w.heap.size + 1) (i := 2) (by omega) (.int .i64 0)).other (b' := w.heap.size + 1) (i := 3) (by omega) (.int .i64 0)
  have B4 := Below.set4 B3.out (w.heap.size + 1) (by omega) (.string ⟨#[]⟩) (.int .i64 0) (.int .i64 0) (.int .i64 0)
  refine leaves_cons (f := 83) (args := #[.pointer (some ⟨w1.heap.size, 0, none⟩), .pointer (some ⟨w1.heap.size + 1 + 1, 0, none⟩), .pointer (some ⟨w1.heap.size + 1, 0, none⟩), .pointer (some ⟨w.heap.size + 1, 0, none⟩)]) (by simp) (by simp [go_sem]) ?_
  refine (fin_oldW b _ _ _ _ s' e' o' p' _ _ 0 _ _ _ _ .returning _ he (Lib.hid R4) (Lib.hid V4) (Lib.hid F4) (Lib.hid A4) (by omega) (by omega)).mono ?_
  rintro en u' W5 ⟨rfl, rfl, hA5, hK5⟩
  obtain ⟨d0, d1, d2, d3⟩ := hA5.c4
  refine ⟨.tuple #[.agg #[.string s', .int .i64 p', .int .i64 e', .int .i64 o'], .int .u64 0], by simp [results, Try.results53, go_sem, d0, d1, d2, d3], rfl, ?_⟩
  have hz4 := B4.size
  refine B4.trans (hK5.below ?_ hz4)
  intro k hk
  simp at hk
  omega

set_option maxRecDepth 100000 in
set_option maxHeartbeats 1000000 in
theorem field_newW (s : ByteArray) (p e o : Int) (hs : s.size ≤ 9223372036854775807) (s' : ByteArray) (p' : Int) (H : Hid (cnt s p e o = (s', p', 0, 0))) (k1 : Nat) (nx fe fo : Int) (he : Hid ((fe != 0) = true)) (Rel : Nat → Value → World → Prop) (hRel : Hid (Stays Rel)) (w : World)
    (hC : Hid (∀ W, Below w.heap.size w W → Calls Try.prog 54 #[.string s', .int .i64 p', .pointer (some ⟨k1, 0, none⟩)] W (GivesC Rel nx fe fo W))) :
    Calls Try.prog 53 #[.agg #[.string s, .int .i64 p, .int .i64 e, .int .i64 o], .func (.func 54) #[] #[.pointer (some ⟨k1, 0, none⟩)]] w (GivesR Rel s' p' fe fo w) := by
  have A1 := Lib.hid (Box.new2 w (.cells #[.string s, .int .i64 p, .int .i64 e, .int .i64 o] 26) 26 #[.string ⟨#[]⟩, .int .i64 0, .int .i64 0, .int .i64 0])
  have B1 := Lib.hid (((Below.refl w.heap.size w).alloc (Nat.le_refl _) (.cells #[.string s, .int .i64 p, .int .i64 e, .int .i64 o] 26)).alloc (by simp) (.cells #[.string ⟨#[]⟩, .int .i64 0, .int .i64 0, .int .i64 0] 26))
  go_enter_defers Try.func53, Try.ntmps53
  go_wp2_with (go_at_call 67; refine (readerOf_any s p e o hs s' p' 0 0 H _).mono ?_; rintro en w1 ⟨b, rfl, hb, hR, hB⟩; have R1 := Lib.hid hR; have A2 := Lib.hid (A1.out.below hB); have B2 := Lib.hid (below_then B1.out hB); have hlt := hR.lt; have hz : w.heap.size + 1 < w1.heap.size := (by have := hB.size; simp at this; omega); have hb2 : w.heap.size + 2 ≤ b := (by simp at hb; omega); clear hb hR hB; obtain ⟨c0, c1, c2, c3⟩ := R1.out.cells)
  obtain ⟨W, hW⟩ : ∃ W, W = ((w1.alloc (.cells #[.pointer (some ⟨b, 0, none⟩)] 85)).alloc (.cells #[.int .i64 p'] 3)).alloc (.cells #[.int .i64 0, .int .i64 0] 24) := ⟨_, rfl⟩
  rw [← hW]
  obtain ⟨V3, N3, F3, K3, hs3⟩ := three_new w1 W _ _ _ _ _ _ _ hW
  have R3 := Lib.hid (R1.out.below K3)
  have A3 := Lib.hid (A2.out.below K3)
  have B3 := Lib.hid (below_then B2.out K3)
  clear hW K3 c0 c1 c2 c3
  obtain ⟨c0, c1, c2, c3⟩ := A3.out.c4
  obtain ⟨f0, f1, f2, f3⟩ := A3.out.f4
  have V3h := Lib.hid V3
  have F3h := Lib.hid F3
  have N3k := Lib.hid N3
  clear V3 F3 N3
  have hw3 : w1.heap.size + 3 ≤ W.heap.size := Nat.le_of_eq hs3.symm
  clear hs3
  have R3h := R3
  have hb3 := R1.out.lt
  have q0 : w.heap.size < w.heap.size + 1 := by omega
  have q1 : w.heap.size + 1 < b := by omega
  have q2 : b < w1.heap.size := hb3
  have q3 : w1.heap.size < w1.heap.size + 1 := by omega
  have q4 : w1.heap.size + 1 < w1.heap.size + 1 + 1 := by omega
  have q5 : w1.heap.size + 1 + 1 < W.heap.size := by omega
  go_wp2_with (go_at_call 72; refine (failed_any _ b s' 0 0 p' false (Lib.hid rfl) _ R3).mono ?_; rintro en w2 ⟨rfl, rfl⟩)
  generalize w1.heap.size + 1 + 1 = bf at *
  generalize w1.heap.size + 1 = bn at *
  generalize w1.heap.size = br at *
  generalize w.heap.size + 1 = ba at *
  have n1 : br ≠ b := by omega
  have n2 : bn ≠ b := by omega
  have n3 : bf ≠ b := by omega
  have n4 : br ≠ bn := by omega
  have n5 : br ≠ bf := by omega
  have n6 : bn ≠ bf := by omega
  have m1 : b ≠ br := by omega
  have m2 : b ≠ bn := by omega
  have m3 : b ≠ bf := by omega
  have m6 : bf ≠ bn := by omega
  have hBC : Below w.heap.size w W.drew := B3.out.drew
  have V3d : Hid (Box W.drew 85 br #[.pointer (some ⟨b, 0, none⟩)]) := Lib.hid V3h.out
  have R3d : Hid (Rb W.drew 92 b s' 0 0 p') := Lib.hid R3.out
  have N3d : Hid (Box W.drew 3 bn #[.int .i64 p']) := Lib.hid N3k.out
  have F3d : Hid (Box W.drew 24 bf #[.int .i64 0, .int .i64 0]) := Lib.hid F3h.out
  have A3d : Hid (Box W.drew 26 ba #[.string ⟨#[]⟩, .int .i64 0, .int .i64 0, .int .i64 0]) := Lib.hid A3.out
  clear c0 c1 c2 c3 f0 f1 f2 f3
  have g0 := V3d.out.c1
  obtain ⟨g1, _, _, g4⟩ := R3d.out.cells
  go_region_held3 (fun w' => w'.cell? ⟨br, 0, none⟩ = some (.pointer (some ⟨b, 0, none⟩)) ∧ w'.cell? ⟨b, 0, none⟩ = some (.string s') ∧ w'.cell? ⟨b, 3, none⟩ = some (.int .i64 p'))
    (first
      | with_reducible exact ⟨g0, g1, g4⟩
      | with_reducible exact ⟨V4.out.c1, R4.out.cells.1, R4.out.cells.2.2.2⟩
      | with_reducible exact ⟨(V4.out.other n4 _).c1, (R4.out.other m2 _).cells.1, (R4.out.other m2 _).cells.2.2.2⟩
      | with_reducible exact ⟨(((V4.out.other n4 _).other n5 _).other n5 _).c1, (((R4.out.other m2 _).other m3 _).other m3 _).cells.1, (((R4.out.other m2 _).other m3 _).other m3 _).cells.2.2.2⟩)
    (first
      | (go_at_call 54; refine (hC.out _ hBC).mono ?_; rintro en W2 ⟨V, rfl, hV, hB2⟩; have V4 := Lib.hid (V3d.out.below hB2); have R4 := Lib.hid (R3d.out.below hB2); have N4 := Lib.hid (N3d.out.below hB2); have F4 := Lib.hid (F3d.out.below hB2); have A4 := Lib.hid (A3d.out.below hB2); have HV4 := Lib.hid hV; have HB2 := Lib.hid hB2; clear hV hB2; have e0 := N4.out.c1; have e1 := Box.free N4.out 0; obtain ⟨e2, e3⟩ := F4.out.cell2; obtain ⟨e4, e5⟩ := F4.out.free2))
  obtain ⟨W5, hW5⟩ : ∃ W5, W5 = ((W2.setCell ⟨bn, 0, none⟩ (.int .i64 nx)).setCell ⟨bf, 0, none⟩ (.int .i64 fe)).setCell ⟨bf, 1, none⟩ (.int .i64 fo) := ⟨_, rfl⟩
  rw [← hW5]
  have p1 : ba ≠ bn := by omega
  have p2 : ba ≠ bf := by omega
  have p3 : ba ≠ b := by omega
  have p4 : ba ≠ br := by omega
  have p5 : br ≠ ba := by omega
  have p6 : b ≠ ba := by omega
  have p7 : bn ≠ ba := by omega
  have p8 : bf ≠ ba := by omega
  have V5 : Box W5 85 br #[.pointer (some ⟨b, 0, none⟩)] := by rw [hW5]; exact ((V4.out.other n4 _).other n5 _).other n5 _
  have R5 : Rb W5 92 b s' 0 0 p' := by rw [hW5]; exact Box.other (Box.other (Box.other R4.out m2 _) m3 _) m3 _
  have A5 : Box W5 26 ba #[.string ⟨#[]⟩, .int .i64 0, .int .i64 0, .int .i64 0] := by rw [hW5]; exact ((A4.out.other p1 _).other p2 _).other p2 _
  have N5 : Box W5 3 bn #[.int .i64 nx] := by rw [hW5]; exact ((N4.out.set1 _).other n6 _).other n6 _
  have F5 : Box W5 24 bf #[(.int .i64 fe), (.int .i64 fo)] := by rw [hW5]; exact ((F4.out.other m6 _).set2 _ _)
  have K5 : KS [b, br, bn, bf, ba] W2 W5 := by rw [hW5]; exact (((KS.refl _ W2).set bn 0 _ (by simp)).set bf 0 _ (by simp)).set bf 1 _ (by simp)
  clear hW5 e0 e1 e2 e3 e4 e5 g0 g1 g4
  have V5h := Lib.hid V5
  have F5h := Lib.hid F5
  have N5h := Lib.hid N5
  have A5h := Lib.hid A5
  have R5h := Lib.hid R5
  obtain ⟨c0, c1, c2, c3⟩ := A5.c4
  obtain ⟨f0, f1, f2, f3⟩ := A5.f4
  clear V5 F5 N5 A5 R5
  go_wp2
  have A6 := A5h.out.set4 (.string ⟨#[]⟩) (.int .i64 0) (.int .i64 0) (.int .i64 0)
  have R6 : Rb ((((W5.setCell ⟨ba, 0, none⟩ (.string ⟨#[]⟩)).setCell ⟨ba, 1, none⟩ (.int .i64 0)).setCell ⟨ba, 2, none⟩ (.int .i64 0)).setCell ⟨ba, 3, none⟩ (.int .i64 0)) 92 b s' 0 0 p' := (((Box.other R5h.out p6 _).other p6 _).other p6 _).other p6 _
  have V6 := (((V5h.out.other (i := 0) p5 (.string ⟨#[]⟩)).other (i := 1) p5 (.int .i64 0)).other (i := 2) p5 (.int .i64 0)).other (i := 3) p5 (.int .i64 0)
  have F6 := (((F5h.out.other (i := 0) p8 (.string ⟨#[]⟩)).other (i := 1) p8 (.int .i64 0)).other (i := 2) p8 (.int .i64 0)).other (i := 3) p8 (.int .i64 0)
  have N6 := (((N5h.out.other (i := 0) p7 (.string ⟨#[]⟩)).other (i := 1) p7 (.int .i64 0)).other (i := 2) p7 (.int .i64 0)).other (i := 3) p7 (.int .i64 0)
  have K6 : KS [b, br, bn, bf, ba] W2 _ := K5.set4 ba (by simp) (.string ⟨#[]⟩) (.int .i64 0) (.int .i64 0) (.int .i64 0)
  refine leaves_cons (f := 83) (args := #[.pointer (some ⟨br, 0, none⟩), .pointer (some ⟨bf, 0, none⟩), .pointer (some ⟨bn, 0, none⟩), .pointer (some ⟨ba, 0, none⟩)]) (by simp) (by simp [go_sem]) ?_
  refine (fin_newW b _ _ _ _ s' _ p' fe fo 0 _ _ _ _ .returning _ he (Lib.hid R6) (Lib.hid V6) (Lib.hid F6) (Lib.hid A6) p3 p4 n1).mono ?_
  rintro en u' W7 ⟨rfl, rfl, hA7, hK7⟩
  obtain ⟨d0, d1, d2, d3⟩ := hA7.c4
  have K7 := K6.trans (hK7.mono (by simp))
  refine ⟨.tuple #[.agg #[.string s', .int .i64 p', .int .i64 fe, .int .i64 fo], V], by simp [results, Try.results53, go_sem, d0, d1, d2, d3], V, W.drew.heap.size, rfl, hBC.size, hRel.out _ _ _ _ HV4.out K7.size (fun k hk1 hk2 => K7.block k hk2 ?_), (below_then hBC HB2.out).trans (K7.below ?_ (Nat.le_trans hBC.size HB2.out.size))⟩
  · have : W.drew.heap.size = W.heap.size := rfl
    simp
    omega
  · intro k hk
    simp at hk
    omega

set_option maxRecDepth 100000 in
set_option maxHeartbeats 1000000 in
theorem field_okW (s : ByteArray) (p e o : Int) (hs : s.size ≤ 9223372036854775807) (s' : ByteArray) (p' : Int) (H : Hid (cnt s p e o = (s', p', 0, 0))) (k1 : Nat) (nx : Int) (he : Hid (True)) (Rel : Nat → Value → World → Prop) (hRel : Hid (Stays Rel)) (w : World)
    (hC : Hid (∀ W, Below w.heap.size w W → Calls Try.prog 54 #[.string s', .int .i64 p', .pointer (some ⟨k1, 0, none⟩)] W (GivesC Rel nx 0 0 W))) :
    Calls Try.prog 53 #[.agg #[.string s, .int .i64 p, .int .i64 e, .int .i64 o], .func (.func 54) #[] #[.pointer (some ⟨k1, 0, none⟩)]] w (GivesR Rel s' nx 0 0 w) := by
  have A1 := Lib.hid (Box.new2 w (.cells #[.string s, .int .i64 p, .int .i64 e, .int .i64 o] 26) 26 #[.string ⟨#[]⟩, .int .i64 0, .int .i64 0, .int .i64 0])
  have B1 := Lib.hid (((Below.refl w.heap.size w).alloc (Nat.le_refl _) (.cells #[.string s, .int .i64 p, .int .i64 e, .int .i64 o] 26)).alloc (by simp) (.cells #[.string ⟨#[]⟩, .int .i64 0, .int .i64 0, .int .i64 0] 26))
  go_enter_defers Try.func53, Try.ntmps53
  go_wp2_with (go_at_call 67; refine (readerOf_any s p e o hs s' p' 0 0 H _).mono ?_; rintro en w1 ⟨b, rfl, hb, hR, hB⟩; have R1 := Lib.hid hR; have A2 := Lib.hid (A1.out.below hB); have B2 := Lib.hid (below_then B1.out hB); have hlt := hR.lt; have hz : w.heap.size + 1 < w1.heap.size := (by have := hB.size; simp at this; omega); have hb2 : w.heap.size + 2 ≤ b := (by simp at hb; omega); clear hb hR hB; obtain ⟨c0, c1, c2, c3⟩ := R1.out.cells)
  obtain ⟨W, hW⟩ : ∃ W, W = ((w1.alloc (.cells #[.pointer (some ⟨b, 0, none⟩)] 85)).alloc (.cells #[.int .i64 p'] 3)).alloc (.cells #[.int .i64 0, .int .i64 0] 24) := ⟨_, rfl⟩
  rw [← hW]
  obtain ⟨V3, N3, F3, K3, hs3⟩ := three_new w1 W _ _ _ _ _ _ _ hW
  have R3 := Lib.hid (R1.out.below K3)
  have A3 := Lib.hid (A2.out.below K3)
  have B3 := Lib.hid (below_then B2.out K3)
  clear hW K3 c0 c1 c2 c3
  obtain ⟨c0, c1, c2, c3⟩ := A3.out.c4
  obtain ⟨f0, f1, f2, f3⟩ := A3.out.f4
  have V3h := Lib.hid V3
  have F3h := Lib.hid F3
  have N3k := Lib.hid N3
  clear V3 F3 N3
  have hw3 : w1.heap.size + 3 ≤ W.heap.size := Nat.le_of_eq hs3.symm
  clear hs3
  have R3h := R3
  have hb3 := R1.out.lt
  have q0 : w.heap.size < w.heap.size + 1 := by omega
  have q1 : w.heap.size + 1 < b := by omega
  have q2 : b < w1.heap.size := hb3
  have q3 : w1.heap.size < w1.heap.size + 1 := by omega
  have q4 : w1.heap.size + 1 < w1.heap.size + 1 + 1 := by omega
  have q5 : w1.heap.size + 1 + 1 < W.heap.size := by omega
  go_wp2_with (go_at_call 72; refine (failed_any _ b s' 0 0 p' false (Lib.hid rfl) _ R3).mono ?_; rintro en w2 ⟨rfl, rfl⟩)
  generalize w1.heap.size + 1 + 1 = bf at *
  generalize w1.heap.size + 1 = bn at *
  generalize w1.heap.size = br at *
  generalize w.heap.size + 1 = ba at *
  have n1 : br ≠ b := by omega
  have n2 : bn ≠ b := by omega
  have n3 : bf ≠ b := by omega
  have n4 : br ≠ bn := by omega
  have n5 : br ≠ bf := by omega
  have n6 : bn ≠ bf := by omega
  have m1 : b ≠ br := by omega
  have m2 : b ≠ bn := by omega
  have m3 : b ≠ bf := by omega
  have m6 : bf ≠ bn := by omega
  have hBC : Below w.heap.size w W.drew := B3.out.drew
  have V3d : Hid (Box W.drew 85 br #[.pointer (some ⟨b, 0, none⟩)]) := Lib.hid V3h.out
  have R3d : Hid (Rb W.drew 92 b s' 0 0 p') := Lib.hid R3.out
  have N3d : Hid (Box W.drew 3 bn #[.int .i64 p']) := Lib.hid N3k.out
  have F3d : Hid (Box W.drew 24 bf #[.int .i64 0, .int .i64 0]) := Lib.hid F3h.out
  have A3d : Hid (Box W.drew 26 ba #[.string ⟨#[]⟩, .int .i64 0, .int .i64 0, .int .i64 0]) := Lib.hid A3.out
  clear c0 c1 c2 c3 f0 f1 f2 f3
  have g0 := V3d.out.c1
  obtain ⟨g1, _, _, g4⟩ := R3d.out.cells
  go_region_held3 (fun w' => w'.cell? ⟨br, 0, none⟩ = some (.pointer (some ⟨b, 0, none⟩)) ∧ w'.cell? ⟨b, 0, none⟩ = some (.string s') ∧ w'.cell? ⟨b, 3, none⟩ = some (.int .i64 p'))
    (first
      | with_reducible exact ⟨g0, g1, g4⟩
      | with_reducible exact ⟨V4.out.c1, R4.out.cells.1, R4.out.cells.2.2.2⟩
      | with_reducible exact ⟨(V4.out.other n4 _).c1, (R4.out.other m2 _).cells.1, (R4.out.other m2 _).cells.2.2.2⟩
      | with_reducible exact ⟨(((V4.out.other n4 _).other n5 _).other n5 _).c1, (((R4.out.other m2 _).other m3 _).other m3 _).cells.1, (((R4.out.other m2 _).other m3 _).other m3 _).cells.2.2.2⟩)
    (first
      | (go_at_call 54; refine (hC.out _ hBC).mono ?_; rintro en W2 ⟨V, rfl, hV, hB2⟩; have V4 := Lib.hid (V3d.out.below hB2); have R4 := Lib.hid (R3d.out.below hB2); have N4 := Lib.hid (N3d.out.below hB2); have F4 := Lib.hid (F3d.out.below hB2); have A4 := Lib.hid (A3d.out.below hB2); have HV4 := Lib.hid hV; have HB2 := Lib.hid hB2; clear hV hB2; have e0 := N4.out.c1; have e1 := Box.free N4.out 0; obtain ⟨e2, e3⟩ := F4.out.cell2; obtain ⟨e4, e5⟩ := F4.out.free2))
  obtain ⟨W5, hW5⟩ : ∃ W5, W5 = ((W2.setCell ⟨bn, 0, none⟩ (.int .i64 nx)).setCell ⟨bf, 0, none⟩ (.int .i64 0)).setCell ⟨bf, 1, none⟩ (.int .i64 0) := ⟨_, rfl⟩
  rw [← hW5]
  have p1 : ba ≠ bn := by omega
  have p2 : ba ≠ bf := by omega
  have p3 : ba ≠ b := by omega
  have p4 : ba ≠ br := by omega
  have p5 : br ≠ ba := by omega
  have p6 : b ≠ ba := by omega
  have p7 : bn ≠ ba := by omega
  have p8 : bf ≠ ba := by omega
  have V5 : Box W5 85 br #[.pointer (some ⟨b, 0, none⟩)] := by rw [hW5]; exact ((V4.out.other n4 _).other n5 _).other n5 _
  have R5 : Rb W5 92 b s' 0 0 p' := by rw [hW5]; exact Box.other (Box.other (Box.other R4.out m2 _) m3 _) m3 _
  have A5 : Box W5 26 ba #[.string ⟨#[]⟩, .int .i64 0, .int .i64 0, .int .i64 0] := by rw [hW5]; exact ((A4.out.other p1 _).other p2 _).other p2 _
  have N5 : Box W5 3 bn #[.int .i64 nx] := by rw [hW5]; exact ((N4.out.set1 _).other n6 _).other n6 _
  have F5 : Box W5 24 bf #[(.int .i64 0), (.int .i64 0)] := by rw [hW5]; exact ((F4.out.other m6 _).set2 _ _)
  have K5 : KS [b, br, bn, bf, ba] W2 W5 := by rw [hW5]; exact (((KS.refl _ W2).set bn 0 _ (by simp)).set bf 0 _ (by simp)).set bf 1 _ (by simp)
  clear hW5 e0 e1 e2 e3 e4 e5 g0 g1 g4
  have V5h := Lib.hid V5
  have F5h := Lib.hid F5
  have N5h := Lib.hid N5
  have A5h := Lib.hid A5
  have R5h := Lib.hid R5
  obtain ⟨c0, c1, c2, c3⟩ := A5.c4
  obtain ⟨f0, f1, f2, f3⟩ := A5.f4
  clear V5 F5 N5 A5 R5
  go_wp2
  have A6 := A5h.out.set4 (.string ⟨#[]⟩) (.int .i64 0) (.int .i64 0) (.int .i64 0)
  have R6 : Rb ((((W5.setCell ⟨ba, 0, none⟩ (.string ⟨#[]⟩)).setCell ⟨ba, 1, none⟩ (.int .i64 0)).setCell ⟨ba, 2, none⟩ (.int .i64 0)).setCell ⟨ba, 3, none⟩ (.int .i64 0)) 92 b s' 0 0 p' := (((Box.other R5h.out p6 _).other p6 _).other p6 _).other p6 _
  have V6 := (((V5h.out.other (i := 0) p5 (.string ⟨#[]⟩)).other (i := 1) p5 (.int .i64 0)).other (i := 2) p5 (.int .i64 0)).other (i := 3) p5 (.int .i64 0)
  have F6 := (((F5h.out.other (i := 0) p8 (.string ⟨#[]⟩)).other (i := 1) p8 (.int .i64 0)).other (i := 2) p8 (.int .i64 0)).other (i := 3) p8 (.int .i64 0)
  have N6 := (((N5h.out.other (i := 0) p7 (.string ⟨#[]⟩)).other (i := 1) p7 (.int .i64 0)).other (i := 2) p7 (.int .i64 0)).other (i := 3) p7 (.int .i64 0)
  have K6 : KS [b, br, bn, bf, ba] W2 _ := K5.set4 ba (by simp) (.string ⟨#[]⟩) (.int .i64 0) (.int .i64 0) (.int .i64 0)
  refine leaves_cons (f := 83) (args := #[.pointer (some ⟨br, 0, none⟩), .pointer (some ⟨bf, 0, none⟩), .pointer (some ⟨bn, 0, none⟩), .pointer (some ⟨ba, 0, none⟩)]) (by simp) (by simp [go_sem]) ?_
  refine (fin_okW b _ _ _ _ s' _ p' 0 _ _ _ _ _ .returning _ (Lib.hid R6) (Lib.hid V6) (Lib.hid F6) (Lib.hid N6) (Lib.hid A6) p3 p4 n1 n2).mono ?_
  rintro en u' W7 ⟨rfl, rfl, hA7, hK7⟩
  obtain ⟨d0, d1, d2, d3⟩ := hA7.c4
  have K7 := K6.trans (hK7.mono (by simp))
  refine ⟨.tuple #[.agg #[.string s', .int .i64 nx, .int .i64 0, .int .i64 0], V], by simp [results, Try.results53, go_sem, d0, d1, d2, d3], V, W.drew.heap.size, rfl, hBC.size, hRel.out _ _ _ _ HV4.out K7.size (fun k hk1 hk2 => K7.block k hk2 ?_), (below_then hBC HB2.out).trans (K7.below ?_ (Nat.le_trans hBC.size HB2.out.size))⟩
  · have : W.drew.heap.size = W.heap.size := rfl
    simp
    omega
  · intro k hk
    simp at hk
    omega

set_option maxRecDepth 100000 in
set_option maxHeartbeats 1000000 in
theorem field_oldS (s : ByteArray) (p e o : Int) (hs : s.size ≤ 9223372036854775807) (s' : ByteArray) (p' e' o' : Int) (H : Hid (cnt s p e o = (s', p', e', o'))) (he : Hid ((e' != 0) = true)) (fv : Value) (w : World) :
    Calls Try.prog 58 #[.agg #[.string s, .int .i64 p, .int .i64 e, .int .i64 o], fv] w fun en w' => en = .returned (.tuple #[.agg #[.string s', .int .i64 p', .int .i64 e', .int .i64 o'], .string ⟨#[]⟩]) ∧ Below w.heap.size w w' := by
  have A1 := Lib.hid (Box.new2 w (.cells #[.string s, .int .i64 p, .int .i64 e, .int .i64 o] 26) 26 #[.string ⟨#[]⟩, .int .i64 0, .int .i64 0, .int .i64 0])
  have B1 := Lib.hid (((Below.refl w.heap.size w).alloc (Nat.le_refl _) (.cells #[.string s, .int .i64 p, .int .i64 e, .int .i64 o] 26)).alloc (by simp) (.cells #[.string ⟨#[]⟩, .int .i64 0, .int .i64 0, .int .i64 0] 26))
  go_enter_defers Try.func58, Try.ntmps58
  go_wp2_with (go_at_call 67; refine (readerOf_any s p e o hs s' p' e' o' H _).mono ?_; rintro en w1 ⟨b, rfl, hb, hR, hB⟩; have R1 := Lib.hid hR; have A2 := Lib.hid (A1.out.below hB); have B2 := Lib.hid (below_then B1.out hB); have hlt := hR.lt; have hz : w.heap.size + 1 < w1.heap.size := (by have := hB.size; simp at this; omega); have hb2 : w.heap.size + 2 ≤ b := (by simp at hb; omega); clear hb hR hB; obtain ⟨c0, c1, c2, c3⟩ := R1.out.cells)
  obtain ⟨W, hW⟩ : ∃ W, W = ((w1.alloc (.cells #[.pointer (some ⟨b, 0, none⟩)] 85)).alloc (.cells #[.int .i64 p'] 3)).alloc (.cells #[.int .i64 0, .int .i64 0] 24) := ⟨_, rfl⟩
  rw [← hW]
  obtain ⟨V3, N3, F3, K3, hs3⟩ := three_new w1 W _ _ _ _ _ _ _ hW
  have R3 := Lib.hid (R1.out.below K3)
  have A3 := Lib.hid (A2.out.below K3)
  have B3 := Lib.hid (below_then B2.out K3)
  clear hW K3 c0 c1 c2 c3
  obtain ⟨c0, c1, c2, c3⟩ := A3.out.c4
  obtain ⟨f0, f1, f2, f3⟩ := A3.out.f4
  have V3h := Lib.hid V3
  have F3h := Lib.hid F3
  clear V3 F3 N3
  have hw3 : w1.heap.size + 3 ≤ W.heap.size := Nat.le_of_eq hs3.symm
  clear hs3
  go_wp2_with (go_at_call 72; refine (failed_any _ b s' e' o' p' _ he _ R3).mono ?_; rintro en w2 ⟨rfl, rfl⟩)
  have A4 := A3.out.set4 (.string ⟨#[]⟩) (.int .i64 0) (.int .i64 0) (.int .i64 0)
  have R4 : Rb ((((W.setCell ⟨w.heap.size + 1, 0, none⟩ (.string ⟨#[]⟩)).setCell ⟨w.heap.size + 1, 1, none⟩ (.int .i64 0)).setCell ⟨w.heap.size + 1, 2, none⟩ (.int .i64 0)).setCell ⟨w.heap.size + 1, 3, none⟩ (.int .i64 0)) 92 b s' e' o' p' := (((Box.other R3.out (by omega) _).other (by omega) _).other (by omega) _).other (by omega) _
  have V4 := (((V3h.out.other (b' := w.heap.size + 1) (i := 0) (by omega) (.string ⟨#[]⟩)).other (b' := w.heap.size + 1) (i := 1) (by omega) (.int .i64 0)).other (b' := w.heap.size + 1) (i := 2) (by omega) (.int .i64 0)).other (b' := w.heap.size + 1) (i := 3) (by omega) (.int .i64 0)
  have F4 := (((F3h.out.other (b' := w.heap.size + 1) (i := 0) (by omega) (.string ⟨#[]⟩)).other (b' := w.heap.size + 1) (i := 1) (by omega) (.int .i64 0)).other (b' := w.heap.size + 1) (i := 2) (by omega) (.int .i64 0)).other (b' := w.heap.size + 1) (i := 3) (by omega) (.int .i64 0)
  have B4 := Below.set4 B3.out (w.heap.size + 1) (by omega) (.string ⟨#[]⟩) (.int .i64 0) (.int .i64 0) (.int .i64 0)
  refine leaves_cons (f := 86) (args := #[.pointer (some ⟨w1.heap.size, 0, none⟩), .pointer (some ⟨w1.heap.size + 1 + 1, 0, none⟩), .pointer (some ⟨w1.heap.size + 1, 0, none⟩), .pointer (some ⟨w.heap.size + 1, 0, none⟩)]) (by simp) (by simp [go_sem]) ?_
  refine (fin_oldS b _ _ _ _ s' e' o' p' _ _ 0 _ _ _ _ .returning _ he (Lib.hid R4) (Lib.hid V4) (Lib.hid F4) (Lib.hid A4) (by omega) (by omega)).mono ?_
  rintro en u' W5 ⟨rfl, rfl, hA5, hK5⟩
  obtain ⟨d0, d1, d2, d3⟩ := hA5.c4
  refine ⟨.tuple #[.agg #[.string s', .int .i64 p', .int .i64 e', .int .i64 o'], .string ⟨#[]⟩], by simp [results, Try.results58, go_sem, d0, d1, d2, d3], rfl, ?_⟩
  have hz4 := B4.size
  refine B4.trans (hK5.below ?_ hz4)
  intro k hk
  simp at hk
  omega

set_option maxRecDepth 100000 in
set_option maxHeartbeats 1000000 in
theorem field_newS (s : ByteArray) (p e o : Int) (hs : s.size ≤ 9223372036854775807) (s' : ByteArray) (p' : Int) (H : Hid (cnt s p e o = (s', p', 0, 0))) (k1 : Nat) (nx fe fo : Int) (he : Hid ((fe != 0) = true)) (Rel : Nat → Value → World → Prop) (hRel : Hid (Stays Rel)) (w : World)
    (hC : Hid (∀ W, Below w.heap.size w W → Calls Try.prog 59 #[.string s', .int .i64 p', .pointer (some ⟨k1, 0, none⟩)] W (GivesC Rel nx fe fo W))) :
    Calls Try.prog 58 #[.agg #[.string s, .int .i64 p, .int .i64 e, .int .i64 o], .func (.func 59) #[] #[.pointer (some ⟨k1, 0, none⟩)]] w (GivesR Rel s' p' fe fo w) := by
  have A1 := Lib.hid (Box.new2 w (.cells #[.string s, .int .i64 p, .int .i64 e, .int .i64 o] 26) 26 #[.string ⟨#[]⟩, .int .i64 0, .int .i64 0, .int .i64 0])
  have B1 := Lib.hid (((Below.refl w.heap.size w).alloc (Nat.le_refl _) (.cells #[.string s, .int .i64 p, .int .i64 e, .int .i64 o] 26)).alloc (by simp) (.cells #[.string ⟨#[]⟩, .int .i64 0, .int .i64 0, .int .i64 0] 26))
  go_enter_defers Try.func58, Try.ntmps58
  go_wp2_with (go_at_call 67; refine (readerOf_any s p e o hs s' p' 0 0 H _).mono ?_; rintro en w1 ⟨b, rfl, hb, hR, hB⟩; have R1 := Lib.hid hR; have A2 := Lib.hid (A1.out.below hB); have B2 := Lib.hid (below_then B1.out hB); have hlt := hR.lt; have hz : w.heap.size + 1 < w1.heap.size := (by have := hB.size; simp at this; omega); have hb2 : w.heap.size + 2 ≤ b := (by simp at hb; omega); clear hb hR hB; obtain ⟨c0, c1, c2, c3⟩ := R1.out.cells)
  obtain ⟨W, hW⟩ : ∃ W, W = ((w1.alloc (.cells #[.pointer (some ⟨b, 0, none⟩)] 85)).alloc (.cells #[.int .i64 p'] 3)).alloc (.cells #[.int .i64 0, .int .i64 0] 24) := ⟨_, rfl⟩
  rw [← hW]
  obtain ⟨V3, N3, F3, K3, hs3⟩ := three_new w1 W _ _ _ _ _ _ _ hW
  have R3 := Lib.hid (R1.out.below K3)
  have A3 := Lib.hid (A2.out.below K3)
  have B3 := Lib.hid (below_then B2.out K3)
  clear hW K3 c0 c1 c2 c3
  obtain ⟨c0, c1, c2, c3⟩ := A3.out.c4
  obtain ⟨f0, f1, f2, f3⟩ := A3.out.f4
  have V3h := Lib.hid V3
  have F3h := Lib.hid F3
  have N3k := Lib.hid N3
  clear V3 F3 N3
  have hw3 : w1.heap.size + 3 ≤ W.heap.size := Nat.le_of_eq hs3.symm
  clear hs3
  have R3h := R3
  have hb3 := R1.out.lt
  have q0 : w.heap.size < w.heap.size + 1 := by omega
  have q1 : w.heap.size + 1 < b := by omega
  have q2 : b < w1.heap.size := hb3
  have q3 : w1.heap.size < w1.heap.size + 1 := by omega
  have q4 : w1.heap.size + 1 < w1.heap.size + 1 + 1 := by omega
  have q5 : w1.heap.size + 1 + 1 < W.heap.size := by omega
  go_wp2_with (go_at_call 72; refine (failed_any _ b s' 0 0 p' false (Lib.hid rfl) _ R3).mono ?_; rintro en w2 ⟨rfl, rfl⟩)
  generalize w1.heap.size + 1 + 1 = bf at *
  generalize w1.heap.size + 1 = bn at *
  generalize w1.heap.size = br at *
  generalize w.heap.size + 1 = ba at *
  have n1 : br ≠ b := by omega
  have n2 : bn ≠ b := by omega
  have n3 : bf ≠ b := by omega
  have n4 : br ≠ bn := by omega
  have n5 : br ≠ bf := by omega
  have n6 : bn ≠ bf := by omega
  have m1 : b ≠ br := by omega
  have m2 : b ≠ bn := by omega
  have m3 : b ≠ bf := by omega
  have m6 : bf ≠ bn := by omega
  have hBC : Below w.heap.size w W.drew := B3.out.drew
  have V3d : Hid (Box W.drew 85 br #[.pointer (some ⟨b, 0, none⟩)]) := Lib.hid V3h.out
  have R3d : Hid (Rb W.drew 92 b s' 0 0 p') := Lib.hid R3.out
  have N3d : Hid (Box W.drew 3 bn #[.int .i64 p']) := Lib.hid N3k.out
  have F3d : Hid (Box W.drew 24 bf #[.int .i64 0, .int .i64 0]) := Lib.hid F3h.out
  have A3d : Hid (Box W.drew 26 ba #[.string ⟨#[]⟩, .int .i64 0, .int .i64 0, .int .i64 0]) := Lib.hid A3.out
  clear c0 c1 c2 c3 f0 f1 f2 f3
  have g0 := V3d.out.c1
  obtain ⟨g1, _, _, g4⟩ := R3d.out.cells
  go_region_held3 (fun w' => w'.cell? ⟨br, 0, none⟩ = some (.pointer (some ⟨b, 0, none⟩)) ∧ w'.cell? ⟨b, 0, none⟩ = some (.string s') ∧ w'.cell? ⟨b, 3, none⟩ = some (.int .i64 p'))
    (first
      | with_reducible exact ⟨g0, g1, g4⟩
      | with_reducible exact ⟨V4.out.c1, R4.out.cells.1, R4.out.cells.2.2.2⟩
      | with_reducible exact ⟨(V4.out.other n4 _).c1, (R4.out.other m2 _).cells.1, (R4.out.other m2 _).cells.2.2.2⟩
      | with_reducible exact ⟨(((V4.out.other n4 _).other n5 _).other n5 _).c1, (((R4.out.other m2 _).other m3 _).other m3 _).cells.1, (((R4.out.other m2 _).other m3 _).other m3 _).cells.2.2.2⟩)
    (first
      | (go_at_call 59; refine (hC.out _ hBC).mono ?_; rintro en W2 ⟨V, rfl, hV, hB2⟩; have V4 := Lib.hid (V3d.out.below hB2); have R4 := Lib.hid (R3d.out.below hB2); have N4 := Lib.hid (N3d.out.below hB2); have F4 := Lib.hid (F3d.out.below hB2); have A4 := Lib.hid (A3d.out.below hB2); have HV4 := Lib.hid hV; have HB2 := Lib.hid hB2; clear hV hB2; have e0 := N4.out.c1; have e1 := Box.free N4.out 0; obtain ⟨e2, e3⟩ := F4.out.cell2; obtain ⟨e4, e5⟩ := F4.out.free2))
  obtain ⟨W5, hW5⟩ : ∃ W5, W5 = ((W2.setCell ⟨bn, 0, none⟩ (.int .i64 nx)).setCell ⟨bf, 0, none⟩ (.int .i64 fe)).setCell ⟨bf, 1, none⟩ (.int .i64 fo) := ⟨_, rfl⟩
  rw [← hW5]
  have p1 : ba ≠ bn := by omega
  have p2 : ba ≠ bf := by omega
  have p3 : ba ≠ b := by omega
  have p4 : ba ≠ br := by omega
  have p5 : br ≠ ba := by omega
  have p6 : b ≠ ba := by omega
  have p7 : bn ≠ ba := by omega
  have p8 : bf ≠ ba := by omega
  have V5 : Box W5 85 br #[.pointer (some ⟨b, 0, none⟩)] := by rw [hW5]; exact ((V4.out.other n4 _).other n5 _).other n5 _
  have R5 : Rb W5 92 b s' 0 0 p' := by rw [hW5]; exact Box.other (Box.other (Box.other R4.out m2 _) m3 _) m3 _
  have A5 : Box W5 26 ba #[.string ⟨#[]⟩, .int .i64 0, .int .i64 0, .int .i64 0] := by rw [hW5]; exact ((A4.out.other p1 _).other p2 _).other p2 _
  have N5 : Box W5 3 bn #[.int .i64 nx] := by rw [hW5]; exact ((N4.out.set1 _).other n6 _).other n6 _
  have F5 : Box W5 24 bf #[(.int .i64 fe), (.int .i64 fo)] := by rw [hW5]; exact ((F4.out.other m6 _).set2 _ _)
  have K5 : KS [b, br, bn, bf, ba] W2 W5 := by rw [hW5]; exact (((KS.refl _ W2).set bn 0 _ (by simp)).set bf 0 _ (by simp)).set bf 1 _ (by simp)
  clear hW5 e0 e1 e2 e3 e4 e5 g0 g1 g4
  have V5h := Lib.hid V5
  have F5h := Lib.hid F5
  have N5h := Lib.hid N5
  have A5h := Lib.hid A5
  have R5h := Lib.hid R5
  obtain ⟨c0, c1, c2, c3⟩ := A5.c4
  obtain ⟨f0, f1, f2, f3⟩ := A5.f4
  clear V5 F5 N5 A5 R5
  go_wp2
  have A6 := A5h.out.set4 (.string ⟨#[]⟩) (.int .i64 0) (.int .i64 0) (.int .i64 0)
  have R6 : Rb ((((W5.setCell ⟨ba, 0, none⟩ (.string ⟨#[]⟩)).setCell ⟨ba, 1, none⟩ (.int .i64 0)).setCell ⟨ba, 2, none⟩ (.int .i64 0)).setCell ⟨ba, 3, none⟩ (.int .i64 0)) 92 b s' 0 0 p' := (((Box.other R5h.out p6 _).other p6 _).other p6 _).other p6 _
  have V6 := (((V5h.out.other (i := 0) p5 (.string ⟨#[]⟩)).other (i := 1) p5 (.int .i64 0)).other (i := 2) p5 (.int .i64 0)).other (i := 3) p5 (.int .i64 0)
  have F6 := (((F5h.out.other (i := 0) p8 (.string ⟨#[]⟩)).other (i := 1) p8 (.int .i64 0)).other (i := 2) p8 (.int .i64 0)).other (i := 3) p8 (.int .i64 0)
  have N6 := (((N5h.out.other (i := 0) p7 (.string ⟨#[]⟩)).other (i := 1) p7 (.int .i64 0)).other (i := 2) p7 (.int .i64 0)).other (i := 3) p7 (.int .i64 0)
  have K6 : KS [b, br, bn, bf, ba] W2 _ := K5.set4 ba (by simp) (.string ⟨#[]⟩) (.int .i64 0) (.int .i64 0) (.int .i64 0)
  refine leaves_cons (f := 86) (args := #[.pointer (some ⟨br, 0, none⟩), .pointer (some ⟨bf, 0, none⟩), .pointer (some ⟨bn, 0, none⟩), .pointer (some ⟨ba, 0, none⟩)]) (by simp) (by simp [go_sem]) ?_
  refine (fin_newS b _ _ _ _ s' _ p' fe fo 0 _ _ _ _ .returning _ he (Lib.hid R6) (Lib.hid V6) (Lib.hid F6) (Lib.hid A6) p3 p4 n1).mono ?_
  rintro en u' W7 ⟨rfl, rfl, hA7, hK7⟩
  obtain ⟨d0, d1, d2, d3⟩ := hA7.c4
  have K7 := K6.trans (hK7.mono (by simp))
  refine ⟨.tuple #[.agg #[.string s', .int .i64 p', .int .i64 fe, .int .i64 fo], V], by simp [results, Try.results58, go_sem, d0, d1, d2, d3], V, W.drew.heap.size, rfl, hBC.size, hRel.out _ _ _ _ HV4.out K7.size (fun k hk1 hk2 => K7.block k hk2 ?_), (below_then hBC HB2.out).trans (K7.below ?_ (Nat.le_trans hBC.size HB2.out.size))⟩
  · have : W.drew.heap.size = W.heap.size := rfl
    simp
    omega
  · intro k hk
    simp at hk
    omega

set_option maxRecDepth 100000 in
set_option maxHeartbeats 1000000 in
theorem field_okS (s : ByteArray) (p e o : Int) (hs : s.size ≤ 9223372036854775807) (s' : ByteArray) (p' : Int) (H : Hid (cnt s p e o = (s', p', 0, 0))) (k1 : Nat) (nx : Int) (he : Hid (True)) (Rel : Nat → Value → World → Prop) (hRel : Hid (Stays Rel)) (w : World)
    (hC : Hid (∀ W, Below w.heap.size w W → Calls Try.prog 59 #[.string s', .int .i64 p', .pointer (some ⟨k1, 0, none⟩)] W (GivesC Rel nx 0 0 W))) :
    Calls Try.prog 58 #[.agg #[.string s, .int .i64 p, .int .i64 e, .int .i64 o], .func (.func 59) #[] #[.pointer (some ⟨k1, 0, none⟩)]] w (GivesR Rel s' nx 0 0 w) := by
  have A1 := Lib.hid (Box.new2 w (.cells #[.string s, .int .i64 p, .int .i64 e, .int .i64 o] 26) 26 #[.string ⟨#[]⟩, .int .i64 0, .int .i64 0, .int .i64 0])
  have B1 := Lib.hid (((Below.refl w.heap.size w).alloc (Nat.le_refl _) (.cells #[.string s, .int .i64 p, .int .i64 e, .int .i64 o] 26)).alloc (by simp) (.cells #[.string ⟨#[]⟩, .int .i64 0, .int .i64 0, .int .i64 0] 26))
  go_enter_defers Try.func58, Try.ntmps58
  go_wp2_with (go_at_call 67; refine (readerOf_any s p e o hs s' p' 0 0 H _).mono ?_; rintro en w1 ⟨b, rfl, hb, hR, hB⟩; have R1 := Lib.hid hR; have A2 := Lib.hid (A1.out.below hB); have B2 := Lib.hid (below_then B1.out hB); have hlt := hR.lt; have hz : w.heap.size + 1 < w1.heap.size := (by have := hB.size; simp at this; omega); have hb2 : w.heap.size + 2 ≤ b := (by simp at hb; omega); clear hb hR hB; obtain ⟨c0, c1, c2, c3⟩ := R1.out.cells)
  obtain ⟨W, hW⟩ : ∃ W, W = ((w1.alloc (.cells #[.pointer (some ⟨b, 0, none⟩)] 85)).alloc (.cells #[.int .i64 p'] 3)).alloc (.cells #[.int .i64 0, .int .i64 0] 24) := ⟨_, rfl⟩
  rw [← hW]
  obtain ⟨V3, N3, F3, K3, hs3⟩ := three_new w1 W _ _ _ _ _ _ _ hW
  have R3 := Lib.hid (R1.out.below K3)
  have A3 := Lib.hid (A2.out.below K3)
  have B3 := Lib.hid (below_then B2.out K3)
  clear hW K3 c0 c1 c2 c3
  obtain ⟨c0, c1, c2, c3⟩ := A3.out.c4
  obtain ⟨f0, f1, f2, f3⟩ := A3.out.f4
  have V3h := Lib.hid V3
  have F3h := Lib.hid F3
  have N3k := Lib.hid N3
  clear V3 F3 N3
  have hw3 : w1.heap.size + 3 ≤ W.heap.size := Nat.le_of_eq hs3.symm
  clear hs3
  have R3h := R3
  have hb3 := R1.out.lt
  have q0 : w.heap.size < w.heap.size + 1 := by omega
  have q1 : w.heap.size + 1 < b := by omega
  have q2 : b < w1.heap.size := hb3
  have q3 : w1.heap.size < w1.heap.size + 1 := by omega
  have q4 : w1.heap.size + 1 < w1.heap.size + 1 + 1 := by omega
  have q5 : w1.heap.size + 1 + 1 < W.heap.size := by omega
  go_wp2_with (go_at_call 72; refine (failed_any _ b s' 0 0 p' false (Lib.hid rfl) _ R3).mono ?_; rintro en w2 ⟨rfl, rfl⟩)
  generalize w1.heap.size + 1 + 1 = bf at *
  generalize w1.heap.size + 1 = bn at *
  generalize w1.heap.size = br at *
  generalize w.heap.size + 1 = ba at *
  have n1 : br ≠ b := by omega
  have n2 : bn ≠ b := by omega
  have n3 : bf ≠ b := by omega
  have n4 : br ≠ bn := by omega
  have n5 : br ≠ bf := by omega
  have n6 : bn ≠ bf := by omega
  have m1 : b ≠ br := by omega
  have m2 : b ≠ bn := by omega
  have m3 : b ≠ bf := by omega
  have m6 : bf ≠ bn := by omega
  have hBC : Below w.heap.size w W.drew := B3.out.drew
  have V3d : Hid (Box W.drew 85 br #[.pointer (some ⟨b, 0, none⟩)]) := Lib.hid V3h.out
  have R3d : Hid (Rb W.drew 92 b s' 0 0 p') := Lib.hid R3.out
  have N3d : Hid (Box W.drew 3 bn #[.int .i64 p']) := Lib.hid N3k.out
  have F3d : Hid (Box W.drew 24 bf #[.int .i64 0, .int .i64 0]) := Lib.hid F3h.out
  have A3d : Hid (Box W.drew 26 ba #[.string ⟨#[]⟩, .int .i64 0, .int .i64 0, .int .i64 0]) := Lib.hid A3.out
  clear c0 c1 c2 c3 f0 f1 f2 f3
  have g0 := V3d.out.c1
  obtain ⟨g1, _, _, g4⟩ := R3d.out.cells
  go_region_held3 (fun w' => w'.cell? ⟨br, 0, none⟩ = some (.pointer (some ⟨b, 0, none⟩)) ∧ w'.cell? ⟨b, 0, none⟩ = some (.string s') ∧ w'.cell? ⟨b, 3, none⟩ = some (.int .i64 p'))
    (first
      | with_reducible exact ⟨g0, g1, g4⟩
      | with_reducible exact ⟨V4.out.c1, R4.out.cells.1, R4.out.cells.2.2.2⟩
      | with_reducible exact ⟨(V4.out.other n4 _).c1, (R4.out.other m2 _).cells.1, (R4.out.other m2 _).cells.2.2.2⟩
      | with_reducible exact ⟨(((V4.out.other n4 _).other n5 _).other n5 _).c1, (((R4.out.other m2 _).other m3 _).other m3 _).cells.1, (((R4.out.other m2 _).other m3 _).other m3 _).cells.2.2.2⟩)
    (first
      | (go_at_call 59; refine (hC.out _ hBC).mono ?_; rintro en W2 ⟨V, rfl, hV, hB2⟩; have V4 := Lib.hid (V3d.out.below hB2); have R4 := Lib.hid (R3d.out.below hB2); have N4 := Lib.hid (N3d.out.below hB2); have F4 := Lib.hid (F3d.out.below hB2); have A4 := Lib.hid (A3d.out.below hB2); have HV4 := Lib.hid hV; have HB2 := Lib.hid hB2; clear hV hB2; have e0 := N4.out.c1; have e1 := Box.free N4.out 0; obtain ⟨e2, e3⟩ := F4.out.cell2; obtain ⟨e4, e5⟩ := F4.out.free2))
  obtain ⟨W5, hW5⟩ : ∃ W5, W5 = ((W2.setCell ⟨bn, 0, none⟩ (.int .i64 nx)).setCell ⟨bf, 0, none⟩ (.int .i64 0)).setCell ⟨bf, 1, none⟩ (.int .i64 0) := ⟨_, rfl⟩
  rw [← hW5]
  have p1 : ba ≠ bn := by omega
  have p2 : ba ≠ bf := by omega
  have p3 : ba ≠ b := by omega
  have p4 : ba ≠ br := by omega
  have p5 : br ≠ ba := by omega
  have p6 : b ≠ ba := by omega
  have p7 : bn ≠ ba := by omega
  have p8 : bf ≠ ba := by omega
  have V5 : Box W5 85 br #[.pointer (some ⟨b, 0, none⟩)] := by rw [hW5]; exact ((V4.out.other n4 _).other n5 _).other n5 _
  have R5 : Rb W5 92 b s' 0 0 p' := by rw [hW5]; exact Box.other (Box.other (Box.other R4.out m2 _) m3 _) m3 _
  have A5 : Box W5 26 ba #[.string ⟨#[]⟩, .int .i64 0, .int .i64 0, .int .i64 0] := by rw [hW5]; exact ((A4.out.other p1 _).other p2 _).other p2 _
  have N5 : Box W5 3 bn #[.int .i64 nx] := by rw [hW5]; exact ((N4.out.set1 _).other n6 _).other n6 _
  have F5 : Box W5 24 bf #[(.int .i64 0), (.int .i64 0)] := by rw [hW5]; exact ((F4.out.other m6 _).set2 _ _)
  have K5 : KS [b, br, bn, bf, ba] W2 W5 := by rw [hW5]; exact (((KS.refl _ W2).set bn 0 _ (by simp)).set bf 0 _ (by simp)).set bf 1 _ (by simp)
  clear hW5 e0 e1 e2 e3 e4 e5 g0 g1 g4
  have V5h := Lib.hid V5
  have F5h := Lib.hid F5
  have N5h := Lib.hid N5
  have A5h := Lib.hid A5
  have R5h := Lib.hid R5
  obtain ⟨c0, c1, c2, c3⟩ := A5.c4
  obtain ⟨f0, f1, f2, f3⟩ := A5.f4
  clear V5 F5 N5 A5 R5
  go_wp2
  have A6 := A5h.out.set4 (.string ⟨#[]⟩) (.int .i64 0) (.int .i64 0) (.int .i64 0)
  have R6 : Rb ((((W5.setCell ⟨ba, 0, none⟩ (.string ⟨#[]⟩)).setCell ⟨ba, 1, none⟩ (.int .i64 0)).setCell ⟨ba, 2, none⟩ (.int .i64 0)).setCell ⟨ba, 3, none⟩ (.int .i64 0)) 92 b s' 0 0 p' := (((Box.other R5h.out p6 _).other p6 _).other p6 _).other p6 _
  have V6 := (((V5h.out.other (i := 0) p5 (.string ⟨#[]⟩)).other (i := 1) p5 (.int .i64 0)).other (i := 2) p5 (.int .i64 0)).other (i := 3) p5 (.int .i64 0)
  have F6 := (((F5h.out.other (i := 0) p8 (.string ⟨#[]⟩)).other (i := 1) p8 (.int .i64 0)).other (i := 2) p8 (.int .i64 0)).other (i := 3) p8 (.int .i64 0)
  have N6 := (((N5h.out.other (i := 0) p7 (.string ⟨#[]⟩)).other (i := 1) p7 (.int .i64 0)).other (i := 2) p7 (.int .i64 0)).other (i := 3) p7 (.int .i64 0)
  have K6 : KS [b, br, bn, bf, ba] W2 _ := K5.set4 ba (by simp) (.string ⟨#[]⟩) (.int .i64 0) (.int .i64 0) (.int .i64 0)
  refine leaves_cons (f := 86) (args := #[.pointer (some ⟨br, 0, none⟩), .pointer (some ⟨bf, 0, none⟩), .pointer (some ⟨bn, 0, none⟩), .pointer (some ⟨ba, 0, none⟩)]) (by simp) (by simp [go_sem]) ?_
  refine (fin_okS b _ _ _ _ s' _ p' 0 _ _ _ _ _ .returning _ (Lib.hid R6) (Lib.hid V6) (Lib.hid F6) (Lib.hid N6) (Lib.hid A6) p3 p4 n1 n2).mono ?_
  rintro en u' W7 ⟨rfl, rfl, hA7, hK7⟩
  obtain ⟨d0, d1, d2, d3⟩ := hA7.c4
  have K7 := K6.trans (hK7.mono (by simp))
  refine ⟨.tuple #[.agg #[.string s', .int .i64 nx, .int .i64 0, .int .i64 0], V], by simp [results, Try.results58, go_sem, d0, d1, d2, d3], V, W.drew.heap.size, rfl, hBC.size, hRel.out _ _ _ _ HV4.out K7.size (fun k hk1 hk2 => K7.block k hk2 ?_), (below_then hBC HB2.out).trans (K7.below ?_ (Nat.le_trans hBC.size HB2.out.size))⟩
  · have : W.drew.heap.size = W.heap.size := rfl
    simp
    omega
  · intro k hk
    simp at hk
    omega

set_option maxRecDepth 100000 in
set_option maxHeartbeats 1000000 in
theorem field_newX (s : ByteArray) (p e o : Int) (hs : s.size ≤ 9223372036854775807) (s' : ByteArray) (p' : Int) (H : Hid (cnt s p e o = (s', p', 0, 0))) (k1 : Nat) (nx fe fo : Int) (he : Hid ((fe != 0) = true)) (Rel : Nat → Value → World → Prop) (hRel : Hid (Stays Rel)) (w : World)
    (hC : Hid (∀ W, Below w.heap.size w W → Calls Try.prog 61 #[.string s', .int .i64 p', .pointer (some ⟨k1, 0, none⟩)] W (GivesC Rel nx fe fo W))) :
    Calls Try.prog 58 #[.agg #[.string s, .int .i64 p, .int .i64 e, .int .i64 o], .func (.func 61) #[] #[.pointer (some ⟨k1, 0, none⟩)]] w (GivesR Rel s' p' fe fo w) := by
  have A1 := Lib.hid (Box.new2 w (.cells #[.string s, .int .i64 p, .int .i64 e, .int .i64 o] 26) 26 #[.string ⟨#[]⟩, .int .i64 0, .int .i64 0, .int .i64 0])
  have B1 := Lib.hid (((Below.refl w.heap.size w).alloc (Nat.le_refl _) (.cells #[.string s, .int .i64 p, .int .i64 e, .int .i64 o] 26)).alloc (by simp) (.cells #[.string ⟨#[]⟩, .int .i64 0, .int .i64 0, .int .i64 0] 26))
  go_enter_defers Try.func58, Try.ntmps58
  go_wp2_with (go_at_call 67; refine (readerOf_any s p e o hs s' p' 0 0 H _).mono ?_; rintro en w1 ⟨b, rfl, hb, hR, hB⟩; have R1 := Lib.hid hR; have A2 := Lib.hid (A1.out.below hB); have B2 := Lib.hid (below_then B1.out hB); have hlt := hR.lt; have hz : w.heap.size + 1 < w1.heap.size := (by have := hB.size; simp at this; omega); have hb2 : w.heap.size + 2 ≤ b := (by simp at hb; omega); clear hb hR hB; obtain ⟨c0, c1, c2, c3⟩ := R1.out.cells)
  obtain ⟨W, hW⟩ : ∃ W, W = ((w1.alloc (.cells #[.pointer (some ⟨b, 0, none⟩)] 85)).alloc (.cells #[.int .i64 p'] 3)).alloc (.cells #[.int .i64 0, .int .i64 0] 24) := ⟨_, rfl⟩
  rw [← hW]
  obtain ⟨V3, N3, F3, K3, hs3⟩ := three_new w1 W _ _ _ _ _ _ _ hW
  have R3 := Lib.hid (R1.out.below K3)
  have A3 := Lib.hid (A2.out.below K3)
  have B3 := Lib.hid (below_then B2.out K3)
  clear hW K3 c0 c1 c2 c3
  obtain ⟨c0, c1, c2, c3⟩ := A3.out.c4
  obtain ⟨f0, f1, f2, f3⟩ := A3.out.f4
  have V3h := Lib.hid V3
  have F3h := Lib.hid F3
  have N3k := Lib.hid N3
  clear V3 F3 N3
  have hw3 : w1.heap.size + 3 ≤ W.heap.size := Nat.le_of_eq hs3.symm
  clear hs3
  have R3h := R3
  have hb3 := R1.out.lt
  have q0 : w.heap.size < w.heap.size + 1 := by omega
  have q1 : w.heap.size + 1 < b := by omega
  have q2 : b < w1.heap.size := hb3
  have q3 : w1.heap.size < w1.heap.size + 1 := by omega
  have q4 : w1.heap.size + 1 < w1.heap.size + 1 + 1 := by omega
  have q5 : w1.heap.size + 1 + 1 < W.heap.size := by omega
  go_wp2_with (go_at_call 72; refine (failed_any _ b s' 0 0 p' false (Lib.hid rfl) _ R3).mono ?_; rintro en w2 ⟨rfl, rfl⟩)
  generalize w1.heap.size + 1 + 1 = bf at *
  generalize w1.heap.size + 1 = bn at *
  generalize w1.heap.size = br at *
  generalize w.heap.size + 1 = ba at *
  have n1 : br ≠ b := by omega
  have n2 : bn ≠ b := by omega
  have n3 : bf ≠ b := by omega
  have n4 : br ≠ bn := by omega
  have n5 : br ≠ bf := by omega
  have n6 : bn ≠ bf := by omega
  have m1 : b ≠ br := by omega
  have m2 : b ≠ bn := by omega
  have m3 : b ≠ bf := by omega
  have m6 : bf ≠ bn := by omega
  have hBC : Below w.heap.size w W.drew := B3.out.drew
  have V3d : Hid (Box W.drew 85 br #[.pointer (some ⟨b, 0, none⟩)]) := Lib.hid V3h.out
  have R3d : Hid (Rb W.drew 92 b s' 0 0 p') := Lib.hid R3.out
  have N3d : Hid (Box W.drew 3 bn #[.int .i64 p']) := Lib.hid N3k.out
  have F3d : Hid (Box W.drew 24 bf #[.int .i64 0, .int .i64 0]) := Lib.hid F3h.out
  have A3d : Hid (Box W.drew 26 ba #[.string ⟨#[]⟩, .int .i64 0, .int .i64 0, .int .i64 0]) := Lib.hid A3.out
  clear c0 c1 c2 c3 f0 f1 f2 f3
  have g0 := V3d.out.c1
  obtain ⟨g1, _, _, g4⟩ := R3d.out.cells
  go_region_held3 (fun w' => w'.cell? ⟨br, 0, none⟩ = some (.pointer (some ⟨b, 0, none⟩)) ∧ w'.cell? ⟨b, 0, none⟩ = some (.string s') ∧ w'.cell? ⟨b, 3, none⟩ = some (.int .i64 p'))
    (first
      | with_reducible exact ⟨g0, g1, g4⟩
      | with_reducible exact ⟨V4.out.c1, R4.out.cells.1, R4.out.cells.2.2.2⟩
      | with_reducible exact ⟨(V4.out.other n4 _).c1, (R4.out.other m2 _).cells.1, (R4.out.other m2 _).cells.2.2.2⟩
      | with_reducible exact ⟨(((V4.out.other n4 _).other n5 _).other n5 _).c1, (((R4.out.other m2 _).other m3 _).other m3 _).cells.1, (((R4.out.other m2 _).other m3 _).other m3 _).cells.2.2.2⟩)
    (first
      | (go_at_call 61; refine (hC.out _ hBC).mono ?_; rintro en W2 ⟨V, rfl, hV, hB2⟩; have V4 := Lib.hid (V3d.out.below hB2); have R4 := Lib.hid (R3d.out.below hB2); have N4 := Lib.hid (N3d.out.below hB2); have F4 := Lib.hid (F3d.out.below hB2); have A4 := Lib.hid (A3d.out.below hB2); have HV4 := Lib.hid hV; have HB2 := Lib.hid hB2; clear hV hB2; have e0 := N4.out.c1; have e1 := Box.free N4.out 0; obtain ⟨e2, e3⟩ := F4.out.cell2; obtain ⟨e4, e5⟩ := F4.out.free2))
  obtain ⟨W5, hW5⟩ : ∃ W5, W5 = ((W2.setCell ⟨bn, 0, none⟩ (.int .i64 nx)).setCell ⟨bf, 0, none⟩ (.int .i64 fe)).setCell ⟨bf, 1, none⟩ (.int .i64 fo) := ⟨_, rfl⟩
  rw [← hW5]
  have p1 : ba ≠ bn := by omega
  have p2 : ba ≠ bf := by omega
  have p3 : ba ≠ b := by omega
  have p4 : ba ≠ br := by omega
  have p5 : br ≠ ba := by omega
  have p6 : b ≠ ba := by omega
  have p7 : bn ≠ ba := by omega
  have p8 : bf ≠ ba := by omega
  have V5 : Box W5 85 br #[.pointer (some ⟨b, 0, none⟩)] := by rw [hW5]; exact ((V4.out.other n4 _).other n5 _).other n5 _
  have R5 : Rb W5 92 b s' 0 0 p' := by rw [hW5]; exact Box.other (Box.other (Box.other R4.out m2 _) m3 _) m3 _
  have A5 : Box W5 26 ba #[.string ⟨#[]⟩, .int .i64 0, .int .i64 0, .int .i64 0] := by rw [hW5]; exact ((A4.out.other p1 _).other p2 _).other p2 _
  have N5 : Box W5 3 bn #[.int .i64 nx] := by rw [hW5]; exact ((N4.out.set1 _).other n6 _).other n6 _
  have F5 : Box W5 24 bf #[(.int .i64 fe), (.int .i64 fo)] := by rw [hW5]; exact ((F4.out.other m6 _).set2 _ _)
  have K5 : KS [b, br, bn, bf, ba] W2 W5 := by rw [hW5]; exact (((KS.refl _ W2).set bn 0 _ (by simp)).set bf 0 _ (by simp)).set bf 1 _ (by simp)
  clear hW5 e0 e1 e2 e3 e4 e5 g0 g1 g4
  have V5h := Lib.hid V5
  have F5h := Lib.hid F5
  have N5h := Lib.hid N5
  have A5h := Lib.hid A5
  have R5h := Lib.hid R5
  obtain ⟨c0, c1, c2, c3⟩ := A5.c4
  obtain ⟨f0, f1, f2, f3⟩ := A5.f4
  clear V5 F5 N5 A5 R5
  go_wp2
  have A6 := A5h.out.set4 (.string ⟨#[]⟩) (.int .i64 0) (.int .i64 0) (.int .i64 0)
  have R6 : Rb ((((W5.setCell ⟨ba, 0, none⟩ (.string ⟨#[]⟩)).setCell ⟨ba, 1, none⟩ (.int .i64 0)).setCell ⟨ba, 2, none⟩ (.int .i64 0)).setCell ⟨ba, 3, none⟩ (.int .i64 0)) 92 b s' 0 0 p' := (((Box.other R5h.out p6 _).other p6 _).other p6 _).other p6 _
  have V6 := (((V5h.out.other (i := 0) p5 (.string ⟨#[]⟩)).other (i := 1) p5 (.int .i64 0)).other (i := 2) p5 (.int .i64 0)).other (i := 3) p5 (.int .i64 0)
  have F6 := (((F5h.out.other (i := 0) p8 (.string ⟨#[]⟩)).other (i := 1) p8 (.int .i64 0)).other (i := 2) p8 (.int .i64 0)).other (i := 3) p8 (.int .i64 0)
  have N6 := (((N5h.out.other (i := 0) p7 (.string ⟨#[]⟩)).other (i := 1) p7 (.int .i64 0)).other (i := 2) p7 (.int .i64 0)).other (i := 3) p7 (.int .i64 0)
  have K6 : KS [b, br, bn, bf, ba] W2 _ := K5.set4 ba (by simp) (.string ⟨#[]⟩) (.int .i64 0) (.int .i64 0) (.int .i64 0)
  refine leaves_cons (f := 86) (args := #[.pointer (some ⟨br, 0, none⟩), .pointer (some ⟨bf, 0, none⟩), .pointer (some ⟨bn, 0, none⟩), .pointer (some ⟨ba, 0, none⟩)]) (by simp) (by simp [go_sem]) ?_
  refine (fin_newS b _ _ _ _ s' _ p' fe fo 0 _ _ _ _ .returning _ he (Lib.hid R6) (Lib.hid V6) (Lib.hid F6) (Lib.hid A6) p3 p4 n1).mono ?_
  rintro en u' W7 ⟨rfl, rfl, hA7, hK7⟩
  obtain ⟨d0, d1, d2, d3⟩ := hA7.c4
  have K7 := K6.trans (hK7.mono (by simp))
  refine ⟨.tuple #[.agg #[.string s', .int .i64 p', .int .i64 fe, .int .i64 fo], V], by simp [results, Try.results58, go_sem, d0, d1, d2, d3], V, W.drew.heap.size, rfl, hBC.size, hRel.out _ _ _ _ HV4.out K7.size (fun k hk1 hk2 => K7.block k hk2 ?_), (below_then hBC HB2.out).trans (K7.below ?_ (Nat.le_trans hBC.size HB2.out.size))⟩
  · have : W.drew.heap.size = W.heap.size := rfl
    simp
    omega
  · intro k hk
    simp at hk
    omega

set_option maxRecDepth 100000 in
set_option maxHeartbeats 1000000 in
theorem field_okX (s : ByteArray) (p e o : Int) (hs : s.size ≤ 9223372036854775807) (s' : ByteArray) (p' : Int) (H : Hid (cnt s p e o = (s', p', 0, 0))) (k1 : Nat) (nx : Int) (he : Hid (True)) (Rel : Nat → Value → World → Prop) (hRel : Hid (Stays Rel)) (w : World)
    (hC : Hid (∀ W, Below w.heap.size w W → Calls Try.prog 61 #[.string s', .int .i64 p', .pointer (some ⟨k1, 0, none⟩)] W (GivesC Rel nx 0 0 W))) :
    Calls Try.prog 58 #[.agg #[.string s, .int .i64 p, .int .i64 e, .int .i64 o], .func (.func 61) #[] #[.pointer (some ⟨k1, 0, none⟩)]] w (GivesR Rel s' nx 0 0 w) := by
  have A1 := Lib.hid (Box.new2 w (.cells #[.string s, .int .i64 p, .int .i64 e, .int .i64 o] 26) 26 #[.string ⟨#[]⟩, .int .i64 0, .int .i64 0, .int .i64 0])
  have B1 := Lib.hid (((Below.refl w.heap.size w).alloc (Nat.le_refl _) (.cells #[.string s, .int .i64 p, .int .i64 e, .int .i64 o] 26)).alloc (by simp) (.cells #[.string ⟨#[]⟩, .int .i64 0, .int .i64 0, .int .i64 0] 26))
  go_enter_defers Try.func58, Try.ntmps58
  go_wp2_with (go_at_call 67; refine (readerOf_any s p e o hs s' p' 0 0 H _).mono ?_; rintro en w1 ⟨b, rfl, hb, hR, hB⟩; have R1 := Lib.hid hR; have A2 := Lib.hid (A1.out.below hB); have B2 := Lib.hid (below_then B1.out hB); have hlt := hR.lt; have hz : w.heap.size + 1 < w1.heap.size := (by have := hB.size; simp at this; omega); have hb2 : w.heap.size + 2 ≤ b := (by simp at hb; omega); clear hb hR hB; obtain ⟨c0, c1, c2, c3⟩ := R1.out.cells)
  obtain ⟨W, hW⟩ : ∃ W, W = ((w1.alloc (.cells #[.pointer (some ⟨b, 0, none⟩)] 85)).alloc (.cells #[.int .i64 p'] 3)).alloc (.cells #[.int .i64 0, .int .i64 0] 24) := ⟨_, rfl⟩
  rw [← hW]
  obtain ⟨V3, N3, F3, K3, hs3⟩ := three_new w1 W _ _ _ _ _ _ _ hW
  have R3 := Lib.hid (R1.out.below K3)
  have A3 := Lib.hid (A2.out.below K3)
  have B3 := Lib.hid (below_then B2.out K3)
  clear hW K3 c0 c1 c2 c3
  obtain ⟨c0, c1, c2, c3⟩ := A3.out.c4
  obtain ⟨f0, f1, f2, f3⟩ := A3.out.f4
  have V3h := Lib.hid V3
  have F3h := Lib.hid F3
  have N3k := Lib.hid N3
  clear V3 F3 N3
  have hw3 : w1.heap.size + 3 ≤ W.heap.size := Nat.le_of_eq hs3.symm
  clear hs3
  have R3h := R3
  have hb3 := R1.out.lt
  have q0 : w.heap.size < w.heap.size + 1 := by omega
  have q1 : w.heap.size + 1 < b := by omega
  have q2 : b < w1.heap.size := hb3
  have q3 : w1.heap.size < w1.heap.size + 1 := by omega
  have q4 : w1.heap.size + 1 < w1.heap.size + 1 + 1 := by omega
  have q5 : w1.heap.size + 1 + 1 < W.heap.size := by omega
  go_wp2_with (go_at_call 72; refine (failed_any _ b s' 0 0 p' false (Lib.hid rfl) _ R3).mono ?_; rintro en w2 ⟨rfl, rfl⟩)
  generalize w1.heap.size + 1 + 1 = bf at *
  generalize w1.heap.size + 1 = bn at *
  generalize w1.heap.size = br at *
  generalize w.heap.size + 1 = ba at *
  have n1 : br ≠ b := by omega
  have n2 : bn ≠ b := by omega
  have n3 : bf ≠ b := by omega
  have n4 : br ≠ bn := by omega
  have n5 : br ≠ bf := by omega
  have n6 : bn ≠ bf := by omega
  have m1 : b ≠ br := by omega
  have m2 : b ≠ bn := by omega
  have m3 : b ≠ bf := by omega
  have m6 : bf ≠ bn := by omega
  have hBC : Below w.heap.size w W.drew := B3.out.drew
  have V3d : Hid (Box W.drew 85 br #[.pointer (some ⟨b, 0, none⟩)]) := Lib.hid V3h.out
  have R3d : Hid (Rb W.drew 92 b s' 0 0 p') := Lib.hid R3.out
  have N3d : Hid (Box W.drew 3 bn #[.int .i64 p']) := Lib.hid N3k.out
  have F3d : Hid (Box W.drew 24 bf #[.int .i64 0, .int .i64 0]) := Lib.hid F3h.out
  have A3d : Hid (Box W.drew 26 ba #[.string ⟨#[]⟩, .int .i64 0, .int .i64 0, .int .i64 0]) := Lib.hid A3.out
  clear c0 c1 c2 c3 f0 f1 f2 f3
  have g0 := V3d.out.c1
  obtain ⟨g1, _, _, g4⟩ := R3d.out.cells
  go_region_held3 (fun w' => w'.cell? ⟨br, 0, none⟩ = some (.pointer (some ⟨b, 0, none⟩)) ∧ w'.cell? ⟨b, 0, none⟩ = some (.string s') ∧ w'.cell? ⟨b, 3, none⟩ = some (.int .i64 p'))
    (first
      | with_reducible exact ⟨g0, g1, g4⟩
      | with_reducible exact ⟨V4.out.c1, R4.out.cells.1, R4.out.cells.2.2.2⟩
      | with_reducible exact ⟨(V4.out.other n4 _).c1, (R4.out.other m2 _).cells.1, (R4.out.other m2 _).cells.2.2.2⟩
      | with_reducible exact ⟨(((V4.out.other n4 _).other n5 _).other n5 _).c1, (((R4.out.other m2 _).other m3 _).other m3 _).cells.1, (((R4.out.other m2 _).other m3 _).other m3 _).cells.2.2.2⟩)
    (first
      | (go_at_call 61; refine (hC.out _ hBC).mono ?_; rintro en W2 ⟨V, rfl, hV, hB2⟩; have V4 := Lib.hid (V3d.out.below hB2); have R4 := Lib.hid (R3d.out.below hB2); have N4 := Lib.hid (N3d.out.below hB2); have F4 := Lib.hid (F3d.out.below hB2); have A4 := Lib.hid (A3d.out.below hB2); have HV4 := Lib.hid hV; have HB2 := Lib.hid hB2; clear hV hB2; have e0 := N4.out.c1; have e1 := Box.free N4.out 0; obtain ⟨e2, e3⟩ := F4.out.cell2; obtain ⟨e4, e5⟩ := F4.out.free2))
  obtain ⟨W5, hW5⟩ : ∃ W5, W5 = ((W2.setCell ⟨bn, 0, none⟩ (.int .i64 nx)).setCell ⟨bf, 0, none⟩ (.int .i64 0)).setCell ⟨bf, 1, none⟩ (.int .i64 0) := ⟨_, rfl⟩
  rw [← hW5]
  have p1 : ba ≠ bn := by omega
  have p2 : ba ≠ bf := by omega
  have p3 : ba ≠ b := by omega
  have p4 : ba ≠ br := by omega
  have p5 : br ≠ ba := by omega
  have p6 : b ≠ ba := by omega
  have p7 : bn ≠ ba := by omega
  have p8 : bf ≠ ba := by omega
  have V5 : Box W5 85 br #[.pointer (some ⟨b, 0, none⟩)] := by rw [hW5]; exact ((V4.out.other n4 _).other n5 _).other n5 _
  have R5 : Rb W5 92 b s' 0 0 p' := by rw [hW5]; exact Box.other (Box.other (Box.other R4.out m2 _) m3 _) m3 _
  have A5 : Box W5 26 ba #[.string ⟨#[]⟩, .int .i64 0, .int .i64 0, .int .i64 0] := by rw [hW5]; exact ((A4.out.other p1 _).other p2 _).other p2 _
  have N5 : Box W5 3 bn #[.int .i64 nx] := by rw [hW5]; exact ((N4.out.set1 _).other n6 _).other n6 _
  have F5 : Box W5 24 bf #[(.int .i64 0), (.int .i64 0)] := by rw [hW5]; exact ((F4.out.other m6 _).set2 _ _)
  have K5 : KS [b, br, bn, bf, ba] W2 W5 := by rw [hW5]; exact (((KS.refl _ W2).set bn 0 _ (by simp)).set bf 0 _ (by simp)).set bf 1 _ (by simp)
  clear hW5 e0 e1 e2 e3 e4 e5 g0 g1 g4
  have V5h := Lib.hid V5
  have F5h := Lib.hid F5
  have N5h := Lib.hid N5
  have A5h := Lib.hid A5
  have R5h := Lib.hid R5
  obtain ⟨c0, c1, c2, c3⟩ := A5.c4
  obtain ⟨f0, f1, f2, f3⟩ := A5.f4
  clear V5 F5 N5 A5 R5
  go_wp2
  have A6 := A5h.out.set4 (.string ⟨#[]⟩) (.int .i64 0) (.int .i64 0) (.int .i64 0)
  have R6 : Rb ((((W5.setCell ⟨ba, 0, none⟩ (.string ⟨#[]⟩)).setCell ⟨ba, 1, none⟩ (.int .i64 0)).setCell ⟨ba, 2, none⟩ (.int .i64 0)).setCell ⟨ba, 3, none⟩ (.int .i64 0)) 92 b s' 0 0 p' := (((Box.other R5h.out p6 _).other p6 _).other p6 _).other p6 _
  have V6 := (((V5h.out.other (i := 0) p5 (.string ⟨#[]⟩)).other (i := 1) p5 (.int .i64 0)).other (i := 2) p5 (.int .i64 0)).other (i := 3) p5 (.int .i64 0)
  have F6 := (((F5h.out.other (i := 0) p8 (.string ⟨#[]⟩)).other (i := 1) p8 (.int .i64 0)).other (i := 2) p8 (.int .i64 0)).other (i := 3) p8 (.int .i64 0)
  have N6 := (((N5h.out.other (i := 0) p7 (.string ⟨#[]⟩)).other (i := 1) p7 (.int .i64 0)).other (i := 2) p7 (.int .i64 0)).other (i := 3) p7 (.int .i64 0)
  have K6 : KS [b, br, bn, bf, ba] W2 _ := K5.set4 ba (by simp) (.string ⟨#[]⟩) (.int .i64 0) (.int .i64 0) (.int .i64 0)
  refine leaves_cons (f := 86) (args := #[.pointer (some ⟨br, 0, none⟩), .pointer (some ⟨bf, 0, none⟩), .pointer (some ⟨bn, 0, none⟩), .pointer (some ⟨ba, 0, none⟩)]) (by simp) (by simp [go_sem]) ?_
  refine (fin_okS b _ _ _ _ s' _ p' 0 _ _ _ _ _ .returning _ (Lib.hid R6) (Lib.hid V6) (Lib.hid F6) (Lib.hid N6) (Lib.hid A6) p3 p4 n1 n2).mono ?_
  rintro en u' W7 ⟨rfl, rfl, hA7, hK7⟩
  obtain ⟨d0, d1, d2, d3⟩ := hA7.c4
  have K7 := K6.trans (hK7.mono (by simp))
  refine ⟨.tuple #[.agg #[.string s', .int .i64 nx, .int .i64 0, .int .i64 0], V], by simp [results, Try.results58, go_sem, d0, d1, d2, d3], V, W.drew.heap.size, rfl, hBC.size, hRel.out _ _ _ _ HV4.out K7.size (fun k hk1 hk2 => K7.block k hk2 ?_), (below_then hBC HB2.out).trans (K7.below ?_ (Nat.le_trans hBC.size HB2.out.size))⟩
  · have : W.drew.heap.size = W.heap.size := rfl
    simp
    omega
  · intro k hk
    simp at hk
    omega

set_option maxRecDepth 100000 in
set_option maxHeartbeats 1000000 in
theorem field_oldL (s : ByteArray) (p e o : Int) (hs : s.size ≤ 9223372036854775807) (s' : ByteArray) (p' e' o' : Int) (H : Hid (cnt s p e o = (s', p', e', o'))) (he : Hid ((e' != 0) = true)) (fv : Value) (w : World) :
    Calls Try.prog 63 #[.agg #[.string s, .int .i64 p, .int .i64 e, .int .i64 o], fv] w fun en w' => en = .returned (.tuple #[.agg #[.string s', .int .i64 p', .int .i64 e', .int .i64 o'], .slice none 0 0]) ∧ Below w.heap.size w w' := by
  have A1 := Lib.hid (Box.new2 w (.cells #[.string s, .int .i64 p, .int .i64 e, .int .i64 o] 26) 26 #[.string ⟨#[]⟩, .int .i64 0, .int .i64 0, .int .i64 0])
  have B1 := Lib.hid (((Below.refl w.heap.size w).alloc (Nat.le_refl _) (.cells #[.string s, .int .i64 p, .int .i64 e, .int .i64 o] 26)).alloc (by simp) (.cells #[.string ⟨#[]⟩, .int .i64 0, .int .i64 0, .int .i64 0] 26))
  go_enter_defers Try.func63, Try.ntmps63
  go_wp2_with (go_at_call 67; refine (readerOf_any s p e o hs s' p' e' o' H _).mono ?_; rintro en w1 ⟨b, rfl, hb, hR, hB⟩; have R1 := Lib.hid hR; have A2 := Lib.hid (A1.out.below hB); have B2 := Lib.hid (below_then B1.out hB); have hlt := hR.lt; have hz : w.heap.size + 1 < w1.heap.size := (by have := hB.size; simp at this; omega); have hb2 : w.heap.size + 2 ≤ b := (by simp at hb; omega); clear hb hR hB; obtain ⟨c0, c1, c2, c3⟩ := R1.out.cells)
  obtain ⟨W, hW⟩ : ∃ W, W = ((w1.alloc (.cells #[.pointer (some ⟨b, 0, none⟩)] 85)).alloc (.cells #[.int .i64 p'] 3)).alloc (.cells #[.int .i64 0, .int .i64 0] 24) := ⟨_, rfl⟩
  rw [← hW]
  obtain ⟨V3, N3, F3, K3, hs3⟩ := three_new w1 W _ _ _ _ _ _ _ hW
  have R3 := Lib.hid (R1.out.below K3)
  have A3 := Lib.hid (A2.out.below K3)
  have B3 := Lib.hid (below_then B2.out K3)
  clear hW K3 c0 c1 c2 c3
  obtain ⟨c0, c1, c2, c3⟩ := A3.out.c4
  obtain ⟨f0, f1, f2, f3⟩ := A3.out.f4
  have V3h := Lib.hid V3
  have F3h := Lib.hid F3
  clear V3 F3 N3
  have hw3 : w1.heap.size + 3 ≤ W.heap.size := Nat.le_of_eq hs3.symm
  clear hs3
  go_wp2_with (go_at_call 72; refine (failed_any _ b s' e' o' p' _ he _ R3).mono ?_; rintro en w2 ⟨rfl, rfl⟩)
  have A4 := A3.out.set4 (.string ⟨#[]⟩) (.int .i64 0) (.int .i64 0) (.int .i64 0)
  have R4 : Rb ((((W.setCell ⟨w.heap.size + 1, 0, none⟩ (.string ⟨#[]⟩)).setCell ⟨w.heap.size + 1, 1, none⟩ (.int .i64 0)).setCell ⟨w.heap.size + 1, 2, none⟩ (.int .i64 0)).setCell ⟨w.heap.size + 1, 3, none⟩ (.int .i64 0)) 92 b s' e' o' p' := (((Box.other R3.out (by omega) _).other (by omega) _).other (by omega) _).other (by omega) _
  have V4 := (((V3h.out.other (b' := w.heap.size + 1) (i := 0) (by omega) (.string ⟨#[]⟩)).other (b' := w.heap.size + 1) (i := 1) (by omega) (.int .i64 0)).other (b' := w.heap.size + 1) (i := 2) (by omega) (.int .i64 0)).other (b' := w.heap.size + 1) (i := 3) (by omega) (.int .i64 0)
  have F4 := (((F3h.out.other (b' := w.heap.size + 1) (i := 0) (by omega) (.string ⟨#[]⟩)).other (b' := w.heap.size + 1) (i := 1) (by omega) (.int .i64 0)).other (b' := w.heap.size + 1) (i := 2) (by omega) (.int .i64 0)).other (b' := w.heap.size + 1) (i := 3) (by omega) (.int .i64 0)
  have B4 := Below.set4 B3.out (w.heap.size + 1) (by omega) (.string ⟨#[]⟩) (.int .i64 0) (.int .i64 0) (.int .i64 0)
  refine leaves_cons (f := 88) (args := #[.pointer (some ⟨w1.heap.size, 0, none⟩), .pointer (some ⟨w1.heap.size + 1 + 1, 0, none⟩), .pointer (some ⟨w1.heap.size + 1, 0, none⟩), .pointer (some ⟨w.heap.size + 1, 0, none⟩)]) (by simp) (by simp [go_sem]) ?_
  refine (fin_oldL b _ _ _ _ s' e' o' p' _ _ 0 _ _ _ _ .returning _ he (Lib.hid R4) (Lib.hid V4) (Lib.hid F4) (Lib.hid A4) (by omega) (by omega)).mono ?_
  rintro en u' W5 ⟨rfl, rfl, hA5, hK5⟩
  obtain ⟨d0, d1, d2, d3⟩ := hA5.c4
  refine ⟨.tuple #[.agg #[.string s', .int .i64 p', .int .i64 e', .int .i64 o'], .slice none 0 0], by simp [results, Try.results63, go_sem, d0, d1, d2, d3], rfl, ?_⟩
  have hz4 := B4.size
  refine B4.trans (hK5.below ?_ hz4)
  intro k hk
  simp at hk
  omega

set_option maxRecDepth 100000 in
set_option maxHeartbeats 1000000 in
theorem field_newL (s : ByteArray) (p e o : Int) (hs : s.size ≤ 9223372036854775807) (s' : ByteArray) (p' : Int) (H : Hid (cnt s p e o = (s', p', 0, 0))) (k1 k2 k3 : Nat) (nx fe fo : Int) (he : Hid ((fe != 0) = true)) (Rel : Nat → Value → World → Prop) (hRel : Hid (Stays Rel)) (w : World)
    (hC : Hid (∀ W, Below w.heap.size w W → Calls Try.prog 64 #[.string s', .int .i64 p', .pointer (some ⟨k1, 0, none⟩), .pointer (some ⟨k2, 0, none⟩), .pointer (some ⟨k3, 0, none⟩)] W (GivesC Rel nx fe fo W))) :
    Calls Try.prog 63 #[.agg #[.string s, .int .i64 p, .int .i64 e, .int .i64 o], .func (.func 64) #[] #[.pointer (some ⟨k1, 0, none⟩), .pointer (some ⟨k2, 0, none⟩), .pointer (some ⟨k3, 0, none⟩)]] w (GivesR Rel s' p' fe fo w) := by
  have A1 := Lib.hid (Box.new2 w (.cells #[.string s, .int .i64 p, .int .i64 e, .int .i64 o] 26) 26 #[.string ⟨#[]⟩, .int .i64 0, .int .i64 0, .int .i64 0])
  have B1 := Lib.hid (((Below.refl w.heap.size w).alloc (Nat.le_refl _) (.cells #[.string s, .int .i64 p, .int .i64 e, .int .i64 o] 26)).alloc (by simp) (.cells #[.string ⟨#[]⟩, .int .i64 0, .int .i64 0, .int .i64 0] 26))
  go_enter_defers Try.func63, Try.ntmps63
  go_wp2_with (go_at_call 67; refine (readerOf_any s p e o hs s' p' 0 0 H _).mono ?_; rintro en w1 ⟨b, rfl, hb, hR, hB⟩; have R1 := Lib.hid hR; have A2 := Lib.hid (A1.out.below hB); have B2 := Lib.hid (below_then B1.out hB); have hlt := hR.lt; have hz : w.heap.size + 1 < w1.heap.size := (by have := hB.size; simp at this; omega); have hb2 : w.heap.size + 2 ≤ b := (by simp at hb; omega); clear hb hR hB; obtain ⟨c0, c1, c2, c3⟩ := R1.out.cells)
  obtain ⟨W, hW⟩ : ∃ W, W = ((w1.alloc (.cells #[.pointer (some ⟨b, 0, none⟩)] 85)).alloc (.cells #[.int .i64 p'] 3)).alloc (.cells #[.int .i64 0, .int .i64 0] 24) := ⟨_, rfl⟩
  rw [← hW]
  obtain ⟨V3, N3, F3, K3, hs3⟩ := three_new w1 W _ _ _ _ _ _ _ hW
  have R3 := Lib.hid (R1.out.below K3)
  have A3 := Lib.hid (A2.out.below K3)
  have B3 := Lib.hid (below_then B2.out K3)
  clear hW K3 c0 c1 c2 c3
  obtain ⟨c0, c1, c2, c3⟩ := A3.out.c4
  obtain ⟨f0, f1, f2, f3⟩ := A3.out.f4
  have V3h := Lib.hid V3
  have F3h := Lib.hid F3
  have N3k := Lib.hid N3
  clear V3 F3 N3
  have hw3 : w1.heap.size + 3 ≤ W.heap.size := Nat.le_of_eq hs3.symm
  clear hs3
  have R3h := R3
  have hb3 := R1.out.lt
  have q0 : w.heap.size < w.heap.size + 1 := by omega
  have q1 : w.heap.size + 1 < b := by omega
  have q2 : b < w1.heap.size := hb3
  have q3 : w1.heap.size < w1.heap.size + 1 := by omega
  have q4 : w1.heap.size + 1 < w1.heap.size + 1 + 1 := by omega
  have q5 : w1.heap.size + 1 + 1 < W.heap.size := by omega
  go_wp2_with (go_at_call 72; refine (failed_any _ b s' 0 0 p' false (Lib.hid rfl) _ R3).mono ?_; rintro en w2 ⟨rfl, rfl⟩)
  generalize w1.heap.size + 1 + 1 = bf at *
  generalize w1.heap.size + 1 = bn at *
  generalize w1.heap.size = br at *
  generalize w.heap.size + 1 = ba at *
  have n1 : br ≠ b := by omega
  have n2 : bn ≠ b := by omega
  have n3 : bf ≠ b := by omega
  have n4 : br ≠ bn := by omega
  have n5 : br ≠ bf := by omega
  have n6 : bn ≠ bf := by omega
  have m1 : b ≠ br := by omega
  have m2 : b ≠ bn := by omega
  have m3 : b ≠ bf := by omega
  have m6 : bf ≠ bn := by omega
  have hBC : Below w.heap.size w W.drew := B3.out.drew
  have V3d : Hid (Box W.drew 85 br #[.pointer (some ⟨b, 0, none⟩)]) := Lib.hid V3h.out
  have R3d : Hid (Rb W.drew 92 b s' 0 0 p') := Lib.hid R3.out
  have N3d : Hid (Box W.drew 3 bn #[.int .i64 p']) := Lib.hid N3k.out
  have F3d : Hid (Box W.drew 24 bf #[.int .i64 0, .int .i64 0]) := Lib.hid F3h.out
  have A3d : Hid (Box W.drew 26 ba #[.string ⟨#[]⟩, .int .i64 0, .int .i64 0, .int .i64 0]) := Lib.hid A3.out
  clear c0 c1 c2 c3 f0 f1 f2 f3
  have g0 := V3d.out.c1
  obtain ⟨g1, _, _, g4⟩ := R3d.out.cells
  go_region_held3 (fun w' => w'.cell? ⟨br, 0, none⟩ = some (.pointer (some ⟨b, 0, none⟩)) ∧ w'.cell? ⟨b, 0, none⟩ = some (.string s') ∧ w'.cell? ⟨b, 3, none⟩ = some (.int .i64 p'))
    (first
      | with_reducible exact ⟨g0, g1, g4⟩
      | with_reducible exact ⟨V4.out.c1, R4.out.cells.1, R4.out.cells.2.2.2⟩
      | with_reducible exact ⟨(V4.out.other n4 _).c1, (R4.out.other m2 _).cells.1, (R4.out.other m2 _).cells.2.2.2⟩
      | with_reducible exact ⟨(((V4.out.other n4 _).other n5 _).other n5 _).c1, (((R4.out.other m2 _).other m3 _).other m3 _).cells.1, (((R4.out.other m2 _).other m3 _).other m3 _).cells.2.2.2⟩)
    (first
      | (go_at_call 64; refine (hC.out _ hBC).mono ?_; rintro en W2 ⟨V, rfl, hV, hB2⟩; have V4 := Lib.hid (V3d.out.below hB2); have R4 := Lib.hid (R3d.out.below hB2); have N4 := Lib.hid (N3d.out.below hB2); have F4 := Lib.hid (F3d.out.below hB2); have A4 := Lib.hid (A3d.out.below hB2); have HV4 := Lib.hid hV; have HB2 := Lib.hid hB2; clear hV hB2; have e0 := N4.out.c1; have e1 := Box.free N4.out 0; obtain ⟨e2, e3⟩ := F4.out.cell2; obtain ⟨e4, e5⟩ := F4.out.free2))
  obtain ⟨W5, hW5⟩ : ∃ W5, W5 = ((W2.setCell ⟨bn, 0, none⟩ (.int .i64 nx)).setCell ⟨bf, 0, none⟩ (.int .i64 fe)).setCell ⟨bf, 1, none⟩ (.int .i64 fo) := ⟨_, rfl⟩
  rw [← hW5]
  have p1 : ba ≠ bn := by omega
  have p2 : ba ≠ bf := by omega
  have p3 : ba ≠ b := by omega
  have p4 : ba ≠ br := by omega
  have p5 : br ≠ ba := by omega
  have p6 : b ≠ ba := by omega
  have p7 : bn ≠ ba := by omega
  have p8 : bf ≠ ba := by omega
  have V5 : Box W5 85 br #[.pointer (some ⟨b, 0, none⟩)] := by rw [hW5]; exact ((V4.out.other n4 _).other n5 _).other n5 _
  have R5 : Rb W5 92 b s' 0 0 p' := by rw [hW5]; exact Box.other (Box.other (Box.other R4.out m2 _) m3 _) m3 _
  have A5 : Box W5 26 ba #[.string ⟨#[]⟩, .int .i64 0, .int .i64 0, .int .i64 0] := by rw [hW5]; exact ((A4.out.other p1 _).other p2 _).other p2 _
  have N5 : Box W5 3 bn #[.int .i64 nx] := by rw [hW5]; exact ((N4.out.set1 _).other n6 _).other n6 _
  have F5 : Box W5 24 bf #[(.int .i64 fe), (.int .i64 fo)] := by rw [hW5]; exact ((F4.out.other m6 _).set2 _ _)
  have K5 : KS [b, br, bn, bf, ba] W2 W5 := by rw [hW5]; exact (((KS.refl _ W2).set bn 0 _ (by simp)).set bf 0 _ (by simp)).set bf 1 _ (by simp)
  clear hW5 e0 e1 e2 e3 e4 e5 g0 g1 g4
  have V5h := Lib.hid V5
  have F5h := Lib.hid F5
  have N5h := Lib.hid N5
  have A5h := Lib.hid A5
  have R5h := Lib.hid R5
  obtain ⟨c0, c1, c2, c3⟩ := A5.c4
  obtain ⟨f0, f1, f2, f3⟩ := A5.f4
  clear V5 F5 N5 A5 R5
  go_wp2
  have A6 := A5h.out.set4 (.string ⟨#[]⟩) (.int .i64 0) (.int .i64 0) (.int .i64 0)
  have R6 : Rb ((((W5.setCell ⟨ba, 0, none⟩ (.string ⟨#[]⟩)).setCell ⟨ba, 1, none⟩ (.int .i64 0)).setCell ⟨ba, 2, none⟩ (.int .i64 0)).setCell ⟨ba, 3, none⟩ (.int .i64 0)) 92 b s' 0 0 p' := (((Box.other R5h.out p6 _).other p6 _).other p6 _).other p6 _
  have V6 := (((V5h.out.other (i := 0) p5 (.string ⟨#[]⟩)).other (i := 1) p5 (.int .i64 0)).other (i := 2) p5 (.int .i64 0)).other (i := 3) p5 (.int .i64 0)
  have F6 := (((F5h.out.other (i := 0) p8 (.string ⟨#[]⟩)).other (i := 1) p8 (.int .i64 0)).other (i := 2) p8 (.int .i64 0)).other (i := 3) p8 (.int .i64 0)
  have N6 := (((N5h.out.other (i := 0) p7 (.string ⟨#[]⟩)).other (i := 1) p7 (.int .i64 0)).other (i := 2) p7 (.int .i64 0)).other (i := 3) p7 (.int .i64 0)
  have K6 : KS [b, br, bn, bf, ba] W2 _ := K5.set4 ba (by simp) (.string ⟨#[]⟩) (.int .i64 0) (.int .i64 0) (.int .i64 0)
  refine leaves_cons (f := 88) (args := #[.pointer (some ⟨br, 0, none⟩), .pointer (some ⟨bf, 0, none⟩), .pointer (some ⟨bn, 0, none⟩), .pointer (some ⟨ba, 0, none⟩)]) (by simp) (by simp [go_sem]) ?_
  refine (fin_newL b _ _ _ _ s' _ p' fe fo 0 _ _ _ _ .returning _ he (Lib.hid R6) (Lib.hid V6) (Lib.hid F6) (Lib.hid A6) p3 p4 n1).mono ?_
  rintro en u' W7 ⟨rfl, rfl, hA7, hK7⟩
  obtain ⟨d0, d1, d2, d3⟩ := hA7.c4
  have K7 := K6.trans (hK7.mono (by simp))
  refine ⟨.tuple #[.agg #[.string s', .int .i64 p', .int .i64 fe, .int .i64 fo], V], by simp [results, Try.results63, go_sem, d0, d1, d2, d3], V, W.drew.heap.size, rfl, hBC.size, hRel.out _ _ _ _ HV4.out K7.size (fun k hk1 hk2 => K7.block k hk2 ?_), (below_then hBC HB2.out).trans (K7.below ?_ (Nat.le_trans hBC.size HB2.out.size))⟩
  · have : W.drew.heap.size = W.heap.size := rfl
    simp
    omega
  · intro k hk
    simp at hk
    omega

set_option maxRecDepth 100000 in
set_option maxHeartbeats 1000000 in
theorem field_okL (s : ByteArray) (p e o : Int) (hs : s.size ≤ 9223372036854775807) (s' : ByteArray) (p' : Int) (H : Hid (cnt s p e o = (s', p', 0, 0))) (k1 k2 k3 : Nat) (nx : Int) (he : Hid (True)) (Rel : Nat → Value → World → Prop) (hRel : Hid (Stays Rel)) (w : World)
    (hC : Hid (∀ W, Below w.heap.size w W → Calls Try.prog 64 #[.string s', .int .i64 p', .pointer (some ⟨k1, 0, none⟩), .pointer (some ⟨k2, 0, none⟩), .pointer (some ⟨k3, 0, none⟩)] W (GivesC Rel nx 0 0 W))) :
    Calls Try.prog 63 #[.agg #[.string s, .int .i64 p, .int .i64 e, .int .i64 o], .func (.func 64) #[] #[.pointer (some ⟨k1, 0, none⟩), .pointer (some ⟨k2, 0, none⟩), .pointer (some ⟨k3, 0, none⟩)]] w (GivesR Rel s' nx 0 0 w) := by
  have A1 := Lib.hid (Box.new2 w (.cells #[.string s, .int .i64 p, .int .i64 e, .int .i64 o] 26) 26 #[.string ⟨#[]⟩, .int .i64 0, .int .i64 0, .int .i64 0])
  have B1 := Lib.hid (((Below.refl w.heap.size w).alloc (Nat.le_refl _) (.cells #[.string s, .int .i64 p, .int .i64 e, .int .i64 o] 26)).alloc (by simp) (.cells #[.string ⟨#[]⟩, .int .i64 0, .int .i64 0, .int .i64 0] 26))
  go_enter_defers Try.func63, Try.ntmps63
  go_wp2_with (go_at_call 67; refine (readerOf_any s p e o hs s' p' 0 0 H _).mono ?_; rintro en w1 ⟨b, rfl, hb, hR, hB⟩; have R1 := Lib.hid hR; have A2 := Lib.hid (A1.out.below hB); have B2 := Lib.hid (below_then B1.out hB); have hlt := hR.lt; have hz : w.heap.size + 1 < w1.heap.size := (by have := hB.size; simp at this; omega); have hb2 : w.heap.size + 2 ≤ b := (by simp at hb; omega); clear hb hR hB; obtain ⟨c0, c1, c2, c3⟩ := R1.out.cells)
  obtain ⟨W, hW⟩ : ∃ W, W = ((w1.alloc (.cells #[.pointer (some ⟨b, 0, none⟩)] 85)).alloc (.cells #[.int .i64 p'] 3)).alloc (.cells #[.int .i64 0, .int .i64 0] 24) := ⟨_, rfl⟩
  rw [← hW]
  obtain ⟨V3, N3, F3, K3, hs3⟩ := three_new w1 W _ _ _ _ _ _ _ hW
  have R3 := Lib.hid (R1.out.below K3)
  have A3 := Lib.hid (A2.out.below K3)
  have B3 := Lib.hid (below_then B2.out K3)
  clear hW K3 c0 c1 c2 c3
  obtain ⟨c0, c1, c2, c3⟩ := A3.out.c4
  obtain ⟨f0, f1, f2, f3⟩ := A3.out.f4
  have V3h := Lib.hid V3
  have F3h := Lib.hid F3
  have N3k := Lib.hid N3
  clear V3 F3 N3
  have hw3 : w1.heap.size + 3 ≤ W.heap.size := Nat.le_of_eq hs3.symm
  clear hs3
  have R3h := R3
  have hb3 := R1.out.lt
  have q0 : w.heap.size < w.heap.size + 1 := by omega
  have q1 : w.heap.size + 1 < b := by omega
  have q2 : b < w1.heap.size := hb3
  have q3 : w1.heap.size < w1.heap.size + 1 := by omega
  have q4 : w1.heap.size + 1 < w1.heap.size + 1 + 1 := by omega
  have q5 : w1.heap.size + 1 + 1 < W.heap.size := by omega
  go_wp2_with (go_at_call 72; refine (failed_any _ b s' 0 0 p' false (Lib.hid rfl) _ R3).mono ?_; rintro en w2 ⟨rfl, rfl⟩)
  generalize w1.heap.size + 1 + 1 = bf at *
  generalize w1.heap.size + 1 = bn at *
  generalize w1.heap.size = br at *
  generalize w.heap.size + 1 = ba at *
  have n1 : br ≠ b := by omega
  have n2 : bn ≠ b := by omega
  have n3 : bf ≠ b := by omega
  have n4 : br ≠ bn := by omega
  have n5 : br ≠ bf := by omega
  have n6 : bn ≠ bf := by omega
  have m1 : b ≠ br := by omega
  have m2 : b ≠ bn := by omega
  have m3 : b ≠ bf := by omega
  have m6 : bf ≠ bn := by omega
  have hBC : Below w.heap.size w W.drew := B3.out.drew
  have V3d : Hid (Box W.drew 85 br #[.pointer (some ⟨b, 0, none⟩)]) := Lib.hid V3h.out
  have R3d : Hid (Rb W.drew 92 b s' 0 0 p') := Lib.hid R3.out
  have N3d : Hid (Box W.drew 3 bn #[.int .i64 p']) := Lib.hid N3k.out
  have F3d : Hid (Box W.drew 24 bf #[.int .i64 0, .int .i64 0]) := Lib.hid F3h.out
  have A3d : Hid (Box W.drew 26 ba #[.string ⟨#[]⟩, .int .i64 0, .int .i64 0, .int .i64 0]) := Lib.hid A3.out
  clear c0 c1 c2 c3 f0 f1 f2 f3
  have g0 := V3d.out.c1
  obtain ⟨g1, _, _, g4⟩ := R3d.out.cells
  go_region_held3 (fun w' => w'.cell? ⟨br, 0, none⟩ = some (.pointer (some ⟨b, 0, none⟩)) ∧ w'.cell? ⟨b, 0, none⟩ = some (.string s') ∧ w'.cell? ⟨b, 3, none⟩ = some (.int .i64 p'))
    (first
      | with_reducible exact ⟨g0, g1, g4⟩
      | with_reducible exact ⟨V4.out.c1, R4.out.cells.1, R4.out.cells.2.2.2⟩
      | with_reducible exact ⟨(V4.out.other n4 _).c1, (R4.out.other m2 _).cells.1, (R4.out.other m2 _).cells.2.2.2⟩
      | with_reducible exact ⟨(((V4.out.other n4 _).other n5 _).other n5 _).c1, (((R4.out.other m2 _).other m3 _).other m3 _).cells.1, (((R4.out.other m2 _).other m3 _).other m3 _).cells.2.2.2⟩)
    (first
      | (go_at_call 64; refine (hC.out _ hBC).mono ?_; rintro en W2 ⟨V, rfl, hV, hB2⟩; have V4 := Lib.hid (V3d.out.below hB2); have R4 := Lib.hid (R3d.out.below hB2); have N4 := Lib.hid (N3d.out.below hB2); have F4 := Lib.hid (F3d.out.below hB2); have A4 := Lib.hid (A3d.out.below hB2); have HV4 := Lib.hid hV; have HB2 := Lib.hid hB2; clear hV hB2; have e0 := N4.out.c1; have e1 := Box.free N4.out 0; obtain ⟨e2, e3⟩ := F4.out.cell2; obtain ⟨e4, e5⟩ := F4.out.free2))
  obtain ⟨W5, hW5⟩ : ∃ W5, W5 = ((W2.setCell ⟨bn, 0, none⟩ (.int .i64 nx)).setCell ⟨bf, 0, none⟩ (.int .i64 0)).setCell ⟨bf, 1, none⟩ (.int .i64 0) := ⟨_, rfl⟩
  rw [← hW5]
  have p1 : ba ≠ bn := by omega
  have p2 : ba ≠ bf := by omega
  have p3 : ba ≠ b := by omega
  have p4 : ba ≠ br := by omega
  have p5 : br ≠ ba := by omega
  have p6 : b ≠ ba := by omega
  have p7 : bn ≠ ba := by omega
  have p8 : bf ≠ ba := by omega
  have V5 : Box W5 85 br #[.pointer (some ⟨b, 0, none⟩)] := by rw [hW5]; exact ((V4.out.other n4 _).other n5 _).other n5 _
  have R5 : Rb W5 92 b s' 0 0 p' := by rw [hW5]; exact Box.other (Box.other (Box.other R4.out m2 _) m3 _) m3 _
  have A5 : Box W5 26 ba #[.string ⟨#[]⟩, .int .i64 0, .int .i64 0, .int .i64 0] := by rw [hW5]; exact ((A4.out.other p1 _).other p2 _).other p2 _
  have N5 : Box W5 3 bn #[.int .i64 nx] := by rw [hW5]; exact ((N4.out.set1 _).other n6 _).other n6 _
  have F5 : Box W5 24 bf #[(.int .i64 0), (.int .i64 0)] := by rw [hW5]; exact ((F4.out.other m6 _).set2 _ _)
  have K5 : KS [b, br, bn, bf, ba] W2 W5 := by rw [hW5]; exact (((KS.refl _ W2).set bn 0 _ (by simp)).set bf 0 _ (by simp)).set bf 1 _ (by simp)
  clear hW5 e0 e1 e2 e3 e4 e5 g0 g1 g4
  have V5h := Lib.hid V5
  have F5h := Lib.hid F5
  have N5h := Lib.hid N5
  have A5h := Lib.hid A5
  have R5h := Lib.hid R5
  obtain ⟨c0, c1, c2, c3⟩ := A5.c4
  obtain ⟨f0, f1, f2, f3⟩ := A5.f4
  clear V5 F5 N5 A5 R5
  go_wp2
  have A6 := A5h.out.set4 (.string ⟨#[]⟩) (.int .i64 0) (.int .i64 0) (.int .i64 0)
  have R6 : Rb ((((W5.setCell ⟨ba, 0, none⟩ (.string ⟨#[]⟩)).setCell ⟨ba, 1, none⟩ (.int .i64 0)).setCell ⟨ba, 2, none⟩ (.int .i64 0)).setCell ⟨ba, 3, none⟩ (.int .i64 0)) 92 b s' 0 0 p' := (((Box.other R5h.out p6 _).other p6 _).other p6 _).other p6 _
  have V6 := (((V5h.out.other (i := 0) p5 (.string ⟨#[]⟩)).other (i := 1) p5 (.int .i64 0)).other (i := 2) p5 (.int .i64 0)).other (i := 3) p5 (.int .i64 0)
  have F6 := (((F5h.out.other (i := 0) p8 (.string ⟨#[]⟩)).other (i := 1) p8 (.int .i64 0)).other (i := 2) p8 (.int .i64 0)).other (i := 3) p8 (.int .i64 0)
  have N6 := (((N5h.out.other (i := 0) p7 (.string ⟨#[]⟩)).other (i := 1) p7 (.int .i64 0)).other (i := 2) p7 (.int .i64 0)).other (i := 3) p7 (.int .i64 0)
  have K6 : KS [b, br, bn, bf, ba] W2 _ := K5.set4 ba (by simp) (.string ⟨#[]⟩) (.int .i64 0) (.int .i64 0) (.int .i64 0)
  refine leaves_cons (f := 88) (args := #[.pointer (some ⟨br, 0, none⟩), .pointer (some ⟨bf, 0, none⟩), .pointer (some ⟨bn, 0, none⟩), .pointer (some ⟨ba, 0, none⟩)]) (by simp) (by simp [go_sem]) ?_
  refine (fin_okL b _ _ _ _ s' _ p' 0 _ _ _ _ _ .returning _ (Lib.hid R6) (Lib.hid V6) (Lib.hid F6) (Lib.hid N6) (Lib.hid A6) p3 p4 n1 n2).mono ?_
  rintro en u' W7 ⟨rfl, rfl, hA7, hK7⟩
  obtain ⟨d0, d1, d2, d3⟩ := hA7.c4
  have K7 := K6.trans (hK7.mono (by simp))
  refine ⟨.tuple #[.agg #[.string s', .int .i64 nx, .int .i64 0, .int .i64 0], V], by simp [results, Try.results63, go_sem, d0, d1, d2, d3], V, W.drew.heap.size, rfl, hBC.size, hRel.out _ _ _ _ HV4.out K7.size (fun k hk1 hk2 => K7.block k hk2 ?_), (below_then hBC HB2.out).trans (K7.below ?_ (Nat.le_trans hBC.size HB2.out.size))⟩
  · have : W.drew.heap.size = W.heap.size := rfl
    simp
    omega
  · intro k hk
    simp at hk
    omega
end Go.Proofs.Ytkepnjnindolbaa.s05
