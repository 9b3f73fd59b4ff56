/-
  Layer 6, the program's side: the deferred closure of work.
-/
import Derived.Test.YtndghjfgjkjbdaaS06N
namespace Go.Proofs.Ytndghjfgjkjbdaa.s06
set_option linter.unusedVariables false
set_option linter.unusedSimpArgs false
open Go.RowKit Go.WideMaps Go.Maps
open kit

/-- what the deferred call leaves -/
def Left6 (b bm base ba bx : Nat) (v : Value) (l : List ByteArray) (er : Int) (u : FrameMode) (w : World) (en : Ending) (u' : FrameMode) (w' : World) : Prop :=
  u' = u ∧ en = .returned (.tuple #[]) ∧ Box w' 24 ba #[plainV v er] ∧ Box w' 28 bx #[.int .i64 er] ∧ Wk w' b bm base v l er ∧ KS [b, ba, bx] w w'
set_option maxRecDepth 100000 in
set_option maxHeartbeats 1000000 in
theorem fin6I (be bw ba bx b bm base : Nat) (v : Value) (l : List ByteArray) (e0 er y : Int) (v0 : Value) (u : FrameMode) (w : World) (hW : Hid (Wk w b bm base v l e0)) (E : Hid (Box w 28 be #[.int .i64 er])) (P : Hid (Box w 60 bw #[.pointer (some ⟨b, 0, none⟩)])) (A : Hid (Box w 24 ba #[v0])) (X : Hid (Box w 28 bx #[.int .i64 y])) :
    CallsD Try.prog 71 #[.pointer (some ⟨be, 0, none⟩), .pointer (some ⟨bw, 0, none⟩), .pointer (some ⟨ba, 0, none⟩), .pointer (some ⟨bx, 0, none⟩)] u w (Left6 b bm base ba bx v l er u w) := by
  have n1 : b ≠ bw := Box.ne hW.out.box P.out (by decide)
  have n2 : b ≠ ba := Box.ne hW.out.box A.out (by decide)
  have n3 : b ≠ bx := Box.ne hW.out.box X.out (by decide)
  have n4 : ba ≠ bx := Box.ne A.out X.out (by decide)
  have c0 := E.out.cell 0
  have c1 := P.out.cell 0
  have c2 := hW.out.box.cell 2
  have f2 := hW.out.box.free 2
  have lb := hW.out.box.lt
  have W1 := Lib.hid (hW.out.err er)
  have P1 := Lib.hid (P.out.other (b' := b) (i := 2) (Ne.symm n1) (.int .i64 er))
  have A1 := Lib.hid (A.out.other (b' := b) (i := 2) (Ne.symm n2) (.int .i64 er))
  have X1 := Lib.hid (X.out.other (b' := b) (i := 2) (Ne.symm n3) (.int .i64 er))
  have K1 := Lib.hid ((KS.refl [b, ba, bx] w).set b 2 (.int .i64 er) (by simp))
  go_enter_d Try.func71, Try.ntmps71
  go_wp2
  generalize w.setCell ⟨b, 2, none⟩ (.int .i64 er) = w1 at W1 P1 A1 X1 K1 ⊢
  clear c0 c1 c2 f2 lb
  obtain ⟨pa, pn, pk, hpv⟩ := plain_shape W1.out
  have HP := Lib.hid hpv
  clear hpv
  have lb := W1.out.box.lt
  have lw := P1.out.lt
  have z1 : ∀ p : Later w1, p.W.cell? ⟨bw, 0, none⟩ = some (.pointer (some ⟨b, 0, none⟩)) := fun p => p.cell (P1.out.cell 0) lw
  have z2 : ∀ p : Later w1, p.W.cell? ⟨b, 2, none⟩ = some (.int .i64 er) := fun p => p.cell (W1.out.box.cell 2) lb
  refine wp_region_later_tail 6 (by kernel_rfl) (by kernel_rfl) ?_
  simp only [List.take_succ_cons, List.take_zero, List.drop_succ_cons, List.drop_zero]
  repeat (go_big_quiet_step ((go_at_call 45; exact calls_later (plainp_as b bm base v l er _ (Lib.hid (W1.out.below (Later.h _))) pa pn pk HP))))
  refine wpQuiet_nil ?_
  intro p5
  have A5 := Lib.hid (A1.out.below p5.h)
  have X5 := Lib.hid (X1.out.below p5.h)
  have W5 := Lib.hid (W1.out.below p5.h)
  have K5 := Lib.hid (K1.out.then p5.h)
  generalize p5.W = w5 at A5 X5 W5 K5 ⊢
  clear z1 z2
  have c0 := A5.out.cell 0
  have f0 := A5.out.free 0
  have la := A5.out.lt
  have A6 := Lib.hid (A5.out.set 0 (by simp) (.slice pa pn pk))
  have X6 := Lib.hid (X5.out.other (b' := ba) (i := 0) (Ne.symm n4) (.slice pa pn pk))
  have W6 := Lib.hid (W5.out.other (i := 0) A5.out n2 (by decide) (.slice pa pn pk))
  have K6 := Lib.hid (K5.out.set ba 0 (.slice pa pn pk) (by simp))
  have c1 := X5.out.cell 0
  have f1 := X5.out.free 0
  have lx := X5.out.lt
  have d1 := X6.out.cell 0
  have g1 := X6.out.free 0
  go_wp2
  go_end0
  exact ⟨rfl, by rw [HP.out]; exact A6.out.other n4 _, X6.out.set 0 (by simp) _, W6.out.other X6.out n3 (by decide) _, K6.out.set bx 0 _ (by simp)⟩
set_option maxRecDepth 100000 in
set_option maxHeartbeats 1000000 in
theorem fin6S (be bw ba bx b bm base : Nat) (v : Value) (l : List ByteArray) (e0 er y : Int) (v0 : Value) (u : FrameMode) (w : World) (hW : Hid (Wk w b bm base v l e0)) (E : Hid (Box w 28 be #[.int .i64 er])) (P : Hid (Box w 60 bw #[.pointer (some ⟨b, 0, none⟩)])) (A : Hid (Box w 24 ba #[v0])) (X : Hid (Box w 28 bx #[.int .i64 y])) :
    CallsD Try.prog 72 #[.pointer (some ⟨be, 0, none⟩), .pointer (some ⟨bw, 0, none⟩), .pointer (some ⟨ba, 0, none⟩), .pointer (some ⟨bx, 0, none⟩)] u w (Left6 b bm base ba bx v l er u w) := by
  have n1 : b ≠ bw := Box.ne hW.out.box P.out (by decide)
  have n2 : b ≠ ba := Box.ne hW.out.box A.out (by decide)
  have n3 : b ≠ bx := Box.ne hW.out.box X.out (by decide)
  have n4 : ba ≠ bx := Box.ne A.out X.out (by decide)
  have c0 := E.out.cell 0
  have c1 := P.out.cell 0
  have c2 := hW.out.box.cell 2
  have f2 := hW.out.box.free 2
  have lb := hW.out.box.lt
  have W1 := Lib.hid (hW.out.err er)
  have P1 := Lib.hid (P.out.other (b' := b) (i := 2) (Ne.symm n1) (.int .i64 er))
  have A1 := Lib.hid (A.out.other (b' := b) (i := 2) (Ne.symm n2) (.int .i64 er))
  have X1 := Lib.hid (X.out.other (b' := b) (i := 2) (Ne.symm n3) (.int .i64 er))
  have K1 := Lib.hid ((KS.refl [b, ba, bx] w).set b 2 (.int .i64 er) (by simp))
  go_enter_d Try.func72, Try.ntmps72
  go_wp2
  generalize w.setCell ⟨b, 2, none⟩ (.int .i64 er) = w1 at W1 P1 A1 X1 K1 ⊢
  clear c0 c1 c2 f2 lb
  obtain ⟨pa, pn, pk, hpv⟩ := plain_shape W1.out
  have HP := Lib.hid hpv
  clear hpv
  have lb := W1.out.box.lt
  have lw := P1.out.lt
  have z1 : ∀ p : Later w1, p.W.cell? ⟨bw, 0, none⟩ = some (.pointer (some ⟨b, 0, none⟩)) := fun p => p.cell (P1.out.cell 0) lw
  have z2 : ∀ p : Later w1, p.W.cell? ⟨b, 2, none⟩ = some (.int .i64 er) := fun p => p.cell (W1.out.box.cell 2) lb
  refine wp_region_later_tail 6 (by kernel_rfl) (by kernel_rfl) ?_
  simp only [List.take_succ_cons, List.take_zero, List.drop_succ_cons, List.drop_zero]
  repeat (go_big_quiet_step ((go_at_call 45; exact calls_later (plainp_as b bm base v l er _ (Lib.hid (W1.out.below (Later.h _))) pa pn pk HP))))
  refine wpQuiet_nil ?_
  intro p5
  have A5 := Lib.hid (A1.out.below p5.h)
  have X5 := Lib.hid (X1.out.below p5.h)
  have W5 := Lib.hid (W1.out.below p5.h)
  have K5 := Lib.hid (K1.out.then p5.h)
  generalize p5.W = w5 at A5 X5 W5 K5 ⊢
  clear z1 z2
  have c0 := A5.out.cell 0
  have f0 := A5.out.free 0
  have la := A5.out.lt
  have A6 := Lib.hid (A5.out.set 0 (by simp) (.slice pa pn pk))
  have X6 := Lib.hid (X5.out.other (b' := ba) (i := 0) (Ne.symm n4) (.slice pa pn pk))
  have W6 := Lib.hid (W5.out.other (i := 0) A5.out n2 (by decide) (.slice pa pn pk))
  have K6 := Lib.hid (K5.out.set ba 0 (.slice pa pn pk) (by simp))
  have c1 := X5.out.cell 0
  have f1 := X5.out.free 0
  have lx := X5.out.lt
  have d1 := X6.out.cell 0
  have g1 := X6.out.free 0
  go_wp2
  go_end0
  exact ⟨rfl, by rw [HP.out]; exact A6.out.other n4 _, X6.out.set 0 (by simp) _, W6.out.other X6.out n3 (by decide) _, K6.out.set bx 0 _ (by simp)⟩
set_option maxRecDepth 100000 in
set_option maxHeartbeats 1000000 in
theorem fin6L (be bw ba bx b bm base : Nat) (v : Value) (l : List ByteArray) (e0 er y : Int) (v0 : Value) (u : FrameMode) (w : World) (hW : Hid (Wk w b bm base v l e0)) (E : Hid (Box w 28 be #[.int .i64 er])) (P : Hid (Box w 60 bw #[.pointer (some ⟨b, 0, none⟩)])) (A : Hid (Box w 24 ba #[v0])) (X : Hid (Box w 28 bx #[.int .i64 y])) :
    CallsD Try.prog 73 #[.pointer (some ⟨be, 0, none⟩), .pointer (some ⟨bw, 0, none⟩), .pointer (some ⟨ba, 0, none⟩), .pointer (some ⟨bx, 0, none⟩)] u w (Left6 b bm base ba bx v l er u w) := by
  have n1 : b ≠ bw := Box.ne hW.out.box P.out (by decide)
  have n2 : b ≠ ba := Box.ne hW.out.box A.out (by decide)
  have n3 : b ≠ bx := Box.ne hW.out.box X.out (by decide)
  have n4 : ba ≠ bx := Box.ne A.out X.out (by decide)
  have c0 := E.out.cell 0
  have c1 := P.out.cell 0
  have c2 := hW.out.box.cell 2
  have f2 := hW.out.box.free 2
  have lb := hW.out.box.lt
  have W1 := Lib.hid (hW.out.err er)
  have P1 := Lib.hid (P.out.other (b' := b) (i := 2) (Ne.symm n1) (.int .i64 er))
  have A1 := Lib.hid (A.out.other (b' := b) (i := 2) (Ne.symm n2) (.int .i64 er))
  have X1 := Lib.hid (X.out.other (b' := b) (i := 2) (Ne.symm n3) (.int .i64 er))
  have K1 := Lib.hid ((KS.refl [b, ba, bx] w).set b 2 (.int .i64 er) (by simp))
  go_enter_d Try.func73, Try.ntmps73
  go_wp2
  generalize w.setCell ⟨b, 2, none⟩ (.int .i64 er) = w1 at W1 P1 A1 X1 K1 ⊢
  clear c0 c1 c2 f2 lb
  obtain ⟨pa, pn, pk, hpv⟩ := plain_shape W1.out
  have HP := Lib.hid hpv
  clear hpv
  have lb := W1.out.box.lt
  have lw := P1.out.lt
  have z1 : ∀ p : Later w1, p.W.cell? ⟨bw, 0, none⟩ = some (.pointer (some ⟨b, 0, none⟩)) := fun p => p.cell (P1.out.cell 0) lw
  have z2 : ∀ p : Later w1, p.W.cell? ⟨b, 2, none⟩ = some (.int .i64 er) := fun p => p.cell (W1.out.box.cell 2) lb
  refine wp_region_later_tail 6 (by kernel_rfl) (by kernel_rfl) ?_
  simp only [List.take_succ_cons, List.take_zero, List.drop_succ_cons, List.drop_zero]
  repeat (go_big_quiet_step ((go_at_call 45; exact calls_later (plainp_as b bm base v l er _ (Lib.hid (W1.out.below (Later.h _))) pa pn pk HP))))
  refine wpQuiet_nil ?_
  intro p5
  have A5 := Lib.hid (A1.out.below p5.h)
  have X5 := Lib.hid (X1.out.below p5.h)
  have W5 := Lib.hid (W1.out.below p5.h)
  have K5 := Lib.hid (K1.out.then p5.h)
  generalize p5.W = w5 at A5 X5 W5 K5 ⊢
  clear z1 z2
  have c0 := A5.out.cell 0
  have f0 := A5.out.free 0
  have la := A5.out.lt
  have A6 := Lib.hid (A5.out.set 0 (by simp) (.slice pa pn pk))
  have X6 := Lib.hid (X5.out.other (b' := ba) (i := 0) (Ne.symm n4) (.slice pa pn pk))
  have W6 := Lib.hid (W5.out.other (i := 0) A5.out n2 (by decide) (.slice pa pn pk))
  have K6 := Lib.hid (K5.out.set ba 0 (.slice pa pn pk) (by simp))
  have c1 := X5.out.cell 0
  have f1 := X5.out.free 0
  have lx := X5.out.lt
  have d1 := X6.out.cell 0
  have g1 := X6.out.free 0
  go_wp2
  go_end0
  exact ⟨rfl, by rw [HP.out]; exact A6.out.other n4 _, X6.out.set 0 (by simp) _, W6.out.other X6.out n3 (by decide) _, K6.out.set bx 0 _ (by simp)⟩
set_option maxRecDepth 100000 in
set_option maxHeartbeats 1000000 in
theorem fin6T (be bw ba bx b bm base : Nat) (v : Value) (l : List ByteArray) (e0 er y : Int) (v0 : Value) (u : FrameMode) (w : World) (hW : Hid (Wk w b bm base v l e0)) (E : Hid (Box w 28 be #[.int .i64 er])) (P : Hid (Box w 60 bw #[.pointer (some ⟨b, 0, none⟩)])) (A : Hid (Box w 24 ba #[v0])) (X : Hid (Box w 28 bx #[.int .i64 y])) :
    CallsD Try.prog 74 #[.pointer (some ⟨be, 0, none⟩), .pointer (some ⟨bw, 0, none⟩), .pointer (some ⟨ba, 0, none⟩), .pointer (some ⟨bx, 0, none⟩)] u w (Left6 b bm base ba bx v l er u w) := by
  have n1 : b ≠ bw := Box.ne hW.out.box P.out (by decide)
  have n2 : b ≠ ba := Box.ne hW.out.box A.out (by decide)
  have n3 : b ≠ bx := Box.ne hW.out.box X.out (by decide)
  have n4 : ba ≠ bx := Box.ne A.out X.out (by decide)
  have c0 := E.out.cell 0
  have c1 := P.out.cell 0
  have c2 := hW.out.box.cell 2
  have f2 := hW.out.box.free 2
  have lb := hW.out.box.lt
  have W1 := Lib.hid (hW.out.err er)
  have P1 := Lib.hid (P.out.other (b' := b) (i := 2) (Ne.symm n1) (.int .i64 er))
  have A1 := Lib.hid (A.out.other (b' := b) (i := 2) (Ne.symm n2) (.int .i64 er))
  have X1 := Lib.hid (X.out.other (b' := b) (i := 2) (Ne.symm n3) (.int .i64 er))
  have K1 := Lib.hid ((KS.refl [b, ba, bx] w).set b 2 (.int .i64 er) (by simp))
  go_enter_d Try.func74, Try.ntmps74
  go_wp2
  generalize w.setCell ⟨b, 2, none⟩ (.int .i64 er) = w1 at W1 P1 A1 X1 K1 ⊢
  clear c0 c1 c2 f2 lb
  obtain ⟨pa, pn, pk, hpv⟩ := plain_shape W1.out
  have HP := Lib.hid hpv
  clear hpv
  have lb := W1.out.box.lt
  have lw := P1.out.lt
  have z1 : ∀ p : Later w1, p.W.cell? ⟨bw, 0, none⟩ = some (.pointer (some ⟨b, 0, none⟩)) := fun p => p.cell (P1.out.cell 0) lw
  have z2 : ∀ p : Later w1, p.W.cell? ⟨b, 2, none⟩ = some (.int .i64 er) := fun p => p.cell (W1.out.box.cell 2) lb
  refine wp_region_later_tail 6 (by kernel_rfl) (by kernel_rfl) ?_
  simp only [List.take_succ_cons, List.take_zero, List.drop_succ_cons, List.drop_zero]
  repeat (go_big_quiet_step ((go_at_call 45; exact calls_later (plainp_as b bm base v l er _ (Lib.hid (W1.out.below (Later.h _))) pa pn pk HP))))
  refine wpQuiet_nil ?_
  intro p5
  have A5 := Lib.hid (A1.out.below p5.h)
  have X5 := Lib.hid (X1.out.below p5.h)
  have W5 := Lib.hid (W1.out.below p5.h)
  have K5 := Lib.hid (K1.out.then p5.h)
  generalize p5.W = w5 at A5 X5 W5 K5 ⊢
  clear z1 z2
  have c0 := A5.out.cell 0
  have f0 := A5.out.free 0
  have la := A5.out.lt
  have A6 := Lib.hid (A5.out.set 0 (by simp) (.slice pa pn pk))
  have X6 := Lib.hid (X5.out.other (b' := ba) (i := 0) (Ne.symm n4) (.slice pa pn pk))
  have W6 := Lib.hid (W5.out.other (i := 0) A5.out n2 (by decide) (.slice pa pn pk))
  have K6 := Lib.hid (K5.out.set ba 0 (.slice pa pn pk) (by simp))
  have c1 := X5.out.cell 0
  have f1 := X5.out.free 0
  have lx := X5.out.lt
  have d1 := X6.out.cell 0
  have g1 := X6.out.free 0
  go_wp2
  go_end0
  exact ⟨rfl, by rw [HP.out]; exact A6.out.other n4 _, X6.out.set 0 (by simp) _, W6.out.other X6.out n3 (by decide) _, K6.out.set bx 0 _ (by simp)⟩
end Go.Proofs.Ytndghjfgjkjbdaa.s06
