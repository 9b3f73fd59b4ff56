/-
  Layer 5: the deferred closure of field, at each of its types.
-/
import Derived.Test.YtkepnjnindolbaaS05C
namespace Go.Proofs.Ytkepnjnindolbaa.s05
set_option linter.unusedVariables false
set_option linter.unusedSimpArgs false
open Go.RowKit
open kit

/-- new blocks, and none but the blocks of the list may have changed -/
structure KS (l : List Nat) (w w' : World) : Prop where
  os : w'.os = w.os
  tape : w'.tape = w.tape
  output : w'.output = w.output
  size : w.heap.size ≤ w'.heap.size
  block : ∀ k, k < w.heap.size → ¬ k ∈ l → w'.heap[k]? = w.heap[k]?
theorem KS.refl (l : List Nat) (w : World) : KS l w w := ⟨rfl, rfl, rfl, Nat.le_refl _, fun _ _ _ => rfl⟩
theorem KS.trans {l : List Nat} {w w1 w2 : World} (h : KS l w w1) (k : KS l w1 w2) : KS l w w2 :=
  ⟨k.os.trans h.os, k.tape.trans h.tape, k.output.trans h.output, Nat.le_trans h.size k.size, fun i hi hl => (k.block i (Nat.lt_of_lt_of_le hi h.size) hl).trans (h.block i hi hl)⟩
theorem KS.of_below {l : List Nat} {w w1 : World} (h : Below w.heap.size w w1) : KS l w w1 := ⟨h.os, h.tape, h.output, h.size, fun k hk _ => h.block k hk⟩
theorem KS.then {l : List Nat} {w w1 w2 : World} (h : KS l w w1) (k : Below w1.heap.size w1 w2) : KS l w w2 := h.trans (.of_below k)
theorem KS.alloc {l : List Nat} {w w1 : World} (h : KS l w w1) (o : Obj) : KS l w (w1.alloc o) := h.then ((Below.refl _ _).alloc (Nat.le_refl _) o)
theorem KS.drew {l : List Nat} {w w1 : World} (h : KS l w w1) : KS l w w1.drew := h.then (Below.refl _ _).drew
theorem KS.set {l : List Nat} {w w1 : World} (h : KS l w w1) (b i : Nat) (u : Value) (hb : b ∈ l) : KS l w (w1.setCell ⟨b, i, none⟩ u) :=
  h.trans ⟨rfl, rfl, rfl, by simp, fun k _ hk => Below.heap_setCell _ _ _ _ (fun e => hk (by rw [e]; exact hb))⟩
theorem KS.gb {l : List Nat} {b : Nat} {w w1 : World} (h : GB b w w1) (hb : b ∈ l) : KS l w w1 := ⟨h.os, h.tape, h.output, h.size, fun k hk hl => h.block k hk (fun e => hl (by cases e; exact hb))⟩
theorem KS.mono {l l' : List Nat} {w w1 : World} (h : KS l w w1) (hl : ∀ k ∈ l, k ∈ l') : KS l' w w1 := ⟨h.os, h.tape, h.output, h.size, fun k hk hn => h.block k hk (fun hm => hn (hl k hm))⟩
theorem KS.below {l : List Nat} {B : Nat} {w w1 : World} (h : KS l w w1) (hl : ∀ k ∈ l, B ≤ k) (hB : B ≤ w.heap.size) : Below B w w1 := ⟨h.os, h.tape, h.output, h.size, fun k hk => h.block k (Nat.lt_of_lt_of_le hk hB) (fun hm => by have := hl k hm; omega)⟩
theorem KS.box {l : List Nat} {w w1 : World} {t : TypeId} {c : Nat} {xs : Array Value} (h : Box w t c xs) (hg : KS l w w1) (hne : ¬ c ∈ l) : Box w1 t c xs := (hg.block c h.lt hne).trans h
theorem KS.set4 {l : List Nat} {w w1 : World} (h : KS l w w1) (b : Nat) (hb : b ∈ l) (y0 y1 y2 y3 : Value) : KS l w ((((w1.setCell ⟨b, 0, none⟩ y0).setCell ⟨b, 1, none⟩ y1).setCell ⟨b, 2, none⟩ y2).setCell ⟨b, 3, none⟩ y3) :=
  (((h.set b 0 y0 hb).set b 1 y1 hb).set b 2 y2 hb).set b 3 y3 hb

/-- what the deferred call leaves: the result, and no other change below -/
def Left5 (B : Nat) (w : World) (a : Nat) (s : ByteArray) (p e o : Int) (u u' : FrameMode) (en : Ending) (w' : World) : Prop :=
  u' = u ∧ en = .returned (.tuple #[]) ∧ Box w' 26 a #[.string s, .int .i64 p, .int .i64 e, .int .i64 o] ∧ KS [B, a] w w'

set_option maxRecDepth 100000 in
set_option maxHeartbeats 1000000 in
/-- there was a fault before -/
theorem fin_oldI (b br bf bn ba : Nat) (s : ByteArray) (e o x fe fo n : Int) (y0 y1 y2 y3 : Value) (u : FrameMode) (w : World) (he : Hid ((e != 0) = true)) (R : Hid (Rb w 92 b s e o x)) (V : Hid (Box w 85 br #[.pointer (some ⟨b, 0, none⟩)])) (F : Hid (Box w 24 bf #[.int .i64 fe, .int .i64 fo])) (A : Hid (Box w 26 ba #[y0, y1, y2, y3]))
    (hab : ba ≠ b) (har : ba ≠ br) :
    CallsD Try.prog 82 #[.pointer (some ⟨br, 0, none⟩), .pointer (some ⟨bf, 0, none⟩), .pointer (some ⟨bn, 0, none⟩), .pointer (some ⟨ba, 0, none⟩)] u w fun en u' w' => Left5 b w ba s x e o u u' en w' := by
  have c0 := V.out.c1
  obtain ⟨c1, c2⟩ := F.out.cell2
  go_enter_d Try.func82, Try.ntmps82
  go_wp2
  go_still_tail 4, (by kernel_rfl)
  have R1 : Hid (Rb w.drew 92 b s e o x) := Lib.hid R.out
  have V1 : Hid (Box w.drew 85 br #[.pointer (some ⟨b, 0, none⟩)]) := Lib.hid V.out
  have A1 : Hid (Box w.drew 26 ba #[y0, y1, y2, y3]) := Lib.hid A.out
  have G1 := Lib.hid ((KS.refl [b, ba] w).drew)
  change wpList _ _ _ _ _ w.drew
  generalize w.drew = w1 at R1 V1 A1 G1 ⊢
  clear c0 c1 c2
  have c0 := V1.out.c1
  go_wp2_with (first
    | (go_at_call 69; refine (keep_old _ b s e o x fe fo he _ R1).mono ?_; rintro en w2 ⟨rfl, hB2⟩; have R2 := Lib.hid (R1.out.below hB2); have V2 := Lib.hid (V1.out.below hB2); have A2 := Lib.hid (A1.out.below hB2); have G2 := Lib.hid (G1.out.then hB2); clear hB2 c0; have c0 := V2.out.c1)
    | (go_at_call 72; refine (failed_any _ b s e o x _ he _ R2).mono ?_; rintro en w3 ⟨rfl, rfl⟩)
    | (go_at_call 70; refine (plain_any b s e o x _ R2).mono ?_; rintro en w4 ⟨rfl, hB4⟩; have A4 := Lib.hid (A2.out.below hB4); have G4 := Lib.hid (G2.out.then hB4); clear hB4 c0; obtain ⟨c0, c1, c2, c3⟩ := A4.out.c4; obtain ⟨f0, f1, f2, f3⟩ := A4.out.f4))
  go_end0
  exact ⟨rfl, A4.out.set4 _ _ _ _, G4.out.set4 _ (by simp) _ _ _ _⟩

set_option maxRecDepth 100000 in
set_option maxHeartbeats 1000000 in
/-- a new fault -/
theorem fin_newI (b br bf bn ba : Nat) (s : ByteArray) (o x fe fo n : Int) (y0 y1 y2 y3 : Value) (u : FrameMode) (w : World) (he : Hid ((fe != 0) = true)) (R : Hid (Rb w 92 b s 0 o x)) (V : Hid (Box w 85 br #[.pointer (some ⟨b, 0, none⟩)])) (F : Hid (Box w 24 bf #[.int .i64 fe, .int .i64 fo])) (A : Hid (Box w 26 ba #[y0, y1, y2, y3]))
    (hab : ba ≠ b) (har : ba ≠ br) (hrb : br ≠ b) :
    CallsD Try.prog 82 #[.pointer (some ⟨br, 0, none⟩), .pointer (some ⟨bf, 0, none⟩), .pointer (some ⟨bn, 0, none⟩), .pointer (some ⟨ba, 0, none⟩)] u w fun en u' w' => Left5 b w ba s x fe fo u u' en w' := by
  have c0 := V.out.c1
  obtain ⟨c1, c2⟩ := F.out.cell2
  go_enter_d Try.func82, Try.ntmps82
  go_wp2
  go_still_tail 4, (by kernel_rfl)
  have R1 : Hid (Rb w.drew 92 b s 0 o x) := Lib.hid R.out
  have V1 : Hid (Box w.drew 85 br #[.pointer (some ⟨b, 0, none⟩)]) := Lib.hid V.out
  have A1 : Hid (Box w.drew 26 ba #[y0, y1, y2, y3]) := Lib.hid A.out
  have G1 := Lib.hid ((KS.refl [b, ba] w).drew)
  change wpList _ _ _ _ _ w.drew
  generalize w.drew = w1 at R1 V1 A1 G1 ⊢
  clear c0 c1 c2
  have c0 := V1.out.c1
  go_wp2_with (first
    | (go_at_call 69; refine (keep_new _ b s o x fe fo _ R1).mono ?_; rintro en w2 ⟨rfl, hR2, hB2⟩; have R2 := Lib.hid hR2; have V2 := Lib.hid (GB.box V1.out hB2 hrb); have A2 := Lib.hid (GB.box A1.out hB2 hab); have G2 := Lib.hid (G1.out.trans (KS.gb hB2 (by simp))); clear hB2 hR2 c0; have c0 := V2.out.c1)
    | (go_at_call 72; refine (failed_any _ b s fe fo x _ he _ R2).mono ?_; rintro en w3 ⟨rfl, rfl⟩)
    | (go_at_call 70; refine (plain_any b s fe fo x _ R2).mono ?_; rintro en w4 ⟨rfl, hB4⟩; have A4 := Lib.hid (A2.out.below hB4); have G4 := Lib.hid (G2.out.then hB4); clear hB4 c0; obtain ⟨c0, c1, c2, c3⟩ := A4.out.c4; obtain ⟨f0, f1, f2, f3⟩ := A4.out.f4))
  go_end0
  exact ⟨rfl, A4.out.set4 _ _ _ _, G4.out.set4 _ (by simp) _ _ _ _⟩

set_option maxRecDepth 100000 in
set_option maxHeartbeats 1000000 in
/-- no fault -/
theorem fin_okI (b br bf bn ba : Nat) (s : ByteArray) (o x fo n : Int) (y0 y1 y2 y3 : Value) (u : FrameMode) (w : World) (R : Hid (Rb w 92 b s 0 o x)) (V : Hid (Box w 85 br #[.pointer (some ⟨b, 0, none⟩)])) (F : Hid (Box w 24 bf #[.int .i64 0, .int .i64 fo])) (N : Hid (Box w 3 bn #[.int .i64 n])) (A : Hid (Box w 26 ba #[y0, y1, y2, y3]))
    (hab : ba ≠ b) (har : ba ≠ br) (hrb : br ≠ b) (hnb : bn ≠ b) :
    CallsD Try.prog 82 #[.pointer (some ⟨br, 0, none⟩), .pointer (some ⟨bf, 0, none⟩), .pointer (some ⟨bn, 0, none⟩), .pointer (some ⟨ba, 0, none⟩)] u w fun en u' w' => Left5 b w ba s n 0 fo u u' en w' := by
  have c0 := V.out.c1
  obtain ⟨c1, c2⟩ := F.out.cell2
  go_enter_d Try.func82, Try.ntmps82
  go_wp2
  go_still_tail 4, (by kernel_rfl)
  have R1 : Hid (Rb w.drew 92 b s 0 o x) := Lib.hid R.out
  have V1 : Hid (Box w.drew 85 br #[.pointer (some ⟨b, 0, none⟩)]) := Lib.hid V.out
  have N1 : Hid (Box w.drew 3 bn #[.int .i64 n]) := Lib.hid N.out
  have A1 : Hid (Box w.drew 26 ba #[y0, y1, y2, y3]) := Lib.hid A.out
  have G1 := Lib.hid ((KS.refl [b, ba] w).drew)
  change wpList _ _ _ _ _ w.drew
  generalize w.drew = w1 at R1 V1 N1 A1 G1 ⊢
  clear c0 c1 c2
  have c0 := V1.out.c1
  go_wp2_with (first
    | (go_at_call 69; refine (keep_new _ b s o x 0 fo _ R1).mono ?_; rintro en w2 ⟨rfl, hR2, hB2⟩; have R2 := Lib.hid hR2; have V2 := Lib.hid (GB.box V1.out hB2 hrb); have A2 := Lib.hid (GB.box A1.out hB2 hab); have N2 := Lib.hid (GB.box N1.out hB2 hnb); have G2 := Lib.hid (G1.out.trans (KS.gb hB2 (by simp))); clear hB2 hR2 c0; have c0 := V2.out.c1; have k0 := N2.out.c1; have k1 := R2.out.cells.2.2.2; have k2 := R2.out.frees.2.2.2; have R3 := Lib.hid (Box.set R2.out 3 (by simp) (.int .i64 n)); have V3 := Lib.hid (V2.out.other (b' := b) (i := 3) hrb (.int .i64 n)); have A3 := Lib.hid (A2.out.other (b' := b) (i := 3) hab (.int .i64 n)); have G3 := Lib.hid (G2.out.set b 3 (.int .i64 n) (by simp)))
    | (go_at_call 72; refine (failed_any _ b s 0 fo x false (Lib.hid rfl) _ R2).mono ?_; rintro en w3 ⟨rfl, rfl⟩)
    | (go_at_call 70; refine (plain_any b s 0 fo n _ R3).mono ?_; rintro en w4 ⟨rfl, hB4⟩; have A4 := Lib.hid (A3.out.below hB4); have G4 := Lib.hid (G3.out.then hB4); clear hB4 c0 k0 k1 k2; obtain ⟨c0, c1, c2, c3⟩ := A4.out.c4; obtain ⟨f0, f1, f2, f3⟩ := A4.out.f4))
  go_end0
  exact ⟨rfl, A4.out.set4 _ _ _ _, G4.out.set4 _ (by simp) _ _ _ _⟩

set_option maxRecDepth 100000 in
set_option maxHeartbeats 1000000 in
/-- there was a fault before -/
theorem fin_oldW (b br bf bn ba : Nat) (s : ByteArray) (e o x fe fo n : Int) (y0 y1 y2 y3 : Value) (u : FrameMode) (w : World) (he : Hid ((e != 0) = true)) (R : Hid (Rb w 92 b s e o x)) (V : Hid (Box w 85 br #[.pointer (some ⟨b, 0, none⟩)])) (F : Hid (Box w 24 bf #[.int .i64 fe, .int .i64 fo])) (A : Hid (Box w 26 ba #[y0, y1, y2, y3]))
    (hab : ba ≠ b) (har : ba ≠ br) :
    CallsD Try.prog 83 #[.pointer (some ⟨br, 0, none⟩), .pointer (some ⟨bf, 0, none⟩), .pointer (some ⟨bn, 0, none⟩), .pointer (some ⟨ba, 0, none⟩)] u w fun en u' w' => Left5 b w ba s x e o u u' en w' := by
  have c0 := V.out.c1
  obtain ⟨c1, c2⟩ := F.out.cell2
  go_enter_d Try.func83, Try.ntmps83
  go_wp2
  go_still_tail 4, (by kernel_rfl)
  have R1 : Hid (Rb w.drew 92 b s e o x) := Lib.hid R.out
  have V1 : Hid (Box w.drew 85 br #[.pointer (some ⟨b, 0, none⟩)]) := Lib.hid V.out
  have A1 : Hid (Box w.drew 26 ba #[y0, y1, y2, y3]) := Lib.hid A.out
  have G1 := Lib.hid ((KS.refl [b, ba] w).drew)
  change wpList _ _ _ _ _ w.drew
  generalize w.drew = w1 at R1 V1 A1 G1 ⊢
  clear c0 c1 c2
  have c0 := V1.out.c1
  go_wp2_with (first
    | (go_at_call 69; refine (keep_old _ b s e o x fe fo he _ R1).mono ?_; rintro en w2 ⟨rfl, hB2⟩; have R2 := Lib.hid (R1.out.below hB2); have V2 := Lib.hid (V1.out.below hB2); have A2 := Lib.hid (A1.out.below hB2); have G2 := Lib.hid (G1.out.then hB2); clear hB2 c0; have c0 := V2.out.c1)
    | (go_at_call 72; refine (failed_any _ b s e o x _ he _ R2).mono ?_; rintro en w3 ⟨rfl, rfl⟩)
    | (go_at_call 70; refine (plain_any b s e o x _ R2).mono ?_; rintro en w4 ⟨rfl, hB4⟩; have A4 := Lib.hid (A2.out.below hB4); have G4 := Lib.hid (G2.out.then hB4); clear hB4 c0; obtain ⟨c0, c1, c2, c3⟩ := A4.out.c4; obtain ⟨f0, f1, f2, f3⟩ := A4.out.f4))
  go_end0
  exact ⟨rfl, A4.out.set4 _ _ _ _, G4.out.set4 _ (by simp) _ _ _ _⟩

set_option maxRecDepth 100000 in
set_option maxHeartbeats 1000000 in
/-- a new fault -/
theorem fin_newW (b br bf bn ba : Nat) (s : ByteArray) (o x fe fo n : Int) (y0 y1 y2 y3 : Value) (u : FrameMode) (w : World) (he : Hid ((fe != 0) = true)) (R : Hid (Rb w 92 b s 0 o x)) (V : Hid (Box w 85 br #[.pointer (some ⟨b, 0, none⟩)])) (F : Hid (Box w 24 bf #[.int .i64 fe, .int .i64 fo])) (A : Hid (Box w 26 ba #[y0, y1, y2, y3]))
    (hab : ba ≠ b) (har : ba ≠ br) (hrb : br ≠ b) :
    CallsD Try.prog 83 #[.pointer (some ⟨br, 0, none⟩), .pointer (some ⟨bf, 0, none⟩), .pointer (some ⟨bn, 0, none⟩), .pointer (some ⟨ba, 0, none⟩)] u w fun en u' w' => Left5 b w ba s x fe fo u u' en w' := by
  have c0 := V.out.c1
  obtain ⟨c1, c2⟩ := F.out.cell2
  go_enter_d Try.func83, Try.ntmps83
  go_wp2
  go_still_tail 4, (by kernel_rfl)
  have R1 : Hid (Rb w.drew 92 b s 0 o x) := Lib.hid R.out
  have V1 : Hid (Box w.drew 85 br #[.pointer (some ⟨b, 0, none⟩)]) := Lib.hid V.out
  have A1 : Hid (Box w.drew 26 ba #[y0, y1, y2, y3]) := Lib.hid A.out
  have G1 := Lib.hid ((KS.refl [b, ba] w).drew)
  change wpList _ _ _ _ _ w.drew
  generalize w.drew = w1 at R1 V1 A1 G1 ⊢
  clear c0 c1 c2
  have c0 := V1.out.c1
  go_wp2_with (first
    | (go_at_call 69; refine (keep_new _ b s o x fe fo _ R1).mono ?_; rintro en w2 ⟨rfl, hR2, hB2⟩; have R2 := Lib.hid hR2; have V2 := Lib.hid (GB.box V1.out hB2 hrb); have A2 := Lib.hid (GB.box A1.out hB2 hab); have G2 := Lib.hid (G1.out.trans (KS.gb hB2 (by simp))); clear hB2 hR2 c0; have c0 := V2.out.c1)
    | (go_at_call 72; refine (failed_any _ b s fe fo x _ he _ R2).mono ?_; rintro en w3 ⟨rfl, rfl⟩)
    | (go_at_call 70; refine (plain_any b s fe fo x _ R2).mono ?_; rintro en w4 ⟨rfl, hB4⟩; have A4 := Lib.hid (A2.out.below hB4); have G4 := Lib.hid (G2.out.then hB4); clear hB4 c0; obtain ⟨c0, c1, c2, c3⟩ := A4.out.c4; obtain ⟨f0, f1, f2, f3⟩ := A4.out.f4))
  go_end0
  exact ⟨rfl, A4.out.set4 _ _ _ _, G4.out.set4 _ (by simp) _ _ _ _⟩

set_option maxRecDepth 100000 in
set_option maxHeartbeats 1000000 in
/-- no fault -/
theorem fin_okW (b br bf bn ba : Nat) (s : ByteArray) (o x fo n : Int) (y0 y1 y2 y3 : Value) (u : FrameMode) (w : World) (R : Hid (Rb w 92 b s 0 o x)) (V : Hid (Box w 85 br #[.pointer (some ⟨b, 0, none⟩)])) (F : Hid (Box w 24 bf #[.int .i64 0, .int .i64 fo])) (N : Hid (Box w 3 bn #[.int .i64 n])) (A : Hid (Box w 26 ba #[y0, y1, y2, y3]))
    (hab : ba ≠ b) (har : ba ≠ br) (hrb : br ≠ b) (hnb : bn ≠ b) :
    CallsD Try.prog 83 #[.pointer (some ⟨br, 0, none⟩), .pointer (some ⟨bf, 0, none⟩), .pointer (some ⟨bn, 0, none⟩), .pointer (some ⟨ba, 0, none⟩)] u w fun en u' w' => Left5 b w ba s n 0 fo u u' en w' := by
  have c0 := V.out.c1
  obtain ⟨c1, c2⟩ := F.out.cell2
  go_enter_d Try.func83, Try.ntmps83
  go_wp2
  go_still_tail 4, (by kernel_rfl)
  have R1 : Hid (Rb w.drew 92 b s 0 o x) := Lib.hid R.out
  have V1 : Hid (Box w.drew 85 br #[.pointer (some ⟨b, 0, none⟩)]) := Lib.hid V.out
  have N1 : Hid (Box w.drew 3 bn #[.int .i64 n]) := Lib.hid N.out
  have A1 : Hid (Box w.drew 26 ba #[y0, y1, y2, y3]) := Lib.hid A.out
  have G1 := Lib.hid ((KS.refl [b, ba] w).drew)
  change wpList _ _ _ _ _ w.drew
  generalize w.drew = w1 at R1 V1 N1 A1 G1 ⊢
  clear c0 c1 c2
  have c0 := V1.out.c1
  go_wp2_with (first
    | (go_at_call 69; refine (keep_new _ b s o x 0 fo _ R1).mono ?_; rintro en w2 ⟨rfl, hR2, hB2⟩; have R2 := Lib.hid hR2; have V2 := Lib.hid (GB.box V1.out hB2 hrb); have A2 := Lib.hid (GB.box A1.out hB2 hab); have N2 := Lib.hid (GB.box N1.out hB2 hnb); have G2 := Lib.hid (G1.out.trans (KS.gb hB2 (by simp))); clear hB2 hR2 c0; have c0 := V2.out.c1; have k0 := N2.out.c1; have k1 := R2.out.cells.2.2.2; have k2 := R2.out.frees.2.2.2; have R3 := Lib.hid (Box.set R2.out 3 (by simp) (.int .i64 n)); have V3 := Lib.hid (V2.out.other (b' := b) (i := 3) hrb (.int .i64 n)); have A3 := Lib.hid (A2.out.other (b' := b) (i := 3) hab (.int .i64 n)); have G3 := Lib.hid (G2.out.set b 3 (.int .i64 n) (by simp)))
    | (go_at_call 72; refine (failed_any _ b s 0 fo x false (Lib.hid rfl) _ R2).mono ?_; rintro en w3 ⟨rfl, rfl⟩)
    | (go_at_call 70; refine (plain_any b s 0 fo n _ R3).mono ?_; rintro en w4 ⟨rfl, hB4⟩; have A4 := Lib.hid (A3.out.below hB4); have G4 := Lib.hid (G3.out.then hB4); clear hB4 c0 k0 k1 k2; obtain ⟨c0, c1, c2, c3⟩ := A4.out.c4; obtain ⟨f0, f1, f2, f3⟩ := A4.out.f4))
  go_end0
  exact ⟨rfl, A4.out.set4 _ _ _ _, G4.out.set4 _ (by simp) _ _ _ _⟩

set_option maxRecDepth 100000 in
set_option maxHeartbeats 1000000 in
/-- there was a fault before -/
theorem fin_oldS (b br bf bn ba : Nat) (s : ByteArray) (e o x fe fo n : Int) (y0 y1 y2 y3 : Value) (u : FrameMode) (w : World) (he : Hid ((e != 0) = true)) (R : Hid (Rb w 92 b s e o x)) (V : Hid (Box w 85 br #[.pointer (some ⟨b, 0, none⟩)])) (F : Hid (Box w 24 bf #[.int .i64 fe, .int .i64 fo])) (A : Hid (Box w 26 ba #[y0, y1, y2, y3]))
    (hab : ba ≠ b) (har : ba ≠ br) :
    CallsD Try.prog 86 #[.pointer (some ⟨br, 0, none⟩), .pointer (some ⟨bf, 0, none⟩), .pointer (some ⟨bn, 0, none⟩), .pointer (some ⟨ba, 0, none⟩)] u w fun en u' w' => Left5 b w ba s x e o u u' en w' := by
  have c0 := V.out.c1
  obtain ⟨c1, c2⟩ := F.out.cell2
  go_enter_d Try.func86, Try.ntmps86
  go_wp2
  go_still_tail 4, (by kernel_rfl)
  have R1 : Hid (Rb w.drew 92 b s e o x) := Lib.hid R.out
  have V1 : Hid (Box w.drew 85 br #[.pointer (some ⟨b, 0, none⟩)]) := Lib.hid V.out
  have A1 : Hid (Box w.drew 26 ba #[y0, y1, y2, y3]) := Lib.hid A.out
  have G1 := Lib.hid ((KS.refl [b, ba] w).drew)
  change wpList _ _ _ _ _ w.drew
  generalize w.drew = w1 at R1 V1 A1 G1 ⊢
  clear c0 c1 c2
  have c0 := V1.out.c1
  go_wp2_with (first
    | (go_at_call 69; refine (keep_old _ b s e o x fe fo he _ R1).mono ?_; rintro en w2 ⟨rfl, hB2⟩; have R2 := Lib.hid (R1.out.below hB2); have V2 := Lib.hid (V1.out.below hB2); have A2 := Lib.hid (A1.out.below hB2); have G2 := Lib.hid (G1.out.then hB2); clear hB2 c0; have c0 := V2.out.c1)
    | (go_at_call 72; refine (failed_any _ b s e o x _ he _ R2).mono ?_; rintro en w3 ⟨rfl, rfl⟩)
    | (go_at_call 70; refine (plain_any b s e o x _ R2).mono ?_; rintro en w4 ⟨rfl, hB4⟩; have A4 := Lib.hid (A2.out.below hB4); have G4 := Lib.hid (G2.out.then hB4); clear hB4 c0; obtain ⟨c0, c1, c2, c3⟩ := A4.out.c4; obtain ⟨f0, f1, f2, f3⟩ := A4.out.f4))
  go_end0
  exact ⟨rfl, A4.out.set4 _ _ _ _, G4.out.set4 _ (by simp) _ _ _ _⟩

set_option maxRecDepth 100000 in
set_option maxHeartbeats 1000000 in
/-- a new fault -/
theorem fin_newS (b br bf bn ba : Nat) (s : ByteArray) (o x fe fo n : Int) (y0 y1 y2 y3 : Value) (u : FrameMode) (w : World) (he : Hid ((fe != 0) = true)) (R : Hid (Rb w 92 b s 0 o x)) (V : Hid (Box w 85 br #[.pointer (some ⟨b, 0, none⟩)])) (F : Hid (Box w 24 bf #[.int .i64 fe, .int .i64 fo])) (A : Hid (Box w 26 ba #[y0, y1, y2, y3]))
    (hab : ba ≠ b) (har : ba ≠ br) (hrb : br ≠ b) :
    CallsD Try.prog 86 #[.pointer (some ⟨br, 0, none⟩), .pointer (some ⟨bf, 0, none⟩), .pointer (some ⟨bn, 0, none⟩), .pointer (some ⟨ba, 0, none⟩)] u w fun en u' w' => Left5 b w ba s x fe fo u u' en w' := by
  have c0 := V.out.c1
  obtain ⟨c1, c2⟩ := F.out.cell2
  go_enter_d Try.func86, Try.ntmps86
  go_wp2
  go_still_tail 4, (by kernel_rfl)
  have R1 : Hid (Rb w.drew 92 b s 0 o x) := Lib.hid R.out
  have V1 : Hid (Box w.drew 85 br #[.pointer (some ⟨b, 0, none⟩)]) := Lib.hid V.out
  have A1 : Hid (Box w.drew 26 ba #[y0, y1, y2, y3]) := Lib.hid A.out
  have G1 := Lib.hid ((KS.refl [b, ba] w).drew)
  change wpList _ _ _ _ _ w.drew
  generalize w.drew = w1 at R1 V1 A1 G1 ⊢
  clear c0 c1 c2
  have c0 := V1.out.c1
  go_wp2_with (first
    | (go_at_call 69; refine (keep_new _ b s o x fe fo _ R1).mono ?_; rintro en w2 ⟨rfl, hR2, hB2⟩; have R2 := Lib.hid hR2; have V2 := Lib.hid (GB.box V1.out hB2 hrb); have A2 := Lib.hid (GB.box A1.out hB2 hab); have G2 := Lib.hid (G1.out.trans (KS.gb hB2 (by simp))); clear hB2 hR2 c0; have c0 := V2.out.c1)
    | (go_at_call 72; refine (failed_any _ b s fe fo x _ he _ R2).mono ?_; rintro en w3 ⟨rfl, rfl⟩)
    | (go_at_call 70; refine (plain_any b s fe fo x _ R2).mono ?_; rintro en w4 ⟨rfl, hB4⟩; have A4 := Lib.hid (A2.out.below hB4); have G4 := Lib.hid (G2.out.then hB4); clear hB4 c0; obtain ⟨c0, c1, c2, c3⟩ := A4.out.c4; obtain ⟨f0, f1, f2, f3⟩ := A4.out.f4))
  go_end0
  exact ⟨rfl, A4.out.set4 _ _ _ _, G4.out.set4 _ (by simp) _ _ _ _⟩

set_option maxRecDepth 100000 in
set_option maxHeartbeats 1000000 in
/-- no fault -/
theorem fin_okS (b br bf bn ba : Nat) (s : ByteArray) (o x fo n : Int) (y0 y1 y2 y3 : Value) (u : FrameMode) (w : World) (R : Hid (Rb w 92 b s 0 o x)) (V : Hid (Box w 85 br #[.pointer (some ⟨b, 0, none⟩)])) (F : Hid (Box w 24 bf #[.int .i64 0, .int .i64 fo])) (N : Hid (Box w 3 bn #[.int .i64 n])) (A : Hid (Box w 26 ba #[y0, y1, y2, y3]))
    (hab : ba ≠ b) (har : ba ≠ br) (hrb : br ≠ b) (hnb : bn ≠ b) :
    CallsD Try.prog 86 #[.pointer (some ⟨br, 0, none⟩), .pointer (some ⟨bf, 0, none⟩), .pointer (some ⟨bn, 0, none⟩), .pointer (some ⟨ba, 0, none⟩)] u w fun en u' w' => Left5 b w ba s n 0 fo u u' en w' := by
  have c0 := V.out.c1
  obtain ⟨c1, c2⟩ := F.out.cell2
  go_enter_d Try.func86, Try.ntmps86
  go_wp2
  go_still_tail 4, (by kernel_rfl)
  have R1 : Hid (Rb w.drew 92 b s 0 o x) := Lib.hid R.out
  have V1 : Hid (Box w.drew 85 br #[.pointer (some ⟨b, 0, none⟩)]) := Lib.hid V.out
  have N1 : Hid (Box w.drew 3 bn #[.int .i64 n]) := Lib.hid N.out
  have A1 : Hid (Box w.drew 26 ba #[y0, y1, y2, y3]) := Lib.hid A.out
  have G1 := Lib.hid ((KS.refl [b, ba] w).drew)
  change wpList _ _ _ _ _ w.drew
  generalize w.drew = w1 at R1 V1 N1 A1 G1 ⊢
  clear c0 c1 c2
  have c0 := V1.out.c1
  go_wp2_with (first
    | (go_at_call 69; refine (keep_new _ b s o x 0 fo _ R1).mono ?_; rintro en w2 ⟨rfl, hR2, hB2⟩; have R2 := Lib.hid hR2; have V2 := Lib.hid (GB.box V1.out hB2 hrb); have A2 := Lib.hid (GB.box A1.out hB2 hab); have N2 := Lib.hid (GB.box N1.out hB2 hnb); have G2 := Lib.hid (G1.out.trans (KS.gb hB2 (by simp))); clear hB2 hR2 c0; have c0 := V2.out.c1; have k0 := N2.out.c1; have k1 := R2.out.cells.2.2.2; have k2 := R2.out.frees.2.2.2; have R3 := Lib.hid (Box.set R2.out 3 (by simp) (.int .i64 n)); have V3 := Lib.hid (V2.out.other (b' := b) (i := 3) hrb (.int .i64 n)); have A3 := Lib.hid (A2.out.other (b' := b) (i := 3) hab (.int .i64 n)); have G3 := Lib.hid (G2.out.set b 3 (.int .i64 n) (by simp)))
    | (go_at_call 72; refine (failed_any _ b s 0 fo x false (Lib.hid rfl) _ R2).mono ?_; rintro en w3 ⟨rfl, rfl⟩)
    | (go_at_call 70; refine (plain_any b s 0 fo n _ R3).mono ?_; rintro en w4 ⟨rfl, hB4⟩; have A4 := Lib.hid (A3.out.below hB4); have G4 := Lib.hid (G3.out.then hB4); clear hB4 c0 k0 k1 k2; obtain ⟨c0, c1, c2, c3⟩ := A4.out.c4; obtain ⟨f0, f1, f2, f3⟩ := A4.out.f4))
  go_end0
  exact ⟨rfl, A4.out.set4 _ _ _ _, G4.out.set4 _ (by simp) _ _ _ _⟩

set_option maxRecDepth 100000 in
set_option maxHeartbeats 1000000 in
/-- there was a fault before -/
theorem fin_oldL (b br bf bn ba : Nat) (s : ByteArray) (e o x fe fo n : Int) (y0 y1 y2 y3 : Value) (u : FrameMode) (w : World) (he : Hid ((e != 0) = true)) (R : Hid (Rb w 92 b s e o x)) (V : Hid (Box w 85 br #[.pointer (some ⟨b, 0, none⟩)])) (F : Hid (Box w 24 bf #[.int .i64 fe, .int .i64 fo])) (A : Hid (Box w 26 ba #[y0, y1, y2, y3]))
    (hab : ba ≠ b) (har : ba ≠ br) :
    CallsD Try.prog 88 #[.pointer (some ⟨br, 0, none⟩), .pointer (some ⟨bf, 0, none⟩), .pointer (some ⟨bn, 0, none⟩), .pointer (some ⟨ba, 0, none⟩)] u w fun en u' w' => Left5 b w ba s x e o u u' en w' := by
  have c0 := V.out.c1
  obtain ⟨c1, c2⟩ := F.out.cell2
  go_enter_d Try.func88, Try.ntmps88
  go_wp2
  go_still_tail 4, (by kernel_rfl)
  have R1 : Hid (Rb w.drew 92 b s e o x) := Lib.hid R.out
  have V1 : Hid (Box w.drew 85 br #[.pointer (some ⟨b, 0, none⟩)]) := Lib.hid V.out
  have A1 : Hid (Box w.drew 26 ba #[y0, y1, y2, y3]) := Lib.hid A.out
  have G1 := Lib.hid ((KS.refl [b, ba] w).drew)
  change wpList _ _ _ _ _ w.drew
  generalize w.drew = w1 at R1 V1 A1 G1 ⊢
  clear c0 c1 c2
  have c0 := V1.out.c1
  go_wp2_with (first
    | (go_at_call 69; refine (keep_old _ b s e o x fe fo he _ R1).mono ?_; rintro en w2 ⟨rfl, hB2⟩; have R2 := Lib.hid (R1.out.below hB2); have V2 := Lib.hid (V1.out.below hB2); have A2 := Lib.hid (A1.out.below hB2); have G2 := Lib.hid (G1.out.then hB2); clear hB2 c0; have c0 := V2.out.c1)
    | (go_at_call 72; refine (failed_any _ b s e o x _ he _ R2).mono ?_; rintro en w3 ⟨rfl, rfl⟩)
    | (go_at_call 70; refine (plain_any b s e o x _ R2).mono ?_; rintro en w4 ⟨rfl, hB4⟩; have A4 := Lib.hid (A2.out.below hB4); have G4 := Lib.hid (G2.out.then hB4); clear hB4 c0; obtain ⟨c0, c1, c2, c3⟩ := A4.out.c4; obtain ⟨f0, f1, f2, f3⟩ := A4.out.f4))
  go_end0
  exact ⟨rfl, A4.out.set4 _ _ _ _, G4.out.set4 _ (by simp) _ _ _ _⟩

set_option maxRecDepth 100000 in
set_option maxHeartbeats 1000000 in
/-- a new fault -/
theorem fin_newL (b br bf bn ba : Nat) (s : ByteArray) (o x fe fo n : Int) (y0 y1 y2 y3 : Value) (u : FrameMode) (w : World) (he : Hid ((fe != 0) = true)) (R : Hid (Rb w 92 b s 0 o x)) (V : Hid (Box w 85 br #[.pointer (some ⟨b, 0, none⟩)])) (F : Hid (Box w 24 bf #[.int .i64 fe, .int .i64 fo])) (A : Hid (Box w 26 ba #[y0, y1, y2, y3]))
    (hab : ba ≠ b) (har : ba ≠ br) (hrb : br ≠ b) :
    CallsD Try.prog 88 #[.pointer (some ⟨br, 0, none⟩), .pointer (some ⟨bf, 0, none⟩), .pointer (some ⟨bn, 0, none⟩), .pointer (some ⟨ba, 0, none⟩)] u w fun en u' w' => Left5 b w ba s x fe fo u u' en w' := by
  have c0 := V.out.c1
  obtain ⟨c1, c2⟩ := F.out.cell2
  go_enter_d Try.func88, Try.ntmps88
  go_wp2
  go_still_tail 4, (by kernel_rfl)
  have R1 : Hid (Rb w.drew 92 b s 0 o x) := Lib.hid R.out
  have V1 : Hid (Box w.drew 85 br #[.pointer (some ⟨b, 0, none⟩)]) := Lib.hid V.out
  have A1 : Hid (Box w.drew 26 ba #[y0, y1, y2, y3]) := Lib.hid A.out
  have G1 := Lib.hid ((KS.refl [b, ba] w).drew)
  change wpList _ _ _ _ _ w.drew
  generalize w.drew = w1 at R1 V1 A1 G1 ⊢
  clear c0 c1 c2
  have c0 := V1.out.c1
  go_wp2_with (first
    | (go_at_call 69; refine (keep_new _ b s o x fe fo _ R1).mono ?_; rintro en w2 ⟨rfl, hR2, hB2⟩; have R2 := Lib.hid hR2; have V2 := Lib.hid (GB.box V1.out hB2 hrb); have A2 := Lib.hid (GB.box A1.out hB2 hab); have G2 := Lib.hid (G1.out.trans (KS.gb hB2 (by simp))); clear hB2 hR2 c0; have c0 := V2.out.c1)
    | (go_at_call 72; refine (failed_any _ b s fe fo x _ he _ R2).mono ?_; rintro en w3 ⟨rfl, rfl⟩)
    | (go_at_call 70; refine (plain_any b s fe fo x _ R2).mono ?_; rintro en w4 ⟨rfl, hB4⟩; have A4 := Lib.hid (A2.out.below hB4); have G4 := Lib.hid (G2.out.then hB4); clear hB4 c0; obtain ⟨c0, c1, c2, c3⟩ := A4.out.c4; obtain ⟨f0, f1, f2, f3⟩ := A4.out.f4))
  go_end0
  exact ⟨rfl, A4.out.set4 _ _ _ _, G4.out.set4 _ (by simp) _ _ _ _⟩

set_option maxRecDepth 100000 in
set_option maxHeartbeats 1000000 in
/-- no fault -/
theorem fin_okL (b br bf bn ba : Nat) (s : ByteArray) (o x fo n : Int) (y0 y1 y2 y3 : Value) (u : FrameMode) (w : World) (R : Hid (Rb w 92 b s 0 o x)) (V : Hid (Box w 85 br #[.pointer (some ⟨b, 0, none⟩)])) (F : Hid (Box w 24 bf #[.int .i64 0, .int .i64 fo])) (N : Hid (Box w 3 bn #[.int .i64 n])) (A : Hid (Box w 26 ba #[y0, y1, y2, y3]))
    (hab : ba ≠ b) (har : ba ≠ br) (hrb : br ≠ b) (hnb : bn ≠ b) :
    CallsD Try.prog 88 #[.pointer (some ⟨br, 0, none⟩), .pointer (some ⟨bf, 0, none⟩), .pointer (some ⟨bn, 0, none⟩), .pointer (some ⟨ba, 0, none⟩)] u w fun en u' w' => Left5 b w ba s n 0 fo u u' en w' := by
  have c0 := V.out.c1
  obtain ⟨c1, c2⟩ := F.out.cell2
  go_enter_d Try.func88, Try.ntmps88
  go_wp2
  go_still_tail 4, (by kernel_rfl)
  have R1 : Hid (Rb w.drew 92 b s 0 o x) := Lib.hid R.out
  have V1 : Hid (Box w.drew 85 br #[.pointer (some ⟨b, 0, none⟩)]) := Lib.hid V.out
  have N1 : Hid (Box w.drew 3 bn #[.int .i64 n]) := Lib.hid N.out
  have A1 : Hid (Box w.drew 26 ba #[y0, y1, y2, y3]) := Lib.hid A.out
  have G1 := Lib.hid ((KS.refl [b, ba] w).drew)
  change wpList _ _ _ _ _ w.drew
  generalize w.drew = w1 at R1 V1 N1 A1 G1 ⊢
  clear c0 c1 c2
  have c0 := V1.out.c1
  go_wp2_with (first
    | (go_at_call 69; refine (keep_new _ b s o x 0 fo _ R1).mono ?_; rintro en w2 ⟨rfl, hR2, hB2⟩; have R2 := Lib.hid hR2; have V2 := Lib.hid (GB.box V1.out hB2 hrb); have A2 := Lib.hid (GB.box A1.out hB2 hab); have N2 := Lib.hid (GB.box N1.out hB2 hnb); have G2 := Lib.hid (G1.out.trans (KS.gb hB2 (by simp))); clear hB2 hR2 c0; have c0 := V2.out.c1; have k0 := N2.out.c1; have k1 := R2.out.cells.2.2.2; have k2 := R2.out.frees.2.2.2; have R3 := Lib.hid (Box.set R2.out 3 (by simp) (.int .i64 n)); have V3 := Lib.hid (V2.out.other (b' := b) (i := 3) hrb (.int .i64 n)); have A3 := Lib.hid (A2.out.other (b' := b) (i := 3) hab (.int .i64 n)); have G3 := Lib.hid (G2.out.set b 3 (.int .i64 n) (by simp)))
    | (go_at_call 72; refine (failed_any _ b s 0 fo x false (Lib.hid rfl) _ R2).mono ?_; rintro en w3 ⟨rfl, rfl⟩)
    | (go_at_call 70; refine (plain_any b s 0 fo n _ R3).mono ?_; rintro en w4 ⟨rfl, hB4⟩; have A4 := Lib.hid (A3.out.below hB4); have G4 := Lib.hid (G3.out.then hB4); clear hB4 c0 k0 k1 k2; obtain ⟨c0, c1, c2, c3⟩ := A4.out.c4; obtain ⟨f0, f1, f2, f3⟩ := A4.out.f4))
  go_end0
  exact ⟨rfl, A4.out.set4 _ _ _ _, G4.out.set4 _ (by simp) _ _ _ _⟩
end Go.Proofs.Ytkepnjnindolbaa.s05
