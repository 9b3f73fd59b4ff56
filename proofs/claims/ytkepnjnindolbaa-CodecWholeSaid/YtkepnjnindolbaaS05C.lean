/-
  Layer 5: the program's readerOf, Read; the deferred closure of field.
-/
import Derived.Test.YtkepnjnindolbaaS05B
namespace Go.Proofs.Ytkepnjnindolbaa.s05
set_option linter.unusedVariables false
set_option linter.unusedSimpArgs false
open Go.RowKit
open kit

/-- a pointer to a new variable of four cells -/
def NewRb (w : World) (t : TypeId) (s : ByteArray) (e o x : Int) (en : Ending) (w' : World) : Prop :=
  ∃ b, en = .returned (.pointer (some ⟨b, 0, none⟩)) ∧ w.heap.size ≤ b ∧ Rb w' t b s e o x ∧ Below w.heap.size w w'
set_option maxRecDepth 100000 in
theorem readerOf_any (s : ByteArray) (p e o : Int) (hs : s.size ≤ 9223372036854775807) (s' : ByteArray) (p' e' o' : Int) (H : Hid (cnt s p e o = (s', p', e', o'))) (w : World) :
    Calls Try.prog 67 #[.agg #[.string s, .int .i64 p, .int .i64 e, .int .i64 o]] w (NewRb w 92 s' e' o' p') := by
  have B1 := (Below.refl w.heap.size w).alloc (Nat.le_refl _) (.cells #[.string s, .int .i64 p, .int .i64 e, .int .i64 o] 26)
  have B2 := Lib.hid (B1.alloc (B1.size) (.cells #[.string s, .int .i64 e, .int .i64 o, .int .i64 p] 92))
  have R2 : Hid (Rb ((w.alloc (.cells #[.string s, .int .i64 p, .int .i64 e, .int .i64 o] 26)).alloc (.cells #[.string s, .int .i64 e, .int .i64 o, .int .i64 p] 92)) 92 (w.heap.size + 1) s e o p) := Lib.hid (by
    have h := Box.new (w.alloc (.cells #[.string s, .int .i64 p, .int .i64 e, .int .i64 o] 26)) 92 #[.string s, .int .i64 e, .int .i64 o, .int .i64 p]
    unfold Rb
    simpa using h)
  cases hv : vld s p e o
  · have HV := Lib.hid hv
    have HX : Hid (((⟨#[]⟩ : ByteArray), (0 : Int), (10 : Int), (0 : Int)) = (s', p', e', o')) := Lib.hid (by rw [← H.out]; unfold cnt; rw [hv]; rfl)
    clear hv
    go_enter Try.func67, Try.ntmps67
    go_wp2_with (first
      | (go_at_call 91; refine (valid_any _ s e o p _ hs HV _ R2).mono ?_; rintro en w1 ⟨rfl, hB1⟩; have B3 := Lib.hid (B2.out.trans (hB1.mono (by simp; omega))); clear hB1)
      | (go_at_call 92; refine (spoiled_any _).mono ?_; rintro en w1 ⟨rfl, hB1⟩; have B4 := Lib.hid (B3.out.trans (hB1.mono B3.out.size)); clear hB1))
    go_ret
    cases HX.out
    exact ⟨_, rfl, B4.out.size, Box.new _ _ _, B4.out.alloc B4.out.size _⟩
  · have HV := Lib.hid hv
    have HX : Hid ((s, p, e, o) = (s', p', e', o')) := Lib.hid (by rw [← H.out]; unfold cnt; rw [hv]; rfl)
    clear hv
    go_enter Try.func67, Try.ntmps67
    go_wp2_with (first
      | (go_at_call 91; refine (valid_any _ s e o p _ hs HV _ R2).mono ?_; rintro en w1 ⟨rfl, hB1⟩; have B3 := Lib.hid (B2.out.trans (hB1.mono (by simp; omega))); have R3 := Lib.hid (R2.out.below hB1); clear hB1))
    go_ret
    cases HX.out
    exact ⟨_, rfl, by omega, R3.out, B3.out⟩
theorem Box.new2 (w : World) (o : Obj) (t : TypeId) (xs : Array Value) : Box ((w.alloc o).alloc (.cells xs t)) t (w.heap.size + 1) xs := by
  have h := Box.new (w.alloc o) t xs
  simpa using h
theorem nth_box (W : World) (n : Nat) (t : TypeId) (xs : Array Value) (h : W.heap.size = n) : Box (W.alloc (.cells xs t)) t n xs := h ▸ Box.new W t xs
theorem Box.set4 {w : World} {t : TypeId} {b : Nat} {x0 x1 x2 x3 : Value} (h : Box w t b #[x0, x1, x2, x3]) (y0 y1 y2 y3 : Value) :
    Box ((((w.setCell ⟨b, 0, none⟩ y0).setCell ⟨b, 1, none⟩ y1).setCell ⟨b, 2, none⟩ y2).setCell ⟨b, 3, none⟩ y3) t b #[y0, y1, y2, y3] :=
  (Box.set (Box.set (Box.set (Box.set h 0 (by simp) y0) 1 (by simp) y1) 2 (by simp) y2) 3 (by simp) y3 :)
theorem Box.set3 {w : World} {t : TypeId} {b : Nat} {x0 x1 x2 : Value} (h : Box w t b #[x0, x1, x2]) (y0 y1 y2 : Value) :
    Box (((w.setCell ⟨b, 0, none⟩ y0).setCell ⟨b, 1, none⟩ y1).setCell ⟨b, 2, none⟩ y2) t b #[y0, y1, y2] :=
  (Box.set (Box.set (Box.set h 0 (by simp) y0) 1 (by simp) y1) 2 (by simp) y2 :)
theorem Box.set2 {w : World} {t : TypeId} {b : Nat} {x0 x1 : Value} (h : Box w t b #[x0, x1]) (y0 y1 : Value) :
    Box ((w.setCell ⟨b, 0, none⟩ y0).setCell ⟨b, 1, none⟩ y1) t b #[y0, y1] :=
  (Box.set (Box.set h 0 (by simp) y0) 1 (by simp) y1 :)
theorem Box.set1 {w : World} {t : TypeId} {b : Nat} {x0 : Value} (h : Box w t b #[x0]) (y0 : Value) : Box (w.setCell ⟨b, 0, none⟩ y0) t b #[y0] :=
  (Box.set h 0 (by simp) y0 :)
theorem Box.c4 {w : World} {t : TypeId} {b : Nat} {x y z u : Value} (h : Box w t b #[x, y, z, u]) : w.cell? ⟨b, 0, none⟩ = some x ∧ w.cell? ⟨b, 1, none⟩ = some y ∧ w.cell? ⟨b, 2, none⟩ = some z ∧ w.cell? ⟨b, 3, none⟩ = some u := ⟨h.cell 0, h.cell 1, h.cell 2, h.cell 3⟩
theorem Box.c1 {w : World} {t : TypeId} {b : Nat} {x : Value} (h : Box w t b #[x]) : w.cell? ⟨b, 0, none⟩ = some x := h.cell 0
theorem Box.f4 {w : World} {t : TypeId} {b : Nat} {x y z u : Value} (h : Box w t b #[x, y, z, u]) : w.frozen? ⟨b, 0, none⟩ = false ∧ w.frozen? ⟨b, 1, none⟩ = false ∧ w.frozen? ⟨b, 2, none⟩ = false ∧ w.frozen? ⟨b, 3, none⟩ = false := ⟨h.free 0, h.free 1, h.free 2, h.free 3⟩
theorem Below.set4 {B : Nat} {w w1 : World} (h : Below B w w1) (b : Nat) (hb : B ≤ b) (y0 y1 y2 y3 : Value) : Below B w ((((w1.setCell ⟨b, 0, none⟩ y0).setCell ⟨b, 1, none⟩ y1).setCell ⟨b, 2, none⟩ y2).setCell ⟨b, 3, none⟩ y3) :=
  (((h.setCell (p := ⟨b, 0, none⟩) hb y0).setCell (p := ⟨b, 1, none⟩) hb y1).setCell (p := ⟨b, 2, none⟩) hb y2).setCell (p := ⟨b, 3, none⟩) hb y3
theorem Below.set3 {B : Nat} {w w1 : World} (h : Below B w w1) (b : Nat) (hb : B ≤ b) (y0 y1 y2 : Value) : Below B w (((w1.setCell ⟨b, 0, none⟩ y0).setCell ⟨b, 1, none⟩ y1).setCell ⟨b, 2, none⟩ y2) :=
  ((h.setCell (p := ⟨b, 0, none⟩) hb y0).setCell (p := ⟨b, 1, none⟩) hb y1).setCell (p := ⟨b, 2, none⟩) hb y2
theorem Below.set2 {B : Nat} {w w1 : World} (h : Below B w w1) (b : Nat) (hb : B ≤ b) (y0 y1 : Value) : Below B w ((w1.setCell ⟨b, 0, none⟩ y0).setCell ⟨b, 1, none⟩ y1) :=
  (h.setCell (p := ⟨b, 0, none⟩) hb y0).setCell (p := ⟨b, 1, none⟩) hb y1
theorem ret_rdr {s s' : ByteArray} {p p' e e' o o' : Int} (h : (s, p, e, o) = (s', p', e', o')) : Ending.returned (.agg #[.string s, .int .i64 p, .int .i64 e, .int .i64 o]) = .returned (.agg #[.string s', .int .i64 p', .int .i64 e', .int .i64 o']) := by cases h; rfl
set_option maxRecDepth 100000 in
theorem pread_any (s : ByteArray) (hs : s.size ≤ 9223372036854775807) (s' : ByteArray) (p' e' o' : Int) (H : Hid (cnt s 0 0 0 = (s', p', e', o'))) (w : World) :
    Calls Try.prog 25 #[.string s] w fun en w' => en = .returned (.agg #[.string s', .int .i64 p', .int .i64 e', .int .i64 o']) ∧ Below w.heap.size w w' := by
  have X1 := Lib.hid (Box.new w 26 #[.string ⟨#[]⟩, .int .i64 0, .int .i64 0, .int .i64 0])
  have B1 := Lib.hid ((Below.refl w.heap.size w).alloc (Nat.le_refl _) (.cells #[.string ⟨#[]⟩, .int .i64 0, .int .i64 0, .int .i64 0] 26))
  go_enter Try.func25, Try.ntmps25
  go_wp2_with (first
    | (go_at_call 67; refine (readerOf_any s 0 0 0 hs s' p' e' o' H _).mono ?_; rintro en w1 ⟨b, rfl, hb, hR, hB⟩; have R1 := Lib.hid hR; have X2 := Lib.hid (X1.out.below hB); have B2 := Lib.hid (below_then B1.out hB); clear hb hR hB)
    | (go_at_call 70; refine (plain_any b s' e' o' p' _ R1).mono ?_; rintro en w2 ⟨rfl, hB⟩; have X3 := Lib.hid (X2.out.below hB); have B3 := Lib.hid (below_then B2.out hB); clear hB; obtain ⟨c0, c1, c2, c3⟩ := X3.out.c4; obtain ⟨f0, f1, f2, f3⟩ := X3.out.f4))
  obtain ⟨d0, d1, d2, d3⟩ := (X3.out.set4 (.string s') (.int .i64 p') (.int .i64 e') (.int .i64 o')).c4
  exact bodyPost_ret (v := .agg #[.string s', .int .i64 p', .int .i64 e', .int .i64 o']) (by simp [results, Try.results25, go_sem, d0, d1, d2, d3]) rfl ⟨rfl, Below.set4 B3.out _ (Nat.le_refl _) _ _ _ _⟩
end Go.Proofs.Ytkepnjnindolbaa.s05
