/-
  Layer 4, the program's side: the lexeme that is read from a place on.
-/
import Derived.Test.YtjhmlmimgahnmaaDoorS04PK
import Derived.Test.YtjhmlmimgahnmaaDoorS04C
import Derived.BigRegion
namespace Go.Proofs.YtjhmlmimgahnmaaDoor.s04
set_option linter.unusedVariables false
set_option linter.unusedSimpArgs false
open Go.RowKit
open kit

theorem begK_len (s : ByteArray) (k : Nat) (h : k < s.size) : k + (begK s k).2 ≤ s.size := by
  have := begR_le (s.extract k s.size) (by rw [ByteArray.size_extract]; omega)
  rw [ByteArray.size_extract] at this
  unfold begK
  omega
theorem ext_ext (s : ByteArray) (k n : Nat) (h : k + n ≤ s.size) : (s.extract k s.size).extract 0 n = s.extract k (k + n) := by
  apply bytes_ext
  simp only [ByteArray.data_extract, Array.toList_extract, List.extract_eq_take_drop, List.drop_zero, Nat.sub_zero]
  rw [List.take_take, show min n (s.size - k) = n by omega, show k + n - k = n by omega]
theorem lexAt_eq (s : ByteArray) (k : Nat) (h : k < s.size) : lexAt s k = ((begK s k).1, s.extract k (k + (begK s k).2), k) := by
  have := begK_len s k h
  unfold lexAt
  unfold begK at *
  rw [ext_ext s k _ this]
theorem nextR_eq (s : ByteArray) (k : Nat) (hk : k ≤ s.size) : nextR s (k : Int) =
    if passAt s k = s.size then (noLx, 0, 5, passAt s k)
    else if (begK s (passAt s k)).1 = 0 then (noLx, 0, 3, passAt s k)
    else (((begK s (passAt s k)).1, s.extract (passAt s k) (passAt s k + (begK s (passAt s k)).2), passAt s k), passAt s k + (begK s (passAt s k)).2, 0, 0) := by
  unfold nextR
  rw [if_neg (by omega), show ((k : Int)).toNat = k from by omega]
  have hp := passAt_le s k hk
  by_cases h : passAt s k = s.size
  · rw [if_pos h, if_pos h]
  · have hlt : passAt s k < s.size := by omega
    have hl := begK_len s _ hlt
    rw [if_neg h, if_neg h, lexAt_eq s _ hlt]
    by_cases h0 : (begK s (passAt s k)).1 = 0
    · rw [if_pos h0, if_pos h0]
    · rw [if_neg h0, if_neg h0]
      simp only [Prod.mk.injEq, true_and, and_true]
      rw [ByteArray.size_extract]; omega
def ReadTo (w : World) (b : Nat) (s : ByteArray) (x : Lx) (n er a : Nat) (e : Ending) (w' : World) : Prop :=
  ∃ (at' : Nat) (g' : Int), e = .returned (.tuple #[lexV x, .agg #[.int .i64 (er : Int), .int .i64 (a : Int)]]) ∧ at' ≤ s.size ∧ (er = 0 → at' = n) ∧ Rd w' b s at' g' ∧ GB b w w'
theorem readret {x x' : Lx} {n n' e e' a a' : Nat} (h : (x', n', e', a') = (x, n, e, a)) : Ending.returned (.tuple #[.agg #[.int .i64 (x.1 : Int), .string x.2.1, .int .i64 (x.2.2 : Int)], .agg #[.int .i64 (e : Int), .int .i64 (a : Int)]]) = .returned (.tuple #[lexV x', .agg #[.int .i64 (e' : Int), .int .i64 (a' : Int)]]) := by
  simp only [Prod.mk.injEq] at h
  obtain ⟨rfl, rfl, rfl, rfl⟩ := h
  rfl
theorem read_results (tm : Array Value) (W : World) (b1 b2 : Nat) {x y z u v : Value} (h2 : tm.getD 2 undef = .pointer (some ⟨b1, 0, none⟩)) (h3 : tm.getD 3 undef = .pointer (some ⟨b2, 0, none⟩))
    (X : Box W 23 b1 #[x, y, z]) (Y : Box W 37 b2 #[u, v]) : (results Tryd.f31 tm).run Tryd.prog W = .ok (.tuple #[.agg #[x, y, z], .agg #[u, v]]) W := by
  obtain ⟨c0, c1, c2⟩ := X.cell3
  obtain ⟨d0, d1⟩ := Y.cell2
  simp only [Array.getD_eq_getD_getElem?] at h2 h3
  simp [results, Tryd.results31, go_sem, h2, h3, c0, c1, c2, d0, d1]
theorem two_size (w : World) (o o' : Obj) : ((w.alloc o).alloc o').heap.size = w.heap.size + 2 := (Array.size_push ..).trans (congrArg (· + 1) (Array.size_push ..))
theorem GB.fresh {b c : Nat} {w w1 : World} (h : GB b w w1) (hc : w.heap.size ≤ c) (i : Nat) (u : Value) : GB b w (w1.setCell ⟨c, i, none⟩ u) :=
  ⟨h.os, h.tape, h.output, (by simpa using h.size), fun k hk hne => (Below.heap_setCell _ _ _ _ (by simp only; omega)).trans (h.block k hk hne)⟩
theorem Rd.other {w : World} {b c : Nat} {s : ByteArray} {k : Nat} {g : Int} (h : Rd w b s k g) (hne : b ≠ c) (i : Nat) (u : Value) : Rd (w.setCell ⟨c, i, none⟩ u) b s k g := Box.other h hne u
theorem Rd.drew {w : World} {b : Nat} {s : ByteArray} {k : Nat} {g : Int} (h : Rd w b s k g) : Rd w.drew b s k g := h
/-- both results are stored -/
theorem read_fin {w w5 : World} {b b1 b2 : Nat} {s : ByteArray} {k : Nat} {g : Int} {x0 y0 z0 u0 v0 : Value} (x y z u v : Value) (X : Box w5 23 b1 #[x0, y0, z0]) (Y : Box w5 37 b2 #[u0, v0]) (R : Rd w5 b s k g) (G : GB b w w5) (h1 : b1 ≠ b2) (h2 : b ≠ b1) (h3 : b ≠ b2) (h4 : w.heap.size ≤ b1) (h5 : w.heap.size ≤ b2) :
    let W := (((((w5.setCell ⟨b1, 0, none⟩ x).setCell ⟨b1, 1, none⟩ y).setCell ⟨b1, 2, none⟩ z).setCell ⟨b2, 0, none⟩ u).setCell ⟨b2, 1, none⟩ v).drew
    Box W 23 b1 #[x, y, z] ∧ Box W 37 b2 #[u, v] ∧ Rd W b s k g ∧ GB b w W := by
  refine ⟨?_, ?_, ?_, ?_⟩
  · exact (((((X.set 0 (by simp) x).set 1 (by simp) y).set 2 (by simp) z).other (b' := b2) (i := 0) h1 u).other (b' := b2) (i := 1) h1 v).drew
  · exact (((((Y.other (b' := b1) (i := 0) h1.symm x).other (b' := b1) (i := 1) h1.symm y).other (b' := b1) (i := 2) h1.symm z).set 0 (by simp) u).set 1 (by simp) v).drew
  · exact (((((R.other h2 0 x).other h2 1 y).other h2 2 z).other h3 0 u).other h3 1 v).drew
  · exact (((((G.fresh h4 0 x).fresh h4 1 y).fresh h4 2 z).fresh h5 0 u).fresh h5 1 v).drew
set_option maxRecDepth 100000 in
set_option maxHeartbeats 2000000 in
theorem read_any (b : Nat) (s : ByteArray) (k0 : Nat) (g : Int) (w : World) (hk0 : k0 ≤ s.size) (hs : s.size ≤ 9223372036854775806) (R : Hid (Rd w b s k0 g)) (x : Lx) (n er a : Nat) (H : Hid (nextR s (k0 : Int) = (x, n, er, a))) :
    Calls Tryd.prog 31 #[.pointer (some ⟨b, 0, none⟩)] w (ReadTo w b s x n er a) := by
  have hn := nextR_eq s k0 hk0
  have hb := R.out.lt
  obtain ⟨p, hp⟩ : ∃ p, p = passAt s k0 := ⟨_, rfl⟩
  have hp1 : p ≤ s.size := by rw [hp]; exact passAt_le s k0 hk0
  rw [← hp] at hn
  have HP := Lib.hid hp
  have R2 := Lib.hid ((R.out.alloc (.cells #[.int .i64 0, .string ⟨#[]⟩, .int .i64 0] 23)).alloc (.cells #[.int .i64 0, .int .i64 0] 37))
  have HG := Lib.hid (((GB.refl b w).alloc (.cells #[.int .i64 0, .string ⟨#[]⟩, .int .i64 0] 23)).alloc (.cells #[.int .i64 0, .int .i64 0] 37))
  have X2 := Lib.hid ((Box.new w 23 #[.int .i64 0, .string ⟨#[]⟩, .int .i64 0]).alloc (.cells #[.int .i64 0, .int .i64 0] 37))
  have Y2 := Lib.hid (Box.new2 w (.cells #[.int .i64 0, .string ⟨#[]⟩, .int .i64 0] 23) 37 #[.int .i64 0, .int .i64 0])
  clear hp
  by_cases hend : p = s.size
  · rw [if_pos hend] at hn
    have HE := Lib.hid (H.out.symm.trans hn)
    have HEnd := Lib.hid hend
    clear hn hend
    go_enter Tryd.func31, Tryd.ntmps31
    go_wp2_with (first
      | (go_at_call 44; (with_reducible refine (passBetween_any b s k0 g _ hk0 hs R2 p HP).mono ?_); rintro e w3 ⟨rfl, hR3, hG3⟩; have R3 := Lib.hid hR3; have G3 := Lib.hid (HG.out.trans hG3); have X3 := Lib.hid (GB.box X2.out hG3 (by omega)); have Y3 := Lib.hid (GB.box Y2.out hG3 (by omega)); clear hR3 hG3; obtain ⟨d0, d1, d2⟩ := R3.out.cell3; obtain ⟨f0, f1, f2⟩ := R3.out.free3; have R4 := Lib.hid (R3.out.begin (p : Int)); have G4 := Lib.hid (G3.out.set 2 (.int .i64 (p : Int))); have X4 := Lib.hid (X3.out.other (b' := b) (i := 2) (by omega) (.int .i64 (p : Int))); have Y4 := Lib.hid (Y3.out.other (b' := b) (i := 2) (by omega) (.int .i64 (p : Int))))
      | (go_at_call 45; (with_reducible refine (kind_end b s p (p : Int) _ HEnd.out hs R4).mono ?_); rintro e w5 ⟨rfl, hR5, hG5⟩; have R5 := Lib.hid hR5; have G5 := Lib.hid (G4.out.trans hG5); have X5 := Lib.hid (GB.box X4.out hG5 (by omega)); have Y5 := Lib.hid (GB.box Y4.out hG5 (by omega)); clear hR5 hG5 d0 d1 d2 f0 f1 f2; obtain ⟨d0, d1, d2⟩ := R5.out.cell3; obtain ⟨x0, x1, x2⟩ := X5.out.cell3; obtain ⟨y0, y1⟩ := Y5.out.cell2; obtain ⟨fx0, fx1, fx2⟩ := X5.out.free3; obtain ⟨fy0, fy1⟩ := Y5.out.free2))
    go_region
    go_wp2
    obtain ⟨RX, RF, RR, RG⟩ := read_fin (.int .i64 0) (.string ⟨#[]⟩) (.int .i64 0) (.int .i64 5) (.int .i64 (p : Int)) X5.out Y5.out R5.out G5.out (by omega) (by omega) (by omega) (Nat.le_refl _) (by omega)
    exact bodyPost_ret (read_results _ _ w.heap.size (w.heap.size + 1) rfl rfl RX RF) rfl ⟨p, _, readret (x := noLx) (n := 0) (e := 5) (a := p) (by rw [HE.out]), hp1, fun h => by have := congrArg (fun t => t.2.2.1) HE.out; simp only at this; omega, RR, RG⟩
  · have hlt : p < s.size := by omega
    rw [if_neg hend] at hn
    have hlen := begK_len s p hlt
    obtain ⟨kd, hkd⟩ : ∃ kd, kd = (begK s p).1 := ⟨_, rfl⟩
    obtain ⟨m, hm⟩ : ∃ m, m = (begK s p).2 := ⟨_, rfl⟩
    have HB : Hid (begK s p = (kd, m)) := Lib.hid (by rw [hkd, hm])
    rw [← hkd, ← hm] at hn
    rw [← hm] at hlen
    clear hend hkd hm
    by_cases h0 : kd = 0
    · rw [if_pos h0] at hn
      have HE := Lib.hid (H.out.symm.trans hn)
      clear hn
      subst h0
      go_enter Tryd.func31, Tryd.ntmps31
      go_wp2_with (first
        | (go_at_call 44; (with_reducible refine (passBetween_any b s k0 g _ hk0 hs R2 p HP).mono ?_); rintro e w3 ⟨rfl, hR3, hG3⟩; have R3 := Lib.hid hR3; have G3 := Lib.hid (HG.out.trans hG3); have X3 := Lib.hid (GB.box X2.out hG3 (by omega)); have Y3 := Lib.hid (GB.box Y2.out hG3 (by omega)); clear hR3 hG3; obtain ⟨d0, d1, d2⟩ := R3.out.cell3; obtain ⟨f0, f1, f2⟩ := R3.out.free3; have R4 := Lib.hid (R3.out.begin (p : Int)); have G4 := Lib.hid (G3.out.set 2 (.int .i64 (p : Int))); have X4 := Lib.hid (X3.out.other (b' := b) (i := 2) (by omega) (.int .i64 (p : Int))); have Y4 := Lib.hid (Y3.out.other (b' := b) (i := 2) (by omega) (.int .i64 (p : Int))))
        | (go_at_call 45; (with_reducible refine (kind_any b s p (p : Int) _ hlt hs R4 0 m HB).mono ?_); rintro e w5 ⟨at', rfl, hat, _, hR5, hG5⟩; rw [if_pos rfl]; have R5 := Lib.hid hR5; have G5 := Lib.hid (G4.out.trans hG5); have X5 := Lib.hid (GB.box X4.out hG5 (by omega)); have Y5 := Lib.hid (GB.box Y4.out hG5 (by omega)); clear hR5 hG5 d0 d1 d2 f0 f1 f2; obtain ⟨d0, d1, d2⟩ := R5.out.cell3; obtain ⟨x0, x1, x2⟩ := X5.out.cell3; obtain ⟨y0, y1⟩ := Y5.out.cell2; obtain ⟨fx0, fx1, fx2⟩ := X5.out.free3; obtain ⟨fy0, fy1⟩ := Y5.out.free2))
      go_region
      go_wp2
      obtain ⟨RX, RF, RR, RG⟩ := read_fin (.int .i64 0) (.string ⟨#[]⟩) (.int .i64 0) (.int .i64 3) (.int .i64 (p : Int)) X5.out Y5.out R5.out G5.out (by omega) (by omega) (by omega) (Nat.le_refl _) (by omega)
      exact bodyPost_ret (read_results _ _ w.heap.size (w.heap.size + 1) rfl rfl RX RF) rfl ⟨at', _, readret (x := noLx) (n := 0) (e := 3) (a := p) (by rw [HE.out]), hat, fun h => by have := congrArg (fun t => t.2.2.1) HE.out; simp only at this; omega, RR, RG⟩
    · rw [if_neg h0] at hn
      have HE := Lib.hid (H.out.symm.trans hn)
      have HZ := Lib.hid h0
      have t0 : Hid ((if kd = 0 then (3 : Int) else 0) = 0) := Lib.hid (if_neg h0)
      clear hn h0
      go_enter Tryd.func31, Tryd.ntmps31
      go_wp2_with (first
        | (go_at_call 44; (with_reducible refine (passBetween_any b s k0 g _ hk0 hs R2 p HP).mono ?_); rintro e w3 ⟨rfl, hR3, hG3⟩; have R3 := Lib.hid hR3; have G3 := Lib.hid (HG.out.trans hG3); have X3 := Lib.hid (GB.box X2.out hG3 (by omega)); have Y3 := Lib.hid (GB.box Y2.out hG3 (by omega)); clear hR3 hG3; obtain ⟨d0, d1, d2⟩ := R3.out.cell3; obtain ⟨f0, f1, f2⟩ := R3.out.free3; have R4 := Lib.hid (R3.out.begin (p : Int)); have G4 := Lib.hid (G3.out.set 2 (.int .i64 (p : Int))); have X4 := Lib.hid (X3.out.other (b' := b) (i := 2) (by omega) (.int .i64 (p : Int))); have Y4 := Lib.hid (Y3.out.other (b' := b) (i := 2) (by omega) (.int .i64 (p : Int))))
        | (go_at_call 45; (with_reducible refine (kind_any b s p (p : Int) _ hlt hs R4 kd m HB).mono ?_); rintro e w5 ⟨at', rfl, hat, hat2, hR5, hG5⟩; rw [t0.out]; obtain rfl := hat2 HZ.out; clear hat2; have R5 := Lib.hid hR5; have G5 := Lib.hid (G4.out.trans hG5); have X5 := Lib.hid (GB.box X4.out hG5 (by omega)); have Y5 := Lib.hid (GB.box Y4.out hG5 (by omega)); clear hR5 hG5 d0 d1 d2 f0 f1 f2; obtain ⟨d0, d1, d2⟩ := R5.out.cell3; obtain ⟨x0, x1, x2⟩ := X5.out.cell3; obtain ⟨y0, y1⟩ := Y5.out.cell2; obtain ⟨fx0, fx1, fx2⟩ := X5.out.free3; obtain ⟨fy0, fy1⟩ := Y5.out.free2))
      have i1 : (p : Int) ≤ ((p + m : Nat) : Int) := by omega
      have i2 : ((p + m : Nat) : Int) ≤ (s.size : Int) := by omega
      go_region
      go_wp2
      obtain ⟨RX, RF, RR, RG⟩ := read_fin (.int .i64 (kd : Int)) (.string (s.extract p (p + m))) (.int .i64 (p : Int)) (.int .i64 0) (.int .i64 0) X5.out Y5.out R5.out G5.out (by omega) (by omega) (by omega) (Nat.le_refl _) (by omega)
      exact bodyPost_ret (read_results _ _ w.heap.size (w.heap.size + 1) rfl rfl RX RF) rfl ⟨p + m, _, readret (x := (kd, s.extract p (p + m), p)) (n := p + m) (e := 0) (a := 0) (by rw [HE.out]), hat, fun _ => (congrArg (fun t => t.2.1) HE.out).symm, RR, RG⟩
theorem pnext_results (tm : Array Value) (W : World) (b1 b2 : Nat) {x y z u v n : Value} (h4 : tm.getD 4 undef = .pointer (some ⟨b1, 0, none⟩)) (h5 : tm.getD 5 undef = n) (h6 : tm.getD 6 undef = .pointer (some ⟨b2, 0, none⟩))
    (X : Box W 23 b1 #[x, y, z]) (Y : Box W 37 b2 #[u, v]) : (results Tryd.f23 tm).run Tryd.prog W = .ok (.tuple #[.agg #[x, y, z], n, .agg #[u, v]]) W := by
  obtain ⟨c0, c1, c2⟩ := X.cell3
  obtain ⟨d0, d1⟩ := Y.cell2
  simp only [Array.getD_eq_getD_getElem?] at h4 h5 h6
  simp [results, Tryd.results23, go_sem, h4, h5, h6, c0, c1, c2, d0, d1]
theorem nextR_out (s : ByteArray) (i : Int) (h : i < 0 ∨ (s.size : Int) < i) : nextR s i = (noLx, 0, 2, 0) := by unfold nextR; rw [if_pos h]
theorem store5 {B : Nat} {w w5 W : World} {b1 b2 : Nat} {x0 y0 z0 u0 v0 x y z u v : Value} (hW : W = ((((w5.setCell ⟨b1, 0, none⟩ x).setCell ⟨b1, 1, none⟩ y).setCell ⟨b1, 2, none⟩ z).setCell ⟨b2, 0, none⟩ u).setCell ⟨b2, 1, none⟩ v) (X : Box w5 23 b1 #[x0, y0, z0]) (Y : Box w5 37 b2 #[u0, v0]) (G : Below B w w5) (h1 : b1 ≠ b2) (h4 : B ≤ b1) (h5 : B ≤ b2) :
    Box W 23 b1 #[x, y, z] ∧ Box W 37 b2 #[u, v] ∧ Below B w W ∧ ∀ (t : TypeId) (c : Nat) (xs : Array Value), Box w5 t c xs → c ≠ b1 → c ≠ b2 → Box W t c xs := by
  subst hW
  refine ⟨?_, ?_, ?_, fun t c xs h g1 g2 => ?_⟩
  · exact (((((X.set 0 (by simp) x).set 1 (by simp) y).set 2 (by simp) z).other (b' := b2) (i := 0) h1 u).other (b' := b2) (i := 1) h1 v)
  · exact (((((Y.other (b' := b1) (i := 0) h1.symm x).other (b' := b1) (i := 1) h1.symm y).other (b' := b1) (i := 2) h1.symm z).set 0 (by simp) u).set 1 (by simp) v)
  · exact (((((G.setCell (p := ⟨b1, 0, none⟩) h4 x).setCell (p := ⟨b1, 1, none⟩) h4 y).setCell (p := ⟨b1, 2, none⟩) h4 z).setCell (p := ⟨b2, 0, none⟩) h5 u).setCell (p := ⟨b2, 1, none⟩) h5 v)
  · exact (((((h.other (b' := b1) (i := 0) g1 x).other (b' := b1) (i := 1) g1 y).other (b' := b1) (i := 2) g1 z).other (b' := b2) (i := 0) g2 u).other (b' := b2) (i := 1) g2 v)
theorem nextR_err {s : ByteArray} {i : Int} {x : Lx} {n er a : Nat} (h : nextR s i = (x, n, er, a)) (he : er ≠ 0) : x = noLx ∧ n = 0 := by
  unfold nextR at h
  split at h
  · simp only [Prod.mk.injEq] at h; exact ⟨h.1.symm, h.2.1.symm⟩
  · split at h
    · simp only [Prod.mk.injEq] at h; exact ⟨h.1.symm, h.2.1.symm⟩
    · split at h
      · simp only [Prod.mk.injEq] at h; exact ⟨h.1.symm, h.2.1.symm⟩
      · simp only [Prod.mk.injEq] at h; omega
theorem nextR_ok {s : ByteArray} {i : Int} {x : Lx} {n er a : Nat} (h : nextR s i = (x, n, er, a)) (he : er = 0) : a = 0 := by
  unfold nextR at h
  split at h
  · simp only [Prod.mk.injEq] at h; omega
  · split at h
    · simp only [Prod.mk.injEq] at h; omega
    · split at h
      · simp only [Prod.mk.injEq] at h; omega
      · simp only [Prod.mk.injEq] at h; omega
set_option maxRecDepth 100000 in
set_option maxHeartbeats 2000000 in
theorem pnext_any (s : ByteArray) (i : Int) (w : World) (h1 : -9223372036854775808 ≤ i) (h2 : i ≤ 9223372036854775807) (hs : s.size ≤ 9223372036854775806)
    (x : Lx) (n er a : Nat) (H : Hid (nextR s i = (x, n, er, a))) :
    Calls Tryd.prog 23 #[.string s, .int .i64 i] w fun e w' => e = .returned (.tuple #[lexV x, .int .i64 n, .agg #[.int .i64 (er : Int), .int .i64 (a : Int)]]) ∧ Below w.heap.size w w' := by
  by_cases hout : i < 0 ∨ (s.size : Int) < i
  · have HX := Lib.hid (H.out.symm.trans (nextR_out s i hout))
    by_cases hneg : i < 0
    · clear hout
      go_enter Tryd.func23, Tryd.ntmps23
      go_wp2
      refine bodyPost_ret (v := .tuple #[.agg #[.int .i64 (0 : Nat), .string ByteArray.empty, .int .i64 (0 : Nat)], .int .i64 ((0 : Nat) : Int), .agg #[.int .i64 ((2 : Nat) : Int), .int .i64 ((0 : Nat) : Int)]]) (by simp [results, Tryd.results23, go_sem]; first | rfl | done) rfl ⟨nextret (x := noLx) (by rw [HX.out]), ((Below.refl _ _).alloc (Nat.le_refl _) _).alloc (by simp) _⟩
    · have hbig : (s.size : Int) < i := by omega
      clear hout
      go_enter Tryd.func23, Tryd.ntmps23
      go_wp2
      refine bodyPost_ret (v := .tuple #[.agg #[.int .i64 (0 : Nat), .string ByteArray.empty, .int .i64 (0 : Nat)], .int .i64 ((0 : Nat) : Int), .agg #[.int .i64 ((2 : Nat) : Int), .int .i64 ((0 : Nat) : Int)]]) (by simp [results, Tryd.results23, go_sem]; first | rfl | done) rfl ⟨nextret (x := noLx) (by rw [HX.out]), ((Below.refl _ _).alloc (Nat.le_refl _) _).alloc (by simp) _⟩
  · have hi0 : 0 ≤ i := by omega
    have hi1 : i ≤ (s.size : Int) := by omega
    obtain ⟨k, rfl⟩ := Int.eq_ofNat_of_zero_le hi0
    have hk : k ≤ s.size := by omega
    clear hout
    obtain ⟨kd, tx, pl⟩ := x
    have X3 := Lib.hid (((Box.new w 23 #[.int .i64 0, .string ⟨#[]⟩, .int .i64 0]).alloc (.cells #[.int .i64 0, .int .i64 0] 37)).alloc (.cells #[.string s, .int .i64 (k : Int), .int .i64 0] 61))
    have Y3 := Lib.hid ((Box.new2 w (.cells #[.int .i64 0, .string ⟨#[]⟩, .int .i64 0] 23) 37 #[.int .i64 0, .int .i64 0]).alloc (.cells #[.string s, .int .i64 (k : Int), .int .i64 0] 61))
    have R3 : Hid (Rd (((w.alloc (.cells #[.int .i64 0, .string ⟨#[]⟩, .int .i64 0] 23)).alloc (.cells #[.int .i64 0, .int .i64 0] 37)).alloc (.cells #[.string s, .int .i64 (k : Int), .int .i64 0] 61)) (w.heap.size + 2) s k 0) := Lib.hid (by
      have h := Box.new ((w.alloc (.cells #[.int .i64 0, .string ⟨#[]⟩, .int .i64 0] 23)).alloc (.cells #[.int .i64 0, .int .i64 0] 37)) 61 #[.string s, .int .i64 (k : Int), .int .i64 0]
      rw [two_size] at h
      exact h)
    have G3 := Lib.hid ((((Below.refl w.heap.size w).alloc (Nat.le_refl _) (.cells #[.int .i64 0, .string ⟨#[]⟩, .int .i64 0] 23)).alloc (by simp) (.cells #[.int .i64 0, .int .i64 0] 37)).alloc (by simp; omega) (.cells #[.string s, .int .i64 (k : Int), .int .i64 0] 61))
    by_cases he : er = 0
    · have ha := Lib.hid (nextR_ok H.out he)
      have HEr := Lib.hid he
      have te : ((er : Int) != 0) = false := by rw [bne_eq_false_iff_eq]; omega
      clear he
      go_enter Tryd.func23, Tryd.ntmps23
      go_wp2_with (go_at_call 31; (with_reducible refine (read_any (w.heap.size + 2) s k 0 _ hk hs R3 (kd, tx, pl) n er a H).mono ?_); rintro e w5 ⟨at', g', rfl, hat, hat2, hR5, hG5⟩; have R5 := Lib.hid hR5; have X5 := Lib.hid (GB.box X3.out hG5 (by omega)); have Y5 := Lib.hid (GB.box Y3.out hG5 (by omega)); have G5 := Lib.hid (G3.out.trans (hG5.below (by omega) (by simp; omega))); obtain rfl := hat2 HEr.out; clear hat2 hR5 hG5; obtain ⟨x0, x1, x2⟩ := X5.out.cell3; obtain ⟨y0, y1⟩ := Y5.out.cell2; obtain ⟨fx0, fx1, fx2⟩ := X5.out.free3; obtain ⟨fy0, fy1⟩ := Y5.out.free2; obtain ⟨r0, r1, r2⟩ := R5.out.cell3)
      obtain ⟨W, hW⟩ : ∃ W, W = ((((w5.setCell ⟨w.heap.size, 0, none⟩ (.int .i64 (kd : Int))).setCell ⟨w.heap.size, 1, none⟩ (.string tx)).setCell ⟨w.heap.size, 2, none⟩ (.int .i64 (pl : Int))).setCell ⟨w.heap.size + 1, 0, none⟩ (.int .i64 (er : Int))).setCell ⟨w.heap.size + 1, 1, none⟩ (.int .i64 (a : Int)) := ⟨_, rfl⟩
      rw [← hW]
      obtain ⟨RX, RF, RG, RO⟩ := store5 hW X5.out Y5.out G5.out (by omega) (Nat.le_refl _) (by omega)
      have RR := RO _ _ _ R5.out (by omega) (by omega)
      have HX := Lib.hid RX
      have HF := Lib.hid RF
      have HG := Lib.hid RG
      clear hW RO x0 x1 x2 y0 y1 fx0 fx1 fx2 fy0 fy1 r0 r1 r2
      obtain ⟨x0, x1, x2⟩ := RX.cell3
      obtain ⟨y0, y1⟩ := RF.cell2
      obtain ⟨fx0, fx1, fx2⟩ := RX.free3
      obtain ⟨fy0, fy1⟩ := RF.free2
      obtain ⟨r0, r1, r2⟩ := RR.cell3
      clear RX RF RG RR
      go_region
      go_wp2
      obtain ⟨RX, RF, RG, _⟩ := store5 (x := .int .i64 (kd : Int)) (y := .string tx) (z := .int .i64 (pl : Int)) (u := .int .i64 0) (v := .int .i64 0) rfl HX.out HF.out HG.out (by omega) (Nat.le_refl _) (by omega)
      exact bodyPost_ret (pnext_results _ _ w.heap.size (w.heap.size + 1) rfl rfl rfl RX.drew RF.drew) rfl ⟨nextret (x := (kd, tx, pl)) (n := at') (e := 0) (a := 0) (by rw [HEr.out, ha.out]), RG.drew⟩
    · have HX0 := Lib.hid (nextR_err H.out he)
      have te : ((er : Int) != 0) = true := by rw [bne_iff_ne]; omega
      clear he
      go_enter Tryd.func23, Tryd.ntmps23
      go_wp2_with (go_at_call 31; (with_reducible refine (read_any (w.heap.size + 2) s k 0 _ hk hs R3 (kd, tx, pl) n er a H).mono ?_); rintro e w5 ⟨at', g', rfl, hat, hat2, hR5, hG5⟩; have R5 := Lib.hid hR5; have X5 := Lib.hid (GB.box X3.out hG5 (by omega)); have Y5 := Lib.hid (GB.box Y3.out hG5 (by omega)); have G5 := Lib.hid (G3.out.trans (hG5.below (by omega) (by simp; omega))); clear hat2 hR5 hG5; obtain ⟨x0, x1, x2⟩ := X5.out.cell3; obtain ⟨y0, y1⟩ := Y5.out.cell2; obtain ⟨fx0, fx1, fx2⟩ := X5.out.free3; obtain ⟨fy0, fy1⟩ := Y5.out.free2; obtain ⟨r0, r1, r2⟩ := R5.out.cell3)
      obtain ⟨W, hW⟩ : ∃ W, W = ((((w5.setCell ⟨w.heap.size, 0, none⟩ (.int .i64 (kd : Int))).setCell ⟨w.heap.size, 1, none⟩ (.string tx)).setCell ⟨w.heap.size, 2, none⟩ (.int .i64 (pl : Int))).setCell ⟨w.heap.size + 1, 0, none⟩ (.int .i64 (er : Int))).setCell ⟨w.heap.size + 1, 1, none⟩ (.int .i64 (a : Int)) := ⟨_, rfl⟩
      rw [← hW]
      obtain ⟨RX, RF, RG, RO⟩ := store5 hW X5.out Y5.out G5.out (by omega) (Nat.le_refl _) (by omega)
      have RR := RO _ _ _ R5.out (by omega) (by omega)
      have HX := Lib.hid RX
      have HF := Lib.hid RF
      have HG := Lib.hid RG
      clear hW RO x0 x1 x2 y0 y1 fx0 fx1 fx2 fy0 fy1 r0 r1 r2
      obtain ⟨x0, x1, x2⟩ := RX.cell3
      obtain ⟨y0, y1⟩ := RF.cell2
      obtain ⟨fx0, fx1, fx2⟩ := RX.free3
      obtain ⟨fy0, fy1⟩ := RF.free2
      obtain ⟨r0, r1, r2⟩ := RR.cell3
      clear RX RF RG RR
      go_region
      go_wp2
      obtain ⟨RX, RF, RG, _⟩ := store5 (x := .int .i64 0) (y := .string ⟨#[]⟩) (z := .int .i64 0) (u := .int .i64 (er : Int)) (v := .int .i64 (a : Int)) rfl HX.out HF.out HG.out (by omega) (Nat.le_refl _) (by omega)
      exact bodyPost_ret (pnext_results _ _ w.heap.size (w.heap.size + 1) rfl rfl rfl RX.drew RF.drew) rfl ⟨nextret (x := noLx) (n := 0) (e := er) (a := a) (by rw [HX0.out.1, HX0.out.2]), RG.drew⟩
end Go.Proofs.YtjhmlmimgahnmaaDoor.s04
