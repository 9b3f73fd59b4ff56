/-
  Layer 5, the reference's side: Ints.
-/
import Derived.Test.YtkepnjnindolbaaS05W
import Derived.Test.YtkepnjnindolbaaS05H
namespace Go.Proofs.Ytkepnjnindolbaa.s05
set_option linter.unusedVariables false
set_option linter.unusedSimpArgs false
open Go.RowKit
open kit

theorem append_in2 {T E : TypeId} {z : Value} {bytes : Nat} (hT : Try.prog.underlying T = some (.slice E)) (hE : (Try.prog.info? E).map (fun i => (i.zero, i.size, i.bytes)) = some (some z, 1, bytes)) (hzc : z.cells.size = 1) (hby : bytes ≤ 1000)
    {w : World} {ops : Array Oper} {rest : List Oper} {o : Oper} {a : Act} {Q : Exit → Act → World → Prop}
    (hg : o.guard = none) (s x : Operand) (hop : o.op = Op.call { callee := Callee.builtin Builtin.append, args := #[s, x], argTypes := #[T, T] })
    (base : Nat) (v : Value) (k : Nat) (xs : List Value) (hs : a.eval s = v) (hown : w.ownsRow base E 1 v k xs) (ad : Addr) (vs : List Value) (n c : Nat) (hx : a.eval x = .slice (some ad) n c) (hn : vs.length = n) (hsrc : ∀ j u, vs[j]? = some u → w.cell? (ad.add j) = some u) (h1 : ∀ u ∈ vs, u.oneCell' = true)
    (hk : k + n ≤ 1000000) (hb : base ≤ w.heap.size)
    (hK : ∀ v' w', w'.ownsRow base E 1 v' (k + n) (xs ++ vs) → w.grownBy w' v.ownBlock → wpList Try.prog ops Q rest (a.put o.dst v') w') :
    wpList Try.prog ops Q (o :: rest) a w := by
  obtain ⟨i0, hi, hz0, hz1, hz2⟩ := info_parts hE
  subst hn
  refine wpList_append_own w hg s x T hop base E i0 z 1 bytes hT hi hz0 hz1 hz2 hzc (by decide) v k _ hs hown ad vs.length c vs hx (by simp) hsrc h1 (by unfold maxLen; omega) ?_ hb fun v' w' h1 h2 _ => hK v' w' h1 h2
  have : (k + vs.length) * bytes ≤ 1000000 * 1000 := Nat.mul_le_mul hk hby
  omega
theorem Box.not_row {W : World} {b : Nat} {t e : TypeId} {ys : Array Value} (h : Box W t b ys) (hte : t ≠ e) {base k : Nat} {v : Value} {xs : List Value} (hr : W.ownsRow base e 1 v k xs) : some b ≠ v.ownBlock := by
  intro he
  rcases hr.2 with ⟨rfl, _⟩ | ⟨g, cap, cur, rfl, _, hgb, _⟩
  · simp [Value.ownBlock] at he
  · simp only [Value.ownBlock, Option.some.injEq] at he
    subst he
    rw [show W.heap[b]? = _ from h] at hgb
    simp only [Option.some.injEq, Obj.cells.injEq] at hgb
    exact hte hgb.2.1
/-- the state of the reference's loop -/
structure RSt (w W : World) (y : Nat) (s : ByteArray) (p q : Int) (v : Value) (d : List Int) : Prop where
  P : Box W 26 w.heap.size #[.string s, .int .i64 p, .int .i64 0, .int .i64 0]
  X : Box W 26 (w.heap.size + 1) #[.string ⟨#[]⟩, .int .i64 0, .int .i64 0, .int .i64 0]
  Y : Box W 26 y #[.string s, .int .i64 q, .int .i64 0, .int .i64 0]
  B : Below w.heap.size w W
  row : W.ownsRow (y + 1) 3 1 v d.length (d.map (Value.int .i64))
  lo : w.heap.size + 1 < y
theorem RSt.below {w W W' : World} {y : Nat} {s : ByteArray} {p q : Int} {v : Value} {d : List Int} (h : RSt w W y s p q v d) (hB : Below W.heap.size W W') : RSt w W' y s p q v d :=
  ⟨h.P.below hB, h.X.below hB, h.Y.below hB, below_then h.B hB, row_below h.row hB, h.lo⟩
theorem RSt.alloc {w W : World} {y : Nat} {s : ByteArray} {p q : Int} {v : Value} {d : List Int} (h : RSt w W y s p q v d) (o : Obj) : RSt w (W.alloc o) y s p q v d := h.below ((Below.refl _ _).alloc (Nat.le_refl _) o)
theorem RSt.grown {w W W' : World} {y : Nat} {s : ByteArray} {p q : Int} {v v' : Value} {d : List Int} {x : Int} (h : RSt w W y s p q v d) (hr : W'.ownsRow (y + 1) 3 1 v' (d.length + 1) (d.map (Value.int .i64) ++ [.int .i64 x])) (hB : Below (y + 1) W W') : RSt w W' y s p q v' (d ++ [x]) := by
  have k : ∀ {t : TypeId} {c : Nat} {xs : Array Value}, Box W t c xs → c < y + 1 → Box W' t c xs := fun hb hc => (hB.block _ hc).trans hb
  have := h.lo
  exact ⟨k h.P (by omega), k h.X (by omega), k h.Y (by omega), h.B.trans (hB.mono (by omega)), row_snoc rfl hr, h.lo⟩
theorem RSt.next {w W : World} {y : Nat} {s : ByteArray} {p q : Int} {v : Value} {d : List Int} (h : RSt w W y s p q v d) (q' : Int) : RSt w ((((W.setCell ⟨y, 0, none⟩ (.string s)).setCell ⟨y, 1, none⟩ (.int .i64 q')).setCell ⟨y, 2, none⟩ (.int .i64 0)).setCell ⟨y, 3, none⟩ (.int .i64 0)) y s p q' v d := by
  have := h.lo
  exact ⟨h.P.other4 (by omega) _ _ _ _, h.X.other4 (by omega) _ _ _ _, h.Y.set4 _ _ _ _, Below.set4 h.B y (by omega) _ _ _ _, row_other (row_other (row_other (row_other h.row _ _ (by omega) _) _ _ (by omega) _) _ _ (by omega) _) _ _ (by omega) _, h.lo⟩
theorem lstF_range {most least greatest : Int} {s : ByteArray} {a : Int} (h : most < 0 ∨ greatest < least) : lstF most least greatest s a = ([], 0, 2, a) := by
  unfold lstF
  by_cases h2 : greatest < least
  · rw [if_pos h2]
  · have hm : most < 0 := by omega
    rw [if_neg h2]
    unfold lenF
    simp [hm]
theorem lstF_len {most least greatest : Int} {s : ByteArray} {a n nx er q : Int} (h1 : ¬ most < 0) (h2 : ¬ greatest < least) (hb : rd s a = (n, nx, er, q)) : lstF most least greatest s a = if er = 0 then (if most < n then ([], 0, 4, a) else lstG least greatest s n.toNat nx) else ([], 0, er, q) := by
  unfold lstF lenF
  rw [if_neg h2, if_neg h1, hb]
  simp only []
  by_cases he : er = 0
  · subst he
    simp only [if_true]
    by_cases hm : most < n
    · simp only [if_pos hm]; rfl
    · simp only [if_neg hm, if_true]
  · simp only [if_neg he]
set_option maxRecDepth 100000 in
set_option maxHeartbeats 2000000 in
theorem rints_any (s : ByteArray) (p e o : Int) (most least greatest : Int) (hs : s.size ≤ 9223372036854775807) (hmost1 : -9223372036854775808 ≤ most) (hmost2 : most ≤ 9223372036854775807) (hleast1 : -9223372036854775808 ≤ least) (hleast2 : least ≤ 9223372036854775807) (hgreatest1 : -9223372036854775808 ≤ greatest) (hgreatest2 : greatest ≤ 9223372036854775807) (s' : ByteArray) (p' e' o' : Int) (l : List Int) (H : Hid (fldR ([] : List Int) (lstF most least greatest) s p e o = ((s', p', e', o'), l))) (w : World) :
    Calls Try.prog 19 #[.agg #[.string s, .int .i64 p, .int .i64 e, .int .i64 o], .int .i64 most, .int .i64 least, .int .i64 greatest] w (GivesR (RelL l) s' p' e' o' w) := by
  have P1 := Lib.hid ((Box.new w 26 #[.string s, .int .i64 p, .int .i64 e, .int .i64 o]).alloc (.cells #[.string ⟨#[]⟩, .int .i64 0, .int .i64 0, .int .i64 0] 26))
  have X1 := Lib.hid (Box.new2 w (.cells #[.string s, .int .i64 p, .int .i64 e, .int .i64 o] 26) 26 #[.string ⟨#[]⟩, .int .i64 0, .int .i64 0, .int .i64 0])
  have B1 := Lib.hid (two_below w (.cells #[.string s, .int .i64 p, .int .i64 e, .int .i64 o] 26) (.cells #[.string ⟨#[]⟩, .int .i64 0, .int .i64 0, .int .i64 0] 26))
  obtain ⟨s0, p0, e0, o0, hc⟩ : ∃ s0 p0 e0 o0, cnt s p e o = (s0, p0, e0, o0) := ⟨_, _, _, _, rfl⟩
  obtain ⟨r1, r2, r3, r4, r5, r6, r7⟩ := cnt_ok hc
  have HC := Lib.hid hc
  have HI := Lib.hid (cnt_idem hc)
  by_cases hr : most < 0 ∨ greatest < least
  · obtain ⟨sx, px, ex, ox, hw⟩ : ∃ sx px ex ox, withR s0 p0 e0 o0 2 p0 = (sx, px, ex, ox) := ⟨_, _, _, _, rfl⟩
    have HX := Lib.hid (H.out.symm.trans ((fldR_range hc (lstF_range hr) (by omega)).trans (by rw [hw] : _ = ((sx, px, ex, ox), ([] : List Int)))))
    have HW := Lib.hid hw
    clear H hc hw
    by_cases hl : most < 0
    · clear hr
      go_enter Try.func19, Try.ntmps19
      go_wp2_with (first
        | (go_at_call 50; (refine (rreader_any s p e o hs s0 p0 e0 o0 HC _).mono ?_); rintro en w2 ⟨rfl, hB⟩; have P2 := Lib.hid (P1.out.below hB); have X2 := Lib.hid (X1.out.below hB); have B2 := Lib.hid (below_then B1.out hB); clear hB; have lp := P2.out.lt; obtain ⟨cp0, cp1, cp2, cp3⟩ := P2.out.c4; obtain ⟨fp0, fp1, fp2, fp3⟩ := P2.out.f4; have lx := X2.out.lt; obtain ⟨cx0, cx1, cx2, cx3⟩ := X2.out.c4; obtain ⟨fx0, fx1, fx2, fx3⟩ := X2.out.f4; have P3 := Lib.hid (P2.out.set4 (.string s0) (.int .i64 p0) (.int .i64 e0) (.int .i64 o0)); have X3 := Lib.hid (X2.out.other4 (b' := w.heap.size) (by omega) (.string s0) (.int .i64 p0) (.int .i64 e0) (.int .i64 o0)); have B3 := Lib.hid (Below.set4 B2.out (w.heap.size) (by omega) (.string s0) (.int .i64 p0) (.int .i64 e0) (.int .i64 o0)))
        | (go_at_call 51; (refine (rfail_any s0 p0 e0 o0 2 p0 sx px ex ox HW _).mono ?_); rintro en w4 ⟨rfl, hB⟩; clear cp0 cp1 cp2 cp3 fp0 fp1 fp2 fp3 lp cx0 cx1 cx2 cx3 fx0 fx1 fx2 fx3 lx; have P4 := Lib.hid (P3.out.below hB); have X4 := Lib.hid (X3.out.below hB); have B4 := Lib.hid (below_then B3.out hB); clear hB; have lx := X4.out.lt; obtain ⟨cx0, cx1, cx2, cx3⟩ := X4.out.c4; obtain ⟨fx0, fx1, fx2, fx3⟩ := X4.out.f4))
      obtain ⟨d0, d1, d2, d3⟩ := (X4.out.set4 (.string sx) (.int .i64 px) (.int .i64 ex) (.int .i64 ox)).c4
      refine bodyPost_ret (v := .tuple #[.agg #[.string sx, .int .i64 px, .int .i64 ex, .int .i64 ox], .slice none 0 0]) (by simp [results, Try.results19, go_sem, d0, d1, d2, d3]) rfl ?_
      have BE := Below.set4 B4.out (w.heap.size + 1) (by omega) (.string sx) (.int .i64 px) (.int .i64 ex) (.int .i64 ox)
      cases HX.out
      exact ⟨_, w.heap.size, rfl, Nat.le_refl _, RelL.nil _ _, BE⟩
    · have hl2 : greatest < least := by omega
      clear hr
      go_enter Try.func19, Try.ntmps19
      go_wp2_with (first
        | (go_at_call 50; (refine (rreader_any s p e o hs s0 p0 e0 o0 HC _).mono ?_); rintro en w2 ⟨rfl, hB⟩; have P2 := Lib.hid (P1.out.below hB); have X2 := Lib.hid (X1.out.below hB); have B2 := Lib.hid (below_then B1.out hB); clear hB; have lp := P2.out.lt; obtain ⟨cp0, cp1, cp2, cp3⟩ := P2.out.c4; obtain ⟨fp0, fp1, fp2, fp3⟩ := P2.out.f4; have lx := X2.out.lt; obtain ⟨cx0, cx1, cx2, cx3⟩ := X2.out.c4; obtain ⟨fx0, fx1, fx2, fx3⟩ := X2.out.f4; have P3 := Lib.hid (P2.out.set4 (.string s0) (.int .i64 p0) (.int .i64 e0) (.int .i64 o0)); have X3 := Lib.hid (X2.out.other4 (b' := w.heap.size) (by omega) (.string s0) (.int .i64 p0) (.int .i64 e0) (.int .i64 o0)); have B3 := Lib.hid (Below.set4 B2.out (w.heap.size) (by omega) (.string s0) (.int .i64 p0) (.int .i64 e0) (.int .i64 o0)))
        | (go_at_call 51; (refine (rfail_any s0 p0 e0 o0 2 p0 sx px ex ox HW _).mono ?_); rintro en w4 ⟨rfl, hB⟩; clear cp0 cp1 cp2 cp3 fp0 fp1 fp2 fp3 lp cx0 cx1 cx2 cx3 fx0 fx1 fx2 fx3 lx; have P4 := Lib.hid (P3.out.below hB); have X4 := Lib.hid (X3.out.below hB); have B4 := Lib.hid (below_then B3.out hB); clear hB; have lx := X4.out.lt; obtain ⟨cx0, cx1, cx2, cx3⟩ := X4.out.c4; obtain ⟨fx0, fx1, fx2, fx3⟩ := X4.out.f4))
      obtain ⟨d0, d1, d2, d3⟩ := (X4.out.set4 (.string sx) (.int .i64 px) (.int .i64 ex) (.int .i64 ox)).c4
      refine bodyPost_ret (v := .tuple #[.agg #[.string sx, .int .i64 px, .int .i64 ex, .int .i64 ox], .slice none 0 0]) (by simp [results, Try.results19, go_sem, d0, d1, d2, d3]) rfl ?_
      have BE := Below.set4 B4.out (w.heap.size + 1) (by omega) (.string sx) (.int .i64 px) (.int .i64 ex) (.int .i64 ox)
      cases HX.out
      exact ⟨_, w.heap.size, rfl, Nat.le_refl _, RelL.nil _ _, BE⟩
  · have hl1 : ¬ most < 0 := by omega
    have hl2 : ¬ greatest < least := by omega
    have hl3 : 0 ≤ most := by omega
    clear hr
    by_cases he : e0 = 0
    · subst he
      obtain rfl := r7 rfl
      obtain ⟨n', nx, er, q, hb⟩ : ∃ n' nx er q, rd s0 p0 = (n', nx, er, q) := ⟨_, _, _, _, rfl⟩
      obtain ⟨b1, b2⟩ := rd_bounds s0 p0 hb
      have hbm : bnd s0 p0 18446744073709551615 = (n', nx, er, q) := (bnd_max s0 p0).trans hb
      have hF := lstF_len hl1 hl2 hb
      by_cases hq : er = 0
      · subst hq
        obtain ⟨g1, g2, g3, g4, g5, rfl⟩ := b1 rfl
        have HWD := Lib.hid (fldR_ok (z := (0 : Int)) (F := fun s a => bnd s a 18446744073709551615) HI.out hbm)
        rw [if_pos rfl] at hF
        by_cases hl : most < n'
        · rw [if_pos hl] at hF
          have HX := Lib.hid (H.out.symm.trans (fldR_new hc hF (by omega)))
          clear H hc hF hb hbm b1 b2
          go_enter Try.func19, Try.ntmps19
          go_wp2_with (first
            | (go_at_call 50; (refine (rreader_any s p e o hs s0 p0 0 0 HC _).mono ?_); rintro en w2 ⟨rfl, hB⟩; have P2 := Lib.hid (P1.out.below hB); have X2 := Lib.hid (X1.out.below hB); have B2 := Lib.hid (below_then B1.out hB); clear hB; have lp := P2.out.lt; obtain ⟨cp0, cp1, cp2, cp3⟩ := P2.out.c4; obtain ⟨fp0, fp1, fp2, fp3⟩ := P2.out.f4; have lx := X2.out.lt; obtain ⟨cx0, cx1, cx2, cx3⟩ := X2.out.c4; obtain ⟨fx0, fx1, fx2, fx3⟩ := X2.out.f4; have P3 := Lib.hid (P2.out.set4 (.string s0) (.int .i64 p0) (.int .i64 0) (.int .i64 0)); have X3 := Lib.hid (X2.out.other4 (b' := w.heap.size) (by omega) (.string s0) (.int .i64 p0) (.int .i64 0) (.int .i64 0)); have B3 := Lib.hid (Below.set4 B2.out (w.heap.size) (by omega) (.string s0) (.int .i64 p0) (.int .i64 0) (.int .i64 0)))
            | (go_at_call 13; (refine (rwide_any s0 p0 0 0 18446744073709551615 (by omega) (by omega) (by omega) s0 nx 0 0 n' HWD _).mono ?_); rintro en w4 ⟨rfl, hB⟩; clear cp0 cp1 cp2 cp3 fp0 fp1 fp2 fp3 lp cx0 cx1 cx2 cx3 fx0 fx1 fx2 fx3 lx; have P4 := Lib.hid (P3.out.below hB); have X4 := Lib.hid (X3.out.below hB); have B4 := Lib.hid (below_then B3.out hB); clear hB; have lp := P4.out.lt; obtain ⟨cp0, cp1, cp2, cp3⟩ := P4.out.c4; obtain ⟨fp0, fp1, fp2, fp3⟩ := P4.out.f4; have lx := X4.out.lt; obtain ⟨cx0, cx1, cx2, cx3⟩ := X4.out.c4; obtain ⟨fx0, fx1, fx2, fx3⟩ := X4.out.f4; have P5 := Lib.hid (P4.out.alloc (.cells #[.string s0, .int .i64 nx, .int .i64 0, .int .i64 0] 26)); have X5 := Lib.hid (X4.out.alloc (.cells #[.string s0, .int .i64 nx, .int .i64 0, .int .i64 0] 26)); have B5 := Lib.hid (B4.out.alloc B4.out.size (.cells #[.string s0, .int .i64 nx, .int .i64 0, .int .i64 0] 26)); have Y5 := Lib.hid (Box.new _ 26 #[.string s0, .int .i64 nx, .int .i64 0, .int .i64 0] : Box (World.alloc w4 (.cells #[.string s0, .int .i64 nx, .int .i64 0, .int .i64 0] 26)) _ _ _))
            | (go_at_call 52; (refine (rfine_any s0 nx 0 0 true (Lib.hid rfl) _).mono ?_); rintro en w6 ⟨rfl, hB⟩; clear cp0 cp1 cp2 cp3 fp0 fp1 fp2 fp3 lp cx0 cx1 cx2 cx3 fx0 fx1 fx2 fx3 lx; have P6 := Lib.hid (P5.out.below hB); have X6 := Lib.hid (X5.out.below hB); have Y6 := Lib.hid (Y5.out.below hB); have B6 := Lib.hid (below_then B5.out hB); clear hB; have lp := P6.out.lt; obtain ⟨cp0, cp1, cp2, cp3⟩ := P6.out.c4; obtain ⟨fp0, fp1, fp2, fp3⟩ := P6.out.f4; have lx := X6.out.lt; obtain ⟨cx0, cx1, cx2, cx3⟩ := X6.out.c4; obtain ⟨fx0, fx1, fx2, fx3⟩ := X6.out.f4; have ly := Y6.out.lt; obtain ⟨cy0, cy1, cy2, cy3⟩ := Y6.out.c4; obtain ⟨fy0, fy1, fy2, fy3⟩ := Y6.out.f4)
            | (go_at_call 51; (refine (rfail_any s0 p0 0 0 4 p0 s0 p0 4 p0 (Lib.hid rfl) _).mono ?_); rintro en w7 ⟨rfl, hB⟩; clear cp0 cp1 cp2 cp3 fp0 fp1 fp2 fp3 lp cx0 cx1 cx2 cx3 fx0 fx1 fx2 fx3 lx cy0 cy1 cy2 cy3 fy0 fy1 fy2 fy3 ly; have P7 := Lib.hid (P6.out.below hB); have X7 := Lib.hid (X6.out.below hB); have Y7 := Lib.hid (Y6.out.below hB); have B7 := Lib.hid (below_then B6.out hB); clear hB; have lx := X7.out.lt; obtain ⟨cx0, cx1, cx2, cx3⟩ := X7.out.c4; obtain ⟨fx0, fx1, fx2, fx3⟩ := X7.out.f4))
          obtain ⟨d0, d1, d2, d3⟩ := (X7.out.set4 (.string s0) (.int .i64 p0) (.int .i64 4) (.int .i64 p0)).c4
          refine bodyPost_ret (v := .tuple #[.agg #[.string s0, .int .i64 p0, .int .i64 4, .int .i64 p0], .slice none 0 0]) (by simp [results, Try.results19, go_sem, d0, d1, d2, d3]) rfl ?_
          have BE := Below.set4 B7.out (w.heap.size + 1) (by omega) (.string s0) (.int .i64 p0) (.int .i64 4) (.int .i64 p0)
          cases HX.out
          exact ⟨_, w.heap.size, rfl, Nat.le_refl _, RelL.nil _ _, BE⟩
        · rw [if_neg hl] at hF
          obtain ⟨k, rfl⟩ := Int.eq_ofNat_of_zero_le g1
          have hl5 : (k : Int) ≤ most := by omega
          have hH : Hid (∀ lx nz er q, lstG least greatest s0 k nx = (lx, nz, er, q) → (er = 0 → q = 0 ∧ ((s', p', e', o'), l) = ((s0, nz, 0, 0), lx)) ∧ (er ≠ 0 → ((s', p', e', o'), l) = ((s0, p0, er, q), lx))) := Lib.hid (by
            intro lx nz er q hg
            rw [Int.toNat_natCast, hg] at hF
            refine ⟨fun h0 => ?_, fun h0 => H.out.symm.trans (fldR_new hc hF h0)⟩
            subst h0
            obtain rfl := lstG_zero hg
            exact ⟨rfl, H.out.symm.trans (fldR_ok hc hF)⟩)
          obtain ⟨lx, nz, ez, qz, hg⟩ : ∃ lx nz er q, lstG least greatest s0 k nx = (lx, nz, er, q) := ⟨_, _, _, _, rfl⟩
          have HG := Lib.hid hg
          have HX := Lib.hid (hH.out _ _ _ _ hg)
          clear H hc hF hb hbm b1 b2 hl hH hg
          go_enter Try.func19, Try.ntmps19
          go_wp2_with (first
            | (go_at_call 50; (refine (rreader_any s p e o hs s0 p0 0 0 HC _).mono ?_); rintro en w2 ⟨rfl, hB⟩; have P2 := Lib.hid (P1.out.below hB); have X2 := Lib.hid (X1.out.below hB); have B2 := Lib.hid (below_then B1.out hB); clear hB; have lp := P2.out.lt; obtain ⟨cp0, cp1, cp2, cp3⟩ := P2.out.c4; obtain ⟨fp0, fp1, fp2, fp3⟩ := P2.out.f4; have lx := X2.out.lt; obtain ⟨cx0, cx1, cx2, cx3⟩ := X2.out.c4; obtain ⟨fx0, fx1, fx2, fx3⟩ := X2.out.f4; have P3 := Lib.hid (P2.out.set4 (.string s0) (.int .i64 p0) (.int .i64 0) (.int .i64 0)); have X3 := Lib.hid (X2.out.other4 (b' := w.heap.size) (by omega) (.string s0) (.int .i64 p0) (.int .i64 0) (.int .i64 0)); have B3 := Lib.hid (Below.set4 B2.out (w.heap.size) (by omega) (.string s0) (.int .i64 p0) (.int .i64 0) (.int .i64 0)))
            | (go_at_call 13; (refine (rwide_any s0 p0 0 0 18446744073709551615 (by omega) (by omega) (by omega) s0 nx 0 0 k HWD _).mono ?_); rintro en w4 ⟨rfl, hB⟩; clear cp0 cp1 cp2 cp3 fp0 fp1 fp2 fp3 lp cx0 cx1 cx2 cx3 fx0 fx1 fx2 fx3 lx; have P4 := Lib.hid (P3.out.below hB); have X4 := Lib.hid (X3.out.below hB); have B4 := Lib.hid (below_then B3.out hB); clear hB; have lp := P4.out.lt; obtain ⟨cp0, cp1, cp2, cp3⟩ := P4.out.c4; obtain ⟨fp0, fp1, fp2, fp3⟩ := P4.out.f4; have lx := X4.out.lt; obtain ⟨cx0, cx1, cx2, cx3⟩ := X4.out.c4; obtain ⟨fx0, fx1, fx2, fx3⟩ := X4.out.f4; have P5 := Lib.hid (P4.out.alloc (.cells #[.string s0, .int .i64 nx, .int .i64 0, .int .i64 0] 26)); have X5 := Lib.hid (X4.out.alloc (.cells #[.string s0, .int .i64 nx, .int .i64 0, .int .i64 0] 26)); have B5 := Lib.hid (B4.out.alloc B4.out.size (.cells #[.string s0, .int .i64 nx, .int .i64 0, .int .i64 0] 26)); have Y5 := Lib.hid (Box.new _ 26 #[.string s0, .int .i64 nx, .int .i64 0, .int .i64 0] : Box (World.alloc w4 (.cells #[.string s0, .int .i64 nx, .int .i64 0, .int .i64 0] 26)) _ _ _))
            | (go_at_call 52; (refine (rfine_any s0 nx 0 0 true (Lib.hid rfl) _).mono ?_); rintro en w6 ⟨rfl, hB⟩; clear cp0 cp1 cp2 cp3 fp0 fp1 fp2 fp3 lp cx0 cx1 cx2 cx3 fx0 fx1 fx2 fx3 lx; have P6 := Lib.hid (P5.out.below hB); have X6 := Lib.hid (X5.out.below hB); have Y6 := Lib.hid (Y5.out.below hB); have B6 := Lib.hid (below_then B5.out hB); clear hB; have lp := P6.out.lt; obtain ⟨cp0, cp1, cp2, cp3⟩ := P6.out.c4; obtain ⟨fp0, fp1, fp2, fp3⟩ := P6.out.f4; have lx := X6.out.lt; obtain ⟨cx0, cx1, cx2, cx3⟩ := X6.out.c4; obtain ⟨fx0, fx1, fx2, fx3⟩ := X6.out.f4; have ly := Y6.out.lt; obtain ⟨cy0, cy1, cy2, cy3⟩ := Y6.out.c4; obtain ⟨fy0, fy1, fy2, fy3⟩ := Y6.out.f4))
          have hy0 := X4.out.lt
          have R0 : Hid (RSt w _ _ s0 p0 nx (.slice none 0 0) []) := Lib.hid ⟨P6.out, X6.out, Y6.out, B6.out, World.ownsRow_nil _ _ _ _, by omega⟩
          clear cp0 cp1 cp2 cp3 fp0 fp1 fp2 fp3 lp cx0 cx1 cx2 cx3 fx0 fx1 fx2 fx3 lx cy0 cy1 cy2 cy3 fy0 fy1 fy2 fy3 ly
          obtain ⟨y, hy⟩ : ∃ y, y = w4.heap.size := ⟨_, rfl⟩
          rw [← hy] at R0 ⊢
          clear hy hy0
          go_loopw [12, 13] (fun v i wr => ∃ (j : Nat) (q' : Int) (d : List Int), i = .int .u64 j ∧ j ≤ k ∧ d.length = j ∧ (j : Int) ≤ q' ∧ q' ≤ s0.size ∧ Hid (RSt w wr y s0 p0 q' v d) ∧ Hid (appG d (lstG least greatest s0 (k - j) q') = (lx, nz, ez, qz))) (fun _ i _ => k - (intOf i).toNat)
          case atStart => exact ⟨0, nx, [], rfl, by omega, rfl, by omega, g5, R0, Lib.hid (by rw [appG_nil]; simpa using HG.out)⟩
          case round =>
            obtain ⟨j, q', d, rfl, hj, hdl, hq1, hq2, R3, HQ⟩ := hrel
            have hd := Lib.hid hdl
            have hdle : d.length ≤ 20000 := by omega
            clear hdl
            by_cases hlt : j < k
            · obtain ⟨m, hm⟩ : ∃ m, k - j = m + 1 := ⟨k - j - 1, by omega⟩
              obtain ⟨z, ny, ey, qy, hrd⟩ : ∃ z ny ey qy, rd s0 q' = (z, ny, ey, qy) := ⟨_, _, _, _, rfl⟩
              obtain ⟨v1, v2⟩ := rd_bounds s0 q' hrd
              have hbm : bnd s0 q' 18446744073709551615 = (z, ny, ey, qy) := (bnd_max s0 q').trans hrd
              have hq := HQ.out
              rw [hm] at hq
              have hm2 : k - (j + 1) = m := by omega
              have HM := Lib.hid hm2
              have hcn := cnt_of (s := s0) (p := q') r1 (by omega) hq2
              have hjk2 : (j : Int) < k := by omega
              obtain ⟨cy0, cy1, cy2, cy3⟩ := R3.out.Y.c4
              clear hm hm2 HQ
              by_cases hey : ey = 0
              · subst hey
                obtain ⟨t1, t2, t3, t4, t5, rfl⟩ := v1 rfl
                have HWD := Lib.hid (fldR_ok (z := (0 : Int)) (F := fun s a => bnd s a 18446744073709551615) hcn hbm)
                obtain ⟨u1, u2⟩ := uz_range t1 t2
                obtain ⟨x, hxu⟩ : ∃ x, x = uz z := ⟨_, rfl⟩
                rw [← hxu] at u1 u2
                have HU := Lib.hid hxu
                have hsg : sgnF least greatest s0 q' = if x < least ∨ greatest < x then (0, 0, 2, q') else (x, ny, 0, 0) := by
                  unfold sgnF; rw [hrd]; simp only [if_true]; rw [← hxu]
                clear hxu hrd hbm hcn v1 v2
                by_cases hlow : x < least ∨ greatest < x
                · rw [if_pos hlow] at hsg
                  rw [appG_bad d hsg (by omega)] at hq
                  have HX2 := Lib.hid hq
                  clear hq hsg
                  by_cases hl : x < least
                  · clear hlow
                    go_wp2_with (first
                      | (go_at_call 13; refine (rwide_any s0 q' 0 0 18446744073709551615 (by omega) (by omega) (by omega) s0 ny 0 0 z HWD _).mono ?_; rintro en w4 ⟨rfl, hB⟩; have R4 := Lib.hid (R3.out.below hB); have R5 := Lib.hid (R4.out.alloc (.cells #[.string s0, .int .i64 ny, .int .i64 0, .int .i64 0] 26)); have A5 := Lib.hid (Box.new w4 26 #[.string s0, .int .i64 ny, .int .i64 0, .int .i64 0]); clear hB cy0 cy1 cy2 cy3)
                      | (go_at_call 52; refine (rfine_any s0 ny 0 0 true (Lib.hid rfl) _).mono ?_; rintro en w6 ⟨rfl, hB⟩; have R6 := Lib.hid (R5.out.below hB); have A6 := Lib.hid (A5.out.below hB); clear hB; obtain ⟨cp0, cp1, cp2, cp3⟩ := R6.out.P.c4; obtain ⟨ca0, ca1, ca2, ca3⟩ := A6.out.c4; obtain ⟨cy0, cy1, cy2, cy3⟩ := R6.out.Y.c4; obtain ⟨fy0, fy1, fy2, fy3⟩ := R6.out.Y.f4; have lp6 := R6.out.P.lt; have ly6 := R6.out.Y.lt)
                      | (go_at_call 66; refine (unzr_any z (by omega) (by omega) _).mono ?_; rintro en w8 ⟨rfl, rfl⟩; rw [← HU.out])
                      | (go_at_call 51; refine (rfail_any s0 p0 0 0 2 q' s0 p0 2 q' (Lib.hid rfl) _).mono ?_; rintro en w7 ⟨rfl, hB⟩; have R7 := Lib.hid (R6.out.below hB); clear hB cp0 cp1 cp2 cp3 ca0 ca1 ca2 ca3 cy0 cy1 cy2 cy3 fy0 fy1 fy2 fy3; obtain ⟨cx0, cx1, cx2, cx3⟩ := R7.out.X.c4; obtain ⟨fx0, fx1, fx2, fx3⟩ := R7.out.X.f4))
                    have hlo := R7.out.lo
                    obtain ⟨d0, d1, d2, d3⟩ := (R7.out.X.set4 (.string s0) (.int .i64 p0) (.int .i64 2) (.int .i64 q')).c4
                    refine bodyPost_ret (v := .tuple #[.agg #[.string s0, .int .i64 p0, .int .i64 2, .int .i64 q'], .slice none 0 0]) (by simp [results, Try.results19, go_sem, d0, d1, d2, d3]) rfl ?_
                    have BE := Below.set4 R7.out.B (w.heap.size + 1) (by omega) (.string s0) (.int .i64 p0) (.int .i64 2) (.int .i64 q')
                    have hx2 := HX2.out
                    have hx1 := HX.out
                    cases hx2
                    have hx3 := hx1.2 (by omega)
                    simp only [Prod.mk.injEq] at hx3
                    obtain ⟨⟨rfl, rfl, rfl, rfl⟩, rfl⟩ := hx3
                    exact ⟨_, w.heap.size, rfl, Nat.le_refl _, RelL.nil _ _, BE⟩
                  · have hl2 : greatest < x := by omega
                    clear hlow
                    go_wp2_with (first
                      | (go_at_call 13; refine (rwide_any s0 q' 0 0 18446744073709551615 (by omega) (by omega) (by omega) s0 ny 0 0 z HWD _).mono ?_; rintro en w4 ⟨rfl, hB⟩; have R4 := Lib.hid (R3.out.below hB); have R5 := Lib.hid (R4.out.alloc (.cells #[.string s0, .int .i64 ny, .int .i64 0, .int .i64 0] 26)); have A5 := Lib.hid (Box.new w4 26 #[.string s0, .int .i64 ny, .int .i64 0, .int .i64 0]); clear hB cy0 cy1 cy2 cy3)
                      | (go_at_call 52; refine (rfine_any s0 ny 0 0 true (Lib.hid rfl) _).mono ?_; rintro en w6 ⟨rfl, hB⟩; have R6 := Lib.hid (R5.out.below hB); have A6 := Lib.hid (A5.out.below hB); clear hB; obtain ⟨cp0, cp1, cp2, cp3⟩ := R6.out.P.c4; obtain ⟨ca0, ca1, ca2, ca3⟩ := A6.out.c4; obtain ⟨cy0, cy1, cy2, cy3⟩ := R6.out.Y.c4; obtain ⟨fy0, fy1, fy2, fy3⟩ := R6.out.Y.f4; have lp6 := R6.out.P.lt; have ly6 := R6.out.Y.lt)
                      | (go_at_call 66; refine (unzr_any z (by omega) (by omega) _).mono ?_; rintro en w8 ⟨rfl, rfl⟩; rw [← HU.out])
                      | (go_at_call 51; refine (rfail_any s0 p0 0 0 2 q' s0 p0 2 q' (Lib.hid rfl) _).mono ?_; rintro en w7 ⟨rfl, hB⟩; have R7 := Lib.hid (R6.out.below hB); clear hB cp0 cp1 cp2 cp3 ca0 ca1 ca2 ca3 cy0 cy1 cy2 cy3 fy0 fy1 fy2 fy3; obtain ⟨cx0, cx1, cx2, cx3⟩ := R7.out.X.c4; obtain ⟨fx0, fx1, fx2, fx3⟩ := R7.out.X.f4))
                    have hlo := R7.out.lo
                    obtain ⟨d0, d1, d2, d3⟩ := (R7.out.X.set4 (.string s0) (.int .i64 p0) (.int .i64 2) (.int .i64 q')).c4
                    refine bodyPost_ret (v := .tuple #[.agg #[.string s0, .int .i64 p0, .int .i64 2, .int .i64 q'], .slice none 0 0]) (by simp [results, Try.results19, go_sem, d0, d1, d2, d3]) rfl ?_
                    have BE := Below.set4 R7.out.B (w.heap.size + 1) (by omega) (.string s0) (.int .i64 p0) (.int .i64 2) (.int .i64 q')
                    have hx2 := HX2.out
                    have hx1 := HX.out
                    cases hx2
                    have hx3 := hx1.2 (by omega)
                    simp only [Prod.mk.injEq] at hx3
                    obtain ⟨⟨rfl, rfl, rfl, rfl⟩, rfl⟩ := hx3
                    exact ⟨_, w.heap.size, rfl, Nat.le_refl _, RelL.nil _ _, BE⟩
                · rw [if_neg hlow] at hsg
                  rw [appG_more d hsg] at hq
                  have HQ := Lib.hid hq
                  have hl1 : ¬ x < least := by omega
                  have hl2 : ¬ greatest < x := by omega
                  clear hq hsg hlow
                  go_wp2_with (first
                    | (go_at_call 13; refine (rwide_any s0 q' 0 0 18446744073709551615 (by omega) (by omega) (by omega) s0 ny 0 0 z HWD _).mono ?_; rintro en w4 ⟨rfl, hB⟩; have R4 := Lib.hid (R3.out.below hB); have R5 := Lib.hid (R4.out.alloc (.cells #[.string s0, .int .i64 ny, .int .i64 0, .int .i64 0] 26)); have A5 := Lib.hid (Box.new w4 26 #[.string s0, .int .i64 ny, .int .i64 0, .int .i64 0]); clear hB cy0 cy1 cy2 cy3)
                    | (go_at_call 52; refine (rfine_any s0 ny 0 0 true (Lib.hid rfl) _).mono ?_; rintro en w6 ⟨rfl, hB⟩; have R6 := Lib.hid (R5.out.below hB); have A6 := Lib.hid (A5.out.below hB); clear hB; obtain ⟨cp0, cp1, cp2, cp3⟩ := R6.out.P.c4; obtain ⟨ca0, ca1, ca2, ca3⟩ := A6.out.c4; obtain ⟨cy0, cy1, cy2, cy3⟩ := R6.out.Y.c4; obtain ⟨fy0, fy1, fy2, fy3⟩ := R6.out.Y.f4; have lp6 := R6.out.P.lt; have ly6 := R6.out.Y.lt)
                    | (go_at_call 66; refine (unzr_any z (by omega) (by omega) _).mono ?_; rintro en w8 ⟨rfl, rfl⟩; rw [← HU.out])
                    | (at_builtin; refine append_in2 Try.underlying35 info3 rfl (by omega) rfl (.tmp 80) (.tmp 82) rfl (y + 1) _ d.length (d.map (Value.int .i64)) rfl (row_alloc R6.out.row _) ⟨w6.heap.size, 0, none⟩ [.int .i64 x] 1 1 rfl rfl (cell_one_new _ _ _) (by simp [Value.oneCell']) (by omega) (by simp; omega) ?_; intro v9 w9 hv1 hG9; have hBA := below_grown (Below.refl (y + 1) _) (row_alloc R6.out.row _) hG9 (by simp; omega); have hA9 := hG9.block _ (A6.out.alloc (.cells #[.int .i64 x] 3)).lt (Box.not_row (A6.out.alloc (.cells #[.int .i64 x] 3)) (by decide) (row_alloc R6.out.row _)); obtain ⟨a9, k9, rfl⟩ := row_shape hv1; have R9 := Lib.hid ((R6.out.alloc _).grown hv1 hBA); have A9 : Hid (Box w9 _ _ _) := Lib.hid (hA9.trans (A6.out.alloc (.cells #[.int .i64 x] 3))); clear hv1 hBA hG9 hA9 cp0 cp1 cp2 cp3 ca0 ca1 ca2 ca3 cy0 cy1 cy2 cy3 fy0 fy1 fy2 fy3; obtain ⟨ca0, ca1, ca2, ca3⟩ := A9.out.c4; obtain ⟨cy0, cy1, cy2, cy3⟩ := R9.out.Y.c4; obtain ⟨fy0, fy1, fy2, fy3⟩ := R9.out.Y.f4))
                  go_roundw
                  case rel => exact ⟨j + 1, ny, d ++ [x], by go_num, by omega, by simp [hd.out], by omega, t5, Lib.hid (R9.out.next ny), Lib.hid (by rw [HM.out]; exact HQ.out)⟩
                  case measure => simp [intOf]; omega
              · obtain ⟨rfl, rfl, t3, t4, t5⟩ := v2 hey
                have HWD := Lib.hid (fldR_new (z := (0 : Int)) (F := fun s a => bnd s a 18446744073709551615) hcn hbm hey)
                have hsg : sgnF least greatest s0 q' = (0, 0, ey, qy) := by unfold sgnF; rw [hrd]; simp only [if_neg hey]
                rw [appG_bad d hsg hey] at hq
                have HX2 := Lib.hid hq
                have HE : Hid ((ey == 0) = false) := Lib.hid (by simpa using hey)
                have hey2 := Lib.hid hey
                clear hq hsg hrd hbm hcn v1 v2 hey
                go_wp2_with (first
                  | (go_at_call 13; refine (rwide_any s0 q' 0 0 18446744073709551615 (by omega) (by omega) (by omega) s0 q' ey qy 0 HWD _).mono ?_; rintro en w4 ⟨rfl, hB⟩; have R4 := Lib.hid (R3.out.below hB); have R5 := Lib.hid (R4.out.alloc (.cells #[.string s0, .int .i64 q', .int .i64 ey, .int .i64 qy] 26)); have A5 := Lib.hid (Box.new w4 26 #[.string s0, .int .i64 q', .int .i64 ey, .int .i64 qy]); clear hB cy0 cy1 cy2 cy3)
                  | (go_at_call 52; refine (rfine_any s0 q' ey qy false HE _).mono ?_; rintro en w6 ⟨rfl, hB⟩; have R6 := Lib.hid (R5.out.below hB); have A6 := Lib.hid (A5.out.below hB); clear hB; obtain ⟨cp0, cp1, cp2, cp3⟩ := R6.out.P.c4; obtain ⟨ca0, ca1, ca2, ca3⟩ := A6.out.c4; obtain ⟨cy0, cy1, cy2, cy3⟩ := R6.out.Y.c4; obtain ⟨fy0, fy1, fy2, fy3⟩ := R6.out.Y.f4; have lp6 := R6.out.P.lt; have ly6 := R6.out.Y.lt)
                  | (go_at_call 57; refine (rwith_any s0 p0 0 0 ey qy s0 p0 ey qy (Lib.hid rfl) _).mono ?_; rintro en w7 ⟨rfl, hB⟩; have R7 := Lib.hid (R6.out.below hB); clear hB cp0 cp1 cp2 cp3 ca0 ca1 ca2 ca3 cy0 cy1 cy2 cy3 fy0 fy1 fy2 fy3; obtain ⟨cx0, cx1, cx2, cx3⟩ := R7.out.X.c4; obtain ⟨fx0, fx1, fx2, fx3⟩ := R7.out.X.f4))
                have hlo := R7.out.lo
                obtain ⟨d0, d1, d2, d3⟩ := (R7.out.X.set4 (.string s0) (.int .i64 p0) (.int .i64 ey) (.int .i64 qy)).c4
                refine bodyPost_ret (v := .tuple #[.agg #[.string s0, .int .i64 p0, .int .i64 ey, .int .i64 qy], .slice none 0 0]) (by simp [results, Try.results19, go_sem, d0, d1, d2, d3]) rfl ?_
                have BE := Below.set4 R7.out.B (w.heap.size + 1) (by omega) (.string s0) (.int .i64 p0) (.int .i64 ey) (.int .i64 qy)
                have hx2 := HX2.out
                have hx1 := HX.out
                cases hx2
                have hx3 := hx1.2 (hey2.out)
                simp only [Prod.mk.injEq] at hx3
                obtain ⟨⟨rfl, rfl, rfl, rfl⟩, rfl⟩ := hx3
                exact ⟨_, w.heap.size, rfl, Nat.le_refl _, RelL.nil _ _, BE⟩
            · have hjk : j = k := by omega
              have hq := HQ.out
              rw [hjk, Nat.sub_self] at hq
              unfold lstG at hq
              rw [appG_end] at hq
              have HX2 := Lib.hid hq
              clear hq hjk HQ
              obtain ⟨a9, c9, rfl⟩ := row_shape R3.out.row
              obtain ⟨cy0, cy1, cy2, cy3⟩ := R3.out.Y.c4
              obtain ⟨cx0, cx1, cx2, cx3⟩ := R3.out.X.c4
              obtain ⟨fx0, fx1, fx2, fx3⟩ := R3.out.X.f4
              go_wp2
              obtain ⟨d0, d1, d2, d3⟩ := (R3.out.X.set4 (.string s0) (.int .i64 q') (.int .i64 0) (.int .i64 0)).c4
              refine bodyPost_ret (v := .tuple #[.agg #[.string s0, .int .i64 q', .int .i64 0, .int .i64 0], .slice a9 d.length c9]) (by simp [results, Try.results19, go_sem, d0, d1, d2, d3]) rfl ?_
              have BE := Below.set4 R3.out.B (w.heap.size + 1) (by omega) (.string s0) (.int .i64 q') (.int .i64 0) (.int .i64 0)
              have hlo := R3.out.lo
              have RE := RelL.of_row (row_other (row_other (row_other (row_other R3.out.row (w.heap.size + 1) 0 (by omega) (.string s0)) (w.heap.size + 1) 1 (by omega) (.int .i64 q')) (w.heap.size + 1) 2 (by omega) (.int .i64 0)) (w.heap.size + 1) 3 (by omega) (.int .i64 0))
              have hx2 := HX2.out
              have hx1 := HX.out
              cases hx2
              obtain ⟨_, hx3⟩ := hx1.1 rfl
              simp only [Prod.mk.injEq] at hx3
              obtain ⟨⟨rfl, rfl, rfl, rfl⟩, rfl⟩ := hx3
              exact ⟨_, y + 1, rfl, by omega, RE, BE⟩
      · obtain ⟨rfl, rfl, g3, g4, g5⟩ := b2 hq
        have HWD := Lib.hid (fldR_new (z := (0 : Int)) (F := fun s a => bnd s a 18446744073709551615) HI.out hbm hq)
        rw [if_neg hq] at hF
        have HX := Lib.hid (H.out.symm.trans (fldR_new hc hF hq))
        have HE : Hid ((er == 0) = false) := Lib.hid (by simpa using hq)
        clear H hc hF hb hbm b1 b2 hq
        go_enter Try.func19, Try.ntmps19
        go_wp2_with (first
          | (go_at_call 50; (refine (rreader_any s p e o hs s0 p0 0 0 HC _).mono ?_); rintro en w2 ⟨rfl, hB⟩; have P2 := Lib.hid (P1.out.below hB); have X2 := Lib.hid (X1.out.below hB); have B2 := Lib.hid (below_then B1.out hB); clear hB; have lp := P2.out.lt; obtain ⟨cp0, cp1, cp2, cp3⟩ := P2.out.c4; obtain ⟨fp0, fp1, fp2, fp3⟩ := P2.out.f4; have lx := X2.out.lt; obtain ⟨cx0, cx1, cx2, cx3⟩ := X2.out.c4; obtain ⟨fx0, fx1, fx2, fx3⟩ := X2.out.f4; have P3 := Lib.hid (P2.out.set4 (.string s0) (.int .i64 p0) (.int .i64 0) (.int .i64 0)); have X3 := Lib.hid (X2.out.other4 (b' := w.heap.size) (by omega) (.string s0) (.int .i64 p0) (.int .i64 0) (.int .i64 0)); have B3 := Lib.hid (Below.set4 B2.out (w.heap.size) (by omega) (.string s0) (.int .i64 p0) (.int .i64 0) (.int .i64 0)))
          | (go_at_call 13; (refine (rwide_any s0 p0 0 0 18446744073709551615 (by omega) (by omega) (by omega) s0 p0 er q 0 HWD _).mono ?_); rintro en w4 ⟨rfl, hB⟩; clear cp0 cp1 cp2 cp3 fp0 fp1 fp2 fp3 lp cx0 cx1 cx2 cx3 fx0 fx1 fx2 fx3 lx; have P4 := Lib.hid (P3.out.below hB); have X4 := Lib.hid (X3.out.below hB); have B4 := Lib.hid (below_then B3.out hB); clear hB; have lp := P4.out.lt; obtain ⟨cp0, cp1, cp2, cp3⟩ := P4.out.c4; obtain ⟨fp0, fp1, fp2, fp3⟩ := P4.out.f4; have lx := X4.out.lt; obtain ⟨cx0, cx1, cx2, cx3⟩ := X4.out.c4; obtain ⟨fx0, fx1, fx2, fx3⟩ := X4.out.f4; have P5 := Lib.hid (P4.out.alloc (.cells #[.string s0, .int .i64 p0, .int .i64 er, .int .i64 q] 26)); have X5 := Lib.hid (X4.out.alloc (.cells #[.string s0, .int .i64 p0, .int .i64 er, .int .i64 q] 26)); have B5 := Lib.hid (B4.out.alloc B4.out.size (.cells #[.string s0, .int .i64 p0, .int .i64 er, .int .i64 q] 26)); have Y5 := Lib.hid (Box.new _ 26 #[.string s0, .int .i64 p0, .int .i64 er, .int .i64 q] : Box (World.alloc w4 (.cells #[.string s0, .int .i64 p0, .int .i64 er, .int .i64 q] 26)) _ _ _))
          | (go_at_call 52; (refine (rfine_any s0 p0 er q false HE _).mono ?_); rintro en w6 ⟨rfl, hB⟩; clear cp0 cp1 cp2 cp3 fp0 fp1 fp2 fp3 lp cx0 cx1 cx2 cx3 fx0 fx1 fx2 fx3 lx; have P6 := Lib.hid (P5.out.below hB); have X6 := Lib.hid (X5.out.below hB); have Y6 := Lib.hid (Y5.out.below hB); have B6 := Lib.hid (below_then B5.out hB); clear hB; have lp := P6.out.lt; obtain ⟨cp0, cp1, cp2, cp3⟩ := P6.out.c4; obtain ⟨fp0, fp1, fp2, fp3⟩ := P6.out.f4; have lx := X6.out.lt; obtain ⟨cx0, cx1, cx2, cx3⟩ := X6.out.c4; obtain ⟨fx0, fx1, fx2, fx3⟩ := X6.out.f4; have ly := Y6.out.lt; obtain ⟨cy0, cy1, cy2, cy3⟩ := Y6.out.c4; obtain ⟨fy0, fy1, fy2, fy3⟩ := Y6.out.f4))
        obtain ⟨d0, d1, d2, d3⟩ := (X6.out.set4 (.string s0) (.int .i64 p0) (.int .i64 er) (.int .i64 q)).c4
        refine bodyPost_ret (v := .tuple #[.agg #[.string s0, .int .i64 p0, .int .i64 er, .int .i64 q], .slice none 0 0]) (by simp [results, Try.results19, go_sem, d0, d1, d2, d3]) rfl ?_
        have BE := Below.set4 B6.out (w.heap.size + 1) (by omega) (.string s0) (.int .i64 p0) (.int .i64 er) (.int .i64 q)
        cases HX.out
        exact ⟨_, w.heap.size, rfl, Nat.le_refl _, RelL.nil _ _, BE⟩
    · have HWD := Lib.hid (fldR_old (z := (0 : Int)) (F := fun s a => bnd s a 18446744073709551615) HI.out he)
      have HX := Lib.hid (H.out.symm.trans (fldR_old hc he))
      have HE : Hid ((e0 == 0) = false) := Lib.hid (by simpa using he)
      clear H hc he
      go_enter Try.func19, Try.ntmps19
      go_wp2_with (first
        | (go_at_call 50; (refine (rreader_any s p e o hs s0 p0 e0 o0 HC _).mono ?_); rintro en w2 ⟨rfl, hB⟩; have P2 := Lib.hid (P1.out.below hB); have X2 := Lib.hid (X1.out.below hB); have B2 := Lib.hid (below_then B1.out hB); clear hB; have lp := P2.out.lt; obtain ⟨cp0, cp1, cp2, cp3⟩ := P2.out.c4; obtain ⟨fp0, fp1, fp2, fp3⟩ := P2.out.f4; have lx := X2.out.lt; obtain ⟨cx0, cx1, cx2, cx3⟩ := X2.out.c4; obtain ⟨fx0, fx1, fx2, fx3⟩ := X2.out.f4; have P3 := Lib.hid (P2.out.set4 (.string s0) (.int .i64 p0) (.int .i64 e0) (.int .i64 o0)); have X3 := Lib.hid (X2.out.other4 (b' := w.heap.size) (by omega) (.string s0) (.int .i64 p0) (.int .i64 e0) (.int .i64 o0)); have B3 := Lib.hid (Below.set4 B2.out (w.heap.size) (by omega) (.string s0) (.int .i64 p0) (.int .i64 e0) (.int .i64 o0)))
        | (go_at_call 13; (refine (rwide_any s0 p0 e0 o0 18446744073709551615 (by omega) (by omega) (by omega) s0 p0 e0 o0 0 HWD _).mono ?_); rintro en w4 ⟨rfl, hB⟩; clear cp0 cp1 cp2 cp3 fp0 fp1 fp2 fp3 lp cx0 cx1 cx2 cx3 fx0 fx1 fx2 fx3 lx; have P4 := Lib.hid (P3.out.below hB); have X4 := Lib.hid (X3.out.below hB); have B4 := Lib.hid (below_then B3.out hB); clear hB; have lp := P4.out.lt; obtain ⟨cp0, cp1, cp2, cp3⟩ := P4.out.c4; obtain ⟨fp0, fp1, fp2, fp3⟩ := P4.out.f4; have lx := X4.out.lt; obtain ⟨cx0, cx1, cx2, cx3⟩ := X4.out.c4; obtain ⟨fx0, fx1, fx2, fx3⟩ := X4.out.f4; have P5 := Lib.hid (P4.out.alloc (.cells #[.string s0, .int .i64 p0, .int .i64 e0, .int .i64 o0] 26)); have X5 := Lib.hid (X4.out.alloc (.cells #[.string s0, .int .i64 p0, .int .i64 e0, .int .i64 o0] 26)); have B5 := Lib.hid (B4.out.alloc B4.out.size (.cells #[.string s0, .int .i64 p0, .int .i64 e0, .int .i64 o0] 26)); have Y5 := Lib.hid (Box.new _ 26 #[.string s0, .int .i64 p0, .int .i64 e0, .int .i64 o0] : Box (World.alloc w4 (.cells #[.string s0, .int .i64 p0, .int .i64 e0, .int .i64 o0] 26)) _ _ _))
        | (go_at_call 52; (refine (rfine_any s0 p0 e0 o0 false HE _).mono ?_); rintro en w6 ⟨rfl, hB⟩; clear cp0 cp1 cp2 cp3 fp0 fp1 fp2 fp3 lp cx0 cx1 cx2 cx3 fx0 fx1 fx2 fx3 lx; have P6 := Lib.hid (P5.out.below hB); have X6 := Lib.hid (X5.out.below hB); have Y6 := Lib.hid (Y5.out.below hB); have B6 := Lib.hid (below_then B5.out hB); clear hB; have lp := P6.out.lt; obtain ⟨cp0, cp1, cp2, cp3⟩ := P6.out.c4; obtain ⟨fp0, fp1, fp2, fp3⟩ := P6.out.f4; have lx := X6.out.lt; obtain ⟨cx0, cx1, cx2, cx3⟩ := X6.out.c4; obtain ⟨fx0, fx1, fx2, fx3⟩ := X6.out.f4; have ly := Y6.out.lt; obtain ⟨cy0, cy1, cy2, cy3⟩ := Y6.out.c4; obtain ⟨fy0, fy1, fy2, fy3⟩ := Y6.out.f4))
      obtain ⟨d0, d1, d2, d3⟩ := (X6.out.set4 (.string s0) (.int .i64 p0) (.int .i64 e0) (.int .i64 o0)).c4
      refine bodyPost_ret (v := .tuple #[.agg #[.string s0, .int .i64 p0, .int .i64 e0, .int .i64 o0], .slice none 0 0]) (by simp [results, Try.results19, go_sem, d0, d1, d2, d3]) rfl ?_
      have BE := Below.set4 B6.out (w.heap.size + 1) (by omega) (.string s0) (.int .i64 p0) (.int .i64 e0) (.int .i64 o0)
      cases HX.out
      exact ⟨_, w.heap.size, rfl, Nat.le_refl _, RelL.nil _ _, BE⟩
end Go.Proofs.Ytkepnjnindolbaa.s05
