/-
  Layer 7: the reference's Place.
-/
import Derived.Test.YtniimoebgajefaaS07M
import Derived.Test.YtniimoebgajefaaS07DA
namespace Go.Proofs.Ytniimoebgajefaa.s07
set_option linter.unusedVariables false
set_option linter.unusedSimpArgs false
open Go.RowKit
open kit

theorem chkR_zero (y : Int) (n : Nat) (t : Int) : chkR y n 0 t = chkP y n t := by
  rw [chkR_of]
  split
  · rename_i h; rw [h]; rfl
  · rfl
/-- append of tokens, at a step of a region that draws its order -/
theorem step_tok {T : TypeId} (hT : Try.prog.underlying T = some (.slice 23))
    {w : World} {ops : Array Oper} {o : Oper} {a : Act} {K : Act → World → Prop} {Q : Exit → Act → World → Prop} {EE : Prop}
    (hg : o.guard = none) (s x : Operand) (hop : o.op = Op.call { callee := Callee.builtin Builtin.append, args := #[s, x], argTypes := #[T, T] })
    (base : Nat) (v : Value) (k : Nat) (xs : List Li) (hs : a.eval s = v) (hown : w.ownsRow base 23 3 v k (flatL xs)) (ad : Addr) (vs : List Li) (n c : Nat) (hx : a.eval x = .slice (some ad) n c) (hn : vs.length = n)
    (hsrc : ∀ j u, (flatL vs)[j]? = some u → w.cell? (ad.add j) = some u)
    (hk : k + n ≤ 1000000) (hb : base ≤ w.heap.size)
    (hK : ∀ v' w', w'.ownsRow base 23 3 v' (k + n) (flatL (xs ++ vs)) → w.grownBy w' v.ownBlock → K (a.put o.dst v') w') :
    if Region.wanted o (yielded ops a.tmps) = true then Oper.wp Try.prog o a w K Q else EE := by
  obtain ⟨i0, hi, hz0, hz1, hz2⟩ := info_parts infoL
  subst hn
  have hw : Region.wanted o (yielded ops a.tmps) = true := by simp [Region.wanted, hg]
  rw [if_pos hw]
  obtain ⟨v', w', hrun, h2, h3, _⟩ := run_append_own (P := Try.prog) w base T o.type 23 i0 (.agg #[.int .i64 0, .string ⟨#[]⟩, .int .i64 0]) 3 32 hT hi hz0 hz1 hz2 rfl (by decide) v k _ hown ad vs.length c (flatL vs) (flatL_len vs) hsrc (by
      intro u hu
      unfold flatL at hu
      obtain ⟨y, _, hy⟩ := List.mem_flatMap.1 hu
      unfold cellsL at hy
      simp only [List.mem_cons, List.not_mem_nil, or_false] at hy
      rcases hy with rfl | rfl | rfl <;> rfl) (by unfold maxLen; omega) (by omega) hb
  unfold Oper.wp
  simp [execOp, hop, resolve, invoke, builtin, hs, hx, hrun, Result.andThen]
  exact hK v' w' (by rw [flatL_app]; exact h2) h3
set_option maxRecDepth 100000 in
set_option maxHeartbeats 2000000 in
theorem rplace_any (a : Option Addr) (c : Nat) (l : List Li) (t p : Int) (w : World) (hn : l.length ≤ 9223372036854775807) (hr : Hid (ReadsL w a l)) (L : List Li) (er : Int) (H : Hid (placeR l t p = (L, er))) :
    Calls Try.prog 30 #[.slice a l.length c, .int .i64 t, .int .i64 p] w (ToksTo w L er) := by
  by_cases hbig : 1000 < l.length
  · have HC : Hid (([], 6) = (L, er)) := Lib.hid (by rw [← H.out]; unfold placeR allR; rw [if_pos hbig]; rfl)
    have hb2 : (1000 : Int) < (l.length : Int) := by omega
    go_enter Try.func30, Try.ntmps30
    go_wp2
    go_ret2
    exact toks_nil HC.out (Below.refl _ _)
  · have hb2 : ¬ (1000 : Int) < (l.length : Int) := by omega
    have hb3 : l.length ≤ 1000 := by omega
    have hall : allR (chkLP t) l = firstE (chkLP t) (l.drop 0) := by unfold allR; rw [if_neg hbig]; rfl
    obtain ⟨F, hF⟩ : ∃ F, firstE (chkLP t) (l.drop 0) = F := ⟨_, rfl⟩
    rw [hF] at hall
    have HA := Lib.hid hall
    have HF := Lib.hid hF
    clear hbig hall hF
    go_enter Try.func30, Try.ntmps30
    go_wp2
    go_loopw [8] (fun i wr => ∃ k : Nat, i = .int .i64 k ∧ k ≤ l.length ∧ Hid (firstE (chkLP t) (l.drop k) = F) ∧ Hid (Below w.heap.size w wr)) (fun i _ => l.length - (intOf i).toNat)
    case atStart => exact ⟨0, rfl, by omega, HF, Lib.hid (Below.refl _ _)⟩
    case round =>
      obtain ⟨k, rfl, hk, HE, HB⟩ := hrel
      clear HF
      by_cases hlt : k < l.length
      · obtain ⟨b1, off, rfl, hb, h0, h1, h2⟩ := (hr.out.below HB.out) k hlt
        have he := HE.out
        rw [drop_tok l k hlt] at he
        unfold firstE at he
        generalize l[k]?.getD noLi = y at h0 h1 h2 he
        obtain ⟨sy, tx, at'⟩ := y
        obtain ⟨q, hq⟩ : ∃ q, chkLP t (sy, tx, at') = q := ⟨_, rfl⟩
        rw [hq] at he
        have HQ : Hid (chkR sy tx.size 0 t = q) := Lib.hid (by rw [chkR_zero]; exact hq)
        have hwr := HB.out.size
        have hlt2 : b1 < wr.heap.size := cell_lt h0
        have B1 := Lib.hid (HB.out.alloc hwr (.cells #[.int .i64 sy, .string tx, .int .i64 0] 23))
        clear HE hq
        by_cases hq0 : q = 0
        · rw [if_pos hq0] at he
          subst hq0
          have HN := Lib.hid he
          clear he
          go_wp2_with (go_at_call 22; refine (rcheck_any sy 0 t tx _ 0 HQ).mono ?_; rintro e w2 ⟨rfl, hB⟩; have B2 := Lib.hid (below_then B1.out hB); clear hB)
          go_roundw
          case rel => exact ⟨k + 1, by go_num, by omega, HN, B2⟩
          case measure => simp [intOf]; omega
        · rw [if_neg hq0] at he
          have HN : Hid (([], q) = (L, er)) := Lib.hid (by
            rw [← H.out]; unfold placeR
            rw [HA.out, ← he, if_neg hq0])
          have t0 : (q != 0) = true := by rw [bne_iff_ne]; exact hq0
          clear he hq0
          go_wp2_with (go_at_call 22; refine (rcheck_any sy 0 t tx _ q HQ).mono ?_; rintro e w2 ⟨rfl, hB⟩; have B2 := Lib.hid (below_then B1.out hB); clear hB)
          go_ret2
          exact toks_nil HN.out B2.out
      · have he := HE.out
        rw [List.drop_eq_nil_of_le (by omega)] at he
        have hF0 : F = 0 := he.symm
        subst hF0
        clear he HE
        have hok : Hid (∀ z ∈ l, okB z) := Lib.hid fun z hz => chkLP_okB ((allR_ok HA.out).2 z hz)
        have hc := H.out
        unfold placeR at hc
        rw [HA.out, if_pos rfl] at hc
        by_cases hp : p < 0 ∨ 1099511627776 < p
        · rw [if_pos hp] at hc
          have HC := Lib.hid hc
          clear hc
          by_cases hp1 : p < 0
          · clear hp
            go_wp2
            go_ret2
            exact toks_nil HC.out HB.out
          · have hp2 : 1099511627776 < p := by omega
            clear hp
            go_wp2
            go_ret2
            exact toks_nil HC.out HB.out
        · rw [if_neg hp] at hc
          have p1 : ¬ p < 0 := by omega
          have p2 : ¬ 1099511627776 < p := by omega
          have p3 : 0 ≤ p := by omega
          have p4 : p ≤ 1099511627776 := by omega
          have HC := Lib.hid hc
          clear hc hp
          go_wp2
          go_loopw [12, 2, 11] (fun i q v wx => ∃ (j : Nat) (e1 : Int), i = .int .i64 j ∧ j ≤ l.length ∧ q = .int .i64 e1 ∧ 0 ≤ e1 ∧ e1 ≤ 1099511627776 + 26 * j ∧ Hid (e1 = endL p (l.take j)) ∧ Hid (wx.ownsRow w.heap.size 23 3 v j (flatL (placeL p (l.take j)))) ∧ Hid (Below w.heap.size w wx)) (fun i _ _ _ => l.length - (intOf i).toNat)
          case atStart => exact ⟨0, p, rfl, by omega, rfl, p3, by omega, Lib.hid rfl, Lib.hid (World.ownsRow_nil _ _ _ _), HB⟩
          case round =>
            obtain ⟨j, e1, rfl, hj, rfl, g1, g2, HE1, HR1, HB2⟩ := hrel
            clear HB hlt hk
            by_cases hlt : j < l.length
            · obtain ⟨b, off, rfl, hb, c0, c1, c2⟩ := (hr.out.below HB2.out) j hlt
              have hokx := hok.out _ (mem_tok l j hlt)
              have htk := Lib.hid (take_tok l j hlt)
              generalize l[j]?.getD noLi = y at c0 c1 c2 hokx htk
              obtain ⟨sy, tx, at'⟩ := y
              obtain ⟨k1, k2, k3⟩ := hokx
              simp only at k1 k2 k3
              have hwr := HB2.out.size
              have hlt2 : b < wr.heap.size := cell_lt c0
              have B1 : Hid (Below w.heap.size w (wr.alloc (.cells #[.int .i64 sy, .string tx, .int .i64 e1] 23)).drew) := Lib.hid (HB2.out.alloc hwr (.cells #[.int .i64 sy, .string tx, .int .i64 e1] 23)).drew
              have X1 : Hid (Box (wr.alloc (.cells #[.int .i64 sy, .string tx, .int .i64 e1] 23)).drew 23 wr.heap.size #[.int .i64 sy, .string tx, .int .i64 e1]) := Lib.hid (Box.new wr 23 #[.int .i64 sy, .string tx, .int .i64 e1])
              have R1 : Hid (World.ownsRow (wr.alloc (.cells #[.int .i64 sy, .string tx, .int .i64 e1] 23)).drew w.heap.size 23 3 u11 j (flatL (placeL p (l.take j)))) := Lib.hid (HR1.out.alloc (.cells #[.int .i64 sy, .string tx, .int .i64 e1] 23))
              have hne : u11.ownBlock ≠ some wr.heap.size := fun e => by have := (HR1.out.lt _ e).2; omega
              have hk6 : j + 1 ≤ 1000000 := by omega
              have hx8 : tx.size ≤ 9223372036854775805 := by omega
              have hbig2 : e1 + (2 + (tx.size : Int)) ≤ 9223372036854775807 := by omega
              have hE0 : Hid (e1 = endL p (l.take j)) := HE1
              generalize hD : wr.alloc (.cells #[.int .i64 sy, .string tx, .int .i64 e1] 23) = D at X1 R1 B1
              have HS : Hid (∀ j u, (flatL [(sy, tx, e1)])[j]? = some u → (D.drew.alloc (.cells #[.int .i64 sy, .string tx, .int .i64 e1] 23)).cell? ((⟨D.heap.size, 0, none⟩ : Addr).add j) = some u) := Lib.hid (by intro j u hu; rw [flatL_one] at hu; exact src_new D.drew 23 (sy, tx, e1) j u hu)
              go_wp2
              clear hD HR1 HB2 c0 c1 c2
              have X0 : Hid (Box D 23 wr.heap.size #[.int .i64 sy, .string tx, .int .i64 e1]) := Lib.hid X1.out
              obtain ⟨d0, d1, d2⟩ := X1.out.cell3
              go_region_held3 (fun w' => w'.cell? ⟨wr.heap.size, 0, none⟩ = some (.int .i64 sy) ∧ w'.cell? ⟨wr.heap.size, 1, none⟩ = some (.string tx) ∧ w'.cell? ⟨wr.heap.size, 2, none⟩ = some (.int .i64 e1))
                (first
                  | with_reducible exact ⟨d0, d1, d2⟩
                  | with_reducible exact (X0.out.alloc _).drew.cell3
                  | with_reducible exact X2.out.cell3
                  | with_reducible exact XA.out.cell3
                  | fail)
                (first
                  | ((refine step_tok Try.underlying34 (by rfl) (.tmp 52) (.tmp 54) (by rfl) w.heap.size _ j (placeL p (l.take j)) (by rfl) (R1.out.alloc _) ⟨D.heap.size, 0, none⟩ [(sy, tx, e1)] 1 1 (by rfl) rfl HS.out hk6 (Nat.le_trans B1.out.size (by simp)) ?_; intro vA wA hrA hgA; have XA := Lib.hid ((X1.out.alloc (.cells #[.int .i64 sy, .string tx, .int .i64 e1] 23)).grown hgA hne); have BA := Lib.hid ((B1.out.alloc B1.out.size (.cells #[.int .i64 sy, .string tx, .int .i64 e1] 23)).grown hgA (Nat.le_trans B1.out.size (by simp)) (fun j ej => (R1.out.lt j ej).1)); have RA := Lib.hid hrA; clear hrA hgA))
                  | (go_at_call 23; refine (rsize_any sy e1 tx hx8 _).mono ?_; rintro e w2 ⟨rfl, hB⟩; have X2 := Lib.hid (XA.out.below hB); have R2 := Lib.hid (row_below RA.out hB); have B2 := Lib.hid (below_on BA.out (Nat.le_refl _) hB); clear hB))
              have hw64 : IntKind.i64.wrap (e1 + (2 + (tx.size : Int))) = e1 + (2 + (tx.size : Int)) := IntWalk.i64_in _ (by omega)
              rw [hw64]
              go_wp2
              go_roundw
              case rel => exact ⟨j + 1, e1 + (2 + (tx.size : Int)), by go_num, by omega, rfl, by omega, by push_cast; omega, Lib.hid (by rw [htk.out, endL_app, ← hE0.out]; rfl), Lib.hid (by rw [htk.out, placeL_app, ← hE0.out]; exact R2.out), B2⟩
              case measure => simp [intOf]; omega
            · have hke : l.take j = l := List.take_of_length_le (by omega)
              have hkl : j = l.length := by omega
              subst hkl
              rw [hke] at HR1 HE1
              obtain ⟨a', c', rfl, hcc, hL, hz⟩ := toks_row (placeL_len l p) HR1.out
              have HL := Lib.hid hL
              have HZ := Lib.hid hz
              have hx := HC.out
              rw [← HE1.out] at hx
              clear hcc hL hz HR1
              by_cases hq : 1099511627776 < e1
              · rw [if_pos hq] at hx
                have HX := Lib.hid hx
                clear hx
                go_wp2
                go_ret2
                exact toks_nil HX.out HB2.out
              · rw [if_neg hq] at hx
                have HX := Lib.hid hx
                clear hx
                go_wp2
                go_ret2
                have hx := HX.out
                simp only [Prod.mk.injEq] at hx
                obtain ⟨rfl, rfl⟩ := hx
                exact ⟨a', c', by rw [placeL_len]; rfl, HL.out, HZ.out, HB2.out⟩
end Go.Proofs.Ytniimoebgajefaa.s07
