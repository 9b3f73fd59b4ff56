/-
  Layer 13: texts read back, numbers and looks in order; the law of what is read back.
-/
import Derived.Test.YtddackdghphcnaaDoorG16
import Derived.Test.YtddackdghphcnaaDoorG14
import Derived.Test.YtddackdghphcnaaDoorG15
namespace Go.Proofs.YtddackdghphcnaaDoor.s13
set_option linter.unusedVariables false
set_option linter.unusedSimpArgs false
set_option linter.unnecessarySimpa false
open Go.RowKit
open kit

theorem txt_of {l : List Int} {y : V5} (h : okL 8 l) (hp : pad5 l = y) : txtE y = (txt l, 0) := by
  obtain ⟨n, a, b, c, d⟩ := y
  unfold txtE
  have hc := pad5_chk h (by omega) (by omega) hp
  rw [if_neg (by simp only [hc]; simp), lst_of h.1 hp]
theorem dg_back {z : Int} (h0 : 0 ≤ z) (h1 : z < 8) : ((dg z).toNat : Int) = 48 + z := by
  unfold dg
  rw [UInt8.toNat_ofNat']
  omega
theorem byt_txt {l : List Int} (h : okL 8 l) (hn : l.length ≠ 0) (i : Nat) (hi : i < 2 * l.length - 1) : byt (txt l) i = if i % 2 = 0 then 48 + l[i / 2]?.getD 0 else 32 := by
  unfold byt txt
  rw [if_neg hn]
  show ((((txB l).toArray.toList).getD i 0).toNat : Int) = _
  rw [List.toList_toArray, List.getD_eq_getElem?_getD, txB_at l i hi, Option.getD_some]
  by_cases e : i % 2 = 0
  · rw [if_pos e, if_pos e]
    have := okL_at h (i / 2) (by omega)
    exact dg_back this.1 this.2
  · rw [if_neg e, if_neg e]; rfl
theorem txt_sz {l : List Int} (hn : l.length ≠ 0) : (txt l).size = 2 * l.length - 1 := by
  unfold txt
  rw [if_neg hn]
  show (txB l).toArray.size = _
  rw [List.size_toArray, txB_len, if_neg hn]
theorem parse_txt {l : List Int} {y : V5} (h : okL 8 l) (hp : pad5 l = y) : parseE (txt l) = (y, 0) := by
  subst hp
  by_cases hn : l.length = 0
  · have : l = [] := List.length_eq_zero_iff.1 hn
    subst this; rfl
  · have hsz := txt_sz hn
    have hne : txt l ≠ ⟨#[45]⟩ := fun e => by
      have hb := byt_txt h hn 0 (by omega)
      rw [e] at hb
      have := okL_at h (0 / 2) (by omega)
      have e1 : byt ⟨#[45]⟩ 0 = 45 := by decide
      rw [e1, if_pos (by decide)] at hb
      omega
    have hd : isDg (txt l) = true := by
      unfold isDg
      refine decide_eq_true ⟨by omega, fun i hi => ?_⟩
      rw [hsz] at hi
      rw [byt_txt h hn i hi]
      by_cases e : i % 2 = 0
      · have := okL_at h (i / 2) (by omega)
        rw [fit_even e, if_pos e]; exact decide_eq_true (by omega)
      · rw [fit_odd (by omega), if_neg e]; rfl
    have hv : vals (txt l) = l := by
      unfold vals
      refine List.ext_getElem? fun i => ?_
      rw [List.getElem?_map, hsz]
      by_cases hi : i < l.length
      · rw [List.getElem?_range (by omega), Option.map_some, byt_txt h hn (2 * i) (by omega), if_pos (by omega), show 2 * i / 2 = i by omega, List.getElem?_eq_getElem hi, Option.getD_some]
        congr 1; omega
      · rw [List.getElem?_eq_none (by rw [List.length_range]; omega), List.getElem?_eq_none (by omega)]; rfl
    unfold parseE
    rw [if_neg hne, if_neg (by rw [hd]; simp), hv]
    unfold ofP
    rw [if_neg (by have := h.1; omega), if_pos h.2]
theorem txt_parse {s : ByteArray} {y : V5} (hs : s.size ≤ 40) (h : parseE s = (y, 0)) : txtE y = (s, 0) := by
  unfold parseE at h
  by_cases h1 : s = ⟨#[45]⟩
  · rw [if_pos h1] at h; cases h; subst h1; decide
  · rw [if_neg h1] at h
    by_cases h2 : isDg s = false
    · rw [if_pos h2] at h; cases h
    · rw [if_neg h2] at h
      have hd : isDg s = true := by simpa using h2
      obtain ⟨hodd, hfit⟩ := isDg_yes hd
      unfold ofP at h
      by_cases h3 : 4 < (vals s).length
      · rw [if_pos h3] at h; cases h
      · rw [if_neg h3] at h
        by_cases h4 : ∀ x ∈ vals s, 0 ≤ x ∧ x < 8
        · rw [if_pos h4] at h
          have hp : pad5 (vals s) = y := congrArg Prod.fst h
          have hok : okL 8 (vals s) := ⟨by omega, h4⟩
          have hlen := vals_len s
          have hn : (vals s).length ≠ 0 := by omega
          rw [txt_of hok hp]
          congr 1
          refine bytes_ext (List.ext_getElem? fun i => ?_)
          have hb := fun hi => byt_txt hok hn i hi
          by_cases hi : i < s.size
          · have hb := hb (by omega)
            have hz : (txt (vals s)).size = s.size := by rw [txt_sz hn, hlen]; omega
            have g1 : i < (txt (vals s)).data.toList.length := by rw [Array.length_toList]; exact (by rw [show (txt (vals s)).data.size = (txt (vals s)).size from rfl, hz]; exact hi)
            have g2 : i < s.data.toList.length := by rw [Array.length_toList]; exact hi
            rw [List.getElem?_eq_getElem g1, List.getElem?_eq_getElem g2]
            congr 1
            unfold byt at hb
            rw [List.getD_eq_getElem?_getD, List.getElem?_eq_getElem g1, Option.getD_some] at hb
            have hf := hfit i hi
            have hbs : byt s i = ((s.data.toList[i]'g2).toNat : Int) := by unfold byt; rw [List.getD_eq_getElem?_getD, List.getElem?_eq_getElem g2, Option.getD_some]
            refine UInt8.toNat_inj.1 ?_
            by_cases e : i % 2 = 0
            · rw [if_pos e] at hb
              rw [fit_even e] at hf
              have hf := of_decide_eq_true hf
              have hv : (vals s)[i / 2]?.getD 0 = byt s i - 48 := by
                unfold vals
                rw [List.getElem?_map, List.getElem?_range (by omega), Option.map_some, Option.getD_some, show 2 * (i / 2) = i by omega]
              rw [hv] at hb
              omega
            · rw [if_neg e] at hb
              rw [fit_odd (by omega)] at hf
              have hf := of_decide_eq_true hf
              omega
          · have hz : (txt (vals s)).size = s.size := by rw [txt_sz hn, hlen]; omega
            rw [List.getElem?_eq_none (by rw [Array.length_toList]; exact (by rw [show (txt (vals s)).data.size = (txt (vals s)).size from rfl, hz]; omega)), List.getElem?_eq_none (by rw [Array.length_toList]; exact Nat.le_of_not_lt hi)]
        · rw [if_neg h4] at h; cases h
/-- the i-th look, its number, the number before -/
def lookAt3 (t i : Nat) : List Int := (allL t 3 [])[i]?.getD []
def lastN (t : Nat) : Nat → Int
  | 0 => -1
  | i + 1 => numL t 4 (lookAt3 t i)
def okAt (t i : Nat) : Bool := decide (numE (pad5 (lookAt3 t i)) t = (numL t 4 (lookAt3 t i), 0)) && decide (decE (numL t 4 (lookAt3 t i)) t = (pad5 (lookAt3 t i), 0)) && decide (lastN t i < numL t 4 (lookAt3 t i)) && decide (numL t 4 (lookAt3 t i) < 4681) && decide (0 ≤ numL t 4 (lookAt3 t i))
theorem all3b : [1, 2, 3].all (fun t => (List.range (allL t 3 []).length).all (okAt t)) = true := by decide +kernel
theorem all3 (t : Nat) (ht : t < 4) (h1 : 1 ≤ t) (i : Nat) (hi : i < (allL t 3 []).length) : numE (pad5 (lookAt3 t i)) t = (numL t 4 (lookAt3 t i), 0) ∧ decE (numL t 4 (lookAt3 t i)) t = (pad5 (lookAt3 t i), 0) ∧ lastN t i < numL t 4 (lookAt3 t i) ∧ numL t 4 (lookAt3 t i) < 4681 ∧ 0 ≤ numL t 4 (lookAt3 t i) := by
  have h := List.all_eq_true.1 all3b t (by simp; omega)
  have h := List.all_eq_true.1 h i (List.mem_range.2 hi)
  unfold okAt at h
  simp only [Bool.and_eq_true, decide_eq_true_eq] at h
  exact ⟨h.1.1.1.1, h.1.1.1.2, h.1.1.2, h.1.2, h.2⟩
theorem all3_at (t i : Nat) (h : i < (allL t 3 []).length) : ((allL t 3 []).map pad5)[i]?.getD no5 = pad5 (lookAt3 t i) := by
  unfold lookAt3
  rw [List.getElem?_map, List.getElem?_eq_getElem h]; rfl
theorem allE3 (t : Nat) (h1 : 1 ≤ t) (h2 : t < 4) : allE t 3 = ((allL t 3 []).map pad5, 0) := by
  unfold allE
  rw [if_neg (by omega)]; rfl
theorem all3_len : (allL 1 3 []).length = 4 ∧ (allL 2 3 []).length = 15 ∧ (allL 3 3 []).length = 40 := by decide +kernel
set_option maxRecDepth 100000 in
set_option maxHeartbeats 4000000 in
theorem lookback_any (n t : Int) (s : ByteArray) (w : World) (hT : Hid (Tab w)) (n1 : -9223372036854775808 ≤ n) (n2 : n ≤ 9223372036854775807) (t1 : -9223372036854775808 ≤ t) (t2 : t ≤ 9223372036854775807) (hs : s.size ≤ 40) :
    Calls Tryd.prog 9 #[.int .i64 n, .string s, .int .i64 t] w fun e w' => e = .returned (.bool true) ∧ Below w.heap.size w w' := by
  obtain ⟨⟨z0, z1, z2, z3, z4⟩, hz⟩ : ∃ y, (parseE s).1 = y := ⟨_, rfl⟩
  obtain ⟨g, hg⟩ : ∃ y, (parseE s).2 = y := ⟨_, rfl⟩
  have HP : Hid (parseE s = ((z0, z1, z2, z3, z4), g)) := Lib.hid (by rw [← hz, ← hg])
  have HG : Hid (g = 0 → txtE (z0, z1, z2, z3, z4) = (s, 0)) := Lib.hid (fun e => txt_parse hs (by rw [← e]; exact HP.out))
  clear hz hg
  obtain ⟨k0, hk0⟩ : ∃ k0 : Nat, t % 3 = k0 := ⟨(t % 3).toNat, by have := Int.emod_nonneg t (show (3 : Int) ≠ 0 by decide); omega⟩
  have hk3 : k0 ≤ 2 := by have := Int.emod_lt_of_pos t (show (0 : Int) < 3 by decide); omega
  have HMO := Lib.hid (fun W => mod_any t 3 t1 t2 (by omega) (by omega) W)
  rw [hk0] at HMO
  clear hk0
  go_enter Tryd.func9, Tryd.ntmps9
  go_wp2_with fail
  refine (lookknown_any _ hT).mono ?_
  rintro e w1 ⟨rfl, hB⟩
  have B1 := Lib.hid hB
  have T1 := Lib.hid (hT.out.below hB)
  clear hB hT
  go_wp2_with fail
  refine (lmade_any n _ n1 n2).mono ?_
  rintro e w2 ⟨l, x0, x1, x2, x3, x4, hl, hlp, rfl, hB⟩
  have Hl := Lib.hid hl
  have HlP := Lib.hid hlp
  have B2 := Lib.hid (below_on B1.out (Nat.le_refl _) hB)
  have T2 := Lib.hid (T1.out.below hB)
  have HX : Hid (txtE (x0, x1, x2, x3, x4) = (txt l, 0)) := Lib.hid (txt_of (okL_mono hl (by omega)) hlp)
  have HY : Hid (parseE (txt l) = ((x0, x1, x2, x3, x4), 0)) := Lib.hid (parse_txt (okL_mono hl (by omega)) hlp)
  have hsz := Lib.hid (txt_size l hl.1)
  obtain ⟨u, hu⟩ : ∃ u, txt l = u := ⟨_, rfl⟩
  rw [hu] at HX HY hsz
  clear hB hl hlp hu
  go_wp2_with fail
  refine (ptext_any x0 x1 x2 x3 x4 _ u 0 HX).mono ?_
  rintro e w3 ⟨rfl, hB⟩
  have B3 := Lib.hid (below_on B2.out (Nat.le_refl _) (made1 hB).2)
  have T3 := Lib.hid (T2.out.below (made1 hB).2)
  have X3 := Lib.hid (made1 hB).1
  clear hB B2 T2
  go_wp2_with fail
  refine (pparse_any u _ (by have := hsz.out; omega) (x0, x1, x2, x3, x4) 0 HY).mono ?_
  rintro e w4 ⟨rfl, hB⟩
  have B4 := Lib.hid (below_on B3.out (Nat.le_refl _) hB)
  have T4 := Lib.hid (T3.out.below hB)
  have X4 := Lib.hid (X3.out.below hB)
  clear hB B3 T3 X3
  go_wp2_with fail
  refine (pparse_any s _ (by omega) (z0, z1, z2, z3, z4) g HP).mono ?_
  rintro e w5 ⟨rfl, hB⟩
  have B5 := Lib.hid (below_on B4.out (Nat.le_refl _) (made1 hB).2)
  have T5 := Lib.hid (T4.out.below (made1 hB).2)
  have X5 := Lib.hid ((X4.out.alloc _).below hB)
  have Y5 := Lib.hid (made1 hB).1
  clear hB B4 T4 X4
  obtain ⟨cx0, cx1, cx2, cx3, cx4⟩ := X5.out.cell5
  obtain ⟨cy0, cy1, cy2, cy3, cy4⟩ := Y5.out.cell5
  have EX : ∀ W, (Op.equalIn 9999 23 (.agg #[.int .i64 x1, .int .i64 x2, .int .i64 x3, .int .i64 x4]) (.agg #[.int .i64 x1, .int .i64 x2, .int .i64 x3, .int .i64 x4])).run Tryd.prog W = .ok true W := fun W => by rw [eq_arr, decide_eq_true ⟨rfl, rfl, rfl, rfl⟩]
  have lX := X5.out.lt
  have lY := Y5.out.lt
  by_cases hg : g = 0
  · subst hg
    have HG2 := Lib.hid (HG.out rfl)
    clear HG
    go_wp2_with fail
    refine (ptext_any z0 z1 z2 z3 z4 _ s 0 HG2).mono ?_
    rintro e w6 ⟨rfl, hB⟩
    have B6 := Lib.hid (below_on B5.out (Nat.le_refl _) (made1 hB).2)
    have T6 := Lib.hid (T5.out.below (made1 hB).2)
    clear hB B5 T5 X5 Y5 cx0 cx1 cx2 cx3 cx4 cy0 cy1 cy2 cy3 cy4
    go_wp2_with fail
    refine (HMO.out _).mono ?_
    rintro e w7 ⟨rfl, rfl⟩
    clear HMO
    clear EX
    go_wp2_with fail
    obtain ⟨tt, htt⟩ : ∃ tt : Nat, k0 + 1 = tt := ⟨_, rfl⟩
    rw [show (1 + (k0 : Int)) = (tt : Int) by omega]
    have ht1 : 1 ≤ tt := by omega
    have ht3 : tt < 4 := by omega
    clear htt hk3
    obtain ⟨L, hL⟩ : ∃ L, (allL tt 3 []).map pad5 = L := ⟨_, rfl⟩
    have HA : Hid (allE tt 3 = (L, 0)) := Lib.hid (by rw [allE3 tt ht1 ht3, hL])
    obtain ⟨N, hN⟩ : ∃ N, L.length = N := ⟨_, rfl⟩
    have hN2 : (allL tt 3 []).length = N := by rw [← hN, ← hL, List.length_map]
    have hcase : (tt = 1 ∧ N = 4) ∨ (tt = 2 ∧ N = 15) ∨ (tt = 3 ∧ N = 40) := by
      obtain ⟨l1, l2, l3⟩ := all3_len
      have : tt = 1 ∨ tt = 2 ∨ tt = 3 := by omega
      rcases this with rfl | rfl | rfl
      · exact .inl ⟨rfl, by omega⟩
      · exact .inr (.inl ⟨rfl, by omega⟩)
      · exact .inr (.inr ⟨rfl, by omega⟩)
    have HL := Lib.hid hL
    have HN := Lib.hid hN
    have HN2 := Lib.hid hN2
    clear hL hN hN2
    refine (pall_any tt 3 _ L 0 HA).mono ?_
    rintro e w8 ⟨a, cp, rfl, hR, hB⟩
    rw [HN.out]
    have B8 := Lib.hid (below_on B6.out (Nat.le_refl _) hB)
    have T8 := Lib.hid (T6.out.below hB)
    obtain ⟨b, o, rfl, _, _⟩ := hR 0 (by have := HN.out; omega)
    have R8 := Lib.hid hR
    clear hR hB
    have ht1 := Lib.hid ht1
    have ht3 := Lib.hid ht3
    rcases hcase with ⟨rfl, rfl⟩ | ⟨rfl, rfl⟩ | ⟨rfl, rfl⟩
    · go_wp2_with fail
      go_loopw [19, 20] (fun v i wr => ∃ (k : Nat) (m0 : Int), i = .int .i64 k ∧ k ≤ 4 ∧ v = .int .i64 m0 ∧ Hid (lastN 1 k = m0) ∧ Hid (Reads5 wr (some ⟨b, o, none⟩) L) ∧ Hid (Tab wr) ∧ Hid (Below w.heap.size w wr)) (fun _ i _ => 4 - (intOf i).toNat)
      case atStart => exact ⟨0, -1, rfl, by omega, rfl, Lib.hid rfl, R8, T8, B8⟩
      case round =>
        obtain ⟨k, m0, rfl, hk, rfl, HM0, HR, HT, HB⟩ := hrel
        by_cases hlt : k < 4
        · have facts := all3 1 (by omega) (by omega) k (by have := HN2.out; omega)
          have hat := all3_at 1 k (by have := HN2.out; omega)
          obtain ⟨⟨y0, y1, y2, y3, y4⟩, hy⟩ : ∃ y, pad5 (lookAt3 1 k) = y := ⟨_, rfl⟩
          obtain ⟨m, hm⟩ : ∃ m : Int, numL 1 4 (lookAt3 1 k) = m := ⟨_, rfl⟩
          have hm2 : lastN 1 (k + 1) = m := hm
          have hm' : numL ((1 : Nat) : Int) 4 (lookAt3 1 k) = m := hm
          rw [hy, hm'] at facts
          rw [HL.out, hy] at hat
          obtain ⟨f1, f2, f3, f4, f5⟩ := facts
          rw [HM0.out] at f3
          have F1 : Hid (numE (y0, y1, y2, y3, y4) 1 = (m, 0)) := Lib.hid f1
          have F2 : Hid (decE m 1 = ((y0, y1, y2, y3, y4), 0)) := Lib.hid f2
          have HM := Lib.hid hm2
          have hl := Lib.hid (at5_of HR.out k (by have := HN.out; omega) hat)
          obtain ⟨c0, c1, c2, c3, c4⟩ := hl.out
          simp only at c0 c1 c2 c3 c4
          have hgt : decide (m ≤ m0) = false := decide_eq_false (by omega)
          have hgt2 : ¬ m ≤ m0 := by omega
          clear hy hm hm2 hm' hat f1 f2 f3
          go_wp2_with fail
          refine (pnumber_any y0 y1 y2 y3 y4 1 _ HT m 0 F1).mono ?_
          rintro e u1 ⟨rfl, hB⟩
          have BB := Lib.hid (below_on HB.out (Nat.le_refl _) hB)
          have TT := Lib.hid (HT.out.below hB)
          have RR := Lib.hid (HR.out.below hB)
          have ll := Lib.hid (hl.out.below hB)
          clear hB HB HT HR hl c0 c1 c2 c3 c4
          go_wp2_with fail
          refine (pnumbered_any m 1 _ TT (y0, y1, y2, y3, y4) 0 F2).mono ?_
          rintro e u2 ⟨rfl, hB⟩
          obtain ⟨u3, hu3⟩ : ∃ W, u2.alloc (.cells #[.int .i64 y0, .int .i64 y1, .int .i64 y2, .int .i64 y3, .int .i64 y4] 25) = W := ⟨_, rfl⟩
          have hB3 : Below u1.heap.size u1 u3 := by rw [← hu3]; exact hB.alloc hB.size _
          have B2 := Lib.hid (below_on BB.out (Nat.le_refl _) hB3)
          have T2 := Lib.hid (TT.out.below hB3)
          have R2 := Lib.hid (RR.out.below hB3)
          have l2 := Lib.hid (ll.out.below hB3)
          have X2 : Hid (Box u3 25 u2.heap.size #[.int .i64 y0, .int .i64 y1, .int .i64 y2, .int .i64 y3, .int .i64 y4]) := Lib.hid (by rw [← hu3]; exact Box.new u2 _ _)
          have H3 := Lib.hid hu3
          clear hB hB3 hu3 BB TT RR ll
          go_wp2_with fail
          rw [H3.out]
          clear H3
          obtain ⟨c0, c1, c2, c3, c4⟩ := l2.out
          simp only at c0 c1 c2 c3 c4
          obtain ⟨d0, d1, d2, d3, d4⟩ := X2.out.cell5
          have EX : ∀ W, (Op.equalIn 9999 23 (.agg #[.int .i64 y1, .int .i64 y2, .int .i64 y3, .int .i64 y4]) (.agg #[.int .i64 y1, .int .i64 y2, .int .i64 y3, .int .i64 y4])).run Tryd.prog W = .ok true W := fun W => by rw [eq_arr, decide_eq_true ⟨rfl, rfl, rfl, rfl⟩]
          go_quiet (fail)
          rename_i K hK
          refine hK _ _ ?_
          clear hK
          go_wp2_with fail
          go_roundw
          case rel => exact ⟨k + 1, m, by go_num, by omega, rfl, HM, Lib.hid (R2.out.drewN _), Lib.hid (T2.out.below (below_drewN (Below.refl _ _) _)), Lib.hid (below_drewN B2.out _)⟩
          case measure => simp [intOf]; omega
        · go_wp2
          go_ret
          exact ⟨rfl, HB.out⟩
    · go_wp2_with fail
      go_loopw [19, 20] (fun v i wr => ∃ (k : Nat) (m0 : Int), i = .int .i64 k ∧ k ≤ 15 ∧ v = .int .i64 m0 ∧ Hid (lastN 2 k = m0) ∧ Hid (Reads5 wr (some ⟨b, o, none⟩) L) ∧ Hid (Tab wr) ∧ Hid (Below w.heap.size w wr)) (fun _ i _ => 15 - (intOf i).toNat)
      case atStart => exact ⟨0, -1, rfl, by omega, rfl, Lib.hid rfl, R8, T8, B8⟩
      case round =>
        obtain ⟨k, m0, rfl, hk, rfl, HM0, HR, HT, HB⟩ := hrel
        by_cases hlt : k < 15
        · have facts := all3 2 (by omega) (by omega) k (by have := HN2.out; omega)
          have hat := all3_at 2 k (by have := HN2.out; omega)
          obtain ⟨⟨y0, y1, y2, y3, y4⟩, hy⟩ : ∃ y, pad5 (lookAt3 2 k) = y := ⟨_, rfl⟩
          obtain ⟨m, hm⟩ : ∃ m : Int, numL 2 4 (lookAt3 2 k) = m := ⟨_, rfl⟩
          have hm2 : lastN 2 (k + 1) = m := hm
          have hm' : numL ((2 : Nat) : Int) 4 (lookAt3 2 k) = m := hm
          rw [hy, hm'] at facts
          rw [HL.out, hy] at hat
          obtain ⟨f1, f2, f3, f4, f5⟩ := facts
          rw [HM0.out] at f3
          have F1 : Hid (numE (y0, y1, y2, y3, y4) 2 = (m, 0)) := Lib.hid f1
          have F2 : Hid (decE m 2 = ((y0, y1, y2, y3, y4), 0)) := Lib.hid f2
          have HM := Lib.hid hm2
          have hl := Lib.hid (at5_of HR.out k (by have := HN.out; omega) hat)
          obtain ⟨c0, c1, c2, c3, c4⟩ := hl.out
          simp only at c0 c1 c2 c3 c4
          have hgt : decide (m ≤ m0) = false := decide_eq_false (by omega)
          have hgt2 : ¬ m ≤ m0 := by omega
          clear hy hm hm2 hm' hat f1 f2 f3
          go_wp2_with fail
          refine (pnumber_any y0 y1 y2 y3 y4 2 _ HT m 0 F1).mono ?_
          rintro e u1 ⟨rfl, hB⟩
          have BB := Lib.hid (below_on HB.out (Nat.le_refl _) hB)
          have TT := Lib.hid (HT.out.below hB)
          have RR := Lib.hid (HR.out.below hB)
          have ll := Lib.hid (hl.out.below hB)
          clear hB HB HT HR hl c0 c1 c2 c3 c4
          go_wp2_with fail
          refine (pnumbered_any m 2 _ TT (y0, y1, y2, y3, y4) 0 F2).mono ?_
          rintro e u2 ⟨rfl, hB⟩
          obtain ⟨u3, hu3⟩ : ∃ W, u2.alloc (.cells #[.int .i64 y0, .int .i64 y1, .int .i64 y2, .int .i64 y3, .int .i64 y4] 25) = W := ⟨_, rfl⟩
          have hB3 : Below u1.heap.size u1 u3 := by rw [← hu3]; exact hB.alloc hB.size _
          have B2 := Lib.hid (below_on BB.out (Nat.le_refl _) hB3)
          have T2 := Lib.hid (TT.out.below hB3)
          have R2 := Lib.hid (RR.out.below hB3)
          have l2 := Lib.hid (ll.out.below hB3)
          have X2 : Hid (Box u3 25 u2.heap.size #[.int .i64 y0, .int .i64 y1, .int .i64 y2, .int .i64 y3, .int .i64 y4]) := Lib.hid (by rw [← hu3]; exact Box.new u2 _ _)
          have H3 := Lib.hid hu3
          clear hB hB3 hu3 BB TT RR ll
          go_wp2_with fail
          rw [H3.out]
          clear H3
          obtain ⟨c0, c1, c2, c3, c4⟩ := l2.out
          simp only at c0 c1 c2 c3 c4
          obtain ⟨d0, d1, d2, d3, d4⟩ := X2.out.cell5
          have EX : ∀ W, (Op.equalIn 9999 23 (.agg #[.int .i64 y1, .int .i64 y2, .int .i64 y3, .int .i64 y4]) (.agg #[.int .i64 y1, .int .i64 y2, .int .i64 y3, .int .i64 y4])).run Tryd.prog W = .ok true W := fun W => by rw [eq_arr, decide_eq_true ⟨rfl, rfl, rfl, rfl⟩]
          go_quiet (fail)
          rename_i K hK
          refine hK _ _ ?_
          clear hK
          go_wp2_with fail
          go_roundw
          case rel => exact ⟨k + 1, m, by go_num, by omega, rfl, HM, Lib.hid (R2.out.drewN _), Lib.hid (T2.out.below (below_drewN (Below.refl _ _) _)), Lib.hid (below_drewN B2.out _)⟩
          case measure => simp [intOf]; omega
        · go_wp2
          go_ret
          exact ⟨rfl, HB.out⟩
    · go_wp2_with fail
      go_loopw [19, 20] (fun v i wr => ∃ (k : Nat) (m0 : Int), i = .int .i64 k ∧ k ≤ 40 ∧ v = .int .i64 m0 ∧ Hid (lastN 3 k = m0) ∧ Hid (Reads5 wr (some ⟨b, o, none⟩) L) ∧ Hid (Tab wr) ∧ Hid (Below w.heap.size w wr)) (fun _ i _ => 40 - (intOf i).toNat)
      case atStart => exact ⟨0, -1, rfl, by omega, rfl, Lib.hid rfl, R8, T8, B8⟩
      case round =>
        obtain ⟨k, m0, rfl, hk, rfl, HM0, HR, HT, HB⟩ := hrel
        by_cases hlt : k < 40
        · have facts := all3 3 (by omega) (by omega) k (by have := HN2.out; omega)
          have hat := all3_at 3 k (by have := HN2.out; omega)
          obtain ⟨⟨y0, y1, y2, y3, y4⟩, hy⟩ : ∃ y, pad5 (lookAt3 3 k) = y := ⟨_, rfl⟩
          obtain ⟨m, hm⟩ : ∃ m : Int, numL 3 4 (lookAt3 3 k) = m := ⟨_, rfl⟩
          have hm2 : lastN 3 (k + 1) = m := hm
          have hm' : numL ((3 : Nat) : Int) 4 (lookAt3 3 k) = m := hm
          rw [hy, hm'] at facts
          rw [HL.out, hy] at hat
          obtain ⟨f1, f2, f3, f4, f5⟩ := facts
          rw [HM0.out] at f3
          have F1 : Hid (numE (y0, y1, y2, y3, y4) 3 = (m, 0)) := Lib.hid f1
          have F2 : Hid (decE m 3 = ((y0, y1, y2, y3, y4), 0)) := Lib.hid f2
          have HM := Lib.hid hm2
          have hl := Lib.hid (at5_of HR.out k (by have := HN.out; omega) hat)
          obtain ⟨c0, c1, c2, c3, c4⟩ := hl.out
          simp only at c0 c1 c2 c3 c4
          have hgt : decide (m ≤ m0) = false := decide_eq_false (by omega)
          have hgt2 : ¬ m ≤ m0 := by omega
          clear hy hm hm2 hm' hat f1 f2 f3
          go_wp2_with fail
          refine (pnumber_any y0 y1 y2 y3 y4 3 _ HT m 0 F1).mono ?_
          rintro e u1 ⟨rfl, hB⟩
          have BB := Lib.hid (below_on HB.out (Nat.le_refl _) hB)
          have TT := Lib.hid (HT.out.below hB)
          have RR := Lib.hid (HR.out.below hB)
          have ll := Lib.hid (hl.out.below hB)
          clear hB HB HT HR hl c0 c1 c2 c3 c4
          go_wp2_with fail
          refine (pnumbered_any m 3 _ TT (y0, y1, y2, y3, y4) 0 F2).mono ?_
          rintro e u2 ⟨rfl, hB⟩
          obtain ⟨u3, hu3⟩ : ∃ W, u2.alloc (.cells #[.int .i64 y0, .int .i64 y1, .int .i64 y2, .int .i64 y3, .int .i64 y4] 25) = W := ⟨_, rfl⟩
          have hB3 : Below u1.heap.size u1 u3 := by rw [← hu3]; exact hB.alloc hB.size _
          have B2 := Lib.hid (below_on BB.out (Nat.le_refl _) hB3)
          have T2 := Lib.hid (TT.out.below hB3)
          have R2 := Lib.hid (RR.out.below hB3)
          have l2 := Lib.hid (ll.out.below hB3)
          have X2 : Hid (Box u3 25 u2.heap.size #[.int .i64 y0, .int .i64 y1, .int .i64 y2, .int .i64 y3, .int .i64 y4]) := Lib.hid (by rw [← hu3]; exact Box.new u2 _ _)
          have H3 := Lib.hid hu3
          clear hB hB3 hu3 BB TT RR ll
          go_wp2_with fail
          rw [H3.out]
          clear H3
          obtain ⟨c0, c1, c2, c3, c4⟩ := l2.out
          simp only at c0 c1 c2 c3 c4
          obtain ⟨d0, d1, d2, d3, d4⟩ := X2.out.cell5
          have EX : ∀ W, (Op.equalIn 9999 23 (.agg #[.int .i64 y1, .int .i64 y2, .int .i64 y3, .int .i64 y4]) (.agg #[.int .i64 y1, .int .i64 y2, .int .i64 y3, .int .i64 y4])).run Tryd.prog W = .ok true W := fun W => by rw [eq_arr, decide_eq_true ⟨rfl, rfl, rfl, rfl⟩]
          go_quiet (fail)
          rename_i K hK
          refine hK _ _ ?_
          clear hK
          go_wp2_with fail
          go_roundw
          case rel => exact ⟨k + 1, m, by go_num, by omega, rfl, HM, Lib.hid (R2.out.drewN _), Lib.hid (T2.out.below (below_drewN (Below.refl _ _) _)), Lib.hid (below_drewN B2.out _)⟩
          case measure => simp [intOf]; omega
        · go_wp2
          go_ret
          exact ⟨rfl, HB.out⟩
  · have B6 : Hid (Below w.heap.size w (w5.alloc (.cells #[.int .i64 z0, .int .i64 z1, .int .i64 z2, .int .i64 z3, .int .i64 z4] 25))) := Lib.hid (B5.out.alloc B5.out.size _)
    have T6 : Hid (Tab (w5.alloc (.cells #[.int .i64 z0, .int .i64 z1, .int .i64 z2, .int .i64 z3, .int .i64 z4] 25))) := Lib.hid (T5.out.below ((Below.refl _ _).alloc (Nat.le_refl _) _))
    go_wp2_with fail
    refine (HMO.out _).mono ?_
    rintro e w7 ⟨rfl, rfl⟩
    clear HMO
    clear EX
    go_wp2_with fail
    obtain ⟨tt, htt⟩ : ∃ tt : Nat, k0 + 1 = tt := ⟨_, rfl⟩
    rw [show (1 + (k0 : Int)) = (tt : Int) by omega]
    have ht1 : 1 ≤ tt := by omega
    have ht3 : tt < 4 := by omega
    clear htt hk3
    obtain ⟨L, hL⟩ : ∃ L, (allL tt 3 []).map pad5 = L := ⟨_, rfl⟩
    have HA : Hid (allE tt 3 = (L, 0)) := Lib.hid (by rw [allE3 tt ht1 ht3, hL])
    obtain ⟨N, hN⟩ : ∃ N, L.length = N := ⟨_, rfl⟩
    have hN2 : (allL tt 3 []).length = N := by rw [← hN, ← hL, List.length_map]
    have hcase : (tt = 1 ∧ N = 4) ∨ (tt = 2 ∧ N = 15) ∨ (tt = 3 ∧ N = 40) := by
      obtain ⟨l1, l2, l3⟩ := all3_len
      have : tt = 1 ∨ tt = 2 ∨ tt = 3 := by omega
      rcases this with rfl | rfl | rfl
      · exact .inl ⟨rfl, by omega⟩
      · exact .inr (.inl ⟨rfl, by omega⟩)
      · exact .inr (.inr ⟨rfl, by omega⟩)
    have HL := Lib.hid hL
    have HN := Lib.hid hN
    have HN2 := Lib.hid hN2
    clear hL hN hN2
    refine (pall_any tt 3 _ L 0 HA).mono ?_
    rintro e w8 ⟨a, cp, rfl, hR, hB⟩
    rw [HN.out]
    have B8 := Lib.hid (below_on B6.out (Nat.le_refl _) hB)
    have T8 := Lib.hid (T6.out.below hB)
    obtain ⟨b, o, rfl, _, _⟩ := hR 0 (by have := HN.out; omega)
    have R8 := Lib.hid hR
    clear hR hB
    have ht1 := Lib.hid ht1
    have ht3 := Lib.hid ht3
    rcases hcase with ⟨rfl, rfl⟩ | ⟨rfl, rfl⟩ | ⟨rfl, rfl⟩
    · go_wp2_with fail
      go_loopw [19, 20] (fun v i wr => ∃ (k : Nat) (m0 : Int), i = .int .i64 k ∧ k ≤ 4 ∧ v = .int .i64 m0 ∧ Hid (lastN 1 k = m0) ∧ Hid (Reads5 wr (some ⟨b, o, none⟩) L) ∧ Hid (Tab wr) ∧ Hid (Below w.heap.size w wr)) (fun _ i _ => 4 - (intOf i).toNat)
      case atStart => exact ⟨0, -1, rfl, by omega, rfl, Lib.hid rfl, R8, T8, B8⟩
      case round =>
        obtain ⟨k, m0, rfl, hk, rfl, HM0, HR, HT, HB⟩ := hrel
        by_cases hlt : k < 4
        · have facts := all3 1 (by omega) (by omega) k (by have := HN2.out; omega)
          have hat := all3_at 1 k (by have := HN2.out; omega)
          obtain ⟨⟨y0, y1, y2, y3, y4⟩, hy⟩ : ∃ y, pad5 (lookAt3 1 k) = y := ⟨_, rfl⟩
          obtain ⟨m, hm⟩ : ∃ m : Int, numL 1 4 (lookAt3 1 k) = m := ⟨_, rfl⟩
          have hm2 : lastN 1 (k + 1) = m := hm
          have hm' : numL ((1 : Nat) : Int) 4 (lookAt3 1 k) = m := hm
          rw [hy, hm'] at facts
          rw [HL.out, hy] at hat
          obtain ⟨f1, f2, f3, f4, f5⟩ := facts
          rw [HM0.out] at f3
          have F1 : Hid (numE (y0, y1, y2, y3, y4) 1 = (m, 0)) := Lib.hid f1
          have F2 : Hid (decE m 1 = ((y0, y1, y2, y3, y4), 0)) := Lib.hid f2
          have HM := Lib.hid hm2
          have hl := Lib.hid (at5_of HR.out k (by have := HN.out; omega) hat)
          obtain ⟨c0, c1, c2, c3, c4⟩ := hl.out
          simp only at c0 c1 c2 c3 c4
          have hgt : decide (m ≤ m0) = false := decide_eq_false (by omega)
          have hgt2 : ¬ m ≤ m0 := by omega
          clear hy hm hm2 hm' hat f1 f2 f3
          go_wp2_with fail
          refine (pnumber_any y0 y1 y2 y3 y4 1 _ HT m 0 F1).mono ?_
          rintro e u1 ⟨rfl, hB⟩
          have BB := Lib.hid (below_on HB.out (Nat.le_refl _) hB)
          have TT := Lib.hid (HT.out.below hB)
          have RR := Lib.hid (HR.out.below hB)
          have ll := Lib.hid (hl.out.below hB)
          clear hB HB HT HR hl c0 c1 c2 c3 c4
          go_wp2_with fail
          refine (pnumbered_any m 1 _ TT (y0, y1, y2, y3, y4) 0 F2).mono ?_
          rintro e u2 ⟨rfl, hB⟩
          obtain ⟨u3, hu3⟩ : ∃ W, u2.alloc (.cells #[.int .i64 y0, .int .i64 y1, .int .i64 y2, .int .i64 y3, .int .i64 y4] 25) = W := ⟨_, rfl⟩
          have hB3 : Below u1.heap.size u1 u3 := by rw [← hu3]; exact hB.alloc hB.size _
          have B2 := Lib.hid (below_on BB.out (Nat.le_refl _) hB3)
          have T2 := Lib.hid (TT.out.below hB3)
          have R2 := Lib.hid (RR.out.below hB3)
          have l2 := Lib.hid (ll.out.below hB3)
          have X2 : Hid (Box u3 25 u2.heap.size #[.int .i64 y0, .int .i64 y1, .int .i64 y2, .int .i64 y3, .int .i64 y4]) := Lib.hid (by rw [← hu3]; exact Box.new u2 _ _)
          have H3 := Lib.hid hu3
          clear hB hB3 hu3 BB TT RR ll
          go_wp2_with fail
          rw [H3.out]
          clear H3
          obtain ⟨c0, c1, c2, c3, c4⟩ := l2.out
          simp only at c0 c1 c2 c3 c4
          obtain ⟨d0, d1, d2, d3, d4⟩ := X2.out.cell5
          have EX : ∀ W, (Op.equalIn 9999 23 (.agg #[.int .i64 y1, .int .i64 y2, .int .i64 y3, .int .i64 y4]) (.agg #[.int .i64 y1, .int .i64 y2, .int .i64 y3, .int .i64 y4])).run Tryd.prog W = .ok true W := fun W => by rw [eq_arr, decide_eq_true ⟨rfl, rfl, rfl, rfl⟩]
          go_quiet (fail)
          rename_i K hK
          refine hK _ _ ?_
          clear hK
          go_wp2_with fail
          go_roundw
          case rel => exact ⟨k + 1, m, by go_num, by omega, rfl, HM, Lib.hid (R2.out.drewN _), Lib.hid (T2.out.below (below_drewN (Below.refl _ _) _)), Lib.hid (below_drewN B2.out _)⟩
          case measure => simp [intOf]; omega
        · go_wp2
          go_ret
          exact ⟨rfl, HB.out⟩
    · go_wp2_with fail
      go_loopw [19, 20] (fun v i wr => ∃ (k : Nat) (m0 : Int), i = .int .i64 k ∧ k ≤ 15 ∧ v = .int .i64 m0 ∧ Hid (lastN 2 k = m0) ∧ Hid (Reads5 wr (some ⟨b, o, none⟩) L) ∧ Hid (Tab wr) ∧ Hid (Below w.heap.size w wr)) (fun _ i _ => 15 - (intOf i).toNat)
      case atStart => exact ⟨0, -1, rfl, by omega, rfl, Lib.hid rfl, R8, T8, B8⟩
      case round =>
        obtain ⟨k, m0, rfl, hk, rfl, HM0, HR, HT, HB⟩ := hrel
        by_cases hlt : k < 15
        · have facts := all3 2 (by omega) (by omega) k (by have := HN2.out; omega)
          have hat := all3_at 2 k (by have := HN2.out; omega)
          obtain ⟨⟨y0, y1, y2, y3, y4⟩, hy⟩ : ∃ y, pad5 (lookAt3 2 k) = y := ⟨_, rfl⟩
          obtain ⟨m, hm⟩ : ∃ m : Int, numL 2 4 (lookAt3 2 k) = m := ⟨_, rfl⟩
          have hm2 : lastN 2 (k + 1) = m := hm
          have hm' : numL ((2 : Nat) : Int) 4 (lookAt3 2 k) = m := hm
          rw [hy, hm'] at facts
          rw [HL.out, hy] at hat
          obtain ⟨f1, f2, f3, f4, f5⟩ := facts
          rw [HM0.out] at f3
          have F1 : Hid (numE (y0, y1, y2, y3, y4) 2 = (m, 0)) := Lib.hid f1
          have F2 : Hid (decE m 2 = ((y0, y1, y2, y3, y4), 0)) := Lib.hid f2
          have HM := Lib.hid hm2
          have hl := Lib.hid (at5_of HR.out k (by have := HN.out; omega) hat)
          obtain ⟨c0, c1, c2, c3, c4⟩ := hl.out
          simp only at c0 c1 c2 c3 c4
          have hgt : decide (m ≤ m0) = false := decide_eq_false (by omega)
          have hgt2 : ¬ m ≤ m0 := by omega
          clear hy hm hm2 hm' hat f1 f2 f3
          go_wp2_with fail
          refine (pnumber_any y0 y1 y2 y3 y4 2 _ HT m 0 F1).mono ?_
          rintro e u1 ⟨rfl, hB⟩
          have BB := Lib.hid (below_on HB.out (Nat.le_refl _) hB)
          have TT := Lib.hid (HT.out.below hB)
          have RR := Lib.hid (HR.out.below hB)
          have ll := Lib.hid (hl.out.below hB)
          clear hB HB HT HR hl c0 c1 c2 c3 c4
          go_wp2_with fail
          refine (pnumbered_any m 2 _ TT (y0, y1, y2, y3, y4) 0 F2).mono ?_
          rintro e u2 ⟨rfl, hB⟩
          obtain ⟨u3, hu3⟩ : ∃ W, u2.alloc (.cells #[.int .i64 y0, .int .i64 y1, .int .i64 y2, .int .i64 y3, .int .i64 y4] 25) = W := ⟨_, rfl⟩
          have hB3 : Below u1.heap.size u1 u3 := by rw [← hu3]; exact hB.alloc hB.size _
          have B2 := Lib.hid (below_on BB.out (Nat.le_refl _) hB3)
          have T2 := Lib.hid (TT.out.below hB3)
          have R2 := Lib.hid (RR.out.below hB3)
          have l2 := Lib.hid (ll.out.below hB3)
          have X2 : Hid (Box u3 25 u2.heap.size #[.int .i64 y0, .int .i64 y1, .int .i64 y2, .int .i64 y3, .int .i64 y4]) := Lib.hid (by rw [← hu3]; exact Box.new u2 _ _)
          have H3 := Lib.hid hu3
          clear hB hB3 hu3 BB TT RR ll
          go_wp2_with fail
          rw [H3.out]
          clear H3
          obtain ⟨c0, c1, c2, c3, c4⟩ := l2.out
          simp only at c0 c1 c2 c3 c4
          obtain ⟨d0, d1, d2, d3, d4⟩ := X2.out.cell5
          have EX : ∀ W, (Op.equalIn 9999 23 (.agg #[.int .i64 y1, .int .i64 y2, .int .i64 y3, .int .i64 y4]) (.agg #[.int .i64 y1, .int .i64 y2, .int .i64 y3, .int .i64 y4])).run Tryd.prog W = .ok true W := fun W => by rw [eq_arr, decide_eq_true ⟨rfl, rfl, rfl, rfl⟩]
          go_quiet (fail)
          rename_i K hK
          refine hK _ _ ?_
          clear hK
          go_wp2_with fail
          go_roundw
          case rel => exact ⟨k + 1, m, by go_num, by omega, rfl, HM, Lib.hid (R2.out.drewN _), Lib.hid (T2.out.below (below_drewN (Below.refl _ _) _)), Lib.hid (below_drewN B2.out _)⟩
          case measure => simp [intOf]; omega
        · go_wp2
          go_ret
          exact ⟨rfl, HB.out⟩
    · go_wp2_with fail
      go_loopw [19, 20] (fun v i wr => ∃ (k : Nat) (m0 : Int), i = .int .i64 k ∧ k ≤ 40 ∧ v = .int .i64 m0 ∧ Hid (lastN 3 k = m0) ∧ Hid (Reads5 wr (some ⟨b, o, none⟩) L) ∧ Hid (Tab wr) ∧ Hid (Below w.heap.size w wr)) (fun _ i _ => 40 - (intOf i).toNat)
      case atStart => exact ⟨0, -1, rfl, by omega, rfl, Lib.hid rfl, R8, T8, B8⟩
      case round =>
        obtain ⟨k, m0, rfl, hk, rfl, HM0, HR, HT, HB⟩ := hrel
        by_cases hlt : k < 40
        · have facts := all3 3 (by omega) (by omega) k (by have := HN2.out; omega)
          have hat := all3_at 3 k (by have := HN2.out; omega)
          obtain ⟨⟨y0, y1, y2, y3, y4⟩, hy⟩ : ∃ y, pad5 (lookAt3 3 k) = y := ⟨_, rfl⟩
          obtain ⟨m, hm⟩ : ∃ m : Int, numL 3 4 (lookAt3 3 k) = m := ⟨_, rfl⟩
          have hm2 : lastN 3 (k + 1) = m := hm
          have hm' : numL ((3 : Nat) : Int) 4 (lookAt3 3 k) = m := hm
          rw [hy, hm'] at facts
          rw [HL.out, hy] at hat
          obtain ⟨f1, f2, f3, f4, f5⟩ := facts
          rw [HM0.out] at f3
          have F1 : Hid (numE (y0, y1, y2, y3, y4) 3 = (m, 0)) := Lib.hid f1
          have F2 : Hid (decE m 3 = ((y0, y1, y2, y3, y4), 0)) := Lib.hid f2
          have HM := Lib.hid hm2
          have hl := Lib.hid (at5_of HR.out k (by have := HN.out; omega) hat)
          obtain ⟨c0, c1, c2, c3, c4⟩ := hl.out
          simp only at c0 c1 c2 c3 c4
          have hgt : decide (m ≤ m0) = false := decide_eq_false (by omega)
          have hgt2 : ¬ m ≤ m0 := by omega
          clear hy hm hm2 hm' hat f1 f2 f3
          go_wp2_with fail
          refine (pnumber_any y0 y1 y2 y3 y4 3 _ HT m 0 F1).mono ?_
          rintro e u1 ⟨rfl, hB⟩
          have BB := Lib.hid (below_on HB.out (Nat.le_refl _) hB)
          have TT := Lib.hid (HT.out.below hB)
          have RR := Lib.hid (HR.out.below hB)
          have ll := Lib.hid (hl.out.below hB)
          clear hB HB HT HR hl c0 c1 c2 c3 c4
          go_wp2_with fail
          refine (pnumbered_any m 3 _ TT (y0, y1, y2, y3, y4) 0 F2).mono ?_
          rintro e u2 ⟨rfl, hB⟩
          obtain ⟨u3, hu3⟩ : ∃ W, u2.alloc (.cells #[.int .i64 y0, .int .i64 y1, .int .i64 y2, .int .i64 y3, .int .i64 y4] 25) = W := ⟨_, rfl⟩
          have hB3 : Below u1.heap.size u1 u3 := by rw [← hu3]; exact hB.alloc hB.size _
          have B2 := Lib.hid (below_on BB.out (Nat.le_refl _) hB3)
          have T2 := Lib.hid (TT.out.below hB3)
          have R2 := Lib.hid (RR.out.below hB3)
          have l2 := Lib.hid (ll.out.below hB3)
          have X2 : Hid (Box u3 25 u2.heap.size #[.int .i64 y0, .int .i64 y1, .int .i64 y2, .int .i64 y3, .int .i64 y4]) := Lib.hid (by rw [← hu3]; exact Box.new u2 _ _)
          have H3 := Lib.hid hu3
          clear hB hB3 hu3 BB TT RR ll
          go_wp2_with fail
          rw [H3.out]
          clear H3
          obtain ⟨c0, c1, c2, c3, c4⟩ := l2.out
          simp only at c0 c1 c2 c3 c4
          obtain ⟨d0, d1, d2, d3, d4⟩ := X2.out.cell5
          have EX : ∀ W, (Op.equalIn 9999 23 (.agg #[.int .i64 y1, .int .i64 y2, .int .i64 y3, .int .i64 y4]) (.agg #[.int .i64 y1, .int .i64 y2, .int .i64 y3, .int .i64 y4])).run Tryd.prog W = .ok true W := fun W => by rw [eq_arr, decide_eq_true ⟨rfl, rfl, rfl, rfl⟩]
          go_quiet (fail)
          rename_i K hK
          refine hK _ _ ?_
          clear hK
          go_wp2_with fail
          go_roundw
          case rel => exact ⟨k + 1, m, by go_num, by omega, rfl, HM, Lib.hid (R2.out.drewN _), Lib.hid (T2.out.below (below_drewN (Below.refl _ _) _)), Lib.hid (below_drewN B2.out _)⟩
          case measure => simp [intOf]; omega
        · go_wp2
          go_ret
          exact ⟨rfl, HB.out⟩
set_option maxRecDepth 100000 in
set_option maxHeartbeats 2000000 in
theorem lookback_long (n t : Int) (s : ByteArray) (w : World) (hT : Hid (Tab w)) (hs : 40 < s.size) (hm : s.size ≤ 9223372036854775807) :
    Calls Tryd.prog 9 #[.int .i64 n, .string s, .int .i64 t] w fun e w' => e = .returned (.bool true) ∧ Below w.heap.size w w' := by
  have h : (40 : Int) < s.size := by omega
  go_enter Tryd.func9, Tryd.ntmps9
  go_wp2_with (go_at_call 6; refine (lookknown_any _ hT).mono ?_; rintro e w1 ⟨rfl, hB⟩; have B1 := Lib.hid hB; clear hB)
  go_ret
  exact ⟨rfl, B1.out⟩
end Go.Proofs.YtddackdghphcnaaDoor.s13
