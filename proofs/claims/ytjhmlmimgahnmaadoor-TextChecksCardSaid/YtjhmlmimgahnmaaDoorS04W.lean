/-
  Layer 4, the program's side: Same.
-/
import Derived.Test.YtjhmlmimgahnmaaDoorS04V
namespace Go.Proofs.YtjhmlmimgahnmaaDoor.s04
set_option linter.unusedVariables false
set_option linter.unusedSimpArgs false
open Go.RowKit
open kit

theorem same1_any (kd kd' at' at'' : Int) (tx tx' : ByteArray) (w : World) (b : Bool) (H : Hid (isB kd kd' tx tx' = b)) :
    Calls Tryd.prog 27 #[.agg #[.int .i64 kd, .string tx, .int .i64 at'], .agg #[.int .i64 kd', .string tx', .int .i64 at'']] w fun e w' => e = .returned (.bool b) ∧ Below w.heap.size w w' := by
  have HB := Lib.hid (((Below.refl w.heap.size w).alloc (Nat.le_refl _) (.cells #[.int .i64 kd, .string tx, .int .i64 at'] 23)).alloc (by simp) (.cells #[.int .i64 kd', .string tx', .int .i64 at''] 23))
  have HX := Lib.hid ((Box.new w 23 #[.int .i64 kd, .string tx, .int .i64 at']).alloc (.cells #[.int .i64 kd', .string tx', .int .i64 at''] 23))
  have HY := Lib.hid (Box.new (w.alloc (.cells #[.int .i64 kd, .string tx, .int .i64 at'] 23)) 23 #[.int .i64 kd', .string tx', .int .i64 at''])
  go_enter Tryd.func27, Tryd.ntmps27
  go_wp2_with (go_at_call 11; (with_reducible refine (is_any kd kd' at' tx tx' _ b H).mono ?_); rintro e w1 ⟨rfl, B1⟩; have HB1 := Lib.hid (below_then HB.out B1); clear B1)
  go_ret
  exact ⟨rfl, HB1.out⟩
theorem kt_no {la lb : List Li} {j : Nat} (ha : j < la.length) (hb : j < lb.length) (h : isB la[j].1 lb[j].1 la[j].2.1 lb[j].2.1 = false) : ¬ la.map kt = lb.map kt := by
  intro e
  have : (la.map kt)[j]? = (lb.map kt)[j]? := by rw [e]
  rw [List.getElem?_map, List.getElem?_map, List.getElem?_eq_getElem ha, List.getElem?_eq_getElem hb] at this
  have := Option.some.inj this
  unfold kt at this
  have h2 := Prod.mk.inj this
  unfold isB at h
  exact absurd h2 (of_decide_eq_false h)
theorem kt_on {la lb : List Li} {j : Nat} (ha : j < la.length) (hb : j < lb.length) (h : isB la[j].1 lb[j].1 la[j].2.1 lb[j].2.1 = true) (ht : (la.take j).map kt = (lb.take j).map kt) : (la.take (j + 1)).map kt = (lb.take (j + 1)).map kt := by
  rw [List.take_succ_eq_append_getElem ha, List.take_succ_eq_append_getElem hb, List.map_append, List.map_append, ht]
  unfold isB at h
  have h2 := of_decide_eq_true h
  simp only [List.map_cons, List.map_nil, kt]
  rw [h2.1, h2.2]
set_option maxRecDepth 100000 in
set_option maxHeartbeats 2000000 in
theorem equal_any (a b : Option Addr) (ca cb : Nat) (la lb : List Li) (w : World) (na : la.length ≤ 1000000) (nb : lb.length ≤ 1000000) (ra : ReadsL w a la) (rb : ReadsL w b lb) (r : Bool) (H : Hid (decide (la.map kt = lb.map kt) = r)) :
    Calls Tryd.prog 26 #[.slice a la.length ca, .slice b lb.length cb, .func (.func 27) #[] #[]] w fun e w' => e = .returned (.bool r) ∧ Below w.heap.size w w' := by
  have HRA := Lib.hid ra
  have HRB := Lib.hid rb
  have HB0 := Lib.hid (Below.refl w.heap.size w)
  clear ra rb
  by_cases hn : la.length = lb.length
  · have hnb : ((la.length : Int) != (lb.length : Int)) = false := by rw [bne_eq_false_iff_eq]; omega
    have HN := Lib.hid hn
    clear hn
    go_enter Tryd.func26, Tryd.ntmps26
    go_wp2
    go_loopw [17] (fun i wr => ∃ j : Nat, i = .int .i64 j ∧ j ≤ la.length ∧ Hid ((la.take j).map kt = (lb.take j).map kt) ∧ Hid (Below w.heap.size w wr)) (fun i _ => la.length - (intOf i).toNat)
    case atStart => exact ⟨0, rfl, by omega, Lib.hid rfl, HB0⟩
    case round =>
      obtain ⟨j, rfl, hj, HE, HB⟩ := hrel
      by_cases hlt : j < la.length
      · have hlt2 : j < lb.length := by rw [← HN.out]; exact hlt
        obtain ⟨b1, o1, rfl, hb1, h0, h1, h2⟩ := (HRA.out.below HB.out) j hlt
        have HSB := Lib.hid ((HRB.out.below HB.out).alloc (.cells #[.int .i64 (la[j]?.getD noLi).1, .string (la[j]?.getD noLi).2.1, .int .i64 (la[j]?.getD noLi).2.2] 23))
        obtain ⟨b2, o2, rfl, hb2, k0, k1, k2⟩ := HSB.out j hlt2
        have hg : la[j]?.getD noLi = la[j] := by rw [List.getElem?_eq_getElem hlt]; rfl
        have hg2 : lb[j]?.getD noLi = lb[j] := by rw [List.getElem?_eq_getElem hlt2]; rfl
        have tno := kt_no hlt hlt2
        have ton := fun h => kt_on hlt hlt2 h HE.out
        rw [hg] at h0 h1 h2 k0 k1 k2
        rw [hg2] at k0 k1 k2
        generalize la[j] = y at h0 h1 h2 k0 k1 k2 tno ton
        generalize lb[j] = z at k0 k1 k2 tno ton
        obtain ⟨kd, tx, pl⟩ := y
        obtain ⟨kd2, tx2, pl2⟩ := z
        simp only at h0 h1 h2 k0 k1 k2 tno ton
        clear hg hg2 HSB
        obtain ⟨c1, hc1⟩ : ∃ c1, isB kd kd2 tx tx2 = c1 := ⟨_, rfl⟩
        rw [hc1] at tno ton
        have HC := Lib.hid hc1
        clear hc1
        have B2 := Lib.hid ((HB.out.alloc HB.out.size (.cells #[.int .i64 kd, .string tx, .int .i64 pl] 23)).alloc (HB.out.alloc HB.out.size _).size (.cells #[.int .i64 kd2, .string tx2, .int .i64 pl2] 23))
        cases c1
        · have HX : Hid (r = false) := Lib.hid (by rw [← H.out]; exact decide_eq_false (tno rfl))
          clear tno ton
          go_wp2_with (go_at_call 27; (with_reducible refine (same1_any kd kd2 pl pl2 tx tx2 _ false HC).mono ?_); rintro e w1 ⟨rfl, B1⟩; have HB1 := Lib.hid (below_then B2.out B1); clear B1)
          go_ret
          exact ⟨ret_bool HX.out.symm, HB1.out⟩
        · have HT := Lib.hid (ton rfl)
          clear tno ton
          go_wp2_with (go_at_call 27; (with_reducible refine (same1_any kd kd2 pl pl2 tx tx2 _ true HC).mono ?_); rintro e w1 ⟨rfl, B1⟩; have HB1 := Lib.hid (below_then B2.out B1); clear B1)
          go_roundw
          case rel => exact ⟨j + 1, by go_num, by omega, HT, HB1⟩
          case measure => simp [intOf]; omega
      · have hjl : j = la.length := by omega
        have HX : Hid (r = true) := Lib.hid (by
          have he := HE.out
          rw [hjl] at he
          rw [List.take_length, HN.out, List.take_length] at he
          rw [← H.out]; exact decide_eq_true he)
        clear hjl
        go_wp2
        go_ret
        exact ⟨ret_bool HX.out.symm, HB.out⟩
  · have hnb : ((la.length : Int) != (lb.length : Int)) = true := by rw [bne_iff_ne]; omega
    have HX : Hid (r = false) := Lib.hid (by
      rw [← H.out]
      refine decide_eq_false fun e => hn ?_
      have := congrArg List.length e
      simpa using this)
    clear hn
    go_enter Tryd.func26, Tryd.ntmps26
    go_wp2
    go_ret
    exact ⟨ret_bool HX.out.symm, HB0.out⟩
theorem same_any (a b : Option Addr) (ca cb : Nat) (la lb : List Li) (w : World) (na : la.length ≤ 1000000) (nb : lb.length ≤ 1000000) (ra : ReadsL w a la) (rb : ReadsL w b lb) (r : Bool) (H : Hid (decide (la.map kt = lb.map kt) = r)) :
    Calls Tryd.prog 15 #[.slice a la.length ca, .slice b lb.length cb] w fun e w' => e = .returned (.bool r) ∧ Below w.heap.size w w' := by
  have HRA := Lib.hid ra
  have HRB := Lib.hid rb
  clear ra rb
  go_enter Tryd.func15, Tryd.ntmps15
  go_wp2_with (go_at_call 26; refine (equal_any a b ca cb la lb _ na nb HRA.out HRB.out r H).mono ?_; rintro e w1 ⟨rfl, B1⟩)
  go_ret
  exact ⟨rfl, B1⟩
end Go.Proofs.YtjhmlmimgahnmaaDoor.s04
