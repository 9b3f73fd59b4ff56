/-
  Layer 4: the reference's Number, Same, Text.
-/
import Derived.Test.YtjhmlmimgahnmaaDoorS04F
namespace Go.Proofs.YtjhmlmimgahnmaaDoor.s04
set_option linter.unusedVariables false
set_option linter.unusedSimpArgs false
open Go.RowKit
open kit

theorem dvals_app (l m : List UInt8) : ∀ a, dvals (l ++ m) a = dvals m (dvals l a) := by
  induction l with
  | nil => intro a; rfl
  | cons c r ih => intro a; exact ih _
theorem dvals_take (l : List UInt8) (j : Nat) (h : j < l.length) : dvals (l.take (j + 1)) 0 = 10 * dvals (l.take j) 0 + (l[j].toNat - 48) ∧ dvals (l.take (j + 1)) 0 ≤ dvals l 0 := by
  constructor
  · rw [List.take_succ_eq_append_getElem h, dvals_app]; rfl
  · have e : dvals l 0 = dvals (l.drop (j + 1)) (dvals (l.take (j + 1)) 0) := by
      rw [← dvals_app, List.take_append_drop]
    rw [e]; exact dvals_ge _ _
set_option maxRecDepth 100000 in
set_option maxHeartbeats 2000000 in
theorem rsame_any (a b : Option Addr) (ca cb : Nat) (la lb : List Li) (w : World) (na : la.length ≤ 1000000) (nb : lb.length ≤ 1000000) (ra : ReadsL w a la) (rb : ReadsL w b lb) (r : Bool) (H : Hid (decide (la.map kt = lb.map kt) = r)) :
    Calls Tryd.prog 16 #[.slice a la.length ca, .slice b lb.length cb] w fun e w' => e = .returned (.bool r) ∧ Below w.heap.size w w' := by
  have HRA := Lib.hid ra
  have HRB := Lib.hid rb
  clear ra rb
  by_cases hn : la.length = lb.length
  · have hnb : ((la.length : Int) != (lb.length : Int)) = false := by rw [bne_eq_false_iff_eq]; omega
    have HN := Lib.hid hn
    clear hn
    go_enter Tryd.func16, Tryd.ntmps16
    go_wp2
    go_loopw [5] (fun i wr => ∃ j n : Nat, i = .int .i64 j ∧ j ≤ la.length ∧ Hid ((la.take j).map kt = (lb.take j).map kt) ∧ wr = w.drewN n) (fun i _ => la.length - (intOf i).toNat)
    case atStart => exact ⟨0, 0, rfl, by omega, Lib.hid rfl, rfl⟩
    case round =>
      obtain ⟨j, n, rfl, hj, HE, rfl⟩ := hrel
      by_cases hlt : j < la.length
      · have hlt2 : j < lb.length := by rw [← HN.out]; exact hlt
        obtain ⟨b1, o1, rfl, hb1, h0, h1, h2⟩ := HRA.out j hlt
        obtain ⟨b2, o2, rfl, hb2, k0, k1, k2⟩ := HRB.out j hlt2
        have hg : la[j]?.getD noLi = la[j] := by rw [List.getElem?_eq_getElem hlt]; rfl
        have hg2 : lb[j]?.getD noLi = lb[j] := by rw [List.getElem?_eq_getElem hlt2]; rfl
        have tno := kt_no hlt hlt2
        have ton := fun h => kt_on hlt hlt2 h HE.out
        rw [hg] at h0 h1 h2
        rw [hg2] at k0 k1 k2
        generalize la[j] = y at h0 h1 h2 tno ton
        generalize lb[j] = z at k0 k1 k2 tno ton
        obtain ⟨kd, tx, pl⟩ := y
        obtain ⟨kd2, tx2, pl2⟩ := z
        simp only at h0 h1 h2 k0 k1 k2 tno ton
        clear hg hg2
        by_cases hk : kd = kd2
        · have t1 : (kd != kd2) = false := by rw [bne_eq_false_iff_eq]; exact hk
          by_cases ht : tx = tx2
          · have HT := Lib.hid (ton (decide_eq_true ⟨hk, ht⟩))
            have t2 := str_beq_true ht
            have t3 : tx.toList = tx2.toList := by rw [ht]
            have t4 : (tx.toList != tx2.toList) = false := by rw [bne_eq_false_iff_eq]; exact t3
            clear tno ton hk ht
            go_wp2
            go_quiet (fail)
            go_wp2
            go_roundw
            case rel => exact ⟨j + 1, _, by go_num, by omega, HT, rfl⟩
            case measure => simp [intOf]; omega
          · have HX : Hid (r = false) := Lib.hid (by rw [← H.out]; exact decide_eq_false (tno (decide_eq_false fun h => ht h.2)))
            have t2 := str_beq_false ht
            have t3 : ¬ tx.toList = tx2.toList := by rw [beq_eq_false_iff_ne] at t2; exact t2
            have t4 : (tx.toList != tx2.toList) = true := by rw [bne_iff_ne]; exact t3
            clear tno ton hk ht
            go_wp2
            go_quiet (fail)
            go_wp2
            go_ret
            exact ⟨ret_bool HX.out.symm, below_drewN (below_drewN (Below.refl _ _) _) _⟩
        · have HX : Hid (r = false) := Lib.hid (by rw [← H.out]; exact decide_eq_false (tno (decide_eq_false fun h => hk h.1)))
          have t1 : (kd != kd2) = true := by rw [bne_iff_ne]; exact hk
          clear tno ton hk
          go_wp2
          go_quiet (fail)
          go_wp2
          go_ret
          exact ⟨ret_bool HX.out.symm, below_drewN (below_drewN (Below.refl _ _) _) _⟩
      · have hjl : j = la.length := by omega
        have HX : Hid (r = true) := Lib.hid (by
          have he := HE.out
          rw [hjl] at he
          rw [List.take_length, HN.out, List.take_length] at he
          rw [← H.out]; exact decide_eq_true he)
        clear hjl
        go_wp2
        go_ret
        exact ⟨ret_bool HX.out.symm, below_drewN (Below.refl _ _) _⟩
  · have hnb : ((la.length : Int) != (lb.length : Int)) = true := by rw [bne_iff_ne]; omega
    have HX : Hid (r = false) := Lib.hid (by
      rw [← H.out]
      refine decide_eq_false fun e => hn ?_
      have := congrArg List.length e
      simpa using this)
    clear hn
    go_enter Tryd.func16, Tryd.ntmps16
    go_wp2
    go_ret
    exact ⟨ret_bool HX.out.symm, Below.refl _ _⟩
theorem textB_snoc (l : List Li) (x : Li) : textB (l ++ [x]) = if l = [] then x.2.1.data.toList else textB l ++ 32 :: x.2.1.data.toList := by
  induction l with
  | nil => rfl
  | cons y r ih =>
    rw [if_neg (by simp)]
    cases r with
    | nil => rfl
    | cons z r =>
      rw [if_neg (by simp)] at ih
      show y.2.1.data.toList ++ 32 :: textB ((z :: r) ++ [x]) = y.2.1.data.toList ++ 32 :: textB (z :: r) ++ 32 :: x.2.1.data.toList
      rw [ih]; simp
def tb (l : List Li) : ByteArray := ⟨(textB l).toArray⟩
theorem tb_one (x : Li) : tb [x] = x.2.1 := by
  apply bytes_ext
  show ((textB [x]).toArray).toList = _
  simp [textB]
theorem tb_snoc (l : List Li) (x : Li) (h : l ≠ []) : tb (l ++ [x]) = tb l ++ ⟨#[32]⟩ ++ x.2.1 := by
  apply bytes_ext
  unfold tb
  rw [textB_snoc, if_neg h]
  simp
theorem tb_size (l : List Li) (m : Nat) (h : ∀ x ∈ l, x.2.1.size ≤ m) : (tb l).size ≤ l.length * (m + 1) := by
  have := textB_len l m h
  show (textB l).toArray.size ≤ _
  rw [List.size_toArray]; exact this
set_option maxRecDepth 100000 in
set_option maxHeartbeats 2000000 in
theorem rtext_any (a : Option Addr) (cap : Nat) (l : List Li) (w : World) (hl : l.length ≤ 1000) (hz : ∀ x ∈ l, x.2.1.size ≤ 1000) (hr : ReadsL w a l) (s : ByteArray) (c : Nat) (H : Hid (textR l = (s, c))) :
    Calls Tryd.prog 14 #[.slice a l.length cap] w fun e w' => e = .returned (.tuple #[.string s, .int .i64 (c : Int)]) ∧ Below w.heap.size w w' := by
  have HR := Lib.hid hr
  have HZ := Lib.hid hz
  have HB0 := Lib.hid (Below.refl w.heap.size w)
  clear hr hz
  go_enter Tryd.func14, Tryd.ntmps14
  go_wp2
  go_loopw [4, 5] (fun v i wr => ∃ j : Nat, i = .int .i64 j ∧ j ≤ l.length ∧ Hid (textE (l.take j) = 0) ∧ v = .string (tb (l.take j)) ∧ Hid (Below w.heap.size w wr)) (fun _ i _ => l.length - (intOf i).toNat)
  case atStart => exact ⟨0, rfl, by omega, Lib.hid rfl, rfl, HB0⟩
  case round =>
    obtain ⟨j, rfl, hj, HE, rfl, HB⟩ := hrel
    by_cases hlt : j < l.length
    · obtain ⟨b, off, rfl, hb, h0, h1, h2⟩ := (HR.out.below HB.out) j hlt
      have HRW := Lib.hid (HR.out.below HB.out)
      have hg : l[j]?.getD noLi = l[j] := by rw [List.getElem?_eq_getElem hlt]; rfl
      have hm := HZ.out _ (List.getElem_mem hlt)
      have ht := textE_take l j hlt HE.out
      have hs := textE_snoc l j hlt HE.out
      have hta : l.take (j + 1) = l.take j ++ [l[j]] := by rw [List.take_succ_eq_append_getElem hlt]
      have hln : (l.take j).length = j := by rw [List.length_take]; omega
      have hsz := tb_size (l.take j) 1000 (fun x hx => HZ.out x (List.mem_of_mem_take hx))
      rw [hln] at hsz
      rw [hg] at h0 h1 h2
      generalize l[j] = y at h0 h1 h2 hm ht hs hta
      obtain ⟨kd, tx, pl⟩ := y
      simp only at h0 h1 h2 hm ht hs
      have ht9 : tx.size ≤ 9223372036854775806 := by omega
      obtain ⟨c1, hc1⟩ : ∃ c1, checkR kd tx pl = c1 := ⟨_, rfl⟩
      rw [hc1] at ht hs
      have HC := Lib.hid hc1
      have HBC : Hid (wr.cell? ⟨b, off + j * 3 + 1, none⟩ = some (.string tx)) := Lib.hid h1
      have hsz2 : (tb (l.take j)).size ≤ 2000000 := by omega
      clear hc1 hg hsz
      by_cases hz : c1 = 0
      · have HS := Lib.hid (hs hz)
        clear ht hs
        subst hz
        by_cases hj0 : j = 0
        · have HV : Hid (tb (l.take (j + 1)) = tb (l.take j) ++ tx) := Lib.hid (by
            have e : l.take j = [] := by rw [hj0, List.take_zero]
            rw [hta, e]
            refine (tb_one _).trans ?_
            apply bytes_ext
            show tx.data.toList = (tb [] ++ tx).data.toList
            unfold tb
            simp [textB])
          have j1 : j < 1 := by omega
          generalize tb (l.take j) = v at HV hsz2
          have q1 : v.size + tx.size ≤ 9223372036854775807 := by omega
          clear hta hj0
          go_wp2_with (go_at_call 10; (with_reducible refine (rcheck_any kd pl tx _ ht9 0 HC).mono ?_); rintro e w1 ⟨rfl, B1⟩; have HB1 := Lib.hid (below_then HB.out B1); have y1 := (B1.cell (p := ⟨b, off + j * 3 + 1, none⟩) hb).trans HBC.out; have hb1 := Nat.lt_of_lt_of_le hb B1.size; clear B1)
          go_roundw
          case rel => exact ⟨j + 1, by go_num, by omega, HS, by rw [HV.out], HB1⟩
          case measure => simp [intOf]; omega
        · have HV : Hid (tb (l.take (j + 1)) = tb (l.take j) ++ ⟨#[32]⟩ ++ tx) := Lib.hid (by rw [hta]; exact tb_snoc _ _ (fun e => by rw [e] at hln; exact hj0 hln.symm))
          have j1 : 1 ≤ j := by omega
          generalize tb (l.take j) = v at HV hsz2
          have q1 : v.size + (⟨#[32]⟩ : ByteArray).size ≤ 9223372036854775807 := by show _ + 1 ≤ _; omega
          have q2 : (v ++ ⟨#[32]⟩ : ByteArray).size + tx.size ≤ 9223372036854775807 := by rw [ByteArray.size_append]; show _ + 1 + _ ≤ _; omega
          clear hta hj0
          go_wp2_with (go_at_call 10; (with_reducible refine (rcheck_any kd pl tx _ ht9 0 HC).mono ?_); rintro e w1 ⟨rfl, B1⟩; have HB1 := Lib.hid (below_then HB.out B1); have y1 := (B1.cell (p := ⟨b, off + j * 3 + 1, none⟩) hb).trans HBC.out; have hb1 := Nat.lt_of_lt_of_le hb B1.size; clear B1)
          go_roundw
          case rel => exact ⟨j + 1, by go_num, by omega, HS, by rw [HV.out], HB1⟩
          case measure => simp [intOf]; omega
      · have tc : ((c1 : Int) != 0) = true := by rw [bne_iff_ne]; omega
        have HT : Hid ((ByteArray.empty, c1) = (s, c)) := Lib.hid (by
          rw [if_neg hz] at ht
          rw [← H.out]; unfold textR; rw [ht, if_neg hz])
        clear ht hs hz hta
        go_wp2_with (go_at_call 10; (with_reducible refine (rcheck_any kd pl tx _ ht9 c1 HC).mono ?_); rintro e w1 ⟨rfl, B1⟩; have HB1 := Lib.hid (below_then HB.out B1); clear B1)
        go_ret2
        exact ⟨ret_se (by have := HT.out; simp only [Prod.mk.injEq] at this ⊢; obtain ⟨e1, e2⟩ := this; exact ⟨e1, by rw [e2]⟩), HB1.out⟩
    · have hjl : j = l.length := by omega
      have hta : l.take j = l := by rw [hjl, List.take_length]
      have HT : Hid ((tb (l.take j), 0) = (s, c)) := Lib.hid (by
        have he := HE.out
        rw [hta] at he ⊢
        rw [← H.out]; unfold textR; rw [if_pos he]; rfl)
      clear hta hjl
      go_wp2
      go_ret2
      exact ⟨ret_se (by have := HT.out; simp only [Prod.mk.injEq] at this ⊢; obtain ⟨e1, e2⟩ := this; exact ⟨e1, by rw [← e2]; rfl⟩), HB.out⟩
end Go.Proofs.YtjhmlmimgahnmaaDoor.s04
