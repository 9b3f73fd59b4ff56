/-
  Layer 4: the reference's Check, Is, Same, Text; the law's light.
-/
import Derived.Test.YtjhmlmimgahnmaaDoorS04E
import Derived.Test.YtjhmlmimgahnmaaDoorS04W
namespace Go.Proofs.YtjhmlmimgahnmaaDoor.s04
set_option linter.unusedVariables false
set_option linter.unusedSimpArgs false
open Go.RowKit
open kit

def lightB (l : List Li) : Bool := decide (l.length ≤ 100 ∧ ∀ i, (h : i < l.length) → l[i].2.1.size ≤ 100)
set_option maxRecDepth 100000 in
set_option maxHeartbeats 1000000 in
theorem light_any (a : Option Addr) (cap : Nat) (l : List Li) (w : World) (hn : l.length ≤ 9223372036854775807) (ra : ReadsL w a l) (r : Bool) (H : Hid (lightB l = r)) :
    Calls Tryd.prog 5 #[.slice a l.length cap] w fun e w' => e = .returned (.bool r) ∧ Below w.heap.size w w' := by
  have HRA := Lib.hid ra
  clear ra
  by_cases hb : 100 < l.length
  · have HX : Hid (r = false) := Lib.hid (by rw [← H.out]; exact decide_eq_false fun h => by omega)
    go_enter Tryd.func5, Tryd.ntmps5
    go_wp2
    go_ret
    exact ⟨ret_bool HX.out.symm, Below.refl _ _⟩
  · go_enter Tryd.func5, Tryd.ntmps5
    go_wp2
    go_loopw [3] (fun i wr => ∃ j n : Nat, i = .int .i64 j ∧ j ≤ l.length ∧ Hid (∀ i, i < j → (h : i < l.length) → l[i].2.1.size ≤ 100) ∧ wr = w.drewN n) (fun i _ => l.length - (intOf i).toNat)
    case atStart => exact ⟨0, 0, rfl, by omega, Lib.hid (fun i hi => by omega), rfl⟩
    case round =>
      obtain ⟨j, n, rfl, hj, HL, rfl⟩ := hrel
      by_cases hlt : j < l.length
      · obtain ⟨b, off, rfl, hb1, h0, h1, h2⟩ := HRA.out j hlt
        have hg : l[j]?.getD noLi = l[j] := by rw [List.getElem?_eq_getElem hlt]; rfl
        rw [hg] at h0 h1 h2
        have hno : 100 < l[j].2.1.size → lightB l = false := fun h => decide_eq_false fun hh => by have := hh.2 j hlt; omega
        have hon : l[j].2.1.size ≤ 100 → ∀ i, i < j + 1 → (h : i < l.length) → l[i].2.1.size ≤ 100 := fun hs i hi h => by
          by_cases e : i = j
          · subst e; exact hs
          · exact HL.out i (by omega) h
        generalize l[j] = y at h0 h1 h2 hno hon
        obtain ⟨kd, tx, pl⟩ := y
        simp only at h0 h1 h2 hno hon
        clear hg
        by_cases hz : 100 < tx.size
        · have HX : Hid (r = false) := Lib.hid (by rw [← H.out, hno hz])
          clear hno hon
          go_wp2
          go_ret
          exact ⟨ret_bool HX.out.symm, below_drewN (Below.refl _ _) n⟩
        · have HO := Lib.hid (hon (by omega))
          clear hno hon
          go_wp2
          go_roundw
          case rel => exact ⟨j + 1, _, by go_num, by omega, HO, rfl⟩
          case measure => simp [intOf]; omega
      · have HX : Hid (r = true) := Lib.hid (by rw [← H.out]; exact decide_eq_true ⟨by omega, fun i h => HL.out i (by omega) h⟩)
        go_wp2
        go_ret
        exact ⟨ret_bool HX.out.symm, below_drewN (Below.refl _ _) n⟩
theorem ris_any (kd kd' at' : Int) (tx tx' : ByteArray) (w : World) (b : Bool) (H : Hid (isB kd kd' tx tx' = b)) :
    Calls Tryd.prog 12 #[.agg #[.int .i64 kd, .string tx, .int .i64 at'], .int .i64 kd', .string tx'] w fun e w' => e = .returned (.bool b) ∧ Below w.heap.size w w' := by
  have HB := Lib.hid ((Below.refl w.heap.size w).alloc (Nat.le_refl _) (.cells #[.int .i64 kd, .string tx, .int .i64 at'] 23))
  by_cases hk : kd = kd'
  · have t1 : (kd == kd') = true := by rw [beq_iff_eq]; exact hk
    by_cases ht : tx = tx'
    · have t2 := str_beq_true ht
      have HX : Hid (b = true) := Lib.hid (by rw [← H.out]; unfold isB; rw [decide_eq_true ⟨hk, ht⟩])
      have t3 : tx.toList = tx'.toList := by rw [ht]
      clear hk ht
      go_enter Tryd.func12, Tryd.ntmps12
      go_wp2
      go_ret
      exact ⟨ret_bool HX.out.symm, HB.out⟩
    · have t2 := str_beq_false ht
      have HX : Hid (b = false) := Lib.hid (by rw [← H.out]; unfold isB; rw [decide_eq_false fun e => ht e.2])
      have t3 : ¬ tx.toList = tx'.toList := by rw [beq_eq_false_iff_ne] at t2; exact t2
      clear hk ht
      go_enter Tryd.func12, Tryd.ntmps12
      go_wp2
      go_ret
      exact ⟨ret_bool HX.out.symm, HB.out⟩
  · have t1 : (kd == kd') = false := by rw [beq_eq_false_iff_ne]; exact hk
    have HX : Hid (b = false) := Lib.hid (by rw [← H.out]; unfold isB; rw [decide_eq_false fun e => hk e.1])
    clear hk
    go_enter Tryd.func12, Tryd.ntmps12
    go_wp2
    go_ret
    exact ⟨ret_bool HX.out.symm, HB.out⟩
theorem form_beg2 {kd : Int} {tx : ByteArray} (h0 : 0 < tx.size) : formB kd tx = isB ((begR tx).1 : Int) kd (tx.extract 0 (begR tx).2) tx := by
  have hle := begR_le tx h0
  unfold formB isB
  refine decide_eq_decide.2 ⟨fun h => ⟨h.2.1, ?_⟩, fun h => ⟨h0, h.1, ?_⟩⟩
  · rw [h.2.2]; exact ext_whole tx
  · have := congrArg ByteArray.size h.2
    rw [ByteArray.size_extract] at this
    omega
set_option maxRecDepth 100000 in
set_option maxHeartbeats 1000000 in
theorem rcheck_any (kd at' : Int) (tx : ByteArray) (w : World) (hs : tx.size ≤ 9223372036854775806) (c : Nat) (H : Hid (checkR kd tx at' = c)) :
    Calls Tryd.prog 10 #[.agg #[.int .i64 kd, .string tx, .int .i64 at']] w fun e w' => e = .returned (.int .i64 (c : Int)) ∧ Below w.heap.size w w' := by
  have HB := Lib.hid ((Below.refl w.heap.size w).alloc (Nat.le_refl _) (.cells #[.int .i64 kd, .string tx, .int .i64 at'] 23))
  have HW := Lib.hid (Box.new w 23 #[.int .i64 kd, .string tx, .int .i64 at'])
  by_cases hk : kd < 1 ∨ 3 < kd
  · have HX : Hid (c = 11) := Lib.hid (by rw [← H.out]; unfold checkR; rw [if_pos hk])
    rcases (show kd < 1 ∨ (¬ kd < 1 ∧ 3 < kd) by omega) with h1 | ⟨h1, h3⟩
    all_goals
      clear hk
      go_enter Tryd.func10, Tryd.ntmps10
      go_wp2
      go_ret
      exact ⟨ret_int (by rw [HX.out]; rfl), HB.out⟩
  · have k1 : 1 ≤ kd := by omega
    have k3 : kd ≤ 3 := by omega
    have HN0 : Hid (c = if formB kd tx = false then 3 else if at' < 0 then 2 else 0) := Lib.hid (by rw [← H.out]; unfold checkR; rw [if_neg hk])
    clear hk
    by_cases h0 : tx.size = 0
    · obtain rfl : tx = ⟨#[]⟩ := by
        apply bytes_ext
        have : tx.data.toList.length = 0 := by simpa using h0
        exact List.length_eq_zero_iff.1 this
      have HX : Hid (c = 3) := Lib.hid (by rw [HN0.out, show formB kd ⟨#[]⟩ = false from decide_eq_false fun h => by exact absurd h.1 (by decide)]; rfl)
      clear h0
      go_enter Tryd.func10, Tryd.ntmps10
      go_wp2
      go_ret
      exact ⟨ret_int (by rw [HX.out]; rfl), HB.out⟩
    · have hpos : 0 < tx.size := by omega
      have hne : ¬ tx = ⟨#[]⟩ := fun e => h0 (by rw [e]; rfl)
      have e1 := str_beq_false hne
      have e2 : ¬ tx.toList = (⟨#[]⟩ : ByteArray).toList := by rw [beq_eq_false_iff_ne] at e1; exact e1
      have e0 : (⟨#[]⟩ : ByteArray).toList = [] := by decide +kernel
      have e3 : ¬ tx.toList = [] := by rw [← e0]; exact e2
      have e4 : (tx.toList == []) = false := by rw [← e0]; exact e1
      clear e0
      have hf := form_beg2 (kd := kd) hpos
      have HBG := fun w1 => Lib.hid (begins_any tx w1 hpos hs)
      generalize tx.extract 0 (begR tx).2 = tx2 at hf HBG
      generalize (begR tx).1 = kd2 at hf HBG
      clear h0 hne
      by_cases hkk : (kd2 : Int) = kd
      · have t1 : ((kd2 : Int) != kd) = false := by rw [bne_eq_false_iff_eq]; exact hkk
        by_cases htt : tx2 = tx
        · have hfb : formB kd tx = true := by rw [hf]; exact decide_eq_true ⟨hkk, htt⟩
          have t2 := str_beq_true htt
          have t3 : tx2.toList = tx.toList := by rw [htt]
          have t4 : (tx2.toList != tx.toList) = false := by rw [bne_eq_false_iff_eq]; exact t3
          clear hf hkk htt
          by_cases ha : at' < 0
          · have HX : Hid (c = 2) := Lib.hid (by rw [HN0.out, hfb, if_neg (by decide), if_pos ha])
            clear hfb
            go_enter Tryd.func10, Tryd.ntmps10
            go_wp2_with (go_at_call 24; refine (HBG _).out.mono ?_; rintro e w1 ⟨rfl, B1⟩; obtain ⟨x0, x1, x2⟩ := ((HW.out.below B1).alloc (.cells #[.int .i64 (kd2 : Int), .string tx2, .int .i64 0] 23)).cell3; have HB1 := Lib.hid ((below_then HB.out B1).alloc (below_then HB.out B1).size (.cells #[.int .i64 (kd2 : Int), .string tx2, .int .i64 0] 23)))
            go_ret
            exact ⟨ret_int (by rw [HX.out]; rfl), HB1.out⟩
          · have HX : Hid (c = 0) := Lib.hid (by rw [HN0.out, hfb, if_neg (by decide), if_neg ha])
            clear hfb
            go_enter Tryd.func10, Tryd.ntmps10
            go_wp2_with (go_at_call 24; refine (HBG _).out.mono ?_; rintro e w1 ⟨rfl, B1⟩; obtain ⟨x0, x1, x2⟩ := ((HW.out.below B1).alloc (.cells #[.int .i64 (kd2 : Int), .string tx2, .int .i64 0] 23)).cell3; have HB1 := Lib.hid ((below_then HB.out B1).alloc (below_then HB.out B1).size (.cells #[.int .i64 (kd2 : Int), .string tx2, .int .i64 0] 23)))
            go_ret
            exact ⟨ret_int (by rw [HX.out]; rfl), HB1.out⟩
        · have HX : Hid (c = 3) := Lib.hid (by rw [HN0.out, hf, show isB (kd2 : Int) kd tx2 tx = false from decide_eq_false fun h => htt h.2]; rfl)
          have t2 := str_beq_false htt
          have t3 : ¬ tx2.toList = tx.toList := by rw [beq_eq_false_iff_ne] at t2; exact t2
          have t4 : (tx2.toList != tx.toList) = true := by rw [bne_iff_ne]; exact t3
          clear hf hkk htt
          go_enter Tryd.func10, Tryd.ntmps10
          go_wp2_with (go_at_call 24; refine (HBG _).out.mono ?_; rintro e w1 ⟨rfl, B1⟩; obtain ⟨x0, x1, x2⟩ := ((HW.out.below B1).alloc (.cells #[.int .i64 (kd2 : Int), .string tx2, .int .i64 0] 23)).cell3; have HB1 := Lib.hid ((below_then HB.out B1).alloc (below_then HB.out B1).size (.cells #[.int .i64 (kd2 : Int), .string tx2, .int .i64 0] 23)))
          go_ret
          exact ⟨ret_int (by rw [HX.out]; rfl), HB1.out⟩
      · have t1 : ((kd2 : Int) != kd) = true := by rw [bne_iff_ne]; exact hkk
        have HX : Hid (c = 3) := Lib.hid (by rw [HN0.out, hf, show isB (kd2 : Int) kd tx2 tx = false from decide_eq_false fun h => hkk h.1]; rfl)
        clear hf hkk
        go_enter Tryd.func10, Tryd.ntmps10
        go_wp2_with (go_at_call 24; refine (HBG _).out.mono ?_; rintro e w1 ⟨rfl, B1⟩; obtain ⟨x0, x1, x2⟩ := ((HW.out.below B1).alloc (.cells #[.int .i64 (kd2 : Int), .string tx2, .int .i64 0] 23)).cell3; have HB1 := Lib.hid ((below_then HB.out B1).alloc (below_then HB.out B1).size (.cells #[.int .i64 (kd2 : Int), .string tx2, .int .i64 0] 23)))
        go_ret
        exact ⟨ret_int (by rw [HX.out]; rfl), HB1.out⟩
end Go.Proofs.YtjhmlmimgahnmaaDoor.s04
