/-
  Layer 4: the reference's Number.
-/
import Derived.Test.YtjhmlmimgahnmaaDoorS04H
namespace Go.Proofs.YtjhmlmimgahnmaaDoor.s04
set_option linter.unusedVariables false
set_option linter.unusedSimpArgs false
open Go.RowKit
open kit

set_option maxRecDepth 100000 in
set_option maxHeartbeats 2000000 in
theorem rnumber_any (kd at' least most : Int) (tx : ByteArray) (w : World) (hs : tx.size ≤ 100000) (n : Int) (c : Nat) (H : Hid (numR kd tx at' least most = (n, c))) :
    Calls Tryd.prog 8 #[.agg #[.int .i64 kd, .string tx, .int .i64 at'], .int .i64 least, .int .i64 most] w fun e w' => e = .returned (.tuple #[.int .i64 n, .int .i64 (c : Int)]) ∧ Below w.heap.size w w' := by
  have HB := Lib.hid ((Below.refl w.heap.size w).alloc (Nat.le_refl _) (.cells #[.int .i64 kd, .string tx, .int .i64 at'] 23))
  have HW := Lib.hid (Box.new w 23 #[.int .i64 kd, .string tx, .int .i64 at'])
  have hs9 : tx.size ≤ 9223372036854775806 := by omega
  obtain ⟨c1, hc1⟩ : ∃ c1, checkR kd tx at' = c1 := ⟨_, rfl⟩
  have HC := Lib.hid hc1
  by_cases hz : c1 = 0
  · subst hz
    obtain ⟨k1, k3, hf⟩ := check_form hc1
    by_cases hk : kd = 2
    · subst hk
      obtain ⟨d1, d2⟩ := digits_in hf
      have HD := Lib.hid d2
      have e2 : tx.data.toList.length = tx.size := by simp
      have HE2 := Lib.hid e2
      have HN : Hid ((if 9223372036854775808 ≤ dvals tx.data.toList 0 then ((0 : Int), 2) else if (dvals tx.data.toList 0 : Int) < least ∨ most < (dvals tx.data.toList 0 : Int) then (0, 2) else ((dvals tx.data.toList 0 : Int), 0)) = (n, c)) := Lib.hid (by
        rw [← H.out]; unfold numR; rw [hc1, if_neg (show ¬ (0 : Nat) ≠ 0 by omega), if_neg (show ¬ (2 : Int) ≠ 2 by omega)])
      clear d1 d2 hf hc1 k1 k3 e2
      go_enter Tryd.func8, Tryd.ntmps8
      go_wp2_with (go_at_call 10; (with_reducible refine (rcheck_any 2 at' tx _ hs9 0 HC).mono ?_); rintro e w1 ⟨rfl, B1⟩; obtain ⟨x0, x1, x2⟩ := (HW.out.below B1).cell3; have hlt1 := (HW.out.below B1).lt; have HB1 := Lib.hid (below_then HB.out B1); clear B1)
      go_loopw [9, 10] (fun nv i wr => ∃ j m : Nat, nv = .int .i64 m ∧ i = .int .i64 j ∧ j ≤ tx.size ∧ m ≤ 9223372036854775807 ∧ Hid (dvals (tx.data.toList.take j) 0 = m) ∧ wr = w1) (fun _ i _ => tx.size - (intOf i).toNat)
      case atStart => exact ⟨0, 0, rfl, rfl, by omega, by omega, Lib.hid rfl, rfl⟩
      case round =>
        obtain ⟨j, m, rfl, rfl, hj, hm, HM, rfl⟩ := hrel
        by_cases hlt : j < tx.size
        · have hll : j < tx.data.toList.length := by rw [HE2.out]; exact hlt
          obtain ⟨t1, t2⟩ := dvals_take tx.data.toList j hll
          have hget : tx.data.toList[j] = tx[j] := by simp; rfl
          have hdig := HD.out _ (List.getElem_mem hll)
          rw [hget] at t1 hdig
          rw [HM.out] at t1
          obtain ⟨cn, hcn⟩ : ∃ cn, tx[j].toNat = cn := ⟨_, rfl⟩
          rw [hcn] at t1 hdig
          obtain ⟨d, hd⟩ : ∃ d, cn - 48 = d := ⟨_, rfl⟩
          rw [hd] at t1
          obtain ⟨g1, g2⟩ := hdig
          have hd9 : d ≤ 9 := by omega
          have u1 : IntKind.u8.wrap ((cn : Int) - 48) = (d : Int) := by rw [wrap_u8_in _ (by omega) (by omega)]; omega
          have u2 : IntKind.i64.wrap (d : Int) = d := IntWalk.i64_in _ (by omega)
          obtain ⟨q, hq⟩ : ∃ q : Nat, (9223372036854775807 - d) / 10 = q := ⟨_, rfl⟩
          have u3 : ((9223372036854775807 : Int) - (d : Int)).tdiv 10 = (q : Int) := by rw [Int.tdiv_eq_ediv_of_nonneg (by omega)]; omega
          have u4 : IntKind.i64.wrap (q : Int) = q := IntWalk.i64_in _ (by omega)
          have u5 : IntKind.i64.wrap ((9223372036854775807 : Int) - (d : Int)) = (9223372036854775807 : Int) - (d : Int) := IntWalk.i64_in _ (by omega)
          have q1 : 10 * q ≤ 9223372036854775807 - d := by omega
          have q2 : 9223372036854775807 - d < 10 * q + 10 := by omega
          have HCN := Lib.hid hcn
          by_cases hbig : q < m
          · have HX : Hid (((0 : Int), 2) = (n, c)) := Lib.hid (by rw [← HN.out, if_pos (by omega)])
            clear t1 t2 hq hd hget
            go_wp2
            go_ret2
            exact ⟨ret_ie HX.out, HB1.out⟩
          · have HS := Lib.hid t1
            have hm2 : 10 * m + d ≤ 9223372036854775807 := by omega
            clear t1 t2 hq hd hget
            go_wp2
            go_roundw
            case rel => exact ⟨j + 1, 10 * m + d, by go_num, by go_num, by omega, hm2, HS, trivial⟩
            case measure => simp [intOf]; omega
        · have hjl : j = tx.size := by omega
          have HV : Hid ((if (m : Int) < least ∨ most < (m : Int) then ((0 : Int), 2) else ((m : Int), 0)) = (n, c)) := Lib.hid (by
            have h1 := HM.out
            have h2 := HN.out
            rw [hjl, ← HE2.out, List.take_length] at h1
            rw [h1, if_neg (by omega)] at h2
            exact h2)
          clear hjl
          by_cases hl : (m : Int) < least
          · have HX : Hid (((0 : Int), 2) = (n, c)) := Lib.hid (by rw [← HV.out, if_pos (.inl hl)])
            go_wp2
            go_ret2
            exact ⟨ret_ie HX.out, HB1.out⟩
          · by_cases hmo : most < (m : Int)
            · have HX : Hid (((0 : Int), 2) = (n, c)) := Lib.hid (by rw [← HV.out, if_pos (.inr hmo)])
              go_wp2
              go_ret2
              exact ⟨ret_ie HX.out, HB1.out⟩
            · have HX : Hid (((m : Int), 0) = (n, c)) := Lib.hid (by rw [← HV.out, if_neg (by omega)])
              go_wp2
              go_ret2
              exact ⟨ret_ie HX.out, HB1.out⟩
    · have t1 : (kd != 2) = true := by rw [bne_iff_ne]; exact hk
      have HX : Hid (((0 : Int), 11) = (n, c)) := Lib.hid (by rw [← H.out]; unfold numR; rw [hc1, if_neg (show ¬ (0 : Nat) ≠ 0 by omega), if_pos hk])
      clear hk hf k1 k3 hc1
      go_enter Tryd.func8, Tryd.ntmps8
      go_wp2_with (go_at_call 10; (with_reducible refine (rcheck_any kd at' tx _ hs9 0 HC).mono ?_); rintro e w1 ⟨rfl, B1⟩; obtain ⟨x0, x1, x2⟩ := (HW.out.below B1).cell3; have HB1 := Lib.hid (below_then HB.out B1); clear B1)
      go_ret2
      exact ⟨ret_ie HX.out, HB1.out⟩
  · have t1 : ((c1 : Int) != 0) = true := by rw [bne_iff_ne]; omega
    have HX : Hid (((0 : Int), c1) = (n, c)) := Lib.hid (by rw [← H.out]; unfold numR; rw [hc1, if_pos hz])
    clear hz hc1
    go_enter Tryd.func8, Tryd.ntmps8
    go_wp2_with (go_at_call 10; (with_reducible refine (rcheck_any kd at' tx _ hs9 c1 HC).mono ?_); rintro e w1 ⟨rfl, B1⟩; obtain ⟨x0, x1, x2⟩ := (HW.out.below B1).cell3; have HB1 := Lib.hid (below_then HB.out B1); clear B1)
    go_ret2
    exact ⟨ret_ie HX.out, HB1.out⟩
end Go.Proofs.YtjhmlmimgahnmaaDoor.s04
