/-
  Layer 4: Number, over the library's Atoi; the reference's Check, Number, Is.
-/
import Derived.Test.YtjhmlmimgahnmaaDoorS04D
import Derived.Test.YtjhmlmimgahnmaaDoorS04V
import Derived.Test.YtjhmlmimgahnmaaDoorLayA
import Derived.Lib.AtoiErrMem
namespace Go.Proofs.YtjhmlmimgahnmaaDoor.s04
set_option linter.unusedVariables false
set_option linter.unusedSimpArgs false
open Go.RowKit
open kit

/-- what the walk is told of the library's variable ErrRange: it holds an error -/
def Tab (w : World) : Prop := ∃ a, w.cell? ⟨1, 0, none⟩ = some (.iface 100 (.pointer (some a)))
theorem Tab.below {w w1 : World} (h : Tab w) (hB : Below w.heap.size w w1) : Tab w1 := by
  obtain ⟨a, ha⟩ := h
  exact ⟨a, (hB.cell (p := ⟨_, 0, none⟩) (cell_lt ha)).trans ha⟩
theorem Tab.alloc {w : World} (h : Tab w) (o : Obj) : Tab (w.alloc o) := h.below ((Below.refl _ _).alloc (Nat.le_refl _) o)
theorem atoi_ok (tx : ByteArray) (v : Int) (w : World) (hs : tx.size ≤ 100000) (h : Lib.atoiAll tx.data.toList = .ok v) : Calls Tryd.prog 22 #[.string tx] w fun e w' => e = .returned (.tuple #[.int .i64 v, .nilIface]) ∧ Below w.heap.size w w' :=
  (Any.strconv_Atoi_ok lay.layC172 tx (by omega) v h w).mono fun e w' ⟨he, hw⟩ => ⟨he, by
    rcases hw with rfl | ⟨t, rfl⟩
    · exact Below.refl _ _
    · exact Lib.bytesWorld_below _ _ _⟩
theorem atoi_range (tx : ByteArray) (w : World) (hs : tx.size ≤ 100000) (h : Lib.atoiAll tx.data.toList = .range) (ht : Tab w) : Calls Tryd.prog 22 #[.string tx] w fun e w' => ∃ v t p, e = .returned (.tuple #[.int .i64 v, .iface t (.pointer (some p))]) ∧ Below w.heap.size w w' := by
  obtain ⟨a, ha⟩ := ht
  exact (Any.strconv_Atoi_range lay.layC172 tx (by omega) h _ w ha (.inr ⟨_, _, rfl⟩)).mono fun e w' ⟨N, he, _, _, hB⟩ => ⟨_, _, _, he, hB⟩
theorem ret_ie {a b : Int} {c d : Nat} (h : (a, c) = (b, d)) : Ending.returned (.tuple #[.int .i64 a, .int .i64 (c : Int)]) = .returned (.tuple #[.int .i64 b, .int .i64 (d : Int)]) := by
  cases h; rfl
set_option maxRecDepth 100000 in
set_option maxHeartbeats 2000000 in
theorem number_any (kd at' least most : Int) (tx : ByteArray) (w : World) (hs : tx.size ≤ 100000) (ht : Tab w) (n : Int) (c : Nat) (H : Hid (numR kd tx at' least most = (n, c))) :
    Calls Tryd.prog 7 #[.agg #[.int .i64 kd, .string tx, .int .i64 at'], .int .i64 least, .int .i64 most] w fun e w' => e = .returned (.tuple #[.int .i64 n, .int .i64 (c : Int)]) ∧ Below w.heap.size w w' := by
  have HB := Lib.hid ((Below.refl w.heap.size w).alloc (Nat.le_refl _) (.cells #[.int .i64 kd, .string tx, .int .i64 at'] 23))
  have HW := Lib.hid (Box.new w 23 #[.int .i64 kd, .string tx, .int .i64 at'])
  have HT := Lib.hid (ht.alloc (.cells #[.int .i64 kd, .string tx, .int .i64 at'] 23))
  have hs9 : tx.size ≤ 9223372036854775806 := by omega
  obtain ⟨c1, hc1⟩ : ∃ c1, checkR kd tx at' = c1 := ⟨_, rfl⟩
  have HC := Lib.hid hc1
  by_cases hz : c1 = 0
  · subst hz
    obtain ⟨k1, k3, hf⟩ := check_form hc1
    by_cases hk : kd = 2
    · subst hk
      obtain ⟨d1, d2⟩ := digits_in hf
      obtain ⟨p1, p2⟩ := atoi_digits _ d1 d2
      have HN : Hid ((if 9223372036854775808 ≤ dvals tx.data.toList 0 then ((0 : Int), 2) else if (dvals tx.data.toList 0 : Int) < least ∨ most < (dvals tx.data.toList 0 : Int) then (0, 2) else ((dvals tx.data.toList 0 : Int), 0)) = (n, c)) := Lib.hid (by
        rw [← H.out]; unfold numR; rw [hc1, if_neg (show ¬ (0 : Nat) ≠ 0 by omega), if_neg (show ¬ (2 : Int) ≠ 2 by omega)])
      clear d1 d2 hf hc1 k1 k3
      generalize dvals tx.data.toList 0 = v at p1 p2 HN
      by_cases hv : 9223372036854775808 ≤ v
      · have HX : Hid (((0 : Int), 2) = (n, c)) := Lib.hid (by rw [← HN.out, if_pos hv])
        have HA := Lib.hid (p2 hv)
        clear p1 p2
        go_enter Tryd.func7, Tryd.ntmps7
        go_wp2_with (first
          | (go_at_call 9; (with_reducible refine (check_any 2 at' tx _ hs9 0 HC).mono ?_); rintro e w1 ⟨rfl, B1⟩; obtain ⟨x0, x1, x2⟩ := (HW.out.below B1).cell3; have HB1 := Lib.hid (below_then HB.out B1); have HT1 := Lib.hid (HT.out.below B1); clear B1)
          | (go_at_call 22; (with_reducible refine (atoi_range tx _ hs HA.out HT1.out).mono ?_); rintro e w2 ⟨v2, t2, pp, rfl, B2⟩; have HB2 := Lib.hid (below_then HB1.out B2); clear B2))
        go_ret2
        exact ⟨ret_ie HX.out, HB2.out⟩
      · have HA := Lib.hid (p1 (by omega))
        have HN2 : Hid ((if (v : Int) < least ∨ most < (v : Int) then ((0 : Int), 2) else ((v : Int), 0)) = (n, c)) := Lib.hid (by rw [← HN.out, if_neg hv])
        clear p1 p2 HN
        by_cases hl : (v : Int) < least
        · have HX : Hid (((0 : Int), 2) = (n, c)) := Lib.hid (by rw [← HN2.out, if_pos (.inl hl)])
          go_enter Tryd.func7, Tryd.ntmps7
          go_wp2_with (first
          | (go_at_call 9; (with_reducible refine (check_any 2 at' tx _ hs9 0 HC).mono ?_); rintro e w1 ⟨rfl, B1⟩; obtain ⟨x0, x1, x2⟩ := (HW.out.below B1).cell3; have HB1 := Lib.hid (below_then HB.out B1); clear B1)
          | (go_at_call 22; (with_reducible refine (atoi_ok tx _ _ hs HA.out).mono ?_); rintro e w2 ⟨rfl, B2⟩; have HB2 := Lib.hid (below_then HB1.out B2); clear B2))
          go_ret2
          exact ⟨ret_ie HX.out, HB2.out⟩
        · by_cases hm : most < (v : Int)
          · have HX : Hid (((0 : Int), 2) = (n, c)) := Lib.hid (by rw [← HN2.out, if_pos (.inr hm)])
            go_enter Tryd.func7, Tryd.ntmps7
            go_wp2_with (first
            | (go_at_call 9; (with_reducible refine (check_any 2 at' tx _ hs9 0 HC).mono ?_); rintro e w1 ⟨rfl, B1⟩; obtain ⟨x0, x1, x2⟩ := (HW.out.below B1).cell3; have HB1 := Lib.hid (below_then HB.out B1); clear B1)
            | (go_at_call 22; (with_reducible refine (atoi_ok tx _ _ hs HA.out).mono ?_); rintro e w2 ⟨rfl, B2⟩; have HB2 := Lib.hid (below_then HB1.out B2); clear B2))
            go_ret2
            exact ⟨ret_ie HX.out, HB2.out⟩
          · have HX : Hid (((v : Int), 0) = (n, c)) := Lib.hid (by rw [← HN2.out, if_neg (by omega)])
            go_enter Tryd.func7, Tryd.ntmps7
            go_wp2_with (first
            | (go_at_call 9; (with_reducible refine (check_any 2 at' tx _ hs9 0 HC).mono ?_); rintro e w1 ⟨rfl, B1⟩; obtain ⟨x0, x1, x2⟩ := (HW.out.below B1).cell3; have HB1 := Lib.hid (below_then HB.out B1); clear B1)
            | (go_at_call 22; (with_reducible refine (atoi_ok tx _ _ hs HA.out).mono ?_); rintro e w2 ⟨rfl, B2⟩; have HB2 := Lib.hid (below_then HB1.out B2); clear B2))
            go_ret2
            exact ⟨ret_ie HX.out, HB2.out⟩
    · have t1 : (kd != 2) = true := by rw [bne_iff_ne]; exact hk
      have HX : Hid (((0 : Int), 11) = (n, c)) := Lib.hid (by rw [← H.out]; unfold numR; rw [hc1, if_neg (show ¬ (0 : Nat) ≠ 0 by omega), if_pos hk])
      clear hk hf k1 k3 hc1
      go_enter Tryd.func7, Tryd.ntmps7
      go_wp2_with (go_at_call 9; (with_reducible refine (check_any kd at' tx _ hs9 0 HC).mono ?_); rintro e w1 ⟨rfl, B1⟩; obtain ⟨x0, x1, x2⟩ := (HW.out.below B1).cell3; have HB1 := Lib.hid (below_then HB.out B1); clear B1)
      go_ret2
      exact ⟨ret_ie HX.out, HB1.out⟩
  · have t1 : ((c1 : Int) != 0) = true := by rw [bne_iff_ne]; omega
    have HX : Hid (((0 : Int), c1) = (n, c)) := Lib.hid (by rw [← H.out]; unfold numR; rw [hc1, if_pos hz])
    clear hz hc1
    go_enter Tryd.func7, Tryd.ntmps7
    go_wp2_with (go_at_call 9; (with_reducible refine (check_any kd at' tx _ hs9 c1 HC).mono ?_); rintro e w1 ⟨rfl, B1⟩; obtain ⟨x0, x1, x2⟩ := (HW.out.below B1).cell3; have HB1 := Lib.hid (below_then HB.out B1); clear B1)
    go_ret2
    exact ⟨ret_ie HX.out, HB1.out⟩
end Go.Proofs.YtjhmlmimgahnmaaDoor.s04
