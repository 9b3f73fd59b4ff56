/-
  Layer 7: tokens that are made of numbers.
-/
import Derived.Test.YtniimoebgajefaaS07A
import Derived.Test.YtniimoebgajefaaS07DA
import Derived.Test.YtniimoebgajefaaWalksB
import Derived.Test.YtniimoebgajefaaKitMod
import Derived.Test.YtniimoebgajefaaKitLater
namespace Go.Proofs.Ytniimoebgajefaa.s07
set_option linter.unusedVariables false
set_option linter.unusedSimpArgs false
open Go.RowKit
open kit

/-- bytes made of a number -/
def fillL : Nat → Int → List Int
  | 0, _ => []
  | n + 1, k => (k * 75 + 74) % 65537 % 256 :: fillL n ((k * 75 + 74) % 65537)
theorem fillL_len : ∀ (n : Nat) (k : Int), (fillL n k).length = n := by
  intro n
  induction n with
  | zero => intro k; rfl
  | succ n ih => intro k; simp [fillL, ih]
def fillR (k : Int) (n : Nat) : ByteArray := strOfNums (fillL n k)
theorem fillR_size (k : Int) (n : Nat) : (fillR k n).size = n := by unfold fillR; rw [strOfNums_size, fillL_len]
set_option maxRecDepth 100000 in
set_option maxHeartbeats 1000000 in
theorem fill_any (k : Int) (n : Nat) (k1 : 0 ≤ k) (k2 : k ≤ 1073741824) (hn : n ≤ 1000) (w : World) :
    Calls Try.prog 45 #[.int .i64 k, .int .i64 n] w fun e w' => e = .returned (.string (fillR k n)) ∧ Below w.heap.size w w' := by
  have cv := conv1
  go_enter Try.func45, Try.ntmps45
  go_wp2
  go_loopw [0, 5, 6] (fun q o i wr => ∃ (x : Int) (j : Nat) (p : List Int), q = .int .i64 x ∧ 0 ≤ x ∧ x ≤ 1073741824 ∧ i = .int .i64 j ∧ j ≤ n ∧ o = .string (strOfNums p) ∧ p.length = j ∧ Hid (p ++ fillL (n - j) x = fillL n k) ∧ Hid (Below w.heap.size w wr)) (fun _ _ i _ => n - (intOf i).toNat)
  case atStart => exact ⟨k, 0, [], rfl, k1, k2, rfl, by omega, rfl, rfl, Lib.hid (by simp), Lib.hid (Below.refl _ _)⟩
  case round =>
    obtain ⟨x, j, p, rfl, x1, x2, rfl, hj, rfl, hp, HP, HB⟩ := hrel
    have HL := Lib.hid hp
    clear hp
    by_cases hlt : j < n
    · obtain ⟨x', hx'⟩ : ∃ x', (x * 75 + 74) % 65537 = x' := ⟨_, rfl⟩
      have y1 : 0 ≤ x' := by omega
      have y2 : x' ≤ 65536 := by omega
      have HX := Lib.hid hx'
      have hs : (strOfNums p).size + (strOfNums [x' % 256]).size ≤ 9223372036854775807 := by rw [strOfNums_size, strOfNums_size, HL.out]; simp; omega
      have hm1 : -9223372036854775808 ≤ x * 75 + 74 := by omega
      have hm2 : x * 75 + 74 ≤ 9223372036854775807 := by omega
      have hBs := HB.out.size
      have HP2 : Hid ((p ++ [x' % 256]) ++ fillL (n - (j + 1)) x' = fillL n k) := Lib.hid (by
        rw [← HP.out, show n - j = (n - (j + 1)) + 1 by omega]
        simp [fillL, HX.out])
      clear hx'
      go_wp2_with (go_at_call 33; refine (mod_any (x * 75 + 74) 65537 hm1 hm2 (by omega) (by omega) _).mono ?_; rintro e w1 ⟨rfl, rfl⟩; rw [HX.out])
      go_roundw
      case rel => exact ⟨x', j + 1, p ++ [x' % 256], rfl, y1, by omega, by go_num, by omega, by rw [strOfNums_app], by simp [HL.out], HP2, Lib.hid (HB.out.alloc hBs _)⟩
      case measure => simp [intOf]; omega
    · have hjn : n - j = 0 := by omega
      have HF : Hid (strOfNums p = fillR k n) := Lib.hid (by
        have h := HP.out
        rw [hjn] at h
        unfold fillR
        rw [← h]; simp [fillL])
      clear hjn
      go_wp2
      go_ret
      exact ⟨ret_str HF.out, HB.out⟩
/-- a token made of numbers -/
def madeR (k t : Int) : Li := (k % 1073741824 % (t + 1), fillR (k % 1073741824) ((k % 1073741824) / 9 % 25).toNat, k % 1073741824)
theorem madeR_ok (k t : Int) (h1 : 1 ≤ t) (h2 : t ≤ 8) : chkR (madeR k t).1 (madeR k t).2.1.size (madeR k t).2.2 t = 0 := by
  have a1 := Int.emod_nonneg k (show (1073741824 : Int) ≠ 0 by decide)
  have a2 := Int.emod_lt_of_pos k (show (0 : Int) < 1073741824 by decide)
  have b1 := Int.emod_nonneg (k % 1073741824) (show t + 1 ≠ 0 by omega)
  have b2 := Int.emod_lt_of_pos (k % 1073741824) (show 0 < t + 1 by omega)
  have c : (madeR k t).2.1.size ≤ 24 := by
    show (fillR _ _).size ≤ 24
    rw [fillR_size]
    omega
  unfold chkR
  have d1 : (madeR k t).1 = k % 1073741824 % (t + 1) := rfl
  have d2 : (madeR k t).2.2 = k % 1073741824 := rfl
  rw [if_neg (by omega), if_neg (by omega), if_neg (by omega), if_neg (by omega)]
set_option maxRecDepth 100000 in
set_option maxHeartbeats 2000000 in
theorem made_any (k t : Int) (k1 : -9223372036854775808 ≤ k) (k2 : k ≤ 9223372036854775807) (h1 : 1 ≤ t) (h2 : t ≤ 8) (w : World) (y : Int) (x : ByteArray) (p : Int) (H : Hid (madeR k t = (y, x, p))) :
    Calls Try.prog 34 #[.int .i64 k, .int .i64 t] w fun e w' => e = .returned (.agg #[.int .i64 y, .string x, .int .i64 p]) ∧ Below w.heap.size w w' := by
  have hm := H.out
  unfold madeR at hm
  simp only [Prod.mk.injEq] at hm
  obtain ⟨e1, e2, e3⟩ := hm
  have a1 := Int.emod_nonneg k (show (1073741824 : Int) ≠ 0 by decide)
  have a2 := Int.emod_lt_of_pos k (show (0 : Int) < 1073741824 by decide)
  rw [e3] at e1 e2 a1 a2
  have HP := Lib.hid e3
  have HX : Hid (fillR p (p / 9 % 25).toNat = x) := Lib.hid e2
  have HY : Hid (p % (t + 1) = y) := Lib.hid e1
  have hq : ((p / 9 % 25).toNat : Int) = p / 9 % 25 := Int.toNat_of_nonneg (by omega)
  have hq24 : (p / 9 % 25).toNat ≤ 1000 := by omega
  have HQ : Hid (p / 9 % 25 = ((p / 9 % 25).toNat : Int)) := Lib.hid hq.symm
  have X0 := Lib.hid (Box.new w 23 #[.int .i64 0, .string ⟨#[]⟩, .int .i64 0])
  have B0 := Lib.hid ((Below.refl w.heap.size w).alloc (Nat.le_refl _) (.cells #[.int .i64 0, .string ⟨#[]⟩, .int .i64 0] 23))
  generalize hn : (p / 9 % 25).toNat = n at HX HQ hq24
  have a3 : p ≤ 1073741824 := by omega
  clear e1 e2 e3 hq hn
  go_enter Try.func34, Try.ntmps34
  go_wp2_with (go_at_call 33; refine (mod_any k 1073741824 k1 k2 (by omega) (by omega) _).mono ?_; rintro e w1 ⟨rfl, rfl⟩; rw [HP.out])
  have ht1 : t + 1 ≠ 0 := by omega
  have ht2 : (t + 1 == 0) = false := by rw [beq_eq_false_iff_ne]; exact ht1
  refine wp_region_later_tail 11 (by kernel_rfl) (by kernel_rfl) ?_
  simp only [List.take_succ_cons, List.take_zero, List.drop_succ_cons, List.drop_zero]
  repeat (go_big_quiet_step ((go_at_call 45; rw [HQ.out]; exact calls_later (fill_any p n a1 a3 hq24 _))))
  refine wpQuiet_nil ?_
  intro p5
  have X5 := Lib.hid (X0.out.below p5.h)
  have B5 := Lib.hid (below_on B0.out (Nat.le_refl _) p5.h)
  generalize p5.W = w5 at X5 B5 ⊢
  obtain ⟨c0, c1, c2⟩ := X5.out.cell3
  obtain ⟨f0, f1, f2⟩ := X5.out.free3
  rw [HX.out, HY.out]
  go_wp2
  obtain ⟨d0, d1, d2⟩ := (X5.out.put3 (.int .i64 y) (.string x) (.int .i64 p)).cell3
  exact bodyPost_ret (v := .agg #[.int .i64 y, .string x, .int .i64 p]) (by simp [results, Try.results34, go_sem, d0, d1, d2]) rfl ⟨rfl, below_put3 B5.out (Nat.le_refl _) _ _ _⟩
end Go.Proofs.Ytniimoebgajefaa.s07
