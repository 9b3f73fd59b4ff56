/-
  Layer 7: the reference's Read, where the frame is whole.
-/
import Derived.Test.YtniimoebgajefaaS07DA
import Derived.BigRegion
namespace Go.Proofs.Ytniimoebgajefaa.s07
set_option linter.unusedVariables false
set_option linter.unusedSimpArgs false
open Go.RowKit
open kit

set_option maxRecDepth 100000 in
set_option maxHeartbeats 2000000 in
theorem rread_ok (s : ByteArray) (t a : Int) (w : World) (hs : s.size ≤ 9223372036854775806) (h1 : 1 ≤ t) (h2 : t ≤ 8) (ha1 : ¬ a < 0) (ha2 : ¬ 1099511627776 < a) (HK : Hid (badR s t = 0)) (HW : Hid (wholeR s = true)) (g1 : 2 ≤ s.size) (g0 : 0 < s.size) (g3 : 1 < s.size) (g2 : 2 + s[1].toNat ≤ s.size) :
    Calls Try.prog 26 #[.string s, .int .i64 t, .int .i64 a] w fun e w' => e = .returned (ReadV (s[0].toNat : Int) (s.extract 2 (2 + s[1].toNat)) a (2 + (s[1].toNat : Int)) 0 0) ∧ Below w.heap.size w w' := by
  have hb1 := s[1].toNat_lt
  have hb0 := s[0].toNat_lt
  go_enter Try.func26, Try.ntmps26
  go_wp2_with (first
    | (go_at_call 42; refine (terminals_yes t _ h1 h2).mono ?_; rintro e w1 ⟨rfl, rfl⟩)
    | (go_at_call 43; refine (bad_any s t _ hs).mono ?_; rintro e w1 ⟨rfl, rfl⟩; rw [HK.out])
    | (go_at_call 44; refine (whole_any s _ hs true HW).mono ?_; rintro e w1 ⟨rfl, rfl⟩))
  have N0 := two_new w #[.int .i64 0, .string ⟨#[]⟩, .int .i64 0] #[.int .i64 0, .int .i64 0]
  generalize ((w.alloc (.cells #[.int .i64 0, .string ⟨#[]⟩, .int .i64 0] 23)).alloc (.cells #[.int .i64 0, .int .i64 0] 41)) = w5 at N0 ⊢
  obtain ⟨X5, Y5, B5⟩ := N0
  obtain ⟨c0, c1, c2⟩ := X5.cell3
  obtain ⟨f0, f1, f2⟩ := X5.free3
  obtain ⟨d0, d1⟩ := Y5.cell2
  obtain ⟨e0, e1⟩ := Y5.free2
  have HX := Lib.hid X5
  have HY := Lib.hid Y5
  have HB := Lib.hid B5
  clear X5 Y5 B5
  go_region
  go_wp2
  exact bodyPost_ret (rread_results _ _ w.heap.size (w.heap.size + 1) rfl rfl rfl ((HX.out.put3 _ _ _).far2 (by omega) _ _).drew ((HY.out.far3 (by omega) _ _ _).put2 _ _).drew) rfl ⟨rfl, (below_put2 (below_put3 HB.out (Nat.le_refl _) _ _ _) (by omega) _ _).drew⟩
end Go.Proofs.Ytniimoebgajefaa.s07
