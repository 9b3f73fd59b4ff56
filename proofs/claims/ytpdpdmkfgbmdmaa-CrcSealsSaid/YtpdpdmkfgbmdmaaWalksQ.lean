/-
  The contract of CrcSeals.
-/
import Derived.Test.YtpdpdmkfgbmdmaaWalksP
namespace Go.Proofs.Ytpdpdmkfgbmdmaa
set_option linter.unusedSimpArgs false
set_option linter.unusedVariables false
open Go.RowKit
open crcs (W)

set_option maxRecDepth 100000 in
set_option maxHeartbeats 2000000 in
theorem seals_small (s t : ByteArray) (a : Option Addr) (cap : Nat) (zs : List Int) (w : World) (h1 : s.size ≤ 200) (h2 : t.size ≤ 200) (hn : zs.length ≤ 20) (hz : ∀ z ∈ zs, -9223372036854775808 ≤ z ∧ z ≤ 9223372036854775807) (hr : ReadsI w a zs) (hs : Src w a cap (zs.map (Value.int .i64))) :
    Calls Try.prog 4 #[.string s, .string t, .slice a zs.length cap] w fun e w' => e = .returned (.bool true) ∧ Below w.heap.size w w' := by
  have HS := Lib.hid hs
  have HR := Lib.hid hr
  have HZ := Lib.hid hz
  obtain ⟨x1, e1, H1⟩ : ∃ x e, Hid (sealR s = (x, e)) := ⟨_, _, Lib.hid rfl⟩
  obtain ⟨x2, e2, H2⟩ : ∃ x e, Hid (openR s = (x, e)) := ⟨_, _, Lib.hid rfl⟩
  obtain ⟨x3, e3, H3⟩ : ∃ x e, Hid (flipR s zs = (x, e)) := ⟨_, _, Lib.hid rfl⟩
  obtain ⟨L, e4, H4⟩ : ∃ x e, Hid (bitsR s t = (x, e)) := ⟨_, _, Lib.hid rfl⟩
  have hL : L.length ≤ 10000 := by
    have := H4.out
    unfold bitsR at this
    split at this
    · cases this
      have := diffs_len s t (8 * s.size)
      omega
    · cases this; simp
  clear hs hr hz
  go_enter Try.func4, Try.ntmps4
  go_wp2_with (first
    | (go_at_call 23; (with_reducible refine (Seal_any s x1 e1 _ (by omega) H1).mono ?_); rintro e w1 ⟨rfl, hB1⟩; have K1 := hB1)
    | (go_at_call 24; (with_reducible refine (Sealr_any s x1 e1 _ (by omega) H1).mono ?_); rintro e w2 ⟨rfl, hB2⟩; have K2 := below_then K1 hB2)
    | (go_at_call 25; (with_reducible refine (open_any s x2 e2 _ (by omega) H2).mono ?_); rintro e w3 ⟨rfl, hB3⟩; have K3 := below_then K2 hB3)
    | (go_at_call 26; (with_reducible refine (openr_any s x2 e2 _ (by omega) H2).mono ?_); rintro e w4 ⟨rfl, hB4⟩; have K4 := below_then K3 hB4)
    | (go_at_call 27; (with_reducible refine (own_ints a cap zs _ (by omega) (HS.out.below K4)).mono ?_); rintro e w5 ⟨ah, ch, rfl, hh, hB5⟩; have K5 := below_then K4 hB5)
    | (go_at_call 28; (with_reducible refine (flip_any s ah ch zs x3 e3 _ (by omega) (by omega) HZ.out hh H3).mono ?_); rintro e w6 ⟨rfl, hB6⟩; have K6 := below_then K5 hB6; have hh6 := hh.below hB6)
    | (go_at_call 29; (with_reducible refine (flipr_any s a cap zs x3 e3 _ (by omega) (by omega) HZ.out (HR.out.below K6) H3).mono ?_); rintro e w7 ⟨rfl, hB7⟩; have K7 := below_then K6 hB7; have hh7 := hh6.below hB7)
    | (go_at_call 30; (with_reducible refine (same_ints ah a ch cap zs _ (by omega) hh7 (HR.out.below K7)).mono ?_); rintro e w8 ⟨rfl, n8, rfl⟩; have K8 := below_drewN K7 n8)
    | (go_at_call 31; (with_reducible refine (bits_any s t L e4 _ (by omega) H4).mono ?_); rintro e w9 ⟨b1, c1, rfl, hb1, hB9⟩; have K9 := below_then K8 hB9)
    | (go_at_call 32; (with_reducible refine (bitsr_any s t L e4 _ (by omega) H4).mono ?_); rintro e w10 ⟨b2, c2, rfl, hb2, hB10⟩; have K10 := below_then K9 hB10; have hb3 := hb1.below hB10)
    | (go_at_call 30; (with_reducible refine (same_ints b1 b2 c1 c2 L _ (by omega) hb3 hb2).mono ?_); rintro e w11 ⟨rfl, n11, rfl⟩; have K11 := below_drewN K10 n11)
    | (go_at_call 10; (with_reducible refine (awake_any _).mono ?_); rintro e w12 ⟨rfl, hB12⟩; have K12 := below_then K11 hB12))
  go_ret
  exact ⟨rfl, K12⟩
set_option maxRecDepth 100000 in
set_option maxHeartbeats 2000000 in
theorem seals_a (s t : ByteArray) (a : Option Addr) (cap : Nat) (zs : List Int) (w : World) (h1 : 20000 < s.size) (h1' : s.size ≤ 20010) (h2 : t.size ≤ 200) (hn : zs.length ≤ 20) (hz : ∀ z ∈ zs, -9223372036854775808 ≤ z ∧ z ≤ 9223372036854775807) (hr : ReadsI w a zs) (hs : Src w a cap (zs.map (Value.int .i64))) :
    Calls Try.prog 4 #[.string s, .string t, .slice a zs.length cap] w fun e w' => e = .returned (.bool true) ∧ Below w.heap.size w w' := by
  have HS := Lib.hid hs
  have HR := Lib.hid hr
  have HZ := Lib.hid hz
  obtain ⟨x1, e1, H1⟩ : ∃ x e, Hid (sealR s = (x, e)) := ⟨_, _, Lib.hid rfl⟩
  obtain ⟨x2, e2, H2⟩ : ∃ x e, Hid (openR s = (x, e)) := ⟨_, _, Lib.hid rfl⟩
  obtain ⟨x3, e3, H3⟩ : ∃ x e, Hid (flipR s zs = (x, e)) := ⟨_, _, Lib.hid rfl⟩
  clear hs hr hz
  go_enter Try.func4, Try.ntmps4
  go_wp2_with (first
    | (go_at_call 23; (with_reducible refine (Seal_any s x1 e1 _ (by omega) H1).mono ?_); rintro e w1 ⟨rfl, hB1⟩; have K1 := hB1)
    | (go_at_call 24; (with_reducible refine (Sealr_any s x1 e1 _ (by omega) H1).mono ?_); rintro e w2 ⟨rfl, hB2⟩; have K2 := below_then K1 hB2)
    | (go_at_call 25; (with_reducible refine (open_any s x2 e2 _ (by omega) H2).mono ?_); rintro e w3 ⟨rfl, hB3⟩; have K3 := below_then K2 hB3)
    | (go_at_call 26; (with_reducible refine (openr_any s x2 e2 _ (by omega) H2).mono ?_); rintro e w4 ⟨rfl, hB4⟩; have K4 := below_then K3 hB4)
    | (go_at_call 27; (with_reducible refine (own_ints a cap zs _ (by omega) (HS.out.below K4)).mono ?_); rintro e w5 ⟨ah, ch, rfl, hh, hB5⟩; have K5 := below_then K4 hB5)
    | (go_at_call 28; (with_reducible refine (flip_any s ah ch zs x3 e3 _ (by omega) (by omega) HZ.out hh H3).mono ?_); rintro e w6 ⟨rfl, hB6⟩; have K6 := below_then K5 hB6; have hh6 := hh.below hB6)
    | (go_at_call 29; (with_reducible refine (flipr_any s a cap zs x3 e3 _ (by omega) (by omega) HZ.out (HR.out.below K6) H3).mono ?_); rintro e w7 ⟨rfl, hB7⟩; have K7 := below_then K6 hB7; have hh7 := hh6.below hB7)
    | (go_at_call 30; (with_reducible refine (same_ints ah a ch cap zs _ (by omega) hh7 (HR.out.below K7)).mono ?_); rintro e w8 ⟨rfl, n8, rfl⟩; have K8 := below_drewN K7 n8)
    | (go_at_call 10; (with_reducible refine (awake_any _).mono ?_); rintro e w12 ⟨rfl, hB12⟩; have K12 := below_then K8 hB12))
  go_ret
  exact ⟨rfl, K12⟩
set_option maxRecDepth 100000 in
set_option maxHeartbeats 2000000 in
theorem seals_b (s t : ByteArray) (a : Option Addr) (cap : Nat) (zs : List Int) (w : World) (h1 : s.size ≤ 200) (h2 : 20000 < t.size) (h2' : t.size ≤ 20010) (hn : zs.length ≤ 20) (hz : ∀ z ∈ zs, -9223372036854775808 ≤ z ∧ z ≤ 9223372036854775807) (hr : ReadsI w a zs) (hs : Src w a cap (zs.map (Value.int .i64))) :
    Calls Try.prog 4 #[.string s, .string t, .slice a zs.length cap] w fun e w' => e = .returned (.bool true) ∧ Below w.heap.size w w' := by
  have HS := Lib.hid hs
  have HR := Lib.hid hr
  have HZ := Lib.hid hz
  obtain ⟨x1, e1, H1⟩ : ∃ x e, Hid (sealR s = (x, e)) := ⟨_, _, Lib.hid rfl⟩
  obtain ⟨x2, e2, H2⟩ : ∃ x e, Hid (openR s = (x, e)) := ⟨_, _, Lib.hid rfl⟩
  obtain ⟨x3, e3, H3⟩ : ∃ x e, Hid (flipR s zs = (x, e)) := ⟨_, _, Lib.hid rfl⟩
  clear hs hr hz
  go_enter Try.func4, Try.ntmps4
  go_wp2_with (first
    | (go_at_call 23; (with_reducible refine (Seal_any s x1 e1 _ (by omega) H1).mono ?_); rintro e w1 ⟨rfl, hB1⟩; have K1 := hB1)
    | (go_at_call 24; (with_reducible refine (Sealr_any s x1 e1 _ (by omega) H1).mono ?_); rintro e w2 ⟨rfl, hB2⟩; have K2 := below_then K1 hB2)
    | (go_at_call 25; (with_reducible refine (open_any s x2 e2 _ (by omega) H2).mono ?_); rintro e w3 ⟨rfl, hB3⟩; have K3 := below_then K2 hB3)
    | (go_at_call 26; (with_reducible refine (openr_any s x2 e2 _ (by omega) H2).mono ?_); rintro e w4 ⟨rfl, hB4⟩; have K4 := below_then K3 hB4)
    | (go_at_call 27; (with_reducible refine (own_ints a cap zs _ (by omega) (HS.out.below K4)).mono ?_); rintro e w5 ⟨ah, ch, rfl, hh, hB5⟩; have K5 := below_then K4 hB5)
    | (go_at_call 28; (with_reducible refine (flip_any s ah ch zs x3 e3 _ (by omega) (by omega) HZ.out hh H3).mono ?_); rintro e w6 ⟨rfl, hB6⟩; have K6 := below_then K5 hB6; have hh6 := hh.below hB6)
    | (go_at_call 29; (with_reducible refine (flipr_any s a cap zs x3 e3 _ (by omega) (by omega) HZ.out (HR.out.below K6) H3).mono ?_); rintro e w7 ⟨rfl, hB7⟩; have K7 := below_then K6 hB7; have hh7 := hh6.below hB7)
    | (go_at_call 30; (with_reducible refine (same_ints ah a ch cap zs _ (by omega) hh7 (HR.out.below K7)).mono ?_); rintro e w8 ⟨rfl, n8, rfl⟩; have K8 := below_drewN K7 n8)
    | (go_at_call 10; (with_reducible refine (awake_any _).mono ?_); rintro e w12 ⟨rfl, hB12⟩; have K12 := below_then K8 hB12))
  go_ret
  exact ⟨rfl, K12⟩
set_option maxRecDepth 100000 in
set_option maxHeartbeats 2000000 in
theorem seals_c (s t : ByteArray) (a : Option Addr) (cap : Nat) (zs : List Int) (w : World) (h1 : 20000 < s.size) (h1' : s.size ≤ 20010) (h2 : 20000 < t.size) (h2' : t.size ≤ 20010) (hn : zs.length ≤ 20) (hz : ∀ z ∈ zs, -9223372036854775808 ≤ z ∧ z ≤ 9223372036854775807) (hr : ReadsI w a zs) (hs : Src w a cap (zs.map (Value.int .i64))) :
    Calls Try.prog 4 #[.string s, .string t, .slice a zs.length cap] w fun e w' => e = .returned (.bool true) ∧ Below w.heap.size w w' := by
  have HS := Lib.hid hs
  have HR := Lib.hid hr
  have HZ := Lib.hid hz
  obtain ⟨x1, e1, H1⟩ : ∃ x e, Hid (sealR s = (x, e)) := ⟨_, _, Lib.hid rfl⟩
  obtain ⟨x2, e2, H2⟩ : ∃ x e, Hid (openR s = (x, e)) := ⟨_, _, Lib.hid rfl⟩
  obtain ⟨x3, e3, H3⟩ : ∃ x e, Hid (flipR s zs = (x, e)) := ⟨_, _, Lib.hid rfl⟩
  clear hs hr hz
  go_enter Try.func4, Try.ntmps4
  go_wp2_with (first
    | (go_at_call 23; (with_reducible refine (Seal_any s x1 e1 _ (by omega) H1).mono ?_); rintro e w1 ⟨rfl, hB1⟩; have K1 := hB1)
    | (go_at_call 24; (with_reducible refine (Sealr_any s x1 e1 _ (by omega) H1).mono ?_); rintro e w2 ⟨rfl, hB2⟩; have K2 := below_then K1 hB2)
    | (go_at_call 25; (with_reducible refine (open_any s x2 e2 _ (by omega) H2).mono ?_); rintro e w3 ⟨rfl, hB3⟩; have K3 := below_then K2 hB3)
    | (go_at_call 26; (with_reducible refine (openr_any s x2 e2 _ (by omega) H2).mono ?_); rintro e w4 ⟨rfl, hB4⟩; have K4 := below_then K3 hB4)
    | (go_at_call 27; (with_reducible refine (own_ints a cap zs _ (by omega) (HS.out.below K4)).mono ?_); rintro e w5 ⟨ah, ch, rfl, hh, hB5⟩; have K5 := below_then K4 hB5)
    | (go_at_call 28; (with_reducible refine (flip_any s ah ch zs x3 e3 _ (by omega) (by omega) HZ.out hh H3).mono ?_); rintro e w6 ⟨rfl, hB6⟩; have K6 := below_then K5 hB6; have hh6 := hh.below hB6)
    | (go_at_call 29; (with_reducible refine (flipr_any s a cap zs x3 e3 _ (by omega) (by omega) HZ.out (HR.out.below K6) H3).mono ?_); rintro e w7 ⟨rfl, hB7⟩; have K7 := below_then K6 hB7; have hh7 := hh6.below hB7)
    | (go_at_call 30; (with_reducible refine (same_ints ah a ch cap zs _ (by omega) hh7 (HR.out.below K7)).mono ?_); rintro e w8 ⟨rfl, n8, rfl⟩; have K8 := below_drewN K7 n8)
    | (go_at_call 10; (with_reducible refine (awake_any _).mono ?_); rintro e w12 ⟨rfl, hB12⟩; have K12 := below_then K8 hB12))
  go_ret
  exact ⟨rfl, K12⟩
end Go.Proofs.Ytpdpdmkfgbmdmaa
