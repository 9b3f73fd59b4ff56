/-
  The contract of CrcKnown: the chapter's examples.
-/
import Derived.Test.YtpdpdmkfgbmdmaaWalksM
namespace Go.Proofs.Ytpdpdmkfgbmdmaa
set_option linter.unusedSimpArgs false
set_option linter.unusedVariables false
open Go.RowKit
open crcs (W)

theorem reads_i1 (W0 : World) (x : Int) : ReadsI (W0.alloc (.cells #[.int .i64 x] 3)) (some ⟨W0.heap.size, 0, none⟩) [x] := by
  intro i hi
  obtain rfl : i = 0 := by simpa using hi
  exact ⟨_, _, rfl, by simp, by simp⟩
theorem reads_i2 (W0 : World) (x y : Int) : ReadsI (W0.alloc (.cells #[.int .i64 x, .int .i64 y] 3)) (some ⟨W0.heap.size, 0, none⟩) [x, y] := by
  intro i hi
  have hk : (W0.alloc (.cells #[.int .i64 x, .int .i64 y] 3)).heap[W0.heap.size]? = some (.cells #[.int .i64 x, .int .i64 y] 3 (0, 0)) := World.alloc_heap_new W0 _
  have : i = 0 ∨ i = 1 := by simp at hi; omega
  rcases this with rfl | rfl
  · exact ⟨_, _, rfl, by simp, by unfold World.cell?; rw [hk]; rfl⟩
  · exact ⟨_, _, rfl, by simp, by unfold World.cell?; rw [hk]; rfl⟩
theorem reads_s2 (W0 : World) (x y : ByteArray) : ReadsS (W0.alloc (.cells #[.string x, .string y] 9)) (some ⟨W0.heap.size, 0, none⟩) [x, y] := by
  intro i hi
  have hk : (W0.alloc (.cells #[.string x, .string y] 9)).heap[W0.heap.size]? = some (.cells #[.string x, .string y] 9 (0, 0)) := World.alloc_heap_new W0 _
  have : i = 0 ∨ i = 1 := by simp at hi; omega
  rcases this with rfl | rfl
  · exact ⟨_, _, rfl, by simp, by unfold World.cell?; rw [hk]; rfl⟩
  · exact ⟨_, _, rfl, by simp, by unfold World.cell?; rw [hk]; rfl⟩
theorem all_1 {p : Int → Prop} {z : Int} (h : p z) : ∀ y ∈ [z], p y := by
  intro y hy
  obtain rfl : y = z := by simpa using hy
  exact h
theorem size_2 : ∀ s ∈ [(⟨#[49, 50, 51, 52]⟩ : ByteArray), ⟨#[53, 54, 55, 56, 57]⟩], s.size ≤ 9223372036854775807 := by
  intro s hs
  have : s = ⟨#[49, 50, 51, 52]⟩ ∨ s = ⟨#[53, 54, 55, 56, 57]⟩ := by simpa using hs
  rcases this with rfl | rfl <;> decide
theorem flip_1 (s x : ByteArray) (er z : Int) (W0 : World) (hs : s.size ≤ 1000000) (h1 : -9223372036854775808 ≤ z) (h2 : z ≤ 9223372036854775807) (H : Hid (flipR s [z] = (x, er))) :
    Calls Try.prog 28 #[.string s, .slice (some ⟨W0.heap.size, 0, none⟩) 1 1] (W0.alloc (.cells #[.int .i64 z] 3)) fun e w' => e = .returned (.tuple #[.string x, .int .i64 er]) ∧ Below W0.heap.size W0 w' :=
  (flip_any s _ 1 [z] x er _ (by simp) hs (all_1 ⟨h1, h2⟩) (reads_i1 W0 z) H).mono fun e w' ⟨h, hB⟩ => ⟨h, ((Below.refl _ W0).alloc (Nat.le_refl _) _).trans (hB.mono (by simp))⟩
theorem e_tab_0 : tabR 0 = (0, 0) := by decide +kernel
theorem e_tab_1 : tabR 1 = (1996959894, 0) := by decide +kernel
theorem e_tab_256 : tabR 256 = (0, 2) := by decide +kernel
theorem e_seal_0 : sealR ⟨#[]⟩ = (⟨#[0, 0, 0, 0]⟩, 0) := by decide +kernel
theorem e_open_0 : openR ⟨#[0, 0, 0, 0]⟩ = (⟨#[]⟩, 0) := by decide +kernel
theorem e_open_abc : openR ⟨#[97, 98, 99]⟩ = (⟨#[]⟩, 5) := by decide +kernel
theorem e_flip_ab : flipR ⟨#[97, 98, 109, 72, 131, 158]⟩ [0] = (⟨#[96, 98, 109, 72, 131, 158]⟩, 0) := by decide +kernel
theorem e_open_u : openR ⟨#[96, 98, 109, 72, 131, 158]⟩ = (⟨#[]⟩, 13) := by decide +kernel
theorem e_flip_0 : flipR ⟨#[97]⟩ [0] = (⟨#[96]⟩, 0) := by decide +kernel
theorem e_flip_1 : flipR ⟨#[97]⟩ [1, 1] = (⟨#[97]⟩, 0) := by decide +kernel
theorem e_flip_8 : flipR ⟨#[97]⟩ [8] = (⟨#[]⟩, 2) := by decide +kernel
theorem e_bits : bitsR ⟨#[97]⟩ ⟨#[99]⟩ = ([1], 0) := by decide +kernel
theorem tab_0 (w : World) : Calls Try.prog 14 #[.int .i64 0] w fun e w' => e = .returned (.tuple #[.int .u32 0, .int .i64 0]) ∧ w = w' := table_any _ _ _ (by decide) (by decide) (Lib.hid e_tab_0) w
theorem tab_1 (w : World) : Calls Try.prog 14 #[.int .i64 1] w fun e w' => e = .returned (.tuple #[.int .u32 1996959894, .int .i64 0]) ∧ w = w' := table_any _ _ _ (by decide) (by decide) (Lib.hid e_tab_1) w
theorem tab_256 (w : World) : Calls Try.prog 14 #[.int .i64 256] w fun e w' => e = .returned (.tuple #[.int .u32 0, .int .i64 2]) ∧ w = w' := table_any _ _ _ (by decide) (by decide) (Lib.hid e_tab_256) w
theorem seal_0 (w : World) : Calls Try.prog 23 #[.string ⟨#[]⟩] w fun e w' => e = .returned (.tuple #[.string ⟨#[0, 0, 0, 0]⟩, .int .i64 0]) ∧ Below w.heap.size w w' := Seal_any _ _ _ w (by decide) (Lib.hid e_seal_0)
theorem open_0 (w : World) : Calls Try.prog 25 #[.string ⟨#[0, 0, 0, 0]⟩] w fun e w' => e = .returned (.tuple #[.string ⟨#[]⟩, .int .i64 0]) ∧ Below w.heap.size w w' := open_any _ _ _ w (by decide) (Lib.hid e_open_0)
theorem opens_abc (w : World) : Calls Try.prog 33 #[.string ⟨#[97, 98, 99]⟩] w fun e w' => e = .returned (.int .i64 5) ∧ Below w.heap.size w w' := opens_any _ _ _ w (by decide) (Lib.hid e_open_abc)
theorem opens_u (w : World) : Calls Try.prog 33 #[.string ⟨#[96, 98, 109, 72, 131, 158]⟩] w fun e w' => e = .returned (.int .i64 13) ∧ Below w.heap.size w w' := opens_any _ _ _ w (by decide) (Lib.hid e_open_u)
theorem flip_ab (W0 : World) : Calls Try.prog 28 #[.string ⟨#[97, 98, 109, 72, 131, 158]⟩, .slice (some ⟨W0.heap.size, 0, none⟩) 1 1] (W0.alloc (.cells #[.int .i64 0] 3)) fun e w' => e = .returned (.tuple #[.string ⟨#[96, 98, 109, 72, 131, 158]⟩, .int .i64 0]) ∧ Below W0.heap.size W0 w' := flip_1 _ _ _ _ _ (by decide) (by decide) (by decide) (Lib.hid e_flip_ab)
theorem flip_0 (W0 : World) : Calls Try.prog 28 #[.string ⟨#[97]⟩, .slice (some ⟨W0.heap.size, 0, none⟩) 1 1] (W0.alloc (.cells #[.int .i64 0] 3)) fun e w' => e = .returned (.tuple #[.string ⟨#[96]⟩, .int .i64 0]) ∧ Below W0.heap.size W0 w' := flip_1 _ _ _ _ _ (by decide) (by decide) (by decide) (Lib.hid e_flip_0)
theorem flip_8 (W0 : World) : Calls Try.prog 28 #[.string ⟨#[97]⟩, .slice (some ⟨W0.heap.size, 0, none⟩) 1 1] (W0.alloc (.cells #[.int .i64 8] 3)) fun e w' => e = .returned (.tuple #[.string ⟨#[]⟩, .int .i64 2]) ∧ Below W0.heap.size W0 w' := flip_1 _ _ _ _ _ (by decide) (by decide) (by decide) (Lib.hid e_flip_8)
theorem flip_11 (W0 : World) : Calls Try.prog 28 #[.string ⟨#[97]⟩, .slice (some ⟨W0.heap.size, 0, none⟩) 2 2] (W0.alloc (.cells #[.int .i64 1, .int .i64 1] 3)) fun e w' => e = .returned (.tuple #[.string ⟨#[97]⟩, .int .i64 0]) ∧ Below W0.heap.size W0 w' :=
  (flip_any ⟨#[97]⟩ _ 2 [1, 1] _ _ _ (by simp) (by decide) (by simp) (reads_i2 W0 1 1) (Lib.hid e_flip_1)).mono fun e w' ⟨h, hB⟩ => ⟨h, ((Below.refl _ W0).alloc (Nat.le_refl _) _).trans (hB.mono (by simp))⟩
theorem of_49 (W0 : World) : Calls Try.prog 16 #[.slice (some ⟨W0.heap.size, 0, none⟩) 2 2] (W0.alloc (.cells #[.string ⟨#[49, 50, 51, 52]⟩, .string ⟨#[53, 54, 55, 56, 57]⟩] 9)) fun e w' => e = .returned (.int .u32 3421780262) ∧ Below W0.heap.size W0 w' :=
  (of_any _ 2 [⟨#[49, 50, 51, 52]⟩, ⟨#[53, 54, 55, 56, 57]⟩] _ (by simp) size_2 (reads_s2 W0 _ _)).mono fun e w' ⟨h, hB⟩ => ⟨by rw [show cat [⟨#[49, 50, 51, 52]⟩, ⟨#[53, 54, 55, 56, 57]⟩] = [49, 50, 51, 52, 53, 54, 55, 56, 57] from rfl, e_of_9] at h; exact h, ((Below.refl _ W0).alloc (Nat.le_refl _) _).trans (hB.mono (by simp))⟩
def Bits1 (w : World) (e : Ending) (w' : World) : Prop := ∃ a c, e = .returned (.tuple #[.slice a 1 c, .int .i64 0]) ∧ ReadsI w' a [1] ∧ Below w.heap.size w w'
theorem bits_1 (w : World) : Calls Try.prog 31 #[.string ⟨#[97]⟩, .string ⟨#[99]⟩] w (Bits1 w) := bits_any _ _ _ _ w (by decide) (Lib.hid e_bits)
theorem same_1 (a : Option Addr) (c : Nat) (W0 : World) (h : ReadsI W0 a [1]) : Calls Try.prog 30 #[.slice a 1 c, .slice (some ⟨W0.heap.size, 0, none⟩) 1 1] (W0.alloc (.cells #[.int .i64 1] 3)) fun e w' => e = .returned (.bool true) ∧ Below W0.heap.size W0 w' :=
  (same_ints a _ c 1 [1] _ (by simp) (h.alloc _) (reads_i1 W0 1)).mono fun e w' ⟨h, n, hw⟩ => ⟨h, hw ▸ below_drewN ((Below.refl _ W0).alloc (Nat.le_refl _) _) n⟩

set_option maxRecDepth 100000 in
set_option maxHeartbeats 1000000 in
theorem known_any (w : World) : Calls Try.prog 5 #[] w fun e w' => e = .returned (.bool true) ∧ Below w.heap.size w w' := by
  go_enter Try.func5, Try.ntmps5
  go_wp2_with (first
    | (go_at_call 14; (with_reducible refine (tab_0 _).mono ?_); rintro e w' ⟨rfl, rfl⟩)
    | (go_at_call 14; (with_reducible refine (tab_1 _).mono ?_); rintro e w' ⟨rfl, rfl⟩)
    | (go_at_call 14; (with_reducible refine (tab_256 _).mono ?_); rintro e w' ⟨rfl, rfl⟩)
    | (go_at_call 23; (with_reducible refine (seal_0 _).mono ?_); rintro e w1 ⟨rfl, hB1⟩)
    | (go_at_call 25; (with_reducible refine (open_0 _).mono ?_); rintro e w2 ⟨rfl, hB2⟩; have K2 := below_then hB1 hB2)
    | (go_at_call 23; (with_reducible refine (seal_ab _).mono ?_); rintro e w3 ⟨rfl, hB3⟩; have K3 := below_then K2 hB3)
    | (go_at_call 28; (with_reducible refine (flip_ab _).mono ?_); rintro e w4 ⟨rfl, hB4⟩; have K4 := below_then K3 hB4)
    | (go_at_call 16; (with_reducible refine (of_49 _).mono ?_); rintro e w5 ⟨rfl, hB5⟩; have K5 := below_then K4 hB5)
    | (go_at_call 28; (with_reducible refine (flip_0 _).mono ?_); rintro e w6 ⟨rfl, hB6⟩; have K6 := below_then K5 hB6)
    | (go_at_call 28; (with_reducible refine (flip_11 _).mono ?_); rintro e w7 ⟨rfl, hB7⟩; have K7 := below_then K6 hB7)
    | (go_at_call 28; (with_reducible refine (flip_8 _).mono ?_); rintro e w8 ⟨rfl, hB8⟩; have K8 := below_then K7 hB8)
    | (go_at_call 31; (with_reducible refine (bits_1 _).mono ?_); rintro e w9 ⟨xa, xc, rfl, hx, hB9⟩; have K9 := below_then K8 hB9)
    | (go_at_call 30; (with_reducible refine (same_1 _ _ _ hx).mono ?_); rintro e w10 ⟨rfl, hB10⟩; have K10 := below_then K9 hB10)
    | (go_at_call 10; (with_reducible refine (awake_any _).mono ?_); rintro e w11 ⟨rfl, hB11⟩; have K11 := below_then K10 hB11)
    | (go_at_call 33; (with_reducible refine (opens_abc _).mono ?_); rintro e w12 ⟨rfl, hB12⟩; have K12 := below_then K11 hB12)
    | (go_at_call 33; (with_reducible refine (opens_u _).mono ?_); rintro e w13 ⟨rfl, hB13⟩; have K13 := below_then K12 hB13))
  go_ret
  exact ⟨rfl, K13⟩
end Go.Proofs.Ytpdpdmkfgbmdmaa
