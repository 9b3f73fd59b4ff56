/-
  Layer 13: the program's All.
-/
import Derived.Test.YtddackdghphcnaaDoorS13AS
import Derived.Test.YtddackdghphcnaaDoorS13W
import Derived.Test.YtddackdghphcnaaDoorS13A
namespace Go.Proofs.YtddackdghphcnaaDoor.s13
set_option linter.unusedVariables false
set_option linter.unusedSimpArgs false
open Go.RowKit
open kit

theorem from_any (a b c d e t k : Int) (w : World) : Calls Tryd.prog 62 #[.agg #[.int .i64 a, .int .i64 b, .int .i64 c, .int .i64 d, .int .i64 e], .int .i64 t, .int .i64 k] w fun e' w' => e' = .returned (.func (.func 70) #[] #[.pointer (some ⟨w.heap.size, 0, none⟩), .pointer (some ⟨w.heap.size + 1 + 1, 0, none⟩), .pointer (some ⟨w.heap.size + 1, 0, none⟩)]) ∧ w' = ((w.alloc (.cells #[.int .i64 a, .int .i64 b, .int .i64 c, .int .i64 d, .int .i64 e] 25)).alloc (.cells #[.int .i64 t] 3)).alloc (.cells #[.int .i64 k] 3) :=
  (callsIn_wide (n := 6)).1 (from_in Fence.wide 6 trivial rfl a b c d e t k w)
set_option maxRecDepth 100000 in
set_option maxHeartbeats 2000000 in
theorem pall_terms (t k : Int) (w : World) (h : t < 1 ∨ 8 < t) : Calls Tryd.prog 35 #[.int .i64 t, .int .i64 k] w fun e w' => e = .returned (.tuple #[.slice none 0 0, .int .i64 2]) ∧ Below w.heap.size w w' := by
  go_enter Tryd.func35, Tryd.ntmps35
  go_wp2_with (go_at_call 50; refine (isterms_no t _ h).mono ?_; rintro e w1 ⟨rfl, rfl⟩)
  go_ret2
  exact ⟨rfl, Below.refl _ _⟩
set_option maxRecDepth 100000 in
set_option maxHeartbeats 2000000 in
theorem pall_len (t k : Int) (w : World) (h1 : 1 ≤ t) (h2 : t ≤ 8) (h : k < 0 ∨ 4 < k) : Calls Tryd.prog 35 #[.int .i64 t, .int .i64 k] w fun e w' => e = .returned (.tuple #[.slice none 0 0, .int .i64 2]) ∧ Below w.heap.size w w' := by
  go_enter Tryd.func35, Tryd.ntmps35
  go_wp2_with (first
    | (go_at_call 50; refine (isterms_yes t _ h1 h2).mono ?_; rintro e w1 ⟨rfl, rfl⟩)
    | (go_at_call 51; refine (islen_no k _ h).mono ?_; rintro e w1 ⟨rfl, rfl⟩))
  go_ret2
  exact ⟨rfl, Below.refl _ _⟩
set_option maxRecDepth 100000 in
set_option maxHeartbeats 4000000 in
theorem pall_ok (t k : Nat) (w : World) (h1 : 1 ≤ t) (h2 : t ≤ 8) (hk : k ≤ 4) (L : List (List Int)) (HL : Hid (allL t k [] = L)) : Calls Tryd.prog 35 #[.int .i64 t, .int .i64 k] w fun e w' => ∃ a cp, e = .returned (.tuple #[.slice a L.length cp, .int .i64 0]) ∧ Reads5 w' a (L.map pad5) ∧ Below w.heap.size w w' := by
  have t1 : (1 : Int) ≤ t := by omega
  have t2 : (t : Int) ≤ 8 := by omega
  have k1 : (0 : Int) ≤ k := by omega
  have k2 : (k : Int) ≤ 4 := by omega
  have hlen : Hid (L.length ≤ 5000) := Lib.hid (by
    have e1 := allL_len t k []
    have e2 := (cnt_le t t1 t2 k hk).2
    rw [HL.out] at e1
    omega)
  have X0 := Lib.hid (((Box.new w 25 #[.int .i64 0, .int .i64 0, .int .i64 0, .int .i64 0, .int .i64 0]).alloc (.cells #[.int .i64 t] 3)).alloc (.cells #[.int .i64 k] 3))
  have T0 := Lib.hid ((Box.new (w.alloc (.cells #[.int .i64 0, .int .i64 0, .int .i64 0, .int .i64 0, .int .i64 0] 25)) 3 #[.int .i64 t]).alloc (.cells #[.int .i64 k] 3))
  have K0 := Lib.hid (Box.new ((w.alloc (.cells #[.int .i64 0, .int .i64 0, .int .i64 0, .int .i64 0, .int .i64 0] 25)).alloc (.cells #[.int .i64 t] 3)) 3 #[.int .i64 k])
  have B0 := Lib.hid (((((Below.refl w.heap.size w).alloc (Nat.le_refl _) (.cells #[.int .i64 0, .int .i64 0, .int .i64 0, .int .i64 0, .int .i64 0] 25)).alloc (by simp) (.cells #[.int .i64 t] 3))).alloc (by simp; omega) (.cells #[.int .i64 k] 3))
  have hsz : Hid ((((w.alloc (.cells #[.int .i64 0, .int .i64 0, .int .i64 0, .int .i64 0, .int .i64 0] 25)).alloc (.cells #[.int .i64 t] 3)).alloc (.cells #[.int .i64 k] 3)).heap.size = w.heap.size + 3) := Lib.hid (by simp)
  have K0 : Hid (Box (((w.alloc (.cells #[.int .i64 0, .int .i64 0, .int .i64 0, .int .i64 0, .int .i64 0] 25)).alloc (.cells #[.int .i64 t] 3)).alloc (.cells #[.int .i64 k] 3)) 3 (w.heap.size + 1 + 1) #[.int .i64 k]) := Lib.hid (by have := K0.out; rwa [World.size_alloc, World.size_alloc] at this)
  have T0 : Hid (Box (((w.alloc (.cells #[.int .i64 0, .int .i64 0, .int .i64 0, .int .i64 0, .int .i64 0] 25)).alloc (.cells #[.int .i64 t] 3)).alloc (.cells #[.int .i64 k] 3)) 3 (w.heap.size + 1) #[.int .i64 t]) := Lib.hid (by have := T0.out; rwa [World.size_alloc] at this)
  obtain ⟨W7, hW7⟩ : ∃ W7, ((w.alloc (.cells #[.int .i64 0, .int .i64 0, .int .i64 0, .int .i64 0, .int .i64 0] 25)).alloc (.cells #[.int .i64 t] 3)).alloc (.cells #[.int .i64 k] 3) = W7 := ⟨_, rfl⟩
  have HW := Lib.hid hW7
  rw [hW7] at X0 T0 K0 B0 hsz
  have hf := from_any 0 0 0 0 0 t k w
  rw [hW7] at hf
  have hcl := Lib.hid (collect_any k t h2 hk w.heap.size (w.heap.size + 1 + 1) (w.heap.size + 1) w.heap.size W7 (by have := hsz.out; omega) (Lib.hid X0.out) K0 T0 (Nat.le_refl _) (by omega) (by omega) L HL hlen.out)
  have HF := Lib.hid hf
  clear hW7 hf
  go_enter Tryd.func35, Tryd.ntmps35
  go_wp2_with (first
    | (go_at_call 50; refine (isterms_yes t _ t1 t2).mono ?_; rintro e w1 ⟨rfl, rfl⟩)
    | (go_at_call 51; refine (islen_yes k _ k1 k2).mono ?_; rintro e w1 ⟨rfl, rfl⟩)
    | (go_at_call 62; refine HF.out.mono ?_; rintro e w1 ⟨rfl, rfl⟩)
    | (go_at_call 61; refine hcl.out.mono ?_; rintro e w2 ⟨a, cp, rfl, hR, hB⟩; have R2 := Lib.hid hR; have B2 := Lib.hid (B0.out.trans hB); clear hR hB))
  go_ret2
  exact ⟨a, cp, rfl, R2.out, B2.out⟩
/-- what All says -/
def allE (t k : Int) : List V5 × Int := if (t < 1 ∨ 8 < t) ∨ (k < 0 ∨ 4 < k) then ([], 2) else ((allL t.toNat k.toNat []).map pad5, 0)
theorem pall_any (t k : Int) (w : World) (L : List V5) (r : Int) (H : Hid (allE t k = (L, r))) : Calls Tryd.prog 35 #[.int .i64 t, .int .i64 k] w fun e w' => ∃ a cp, e = .returned (.tuple #[.slice a L.length cp, .int .i64 r]) ∧ Reads5 w' a L ∧ Below w.heap.size w w' := by
  have h := H.out
  unfold allE at h
  by_cases h1 : t < 1 ∨ 8 < t
  · rw [if_pos (.inl h1)] at h; cases h
    exact (pall_terms t k w h1).mono fun e w' ⟨e1, e2⟩ => ⟨none, 0, e1, Reads5.nil _ _, e2⟩
  · by_cases h2 : k < 0 ∨ 4 < k
    · rw [if_pos (.inr h2)] at h; cases h
      exact (pall_len t k w (by omega) (by omega) h2).mono fun e w' ⟨e1, e2⟩ => ⟨none, 0, e1, Reads5.nil _ _, e2⟩
    · rw [if_neg (by omega)] at h; cases h
      obtain ⟨T, rfl⟩ : ∃ T : Nat, t = T := ⟨t.toNat, by omega⟩
      obtain ⟨K, rfl⟩ : ∃ K : Nat, k = K := ⟨k.toNat, by omega⟩
      rw [Int.toNat_natCast, Int.toNat_natCast]
      refine (pall_ok T K w (by omega) (by omega) (by omega) _ (Lib.hid rfl)).mono ?_
      rintro e w' ⟨a, cp, e1, e2⟩
      exact ⟨a, cp, by rw [List.length_map]; exact e1, e2⟩
end Go.Proofs.YtddackdghphcnaaDoor.s13
