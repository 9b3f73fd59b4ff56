/-
  Layer 6, the reference's side: put where it succeeds.
-/
import Derived.Test.YtndghjfgjkjbdaaS06E
namespace Go.Proofs.Ytndghjfgjkjbdaa.s06
set_option linter.unusedVariables false
set_option linter.unusedSimpArgs false
open Go.RowKit
open kit

set_option maxRecDepth 100000 in
set_option maxHeartbeats 1000000 in
theorem put6_has (a : Option Addr) (cap : Nat) (l : List ByteArray) (s : ByteArray) (i : Int) (w : World) (hcap : l.length ≤ cap) (hn : l.length ≤ 100000) (hz : Hid (∀ x ∈ l, x.size ≤ 9223372036854775807)) (hs : s.size ≤ 9223372036854775807) (hr : Hid (ReadsS w a l)) (hsrc : Hid (Src w a cap (l.map Value.string))) (HO : Hid (okT l = 0)) (HC : Hid (s03.checkR s.data.toList = 0)) (HAT : Hid (atI l s = i)) (hi : 0 ≤ i) :
    Calls Try.prog 51 #[.agg #[.slice a l.length cap], .string s, .bool false] w (PutOf l i 0 w) := by
  have P1 : Hid (Box ((w.alloc (.cells #[.slice a l.length cap] 24)).alloc (.cells #[.slice none 0 0] 24)) 24 w.heap.size #[.slice a l.length cap]) := Lib.hid ((Box.new _ _ _).alloc _)
  have X1 : Hid (Box ((w.alloc (.cells #[.slice a l.length cap] 24)).alloc (.cells #[.slice none 0 0] 24)) 24 (w.heap.size + 1) #[.slice none 0 0]) := Lib.hid (by simpa using Box.new (w.alloc (.cells #[.slice a l.length cap] 24)) 24 #[.slice none 0 0])
  have B1 : Hid (Below w.heap.size w ((w.alloc (.cells #[.slice a l.length cap] 24)).alloc (.cells #[.slice none 0 0] 24))) := Lib.hid (by
    have h := (Below.refl w.heap.size w).alloc (Nat.le_refl _) (.cells #[.slice a l.length cap] 24)
    exact h.alloc h.size _)
  have HR1 := Lib.hid ((hr.out.alloc (.cells #[.slice a l.length cap] 24)).alloc (.cells #[.slice none 0 0] 24))
  have HS1 := Lib.hid ((hsrc.out.alloc (.cells #[.slice a l.length cap] 24)).alloc (.cells #[.slice none 0 0] 24))
  go_enter Try.func51, Try.ntmps51
  go_wp2_with (first
    | (go_at_call 47; refine (okt_any a cap l 0 _ hcap (by omega) hz HR1 HO).mono ?_; rintro e w2 ⟨rfl, hB⟩; have P2 := Lib.hid (P1.out.below hB); have X2 := Lib.hid (X1.out.below hB); have HR2 := Lib.hid (HR1.out.below hB); have HS2 := Lib.hid (HS1.out.below hB); have B2 := Lib.hid (below_then B1.out hB); clear hB; have c0 := P2.out.cell 0)
    | (go_at_call 43; refine (s03.checkr_any s _ hs).mono ?_; rintro e w9 ⟨rfl, rfl⟩; rw [HC.out])
    | (go_at_call 44; refine (at_any a cap l.length l s i _ rfl (by omega) HR2 HAT).mono ?_; rintro e w9 ⟨rfl, rfl⟩)
    | (go_at_call 46; refine (own6_any a cap l _ hn HS2).mono ?_; rintro e w3 ⟨V, Bo, rfl, hBo, hBw, ⟨v, rfl, hrow⟩, hB⟩; obtain ⟨a1, k1, rfl⟩ := row_shape hrow; have X3 := Lib.hid (X2.out.below hB); have B3 := Lib.hid (below_then B2.out hB); have HV := Lib.hid hrow; have hlx : w.heap.size + 1 < Bo := Nat.lt_of_lt_of_le X2.out.lt hBo; clear hB hrow c0; have x0 := X3.out.cell 0; have f0 := X3.out.free 0; have lx := X3.out.lt))
  have d0 := (X3.out.set 0 (by simp) (.slice a1 l.length k1)).cell 0
  exact bodyPost_ret (v := .tuple #[.agg #[.slice a1 l.length k1], .int .i64 i, .int .i64 0]) (by simp [results, Try.results51, go_sem, d0]) rfl ⟨_, Bo, rfl, by omega, ⟨_, rfl, row_other HV.out _ _ hlx _⟩, B3.out.setCell (p := ⟨w.heap.size + 1, 0, none⟩) (by simp) _⟩
set_option maxRecDepth 100000 in
set_option maxHeartbeats 1000000 in
theorem put6_new (a : Option Addr) (cap : Nat) (l : List ByteArray) (s : ByteArray) (once : Bool) (i : Int) (w : World) (hcap : l.length ≤ cap) (hn : l.length ≤ 100000) (hz : Hid (∀ x ∈ l, x.size ≤ 9223372036854775807)) (hs : s.size ≤ 9223372036854775807) (hr : Hid (ReadsS w a l)) (hsrc : Hid (Src w a cap (l.map Value.string))) (HO : Hid (okT l = 0)) (HC : Hid (s03.checkR s.data.toList = 0)) (HAT : Hid (atI l s = i)) (hi : ¬ 0 ≤ i) (h32 : ¬ (l.length : Int) = 32) :
    Calls Try.prog 51 #[.agg #[.slice a l.length cap], .string s, .bool once] w (PutOf (l ++ [s]) l.length 0 w) := by
  have P1 : Hid (Box ((w.alloc (.cells #[.slice a l.length cap] 24)).alloc (.cells #[.slice none 0 0] 24)) 24 w.heap.size #[.slice a l.length cap]) := Lib.hid ((Box.new _ _ _).alloc _)
  have X1 : Hid (Box ((w.alloc (.cells #[.slice a l.length cap] 24)).alloc (.cells #[.slice none 0 0] 24)) 24 (w.heap.size + 1) #[.slice none 0 0]) := Lib.hid (by simpa using Box.new (w.alloc (.cells #[.slice a l.length cap] 24)) 24 #[.slice none 0 0])
  have B1 : Hid (Below w.heap.size w ((w.alloc (.cells #[.slice a l.length cap] 24)).alloc (.cells #[.slice none 0 0] 24))) := Lib.hid (by
    have h := (Below.refl w.heap.size w).alloc (Nat.le_refl _) (.cells #[.slice a l.length cap] 24)
    exact h.alloc h.size _)
  have HR1 := Lib.hid ((hr.out.alloc (.cells #[.slice a l.length cap] 24)).alloc (.cells #[.slice none 0 0] 24))
  have HS1 := Lib.hid ((hsrc.out.alloc (.cells #[.slice a l.length cap] 24)).alloc (.cells #[.slice none 0 0] 24))
  go_enter Try.func51, Try.ntmps51
  go_wp2_with (first
    | (go_at_call 47; refine (okt_any a cap l 0 _ hcap (by omega) hz HR1 HO).mono ?_; rintro e w2 ⟨rfl, hB⟩; have P2 := Lib.hid (P1.out.below hB); have X2 := Lib.hid (X1.out.below hB); have HR2 := Lib.hid (HR1.out.below hB); have HS2 := Lib.hid (HS1.out.below hB); have B2 := Lib.hid (below_then B1.out hB); clear hB; have c0 := P2.out.cell 0)
    | (go_at_call 43; refine (s03.checkr_any s _ hs).mono ?_; rintro e w9 ⟨rfl, rfl⟩; rw [HC.out])
    | (go_at_call 44; refine (at_any a cap l.length l s i _ rfl (by omega) HR2 HAT).mono ?_; rintro e w9 ⟨rfl, rfl⟩)
    | (go_at_call 46; refine (own6_any a cap l _ hn HS2).mono ?_; rintro e w3 ⟨V, Bo, rfl, hBo, hBw, ⟨v, rfl, hrow⟩, hB⟩; obtain ⟨a1, k1, rfl⟩ := row_shape hrow; have P3 := Lib.hid (P2.out.below hB); have X3 := Lib.hid (X2.out.below hB); have B3 := Lib.hid (below_then B2.out hB); have HV := Lib.hid hrow; have hlx : w.heap.size + 1 < Bo := Nat.lt_of_lt_of_le X2.out.lt hBo; clear hB hrow c0; have c0 := P3.out.cell 0; have f0 := P3.out.free 0; have lp := P3.out.lt; have SRC : Hid (Src ((w3.setCell ⟨w.heap.size, 0, none⟩ (.slice a1 l.length k1)).alloc (.cells #[.string s] 9)) (some ⟨w3.heap.size, 0, none⟩) 1 [.string s]) := Lib.hid (by simpa using src_one (w3.setCell ⟨w.heap.size, 0, none⟩ (.slice a1 l.length k1)) (.string s) 9))
    | (at_builtin; refine append_in Try.underlying22 info9 rfl (by omega) rfl (.tmp 47) (.tmp 49) rfl Bo _ l.length (l.map Value.string) rfl (row_alloc (row_other HV.out _ _ (by omega) _) _) (some ⟨w3.heap.size, 0, none⟩) [.string s] 1 1 rfl rfl SRC.out (by simp [Value.oneCell']) (by omega) (by simp; omega) ?_; intro v2 wA hv2 hBA; obtain ⟨a2, k2, rfl⟩ := row_shape hv2; have PA : Hid (Box wA 24 w.heap.size #[.slice a1 l.length k1]) := Lib.hid ((hBA.block _ (by omega)).trans ((P3.out.set 0 (by simp) _).alloc _)); have XA : Hid (Box wA 24 (w.heap.size + 1) #[.slice none 0 0]) := Lib.hid ((hBA.block _ (by omega)).trans ((X3.out.other (by omega) _).alloc _)); have HV2 := Lib.hid hv2; have BA : Hid (Below w.heap.size w wA) := Lib.hid ((((B3.out.setCell (p := ⟨w.heap.size, 0, none⟩) (Nat.le_refl _) (.slice a1 l.length k1)).alloc (by have := B3.out.size; simpa using this) (.cells #[.string s] 9))).trans (hBA.mono (by omega))); clear hv2 hBA c0 f0 lp; have c0 := PA.out.cell 0; have f0 := PA.out.free 0; have lp := PA.out.lt; have x0 := XA.out.cell 0; have g0 := XA.out.free 0; have lx := XA.out.lt))
  obtain ⟨W, hW⟩ : ∃ W : World, W = wA.setCell ⟨w.heap.size, 0, none⟩ (.slice a2 (l.length + 1) k2) := ⟨_, rfl⟩
  rw [← hW]
  have P5 : Hid (Box W.drew 24 w.heap.size #[.slice a2 (l.length + 1) k2]) := Lib.hid (by rw [hW]; exact PA.out.set 0 (by simp) _)
  have X5 : Hid (Box W.drew 24 (w.heap.size + 1) #[.slice none 0 0]) := Lib.hid (by rw [hW]; exact XA.out.other (by omega) _)
  have HV5 : Hid (W.drew.ownsRow Bo 9 1 (.slice a2 (l.length + 1) k2) (l.length + 1) ((l ++ [s]).map Value.string)) := Lib.hid (by rw [hW]; have h := row_other HV2.out w.heap.size 0 (by omega) (.slice a2 (l.length + 1) k2); rw [List.map_append]; exact h)
  have B5 : Hid (Below w.heap.size w W.drew) := Lib.hid (by rw [hW]; exact (BA.out.setCell (p := ⟨w.heap.size, 0, none⟩) (Nat.le_refl _) _).drew)
  clear hW c0 f0 lp x0 g0 lx
  have c0 := P5.out.cell 0
  have x0 := X5.out.cell 0
  have g0 := X5.out.free 0
  have lx := X5.out.lt
  have n1 : w.heap.size ≠ w.heap.size + 1 := by omega
  have n2 : w.heap.size + 1 ≠ w.heap.size := by omega
  have c1 : W.cell? ⟨w.heap.size, 0, none⟩ = some (.slice a2 (l.length + 1) k2) := P5.out.cell 0
  have x1 : W.cell? ⟨w.heap.size + 1, 0, none⟩ = some (.slice none 0 0) := X5.out.cell 0
  have g1 : W.frozen? ⟨w.heap.size + 1, 0, none⟩ = false := X5.out.free 0
  go_region
  go_wp2
  have d0 : (W.setCell ⟨w.heap.size + 1, 0, none⟩ (.slice a2 (l.length + 1) k2)).drew.cell? ⟨w.heap.size + 1, 0, none⟩ = some (.slice a2 (l.length + 1) k2) := (X5.out.set 0 (by simp) (.slice a2 (l.length + 1) k2)).cell 0
  have d1 : (W.setCell ⟨w.heap.size + 1, 0, none⟩ (.slice a2 (l.length + 1) k2)).cell? ⟨w.heap.size + 1, 0, none⟩ = some (.slice a2 (l.length + 1) k2) := d0
  have h6 : TabO (l ++ [s]) Bo (.agg #[.slice a2 (l.length + 1) k2]) (W.setCell ⟨w.heap.size + 1, 0, none⟩ (.slice a2 (l.length + 1) k2)).drew := ⟨_, rfl, by
    rw [List.length_append]
    exact row_other HV5.out (w.heap.size + 1) 0 hlx (.slice a2 (l.length + 1) k2)⟩
  have h7 : Below w.heap.size w (W.setCell ⟨w.heap.size + 1, 0, none⟩ (.slice a2 (l.length + 1) k2)).drew := B5.out.setCell (p := ⟨w.heap.size + 1, 0, none⟩) (by simp) (.slice a2 (l.length + 1) k2)
  exact bodyPost_ret (v := .tuple #[.agg #[.slice a2 (l.length + 1) k2], .int .i64 (l.length : Int), .int .i64 0]) (by simp [results, Try.results51, go_sem, d0, d1]) rfl ⟨_, Bo, rfl, by omega, h6, h7⟩
end Go.Proofs.Ytndghjfgjkjbdaa.s06
