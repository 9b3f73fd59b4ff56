/-
  Layer 6, the reference's side: ok, own.
-/
import Derived.Test.YtndghjfgjkjbdaaS06B
namespace Go.Proofs.Ytndghjfgjkjbdaa.s06
set_option linter.unusedVariables false
set_option linter.unusedSimpArgs false
open Go.RowKit
open kit

theorem okt_any (a : Option Addr) (cap : Nat) (l : List ByteArray) (er : Int) (w : World) (hcap : l.length ≤ cap) (hn : l.length ≤ 9223372036854775807) (hz : Hid (∀ x ∈ l, x.size ≤ 9223372036854775807)) (hr : Hid (ReadsS w a l)) (H : Hid (okT l = er)) :
    Calls Try.prog 47 #[.agg #[.slice a l.length cap]] w fun e w' => e = .returned (.int .i64 er) ∧ Below w.heap.size w w' := by
  obtain ⟨⟨er', p⟩, hc⟩ : ∃ r, chkT l = r := ⟨_, rfl⟩
  have HE : Hid (er' = er) := Lib.hid (by have := H.out; unfold okT at this; rw [hc] at this; exact this)
  have HC := Lib.hid hc
  clear hc
  have B1 := Lib.hid ((Below.refl w.heap.size w).alloc (Nat.le_refl _) (.cells #[.slice a l.length cap] 24))
  go_enter Try.func47, Try.ntmps47
  go_wp2_with (go_at_call 13; refine (checkt_any a cap l er' p _ hcap hn hz (Lib.hid (hr.out.alloc _)) HC).mono ?_; rintro e w1 ⟨rfl, hB⟩; have B2 := Lib.hid (below_then B1.out hB); clear hB)
  go_ret
  exact ⟨ret_i HE.out, B2.out⟩
/-- a table in memory of its own: its row is all its own, from block B on -/
def TabO (l : List ByteArray) (B : Nat) (V : Value) (W : World) : Prop := ∃ v, V = .agg #[v] ∧ W.ownsRow B 9 1 v l.length (l.map Value.string)
set_option maxRecDepth 100000 in
set_option maxHeartbeats 1000000 in
theorem own6_any (a : Option Addr) (cap : Nat) (l : List ByteArray) (w : World) (hn : l.length ≤ 100000) (hs : Hid (Src w a cap (l.map Value.string))) :
    Calls Try.prog 46 #[.agg #[.slice a l.length cap]] w fun e w' => ∃ V B, e = .returned V ∧ w.heap.size ≤ B ∧ B ≤ w'.heap.size ∧ TabO l B V w' ∧ Below w.heap.size w w' := by
  have X1 : Hid (Box ((w.alloc (.cells #[.slice a l.length cap] 24)).alloc (.cells #[.slice none 0 0] 24)) 24 (w.heap.size + 1) #[.slice none 0 0]) := Lib.hid (by simpa using Box.new (w.alloc (.cells #[.slice a l.length cap] 24)) 24 #[.slice none 0 0])
  have B1 : Hid (Below w.heap.size w ((w.alloc (.cells #[.slice a l.length cap] 24)).alloc (.cells #[.slice none 0 0] 24))) := Lib.hid (by
    have h := (Below.refl w.heap.size w).alloc (Nat.le_refl _) (.cells #[.slice a l.length cap] 24)
    exact h.alloc h.size _)
  have hs1 : Hid (Src ((w.alloc (.cells #[.slice a l.length cap] 24)).alloc (.cells #[.slice none 0 0] 24)) a cap (l.map Value.string)) := Lib.hid ((hs.out.alloc _).alloc _)
  have HE : Hid ((((w.alloc (.cells #[.slice a l.length cap] 24)).alloc (.cells #[.slice none 0 0] 24)).alloc (.cells #[] 9)).ownsRow (w.heap.size + 2) 9 1 (.slice (some ⟨w.heap.size + 1 + 1, 0, none⟩) 0 0) 0 []) := Lib.hid (by
    have h := empty_row 9 ((w.alloc (.cells #[.slice a l.length cap] 24)).alloc (.cells #[.slice none 0 0] 24)) (w.heap.size + 2) (by simp)
    rw [show ((w.alloc (.cells #[.slice a l.length cap] 24)).alloc (.cells #[.slice none 0 0] 24)).heap.size = w.heap.size + 1 + 1 by simp] at h
    exact h)
  go_enter Try.func46, Try.ntmps46
  go_wp2_with (at_builtin; refine append_in Try.underlying22 info9 rfl (by omega) rfl (.tmp 3) (.tmp 5) rfl (w.heap.size + 2) _ 0 [] rfl HE.out a (l.map Value.string) l.length cap rfl (by simp) (hs1.out.alloc _) (by simp [Value.oneCell']) (by omega) (by simp) ?_; intro v1 wA hv1 hBA; simp only [Nat.zero_add, List.nil_append] at hv1; obtain ⟨a1, k1, rfl⟩ := row_shape hv1; have XA : Hid (Box wA 24 (w.heap.size + 1) #[.slice none 0 0]) := Lib.hid ((hBA.block _ (by omega)).trans (X1.out.alloc _)); have HV := Lib.hid hv1; have BA := Lib.hid ((B1.out.alloc B1.out.size (.cells #[] 9)).trans (hBA.mono (by omega)) : Below w.heap.size w wA); clear hv1 hBA; have c0 := XA.out.cell 0; have f0 := XA.out.free 0; have lx := XA.out.lt)
  have d0 := (XA.out.set 0 (by simp) (.slice a1 l.length k1)).cell 0
  exact bodyPost_ret (v := .agg #[.slice a1 l.length k1]) (by simp [results, Try.results46, go_sem, d0]) rfl ⟨_, w.heap.size + 2, rfl, by omega, (by have := XA.out.lt; simp; omega), ⟨_, rfl, row_other HV.out _ _ (by omega) _⟩, BA.out.setCell (p := ⟨w.heap.size + 1, 0, none⟩) (by simp) _⟩
end Go.Proofs.Ytndghjfgjkjbdaa.s06
