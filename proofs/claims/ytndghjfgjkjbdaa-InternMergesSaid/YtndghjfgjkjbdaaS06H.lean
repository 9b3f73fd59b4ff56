/-
  Layer 6, the program's side: find, intern, add, name, empty.
-/
import Derived.Test.YtndghjfgjkjbdaaS06G
namespace Go.Proofs.Ytndghjfgjkjbdaa.s06
set_option linter.unusedVariables false
set_option linter.unusedSimpArgs false
open Go.RowKit Go.WideMaps Go.Maps
open kit

/-- what find answers -/
def findP (l : List ByteArray) (s : ByteArray) : Int × Int :=
  if s03.checkR s.data.toList = 0 then (if ix l s < l.length then ((ix l s : Int), 0) else (0, 7)) else (0, s03.checkR s.data.toList)
theorem MapO.look {W : World} {bm : Nat} {l : List ByteArray} (h : MapO W bm l) (s : ByteArray) : ∃ D : DataW Unit, W.ownsMap Try.prog 9 (plainElem Try.prog 3) bm l.length D ∧ Maps.has D (kS s) = decide (ix l s < l.length) ∧ (∀ c : Int, D.atKey (kS s) (.lit (.int .i64 0)) = .lit (.int .i64 c) → ix l s < l.length → c = (ix l s : Int)) := by
  obtain ⟨D, h1, h2⟩ := h
  refine ⟨D, h1, (h2 s).1, fun c hc hm => ?_⟩
  rw [(h2 s).2 (ix_mem.mp hm)] at hc
  unfold nI at hc
  simp only [DataW.lit.injEq, Lit.int.injEq] at hc
  exact hc.2.symm
set_option maxRecDepth 100000 in
set_option maxHeartbeats 1000000 in
theorem findp_any (bm : Nat) (l : List ByteArray) (s : ByteArray) (i er : Int) (w : World) (hs : s.size ≤ 9223372036854775807) (hM : Hid (MapO w bm l)) (H : Hid (findP l s = (i, er))) :
    Calls Try.prog 55 #[.agg #[.map (some bm)], .string s] w fun e w' => e = .returned (.tuple #[.int .i64 i, .int .i64 er]) ∧ Below w.heap.size w w' := by
  have P1 := Lib.hid (Box.new w 65 #[.map (some bm)])
  have B1 := Lib.hid ((Below.refl w.heap.size w).alloc (Nat.le_refl _) (.cells #[.map (some bm)] 65))
  have M1 := Lib.hid (hM.out.below B1.out)
  obtain ⟨c, hc⟩ : ∃ c, s03.checkR s.data.toList = c := ⟨_, rfl⟩
  have HX := H.out
  unfold findP at HX
  rw [hc] at HX
  have HC := Lib.hid hc
  clear hc hM H
  have hkey : keyOf Try.prog 9 (.string s) = some (kS s) := keyOf_string_mk Try.underlying9 hs
  have HK := Lib.hid hkey
  clear hkey
  by_cases h0 : c = 0
  · subst h0
    rw [if_pos rfl] at HX
    by_cases h1 : ix l s < l.length
    · rw [if_pos h1] at HX
      have HZ := Lib.hid HX
      have H1 := Lib.hid h1
      clear HX h1
      go_enter Try.func55, Try.ntmps55
      go_wp2_with (first
        | (go_at_call 35; refine (s03.check_any s _ hs).mono ?_; rintro e w2 ⟨rfl, hB⟩; rw [HC.out]; have P2 := Lib.hid (P1.out.below hB); have M2 := Lib.hid (M1.out.below hB); have B2 := Lib.hid (below_then B1.out hB); clear hB; have c0 := P2.out.cell 0)
        | (at_lookup; obtain ⟨D, hown, hhas, hat⟩ := M2.out.look s; refine wpList_lookup_own_ok_int _ rfl _ _ 63 rfl 9 3 .i64 keyLaw Try.underlying63 Try.underlying3 (zeroInt _) bm l.length D rfl hown _ _ rfl HK.out ?_; intro c1 hat1 hwc; rw [hhas, decide_eq_true H1.out]; have HC1 := Lib.hid (hat c1 hat1 H1.out); clear hown hhas hat hat1 hwc))
      go_ret2
      exact ⟨ret_ii (by rw [HC1.out, HZ.out]), B2.out⟩
    · rw [if_neg h1] at HX
      have HZ := Lib.hid HX
      have H1 := Lib.hid h1
      clear HX h1
      go_enter Try.func55, Try.ntmps55
      go_wp2_with (first
        | (go_at_call 35; refine (s03.check_any s _ hs).mono ?_; rintro e w2 ⟨rfl, hB⟩; rw [HC.out]; have P2 := Lib.hid (P1.out.below hB); have M2 := Lib.hid (M1.out.below hB); have B2 := Lib.hid (below_then B1.out hB); clear hB; have c0 := P2.out.cell 0)
        | (at_lookup; obtain ⟨D, hown, hhas, hat⟩ := M2.out.look s; refine wpList_lookup_own_ok_int _ rfl _ _ 63 rfl 9 3 .i64 keyLaw Try.underlying63 Try.underlying3 (zeroInt _) bm l.length D rfl hown _ _ rfl HK.out ?_; intro c1 hat1 hwc; rw [hhas, decide_eq_false H1.out]; clear hown hhas hat hat1 hwc))
      go_ret2
      exact ⟨ret_ii HZ.out, B2.out⟩
  · rw [if_neg h0] at HX
    have HZ := Lib.hid HX
    clear HX
    go_enter Try.func55, Try.ntmps55
    go_wp2_with (first
      | (go_at_call 35; refine (s03.check_any s _ hs).mono ?_; rintro e w2 ⟨rfl, hB⟩; rw [HC.out]; have B2 := Lib.hid (below_then B1.out hB); clear hB))
    go_ret2
    exact ⟨ret_ii HZ.out, B2.out⟩
set_option maxRecDepth 100000 in
theorem empty_any (w : World) :
    Calls Try.prog 68 #[] w fun e w' => e = .returned (.pointer (some ⟨w.heap.size + 1, 0, none⟩)) ∧ Wk w' (w.heap.size + 1) w.heap.size (w.heap.size + 2) (.slice none 0 0) [] 0 ∧ w'.heap.size = w.heap.size + 2 ∧ Below w.heap.size w w' := by
  have hmm := @run_makeMap Try.prog
  go_enter Try.func68, Try.ntmps68
  go_wp2
  go_ret
  refine ⟨by simp, ⟨?_, World.ownsRow_nil _ _ _ _, ⟨_, (World.ownsMap_made w _ _ _).alloc _, .nil⟩, by omega, by omega, by omega⟩, by simp, ?_⟩
  · simpa using Box.new (w.alloc (.map #[] 0)) 67 #[.slice none 0 0, .map (some w.heap.size), .int .i64 0]
  · have h := (Below.refl w.heap.size w).alloc (Nat.le_refl _) (.map #[] 0)
    exact h.alloc h.size _
end Go.Proofs.Ytndghjfgjkjbdaa.s06
