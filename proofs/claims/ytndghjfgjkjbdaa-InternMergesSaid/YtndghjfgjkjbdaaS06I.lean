/-
  Layer 6, the program's side: intern, add.
-/
import Derived.Test.YtndghjfgjkjbdaaS06H
namespace Go.Proofs.Ytndghjfgjkjbdaa.s06
set_option linter.unusedVariables false
set_option linter.unusedSimpArgs false
open Go.RowKit Go.WideMaps Go.Maps
open kit

set_option maxRecDepth 100000 in
set_option maxHeartbeats 1000000 in
/-- the name is there, or it is none -/
theorem intern_old (b bm base : Nat) (v : Value) (l : List ByteArray) (e0 : Int) (s : ByteArray) (i er : Int) (w : World) (hs : s.size ≤ 9223372036854775807) (hW : Hid (Wk w b bm base v l e0)) (H : Hid (findP l s = (i, er))) (h7 : er ≠ 7) :
    Calls Try.prog 50 #[.pointer (some ⟨b, 0, none⟩), .string s] w fun e w' => e = .returned (.tuple #[.int .i64 i, .int .i64 er]) ∧ Below w.heap.size w w' := by
  have c1 := hW.out.box.cell 1
  have HM := Lib.hid hW.out.map
  go_enter Try.func50, Try.ntmps50
  go_wp2_with (first
    | (go_at_call 55; refine (findp_any bm l s i er _ hs HM H).mono ?_; rintro e w2 ⟨rfl, hB⟩; have B2 := Lib.hid hB; clear hB))
  go_ret2
  exact ⟨rfl, B2.out⟩
set_option maxRecDepth 100000 in
set_option maxHeartbeats 1000000 in
/-- there is no room -/
theorem intern_full (b bm base : Nat) (v : Value) (l : List ByteArray) (e0 : Int) (s : ByteArray) (i : Int) (w : World) (hs : s.size ≤ 9223372036854775807) (hW : Hid (Wk w b bm base v l e0)) (H : Hid (findP l s = (i, 7))) (h32 : l.length = 32) :
    Calls Try.prog 50 #[.pointer (some ⟨b, 0, none⟩), .string s] w fun e w' => e = .returned (.tuple #[.int .i64 0, .int .i64 6]) ∧ Below w.heap.size w w' := by
  have c1 := hW.out.box.cell 1
  have HM := Lib.hid hW.out.map
  obtain ⟨a, k, rfl⟩ := hW.out.shape
  have H3 := Lib.hid h32
  clear h32
  go_enter Try.func50, Try.ntmps50
  go_wp2_with (first
    | (go_at_call 55; refine (findp_any bm l s i 7 _ hs HM H).mono ?_; rintro e w2 ⟨rfl, hB⟩; have B2 := Lib.hid hB; have c0 := (hW.out.box.below hB).cell 0; have h4 : (l.length : Int) = 32 := (by rw [H3.out]; rfl); clear hB))
  go_ret2
  exact ⟨rfl, B2.out⟩
set_option maxRecDepth 100000 in
set_option maxHeartbeats 1000000 in
/-- a new name -/
theorem intern_new (b bm base : Nat) (v : Value) (l : List ByteArray) (e0 : Int) (s : ByteArray) (i : Int) (w : World) (hs : s.size ≤ 9223372036854775807) (hW : Hid (Wk w b bm base v l e0)) (H : Hid (findP l s = (i, 7))) (h32 : ¬ (l.length : Int) = 32) (hn : l.length ≤ 1000) (hbase : base ≤ w.heap.size) (hout : Hid (s ∉ l)) :
    Calls Try.prog 50 #[.pointer (some ⟨b, 0, none⟩), .string s] w fun e w' => ∃ v', e = .returned (.tuple #[.int .i64 (l.length : Int), .int .i64 0]) ∧ Wk w' b bm base v' (l ++ [s]) e0 ∧ KT base b bm w w' := by
  have c1 := hW.out.box.cell 1
  have HM := Lib.hid hW.out.map
  have n1 := hW.out.h1
  have n2 := hW.out.h2
  have n3 := hW.out.h3
  obtain ⟨a, k, rfl⟩ := hW.out.shape
  have hkey : keyOf Try.prog 9 (.string s) = some (kS s) := keyOf_string_mk Try.underlying9 hs
  have HK := Lib.hid hkey
  clear hkey
  go_enter Try.func50, Try.ntmps50
  go_wp2_with (first
    | (go_at_call 55; refine (findp_any bm l s i 7 _ hs HM H).mono ?_; rintro e w2 ⟨rfl, hB⟩; have B2 := Lib.hid hB; have W2 := Lib.hid (hW.out.below hB); clear hB c1; have c0 := W2.out.box.cell 0; have W3 := Lib.hid (W2.out.below ((Below.refl w2.heap.size w2).alloc (Nat.le_refl _) (.cells #[.string s] 9))); have SRC := Lib.hid (src_one w2 (.string s) 9); have K3 : Hid (KT base b bm w (w2.alloc (.cells #[.string s] 9))) := Lib.hid ((KT.of_below B2.out).then ((Below.refl w2.heap.size w2).alloc (Nat.le_refl _) _)); have hb2 := B2.out.size)
    | (at_builtin; refine append_in2 Try.underlying22 info9 rfl (by omega) rfl (.tmp 39) (.tmp 41) rfl base _ l.length (l.map Value.string) rfl W3.out.row ⟨w2.heap.size, 0, none⟩ [.string s] 1 1 rfl rfl (by rcases SRC.out with ⟨h, _⟩ | ⟨x, h, hc⟩; cases h; cases h; exact hc) (by simp [Value.oneCell']) (by omega) (by simp; omega) ?_; intro v2 wA hv2 hgA; obtain ⟨a2, k2, rfl⟩ := row_shape hv2; have X4 : Hid (Box wA 67 b #[.slice a l.length k, .map (some bm), .int .i64 e0]) := Lib.hid ((hgA.block _ W3.out.box.lt (Box.not_row W3.out.box (by decide) W3.out.row)).trans W3.out.box); have M4 : Hid (MapO wA bm l) := Lib.hid (W3.out.map.grown hgA (fun e => by have := W3.out.row.lt _ e.symm; omega)); have K4 := Lib.hid (K3.out.trans (KT.of_row (bm := bm) (b := b) W3.out.row hgA)); have R4 := Lib.hid hv2; clear hv2 hgA c0; have c0 := X4.out.cell 0; have f0 := X4.out.free 0; have lx := X4.out.lt; have X5 := Lib.hid (X4.out.set 0 (by simp) (.slice a2 (l.length + 1) k2)); have R5 := Lib.hid (row_other R4.out b 0 n1 (.slice a2 (l.length + 1) k2)); have M5 := Lib.hid (M4.out.set (i := 0) (Ne.symm n3) (.slice a2 (l.length + 1) k2)); have K5 := Lib.hid (K4.out.set 0 (.slice a2 (l.length + 1) k2)); have c1 := X5.out.cell 1)
    | (at_mapUpdate; obtain ⟨D, hown, hD⟩ := M5.out; refine wpList_mapUpdate_own _ rfl _ _ _ 63 rfl 9 3 keyLaw Try.underlying63 _ bm l.length D rfl hown (by unfold maxLen; omega) _ _ (kS s) rfl rfl HK.out (nI l.length) [] (plainElem_int Try.underlying3 (WalkArith.wf_i64 (by omega))) ?_; intro w6 hown6 hg6; have M6 : Hid (MapO w6 bm (l ++ [s])) := Lib.hid ⟨_, by simpa using hown6, hD.put hown.isMap hout.out⟩; have X6 := Lib.hid ((hg6.block _ X5.out.lt (by simp; exact n3)).trans X5.out : Box w6 67 b _); have R6 := Lib.hid (R5.out.kept hg6 (by right; intro e; have := R5.out.lt _ e; omega)); have K6 := Lib.hid (K5.out.trans (KT.of_map (base := base) (b := b) hg6)); clear hown6 hg6 c0 c1 f0 lx hown))
  go_ret2
  refine ⟨_, rfl, ⟨X6.out, ?_, M6.out, n1, n2, n3⟩, K6.out⟩
  rw [List.length_append, List.map_append]
  exact R6.out
end Go.Proofs.Ytndghjfgjkjbdaa.s06
