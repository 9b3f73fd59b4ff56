/-
  Layer 4: the law TextKnown.
-/
import Derived.Test.YtjhmlmimgahnmaaDoorS04E
import Derived.Test.YtjhmlmimgahnmaaDoorS04R
import Derived.Test.YtjhmlmimgahnmaaDoorS04Q
namespace Go.Proofs.YtjhmlmimgahnmaaDoor.s04
set_option linter.unusedVariables false
set_option linter.unusedSimpArgs false
open Go.RowKit
open kit

set_option maxRecDepth 100000 in
set_option maxHeartbeats 1000000 in
theorem faulty_yes (s : ByteArray) (i : Int) (w : World) (h1 : -9223372036854775808 ≤ i) (h2 : i ≤ 9223372036854775807) (hs : s.size ≤ 9223372036854775806) (er a : Nat) (H : Hid (nextR s i = ((0, ByteArray.empty, 0), 0, er, a))) :
    Calls Tryd.prog 21 #[.string s, .int .i64 i, .int .i64 (er : Int), .int .i64 (a : Int)] w fun e w' => e = .returned (.bool true) ∧ Below w.heap.size w w' := by
  go_enter Tryd.func21, Tryd.ntmps21
  go_wp2_with (go_at_call 23; refine (pnext_any s i _ h1 h2 hs (0, ByteArray.empty, 0) 0 er a H).mono ?_; rintro e w1 ⟨rfl, B1⟩)
  go_ret
  exact ⟨rfl, (B1.alloc B1.size _).alloc (by have := B1.size; simp; omega) _⟩
def knL : List Li := [(1, { data := #[83] }, 9), (3, { data := #[61] }, 0), (1, { data := #[97] }, 0)]
theorem knL_row (W : World) : ReadsL (W.alloc (.cells #[.int .i64 1, .string { data := #[83] }, .int .i64 9, .int .i64 3, .string { data := #[61] }, .int .i64 0, .int .i64 1, .string { data := #[97] }, .int .i64 0] 23)) (some ⟨W.heap.size, 0, none⟩) knL :=
  readsL_of_row (E := 23) (base := 0) (n := 3) (cap := 3) rfl (World.ownsRow_lit (e := 23) W #[.int .i64 1, .string { data := #[83] }, .int .i64 9, .int .i64 3, .string { data := #[61] }, .int .i64 0, .int .i64 1, .string { data := #[97] }, .int .i64 0] 3 (Nat.zero_le _) (by unfold maxLen; omega) rfl)
theorem kn_text : textR knL = ({ data := #[83, 32, 61, 32, 97] }, 0) := by decide +kernel
theorem kn_size : ∀ x ∈ knL, x.2.1.size ≤ 1000 := by decide +kernel
theorem kn_lex0 : lexR { data := #[] } = ([], 0, 0) := by decide +kernel
theorem kn_lex1 : lexR { data := #[35, 32, 111, 110, 108, 121] } = ([], 0, 0) := by decide +kernel
abbrev NextT (s tx : ByteArray) (i kd pl n : Int) : Prop := ∀ w, Calls Tryd.prog 19 #[.string s, .int .i64 i, .agg #[.int .i64 kd, .string tx, .int .i64 pl], .int .i64 n] w fun e w' => e = .returned (.bool true) ∧ Below w.heap.size w w'
abbrev FaultT (s : ByteArray) (i er a : Int) : Prop := ∀ w, Calls Tryd.prog 21 #[.string s, .int .i64 i, .int .i64 er, .int .i64 a] w fun e w' => e = .returned (.bool true) ∧ Below w.heap.size w w'
theorem kn1 : NextT { data := #[97, 32, 98] } { data := #[98] } 1 1 2 3 := fun w => lnext_yes _ 1 w (by omega) (by omega) (by decide) 1 _ 2 3 (Lib.hid (by decide +kernel))
theorem kn2 : NextT { data := #[55, 32, 97] } { data := #[55] } 0 2 0 1 := fun w => lnext_yes _ 0 w (by omega) (by omega) (by decide) 2 _ 0 1 (Lib.hid (by decide +kernel))
theorem kf1 : FaultT { data := #[97, 32, 98] } 3 5 3 := fun w => faulty_yes _ 3 w (by omega) (by omega) (by decide) 5 3 (Lib.hid (by decide +kernel))
theorem kf2 : FaultT { data := #[97] } 2 2 0 := fun w => faulty_yes _ 2 w (by omega) (by omega) (by decide) 2 0 (Lib.hid (by decide +kernel))
theorem kf3 : FaultT { data := #[48, 48, 55] } 0 3 0 := fun w => faulty_yes _ 0 w (by omega) (by omega) (by decide) 3 0 (Lib.hid (by decide +kernel))
theorem kf4 : FaultT { data := #[55, 97] } 0 3 0 := fun w => faulty_yes _ 0 w (by omega) (by omega) (by decide) 3 0 (Lib.hid (by decide +kernel))
theorem kf5 : FaultT { data := #[95, 97] } 0 3 0 := fun w => faulty_yes _ 0 w (by omega) (by omega) (by decide) 3 0 (Lib.hid (by decide +kernel))
theorem kf6 : FaultT { data := #[45, 49] } 0 3 0 := fun w => faulty_yes _ 0 w (by omega) (by omega) (by decide) 3 0 (Lib.hid (by decide +kernel))
theorem km1 : numR 2 { data := #[50] } 0 1 4 = (2, 0) := by decide +kernel
theorem km2 : numR 2 { data := #[53] } 0 1 4 = (0, 2) := by decide +kernel
theorem km3 : numR 1 { data := #[97] } 0 1 4 = (0, 11) := by decide +kernel
abbrev NumT (kd : Int) (tx : ByteArray) (n c : Int) : Prop := ∀ w, Tab w → Calls Tryd.prog 7 #[.agg #[.int .i64 kd, .string tx, .int .i64 0], .int .i64 1, .int .i64 4] w fun e w' => e = .returned (.tuple #[.int .i64 n, .int .i64 c]) ∧ Below w.heap.size w w'
theorem kq1 : NumT 2 { data := #[50] } 2 0 := fun w ht => number_any 2 0 1 4 { data := #[50] } w (by decide) ht 2 0 (Lib.hid km1)
theorem kq2 : NumT 2 { data := #[53] } 0 2 := fun w ht => number_any 2 0 1 4 { data := #[53] } w (by decide) ht 0 2 (Lib.hid km2)
theorem kq3 : NumT 1 { data := #[97] } 0 11 := fun w ht => number_any 1 0 1 4 { data := #[97] } w (by decide) ht 0 11 (Lib.hid km3)
theorem kq4 (W : World) : Calls Tryd.prog 13 #[.slice (some ⟨W.heap.size, 0, none⟩) 3 3] (W.alloc (.cells #[.int .i64 1, .string { data := #[83] }, .int .i64 9, .int .i64 3, .string { data := #[61] }, .int .i64 0, .int .i64 1, .string { data := #[97] }, .int .i64 0] 23)) fun e w' => e = .returned (.tuple #[.string { data := #[83, 32, 61, 32, 97] }, .int .i64 0]) ∧ Below (W.alloc (.cells #[.int .i64 1, .string { data := #[83] }, .int .i64 9, .int .i64 3, .string { data := #[61] }, .int .i64 0, .int .i64 1, .string { data := #[97] }, .int .i64 0] 23)).heap.size (W.alloc (.cells #[.int .i64 1, .string { data := #[83] }, .int .i64 9, .int .i64 3, .string { data := #[61] }, .int .i64 0, .int .i64 1, .string { data := #[97] }, .int .i64 0] 23)) w' :=
  text_any _ 3 knL _ (by decide) kn_size (knL_row _) { data := #[83, 32, 61, 32, 97] } 0 (Lib.hid kn_text)
set_option maxRecDepth 100000 in
set_option maxHeartbeats 1000000 in
theorem known_any (w : World) (ht : Tab w) : Calls Tryd.prog 4 #[] w fun e w' => e = .returned (.bool true) ∧ Below w.heap.size w w' := by
  have HT := Lib.hid ht
  clear ht
  go_enter Tryd.func4, Tryd.ntmps4
  go_wp2_with (first
    | (go_at_call 18; (with_reducible refine (plex_any { data := #[] } _ (by decide) [] 0 0 (Lib.hid kn_lex0)).mono ?_); rintro e w1 ⟨a1, c1, rfl, hc1, R1, B1⟩; have HF1 := Lib.hid (Box.new w1 37 #[.int .i64 ((0 : Nat) : Int), .int .i64 ((0 : Nat) : Int)]); have HC1 := Lib.hid (B1.alloc B1.size (.cells #[.int .i64 0, .int .i64 0] 37)); clear B1 R1 hc1)
    | (go_at_call 18; (with_reducible refine (plex_any { data := #[35, 32, 111, 110, 108, 121] } _ (by decide) [] 0 0 (Lib.hid kn_lex1)).mono ?_); rintro e w2 ⟨a2, c2, rfl, hc2, R2, B2⟩; obtain ⟨x0, x1⟩ := (HF1.out.below B2).cell2; have hlt := (HF1.out.below B2).lt; have HC := Lib.hid ((below_then HC1.out B2).alloc (below_then HC1.out B2).size (.cells #[.int .i64 0, .int .i64 0] 37)); clear B2 R2 hc2 HC1 HF1)
    | (go_at_call 20; refine (lexeme_any _ _ _ _).mono ?_; rintro e w3 ⟨rfl, hB⟩; replace HC := Lib.hid (below_then HC.out hB); clear hB)
    | (go_at_call 19; (with_reducible refine (kn1 _).mono ?_); rintro e w3 ⟨rfl, hB⟩; replace HC := Lib.hid (below_then HC.out hB); clear hB)
    | (go_at_call 19; (with_reducible refine (kn2 _).mono ?_); rintro e w3 ⟨rfl, hB⟩; replace HC := Lib.hid (below_then HC.out hB); clear hB)
    | (go_at_call 21; (with_reducible (first | refine (kf1 _).mono ?_ | refine (kf2 _).mono ?_ | refine (kf3 _).mono ?_ | refine (kf4 _).mono ?_ | refine (kf5 _).mono ?_ | refine (kf6 _).mono ?_)); rintro e w3 ⟨rfl, hB⟩; replace HC := Lib.hid (below_then HC.out hB); clear hB)
    | (go_at_call 7; have HT9 := HT.out.below HC.out; (with_reducible (first | refine (kq1 _ HT9).mono ?_ | refine (kq2 _ HT9).mono ?_ | refine (kq3 _ HT9).mono ?_)); clear HT9; rintro e w3 ⟨rfl, hB⟩; replace HC := Lib.hid (below_then HC.out hB); clear hB)
    | (go_at_call 13; (with_reducible refine (kq4 _).mono ?_); rintro e w4 ⟨rfl, hB⟩; replace HC := Lib.hid (below_alloc_then HC.out hB); clear hB)
    | (go_at_call 6; refine (awake_any _).mono ?_; rintro e w5 ⟨rfl, hB⟩; replace HC := Lib.hid (below_then HC.out hB); clear hB))
  go_ret
  exact ⟨rfl, HC.out⟩
end Go.Proofs.YtjhmlmimgahnmaaDoor.s04
