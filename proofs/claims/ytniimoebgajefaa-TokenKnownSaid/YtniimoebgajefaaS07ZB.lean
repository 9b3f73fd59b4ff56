/-
  Layer 7: the law TokenKnown.
-/
import Derived.Test.YtniimoebgajefaaS07ZA
import Derived.Test.YtniimoebgajefaaS07M
namespace Go.Proofs.Ytniimoebgajefaa.s07
set_option linter.unusedVariables false
set_option linter.unusedSimpArgs false
open Go.RowKit
open kit

set_option maxRecDepth 100000 in
set_option maxHeartbeats 1000000 in
theorem faulty_yes (s : ByteArray) (er : Int) (w : World) (hs : s.size ≤ 9223372036854775800) (H : Hid (readR s 2 7 = ((0, ByteArray.empty, 0), 0, er, 7))) :
    Calls Try.prog 13 #[.string s, .int .i64 er] w fun e w' => e = .returned (.bool true) ∧ Below w.heap.size w w' := by
  go_enter Try.func13, Try.ntmps13
  go_wp2_with (go_at_call 25; refine (pread_any s 2 7 _ hs 0 ByteArray.empty 0 0 er 7 H).mono ?_; rintro e w1 ⟨rfl, hB⟩; have B1 := Lib.hid (hB.trans ((two_new w1 #[.int .i64 0, .string ByteArray.empty, .int .i64 0] #[.int .i64 er, .int .i64 7]).2.2.mono hB.size)); clear hB)
  go_ret
  exact ⟨rfl, B1.out⟩
abbrev FaT (s : ByteArray) (er : Int) : Prop := ∀ w, Calls Try.prog 13 #[.string s, .int .i64 er] w fun e w' => e = .returned (.bool true) ∧ Below w.heap.size w w'
abbrev BeT (s : ByteArray) (t : Int) (v : Bool) (c : Int) : Prop := ∀ w, Calls Try.prog 14 #[.string s, .int .i64 t] w fun e w' => e = .returned (.tuple #[.bool v, .int .i64 c]) ∧ Below w.heap.size w w'
abbrev ChT (y : Int) (x : ByteArray) (p t c : Int) : Prop := ∀ w, Calls Try.prog 15 #[.agg #[.int .i64 y, .string x, .int .i64 p], .int .i64 t] w fun e w' => e = .returned (.int .i64 c) ∧ Below w.heap.size w w'
abbrev SeT (y : Int) (x : ByteArray) (p t : Int) (v : Bool) : Prop := ∀ w, Calls Try.prog 19 #[.agg #[.int .i64 y, .string x, .int .i64 p], .int .i64 t] w fun e w' => e = .returned (.bool v) ∧ Below w.heap.size w w'
theorem kf0 : FaT { data := #[0, 2, 104] } 5 := fun w => faulty_yes _ 5 w (by decide) (Lib.hid (by decide +kernel))
theorem kf1 : FaT { data := #[] } 5 := fun w => faulty_yes _ 5 w (by decide) (Lib.hid (by decide +kernel))
theorem kf2 : FaT { data := #[3] } 14 := fun w => faulty_yes _ 14 w (by decide) (Lib.hid (by decide +kernel))
theorem kf3 : FaT { data := #[0, 25] } 4 := fun w => faulty_yes _ 4 w (by decide) (Lib.hid (by decide +kernel))
theorem kf4 : FaT { data := #[128] } 26 := fun w => faulty_yes _ 26 w (by decide) (Lib.hid (by decide +kernel))
theorem kf5 : FaT { data := #[128, 1] } 26 := fun w => faulty_yes _ 26 w (by decide) (Lib.hid (by decide +kernel))
theorem kf6 : FaT { data := #[0, 128] } 26 := fun w => faulty_yes _ 26 w (by decide) (Lib.hid (by decide +kernel))
theorem kf7 : FaT { data := #[0, 152, 1] } 26 := fun w => faulty_yes _ 26 w (by decide) (Lib.hid (by decide +kernel))
theorem kg0 : BeT { data := #[0, 2, 104] } 2 true 0 := fun w => begins_any _ 2 w (by decide) true 0 (Lib.hid (by decide +kernel))
theorem kg1 : BeT { data := #[0, 0] } 2 false 0 := fun w => begins_any _ 2 w (by decide) false 0 (Lib.hid (by decide +kernel))
theorem kg2 : BeT { data := #[] } 2 true 0 := fun w => begins_any _ 2 w (by decide) true 0 (Lib.hid (by decide +kernel))
theorem kg3 : BeT { data := #[3] } 2 false 14 := fun w => begins_any _ 2 w (by decide) false 14 (Lib.hid (by decide +kernel))
theorem kg4 : BeT { data := #[] } 9 false 2 := fun w => begins_any _ 9 w (by decide) false 2 (Lib.hid (by decide +kernel))
theorem kc0 : ChT 3 { data := #[] } 0 2 14 := fun w => check_any 3 0 2 _ w 14 (Lib.hid (by decide +kernel))
theorem kc1 : ChT 0 { data := #[49, 50, 51, 52, 53, 54, 55, 56, 57, 48, 49, 50, 51, 52, 53, 54, 55, 56, 57, 48, 49, 50, 51, 52, 53] } 0 2 4 := fun w => check_any 0 0 2 _ w 4 (Lib.hid (by decide +kernel))
theorem kc2 : ChT 0 { data := #[] } (-1) 2 2 := fun w => check_any 0 (-1) 2 _ w 2 (Lib.hid (by decide +kernel))
theorem kc3 : ChT 0 { data := #[] } 0 0 2 := fun w => check_any 0 0 0 _ w 2 (Lib.hid (by decide +kernel))
theorem ks0 : SeT 2 { data := #[] } 0 2 true := fun w => sep_any 2 0 2 _ w true (Lib.hid (by decide +kernel))
theorem ks1 : SeT 1 { data := #[] } 0 2 false := fun w => sep_any 1 0 2 _ w false (Lib.hid (by decide +kernel))
theorem ks2 : SeT 2 { data := #[] } 0 3 false := fun w => sep_any 2 0 3 _ w false (Lib.hid (by decide +kernel))
theorem kb_sep (w : World) : Calls Try.prog 10 #[.agg #[.int .i64 2, .string { data := #[] }, .int .i64 0], .int .i64 2] w fun e w' => e = .returned (.tuple #[.string { data := #[2, 0] }, .int .i64 0]) ∧ Below w.heap.size w w' := tbytes_any 2 0 2 { data := #[] } w _ 0 (Lib.hid (by decide +kernel))
theorem kz_hi (w : World) : Calls Try.prog 11 #[.agg #[.int .i64 0, .string { data := #[104, 105] }, .int .i64 7]] w fun e w' => e = .returned (.int .i64 4) ∧ Below w.heap.size w w' := size_any 0 7 { data := #[104, 105] } (by decide) w
def knA : List Li := [(0, { data := #[104, 105] }, 7), (2, { data := #[] }, 0)]
def knB : List Li := [(0, { data := #[104, 105] }, 7), (1, { data := #[] }, 0)]
def knX : List Li := [(0, { data := #[104, 105] }, 5), (1, { data := #[] }, 9)]
def knY : List Li := [(0, { data := #[104, 105] }, 5), (1, { data := #[] }, 8)]
abbrev rowA : Array Value := #[.int .i64 0, .string { data := #[104, 105] }, .int .i64 7, .int .i64 2, .string { data := #[] }, .int .i64 0]
abbrev rowB : Array Value := #[.int .i64 0, .string { data := #[104, 105] }, .int .i64 7, .int .i64 1, .string { data := #[] }, .int .i64 0]
theorem knA_row (W : World) : ReadsL (W.alloc (.cells rowA 23)) (some ⟨W.heap.size, 0, none⟩) knA :=
  readsL_of_row (E := 23) (base := 0) (n := 2) (cap := 2) rfl (World.ownsRow_lit (e := 23) W rowA 2 (Nat.zero_le _) (by unfold maxLen; omega) rfl)
theorem knB_row (W : World) : ReadsL (W.alloc (.cells rowB 23)) (some ⟨W.heap.size, 0, none⟩) knB :=
  readsL_of_row (E := 23) (base := 0) (n := 2) (cap := 2) rfl (World.ownsRow_lit (e := 23) W rowB 2 (Nat.zero_le _) (by unfold maxLen; omega) rfl)
theorem kl_A (W : World) : Calls Try.prog 16 #[.slice (some ⟨W.heap.size, 0, none⟩) 2 2, .int .i64 2] (W.alloc (.cells rowA 23)) fun e w' => e = .returned (.tuple #[.string { data := #[0, 2, 104, 105, 2, 0] }, .int .i64 0]) ∧ Below (W.alloc (.cells rowA 23)).heap.size (W.alloc (.cells rowA 23)) w' :=
  list_any _ 2 knA 2 _ (by decide) (Lib.hid (knA_row W)) { data := #[0, 2, 104, 105, 2, 0] } 0 (Lib.hid (by decide +kernel))
theorem knX_eq : placeL 5 knB = knX := by decide +kernel
theorem kp_B (W : World) : Calls Try.prog 17 #[.slice (some ⟨W.heap.size, 0, none⟩) 2 2, .int .i64 2, .int .i64 5] (W.alloc (.cells rowB 23)) fun e w' => ∃ g c', e = .returned (.tuple #[.slice (some ⟨g, 0, none⟩) 2 c', .int .i64 0]) ∧ W.heap.size ≤ g ∧ Arr id undef 23 w' g (flatL knX) ∧ Below (W.alloc (.cells rowB 23)).heap.size (W.alloc (.cells rowB 23)) w' := by
  refine (tplace_own _ 2 knB 2 5 _ (by decide) (Lib.hid (knB_row W)) (Lib.hid (by decide +kernel)) (by decide) (by decide) 11 (Lib.hid (by decide +kernel)) (by decide) (by decide)).mono ?_
  rintro e w' ⟨a', c', rfl, hO, hB⟩
  rw [knX_eq] at hO
  obtain ⟨g, cap, hv, hg, hA⟩ := arr_of_row (l := knX) rfl (by decide) hO
  simp only [Value.slice.injEq] at hv
  obtain ⟨rfl, _, rfl⟩ := hv
  exact ⟨g, _, rfl, Nat.le_trans (by simp) hg, hA, hB⟩
theorem kd_X (w : World) (g c : Nat) (h : ReadsL w (some ⟨g, 0, none⟩) knX) : Calls Try.prog 18 #[.slice (some ⟨g, 0, none⟩) 2 c, .int .i64 2] w fun e w' => e = .returned (.int .i64 0) ∧ Below w.heap.size w w' := placed_any _ c knX 2 w (by decide) (Lib.hid h) 0 (Lib.hid (by decide +kernel))
theorem kd_Y (w : World) (g c : Nat) (h : ReadsL w (some ⟨g, 0, none⟩) knY) : Calls Try.prog 18 #[.slice (some ⟨g, 0, none⟩) 2 c, .int .i64 2] w fun e w' => e = .returned (.int .i64 9) ∧ Below w.heap.size w w' := placed_any _ c knY 2 w (by decide) (Lib.hid h) 9 (Lib.hid (by decide +kernel))
/-- the six cells of the placed list -/
theorem arr_six {w : World} {g : Nat} (h : Arr id undef 23 w g (flatL knX)) : w.cell? ⟨g, 2, none⟩ = some (.int .i64 5) ∧ w.cell? ⟨g, 5, none⟩ = some (.int .i64 9) ∧ w.frozen? ⟨g, 5, none⟩ = false := ⟨(h.cell 2 (by decide)).1, (h.cell 5 (by decide)).1, (h.cell 5 (by decide)).2⟩
theorem arr_put {w : World} {g : Nat} (h : Arr id undef 23 w g (flatL knX)) : ReadsL (w.setCell ⟨g, 5, none⟩ (.int .i64 8)) (some ⟨g, 0, none⟩) knY := by
  have h1 := h.set 5 (by decide) (.int .i64 8)
  exact reads_of_arr (l := knY) h1
set_option maxRecDepth 100000 in
set_option maxHeartbeats 8000000 in
theorem known_law (w : World) : Calls Try.prog 3 #[] w fun e w' => e = .returned (.bool true) ∧ Below w.heap.size w w' := by
  have B := box1 2 0 { data := #[] } w
  have T := box2 2 0 { data := #[] } w
  go_enter Try.func3, Try.ntmps3
  go_wp2_with (first
    | (go_at_call 10; (with_reducible refine (kb_sep _).mono ?_); rintro e wn ⟨rfl, hB⟩; replace B := Lib.hid (below_then B.out hB); replace T := Lib.hid (T.out.below hB); clear hB)
    | (go_at_call 12; refine (hi_any _).mono ?_; rintro e wn ⟨rfl, hB⟩; replace B := Lib.hid (below_then B.out hB); replace T := Lib.hid (T.out.below hB); clear hB)
    | (go_at_call 11; (with_reducible refine (kz_hi _).mono ?_); rintro e wn ⟨rfl, hB⟩; replace B := Lib.hid (below_then B.out hB); replace T := Lib.hid (T.out.below hB); clear hB)
    | (go_at_call 13; (with_reducible (first | refine (kf0 _).mono ?_ | refine (kf1 _).mono ?_ | refine (kf2 _).mono ?_ | refine (kf3 _).mono ?_ | refine (kf4 _).mono ?_ | refine (kf5 _).mono ?_ | refine (kf6 _).mono ?_ | refine (kf7 _).mono ?_)); rintro e wn ⟨rfl, hB⟩; replace B := Lib.hid (below_then B.out hB); replace T := Lib.hid (T.out.below hB); clear hB)
    | (go_at_call 14; (with_reducible (first | refine (kg0 _).mono ?_ | refine (kg1 _).mono ?_ | refine (kg2 _).mono ?_ | refine (kg3 _).mono ?_ | refine (kg4 _).mono ?_)); rintro e wn ⟨rfl, hB⟩; replace B := Lib.hid (below_then B.out hB); replace T := Lib.hid (T.out.below hB); clear hB)
    | (go_at_call 15; (with_reducible refine (kc0 _).mono ?_); rintro e wn ⟨rfl, hB⟩; have Z := Lib.hid ((Box.new _ 23 #[.int .i64 0, .string { data := #[49, 50, 51, 52, 53, 54, 55, 56, 57, 48, 49, 50, 51, 52, 53, 54, 55, 56, 57, 48, 49, 50, 51, 52, 53] }, .int .i64 0]).below hB); replace T := Lib.hid ((T.out.alloc (.cells #[.int .i64 0, .string { data := #[49, 50, 51, 52, 53, 54, 55, 56, 57, 48, 49, 50, 51, 52, 53, 54, 55, 56, 57, 48, 49, 50, 51, 52, 53] }, .int .i64 0] 23)).below hB); replace B := Lib.hid (below_then (B.out.alloc B.out.size (.cells #[.int .i64 0, .string { data := #[49, 50, 51, 52, 53, 54, 55, 56, 57, 48, 49, 50, 51, 52, 53, 54, 55, 56, 57, 48, 49, 50, 51, 52, 53] }, .int .i64 0] 23)) hB); clear hB; obtain ⟨z0, z1, z2⟩ := Z.out.cell3)
    | (go_at_call 15; (with_reducible (first | refine (kc1 _).mono ?_ | refine (kc2 _).mono ?_ | refine (kc3 _).mono ?_)); rintro e wn ⟨rfl, hB⟩; replace B := Lib.hid (below_then B.out hB); replace T := Lib.hid (T.out.below hB); clear hB))
  have TD : Hid (Box wn.drew 23 w.heap.size #[.int .i64 2, .string { data := #[] }, .int .i64 0]) := Lib.hid T.out
  have BD : Hid (Below w.heap.size w wn.drew) := Lib.hid B.out.drew
  obtain ⟨u0, u1, u2⟩ := TD.out.cell3
  clear B T z0 z1 z2 Z
  go_region_held3 (fun w' => w'.cell? ⟨w.heap.size, 0, none⟩ = some (.int .i64 2) ∧ w'.cell? ⟨w.heap.size, 1, none⟩ = some (.string { data := #[] }) ∧ w'.cell? ⟨w.heap.size, 2, none⟩ = some (.int .i64 0))
    (first
      | with_reducible exact ⟨u0, u1, u2⟩
      | with_reducible exact TL.out.cell3
      | with_reducible exact (TH.out.alloc _).cell3
      | with_reducible exact TH.out.cell3
      | fail)
    (first
      | (go_at_call 12; refine (hi_any _).mono ?_; rintro en wh ⟨rfl, hB⟩; have TH := Lib.hid (TD.out.below hB); have BH := Lib.hid (below_on BD.out (Nat.le_refl _) hB); clear hB)
      | (go_at_call 16; refine (kl_A wh).mono ?_; rintro en wl ⟨rfl, hB⟩; have TL := Lib.hid ((TH.out.alloc (.cells rowA 23)).below hB); have BL := Lib.hid (below_on (BH.out.alloc BH.out.size (.cells rowA 23)) (Nat.le_refl _) hB); clear hB))
  all_goals
    have T := TL
    have B := BL
    clear TL BL TH BH TD BD u0 u1 u2
    go_wp2_with (first
      | (go_at_call 12; refine (hi_any _).mono ?_; rintro e wn ⟨rfl, hB⟩; replace B := Lib.hid (below_then B.out hB); replace T := Lib.hid (T.out.below hB); clear hB)
      | (go_at_call 17; refine (kp_B _).mono ?_; rintro e wp ⟨g, c', rfl, hg, hA, hB⟩; have hgw : w.heap.size < g := Nat.lt_of_lt_of_le T.out.lt hg; replace T := Lib.hid ((T.out.alloc (.cells rowB 23)).below hB); replace B := Lib.hid (below_then (B.out.alloc B.out.size (.cells rowB 23)) hB); have A1 := Lib.hid hA; have hgl := hA.lt; clear hB hA hg; obtain ⟨x2, x5, f5⟩ := arr_six A1.out)
      | (go_at_call 18; have A9 := A1; refine (kd_X _ g c' (reads_of_arr (l := knX) A1.out)).mono ?_; rintro e wq ⟨rfl, hB⟩; replace B := Lib.hid (below_then B.out hB); replace T := Lib.hid (T.out.below hB); have A2 := Lib.hid (A1.out.below hB); clear hB A1 A9 x2 x5 f5 hgl; have hgl := A2.out.lt; obtain ⟨x2, x5, f5⟩ := arr_six A2.out)
      | (go_at_call 18; have A9 := A2; refine (kd_Y _ g c' (arr_put A2.out)).mono ?_; rintro e wq ⟨rfl, hB⟩; replace B := Lib.hid (below_then (B.out.setCell (p := ⟨g, 5, none⟩) (Nat.le_of_lt hgw) (.int .i64 8)) hB); replace T := Lib.hid ((T.out.other (b' := g) (i := 5) (Nat.ne_of_lt hgw) (.int .i64 8)).below hB); clear hB A2 A9 x2 x5 f5 hgl; obtain ⟨u0, u1, u2⟩ := T.out.cell3)
      | (go_at_call 19; (with_reducible (first | refine (ks0 _).mono ?_ | refine (ks1 _).mono ?_ | refine (ks2 _).mono ?_)); rintro e wn ⟨rfl, hB⟩; replace B := Lib.hid (below_then B.out hB); replace T := Lib.hid (T.out.below hB); clear hB u0 u1 u2; obtain ⟨u0, u1, u2⟩ := T.out.cell3)
      | (go_at_call 20; refine (awake_any _).mono ?_; rintro e wn ⟨rfl, hB⟩; replace B := Lib.hid (below_then B.out hB); clear hB))
    go_ret
    exact ⟨rfl, B.out⟩
end Go.Proofs.Ytniimoebgajefaa.s07
