/-
  Layer 13: the laws' own test of the helpers.
-/
import Derived.Test.YtddackdghphcnaaDoorS13LA
import Derived.Test.YtddackdghphcnaaDoorS13P
import Derived.Test.YtddackdghphcnaaDoorS13U
import Derived.Test.YtddackdghphcnaaDoorKitStep
namespace Go.Proofs.YtddackdghphcnaaDoor.s13
set_option linter.unusedVariables false
set_option linter.unusedSimpArgs false
set_option linter.unnecessarySimpa false
open Go.RowKit
open kit

def awS : List Sp := [SlI [0, 7], .con (.agg #[.int .i64 2, .int .i64 0, .int .i64 7, .int .i64 0, .int .i64 0]), .con (.agg #[.int .i64 0, .int .i64 7, .int .i64 0, .int .i64 0]), .con (.agg #[.int .i64 2, .int .i64 0, .int .i64 7, .int .i64 0, .int .i64 0]), .con (.bool true), .con (.bool true), .con (.int .i64 0), .con (.bool true), .con (.bool true), .con (.bool true), .con (.string ⟨#[48, 32, 55]⟩), .con (.bool true), .con (.bool true), .con (.bool true), .con (.int .i64 0), .con (.bool true), .con (.bool true), .con (.bool true), .con (.agg #[.int .i64 2, .int .i64 0, .int .i64 7, .int .i64 0, .int .i64 0]), SlI [0, 7], .con (.agg #[.int .i64 2, .int .i64 0, .int .i64 7, .int .i64 0, .int .i64 0]), .con (.bool true), .con (.bool true), .con (.bool true), SlI [0, 1], .con (.agg #[.int .i64 2, .int .i64 0, .int .i64 1, .int .i64 0, .int .i64 0]), SlI [2], .con (.agg #[.int .i64 1, .int .i64 2, .int .i64 0, .int .i64 0, .int .i64 0]), SlI [0, 1], .con (.agg #[.int .i64 2, .int .i64 0, .int .i64 1, .int .i64 0, .int .i64 0]), .con (.bool true), .con (.bool true), .con (.bool true), SlI [0, 1], .con (.agg #[.int .i64 2, .int .i64 0, .int .i64 1, .int .i64 0, .int .i64 0]), SlI [2], .con (.agg #[.int .i64 1, .int .i64 2, .int .i64 0, .int .i64 0, .int .i64 0]), SlI [0, 1, 2], .con (.agg #[.int .i64 3, .int .i64 0, .int .i64 1, .int .i64 2, .int .i64 0]), .con (.bool true), .con (.bool true), .con (.bool true), SlI [0], .con (.agg #[.int .i64 1, .int .i64 0, .int .i64 0, .int .i64 0, .int .i64 0]), SlI [0, 0], .con (.agg #[.int .i64 2, .int .i64 0, .int .i64 0, .int .i64 0, .int .i64 0]), .con (.bool true), .con (.bool true), .con (.bool true), SlI [1], .con (.agg #[.int .i64 1, .int .i64 1, .int .i64 0, .int .i64 0, .int .i64 0]), SlI [0, 7], .con (.agg #[.int .i64 2, .int .i64 0, .int .i64 7, .int .i64 0, .int .i64 0]), .con (.bool true), .con (.bool true), .con (.bool true)]
set_option maxRecDepth 100000 in
theorem awS_keeps : ∀ s ∈ awS, s.Keeps := by
  intro s hs
  simp only [awS, List.mem_cons, List.not_mem_nil, or_false] at hs
  rcases hs with rfl | rfl | rfl | rfl | rfl | rfl | rfl | rfl | rfl | rfl | rfl | rfl | rfl | rfl | rfl | rfl | rfl | rfl | rfl | rfl | rfl | rfl | rfl | rfl | rfl | rfl | rfl | rfl | rfl | rfl | rfl | rfl | rfl | rfl | rfl | rfl | rfl | rfl | rfl | rfl | rfl | rfl | rfl | rfl | rfl | rfl | rfl | rfl | rfl | rfl | rfl | rfl | rfl | rfl | rfl | rfl <;> first | exact con_keeps _ | exact SlI.keeps _
theorem load5 {w : World} {g : Nat} {n a b c d : Int} (h : Box w 25 g #[.int .i64 n, .int .i64 a, .int .i64 b, .int .i64 c, .int .i64 d]) : (Instr.loadAt 25 (.pointer (some ⟨g, 0, none⟩))).run Tryd.prog w = .ok (.agg #[.int .i64 n, .int .i64 a, .int .i64 b, .int .i64 c, .int .i64 d]) w := by
  obtain ⟨z0, z1, z2, z3, z4⟩ := h.cell5
  simp [go_sem, z0, z1, z2, z3, z4]
theorem reads_new (w : World) (l : List Int) (t : TypeId) : ReadsI (w.alloc (.cells (l.map (Value.int .i64)).toArray t)) (some ⟨w.heap.size, 0, none⟩) l := fun i hi => ⟨w.heap.size, 0, rfl, by simp, by
  rw [Nat.zero_add]
  unfold World.cell?
  rw [World.alloc_heap_new w _]
  simp [hi]⟩
set_option maxRecDepth 100000 in
set_option maxHeartbeats 4000000 in
theorem awake_any (w : World) : Calls Tryd.prog 10 #[] w fun e w' => e = .returned (.bool true) ∧ Below w.heap.size w w' := by
  go_enter Tryd.func10, Tryd.ntmps10
  go_wp2_with (first
    | (go_at_call 37; refine (lof_any _ _ [0, 7] _ (by simp) (Lib.hid (reads_new _ _ _)) 2 0 7 0 0 0 (Lib.hid (by decide))).mono ?_; rintro e w1 ⟨rfl, hB⟩; have B1 := Lib.hid (made1 hB).2; clear hB)
    | (go_at_call 16; refine (ptext_any 2 0 7 0 0 _ ⟨#[48, 32, 55]⟩ 0 (Lib.hid (by decide))).mono ?_; rintro e w2 ⟨rfl, hB⟩; have B2 := Lib.hid (below_on B1.out (Nat.le_refl _) hB); clear hB)
    | (go_at_call 29; refine (pparse_any ⟨#[48, 32, 55]⟩ _ (by decide) (2, 0, 7, 0, 0) 0 (Lib.hid (by decide))).mono ?_; rintro e w3 ⟨rfl, hB⟩; have B3 := Lib.hid (below_on B2.out (Nat.le_refl _) hB); clear hB)
    | (refine wp_region_last awS 0 55 (.bool true) (by kernel_rfl) (by kernel_rfl) awS_keeps rfl rfl rfl ?steps ?fin))
  case steps =>
    refine ⟨fun A w9 hB h => step_slice h (by kernel_rfl) _ 3 _ _ [0, 7] rfl (by kernel_rfl) (by kernel_rfl) (by kernel_rfl) rfl (by decide) (by decide) (by kernel_rfl), ?_⟩
    refine ⟨fun A w9 hB h => step_call_sl h (by kernel_rfl) _ _ [0, 7] 0 15 rfl rfl rfl (by kernel_rfl) (by kernel_rfl) rfl rfl (fun p hr => lof_any p 2 [0, 7] w9 (by simp) (Lib.hid hr) 2 0 7 0 0 0 (Lib.hid (by decide))), ?_⟩
    refine ⟨fun A w9 hB h => step_build h (by kernel_rfl) _ _ [(0, .int .i64 0), (1, .int .i64 7)] _ rfl (by kernel_rfl) (by kernel_rfl), ?_⟩
    refine ⟨fun A w9 hB h => step_build h (by kernel_rfl) _ _ [(0, .int .i64 2), (1, .agg #[.int .i64 0, .int .i64 7, .int .i64 0, .int .i64 0])] _ rfl (by kernel_rfl) (by kernel_rfl), ?_⟩
    refine ⟨fun A w9 hB h => step_bin h (by kernel_rfl) _ _ _ _ _ (.agg #[.int .i64 2, .int .i64 0, .int .i64 7, .int .i64 0, .int .i64 0]) (.agg #[.int .i64 2, .int .i64 0, .int .i64 7, .int .i64 0, .int .i64 0]) rfl (by kernel_rfl) (by kernel_rfl) (fun W => guard_look _ _ _ _ _ W) (fun W => (eql_look 2 0 7 0 0 2 0 7 0 0 W).trans (by rfl)), ?_⟩
    refine ⟨fun A w9 hB h => step_move h (by kernel_rfl) _ rfl (by kernel_rfl), ?_⟩
    refine ⟨fun A w9 hB h => step_move_old h (by kernel_rfl) 2 rfl (by kernel_rfl) (by rfl), ?_⟩
    refine ⟨fun A w9 hB h => step_bin h (by kernel_rfl) _ _ _ _ _ (.int .i64 0) (.int .i64 0) rfl (by kernel_rfl) (by kernel_rfl) (fun W => by kernel_rfl) (fun W => by kernel_rfl), ?_⟩
    refine ⟨fun A w9 hB h => step_pick h (by kernel_rfl) _ _ _ true rfl (by kernel_rfl) (by kernel_rfl), ?_⟩
    refine ⟨fun A w9 hB h => step_move h (by kernel_rfl) _ rfl (by kernel_rfl), ?_⟩
    refine ⟨fun A w9 hB h => step_move_old h (by kernel_rfl) 1 rfl (by kernel_rfl) (by rfl), ?_⟩
    refine ⟨fun A w9 hB h => step_bin h (by kernel_rfl) _ _ _ _ _ (.string ⟨#[48, 32, 55]⟩) (.string ⟨#[48, 32, 55]⟩) rfl (by kernel_rfl) (by kernel_rfl) (fun W => by kernel_rfl) (fun W => by kernel_rfl), ?_⟩
    refine ⟨fun A w9 hB h => step_pick h (by kernel_rfl) _ _ _ true rfl (by kernel_rfl) (by kernel_rfl), ?_⟩
    refine ⟨fun A w9 hB h => step_move h (by kernel_rfl) _ rfl (by kernel_rfl), ?_⟩
    refine ⟨fun A w9 hB h => step_move_old h (by kernel_rfl) 4 rfl (by kernel_rfl) (by rfl), ?_⟩
    refine ⟨fun A w9 hB h => step_bin h (by kernel_rfl) _ _ _ _ _ (.int .i64 0) (.int .i64 0) rfl (by kernel_rfl) (by kernel_rfl) (fun W => by kernel_rfl) (fun W => by kernel_rfl), ?_⟩
    refine ⟨fun A w9 hB h => step_pick h (by kernel_rfl) _ _ _ true rfl (by kernel_rfl) (by kernel_rfl), ?_⟩
    refine ⟨fun A w9 hB h => step_move h (by kernel_rfl) _ rfl (by kernel_rfl), ?_⟩
    refine ⟨fun A w9 hB h => step_load h (by kernel_rfl) _ _ (.pointer (some ⟨w3.heap.size, 0, none⟩)) rfl (h.old 3 (by kernel_rfl) (by rfl)) (load5 ((Box.new _ _ _).below hB)), ?_⟩
    refine ⟨fun A w9 hB h => step_slice h (by kernel_rfl) _ 3 _ _ [0, 7] rfl (by kernel_rfl) (by kernel_rfl) (by kernel_rfl) rfl (by decide) (by decide) (by kernel_rfl), ?_⟩
    refine ⟨fun A w9 hB h => step_call_sl h (by kernel_rfl) _ _ [0, 7] 19 34 rfl rfl rfl (by kernel_rfl) (by kernel_rfl) rfl rfl (fun p hr => lof_any p 2 [0, 7] w9 (by simp) (Lib.hid hr) 2 0 7 0 0 0 (Lib.hid (by decide))), ?_⟩
    refine ⟨fun A w9 hB h => step_bin h (by kernel_rfl) _ _ _ _ _ (.agg #[.int .i64 2, .int .i64 0, .int .i64 7, .int .i64 0, .int .i64 0]) (.agg #[.int .i64 2, .int .i64 0, .int .i64 7, .int .i64 0, .int .i64 0]) rfl (by kernel_rfl) (by kernel_rfl) (fun W => guard_look _ _ _ _ _ W) (fun W => (eql_look 2 0 7 0 0 2 0 7 0 0 W).trans (by rfl)), ?_⟩
    refine ⟨fun A w9 hB h => step_pick h (by kernel_rfl) _ _ _ true rfl (by kernel_rfl) (by kernel_rfl), ?_⟩
    refine ⟨fun A w9 hB h => step_move h (by kernel_rfl) _ rfl (by kernel_rfl), ?_⟩
    refine ⟨fun A w9 hB h => step_slice h (by kernel_rfl) _ 3 _ _ [0, 1] rfl (by kernel_rfl) (by kernel_rfl) (by kernel_rfl) rfl (by decide) (by decide) (by kernel_rfl), ?_⟩
    refine ⟨fun A w9 hB h => step_call_sl h (by kernel_rfl) _ _ [0, 1] 24 39 rfl rfl rfl (by kernel_rfl) (by kernel_rfl) rfl rfl (fun p hr => lof_any p 2 [0, 1] w9 (by simp) (Lib.hid hr) 2 0 1 0 0 0 (Lib.hid (by decide))), ?_⟩
    refine ⟨fun A w9 hB h => step_slice h (by kernel_rfl) _ 3 _ _ [2] rfl (by kernel_rfl) (by kernel_rfl) (by kernel_rfl) rfl (by decide) (by decide) (by kernel_rfl), ?_⟩
    refine ⟨fun A w9 hB h => step_call_sl h (by kernel_rfl) _ _ [2] 26 41 rfl rfl rfl (by kernel_rfl) (by kernel_rfl) rfl rfl (fun p hr => lof_any p 1 [2] w9 (by simp) (Lib.hid hr) 1 2 0 0 0 0 (Lib.hid (by decide))), ?_⟩
    refine ⟨fun A w9 hB h => step_slice h (by kernel_rfl) _ 3 _ _ [0, 1] rfl (by kernel_rfl) (by kernel_rfl) (by kernel_rfl) rfl (by decide) (by decide) (by kernel_rfl), ?_⟩
    refine ⟨fun A w9 hB h => step_call_sl h (by kernel_rfl) _ _ [0, 1] 28 43 rfl rfl rfl (by kernel_rfl) (by kernel_rfl) rfl rfl (fun p hr => lof_any p 2 [0, 1] w9 (by simp) (Lib.hid hr) 2 0 1 0 0 0 (Lib.hid (by decide))), ?_⟩
    refine ⟨fun A w9 hB h => step_call_con h (by kernel_rfl) _ _ [.int .i64 2, .agg #[.int .i64 2, .int .i64 0, .int .i64 1, .int .i64 0, .int .i64 0], .agg #[.int .i64 1, .int .i64 2, .int .i64 0, .int .i64 0, .int .i64 0], .agg #[.int .i64 2, .int .i64 0, .int .i64 1, .int .i64 0, .int .i64 0]] rfl rfl (by kernel_rfl) (by kernel_rfl) (ljoins_any 2 2 0 1 0 0 1 2 0 0 0 2 0 1 0 0 2 0 1 0 0 0 w9 (Lib.hid (by decide)) rfl true (by decide)), ?_⟩
    refine ⟨fun A w9 hB h => step_pick h (by kernel_rfl) _ _ _ true rfl (by kernel_rfl) (by kernel_rfl), ?_⟩
    refine ⟨fun A w9 hB h => step_move h (by kernel_rfl) _ rfl (by kernel_rfl), ?_⟩
    refine ⟨fun A w9 hB h => step_slice h (by kernel_rfl) _ 3 _ _ [0, 1] rfl (by kernel_rfl) (by kernel_rfl) (by kernel_rfl) rfl (by decide) (by decide) (by kernel_rfl), ?_⟩
    refine ⟨fun A w9 hB h => step_call_sl h (by kernel_rfl) _ _ [0, 1] 33 48 rfl rfl rfl (by kernel_rfl) (by kernel_rfl) rfl rfl (fun p hr => lof_any p 2 [0, 1] w9 (by simp) (Lib.hid hr) 2 0 1 0 0 0 (Lib.hid (by decide))), ?_⟩
    refine ⟨fun A w9 hB h => step_slice h (by kernel_rfl) _ 3 _ _ [2] rfl (by kernel_rfl) (by kernel_rfl) (by kernel_rfl) rfl (by decide) (by decide) (by kernel_rfl), ?_⟩
    refine ⟨fun A w9 hB h => step_call_sl h (by kernel_rfl) _ _ [2] 35 50 rfl rfl rfl (by kernel_rfl) (by kernel_rfl) rfl rfl (fun p hr => lof_any p 1 [2] w9 (by simp) (Lib.hid hr) 1 2 0 0 0 0 (Lib.hid (by decide))), ?_⟩
    refine ⟨fun A w9 hB h => step_slice h (by kernel_rfl) _ 3 _ _ [0, 1, 2] rfl (by kernel_rfl) (by kernel_rfl) (by kernel_rfl) rfl (by decide) (by decide) (by kernel_rfl), ?_⟩
    refine ⟨fun A w9 hB h => step_call_sl h (by kernel_rfl) _ _ [0, 1, 2] 37 52 rfl rfl rfl (by kernel_rfl) (by kernel_rfl) rfl rfl (fun p hr => lof_any p 3 [0, 1, 2] w9 (by simp) (Lib.hid hr) 3 0 1 2 0 0 (Lib.hid (by decide))), ?_⟩
    refine ⟨fun A w9 hB h => step_call_con h (by kernel_rfl) _ _ [.int .i64 3, .agg #[.int .i64 2, .int .i64 0, .int .i64 1, .int .i64 0, .int .i64 0], .agg #[.int .i64 1, .int .i64 2, .int .i64 0, .int .i64 0, .int .i64 0], .agg #[.int .i64 3, .int .i64 0, .int .i64 1, .int .i64 2, .int .i64 0]] rfl rfl (by kernel_rfl) (by kernel_rfl) (ljoins_any 3 2 0 1 0 0 1 2 0 0 0 3 0 1 2 0 3 0 1 2 0 0 w9 (Lib.hid (by decide)) rfl true (by decide)), ?_⟩
    refine ⟨fun A w9 hB h => step_pick h (by kernel_rfl) _ _ _ true rfl (by kernel_rfl) (by kernel_rfl), ?_⟩
    refine ⟨fun A w9 hB h => step_move h (by kernel_rfl) _ rfl (by kernel_rfl), ?_⟩
    refine ⟨fun A w9 hB h => step_slice h (by kernel_rfl) _ 3 _ _ [0] rfl (by kernel_rfl) (by kernel_rfl) (by kernel_rfl) rfl (by decide) (by decide) (by kernel_rfl), ?_⟩
    refine ⟨fun A w9 hB h => step_call_sl h (by kernel_rfl) _ _ [0] 42 57 rfl rfl rfl (by kernel_rfl) (by kernel_rfl) rfl rfl (fun p hr => lof_any p 1 [0] w9 (by simp) (Lib.hid hr) 1 0 0 0 0 0 (Lib.hid (by decide))), ?_⟩
    refine ⟨fun A w9 hB h => step_slice h (by kernel_rfl) _ 3 _ _ [0, 0] rfl (by kernel_rfl) (by kernel_rfl) (by kernel_rfl) rfl (by decide) (by decide) (by kernel_rfl), ?_⟩
    refine ⟨fun A w9 hB h => step_call_sl h (by kernel_rfl) _ _ [0, 0] 44 59 rfl rfl rfl (by kernel_rfl) (by kernel_rfl) rfl rfl (fun p hr => lof_any p 2 [0, 0] w9 (by simp) (Lib.hid hr) 2 0 0 0 0 0 (Lib.hid (by decide))), ?_⟩
    refine ⟨fun A w9 hB h => step_call_con h (by kernel_rfl) _ _ [.agg #[.int .i64 1, .int .i64 0, .int .i64 0, .int .i64 0, .int .i64 0], .agg #[.int .i64 2, .int .i64 0, .int .i64 0, .int .i64 0, .int .i64 0], .int .i64 (-1)] rfl rfl (by kernel_rfl) (by kernel_rfl) ((lcompares_any 1 0 0 0 0 2 0 0 0 0 w9 (-1) (-1) 0 rfl (Lib.hid (by decide))).mono (fun e w8 q => by simpa using q)), ?_⟩
    refine ⟨fun A w9 hB h => step_pick h (by kernel_rfl) _ _ _ true rfl (by kernel_rfl) (by kernel_rfl), ?_⟩
    refine ⟨fun A w9 hB h => step_move h (by kernel_rfl) _ rfl (by kernel_rfl), ?_⟩
    refine ⟨fun A w9 hB h => step_slice h (by kernel_rfl) _ 3 _ _ [1] rfl (by kernel_rfl) (by kernel_rfl) (by kernel_rfl) rfl (by decide) (by decide) (by kernel_rfl), ?_⟩
    refine ⟨fun A w9 hB h => step_call_sl h (by kernel_rfl) _ _ [1] 49 64 rfl rfl rfl (by kernel_rfl) (by kernel_rfl) rfl rfl (fun p hr => lof_any p 1 [1] w9 (by simp) (Lib.hid hr) 1 1 0 0 0 0 (Lib.hid (by decide))), ?_⟩
    refine ⟨fun A w9 hB h => step_slice h (by kernel_rfl) _ 3 _ _ [0, 7] rfl (by kernel_rfl) (by kernel_rfl) (by kernel_rfl) rfl (by decide) (by decide) (by kernel_rfl), ?_⟩
    refine ⟨fun A w9 hB h => step_call_sl h (by kernel_rfl) _ _ [0, 7] 51 66 rfl rfl rfl (by kernel_rfl) (by kernel_rfl) rfl rfl (fun p hr => lof_any p 2 [0, 7] w9 (by simp) (Lib.hid hr) 2 0 7 0 0 0 (Lib.hid (by decide))), ?_⟩
    refine ⟨fun A w9 hB h => step_call_con h (by kernel_rfl) _ _ [.agg #[.int .i64 1, .int .i64 1, .int .i64 0, .int .i64 0, .int .i64 0], .agg #[.int .i64 2, .int .i64 0, .int .i64 7, .int .i64 0, .int .i64 0], .int .i64 1] rfl rfl (by kernel_rfl) (by kernel_rfl) ((lcompares_any 1 1 0 0 0 2 0 7 0 0 w9 1 1 0 rfl (Lib.hid (by decide))).mono (fun e w8 q => by simpa using q)), ?_⟩
    refine ⟨fun A w9 hB h => step_pick h (by kernel_rfl) _ _ _ true rfl (by kernel_rfl) (by kernel_rfl), ?_⟩
    refine ⟨fun A w9 hB h => step_assign h (by kernel_rfl) _ rfl (by kernel_rfl), ?_⟩
    exact trivial
  case fin =>
    intro B w4 hB hsz hdf hold
    have hB' : Below (w3.alloc (.cells #[.int .i64 2, .int .i64 0, .int .i64 7, .int .i64 0, .int .i64 0] 25)).heap.size (w3.alloc (.cells #[.int .i64 2, .int .i64 0, .int .i64 7, .int .i64 0, .int .i64 0] 25)) w4 := by rw [size1]; exact hB
    have B5 := Lib.hid (below_on B3.out (Nat.le_refl _) (made1 hB').2)
    clear hB hB'
    clear hold
    have hs : B.tmps.size = 70 := hsz.trans (by simp)
    clear hsz
    rename_i K hK
    refine hK _ _ ?_
    clear hK
    go_wp2
    exact bodyPost_ret (v := .bool true) (by simp [results, Tryd.results10, go_sem, hs]) hdf ⟨rfl, B5.out⟩
end Go.Proofs.YtddackdghphcnaaDoor.s13
