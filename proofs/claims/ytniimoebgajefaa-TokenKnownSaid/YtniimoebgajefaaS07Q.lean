/-
  Layer 7: lists of tokens in new memory, and equal ones; the laws' own hi, awake, faulty.
-/
import Derived.Test.YtniimoebgajefaaS07G
import Derived.Test.YtniimoebgajefaaS07K
import Derived.Test.YtniimoebgajefaaKitQuiet
namespace Go.Proofs.Ytniimoebgajefaa.s07
set_option linter.unusedVariables false
set_option linter.unusedSimpArgs false
open Go.RowKit
open kit

theorem src_reads {w : World} {x : Addr} {l : List Li} (h : ReadsL w (some x) l) : ∀ j u, (flatL l)[j]? = some u → w.cell? (x.add j) = some u := by
  intro j u hu
  have hj : j < l.length * 3 := by
    rcases Nat.lt_or_ge j (l.length * 3) with h | h
    · exact h
    · rw [List.getElem?_eq_none (by rw [flatL_len]; exact h)] at hu; cases hu
  obtain ⟨b, off, e, hb, h0, h1, h2⟩ := h (j / 3) (by omega)
  cases e
  rw [Go.WideShapes.add_plain]
  have hd : j = j / 3 * 3 + j % 3 := by omega
  have hm : j % 3 < 3 := Nat.mod_lt _ (by omega)
  rw [hd, flatL_at l (j / 3) (by omega) (j % 3) hm] at hu
  rw [hd]
  generalize j / 3 = i at h0 h1 h2 hu ⊢
  generalize j % 3 = r at hm hu ⊢
  generalize l[i]?.getD noLi = y at h0 h1 h2 hu
  unfold cellsL at hu
  match r, hm with
  | 0, _ => rw [show off + (i * 3 + 0) = off + i * 3 by omega, h0]; simpa using hu
  | 1, _ => rw [show off + (i * 3 + 1) = off + i * 3 + 1 by omega, h1]; simpa using hu
  | 2, _ => rw [show off + (i * 3 + 2) = off + i * 3 + 2 by omega, h2]; simpa using hu
theorem empty_row3 (E : TypeId) (w : World) : (w.alloc (.cells #[] E)).ownsRow w.heap.size E 3 (.slice (some ⟨w.heap.size, 0, none⟩) 0 0) 0 [] :=
  ⟨rfl, .inr ⟨w.heap.size, 0, #[], rfl, Nat.le_refl _, World.alloc_heap_new w _, by omega, by unfold maxLen; omega, rfl, rfl⟩⟩
theorem toks_grown {w w1 w2 : World} {B : Nat} {v : Value} {k : Nat} {xs : List Value} (h : Below B w w1) (hr : w1.ownsRow B 23 3 v k xs) (hg : w1.grownBy w2 v.ownBlock) (hB : B ≤ w1.heap.size) : Below B w w2 := h.grown hg hB fun j ej => (hr.lt j ej).1
set_option maxRecDepth 100000 in
set_option maxHeartbeats 1000000 in
theorem own_toks (a : Option Addr) (c : Nat) (l : List Li) (w : World) (hn : l.length ≤ 100000) (hr : Hid (ReadsL w a l)) (hz : Hid (a = none → c = 0)) :
    Calls Try.prog 28 #[.slice a l.length c] w fun e w' => ∃ a' c', e = .returned (.slice a' l.length c') ∧ ReadsL w' a' l ∧ (a' = none → c' = 0) ∧ Below w.heap.size w w' := by
  cases a with
  | none =>
    have hl : l = [] := by
      rcases l with _ | ⟨x, r⟩
      · rfl
      · obtain ⟨b, off, e, _⟩ := hr.out 0 (by simp); cases e
    obtain rfl := hz.out rfl
    subst hl
    go_enter Try.func28, Try.ntmps28
    obtain ⟨i0, hi, hz0, hz1, hz2⟩ := info_parts infoL
    go_wp2_with (at_builtin; refine wpList_append_own_none rfl (.tmp 3) (.tmp 4) 34 rfl w.heap.size 23 i0 3 Try.underlying34 hi _ 0 [] rfl (empty_row3 23 w) rfl ?_)
    go_ret
    exact ⟨_, _, rfl, ReadsL.nil _ _, (fun h => by cases h), (Below.refl _ _).alloc (Nat.le_refl _) _⟩
  | some x =>
    have hs := Lib.hid (src_reads (hr.out.alloc (.cells #[] 23)))
    go_enter Try.func28, Try.ntmps28
    go_wp2_with (at_builtin; refine append_tok Try.underlying34 rfl (.tmp 3) (.tmp 4) rfl w.heap.size _ 0 [] rfl (empty_row3 23 w) x l l.length c rfl rfl hs.out (by omega) (by simp) ?_; intro vA wA hrA hgA; have BA := Lib.hid (toks_grown ((Below.refl w.heap.size w).alloc (Nat.le_refl _) (.cells #[] 23)) (empty_row3 23 w) hgA (by simp)); obtain ⟨a1, c1, rfl, hc1, hL1, hz1⟩ := toks_row (by simp) hrA)
    go_ret
    exact ⟨a1, c1, rfl, by simpa using hL1, hz1, BA.out⟩
set_option maxRecDepth 100000 in
set_option maxHeartbeats 1000000 in
theorem same_toks (a b : Option Addr) (ca cb : Nat) (l : List Li) (w : World) (hn : l.length ≤ 1000000) (ra : ReadsL w a l) (rb : ReadsL w b l) :
    Calls Try.prog 31 #[.slice a l.length ca, .slice b l.length cb] w fun e w' => e = .returned (.bool true) ∧ ∃ n, w' = w.drewN n := by
  go_enter Try.func31, Try.ntmps31
  go_wp2
  go_loopw [5] (fun i wr => ∃ k n : Nat, k ≤ l.length ∧ i = .int .i64 k ∧ wr = w.drewN n) (fun i _ => l.length - (intOf i).toNat)
  case atStart => exact ⟨0, 0, by omega, rfl, rfl⟩
  case round =>
    obtain ⟨k, n, hk, rfl, rfl⟩ := hrel
    by_cases hlt : k < l.length
    · obtain ⟨c1, o1, rfl, _, h10, h11, h12⟩ := ra k hlt
      obtain ⟨c2, o2, rfl, _, h20, h21, h22⟩ := rb k hlt
      generalize l[k]?.getD noLi = y at h10 h11 h12 h20 h21 h22
      obtain ⟨y0, y1, y2⟩ := y
      go_wp2
      go_quiet (fail)
      go_wp2
      go_roundw
      case rel => exact ⟨k + 1, _, by omega, by go_num, rfl⟩
      case measure => simp [intOf]; omega
    · go_wp2
      go_ret
      exact ⟨rfl, _, rfl⟩
theorem hi_any (w : World) : Calls Try.prog 12 #[] w fun e w' => e = .returned (.agg #[.int .i64 0, .string { data := #[104, 105] }, .int .i64 7]) ∧ Below w.heap.size w w' := by
  go_enter Try.func12, Try.ntmps12
  go_wp2
  exact bodyPost_ret (v := .agg #[.int .i64 0, .string { data := #[104, 105] }, .int .i64 7]) (by simp [results, Try.results12, go_sem]) rfl ⟨rfl, (Below.refl _ _).alloc (Nat.le_refl _) _⟩
theorem kb_hi : bytesR 0 { data := #[104, 105] } 7 2 = ({ data := #[0, 2, 104, 105] }, 0) := by decide +kernel
theorem kr_hi : readR { data := #[0, 2, 104, 105, 0] } 2 7 = ((0, { data := #[104, 105] }, 7), 4, 0, 0) := by decide +kernel
theorem bytes_hi (w : World) : Calls Try.prog 10 #[.agg #[.int .i64 0, .string { data := #[104, 105] }, .int .i64 7], .int .i64 2] w fun e w' => e = .returned (.tuple #[.string { data := #[0, 2, 104, 105] }, .int .i64 0]) ∧ Below w.heap.size w w' := tbytes_any 0 7 2 { data := #[104, 105] } w _ 0 (Lib.hid kb_hi)
theorem read_hi (w : World) : Calls Try.prog 25 #[.string { data := #[0, 2, 104, 105, 0] }, .int .i64 2, .int .i64 7] w fun e w' => e = .returned (.tuple #[.agg #[.int .i64 0, .string { data := #[104, 105] }, .int .i64 7], .int .i64 4, .agg #[.int .i64 0, .int .i64 0]]) ∧ Below w.heap.size w w' := pread_any _ 2 7 w (by decide) 0 { data := #[104, 105] } 7 4 0 0 (Lib.hid kr_hi)
set_option maxRecDepth 100000 in
set_option maxHeartbeats 1000000 in
theorem awake_any (w : World) : Calls Try.prog 20 #[] w fun e w' => e = .returned (.bool true) ∧ Below w.heap.size w w' := by
  go_enter Try.func20, Try.ntmps20
  go_wp2_with (first
    | (go_at_call 12; refine (hi_any _).mono ?_; rintro e w1 ⟨rfl, hB⟩; have B1 := Lib.hid hB; clear hB)
    | (go_at_call 10; (with_reducible refine (bytes_hi _).mono ?_); rintro e w2 ⟨rfl, hB⟩; have B2 := Lib.hid (below_then B1.out hB); clear hB)
    | (go_at_call 25; (with_reducible refine (read_hi _).mono ?_); rintro e w3 ⟨rfl, hB⟩; have B3 := Lib.hid (below_then B2.out hB); clear hB))
  have N := two_new w3 #[.int .i64 0, .string { data := #[104, 105] }, .int .i64 7] #[.int .i64 0, .int .i64 0]
  obtain ⟨X, Y, B⟩ := N
  have B4 := Lib.hid (B3.out.trans (B.mono B3.out.size))
  have hX := X.lt
  have hY := Y.lt
  obtain ⟨c0, c1, c2⟩ := X.cell3
  obtain ⟨d0, d1⟩ := Y.cell2
  clear X Y B B1 B2
  generalize (w3.alloc (.cells #[.int .i64 0, .string { data := #[104, 105] }, .int .i64 7] 23)).alloc (.cells #[.int .i64 0, .int .i64 0] 41) = W at c0 c1 c2 d0 d1 hX hY B4 ⊢
  have z0 : ∀ p : Later W, p.W.cell? ⟨w3.heap.size, 0, none⟩ = some (.int .i64 0) := fun p => p.cell c0 hX
  have z1 : ∀ p : Later W, p.W.cell? ⟨w3.heap.size, 1, none⟩ = some (.string { data := #[104, 105] }) := fun p => p.cell c1 hX
  have z2 : ∀ p : Later W, p.W.cell? ⟨w3.heap.size, 2, none⟩ = some (.int .i64 7) := fun p => p.cell c2 hX
  have z3 : ∀ p : Later W, p.W.cell? ⟨w3.heap.size + 1, 0, none⟩ = some (.int .i64 0) := fun p => p.cell d0 hY
  have z4 : ∀ p : Later W, p.W.cell? ⟨w3.heap.size + 1, 1, none⟩ = some (.int .i64 0) := fun p => p.cell d1 hY
  clear c0 c1 c2 d0 d1 hX hY
  refine wp_region_later (by kernel_rfl) (by kernel_rfl) ?_
  repeat (go_big_quiet_step ((go_at_call 12; exact calls_later (hi_any _))))
  refine wpQuiet_nil ?_
  rintro w5 ⟨p5, rfl⟩
  have B5 := Lib.hid (below_then B4.out p5.h)
  generalize p5.W = w6 at B5 ⊢
  go_wp2
  go_ret
  exact ⟨rfl, B5.out⟩
end Go.Proofs.Ytniimoebgajefaa.s07
