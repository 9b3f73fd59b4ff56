/-
  The contract of the program's differing, an iterator.
-/
import Derived.Test.YtpdpdmkfgbmdmaaWalksJ
import Derived.Test.YtpdpdmkfgbmdmaaTail
namespace Go.Proofs.Ytpdpdmkfgbmdmaa
set_option linter.unusedSimpArgs false
set_option linter.unusedVariables false
open Go.RowKit Go.Shelf
open crcs (W)
attribute [local go_sem] Oper.semAt_some

theorem grown_drew (w0 : World) : w0.grownBy w0.drew none := by
  exact ⟨rfl, rfl, rfl, Nat.le_refl _, fun _ _ _ => rfl⟩

/-- two blocks are kept -/
def Keep2 (B1 B2 : Nat) (w w' : World) : Prop := w'.heap[B1]? = w.heap[B1]? ∧ w'.heap[B2]? = w.heap[B2]?
theorem Keep2.trans {B1 B2 : Nat} {A B C : World} (h : Keep2 B1 B2 A B) (k : Keep2 B1 B2 B C) : Keep2 B1 B2 A C := ⟨k.1.trans h.1, k.2.trans h.2⟩
theorem Keep2.cells {B1 B2 : Nat} {w w' : World} (h : Keep2 B1 B2 w w') : w'.cell? ⟨B1, 0, none⟩ = w.cell? ⟨B1, 0, none⟩ ∧ w'.cell? ⟨B2, 0, none⟩ = w.cell? ⟨B2, 0, none⟩ := by
  unfold World.cell?
  rw [show w'.heap[(⟨B1, 0, none⟩ : Addr).block]? = _ from h.1, show w'.heap[(⟨B2, 0, none⟩ : Addr).block]? = _ from h.2]
  exact ⟨rfl, rfl⟩
theorem putObj_heap (W : World) (D k : Nat) (o : Obj) (h : k ≠ D) (hk : k < W.heap.size) : (W.putObj D o).heap[k]? = W.heap[k]? :=
  (grownBy_putObj' W D o).block k hk (fun e => h (by simpa using e))
theorem keep2_put {B1 B2 B : Nat} (h1 : B1 < B) (h2 : B2 < B) (W : World) (l : Nat) (o o' : Obj) (hl : B ≤ l) (hk : W.heap[l]? = some o) : Keep2 B1 B2 W (W.putObj l o') := by
  have := (Array.getElem?_eq_some_iff.1 hk).1
  exact ⟨putObj_heap W l B1 o' (by omega) (by omega), putObj_heap W l B2 o' (by omega) (by omega)⟩
theorem differing_in (F : Fence) (n : Nat) (h5 : F.fn 42) (hro : F.round = none) (s t : ByteArray) (w : World) :
    CallsIn F n Try.prog 42 #[.string s, .string t] w fun e w' => e = .returned (.func (.func 43) #[] #[.pointer (some ⟨w.heap.size, 0, none⟩), .pointer (some ⟨w.heap.size + 1, 0, none⟩)]) ∧ w' = (w.alloc (.cells #[.string s] 9)).alloc (.cells #[.string t] 9) := by
  refine callsIn_of_wp Try.func42 rfl h5 ?_ hro
  simp only [Try.ntmps42, List.size_toArray, List.length_cons, List.length_nil, Nat.reduceAdd, Nat.reduceSub, Array.replicate_succ, Array.replicate_zero, List.push_toArray, List.append_toArray, List.nil_append, List.cons_append]
  gi_wp2
  go_ret
  exact ⟨rfl, rfl⟩

set_option maxRecDepth 100000 in
set_option maxHeartbeats 2000000 in
theorem differing1_in (F : Fence) (n : Nat) (h6 : F.fn 43) (hro : F.round = none) (hn : 1 ≤ n) (l B1 B2 : Nat) (s t : ByteArray) (hs : s.size ≤ 1000000) (hst : s.size = t.size) (J Jx : List Int → World → Prop) (W : World)
    (hY : ∀ pre x W1, J pre W1 → pre.length < 8 * s.size → YieldAt F (n - 1) Try.prog l #[.int .i64 x] W1 fun e W' =>
      (e = .returned (.bool true) ∧ J (pre ++ [x]) W' ∧ Keep2 B1 B2 W1 W') ∨ (e = .returned (.bool false) ∧ Jx (pre ++ [x]) W'))
    (hJd : ∀ pre W1, J pre W1 → J pre W1.drew) (hB1 : W.cell? ⟨B1, 0, none⟩ = some (.string s)) (hB2 : W.cell? ⟨B2, 0, none⟩ = some (.string t)) (hJ0 : J [] W) :
    CallsIn F n Try.prog 43 #[.func (.yield l) #[] #[], .pointer (some ⟨B1, 0, none⟩), .pointer (some ⟨B2, 0, none⟩)] W fun e W' => (∃ v, e = .returned v) ∧
      ((∃ ys, ys = diffs s t (8 * s.size) ∧ J ys W') ∨ (∃ pre : List Int, True ∧ Jx pre W')) := by
  refine callsIn_of_wp Try.func43 rfl h6 ?_ hro
  simp only [Try.ntmps43, List.size_toArray, List.length_cons, List.length_nil, Nat.reduceAdd, Nat.reduceSub, Array.replicate_succ, Array.replicate_zero, List.push_toArray, List.append_toArray, List.nil_append, List.cons_append]
  have HE := Lib.hid hst
  have hle : s.size ≤ t.size := by omega
  clear hst
  gi_wp2
  gi_loopw [4, 8] (fun _ i wr => ∃ k : Nat, k ≤ s.size ∧ i = .int .i64 k ∧ J (diffs s t (8 * k)) wr ∧ wr.cell? ⟨B1, 0, none⟩ = some (.string s) ∧ wr.cell? ⟨B2, 0, none⟩ = some (.string t))
    (fun _ i _ => s.size - (intOf i).toNat)
  case atStart => exact ⟨0, by omega, rfl, hJ0, hB1, hB2⟩
  case round =>
    obtain ⟨k, hk, rfl, hJk, hc1, hc2⟩ := hrel
    by_cases hlt : k < s.size
    · have hlt' : k < t.size := by omega
      obtain ⟨wo, rfl⟩ : ∃ wo : World, wo = wr := ⟨_, rfl⟩
      gi_wp2
      gi_loopw [5, 11] (fun _ i wr => ∃ p : Nat, p ≤ 8 ∧ i = .int .i64 p ∧ J (diffs s t (8 * k + p)) wr ∧ wr.cell? ⟨B1, 0, none⟩ = some (.string s) ∧ wr.cell? ⟨B2, 0, none⟩ = some (.string t))
        (fun _ i _ => 8 - (intOf i).toNat)
      case atStart => exact ⟨0, by omega, rfl, hJk, hc1, hc2⟩
      case round =>
        obtain ⟨p, hp, rfl, hJp, hd1, hd2⟩ := hrel
        clear hJk hc1 hc2
        by_cases hlt2 : p < 8
        · have hd := dif_at s t k p hlt hlt' hlt2
          have hx := xor_b s[k] t[k]
          have hbt := bit_test (s[k] ^^^ t[k]) p hlt2
          rw [← hd] at hbt
          have hlen := diffs_len s t (8 * k + p)
          have hyes := Lib.hid (fun h => diffs_yes' (s := s) (t := t) (k := k) (p := p) h)
          have hno := Lib.hid (fun h => diffs_no' (s := s) (t := t) (k := k) (p := p) h)
          generalize diffs s t (8 * k + p) = D at hJp hlen hyes hno
          generalize s[k] ^^^ t[k] = y at hx hbt
          clear hd
          cases hdif : dif s t (8 * k + p)
          · have HN := Lib.hid (hno.out hdif)
            rw [hdif] at hbt
            clear hyes hno hdif
            gi_wp2
            refine wpIn_region_quiet_tail 17 hro (by kernel_rfl) (by kernel_rfl) ?_
            simp only [List.take_succ_cons, List.take_zero, List.drop_succ_cons, List.drop_zero]
            repeat (quiet_step_in (fail))
            refine wpQuietIn_nil ?_
            gi_wp2
            refine ⟨fun _ h => (by cases h), ?_⟩
            gi_wp2
            go_roundw
            case rel => exact ⟨p + 1, by omega, by go_num, by rw [HN.out]; exact hJd _ _ hJp, hd1, hd2⟩
            case measure => simp [intOf]; omega
          · have HN := Lib.hid (hyes.out hdif)
            rw [hdif] at hbt
            clear hyes hno hdif
            obtain ⟨fn, tmps, assign, body, hy, hR⟩ := hY D (8 * (k : Int) + p) wr.drew (hJd _ _ hJp) (by omega)
            gi_wp2
            have e1 : IntKind.i64.wrap (8 * (k : Int)) = 8 * k := IntWalk.i64_in _ (by omega)
            have e2 : IntKind.i64.wrap (8 * (k : Int) + p) = 8 * k + p := IntWalk.i64_in _ (by omega)
            refine wpIn_region_quiet_tail 17 hro (by kernel_rfl) (by kernel_rfl) ?_
            simp only [List.take_succ_cons, List.take_zero, List.drop_succ_cons, List.drop_zero]
            repeat (quiet_step_in (fail))
            refine wpQuietIn_nil ?_
            have HD1 := Lib.hid hd1
            have HD2 := Lib.hid hd2
            clear hbt hx hd1 hd2
            gi_wp2
            refine hR.mono ?_
            rintro e W3 (⟨rfl, hJ3, hk3⟩ | ⟨rfl, hJx3⟩)
            · gi_wp2
              go_roundw
              case rel => exact ⟨p + 1, by omega, by go_num, by rw [HN.out]; exact hJ3, hk3.cells.1.trans HD1.out, hk3.cells.2.trans HD2.out⟩
              case measure => simp [intOf]; omega
            · gi_wp2
              exact bodyPost_ret (results_none rfl _ _ _) rfl ⟨⟨_, rfl⟩, .inr ⟨_, trivial, hJx3⟩⟩
        · obtain rfl : p = 8 := by omega
          gi_wp2
          go_roundw
          case rel => exact ⟨k + 1, by omega, by go_num, hJp, hd1, hd2⟩
          case measure => simp [intOf]; omega
    · obtain rfl : k = s.size := by omega
      gi_wp2
      go_end0
      exact ⟨⟨_, rfl⟩, .inl ⟨_, rfl, hJk⟩⟩
theorem differing_stops (F : Fence) (n : Nat) (h6 : F.fn 43) (hro : F.round = none) (hn : 1 ≤ n) (B1 B2 : Nat) (s t : ByteArray) (hs : s.size ≤ 1000000) (hst : s.size = t.size) (w : World) (h1 : B1 < w.heap.size) (h2 : B2 < w.heap.size)
    (hB1 : w.cell? ⟨B1, 0, none⟩ = some (.string s)) (hB2 : w.cell? ⟨B2, 0, none⟩ = some (.string t)) :
    SeqStopsK F n Try.prog 43 #[.pointer (some ⟨B1, 0, none⟩), .pointer (some ⟨B2, 0, none⟩)] (fun x : Int => #[Value.int .i64 x]) (Keep2 B1 B2) (fun ys => ys = diffs s t (8 * s.size)) (fun _ => True) (8 * s.size) w := fun l J Jx W hW hJ _ hY hJ0 =>
  differing1_in F n h6 hro hn l B1 B2 s t hs hst J Jx W hY (fun pre W1 h => hJ pre W1 W1.drew none h (grown_drew W1) (fun _ e => by cases e))
    ((hW.cell (p := ⟨B1, 0, none⟩) h1).trans hB1) ((hW.cell (p := ⟨B2, 0, none⟩) h2).trans hB2) hJ0
end Go.Proofs.Ytpdpdmkfgbmdmaa
