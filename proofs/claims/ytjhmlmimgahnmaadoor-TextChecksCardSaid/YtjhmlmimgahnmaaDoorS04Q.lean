/-
  Layer 4: the laws' own small functions: sameList, lexeme, awake.
-/
import Derived.Test.YtjhmlmimgahnmaaDoorS04PJ
import Derived.Test.YtjhmlmimgahnmaaDoorS04M
namespace Go.Proofs.YtjhmlmimgahnmaaDoor.s04
set_option linter.unusedVariables false
set_option linter.unusedSimpArgs false
open Go.RowKit
open kit

set_option maxRecDepth 100000 in
set_option maxHeartbeats 1000000 in
theorem same_list (a b : Option Addr) (ca cb : Nat) (l : List Li) (w : World) (hn : l.length ≤ 1000000) (ra : ReadsL w a l) (rb : ReadsL w b l) :
    Calls Tryd.prog 17 #[.slice a l.length ca, .slice b l.length cb] w fun e w' => e = .returned (.bool true) ∧ ∃ n, w' = w.drewN n := by
  go_enter Tryd.func17, Tryd.ntmps17
  go_wp2
  go_loopw [5] (fun i wr => ∃ k n : Nat, k ≤ l.length ∧ i = .int .i64 k ∧ wr = w.drewN n) (fun i _ => l.length - (intOf i).toNat)
  case atStart => exact ⟨0, 0, by omega, rfl, rfl⟩
  case round =>
    obtain ⟨k, n, hk, rfl, rfl⟩ := hrel
    by_cases hlt : k < l.length
    · obtain ⟨c1, o1, rfl, _, h10, h11, h12⟩ := ra k hlt
      obtain ⟨c2, o2, rfl, _, h20, h21, h22⟩ := rb k hlt
      generalize l[k]?.getD noLi = y at h10 h11 h12 h20 h21 h22
      obtain ⟨y0, y1, y2⟩ := y
      go_wp2
      go_quiet (fail)
      go_wp2
      go_roundw
      case rel => exact ⟨k + 1, _, by omega, by go_num, rfl⟩
      case measure => simp [intOf]; omega
    · go_wp2
      go_ret
      exact ⟨rfl, _, rfl⟩
theorem lexeme_any (kd : Int) (s : ByteArray) (at' : Int) (w : World) : Calls Tryd.prog 20 #[.int .i64 kd, .string s, .int .i64 at'] w fun e w' => e = .returned (.agg #[.int .i64 kd, .string s, .int .i64 at']) ∧ Below w.heap.size w w' := by
  go_enter Tryd.func20, Tryd.ntmps20
  go_wp2
  exact bodyPost_ret (v := .agg #[.int .i64 kd, .string s, .int .i64 at']) (by simp [results, Tryd.results20, go_sem]) rfl ⟨rfl, (Below.refl _ _).alloc (Nat.le_refl _) _⟩
def awS : ByteArray := { data := #[108, 111, 111, 107, 97, 104, 101, 97, 100, 32, 50, 59, 32, 35, 32, 107, 10, 83, 32, 61, 32, 97, 32, 124, 32, 59] }
def awL : List Li := [(1, { data := #[108, 111, 111, 107, 97, 104, 101, 97, 100] }, 0), (2, { data := #[50] }, 10), (3, { data := #[59] }, 11), (1, { data := #[83] }, 17), (3, { data := #[61] }, 19), (1, { data := #[97] }, 21), (3, { data := #[124] }, 23), (3, { data := #[59] }, 25)]
theorem aw_lex : lexR awS = (awL, 0, 0) := by decide +kernel
theorem awL_row (W : World) : ReadsL (W.alloc (.cells #[.int .i64 1, .string { data := #[108, 111, 111, 107, 97, 104, 101, 97, 100] }, .int .i64 0, .int .i64 2, .string { data := #[50] }, .int .i64 10, .int .i64 3, .string { data := #[59] }, .int .i64 11, .int .i64 1, .string { data := #[83] }, .int .i64 17, .int .i64 3, .string { data := #[61] }, .int .i64 19, .int .i64 1, .string { data := #[97] }, .int .i64 21, .int .i64 3, .string { data := #[124] }, .int .i64 23, .int .i64 3, .string { data := #[59] }, .int .i64 25] 23)) (some ⟨W.heap.size, 0, none⟩) awL :=
  readsL_of_row (E := 23) (base := 0) (n := 8) (cap := 8) rfl (World.ownsRow_lit (e := 23) W #[.int .i64 1, .string { data := #[108, 111, 111, 107, 97, 104, 101, 97, 100] }, .int .i64 0, .int .i64 2, .string { data := #[50] }, .int .i64 10, .int .i64 3, .string { data := #[59] }, .int .i64 11, .int .i64 1, .string { data := #[83] }, .int .i64 17, .int .i64 3, .string { data := #[61] }, .int .i64 19, .int .i64 1, .string { data := #[97] }, .int .i64 21, .int .i64 3, .string { data := #[124] }, .int .i64 23, .int .i64 3, .string { data := #[59] }, .int .i64 25] 8 (Nat.zero_le _) (by unfold maxLen; omega) rfl)
set_option maxRecDepth 100000 in
set_option maxHeartbeats 2000000 in
theorem awake_any (w : World) : Calls Tryd.prog 6 #[] w fun e w' => e = .returned (.bool true) ∧ Below w.heap.size w w' := by
  go_enter Tryd.func6, Tryd.ntmps6
  go_wp2_with (first
    | (go_at_call 18; refine (plex_any awS _ (by decide) awL 0 0 (Lib.hid aw_lex)).mono ?_; rintro e w1 ⟨a1, c1, rfl, hcap1, R1, B1⟩; clear hcap1; have HC := Lib.hid (Below.refl (w1.alloc (.cells #[.int .i64 0, .int .i64 0] 37)).heap.size (w1.alloc (.cells #[.int .i64 0, .int .i64 0] 37))); have HB1 := Lib.hid B1; have HF := Lib.hid (Box.new w1 37 #[.int .i64 0, .int .i64 0]); clear B1)
    | (go_at_call 20; refine (lexeme_any _ _ _ _).mono ?_; rintro e w2 ⟨rfl, hB2⟩; replace HC := Lib.hid (below_then HC.out hB2); clear hB2)
    | (go_at_call 17; refine (same_list a1 _ c1 8 awL _ (by decide) (((R1.alloc _).below HC.out).alloc _) (awL_row _)).mono ?_; rintro e w3 ⟨rfl, m, rfl⟩; obtain ⟨y0, y1⟩ := ((HF.out.below HC.out).alloc (.cells #[.int .i64 1, .string { data := #[108, 111, 111, 107, 97, 104, 101, 97, 100] }, .int .i64 0, .int .i64 2, .string { data := #[50] }, .int .i64 10, .int .i64 3, .string { data := #[59] }, .int .i64 11, .int .i64 1, .string { data := #[83] }, .int .i64 17, .int .i64 3, .string { data := #[61] }, .int .i64 19, .int .i64 1, .string { data := #[97] }, .int .i64 21, .int .i64 3, .string { data := #[124] }, .int .i64 23, .int .i64 3, .string { data := #[59] }, .int .i64 25] 23)).cell2))
  go_ret
  exact ⟨rfl, below_drewN ((below_alloc_then HB1.out HC.out).alloc (below_alloc_then HB1.out HC.out).size _) m⟩
theorem lexS_len (s : ByteArray) : ∀ (f k : Nat) (acc : List Li), (lexS s f k acc).1.length ≤ acc.length + f := by
  intro f
  induction f with
  | zero => intro k acc; simp [lexS]
  | succ f ih =>
    intro k acc
    unfold lexS
    split
    · simp
    · split
      · have := ih (nextR s k).2.1 (acc ++ [liOf (nextR s k).1])
        rw [List.length_append] at this
        simp only [List.length_singleton] at this
        omega
      · simp
theorem lexR_len {s : ByteArray} {L : List Li} {er p : Nat} (h : lexR s = (L, er, p)) : L.length ≤ s.size + 1 := by
  unfold lexR at h
  split at h
  · cases h; simp
  · have := lexS_len s (s.size + 1) 0 []
    rw [h] at this
    simpa using this
end Go.Proofs.YtjhmlmimgahnmaaDoor.s04
