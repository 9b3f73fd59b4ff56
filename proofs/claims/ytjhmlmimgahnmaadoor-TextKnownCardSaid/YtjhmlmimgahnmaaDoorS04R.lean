/-
  Layer 4: the laws' blank and next.
-/
import Derived.Test.YtjhmlmimgahnmaaDoorS04Q
import Derived.Test.YtjhmlmimgahnmaaDoorS04N
namespace Go.Proofs.YtjhmlmimgahnmaaDoor.s04
set_option linter.unusedVariables false
set_option linter.unusedSimpArgs false
open Go.RowKit
open kit

theorem pm_end (s : ByteArray) (b : Bool) (k : Nat) (h : s.size ≤ k) : passM b (s.data.toList.drop k) = 0 := by
  rw [drop_end s k h]; cases b <;> rfl
set_option maxRecDepth 100000 in
set_option maxHeartbeats 1000000 in
theorem lnext_yes (s : ByteArray) (i : Int) (w : World) (h1 : -9223372036854775808 ≤ i) (h2 : i ≤ 9223372036854775807) (hs : s.size ≤ 9223372036854775806) (kd : Nat) (tx : ByteArray) (pl n : Nat) (H : Hid (nextR s i = ((kd, tx, pl), n, 0, 0))) :
    Calls Tryd.prog 19 #[.string s, .int .i64 i, .agg #[.int .i64 (kd : Int), .string tx, .int .i64 (pl : Int)], .int .i64 (n : Int)] w fun e w' => e = .returned (.bool true) ∧ Below w.heap.size w w' := by
  have HB := Lib.hid ((Below.refl w.heap.size w).alloc (Nat.le_refl _) (.cells #[.int .i64 (kd : Int), .string tx, .int .i64 (pl : Int)] 23))
  have HX := Lib.hid (Box.new w 23 #[.int .i64 (kd : Int), .string tx, .int .i64 (pl : Int)])
  go_enter Tryd.func19, Tryd.ntmps19
  go_wp2_with (go_at_call 23; refine (pnext_any s i _ h1 h2 hs (kd, tx, pl) n 0 0 H).mono ?_; rintro e w1 ⟨rfl, B1⟩; obtain ⟨x0, x1, x2⟩ := (HX.out.below B1).cell3; have hlt := (HX.out.below B1).lt)
  go_ret
  exact ⟨rfl, ((below_then HB.out B1).alloc (below_then HB.out B1).size _).alloc (by have := (below_then HB.out B1).size; simp; omega) _⟩
theorem nextR_at {s : ByteArray} {k : Nat} {x : Lx} {n er a : Nat} (hk : k ≤ s.size) (h : nextR s (k : Int) = (x, n, er, a)) : a ≤ s.size := by
  rw [nextR_eq s k hk] at h
  have h2 := passAt_le s k hk
  split at h
  · have e := congrArg (fun t => t.2.2.2) h
    simp only at e; omega
  · split at h
    · have e := congrArg (fun t => t.2.2.2) h
      simp only at e; omega
    · have e := congrArg (fun t => t.2.2.2) h
      simp only at e; omega
theorem lexS_fault (s : ByteArray) : ∀ (f k : Nat) (acc L : List Li) (er p : Nat), k ≤ s.size → lexS s f k acc = (L, er, p) → p ≤ s.size := by
  intro f
  induction f with
  | zero => intro k acc L er p hk h; cases h; omega
  | succ f ih =>
    intro k acc L er p hk h
    obtain ⟨x, n, e, a, hn⟩ : ∃ x n e a, nextR s (k : Int) = (x, n, e, a) := ⟨_, _, _, _, rfl⟩
    obtain ⟨s5, s0, se⟩ := lexS_step h hn
    by_cases h5 : e = 5
    · cases s5 h5; omega
    · by_cases h0 : e = 0
      · exact ih _ _ _ _ _ (nextR_on hk hn h0).2 (s0 h0)
      · cases se h5 h0; exact nextR_at hk hn
theorem lexR_fault {s : ByteArray} {L : List Li} {er p : Nat} (hs : s.size ≤ 2000) (h : lexR s = (L, er, p)) : p ≤ s.size := by
  unfold lexR at h
  rw [if_neg (by omega)] at h
  exact lexS_fault s _ _ _ _ _ _ (by omega) h
theorem next_end {s : ByteArray} {k : Nat} {x : Lx} {n a : Nat} (hk : k ≤ s.size) (h : nextR s (k : Int) = (x, n, 5, a)) : passM false (s.data.toList.drop k) = s.size - k := by
  rw [nextR_eq s k hk] at h
  have h1 := passAt_ge s k
  by_cases h3 : passAt s k = s.size
  · unfold passAt at h3; omega
  · rw [if_neg h3] at h
    split at h
    · have := congrArg (fun t => t.2.2.1) h
      simp only at this; omega
    · have := congrArg (fun t => t.2.2.1) h
      simp only at this; omega
theorem lexS_zero (s : ByteArray) : ∀ (f k : Nat) (acc L : List Li) (p : Nat), lexS s f k acc = (L, 0, p) → p = 0 := by
  intro f
  induction f with
  | zero => intro k acc L p h; exact (congrArg (fun t => t.2.2) h).symm
  | succ f ih =>
    intro k acc L p h
    obtain ⟨x, n, e, a, hn⟩ : ∃ x n e a, nextR s (k : Int) = (x, n, e, a) := ⟨_, _, _, _, rfl⟩
    obtain ⟨s5, s0, se⟩ := lexS_step h hn
    by_cases h5 : e = 5
    · exact (congrArg (fun t => t.2.2) (s5 h5)).symm
    · by_cases h0 : e = 0
      · exact ih _ _ _ _ (s0 h0)
      · exact absurd (congrArg (fun t => t.2.1) (se h5 h0)) h0
theorem ReadsL.left {w : World} {a : Option Addr} {l r : List Li} (h : ReadsL w a (l ++ r)) : ReadsL w a l := fun i hi => by
  obtain ⟨b, off, e, hb, h0, h1, h2⟩ := h i (by rw [List.length_append]; omega)
  rw [List.getElem?_append_left hi] at h0 h1 h2
  exact ⟨b, off, e, hb, h0, h1, h2⟩
theorem lexS_places (s : ByteArray) : ∀ (f k : Nat) (acc : List Li), k ≤ s.size → (∀ x ∈ acc, 0 ≤ x.2.2 ∧ x.2.2 ≤ (s.size : Int)) → ∀ x ∈ (lexS s f k acc).1, 0 ≤ x.2.2 ∧ x.2.2 ≤ (s.size : Int) := by
  intro f
  induction f with
  | zero => intro k acc _ h; exact h
  | succ f ih =>
    intro k acc hk h
    rw [lexS]
    split
    · exact h
    · split
      · rename_i h0
        obtain ⟨x, n, er, a, hn⟩ : ∃ x n e a, nextR s (k : Int) = (x, n, e, a) := ⟨_, _, _, _, rfl⟩
        rw [hn] at h0 ⊢
        simp only at h0 ⊢
        subst h0
        obtain ⟨m, g1, g2, _⟩ := next_facts hk (by rw [hn, nextR_ok hn rfl])
        refine ih n _ (nextR_on hk hn rfl).2 fun y hy => ?_
        rcases List.mem_append.1 hy with hy | hy
        · exact h y hy
        · rw [List.mem_singleton] at hy
          subst hy
          unfold liOf
          simp only
          omega
      · intro x hx; cases hx
theorem lexR_places {s : ByteArray} {L : List Li} {er p : Nat} (h : lexR s = (L, er, p)) : ∀ x ∈ L, 0 ≤ x.2.2 ∧ x.2.2 ≤ (s.size : Int) := by
  unfold lexR at h
  split at h
  · cases h; intro x hx; cases hx
  · have := lexS_places s (s.size + 1) 0 [] (Nat.zero_le _) (fun x hx => nomatch hx)
    rw [h] at this
    exact this
end Go.Proofs.YtjhmlmimgahnmaaDoor.s04
