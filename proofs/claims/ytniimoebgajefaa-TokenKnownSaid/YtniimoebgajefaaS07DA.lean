/-
  Layer 7: the reference's Begins and Read.
-/
import Derived.Test.YtniimoebgajefaaS07C
namespace Go.Proofs.Ytniimoebgajefaa.s07
set_option linter.unusedVariables false
set_option linter.unusedSimpArgs false
open Go.RowKit
open kit

theorem Box.drew {w : World} {t : TypeId} {b : Nat} {xs : Array Value} (h : Box w t b xs) : Box w.drew t b xs := h
theorem Box.drewN {w : World} {t : TypeId} {b : Nat} {xs : Array Value} (h : Box w t b xs) (n : Nat) : Box (w.drewN n) t b xs := h
theorem Box.put2 {w : World} {t : TypeId} {b : Nat} {a0 a1 : Value} (h : Box w t b #[a0, a1]) (u0 u1 : Value) : Box ((w.setCell ⟨b, 0, none⟩ u0).setCell ⟨b, 1, none⟩ u1) t b #[u0, u1] := (h.set 0 (by simp) u0).set 1 (by simp) u1
theorem Box.put3 {w : World} {t : TypeId} {b : Nat} {a0 a1 a2 : Value} (h : Box w t b #[a0, a1, a2]) (u0 u1 u2 : Value) : Box (((w.setCell ⟨b, 0, none⟩ u0).setCell ⟨b, 1, none⟩ u1).setCell ⟨b, 2, none⟩ u2) t b #[u0, u1, u2] := ((h.set 0 (by simp) u0).set 1 (by simp) u1).set 2 (by simp) u2
theorem Box.far2 {w : World} {t : TypeId} {b b' : Nat} {xs : Array Value} (h : Box w t b xs) (hne : b ≠ b') (u0 u1 : Value) : Box ((w.setCell ⟨b', 0, none⟩ u0).setCell ⟨b', 1, none⟩ u1) t b xs := (h.other hne u0).other hne u1
theorem Box.far3 {w : World} {t : TypeId} {b b' : Nat} {xs : Array Value} (h : Box w t b xs) (hne : b ≠ b') (u0 u1 u2 : Value) : Box (((w.setCell ⟨b', 0, none⟩ u0).setCell ⟨b', 1, none⟩ u1).setCell ⟨b', 2, none⟩ u2) t b xs := ((h.other hne u0).other hne u1).other hne u2
theorem below_put2 {B b : Nat} {w w1 : World} (h : Below B w w1) (hb : B ≤ b) (u0 u1 : Value) : Below B w ((w1.setCell ⟨b, 0, none⟩ u0).setCell ⟨b, 1, none⟩ u1) := (h.setCell (p := ⟨b, 0, none⟩) hb u0).setCell (p := ⟨b, 1, none⟩) hb u1
theorem below_put3 {B b : Nat} {w w1 : World} (h : Below B w w1) (hb : B ≤ b) (u0 u1 u2 : Value) : Below B w (((w1.setCell ⟨b, 0, none⟩ u0).setCell ⟨b, 1, none⟩ u1).setCell ⟨b, 2, none⟩ u2) := (below_put2 h hb u0 u1).setCell (p := ⟨b, 2, none⟩) hb u2
/-- Begins' answer -/
def beginsR (s : ByteArray) (t : Int) : Bool × Int := if t < 1 ∨ 8 < t then (false, 2) else if badR s t = 0 then (!wholeR s, 0) else (false, badR s t)
/-- Read's answer: the token, how many bytes, the error, the offset -/
def readR (s : ByteArray) (t a : Int) : Li × Int × Int × Int :=
  if (t < 1 ∨ 8 < t) ∨ (a < 0 ∨ 1099511627776 < a) then (noLi, 0, 2, 0) else if badR s t = 0 then (if wholeR s then (((atB s 0 : Int), s.extract 2 (2 + atB s 1), a), 2 + (atB s 1 : Int), 0, 0) else (noLi, 0, 5, a)) else (noLi, 0, badR s t, a)
theorem ret_be {b b' : Bool} {c c' : Int} (h : (b, c) = (b', c')) : Ending.returned (.tuple #[.bool b, .int .i64 c]) = .returned (.tuple #[.bool b', .int .i64 c']) := by cases h; rfl
/-- what Read hands back -/
abbrev ReadV (y : Int) (x : ByteArray) (p n er a : Int) : Value := .tuple #[.agg #[.int .i64 y, .string x, .int .i64 p], .int .i64 n, .agg #[.int .i64 er, .int .i64 a]]
theorem ret_rd {y y' p p' n n' er er' a a' : Int} {x x' : ByteArray} (h : ((y, x, p), n, er, a) = ((y', x', p'), n', er', a')) : Ending.returned (ReadV y x p n er a) = .returned (ReadV y' x' p' n' er' a') := by cases h; rfl
set_option maxRecDepth 100000 in
set_option maxHeartbeats 1000000 in
theorem rbegins_any (s : ByteArray) (t : Int) (w : World) (hs : s.size ≤ 9223372036854775806) (v : Bool) (c : Int) (H : Hid (beginsR s t = (v, c))) :
    Calls Try.prog 27 #[.string s, .int .i64 t] w fun e w' => e = .returned (.tuple #[.bool v, .int .i64 c]) ∧ w = w' := by
  have hc := H.out
  unfold beginsR at hc
  clear H
  by_cases ht : t < 1 ∨ 8 < t
  · rw [if_pos ht] at hc
    have HC := Lib.hid hc
    clear hc
    go_enter Try.func27, Try.ntmps27
    go_wp2_with (go_at_call 42; refine (terminals_no t _ ht).mono ?_; rintro e w1 ⟨rfl, rfl⟩)
    go_ret2
    exact ⟨ret_be HC.out, rfl⟩
  · rw [if_neg ht] at hc
    have h1 : 1 ≤ t := by omega
    have h2 : t ≤ 8 := by omega
    clear ht
    obtain ⟨k, hk⟩ : ∃ k, badR s t = k := ⟨_, rfl⟩
    rw [hk] at hc
    have HK := Lib.hid hk
    clear hk
    by_cases h0 : k = 0
    · rw [if_pos h0] at hc
      subst h0
      cases hw : wholeR s
      · have HW := Lib.hid hw
        have HC : Hid ((true, 0) = (v, c)) := Lib.hid (by rw [← hc, hw]; rfl)
        clear hc hw
        go_enter Try.func27, Try.ntmps27
        go_wp2_with (first
          | (go_at_call 42; refine (terminals_yes t _ h1 h2).mono ?_; rintro e w1 ⟨rfl, rfl⟩)
          | (go_at_call 43; refine (bad_any s t _ hs).mono ?_; rintro e w1 ⟨rfl, rfl⟩; rw [HK.out])
          | (go_at_call 44; refine (whole_any s _ hs false HW).mono ?_; rintro e w1 ⟨rfl, rfl⟩))
        go_ret2
        exact ⟨ret_be HC.out, rfl⟩
      · have HW := Lib.hid hw
        have HC : Hid ((false, 0) = (v, c)) := Lib.hid (by rw [← hc, hw]; rfl)
        clear hc hw
        go_enter Try.func27, Try.ntmps27
        go_wp2_with (first
          | (go_at_call 42; refine (terminals_yes t _ h1 h2).mono ?_; rintro e w1 ⟨rfl, rfl⟩)
          | (go_at_call 43; refine (bad_any s t _ hs).mono ?_; rintro e w1 ⟨rfl, rfl⟩; rw [HK.out])
          | (go_at_call 44; refine (whole_any s _ hs true HW).mono ?_; rintro e w1 ⟨rfl, rfl⟩))
        go_ret2
        exact ⟨ret_be HC.out, rfl⟩
    · rw [if_neg h0] at hc
      have HC := Lib.hid hc
      have t0 : (k == 0) = false := by rw [beq_eq_false_iff_ne]; exact h0
      clear hc h0
      go_enter Try.func27, Try.ntmps27
      go_wp2_with (first
        | (go_at_call 42; refine (terminals_yes t _ h1 h2).mono ?_; rintro e w1 ⟨rfl, rfl⟩)
        | (go_at_call 43; refine (bad_any s t _ hs).mono ?_; rintro e w1 ⟨rfl, rfl⟩; rw [HK.out]))
      go_ret2
      exact ⟨ret_be HC.out, rfl⟩
theorem rread_results (tm : Array Value) (W : World) (b b' : Nat) {y x p n er a : Value} (h6 : tm.getD 6 undef = .pointer (some ⟨b, 0, none⟩)) (h7 : tm.getD 7 undef = n) (h8 : tm.getD 8 undef = .pointer (some ⟨b', 0, none⟩))
    (X : Box W 23 b #[y, x, p]) (Y : Box W 41 b' #[er, a]) : (results Try.f26 tm).run Try.prog W = .ok (.tuple #[.agg #[y, x, p], n, .agg #[er, a]]) W := by
  obtain ⟨c0, c1, c2⟩ := X.cell3
  obtain ⟨d0, d1⟩ := Y.cell2
  simp only [Array.getD_eq_getD_getElem?] at h6 h7 h8
  simp [results, Try.results26, go_sem, h6, h7, h8, c0, c1, c2, d0, d1]
/-- the two results' boxes, fresh -/
theorem two_new (w : World) (xs ys : Array Value) : Box ((w.alloc (.cells xs 23)).alloc (.cells ys 41)) 23 w.heap.size xs
    ∧ Box ((w.alloc (.cells xs 23)).alloc (.cells ys 41)) 41 (w.heap.size + 1) ys
    ∧ Below w.heap.size w ((w.alloc (.cells xs 23)).alloc (.cells ys 41)) :=
  ⟨(Box.new w _ _).alloc _, by
    have := Box.new (w.alloc (.cells xs 23)) 41 ys
    rwa [show (w.alloc (.cells xs 23)).heap.size = w.heap.size + 1 from Array.size_push ..] at this, ((Below.refl _ w).alloc (Nat.le_refl _) _).alloc (by simp) _⟩
end Go.Proofs.Ytniimoebgajefaa.s07
