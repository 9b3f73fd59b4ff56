/-
  Layer 4, the program's side: the cursor.
-/
import Derived.Test.YtjhmlmimgahnmaaDoorS04PA
import Derived.Test.YtjhmlmimgahnmaaDoorS04X
import Derived.Deep.LoopGhost
namespace Go.Proofs.YtjhmlmimgahnmaaDoor.s04
set_option linter.unusedVariables false
set_option linter.unusedSimpArgs false
open Go.RowKit
open kit

/-- block b is a reader of s at k -/
def Rd (w : World) (b : Nat) (s : ByteArray) (k : Nat) (g : Int) : Prop := Box w 61 b #[.string s, .int .i64 (k : Int), .int .i64 g]
/-- the class of the byte at a place -/
def clsAt (s : ByteArray) (k : Nat) : Nat := if h : k < s.size then clsB s[k].toNat else 0
theorem cls_in {s : ByteArray} {k : Nat} (h : k < s.size) : clsAt s k = clsB s[k].toNat := dif_pos h
theorem cls_out {s : ByteArray} {k : Nat} (h : s.size ≤ k) : clsAt s k = 0 := dif_neg (by omega)
set_option maxRecDepth 100000 in
set_option maxHeartbeats 1000000 in
theorem here_any (b : Nat) (s : ByteArray) (k : Nat) (g : Int) (w : World) (hk : k ≤ s.size) (hs : s.size ≤ 9223372036854775806) (R : Hid (Rd w b s k g)) :
    Calls Tryd.prog 52 #[.pointer (some ⟨b, 0, none⟩)] w fun e w' => e = .returned (.int .i64 (clsAt s k : Nat)) ∧ Below w.heap.size w w' := by
  obtain ⟨c0, c1, c2⟩ := R.out.cell3
  by_cases hlt : k < s.size
  · have t1 : ((k : Int) == (s.size : Int)) = false := by rw [beq_eq_false_iff_ne]; omega
    have hb := s[k].toNat_lt
    have HX := Lib.hid (cls_in hlt)
    go_enter Tryd.func52, Tryd.ntmps52
    go_wp2
    go_quiet (fail)
    go_wp2
    have R2 : Rd (w.drewN nq) b s k g := R.out
    have hB2 : Below w.heap.size w (w.drewN nq) := below_drewN (Below.refl _ _) _
    generalize w.drewN nq = w2 at R2 hB2 ⊢
    clear c0 c1 c2
    obtain ⟨d0, d1, d2⟩ := R2.cell3
    go_still_tail 9, (by kernel_rfl)
    have hB3 := hB2.drew
    change wpList _ _ _ _ _ w2.drew
    go_wp2_with (go_at_call 62; refine (classOf_any _ hb _).mono ?_; rintro e w3 ⟨rfl, hB4⟩)
    go_ret
    exact ⟨ret_int (by rw [HX.out]), below_then hB3 hB4⟩
  · have t1 : ((k : Int) == (s.size : Int)) = true := by rw [beq_iff_eq]; omega
    have HX := Lib.hid (cls_out (s := s) (k := k) (by omega))
    go_enter Tryd.func52, Tryd.ntmps52
    go_wp2
    go_quiet (fail)
    go_wp2
    go_ret
    exact ⟨ret_int (by rw [HX.out]; rfl), below_drewN (Below.refl _ _) _⟩
theorem Rd.move {w : World} {b : Nat} {s : ByteArray} {k : Nat} {g : Int} (h : Rd w b s k g) (k' : Nat) : Rd (w.setCell ⟨b, 1, none⟩ (.int .i64 (k' : Int))) b s k' g := Box.set h 1 (by simp) _
theorem Rd.begin {w : World} {b : Nat} {s : ByteArray} {k : Nat} {g : Int} (h : Rd w b s k g) (g' : Int) : Rd (w.setCell ⟨b, 2, none⟩ (.int .i64 g')) b s k g' := Box.set h 2 (by simp) _
theorem Rd.alloc {w : World} {b : Nat} {s : ByteArray} {k : Nat} {g : Int} (h : Rd w b s k g) (o : Obj) : Rd (w.alloc o) b s k g := Box.alloc h o
theorem Rd.lt {w : World} {b : Nat} {s : ByteArray} {k : Nat} {g : Int} (h : Rd w b s k g) : b < w.heap.size := Box.lt h
theorem Rd.below {w w1 : World} {b : Nat} {s : ByteArray} {k : Nat} {g : Int} (h : Rd w b s k g) (hB : Below w.heap.size w w1) : Rd w1 b s k g := Box.below h hB
theorem cls_word (n : Nat) : (clsB n == 3 || clsB n == 6 || (clsB n == 4 || clsB n == 5)) = wordB n := by
  unfold clsB wordB
  cases hl : letterB n
  · cases hd : digitB n
    · have h48 : n ≠ 48 := by rintro rfl; exact absurd hd (by decide)
      by_cases h95 : n = 95
      · simp [h95]
      · simp only [Bool.false_eq_true, if_false, if_neg h48, if_neg h95]
        (repeat' split) <;> simp [h95]
    · by_cases h48 : n = 48 <;> simp [h48]
  · simp
theorem cls_digit (n : Nat) : (clsB n == 4 || clsB n == 5) = digitB n := by
  unfold clsB
  cases hl : letterB n
  · cases hd : digitB n
    · have h48 : n ≠ 48 := by rintro rfl; exact absurd hd (by decide)
      by_cases h95 : n = 95
      · simp [h95]
      · simp only [Bool.false_eq_true, if_false, if_neg h48, if_neg h95]
        (repeat' split) <;> simp
    · by_cases h48 : n = 48 <;> simp [h48]
  · have : digitB n = false := by
      unfold letterB at hl; unfold digitB
      rw [decide_eq_false_iff_not]; have := of_decide_eq_true hl; omega
    simp [this]
def Moved (w : World) (b : Nat) (s : ByteArray) (k : Nat) (g : Int) (e : Ending) (w' : World) : Prop := e = .returned (.tuple #[]) ∧ Rd w' b s k g ∧ GB b w w'
set_option maxRecDepth 100000 in
set_option maxHeartbeats 1000000 in
theorem passWord_any (b : Nat) (s : ByteArray) (k0 : Nat) (g : Int) (w : World) (hk0 : k0 ≤ s.size) (hs : s.size ≤ 9223372036854775806) (R : Hid (Rd w b s k0 g)) (m : Nat) (HM : Hid (m = runAt wordB s k0)) :
    Calls Tryd.prog 54 #[.pointer (some ⟨b, 0, none⟩), .func (.func 55) #[] #[]] w (Moved w b s m g) := by
  go_enter Tryd.func54, Tryd.ntmps54
  go_wp2
  have HB0 := Lib.hid (GB.refl b w)
  go_loopg [] (s.size - k0) (fun kx wr => ∃ k : Nat, k ≤ s.size ∧ s.size - k ≤ kx ∧ Hid (m = runAt wordB s k) ∧ Hid (Rd wr b s k g) ∧ Hid (GB b w wr))
  case atStart => exact ⟨k0, hk0, Nat.le_refl _, HM, R, HB0⟩
  case round =>
    obtain ⟨k, hk, hkx, HK, HR, HB⟩ := hrel
    by_cases hlt : k < s.size
    · cases hp : wordB s[k].toNat
      · have HC : Hid ((clsAt s k == 3 || clsAt s k == 6 || (clsAt s k == 4 || clsAt s k == 5)) = false) := Lib.hid (by rw [cls_in hlt, cls_word]; exact hp)
        have HE : Hid (m = k) := Lib.hid (by rw [HK.out, run_off hlt hp])
        clear hp
        go_wp2_with (first
          | (go_at_call 52; refine (here_any b s k g _ hk hs HR).mono ?_; rintro e w1 ⟨rfl, hB1⟩; have HR1 := Lib.hid (HR.out.below hB1); have HB1 := Lib.hid (HB.out.then hB1); clear hB1)
          | (go_at_call 55; refine (inWord_any _ _).mono ?_; rintro e w2 ⟨rfl, rfl⟩; rw [HC.out]))
        go_end0
        exact ⟨rfl, by rw [HE.out]; exact HR1.out, HB1.out⟩
      · have HC : Hid ((clsAt s k == 3 || clsAt s k == 6 || (clsAt s k == 4 || clsAt s k == 5)) = true) := Lib.hid (by rw [cls_in hlt, cls_word]; exact hp)
        have HE : Hid (m = runAt wordB s (k + 1)) := Lib.hid (by rw [HK.out, run_on hlt hp])
        clear hp
        go_wp2_with (first
          | (go_at_call 52; refine (here_any b s k g _ hk hs HR).mono ?_; rintro e w1 ⟨rfl, hB1⟩; have HR1 := Lib.hid (HR.out.below hB1); have HB1 := Lib.hid (HB.out.then hB1); clear hB1; obtain ⟨d0, d1, d2⟩ := HR1.out.cell3; obtain ⟨f0, f1, f2⟩ := HR1.out.free3)
          | (go_at_call 55; refine (inWord_any _ _).mono ?_; rintro e w2 ⟨rfl, rfl⟩; rw [HC.out]))
        have HR2 := Lib.hid (HR1.out.move (k + 1))
        go_roundg (s.size - (k + 1))
        case measure => omega
        case rel => exact ⟨k + 1, by omega, Nat.le_refl _, HE, HR2, Lib.hid (HB1.out.set 1 _)⟩
    · have HC : Hid ((clsAt s k == 3 || clsAt s k == 6 || (clsAt s k == 4 || clsAt s k == 5)) = false) := Lib.hid (by rw [cls_out (by omega)]; rfl)
      have HE : Hid (m = k) := Lib.hid (by rw [HK.out, run_end (by omega)])
      go_wp2_with (first
        | (go_at_call 52; refine (here_any b s k g _ hk hs HR).mono ?_; rintro e w1 ⟨rfl, hB1⟩; have HR1 := Lib.hid (HR.out.below hB1); have HB1 := Lib.hid (HB.out.then hB1); clear hB1)
        | (go_at_call 55; refine (inWord_any _ _).mono ?_; rintro e w2 ⟨rfl, rfl⟩; rw [HC.out]))
      go_end0
      exact ⟨rfl, by rw [HE.out]; exact HR1.out, HB1.out⟩
set_option maxRecDepth 100000 in
set_option maxHeartbeats 1000000 in
theorem passNumber_any (b : Nat) (s : ByteArray) (k0 : Nat) (g : Int) (w : World) (hk0 : k0 ≤ s.size) (hs : s.size ≤ 9223372036854775806) (R : Hid (Rd w b s k0 g)) (m : Nat) (HM : Hid (m = runAt digitB s k0)) :
    Calls Tryd.prog 54 #[.pointer (some ⟨b, 0, none⟩), .func (.func 56) #[] #[]] w (Moved w b s m g) := by
  go_enter Tryd.func54, Tryd.ntmps54
  go_wp2
  have HB0 := Lib.hid (GB.refl b w)
  go_loopg [] (s.size - k0) (fun kx wr => ∃ k : Nat, k ≤ s.size ∧ s.size - k ≤ kx ∧ Hid (m = runAt digitB s k) ∧ Hid (Rd wr b s k g) ∧ Hid (GB b w wr))
  case atStart => exact ⟨k0, hk0, Nat.le_refl _, HM, R, HB0⟩
  case round =>
    obtain ⟨k, hk, hkx, HK, HR, HB⟩ := hrel
    by_cases hlt : k < s.size
    · cases hp : digitB s[k].toNat
      · have HC : Hid ((clsAt s k == 4 || clsAt s k == 5) = false) := Lib.hid (by rw [cls_in hlt, cls_digit]; exact hp)
        have HE : Hid (m = k) := Lib.hid (by rw [HK.out, run_off hlt hp])
        clear hp
        go_wp2_with (first
          | (go_at_call 52; refine (here_any b s k g _ hk hs HR).mono ?_; rintro e w1 ⟨rfl, hB1⟩; have HR1 := Lib.hid (HR.out.below hB1); have HB1 := Lib.hid (HB.out.then hB1); clear hB1)
          | (go_at_call 56; refine (inNumber_any _ _).mono ?_; rintro e w2 ⟨rfl, rfl⟩; rw [HC.out]))
        go_end0
        exact ⟨rfl, by rw [HE.out]; exact HR1.out, HB1.out⟩
      · have HC : Hid ((clsAt s k == 4 || clsAt s k == 5) = true) := Lib.hid (by rw [cls_in hlt, cls_digit]; exact hp)
        have HE : Hid (m = runAt digitB s (k + 1)) := Lib.hid (by rw [HK.out, run_on hlt hp])
        clear hp
        go_wp2_with (first
          | (go_at_call 52; refine (here_any b s k g _ hk hs HR).mono ?_; rintro e w1 ⟨rfl, hB1⟩; have HR1 := Lib.hid (HR.out.below hB1); have HB1 := Lib.hid (HB.out.then hB1); clear hB1; obtain ⟨d0, d1, d2⟩ := HR1.out.cell3; obtain ⟨f0, f1, f2⟩ := HR1.out.free3)
          | (go_at_call 56; refine (inNumber_any _ _).mono ?_; rintro e w2 ⟨rfl, rfl⟩; rw [HC.out]))
        have HR2 := Lib.hid (HR1.out.move (k + 1))
        go_roundg (s.size - (k + 1))
        case measure => omega
        case rel => exact ⟨k + 1, by omega, Nat.le_refl _, HE, HR2, Lib.hid (HB1.out.set 1 _)⟩
    · have HC : Hid ((clsAt s k == 4 || clsAt s k == 5) = false) := Lib.hid (by rw [cls_out (by omega)]; rfl)
      have HE : Hid (m = k) := Lib.hid (by rw [HK.out, run_end (by omega)])
      go_wp2_with (first
        | (go_at_call 52; refine (here_any b s k g _ hk hs HR).mono ?_; rintro e w1 ⟨rfl, hB1⟩; have HR1 := Lib.hid (HR.out.below hB1); have HB1 := Lib.hid (HB.out.then hB1); clear hB1)
        | (go_at_call 56; refine (inNumber_any _ _).mono ?_; rintro e w2 ⟨rfl, rfl⟩; rw [HC.out]))
      go_end0
      exact ⟨rfl, by rw [HE.out]; exact HR1.out, HB1.out⟩
end Go.Proofs.YtjhmlmimgahnmaaDoor.s04
