/-
  Layer 7, the program's side: Bytes, checkAll, List.
-/
import Derived.Test.YtniimoebgajefaaS07H
namespace Go.Proofs.Ytniimoebgajefaa.s07
set_option linter.unusedVariables false
set_option linter.unusedSimpArgs false
open Go.RowKit
open kit

theorem fL_frm (y p : Int) (x : ByteArray) : (⟨(fL [(y, x, p)]).toArray⟩ : ByteArray) = frm y x := by
  apply bytes_ext
  rw [fL_one]
  unfold fB
  simp
theorem one_row (W : World) (x : Li) : ReadsL (W.alloc (.cells #[.int .i64 x.1, .string x.2.1, .int .i64 x.2.2] 23)) (some ⟨W.heap.size, 0, none⟩) [x] :=
  readsL_of_row (E := 23) (base := 0) (n := 1) (cap := 1) rfl (World.ownsRow_lit (e := 23) W #[.int .i64 x.1, .string x.2.1, .int .i64 x.2.2] 1 (Nat.zero_le _) (by unfold maxLen; omega) rfl)
set_option maxRecDepth 100000 in
set_option maxHeartbeats 1000000 in
theorem tbytes_any (y p t : Int) (x : ByteArray) (w : World) (b : ByteArray) (c : Int) (H : Hid (bytesR y x p t = (b, c))) :
    Calls Try.prog 10 #[.agg #[.int .i64 y, .string x, .int .i64 p], .int .i64 t] w fun e w' => e = .returned (.tuple #[.string b, .int .i64 c]) ∧ Below w.heap.size w w' := by
  have HB := box1 y p x w
  have HX := box2 y p x w
  obtain ⟨k, hk⟩ : ∃ k, chkR y x.size p t = k := ⟨_, rfl⟩
  have HK := Lib.hid hk
  have hc := H.out
  unfold bytesR at hc
  rw [hk] at hc
  by_cases hk0 : k = 0
  · rw [if_pos hk0] at hc
    subst hk0
    obtain ⟨q0, _, _⟩ := chkR_ok hk
    obtain ⟨_, q2, q3, q4, q5⟩ := chkP_ok q0
    have HC := Lib.hid hc
    have hok : Hid (∀ z ∈ [(y, x, p)], okB z) := Lib.hid (by intro z hz; cases List.mem_singleton.1 hz; exact ⟨q3, by simp only; omega, q5⟩)
    clear H hk hc q0
    go_enter Try.func10, Try.ntmps10
    go_wp2_with (first
      | (go_at_call 15; refine (check_any y p t x _ 0 HK).mono ?_; rintro e w1 ⟨rfl, hB⟩; obtain ⟨c0, c1, c2⟩ := (HX.out.below hB).cell3; have hlt := (HX.out.below hB).lt; have B1 := Lib.hid (HB.out.trans (hB.mono HB.out.size)); clear hB)
      | (go_at_call 35; refine (frames_any _ 1 [(y, x, p)] _ (by simp) hok (Lib.hid (one_row _ (y, x, p)))).mono ?_; rintro e w2 ⟨rfl, hB⟩; have B2 := Lib.hid (below_alloc_then B1.out hB); clear hB))
    go_ret2
    exact ⟨ret_se (by rw [← HC.out, fL_frm]), B2.out⟩
  · rw [if_neg hk0] at hc
    have HC := Lib.hid hc
    have t0 : (k != 0) = true := by rw [bne_iff_ne]; exact hk0
    clear hc hk0 H hk
    go_enter Try.func10, Try.ntmps10
    go_wp2_with (go_at_call 15; refine (check_any y p t x _ k HK).mono ?_; rintro e w1 ⟨rfl, hB⟩)
    go_ret2
    exact ⟨ret_se HC.out, HB.out.trans (hB.mono HB.out.size)⟩
/-- the first error of a list -/
def firstE (f : Li → Int) : List Li → Int
  | [] => 0
  | x :: r => if f x = 0 then firstE f r else f x
def chkL (t : Int) (x : Li) : Int := chkR x.1 x.2.1.size x.2.2 t
def chkLP (t : Int) (x : Li) : Int := chkP x.1 x.2.1.size t
/-- checkAll's answer -/
def allR (f : Li → Int) (l : List Li) : Int := if 1000 < l.length then 6 else firstE f l
theorem drop_tok (l : List Li) (k : Nat) (h : k < l.length) : l.drop k = (l[k]?.getD noLi) :: l.drop (k + 1) := by
  rw [List.drop_eq_getElem_cons h, List.getElem?_eq_getElem h]; rfl
theorem firstE_ok {f : Li → Int} {l : List Li} (h : firstE f l = 0) : ∀ x ∈ l, f x = 0 := by
  induction l with
  | nil => intro x hx; cases hx
  | cons y r ih =>
    unfold firstE at h
    split at h
    · rename_i h0
      intro x hx
      rcases List.mem_cons.1 hx with rfl | hx
      · exact h0
      · exact ih h x hx
    · rename_i h0; exact absurd h h0
set_option maxRecDepth 100000 in
set_option maxHeartbeats 1000000 in
theorem all_check (a : Option Addr) (c : Nat) (l : List Li) (t : Int) (w : World) (hn : l.length ≤ 9223372036854775807) (hr : Hid (ReadsL w a l)) (er : Int) (H : Hid (allR (chkL t) l = er)) :
    Calls Try.prog 40 #[.slice a l.length c, .int .i64 t, .func (.func 15) #[] #[]] w fun e w' => e = .returned (.int .i64 er) ∧ Below w.heap.size w w' := by
  have hc := H.out
  unfold allR at hc
  clear H
  by_cases hbig : 1000 < l.length
  · rw [if_pos hbig] at hc
    have HC := Lib.hid hc
    have hb2 : (1000 : Int) < (l.length : Int) := by omega
    clear hc
    go_enter Try.func40, Try.ntmps40
    go_wp2
    go_ret
    exact ⟨ret_int HC.out, Below.refl _ _⟩
  · rw [if_neg hbig] at hc
    have HC : Hid (firstE (chkL t) (l.drop 0) = er) := Lib.hid hc
    have hb2 : ¬ (1000 : Int) < (l.length : Int) := by omega
    have hb3 : l.length ≤ 1000 := by omega
    clear hc hbig
    go_enter Try.func40, Try.ntmps40
    go_wp2
    go_loopw [15] (fun i wr => ∃ k : Nat, i = .int .i64 k ∧ k ≤ l.length ∧ Hid (firstE (chkL t) (l.drop k) = er) ∧ Hid (Below w.heap.size w wr)) (fun i _ => l.length - (intOf i).toNat)
    case atStart => exact ⟨0, rfl, by omega, HC, Lib.hid (Below.refl _ _)⟩
    case round =>
      obtain ⟨k, rfl, hk, HE, HB⟩ := hrel
      clear HC
      by_cases hlt : k < l.length
      · obtain ⟨b, off, rfl, hb, h0, h1, h2⟩ := (hr.out.below HB.out) k hlt
        have he := HE.out
        rw [drop_tok l k hlt] at he
        unfold firstE at he
        generalize l[k]?.getD noLi = y at h0 h1 h2 he
        obtain ⟨sy, tx, at'⟩ := y
        obtain ⟨q, hq⟩ : ∃ q, chkL t (sy, tx, at') = q := ⟨_, rfl⟩
        rw [hq] at he
        have HQ : Hid (chkR sy tx.size at' t = q) := Lib.hid hq
        have hwr := HB.out.size
        have hlt2 : b < wr.heap.size := cell_lt h0
        have B1 := Lib.hid (HB.out.alloc hwr (.cells #[.int .i64 sy, .string tx, .int .i64 at'] 23))
        clear HE hq
        by_cases hq0 : q = 0
        · rw [if_pos hq0] at he
          subst hq0
          have HN := Lib.hid he
          clear he
          go_wp2_with (go_at_call 15; refine (check_any sy at' t tx _ 0 HQ).mono ?_; rintro e w2 ⟨rfl, hB⟩; have B2 := Lib.hid (below_then B1.out hB); clear hB)
          go_roundw
          case rel => exact ⟨k + 1, by go_num, by omega, HN, B2⟩
          case measure => simp [intOf]; omega
        · rw [if_neg hq0] at he
          have HN := Lib.hid he
          have t0 : (q != 0) = true := by rw [bne_iff_ne]; exact hq0
          clear he hq0
          go_wp2_with (go_at_call 15; refine (check_any sy at' t tx _ q HQ).mono ?_; rintro e w2 ⟨rfl, hB⟩; have B2 := Lib.hid (below_then B1.out hB); clear hB)
          go_ret
          exact ⟨ret_int HN.out, B2.out⟩
      · have he := HE.out
        rw [List.drop_eq_nil_of_le (by omega)] at he
        have HN : Hid (0 = er) := Lib.hid he
        clear he HE
        go_wp2
        go_ret
        exact ⟨ret_int HN.out, HB.out⟩
set_option maxRecDepth 100000 in
set_option maxHeartbeats 1000000 in
theorem all_parts (a : Option Addr) (c : Nat) (l : List Li) (t : Int) (w : World) (hn : l.length ≤ 9223372036854775807) (hr : Hid (ReadsL w a l)) (er : Int) (H : Hid (allR (chkLP t) l = er)) :
    Calls Try.prog 40 #[.slice a l.length c, .int .i64 t, .func (.func 38) #[] #[]] w fun e w' => e = .returned (.int .i64 er) ∧ Below w.heap.size w w' := by
  have hc := H.out
  unfold allR at hc
  clear H
  by_cases hbig : 1000 < l.length
  · rw [if_pos hbig] at hc
    have HC := Lib.hid hc
    have hb2 : (1000 : Int) < (l.length : Int) := by omega
    clear hc
    go_enter Try.func40, Try.ntmps40
    go_wp2
    go_ret
    exact ⟨ret_int HC.out, Below.refl _ _⟩
  · rw [if_neg hbig] at hc
    have HC : Hid (firstE (chkLP t) (l.drop 0) = er) := Lib.hid hc
    have hb2 : ¬ (1000 : Int) < (l.length : Int) := by omega
    have hb3 : l.length ≤ 1000 := by omega
    clear hc hbig
    go_enter Try.func40, Try.ntmps40
    go_wp2
    go_loopw [15] (fun i wr => ∃ k : Nat, i = .int .i64 k ∧ k ≤ l.length ∧ Hid (firstE (chkLP t) (l.drop k) = er) ∧ Hid (Below w.heap.size w wr)) (fun i _ => l.length - (intOf i).toNat)
    case atStart => exact ⟨0, rfl, by omega, HC, Lib.hid (Below.refl _ _)⟩
    case round =>
      obtain ⟨k, rfl, hk, HE, HB⟩ := hrel
      clear HC
      by_cases hlt : k < l.length
      · obtain ⟨b, off, rfl, hb, h0, h1, h2⟩ := (hr.out.below HB.out) k hlt
        have he := HE.out
        rw [drop_tok l k hlt] at he
        unfold firstE at he
        generalize l[k]?.getD noLi = y at h0 h1 h2 he
        obtain ⟨sy, tx, at'⟩ := y
        obtain ⟨q, hq⟩ : ∃ q, chkLP t (sy, tx, at') = q := ⟨_, rfl⟩
        rw [hq] at he
        have HQ : Hid (chkP sy tx.size t = q) := Lib.hid hq
        have hwr := HB.out.size
        have hlt2 : b < wr.heap.size := cell_lt h0
        have B1 := Lib.hid (HB.out.alloc hwr (.cells #[.int .i64 sy, .string tx, .int .i64 at'] 23))
        clear HE hq
        by_cases hq0 : q = 0
        · rw [if_pos hq0] at he
          subst hq0
          have HN := Lib.hid he
          clear he
          go_wp2_with (go_at_call 38; refine (checkParts_any sy at' t tx _ 0 HQ).mono ?_; rintro e w2 ⟨rfl, hB⟩; have B2 := Lib.hid (below_then B1.out hB); clear hB)
          go_roundw
          case rel => exact ⟨k + 1, by go_num, by omega, HN, B2⟩
          case measure => simp [intOf]; omega
        · rw [if_neg hq0] at he
          have HN := Lib.hid he
          have t0 : (q != 0) = true := by rw [bne_iff_ne]; exact hq0
          clear he hq0
          go_wp2_with (go_at_call 38; refine (checkParts_any sy at' t tx _ q HQ).mono ?_; rintro e w2 ⟨rfl, hB⟩; have B2 := Lib.hid (below_then B1.out hB); clear hB)
          go_ret
          exact ⟨ret_int HN.out, B2.out⟩
      · have he := HE.out
        rw [List.drop_eq_nil_of_le (by omega)] at he
        have HN : Hid (0 = er) := Lib.hid he
        clear he HE
        go_wp2
        go_ret
        exact ⟨ret_int HN.out, HB.out⟩
end Go.Proofs.Ytniimoebgajefaa.s07
