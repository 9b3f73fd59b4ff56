/-
  Layer 3: the program's Check, Small, Capital, Find, Twice.
-/
import Derived.Test.YtabcggmmdjeobaaDoorS03PB
namespace Go.Proofs.YtabcggmmdjeobaaDoor.s03
set_option linter.unusedVariables false
set_option linter.unusedSimpArgs false
open Go.RowKit
open kit

set_option maxRecDepth 100000 in
theorem check_any (s : ByteArray) (w : World) (hs : s.size ≤ 9223372036854775807) : Calls Tryd.prog 12 #[.string s] w fun e w' => e = .returned (.int .i64 (checkR s.data.toList)) ∧ Below w.heap.size w w' := by
  have H := Lib.hid (show checkR s.data.toList = if wordR s.data.toList = 0 ∧ langB s.data.toList = true then 12 else wordR s.data.toList from rfl)
  have HW := fun w => Lib.hid (word_any s w hs)
  have HL := fun w => Lib.hid (lang_any s w)
  rw [ByteArray.toList_eq] at HL
  generalize wordR s.data.toList = e at H HW
  generalize langB s.data.toList = b at H HL
  generalize checkR s.data.toList = r at H
  by_cases he : e = 0
  · subst he
    cases b
    · have HX : Hid ((0 : Int) = r) := Lib.hid (by rw [H.out, if_neg (by simp)])
      go_enter Tryd.func12, Tryd.ntmps12
      go_wp2_with (first
        | (go_at_call 11; refine ((HW _).out).mono ?_; rintro e w1 ⟨rfl, hB1⟩)
        | (go_at_call 13; refine ((HL _).out).mono ?_; rintro e w2 ⟨rfl, hB2⟩))
      go_ret
      exact ⟨ret_int HX.out, below_then hB1 hB2⟩
    · have HX : Hid ((12 : Int) = r) := Lib.hid (by rw [H.out, if_pos ⟨rfl, rfl⟩])
      go_enter Tryd.func12, Tryd.ntmps12
      go_wp2_with (first
        | (go_at_call 11; refine ((HW _).out).mono ?_; rintro e w1 ⟨rfl, hB1⟩)
        | (go_at_call 13; refine ((HL _).out).mono ?_; rintro e w2 ⟨rfl, hB2⟩))
      go_ret
      exact ⟨ret_int HX.out, below_then hB1 hB2⟩
  · have te : (e != 0) = true := bne_iff_ne.2 he
    have HX : Hid (e = r) := Lib.hid (by rw [H.out, if_neg (fun h => he h.1)])
    clear he
    go_enter Tryd.func12, Tryd.ntmps12
    go_wp2_with (go_at_call 11; refine ((HW _).out).mono ?_; rintro e w1 ⟨rfl, hB1⟩)
    go_ret
    exact ⟨ret_int HX.out, hB1⟩
set_option maxRecDepth 100000 in
theorem small_any (s : ByteArray) (w : World) (hs : s.size ≤ 9223372036854775807) : Calls Tryd.prog 14 #[.string s] w fun e w' => e = .returned (.bool (kindB 97 122 s.data.toList)) ∧ Below w.heap.size w w' := by
  have HC := fun w => Lib.hid (check_any s w hs)
  by_cases h0 : checkR s.data.toList = 0
  · have hp := check_pos h0
    have HK := Lib.hid (kind_yes (lo := 97) (hi := 122) h0 hp)
    have hb := s[0].toNat_lt
    have HS := fun w => Lib.hid (smallp_any s[0].toNat (by omega) w)
    have HX : Hid (smallB s[0].toNat = kindB 97 122 s.data.toList) := Lib.hid (by rw [HK.out]; rfl)
    rw [h0] at HC
    clear h0 HK
    generalize kindB 97 122 s.data.toList = r at HX
    generalize smallB s[0].toNat = q at HX HS
    go_enter Tryd.func14, Tryd.ntmps14
    go_wp2_with (first
      | (go_at_call 12; refine ((HC _).out).mono ?_; rintro e w1 ⟨rfl, hB1⟩)
      | (go_at_call 42; refine ((HS _).out).mono ?_; rintro e w2 ⟨rfl, rfl⟩))
    go_ret
    exact ⟨ret_bool HX.out, hB1⟩
  · have te : (checkR s.data.toList == 0) = false := beq_eq_false_iff_ne.2 h0
    have HK := Lib.hid (kind_no (lo := 97) (hi := 122) h0)
    clear h0
    generalize checkR s.data.toList = e at HC te
    go_enter Tryd.func14, Tryd.ntmps14
    go_wp2_with (go_at_call 12; refine ((HC _).out).mono ?_; rintro e w1 ⟨rfl, hB1⟩)
    go_ret
    exact ⟨ret_bool HK.out.symm, hB1⟩

set_option maxRecDepth 100000 in
theorem capital_any (s : ByteArray) (w : World) (hs : s.size ≤ 9223372036854775807) : Calls Tryd.prog 15 #[.string s] w fun e w' => e = .returned (.bool (kindB 65 90 s.data.toList)) ∧ Below w.heap.size w w' := by
  have HC := fun w => Lib.hid (check_any s w hs)
  by_cases h0 : checkR s.data.toList = 0
  · have hp := check_pos h0
    have HK := Lib.hid (kind_yes (lo := 65) (hi := 90) h0 hp)
    have hb := s[0].toNat_lt
    have HS := fun w => Lib.hid (capp_any s[0].toNat (by omega) w)
    have HX : Hid (capB s[0].toNat = kindB 65 90 s.data.toList) := Lib.hid (by rw [HK.out]; rfl)
    rw [h0] at HC
    clear h0 HK
    generalize kindB 65 90 s.data.toList = r at HX
    generalize capB s[0].toNat = q at HX HS
    go_enter Tryd.func15, Tryd.ntmps15
    go_wp2_with (first
      | (go_at_call 12; refine ((HC _).out).mono ?_; rintro e w1 ⟨rfl, hB1⟩)
      | (go_at_call 43; refine ((HS _).out).mono ?_; rintro e w2 ⟨rfl, rfl⟩))
    go_ret
    exact ⟨ret_bool HX.out, hB1⟩
  · have te : (checkR s.data.toList == 0) = false := beq_eq_false_iff_ne.2 h0
    have HK := Lib.hid (kind_no (lo := 65) (hi := 90) h0)
    clear h0
    generalize checkR s.data.toList = e at HC te
    go_enter Tryd.func15, Tryd.ntmps15
    go_wp2_with (go_at_call 12; refine ((HC _).out).mono ?_; rintro e w1 ⟨rfl, hB1⟩)
    go_ret
    exact ⟨ret_bool HK.out.symm, hB1⟩

theorem find_search {l : List ByteArray} {s : ByteArray} {i er : Int} (hb : ¬ 100 < l.length) (h : findR l s = (i, er)) : (searchR l s = (i, true) ∧ er = 0) ∨ (searchR l s = (0, false) ∧ i = 0 ∧ er = 7) := by
  unfold findR at h
  rw [if_neg hb] at h
  unfold searchR
  by_cases hi : idx l s < l.length
  · rw [if_pos hi] at h; cases h; exact .inl ⟨if_pos hi, rfl⟩
  · rw [if_neg hi] at h; cases h; exact .inr ⟨if_neg hi, rfl, rfl⟩
set_option maxRecDepth 100000 in
theorem find_any (a : Option Addr) (cap : Nat) (ss : List ByteArray) (s : ByteArray) (i er : Int) (w : World) (hn : ss.length ≤ 9223372036854775807) (hr : ReadsS w a ss) (H : Hid (findR ss s = (i, er))) :
    Calls Tryd.prog 18 #[.slice a ss.length cap, .string s] w fun e w' => e = .returned (.tuple #[.int .i64 i, .int .i64 er]) ∧ Below w.heap.size w w' := by
  have HR := Lib.hid (hr.alloc (.cells #[.string s] 9))
  have HB := Lib.hid (box_new w (.string s) 9)
  have KB := (Below.refl w.heap.size w).alloc (Nat.le_refl _) (.cells #[.string s] 9)
  clear hr
  by_cases hb : 100 < ss.length
  · have h := H.out
    unfold findR at h
    rw [if_pos hb] at h; cases h
    clear H
    go_enter Tryd.func18, Tryd.ntmps18
    go_wp2
    go_ret2
    exact ⟨rfl, Below.refl _ _⟩
  · rcases find_search hb H.out with ⟨h, rfl⟩ | ⟨h, rfl, rfl⟩
    · have HI := Lib.hid h
      clear H h
      go_enter Tryd.func18, Tryd.ntmps18
      go_wp2_with (first
        | (go_at_call 48; refine (equals_any s _).mono ?_; rintro e w1 ⟨rfl, rfl⟩)
        | (go_at_call 47; refine (search_any a cap ss s w.heap.size i true _ hn HR.out HB.out HI).mono ?_; rintro e w1 ⟨rfl, rfl⟩))
      go_ret2
      exact ⟨rfl, KB⟩
    · have HI := Lib.hid h
      clear H h
      go_enter Tryd.func18, Tryd.ntmps18
      go_wp2_with (first
        | (go_at_call 48; refine (equals_any s _).mono ?_; rintro e w1 ⟨rfl, rfl⟩)
        | (go_at_call 47; refine (search_any a cap ss s w.heap.size 0 false _ hn HR.out HB.out HI).mono ?_; rintro e w1 ⟨rfl, rfl⟩))
      go_ret2
      exact ⟨rfl, KB⟩
theorem reads_take {w : World} {a : Option Addr} {ss : List ByteArray} (h : ReadsS w a ss) (k : Nat) : ReadsS w a (ss.take k) := fun i hi => by
  have h1 : i < k ∧ i < ss.length := by simp at hi; omega
  obtain ⟨b, off, e, hb, hc⟩ := h i h1.2
  exact ⟨b, off, e, hb, by rw [hc, List.getElem?_take, if_pos h1.1]⟩
theorem idx_take (l : List ByteArray) (s : ByteArray) (k : Nat) (hk : k ≤ l.length) : hasB (l.take k) s = decide (idx l s < k) := by
  unfold hasB
  have hlen : (l.take k).length = k := by simp; omega
  rw [hlen]
  have key : ∀ (l : List ByteArray) (k : Nat), k ≤ l.length → (idx (l.take k) s < k ↔ idx l s < k) := by
    intro l
    induction l with
    | nil => intro k hk; simp at hk; subst hk; simp
    | cons x l ih =>
      intro k hk
      cases k with
      | zero => simp
      | succ k =>
        rw [List.take_succ_cons]
        unfold idx
        by_cases e : x = s
        · rw [if_pos e, if_pos e]
        · rw [if_neg e, if_neg e]
          have := ih k (by simpa using hk)
          omega
  simp only [key l k hk]
theorem has_n (a : Option Addr) (n cap : Nat) (ss : List ByteArray) (s : ByteArray) (b : Bool) (w : World) (hl : ss.length = n) (hn : n ≤ 9223372036854775807) (hr : ReadsS w a ss) (H : Hid (hasB ss s = b)) :
    Calls Tryd.prog 41 #[.slice a n cap, .string s] w fun e w' => e = .returned (.bool b) ∧ Below w.heap.size w w' := by
  subst hl
  exact has_any a cap ss s b w hn hr H
set_option maxRecDepth 100000 in
set_option maxHeartbeats 1000000 in
theorem twice_any (a : Option Addr) (cap : Nat) (ss : List ByteArray) (i er : Int) (b : Bool) (w : World) (hn : ss.length ≤ 9223372036854775807) (hcap : ss.length ≤ cap) (hr : ReadsS w a ss) (H : Hid (twiceR ss = (i, b, er))) :
    Calls Tryd.prog 20 #[.slice a ss.length cap] w fun e w' => e = .returned (.tuple #[.int .i64 i, .bool b, .int .i64 er]) ∧ Below w.heap.size w w' := by
  by_cases hb : 100 < ss.length
  · have h := H.out
    unfold twiceR at h
    rw [if_pos hb] at h; cases h
    clear H
    go_enter Tryd.func20, Tryd.ntmps20
    go_wp2
    go_ret3
    exact ⟨rfl, Below.refl _ _⟩
  · have HR := Lib.hid hr
    clear hr
    go_enter Tryd.func20, Tryd.ntmps20
    go_wp2
    go_loopw [12] (fun v wr => ∃ k : Nat, k ≤ ss.length ∧ v = .int .i64 k ∧ Below w.heap.size w wr ∧ ∀ j, j < k → newAt ss j = true) (fun v _ => ss.length - (intOf v).toNat)
    case atStart => exact ⟨0, by omega, rfl, Below.refl _ _, fun j hj => by omega⟩
    case round =>
      obtain ⟨k, hk, rfl, hB, hall⟩ := hrel
      have HA := Lib.hid hall
      clear hall
      by_cases hlt : k < ss.length
      · have hrr : ReadsS wr a ss := HR.out.below hB
        have HT := Lib.hid (reads_take hrr k)
        obtain ⟨c, off, rfl, hb2, hc⟩ := hrr k hlt
        have hlk : (ss.take k).length = k := by simp; omega
        have HH : Hid (hasB (ss.take k) (ss[k]?.getD ByteArray.empty) = !newAt ss k) := Lib.hid (by
          rw [idx_take _ _ _ hk]
          have := idx_self ss k hlt
          unfold newAt
          by_cases e : idx ss (ss[k]?.getD ByteArray.empty) = k
          · rw [decide_eq_true e, decide_eq_false (by omega)]; rfl
          · rw [decide_eq_false e, decide_eq_true (by omega)]; rfl)
        generalize ss[k]?.getD ByteArray.empty = x at hc HH
        obtain ⟨q, hq⟩ : ∃ q, newAt ss k = q := ⟨_, rfl⟩
        rw [hq] at HH
        have HQ := Lib.hid hq
        clear hq hrr
        have hkc : k ≤ cap := by omega
        cases q
        · have HX : Hid (((k : Int), true, (0 : Int)) = (i, b, er)) := Lib.hid (by
            rw [← H.out]; exact (twice_yes hb hlt HA.out HQ.out).symm)
          go_wp2_with (go_at_call 41; refine (has_n _ k cap (ss.take k) x true _ hlk (by omega) HT.out HH).mono ?_; rintro e w1 ⟨rfl, hB1⟩)
          go_ret3
          exact ⟨by cases HX.out; rfl, below_then hB hB1⟩
        · go_wp2_with (go_at_call 41; refine (has_n _ k cap (ss.take k) x false _ hlk (by omega) HT.out HH).mono ?_; rintro e w1 ⟨rfl, hB1⟩)
          have hB2 := below_then hB hB1
          go_roundw
          case rel => exact ⟨k + 1, by omega, by go_num, hB2, fun j hj => by
            by_cases e : j = k
            · subst e; exact HQ.out
            · exact HA.out j (by omega)⟩
          case measure => simp [intOf]; omega
      · have HX : Hid (((0 : Int), false, (0 : Int)) = (i, b, er)) := Lib.hid (by
          rw [← H.out]; exact (twice_no hb (fun j hj => HA.out j (by omega))).symm)
        go_wp2
        go_ret3
        exact ⟨by cases HX.out; rfl, hB⟩
end Go.Proofs.YtabcggmmdjeobaaDoor.s03
