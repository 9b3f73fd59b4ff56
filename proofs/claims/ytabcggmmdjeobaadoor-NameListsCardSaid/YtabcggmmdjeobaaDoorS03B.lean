/-
  Layer 3: the order of strings; the reference's Compare, Find, Twice.
-/
import Derived.Test.YtabcggmmdjeobaaDoorS03A
import Derived.Test.YtabcggmmdjeobaaDoorKitTexts
namespace Go.Proofs.YtabcggmmdjeobaaDoor.s03
set_option linter.unusedVariables false
set_option linter.unusedSimpArgs false
open Go.RowKit
open kit

/-- what Compare answers -/
def cmpR : List UInt8 → List UInt8 → Int
  | [], [] => 0
  | [], _ :: _ => -1
  | _ :: _, [] => 1
  | a :: x, b :: y => if a.toNat < b.toNat then -1 else if b.toNat < a.toNat then 1 else cmpR x y
theorem drop_at (s : ByteArray) (k : Nat) (h : k < s.size) : s.data.toList.drop k = s[k] :: s.data.toList.drop (k + 1) := by
  rw [List.drop_eq_getElem_cons (by simpa using h)]
  rfl
theorem drop_end (s : ByteArray) (k : Nat) (h : s.size ≤ k) : s.data.toList.drop k = [] := List.drop_eq_nil_of_le (by simpa using h)

set_option maxRecDepth 100000 in
set_option maxHeartbeats 1000000 in
theorem cmpr_any (s t : ByteArray) (w : World) (hs : s.size ≤ 9223372036854775807) (ht : t.size ≤ 9223372036854775807) :
    Calls Tryd.prog 29 #[.string s, .string t] w fun e w' => e = .returned (.int .i64 (cmpR s.data.toList t.data.toList)) ∧ ∃ n, w' = w.drewN n := by
  go_enter Tryd.func29, Tryd.ntmps29
  go_wp2
  go_loopw [5] (fun i wr => ∃ k n : Nat, k ≤ s.size ∧ k ≤ t.size ∧ i = .int .i64 k ∧ cmpR (s.data.toList.drop k) (t.data.toList.drop k) = cmpR s.data.toList t.data.toList ∧ wr = w.drewN n) (fun i _ => s.size - (intOf i).toNat)
  case atStart => exact ⟨0, 0, by omega, by omega, rfl, rfl, rfl⟩
  case round =>
    obtain ⟨k, n, hk1, hk2, rfl, hc, rfl⟩ := hrel
    have HC := Lib.hid hc
    clear hc
    by_cases h1 : k < s.size
    · by_cases h2 : k < t.size
      · have hcons : Hid (cmpR (s.data.toList.drop k) (t.data.toList.drop k) = if s[k].toNat < t[k].toNat then -1 else if t[k].toNat < s[k].toNat then 1 else cmpR (s.data.toList.drop (k + 1)) (t.data.toList.drop (k + 1))) := Lib.hid (by rw [drop_at s k h1, drop_at t k h2, cmpR])
        by_cases hlt : s[k].toNat < t[k].toNat
        · have HX : Hid ((-1 : Int) = cmpR s.data.toList t.data.toList) := Lib.hid (by rw [← HC.out, hcons.out, if_pos hlt])
          clear hcons
          go_wp2
          go_quiet (fail)
          go_wp2
          go_ret
          exact ⟨ret_int HX.out, _, by simp only [World.drewN_drewN]; rfl⟩
        · by_cases hgt : t[k].toNat < s[k].toNat
          · have HX : Hid ((1 : Int) = cmpR s.data.toList t.data.toList) := Lib.hid (by rw [← HC.out, hcons.out, if_neg hlt, if_pos hgt])
            clear hcons
            go_wp2
            go_quiet (fail)
            go_wp2
            go_quiet (fail)
            go_wp2
            go_ret
            exact ⟨ret_int HX.out, _, by simp only [World.drewN_drewN]; rfl⟩
          · have HX : Hid (cmpR (s.data.toList.drop (k + 1)) (t.data.toList.drop (k + 1)) = cmpR s.data.toList t.data.toList) := Lib.hid (by rw [← HC.out, hcons.out, if_neg hlt, if_neg hgt])
            clear hcons
            go_wp2
            go_quiet (fail)
            go_wp2
            go_quiet (fail)
            go_wp2
            go_roundw
            case rel => exact ⟨k + 1, _, by omega, by omega, by go_num, HX.out, by first | rfl | (simp only [World.drewN_drewN]; rfl)⟩
            case measure => simp [intOf]; omega
      · have HX : Hid ((1 : Int) = cmpR s.data.toList t.data.toList) := Lib.hid (by rw [← HC.out, drop_at s k h1, drop_end t k (by omega), cmpR])
        have hl : t.size < s.size := by omega
        go_wp2
        go_ret
        exact ⟨ret_int HX.out, _, rfl⟩
    · by_cases h2 : k < t.size
      · have HX : Hid ((-1 : Int) = cmpR s.data.toList t.data.toList) := Lib.hid (by rw [← HC.out, drop_at t k h2, drop_end s k (by omega), cmpR])
        have hl : s.size < t.size := by omega
        go_wp2
        go_ret
        exact ⟨ret_int HX.out, _, rfl⟩
      · have HX : Hid ((0 : Int) = cmpR s.data.toList t.data.toList) := Lib.hid (by rw [← HC.out, drop_end t k (by omega), drop_end s k (by omega), cmpR])
        have hl : ¬ s.size < t.size := by omega
        have hl2 : ¬ t.size < s.size := by omega
        go_wp2
        go_ret
        exact ⟨ret_int HX.out, _, rfl⟩

/-- the place of the first such string -/
def idx : List ByteArray → ByteArray → Nat
  | [], _ => 0
  | x :: l, s => if x = s then 0 else idx l s + 1
/-- what Find answers: number, error -/
def findR (l : List ByteArray) (s : ByteArray) : Int × Int := if 100 < l.length then (0, 6) else if idx l s < l.length then (idx l s, 0) else (0, 7)
theorem idx_le (s : ByteArray) : ∀ l : List ByteArray, idx l s ≤ l.length := by
  intro l
  induction l with
  | nil => exact Nat.le_refl _
  | cons x l ih => unfold idx; split <;> simp; omega
theorem idx_at (s : ByteArray) : ∀ (l : List ByteArray) (k : Nat), k < l.length → (∀ j, j < k → l[j]?.getD ByteArray.empty ≠ s) → l[k]?.getD ByteArray.empty = s → idx l s = k := by
  intro l
  induction l with
  | nil => intro k h; simp at h
  | cons x l ih =>
    intro k h h1 h2
    cases k with
    | zero => unfold idx; rw [if_pos (by simpa using h2)]
    | succ k =>
      unfold idx
      rw [if_neg (by simpa using h1 0 (by omega)), ih k (by simpa using h) (fun j hj => by simpa using h1 (j + 1) (by omega)) (by simpa using h2)]
theorem idx_none (s : ByteArray) : ∀ (l : List ByteArray), (∀ j, j < l.length → l[j]?.getD ByteArray.empty ≠ s) → idx l s = l.length := by
  intro l
  induction l with
  | nil => intro _; rfl
  | cons x l ih =>
    intro h
    unfold idx
    rw [if_neg (by simpa using h 0 (by simp)), ih (fun j hj => by simpa using h (j + 1) (by simpa using hj))]
    rfl
set_option maxRecDepth 100000 in
set_option maxHeartbeats 1000000 in
theorem findr_any (a : Option Addr) (cap : Nat) (ss : List ByteArray) (s : ByteArray) (i er : Int) (w : World) (hn : ss.length ≤ 9223372036854775807) (hr : ReadsS w a ss) (H : Hid (findR ss s = (i, er))) :
    Calls Tryd.prog 33 #[.slice a ss.length cap, .string s] w fun e w' => e = .returned (.tuple #[.int .i64 i, .int .i64 er]) ∧ w = w' := by
  have h := H.out
  unfold findR at h
  clear H
  by_cases hb : 100 < ss.length
  · rw [if_pos hb] at h; cases h
    go_enter Tryd.func33, Tryd.ntmps33
    go_wp2
    go_ret2
    exact ⟨rfl, rfl⟩
  · rw [if_neg hb] at h
    have HH := Lib.hid h
    clear h
    go_enter Tryd.func33, Tryd.ntmps33
    go_wp2
    go_loop [6] (fun v => ∃ k : Nat, k ≤ ss.length ∧ v = .int .i64 k ∧ ∀ j, j < k → ss[j]?.getD ByteArray.empty ≠ s) (fun v => ss.length - (intOf v).toNat)
    case atStart => exact ⟨0, by omega, rfl, fun j hj => by omega⟩
    case round =>
      obtain ⟨k, hk, rfl, hall⟩ := hrel
      have HA := Lib.hid hall
      clear hall
      by_cases hlt : k < ss.length
      · obtain ⟨b, off, rfl, hb2, hc⟩ := hr k hlt
        by_cases he : ss[k]?.getD ByteArray.empty = s
        · have HX : Hid (((k : Int), (0 : Int)) = (i, er)) := Lib.hid (by
            have := HH.out
            rw [idx_at s ss k hlt HA.out he, if_pos hlt] at this
            exact this)
          rw [he] at hc
          clear he
          go_wp2
          go_ret2
          exact ⟨by cases HX.out; rfl, rfl⟩
        · have te := str_beq_false he
          generalize hx : ss[k]?.getD ByteArray.empty = x at hc te he
          have HE : Hid (ss[k]?.getD ByteArray.empty ≠ s) := Lib.hid (by rw [hx]; exact he)
          clear hx he
          go_wp2
          go_round
          case rel => exact ⟨k + 1, by omega, by go_num, fun j hj => by
            by_cases e : j = k
            · subst e; exact HE.out
            · exact HA.out j (by omega)⟩
          case measure => simp [intOf]; omega
      · have hk2 : k = ss.length := by omega
        have HX : Hid (((0 : Int), (7 : Int)) = (i, er)) := Lib.hid (by
          have := HH.out
          rw [idx_none s ss (fun j hj => HA.out j (by omega)), if_neg (by omega)] at this
          exact this)
        clear hk2
        go_wp2
        go_ret2
        exact ⟨by cases HX.out; rfl, rfl⟩
/-- the first string that is equal to an earlier one: is there any below k? -/
def newAt (l : List ByteArray) (k : Nat) : Bool := decide (idx l (l[k]?.getD ByteArray.empty) = k)
/-- what Twice answers: number, found, error -/
def twiceR (l : List ByteArray) : Int × Bool × Int :=
  if 100 < l.length then (0, false, 6) else
    match (List.range l.length).find? (fun k => !newAt l k) with
    | some k => (k, true, 0)
    | none => (0, false, 0)
theorem idx_self (l : List ByteArray) (k : Nat) (h : k < l.length) : idx l (l[k]?.getD ByteArray.empty) ≤ k := by
  rcases Nat.lt_or_ge k (idx l (l[k]?.getD ByteArray.empty)) with hk | hk
  · exfalso
    have key : ∀ (l : List ByteArray) (s : ByteArray) (j : Nat), j < idx l s → l[j]?.getD ByteArray.empty ≠ s := by
      intro l s
      induction l with
      | nil => intro j hj; simp [idx] at hj
      | cons x l ih =>
        intro j hj
        unfold idx at hj
        by_cases hx : x = s
        · rw [if_pos hx] at hj; omega
        · rw [if_neg hx] at hj
          cases j with
          | zero => simpa using hx
          | succ j => simpa using ih j (by omega)
    exact key l _ k hk rfl
  · exact hk
theorem twice_yes {l : List ByteArray} {k : Nat} (hl : ¬ 100 < l.length) (hk : k < l.length) (h1 : ∀ j, j < k → newAt l j = true) (h2 : newAt l k = false) : twiceR l = ((k : Int), true, 0) := by
  have : (List.range l.length).find? (fun k => !newAt l k) = some k := by
    rw [List.find?_eq_some_iff_getElem]
    refine ⟨by simp [h2], k, by simpa using hk, by simp, fun j hj => ?_⟩
    simp [h1 j hj]
  unfold twiceR
  rw [if_neg hl, this]
theorem twice_no {l : List ByteArray} (hl : ¬ 100 < l.length) (h1 : ∀ j, j < l.length → newAt l j = true) : twiceR l = (0, false, 0) := by
  have : (List.range l.length).find? (fun k => !newAt l k) = none := by
    rw [List.find?_eq_none]
    intro k hk
    rw [h1 k (List.mem_range.1 hk)]
    decide
  unfold twiceR
  rw [if_neg hl, this]
set_option maxRecDepth 100000 in
set_option maxHeartbeats 1000000 in
theorem twicer_any (a : Option Addr) (cap : Nat) (ss : List ByteArray) (i er : Int) (b : Bool) (w : World) (hn : ss.length ≤ 9223372036854775807) (hr : ReadsS w a ss) (H : Hid (twiceR ss = (i, b, er))) :
    Calls Tryd.prog 34 #[.slice a ss.length cap] w fun e w' => e = .returned (.tuple #[.int .i64 i, .bool b, .int .i64 er]) ∧ w = w' := by
  by_cases hb : 100 < ss.length
  · have h := H.out
    unfold twiceR at h
    rw [if_pos hb] at h; cases h
    clear H
    go_enter Tryd.func34, Tryd.ntmps34
    go_wp2
    go_ret3
    exact ⟨rfl, rfl⟩
  · have HR := Lib.hid hr
    clear hr
    go_enter Tryd.func34, Tryd.ntmps34
    go_wp2
    go_loop [5] (fun v => ∃ k : Nat, k ≤ ss.length ∧ v = .int .i64 k ∧ ∀ j, j < k → newAt ss j = true) (fun v => ss.length - (intOf v).toNat)
    case atStart => exact ⟨0, by omega, rfl, fun j hj => by omega⟩
    case round =>
      obtain ⟨k, hk, rfl, hall⟩ := hrel
      have HA := Lib.hid hall
      clear hall
      by_cases hlt : k < ss.length
      · obtain ⟨c, off, rfl, hb2, hc⟩ := HR.out k hlt
        have hself := idx_self ss k hlt
        have hF : Hid (findR ss (ss[k]?.getD ByteArray.empty) = ((idx ss (ss[k]?.getD ByteArray.empty) : Int), 0)) := Lib.hid (by unfold findR; rw [if_neg hb, if_pos (by omega)])
        have hNew : Hid (newAt ss k = decide (idx ss (ss[k]?.getD ByteArray.empty) = k)) := Lib.hid rfl
        generalize ss[k]?.getD ByteArray.empty = x at hc hself hF hNew
        generalize idx ss x = m at hself hF hNew
        by_cases hm : m < k
        · have HX : Hid (((k : Int), true, (0 : Int)) = (i, b, er)) := Lib.hid (by
            rw [← H.out]; exact (twice_yes hb hlt HA.out (by rw [hNew.out, decide_eq_false (by omega)])).symm)
          clear hNew
          go_wp2_with (go_at_call 33; refine (findr_any _ cap ss x m 0 _ (by omega) HR.out hF).mono ?_; rintro e w1 ⟨rfl, rfl⟩)
          go_ret3
          exact ⟨by cases HX.out; rfl, rfl⟩
        · have HX : Hid (newAt ss k = true) := Lib.hid (by rw [hNew.out, decide_eq_true (by omega)])
          clear hNew
          go_wp2_with (go_at_call 33; refine (findr_any _ cap ss x m 0 _ (by omega) HR.out hF).mono ?_; rintro e w1 ⟨rfl, rfl⟩)
          go_round
          case rel => exact ⟨k + 1, by omega, by go_num, fun j hj => by
            by_cases e : j = k
            · subst e; exact HX.out
            · exact HA.out j (by omega)⟩
          case measure => simp [intOf]; omega
      · have HX : Hid (((0 : Int), false, (0 : Int)) = (i, b, er)) := Lib.hid (by
          rw [← H.out]; exact (twice_no hb (fun j hj => HA.out j (by omega))).symm)
        go_wp2
        go_ret3
        exact ⟨by cases HX.out; rfl, rfl⟩
end Go.Proofs.YtabcggmmdjeobaaDoor.s03
