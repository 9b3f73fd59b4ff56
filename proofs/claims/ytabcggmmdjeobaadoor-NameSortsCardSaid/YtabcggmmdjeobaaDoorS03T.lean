/-
  Layer 3: Twice finds one exactly if not every string stands once.
-/
import Derived.Test.YtabcggmmdjeobaaDoorS03C2
import Derived.Test.YtabcggmmdjeobaaDoorS03L
import Derived.Test.YtabcggmmdjeobaaDoorSrtS
namespace Go.Proofs.YtabcggmmdjeobaaDoor.s03
set_option linter.unusedVariables false
set_option linter.unusedSimpArgs false
open Go.RowKit
open kit

theorem getD_is (l : List ByteArray) (i : Nat) (h : i < l.length) : l[i]?.getD ByteArray.empty = l[i] := by
  rw [List.getElem?_eq_getElem h]; rfl
theorem new_nodup {l : List ByteArray} (h : ∀ k, k < l.length → newAt l k = true) : l.Nodup := by
  rw [List.nodup_iff_pairwise_ne, List.pairwise_iff_getElem]
  intro i j hi hj hij e
  have h1 := of_decide_eq_true (h i hi)
  have h2 := of_decide_eq_true (h j hj)
  rw [getD_is l i hi] at h1
  rw [getD_is l j hj] at h2
  rw [← e] at h2
  omega
theorem nodup_new {l : List ByteArray} (h : l.Nodup) (k : Nat) (hk : k < l.length) : newAt l k = true := by
  unfold newAt
  refine decide_eq_true (idx_at _ l k hk (fun j hj e => ?_) rfl)
  rw [List.nodup_iff_pairwise_ne, List.pairwise_iff_getElem] at h
  rw [getD_is l j (by omega), getD_is l k hk] at e
  exact h j k (by omega) hk hj e
theorem nodup_cnt {l : List ByteArray} (h : l.Nodup) (k : Nat) (hk : k < l.length) : cnt l (l[k]?.getD ByteArray.empty) l.length = 1 := by
  rw [getD_is l k hk]
  unfold cnt
  rw [List.take_length]
  have hf := h.filter (fun x => decide (x = l[k]))
  have hm : l[k] ∈ l.filter (fun x => decide (x = l[k])) := List.mem_filter.2 ⟨List.getElem_mem hk, by simp⟩
  have ha : ∀ x ∈ l.filter (fun x => decide (x = l[k])), x = l[k] := fun x hx => by simpa using (List.mem_filter.1 hx).2
  generalize l.filter (fun x => decide (x = l[k])) = f at hf hm ha
  match f, hf, hm, ha with
  | [], _, hm, _ => cases hm
  | [_], _, _, _ => rfl
  | a :: b :: r, hf, _, ha =>
    exfalso
    have h1 := ha a (by simp)
    have h2 := ha b (by simp)
    exact (List.pairwise_cons.1 hf).1 b (by simp) (by rw [h1, h2])
theorem cnt_nodup {l : List ByteArray} (h : ∀ k, k < l.length → cnt l (l[k]?.getD ByteArray.empty) l.length = 1) : l.Nodup := by
  rw [List.nodup_iff_pairwise_ne, List.pairwise_iff_getElem]
  intro i j hi hj hij e
  have h1 := h j hj
  rw [getD_is l j hj] at h1
  unfold cnt at h1
  rw [List.take_length] at h1
  have h2 : l = l.take j ++ l.drop j := (List.take_append_drop j l).symm
  have h3 : l[j] ∈ (l.take j).filter (fun x => decide (x = l[j])) := List.mem_filter.2 ⟨by rw [← e]; exact List.mem_take_iff_getElem.2 ⟨i, by omega, rfl⟩, by simp⟩
  have h4 : l[j] ∈ (l.drop j).filter (fun x => decide (x = l[j])) := List.mem_filter.2 ⟨List.mem_drop_iff_getElem.2 ⟨0, by omega, by simp⟩, by simp⟩
  have h5 := List.length_pos_of_mem h3
  have h6 := List.length_pos_of_mem h4
  have h7 : (l.filter (fun x => decide (x = l[j]))).length = ((l.take j).filter (fun x => decide (x = l[j]))).length + ((l.drop j).filter (fun x => decide (x = l[j]))).length := by
    rw [← List.length_append, ← List.filter_append, List.take_append_drop]
  omega
/-- does every one of the first k stand once? -/
def once (l : List ByteArray) (k : Nat) : Bool := (List.range k).all fun i => cnt l (l[i]?.getD ByteArray.empty) l.length == 1
theorem once_succ (l : List ByteArray) (k : Nat) : once l (k + 1) = (once l k && cnt l (l[k]?.getD ByteArray.empty) l.length == 1) := by
  unfold once
  rw [List.range_succ, List.all_append]
  simp
theorem twice_once {l : List ByteArray} (hl : ¬ 100 < l.length) : ∃ i, twiceR l = (i, !once l l.length, 0) := by
  cases h : once l l.length
  · by_cases hn : ∀ k, k < l.length → newAt l k = true
    · exfalso
      have : once l l.length = true := by
        unfold once
        rw [List.all_eq_true]
        intro i hi
        rw [nodup_cnt (new_nodup hn) i (List.mem_range.1 hi)]
        rfl
      rw [this] at h; cases h
    · unfold twiceR
      rw [if_neg hl]
      cases hf : (List.range l.length).find? (fun k => !newAt l k) with
      | some k => exact ⟨k, rfl⟩
      | none =>
        exfalso
        rw [List.find?_eq_none] at hf
        exact hn fun k hk => by simpa using hf k (List.mem_range.2 hk)
  · refine ⟨0, twice_no hl fun k hk => nodup_new (cnt_nodup fun k hk => ?_) k hk⟩
    unfold once at h
    rw [List.all_eq_true] at h
    simpa using h k (List.mem_range.2 hk)
theorem sorted_n (a : Option Addr) (c n : Nat) (ss L : List ByteArray) (er : Int) (w : World) (hl : ss.length = n) (hn : n < 50) (hr : ReadsS w a ss) (H : Hid (SortR ss L er)) :
    Calls Tryd.prog 17 #[.slice a n c] w (LstS w L er) := by
  subst hl
  exact srt.sorted_any a c ss L er w (by omega) (.inl hn) hr H
theorem same_n (a b : Option Addr) (ca cb n : Nat) (zs : List ByteArray) (w : World) (hl : zs.length = n) (hn : zs.length ≤ 9223372036854775807) (ra : ReadsS w a zs) (rb : ReadsS w b zs) :
    Calls Tryd.prog 19 #[.slice a n ca, .slice b n cb] w fun e w' => e = .returned (.bool true) ∧ ∃ n, w' = w.drewN n := by
  subst hl
  exact same_texts a b ca cb zs w hn ra rb
theorem count_n (a : Option Addr) (cap n : Nat) (ss : List ByteArray) (s : ByteArray) (q : Int) (w : World) (hl : ss.length = n) (hn : ss.length ≤ 9223372036854775807) (hr : ReadsS w a ss) (H : Hid ((cnt ss s ss.length : Int) = q)) :
    Calls Tryd.prog 37 #[.slice a n cap, .string s] w fun e w' => e = .returned (.int .i64 q) ∧ w = w' := by
  subst hl
  rw [← H.out]
  exact count_any a cap ss s w hn hr
theorem cmp_n (s t : ByteArray) (x : Int) (w : World) (hs : s.size ≤ 9223372036854775807) (ht : t.size ≤ 9223372036854775807) (H : Hid (cmpR s.data.toList t.data.toList = x)) :
    Calls Tryd.prog 16 #[.string s, .string t] w fun e w' => e = .returned (.int .i64 x) ∧ Below w.heap.size w w' := by
  have := H.out
  subst this
  exact cmp_any s t w hs ht
theorem cmp_alloc (s t : ByteArray) (x : Int) (w : World) (H : Hid (cmpR s.data.toList t.data.toList = x)) :
    Calls Tryd.prog 16 #[.string s, .string t] w fun e w' => e = .returned (.int .i64 x) ∧ w' = w.alloc (.cells #[] 53) := by
  have HC := fun w => Lib.hid (method_any s t w)
  rw [H.out] at HC
  go_enter Tryd.func16, Tryd.ntmps16
  go_wp2_with (go_at_call 44; refine ((HC _).out).mono ?_; rintro e w1 ⟨rfl, rfl⟩)
  go_ret
  exact ⟨rfl, rfl⟩
open Go.Sort (grow grow_empty alloc_eq_grow) in
theorem cmp_grows (s t : ByteArray) (x : Int) (w : World) (H : Hid (cmpR s.data.toList t.data.toList = x)) (n : Nat) (os : Array Obj) :
    Calls Tryd.prog 16 #[.string s, .string t] (grow (w.drewN n) os) fun e w' => e = .returned (.int .i64 x) ∧ ∃ q os', w' = grow ((grow (w.drewN n) os).drewN q) os' :=
  (cmp_alloc s t x _ H).mono fun _ _ ⟨he, hw⟩ => ⟨he, 0, #[.cells #[] 53], by rw [hw, alloc_eq_grow]; rfl⟩
open Go.Sort (grow grow_empty alloc_eq_grow) in
theorem count_grows (a : Option Addr) (cap n : Nat) (ss : List ByteArray) (s : ByteArray) (q : Int) (w : World) (hl : ss.length = n) (hn : ss.length ≤ 9223372036854775807) (hr : ReadsS w a ss) (H : Hid ((cnt ss s ss.length : Int) = q)) (m : Nat) (os : Array Obj) :
    Calls Tryd.prog 37 #[.slice a n cap, .string s] (grow (w.drewN m) os) fun e w' => e = .returned (.int .i64 q) ∧ ∃ q' os', w' = grow ((grow (w.drewN m) os).drewN q') os' :=
  (count_n a cap n ss s q _ hl hn (hr.below (Lib.below_grow _ w (Nat.le_refl _) m os)) H).mono fun _ _ ⟨he, hw⟩ => ⟨he, 0, #[], by rw [grow_empty]; exact hw.symm⟩
theorem count_quiet (a : Option Addr) (cap n : Nat) (ss : List ByteArray) (s : ByteArray) (q : Int) (w : World) (hl : ss.length = n) (hn : ss.length ≤ 9223372036854775807) (hr : ReadsS w a ss) (H : Hid ((cnt ss s ss.length : Int) = q)) (m : Nat) :
    Calls Tryd.prog 37 #[.slice a n cap, .string s] (w.drewN m) fun e w' => e = .returned (.int .i64 q) ∧ w' = w.drewN m :=
  (count_n a cap n ss s q _ hl hn (hr.drewN m) H).mono fun _ _ ⟨he, hw⟩ => ⟨he, hw.symm⟩
end Go.Proofs.YtabcggmmdjeobaaDoor.s03
