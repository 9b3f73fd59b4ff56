/-
  Layer 6: the reference's Same; the laws' light, own, equal, shown, finds, awake.
-/
import Derived.Test.YtndghjfgjkjbdaaS06ZC
namespace Go.Proofs.Ytndghjfgjkjbdaa.s06
set_option linter.unusedVariables false
set_option linter.unusedSimpArgs false
open Go.RowKit Go.WideMaps Go.Maps
open kit

set_option maxRecDepth 100000 in
set_option maxHeartbeats 1000000 in
theorem rsame_any (a a2 : Option Addr) (c c2 : Nat) (l m : List ByteArray) (r : Bool) (w : World) (hl : l.length ≤ 9223372036854775807) (hm : m.length ≤ 9223372036854775807) (ra : Hid (ReadsS w a l)) (rb : Hid (ReadsS w a2 m)) (H : Hid (eqB l m = r)) :
    Calls Try.prog 32 #[.agg #[.slice a l.length c], .agg #[.slice a2 m.length c2]] w fun e w' => e = .returned (.bool r) ∧ Below w.heap.size w w' := by
  have B1 := Lib.hid (below2 w (.cells #[.slice a l.length c] 24) (.cells #[.slice a2 m.length c2] 24))
  have P1 := Lib.hid ((Box.new w 24 #[.slice a l.length c]).alloc (.cells #[.slice a2 m.length c2] 24))
  have S1 := Lib.hid (Box.new2 w (.cells #[.slice a l.length c] 24) 24 #[.slice a2 m.length c2])
  by_cases he : l.length = m.length
  · have HE := Lib.hid he
    have HX := Lib.hid (fun (k : Nat) (h : ¬ l[k]?.getD ByteArray.empty = m[k]?.getD ByteArray.empty) => (eqB_at h).symm.trans H.out)
    have HY := Lib.hid (fun (h : ∀ j, j < l.length → l[j]?.getD ByteArray.empty = m[j]?.getD ByteArray.empty) => (eqB_all he h).symm.trans H.out)
    clear H he
    rw [← HE.out] at S1 B1 P1 ⊢
    have ht : ((l.length : Int) != (l.length : Int)) = false := by simp
    go_enter Try.func32, Try.ntmps32
    go_wp2
    go_loopw [5] (fun i wr => ∃ k : Nat, k ≤ l.length ∧ i = .int .i64 k ∧ Hid (Box wr 24 w.heap.size #[.slice a l.length c]) ∧ Hid (Box wr 24 (w.heap.size + 1) #[.slice a2 l.length c2]) ∧ Hid (Below w.heap.size w wr) ∧ Hid (∀ j, j < k → l[j]?.getD ByteArray.empty = m[j]?.getD ByteArray.empty)) (fun i _ => l.length - (intOf i).toNat)
    case atStart => exact ⟨0, by omega, rfl, P1, S1, B1, Lib.hid fun j hj => by omega⟩
    case round =>
      obtain ⟨k, hk, rfl, P, S, B, HA⟩ := hrel
      have p0 := P.out.cell 0
      have s0 := S.out.cell 0
      by_cases hlt : k < l.length
      · obtain ⟨c1, o1, rfl, _, h1⟩ := ra.out.below B.out k hlt
        obtain ⟨c2', o2, rfl, _, h2⟩ := rb.out.below B.out k (by have := HE.out; omega)
        by_cases heq : l[k]?.getD ByteArray.empty = m[k]?.getD ByteArray.empty
        · have HN : Hid (∀ j, j < k + 1 → l[j]?.getD ByteArray.empty = m[j]?.getD ByteArray.empty) := Lib.hid fun j hj => by
            by_cases e : j = k
            · rw [e]; exact heq
            · exact HA.out j (by omega)
          rw [← heq] at h2
          generalize l[k]?.getD ByteArray.empty = y at h1 h2
          clear heq
          go_wp2
          go_quiet (fail)
          go_wp2
          go_roundw
          case rel => exact ⟨k + 1, by omega, by go_num, Lib.hid P.out, Lib.hid S.out, Lib.hid (below_drewN B.out _), HN⟩
          case measure => simp [intOf]; omega
        · have HF := Lib.hid (HX.out k heq)
          have tb := str_beq_false heq
          generalize l[k]?.getD ByteArray.empty = y at h1 tb heq
          generalize m[k]?.getD ByteArray.empty = z at h2 tb heq
          have tn : (y.toList != z.toList) = true := by simp [bne, tb]
          clear heq
          go_wp2
          go_quiet (fail)
          go_wp2
          go_ret
          exact ⟨ret_bool HF.out, below_drewN B.out _⟩
      · have hk2 : k = l.length := by omega
        have HF := Lib.hid (HY.out fun j hj => HA.out j (by omega))
        clear hk2
        go_wp2
        go_ret
        exact ⟨ret_bool HF.out, B.out⟩
  · have HF := Lib.hid ((eqB_len he).symm.trans H.out)
    have ht : ((l.length : Int) != (m.length : Int)) = true := by rw [bne_iff_ne]; omega
    have hne : ¬ (l.length : Int) = (m.length : Int) := by omega
    clear H he
    go_enter Try.func32, Try.ntmps32
    go_wp2
    go_ret
    exact ⟨ret_bool HF.out, B1.out⟩
theorem reads_box_set {w : World} {a : Option Addr} {l : List ByteArray} (h : ReadsS w a l) {t : TypeId} {c : Nat} {pa : Option Addr} {pn pk : Nat} (X : Box w t c #[.slice pa pn pk]) (u : Value) : ReadsS (w.setCell ⟨c, 0, none⟩ u) a l := by
  intro i hi
  obtain ⟨b, off, e, hb, hc⟩ := h i hi
  have hne : b ≠ c := by
    intro e2; subst e2
    rw [X.cell] at hc
    by_cases h0 : off + i = 0
    · rw [h0] at hc; simp at hc
    · rw [Array.getElem?_eq_none (by simp; omega)] at hc; cases hc
  refine ⟨b, off, e, by simpa using hb, ?_⟩
  have hk : (w.setCell ⟨c, 0, none⟩ u).heap[b]? = w.heap[b]? := Below.heap_setCell _ _ _ _ hne
  unfold World.cell? at hc ⊢
  rw [show (w.setCell ⟨c, 0, none⟩ u).heap[(⟨b, off + i, none⟩ : Addr).block]? = w.heap[(⟨b, off + i, none⟩ : Addr).block]? from hk]
  exact hc
theorem reads_block {w : World} {g : Nat} {xs : Array Value} {t : TypeId} (h : Box w t g xs) (l : List ByteArray) (hx : xs.toList = l.map Value.string) : ReadsS w (some ⟨g, 0, none⟩) l := by
  intro i hi
  refine ⟨g, 0, rfl, h.lt, ?_⟩
  rw [h.cell, show 0 + i = i by omega, ← Array.getElem?_toList, hx, List.getElem?_map, List.getElem?_eq_getElem hi]
  rfl
def lightB (l : List ByteArray) : Bool := decide (l.length ≤ 40) && shortB l 30
theorem light_no {l : List ByteArray} (h : ¬ l.length ≤ 40) : lightB l = false := by unfold lightB; rw [decide_eq_false h]; rfl
theorem light_of {l : List ByteArray} (h : l.length ≤ 40) : lightB l = shortB l 30 := by unfold lightB; rw [decide_eq_true h]; rfl
theorem light_mem {l : List ByteArray} (h : lightB l = true) : l.length ≤ 40 ∧ ∀ x ∈ l, x.size ≤ 30 := by
  by_cases h1 : l.length ≤ 40
  · rw [light_of h1] at h
    exact ⟨h1, short_mem h⟩
  · rw [light_no h1] at h; cases h
set_option maxRecDepth 100000 in
set_option maxHeartbeats 1000000 in
theorem light_any (a : Option Addr) (cap : Nat) (l : List ByteArray) (r : Bool) (w : World) (hn : l.length ≤ 9223372036854775807) (hz : Hid (∀ x ∈ l, x.size ≤ 9223372036854775807)) (hr : Hid (ReadsS w a l)) (H : Hid (lightB l = r)) :
    Calls Try.prog 9 #[.agg #[.slice a l.length cap]] w fun e w' => e = .returned (.bool r) ∧ Below w.heap.size w w' := by
  have B1 := Lib.hid ((Below.refl w.heap.size w).alloc (Nat.le_refl _) (.cells #[.slice a l.length cap] 24))
  have HR := Lib.hid (hr.out.below B1.out)
  by_cases h1 : l.length ≤ 40
  · have HF := Lib.hid ((light_of h1).symm.trans H.out)
    have hd : (l.length : Int) ≤ 40 := by omega
    clear H
    go_enter Try.func9, Try.ntmps9
    go_wp2_with (go_at_call 40; refine (short_any a cap 30 l _ hn (by omega) hz.out HR.out).mono ?_; rintro e w9 ⟨rfl, rfl⟩; rw [HF.out])
    go_ret
    exact ⟨rfl, B1.out⟩
  · have HF := Lib.hid ((light_no h1).symm.trans H.out)
    have hd : ¬ (l.length : Int) ≤ 40 := by omega
    clear H
    go_enter Try.func9, Try.ntmps9
    go_wp2
    go_ret
    exact ⟨ret_bool HF.out, B1.out⟩
/-- a table in new memory -/
def OwnT (l : List ByteArray) (w : World) (e : Ending) (w' : World) : Prop :=
  ∃ a1 k1, e = .returned (.agg #[.slice a1 l.length k1]) ∧ ReadsS w' a1 l ∧ Below w.heap.size w w'
set_option maxRecDepth 100000 in
set_option maxHeartbeats 1000000 in
theorem lown_any (a : Option Addr) (cap : Nat) (l : List ByteArray) (w : World) (hn : l.length ≤ 100000) (hs : Hid (Src w a cap (l.map Value.string))) :
    Calls Try.prog 11 #[.agg #[.slice a l.length cap]] w (OwnT l w) := by
  have B1 := Lib.hid (below2 w (.cells #[.slice a l.length cap] 24) (.cells #[.slice none 0 0] 24))
  have X1 := Lib.hid (Box.new2 w (.cells #[.slice a l.length cap] 24) 24 #[.slice none 0 0])
  have S1 := Lib.hid (hs.out.below B1.out)
  go_enter Try.func11, Try.ntmps11
  go_wp2_with (go_at_call 41; refine (own_texts a cap l _ hn S1.out).mono ?_; rintro e w2 ⟨a1, k1, rfl, hR, hB⟩; have R2 := Lib.hid hR; have X2 := Lib.hid (X1.out.below hB); have B2 := Lib.hid (below_then B1.out hB); clear hR hB; have c0 := X2.out.cell 0; have f0 := X2.out.free 0; have lx := X2.out.lt)
  have d0 := (X2.out.set 0 (by simp) (.slice a1 l.length k1)).cell 0
  exact bodyPost_ret (v := .agg #[.slice a1 l.length k1]) (by simp [results, Try.results11, go_sem, d0]) rfl ⟨_, _, rfl, reads_box_set R2.out X2.out _, B2.out.setCell (p := ⟨w.heap.size + 1, 0, none⟩) (by simp) _⟩
set_option maxRecDepth 100000 in
set_option maxHeartbeats 1000000 in
theorem lequal_any (a a2 : Option Addr) (c c2 : Nat) (l : List ByteArray) (w : World) (hn : l.length ≤ 9223372036854775807) (ra : Hid (ReadsS w a l)) (rb : Hid (ReadsS w a2 l)) :
    Calls Try.prog 16 #[.agg #[.slice a l.length c], .agg #[.slice a2 l.length c2]] w fun e w' => e = .returned (.bool true) ∧ Below w.heap.size w w' := by
  have B1 := Lib.hid (below2 w (.cells #[.slice a l.length c] 24) (.cells #[.slice a2 l.length c2] 24))
  have RA := Lib.hid (ra.out.below B1.out)
  have RB := Lib.hid (rb.out.below B1.out)
  go_enter Try.func16, Try.ntmps16
  go_wp2_with (go_at_call 36; refine (same_texts a a2 c c2 l _ hn RA.out RB.out).mono ?_; rintro e w2 ⟨rfl, n, rfl⟩)
  go_ret
  exact ⟨rfl, below_drewN B1.out n⟩
def nameA : ByteArray := ⟨#[97]⟩
def nameB : ByteArray := ⟨#[66]⟩
def nameC : ByteArray := ⟨#[99, 49]⟩
def nameD : ByteArray := ⟨#[100]⟩
def shownL : List ByteArray := [⟨#[97]⟩, ⟨#[66]⟩, ⟨#[99, 49]⟩]
def ShownT (w : World) (e : Ending) (w' : World) : Prop :=
  ∃ a1 k1, e = .returned (.agg #[.slice a1 3 k1]) ∧ ReadsS w' a1 shownL ∧ Below w.heap.size w w'
set_option maxRecDepth 100000 in
set_option maxHeartbeats 1000000 in
theorem shown_any (w : World) : Calls Try.prog 33 #[] w (ShownT w) := by
  go_enter Try.func33, Try.ntmps33
  go_wp2
  have A0 : Box ((w.alloc (.cells #[.slice (some ⟨w.heap.size + 1, 0, none⟩) 3 3] 24)).alloc (.cells #[.string ⟨#[97]⟩, .string ⟨#[66]⟩, .string ⟨#[99, 49]⟩] 9)) 24 w.heap.size #[.slice (some ⟨w.heap.size + 1, 0, none⟩) 3 3] := (Box.new _ _ _).alloc _
  have A1 := Box.new2 w (.cells #[.slice (some ⟨w.heap.size + 1, 0, none⟩) 3 3] 24) 9 #[.string ⟨#[97]⟩, .string ⟨#[66]⟩, .string ⟨#[99, 49]⟩]
  have d0 := A0.cell 0
  exact bodyPost_ret (v := .agg #[.slice (some ⟨w.heap.size + 1, 0, none⟩) 3 3]) (by simp [results, Try.results33, go_sem, d0]) rfl ⟨_, _, rfl, reads_block A1 shownL rfl, below2 _ _ _⟩
theorem shown_small : ∀ x ∈ shownL, x.size ≤ 9223372036854775807 := by
  intro x hx
  simp only [shownL, List.mem_cons, List.not_mem_nil, or_false] at hx
  rcases hx with rfl | rfl | rfl <;> decide
theorem pfind_shown (a : Option Addr) (cap : Nat) (s : ByteArray) (n er : Int) (w : World) (hs : s.size ≤ 9223372036854775807) (hr : Hid (ReadsS w a shownL)) (H : Hid (findT shownL s = (n, er))) :
    Calls Try.prog 21 #[.agg #[.slice a 3 cap], .string s] w fun e w' => e = .returned (.tuple #[.int .i64 n, .int .i64 er]) ∧ Below w.heap.size w w' :=
  pfind_any a cap shownL s n er w (by decide) (Lib.hid shown_small) hs hr H
theorem pname_shown (a : Option Addr) (cap : Nat) (m : Int) (x : ByteArray) (er : Int) (w : World) (hr : Hid (ReadsS w a shownL)) (H : Hid (nameT shownL m = (x, er))) :
    Calls Try.prog 23 #[.agg #[.slice a 3 cap], .int .i64 m] w fun e w' => e = .returned (.tuple #[.string x, .int .i64 er]) ∧ Below w.heap.size w w' :=
  pname_any a cap shownL m x er w (by decide) (Lib.hid shown_small) hr H
theorem pintern_shown (a : Option Addr) (cap : Nat) (s : ByteArray) (lr : List ByteArray) (n er : Int) (w : World) (hs : s.size ≤ 9223372036854775807) (hr : Hid (ReadsS w a shownL)) (H : Hid (putT shownL s false = (lr, n, er))) :
    Calls Try.prog 17 #[.agg #[.slice a 3 cap], .string s] w (PutOf lr n er w) :=
  pintern_any a cap shownL s lr n er w (by decide) (Lib.hid shown_small) hs hr H
theorem padd_shown (a : Option Addr) (cap : Nat) (s : ByteArray) (lr : List ByteArray) (n er : Int) (w : World) (hs : s.size ≤ 9223372036854775807) (hr : Hid (ReadsS w a shownL)) (H : Hid (putT shownL s true = (lr, n, er))) :
    Calls Try.prog 19 #[.agg #[.slice a 3 cap], .string s] w (PutOf lr n er w) :=
  padd_any a cap shownL s lr n er w (by decide) (Lib.hid shown_small) hs hr H
theorem fB : findT shownL ⟨#[66]⟩ = (1, 0) := by kernel_rfl
theorem fD : findT shownL ⟨#[100]⟩ = (0, 7) := by kernel_rfl
def shownL4 : List ByteArray := [⟨#[97]⟩, ⟨#[66]⟩, ⟨#[99, 49]⟩, ⟨#[100]⟩]
theorem iD : putT shownL ⟨#[100]⟩ false = (shownL4, 3, 0) := by kernel_rfl
set_option maxRecDepth 100000 in
set_option maxHeartbeats 1000000 in
theorem finds_any (s : ByteArray) (n er : Int) (w : World) (hs : s.size ≤ 9223372036854775807) (H : Hid (findT shownL s = (n, er))) : Calls Try.prog 34 #[.string s] w fun e w' => e = .returned (.int .i64 er) ∧ Below w.heap.size w w' := by
  go_enter Try.func34, Try.ntmps34
  go_wp2_with (first
    | (go_at_call 33; refine (shown_any _).mono ?_; rintro e w2 ⟨a1, k1, rfl, hR, hB⟩; have R2 := Lib.hid hR; have B2 := Lib.hid hB; clear hR hB)
    | (go_at_call 21; refine (pfind_shown a1 k1 s n er _ hs R2 H).mono ?_; rintro e w3 ⟨rfl, hB⟩; have B3 := Lib.hid (below_then B2.out hB); clear hB))
  go_ret
  exact ⟨rfl, B3.out⟩
end Go.Proofs.Ytndghjfgjkjbdaa.s06
