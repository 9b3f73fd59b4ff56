/-
  Layer 14: the program's Of. Layer 14: the program's Of, all answers. Layer 14: merging two lists, meet.
-/
import Derived.Test.YtdahaajfkjmflaaG11
import Derived.Test.YtdahaajfkjmflaaG09
import Derived.Test.YtdahaajfkjmflaaG06
import Derived.BigRegion
namespace Go.Proofs.Ytdahaajfkjmflaa.s14
set_option linter.unusedVariables false
set_option linter.unusedSimpArgs false
open Go.RowKit
open kit

open s13

open Go.Shelf Go.Sort
theorem inV_pad8 {l : List Int} (h : okL 8 l) : inV (pad5 l) := by
  have z : ∀ i : Nat, inK (l[i]?.getD 0) := fun i => by have := okL_at0 h (by omega) i; unfold inK; omega
  have h4 := h.1
  refine ⟨?_, z 0, z 1, z 2, z 3⟩
  show inK (l.length : Int)
  unfold inK; omega
set_option maxRecDepth 100000 in
set_option maxHeartbeats 2000000 in
theorem ins_nil (w : World) : Calls Try.prog 92 #[.slice none 0 0, .int .i64 0, .int .i64 0, .func (.func 42) #[] #[]] w fun e w' => e = .returned (.tuple #[]) ∧ Below w.heap.size w w' := by
  go_enter Try.func92, Try.ntmps92
  go_wp2
  go_loopw [8] (fun v wr => v = .int .i64 1 ∧ Hid (Below w.heap.size w wr)) (fun _ _ => 0)
  case atStart => exact ⟨rfl, Lib.hid (Below.refl _ _)⟩
  case round =>
    obtain ⟨rfl, HB⟩ := hrel
    go_wp2
    go_end0
    exact ⟨rfl, HB.out⟩
set_option maxRecDepth 100000 in
set_option maxHeartbeats 4000000 in
theorem pdq_nil (lim : Int) (w : World) : Calls Try.prog 88 #[.slice none 0 0, .int .i64 0, .int .i64 0, .int .i64 lim, .func (.func 42) #[] #[]] w fun e w' => e = .returned (.tuple #[]) ∧ Below w.heap.size w w' := by
  go_enter Try.func88, Try.ntmps88
  go_wp2
  go_loopw [1, 2] (fun v1 v2 wr => v1 = .int .i64 0 ∧ v2 = .int .i64 0 ∧ Hid (Below w.heap.size w wr)) (fun _ _ _ => 0)
  case atStart => exact ⟨rfl, rfl, Lib.hid (Below.refl _ _)⟩
  case round =>
    obtain ⟨rfl, rfl, HB⟩ := hrel
    go_wp2_with (go_at_call 92; refine (ins_nil _).mono ?_; rintro e w1 ⟨rfl, hB⟩; have B1 := Lib.hid (below_then HB.out hB); clear hB)
    first
      | go_end0
      | (refine bodyPost_ret (results_none rfl _ _ _) rfl ?_)
    exact ⟨rfl, B1.out⟩
set_option maxRecDepth 100000 in
set_option maxHeartbeats 2000000 in
theorem sort_nil (w : World) : Calls Try.prog 73 #[.slice none 0 0, .func (.func 42) #[] #[]] w fun e w' => e = .returned (.tuple #[]) ∧ Below w.heap.size w w' := by
  have hl : Calls Try.prog 89 #[.int .u64 0] w fun e w' => e = .returned (.int .i64 0) ∧ w' = w := by
    have h := Any.bits_Len (SlLaysF0.n15.bits (P := Try.prog) (ρ := lay.lay73_ren) { lay.lay73 with }) 0 w (by omega) (by omega)
    exact h
  go_enter Try.func73, Try.ntmps73
  go_wp2_with (first
    | (go_at_call 89; refine hl.mono ?_; rintro e w1 ⟨rfl, rfl⟩)
    | (go_at_call 88; refine (pdq_nil _ _).mono ?_; rintro e w1 ⟨rfl, hB⟩; have B1 := Lib.hid hB; clear hB))
  go_end0
  exact ⟨rfl, B1.out⟩
theorem asc_of_up {l : List (List Int)} (h : Up l) (hn : l.Nodup) : Asc l := by
  refine (List.Pairwise.and h hn).imp fun {x y} ⟨h1, h2⟩ => ?_
  rcases Int.lt_or_eq_of_le h1 with k | k
  · exact k
  · exact absurd (cmpL_zero k) h2
theorem nodup_of_map {α β : Type} (f : α → β) : ∀ {l : List α}, (l.map f).Nodup → l.Nodup
  | [], _ => List.nodup_nil
  | x :: l, h => by
    rw [List.map_cons, List.nodup_cons] at h
    exact List.nodup_cons.2 ⟨fun hx => h.1 (List.mem_map_of_mem hx), nodup_of_map f h.2⟩
/-- keys that came of right looks, as lists -/
theorem keys_lists {ss : List V5} {L : List (List Int)} (hL : ∀ x ∈ L, okL 8 x) (h : ss.Nodup ∧ ∀ y, y ∈ ss ↔ y ∈ L.map pad5) : (ss.map lst).map pad5 = ss ∧ (ss.map lst).Nodup ∧ (∀ x, x ∈ ss.map lst ↔ x ∈ L) ∧ ∀ x ∈ ss.map lst, okL 8 x := by
  have hp : ∀ y ∈ ss, ∃ x ∈ L, pad5 x = y := fun y hy => List.mem_map.1 ((h.2 y).1 hy)
  have e1 : (ss.map lst).map pad5 = ss := by
    rw [List.map_map]
    refine (List.map_congr_left fun y hy => ?_).trans (List.map_id ss)
    obtain ⟨x, hx, rfl⟩ := hp y hy
    show pad5 (lst (pad5 x)) = pad5 x
    rw [lst_pad (hL x hx).1]
  have e2 : ∀ x, x ∈ ss.map lst ↔ x ∈ L := fun x => by
    rw [List.mem_map]
    constructor
    · rintro ⟨y, hy, rfl⟩
      obtain ⟨x, hx, rfl⟩ := hp y hy
      rw [lst_pad (hL x hx).1]; exact hx
    · intro hx
      exact ⟨pad5 x, (h.2 _).2 (List.mem_map_of_mem hx), lst_pad (hL x hx).1⟩
  refine ⟨e1, ?_, e2, fun x hx => hL x ((e2 x).1 hx)⟩
  have hn := h.1
  rw [← e1] at hn
  exact nodup_of_map pad5 hn
set_option maxRecDepth 100000 in
set_option maxHeartbeats 2000000 in
theorem sortedfunc_any (bm b nn B : Nat) (w : World) (hB : B ≤ w.heap.size) (L : List (List Int)) (hL : Hid (∀ x ∈ L, okL 8 x)) (D0 : DataW Unit) (hD : Hid (KeySet D0 (L.map pad5))) (hX : Hid (Box w 60 bm #[.map (some b)])) (hown : Hid (w.ownsMap Try.prog 25 (plainElem Try.prog 4) b nn D0)) (zm : B ≤ bm) (zb : B ≤ b) (hnn : nn ≤ 20000) (N : Nat) (HN : Hid ((setS L).length = N)) :
    Calls Try.prog 46 #[.func (.func 74) #[] #[.pointer (some ⟨bm, 0, none⟩)], .func (.func 42) #[] #[]] w fun e w' => ∃ p cp, e = .returned (.slice p N cp) ∧ Reads5 w' p ((setS L).map pad5) ∧ Below B w w' ∧ N ≤ cp := by
  have hLV : ∀ y ∈ L.map pad5, inV y := fun y hy => by
    obtain ⟨x, hx, rfl⟩ := List.mem_map.1 hy
    exact inV_pad8 (hL.out x hx)
  have HLV := Lib.hid hLV
  clear hLV
  go_enter Try.func46, Try.ntmps46
  go_wp2_with (go_at_call 72; refine (collect_any bm b nn B _ hB (L.map pad5) HLV D0 hD hX hown zm zb hnn).mono ?_; rintro e w1 ⟨v, ss, rfl, hs, hR, hB1, hn⟩)
  obtain ⟨k1, k2, k3, k4⟩ := keys_lists hL.out hs
  have hlen : (ss.map lst).length = ss.length := List.length_map ..
  rcases hR.2 with ⟨rfl, h0⟩ | ⟨g, cap, cur, rfl, hg, hb, h1, h2, h3, h4⟩
  · have hss : ss = [] := List.length_eq_zero_iff.1 h0
    have hS : setS L = [] := by
      refine (setS_eq asc_nil (fun z => ?_)).symm
      rw [← k3 z, hss]; simp
    have hN0 : N = 0 := by rw [← HN.out, hS]; rfl
    subst hN0
    have HB1 := Lib.hid hB1
    have HS := Lib.hid hS
    clear hs hR k1 k2 k3 k4 hlen h0 hss hS hB1 hn
    go_wp2_with (go_at_call 73; refine (sort_nil _).mono ?_; rintro e w2 ⟨rfl, hB2⟩; have HB2 := Lib.hid (below_on HB1.out hB hB2); clear hB2)
    go_ret
    exact ⟨none, 0, rfl, by rw [HS.out]; exact Reads5.nil _ _, HB2.out, Nat.le_refl _⟩
  · have hr0 : Row5 w1 g ss := by
      by_cases hz : ss.length = 0
      · have hss : ss = [] := List.length_eq_zero_iff.1 hz
        rw [hss]
        exact ⟨cur, hb, Nat.zero_le _, fun i hi => by simp [flat5] at hi⟩
      · obtain ⟨g', cap', e, _, _, hr⟩ := row5_of (l := ss) rfl (by omega) hR
        cases e; exact hr
    have hrow : Row5 w1 g ((ss.map lst).map pad5) := by rw [k1]; exact hr0
    have HROW := Lib.hid hrow
    have HLEN := Lib.hid hlen
    have HK4 := Lib.hid k4
    have HK3 := Lib.hid k3
    have HK2 := Lib.hid k2
    have HB1 := Lib.hid hB1
    have hBg : B ≤ g := Nat.le_trans hB hg
    have hB1s : B ≤ w1.heap.size := Nat.le_trans hB hB1.size
    have hcap := h1
    clear hrow hlen k1 k2 k3 k4 hs hR hb h2 h3 h4 hB1 h1 hr0
    go_wp2_with (go_at_call 73; refine (sort_any (ss.map lst) g cap ss.length _ HLEN (by omega) HK4 HROW).mono ?_; rintro e w2 ⟨rfl, L2, hperm, hup, hr2, hb2⟩; have HP := Lib.hid hperm; have HU := Lib.hid hup; have HR2 := Lib.hid hr2; have HB2 := Lib.hid (HB1.out.trans (hb2 B hBg hB1s)); clear hperm hup hr2 hb2)
    have hS : L2 = setS L := setS_eq (asc_of_up HU.out (HP.out.nodup_iff.2 HK2.out)) (fun z => (HP.out.mem_iff).trans (HK3.out z))
    have hNl : ss.length = N := by rw [← HN.out, ← hS, HP.out.length_eq]; exact HLEN.out.symm
    have HS := Lib.hid hS
    clear hS
    go_ret
    exact ⟨_, cap, ret_slice hNl, by rw [← HS.out]; exact HR2.out, HB2.out, by omega⟩
/-- what Of says -/
def chkOf (t : Int) : List V5 → Int
  | [] => 0
  | x :: l => if chkV x t ≠ 0 then chkV x t else chkOf t l
def ofP (t : Int) (l : List V5) : Int := if t < 1 ∨ 8 < t then 2 else if 20000 < l.length then 6 else chkOf t l
theorem chkOf_look {t : Int} : ∀ {l : List V5}, chkOf t l = 0 → ∃ L : List (List Int), l = L.map pad5 ∧ ∀ x ∈ L, okL t x
  | [], _ => ⟨[], rfl, by simp⟩
  | x :: l, h => by
    rw [chkOf] at h
    by_cases hz : chkV x t = 0
    · rw [if_neg (by simpa using hz)] at h
      obtain ⟨L, e, h2⟩ := chkOf_look h
      obtain ⟨y, hy, rfl⟩ := chkV_look hz
      exact ⟨y :: L, by rw [e]; rfl, fun z hm => by rcases List.mem_cons.1 hm with rfl | hm; exact hy; exact h2 z hm⟩
    · rw [if_pos hz] at h; exact absurd h hz
theorem chkOf_ok {t : Int} (t1 : 1 ≤ t) (t2 : t ≤ 8) : ∀ {L : List (List Int)}, (∀ x ∈ L, okL t x) → chkOf t (L.map pad5) = 0
  | [], _ => rfl
  | x :: L, h => by
    rw [List.map_cons, chkOf, if_neg (by simpa using chkV_pad (h x (List.mem_cons_self ..)) t1 t2)]
    exact chkOf_ok t1 t2 (fun y hy => h y (List.mem_cons_of_mem _ hy))
theorem KeySet.new : KeySet (.map []) [] := fun kl => ⟨fun h => (by cases h), fun ⟨y, hy, _⟩ => (by cases hy)⟩
set_option maxRecDepth 100000 in
set_option maxHeartbeats 2000000 in
theorem pof_range (t : Int) (a : Option Addr) (n c : Nat) (w : World) (h : t < 1 ∨ 8 < t) : Calls Try.prog 13 #[.int .i64 t, .slice a n c] w fun e w' => e = noS 2 ∧ Below w.heap.size w w' := by
  go_enter Try.func13, Try.ntmps13
  go_wp2_with (go_at_call 39; refine (isterms_no t _ h).mono ?_; rintro e w1 ⟨rfl, rfl⟩)
  go_ret2
  exact ⟨rfl, Below.refl _ _⟩
set_option maxRecDepth 100000 in
set_option maxHeartbeats 2000000 in
theorem pof_full (t : Int) (a : Option Addr) (n c : Nat) (w : World) (h1 : 1 ≤ t) (h2 : t ≤ 8) (hn : 20000 < n) (hm : n ≤ 60000) : Calls Try.prog 13 #[.int .i64 t, .slice a n c] w fun e w' => e = noS 6 ∧ Below w.heap.size w w' := by
  have hq := issize_no n 20000 w hn hm
  go_enter Try.func13, Try.ntmps13
  go_wp2_with (first
    | (go_at_call 39; refine (isterms_yes t _ h1 h2).mono ?_; rintro e w1 ⟨rfl, rfl⟩)
    | (go_at_call 40; refine hq.mono ?_; rintro e w1 ⟨rfl, rfl⟩))
  go_ret2
  exact ⟨rfl, Below.refl _ _⟩
end Go.Proofs.Ytdahaajfkjmflaa.s14

namespace Go.Proofs.Ytdahaajfkjmflaa.s14
set_option linter.unusedVariables false
set_option linter.unusedSimpArgs false
open Go.RowKit
open kit

open s13

theorem chkV_inV {x : V5} {t : Int} (h : chkV x t = 0) (ht : t ≤ 8) : inV x := by
  obtain ⟨y, hy, rfl⟩ := chkV_look h
  exact inV_pad8 (okL_mono hy ht)
theorem take_get5 {l : List V5} {k : Nat} (h : k < l.length) : l.take (k + 1) = l.take k ++ [l[k]?.getD no5] := by
  rw [List.take_add_one, List.getElem?_eq_getElem h]; rfl
def MapK (w : World) (g k : Nat) (l : List V5) : Prop := ∃ D : DataW Unit, w.ownsMap Try.prog 25 (plainElem Try.prog 4) g k D ∧ KeySet D l
theorem MapK.new (w : World) : MapK (w.alloc (.map #[] 0)) w.heap.size 0 [] := ⟨_, World.ownsMap_made w _ _ _, KeySet.new⟩
theorem MapK.below {w w1 : World} {g k : Nat} {l : List V5} (h : MapK w g k l) (hB : Below w.heap.size w w1) : MapK w1 g k l := by
  obtain ⟨D, h1, h2⟩ := h
  exact ⟨D, h1.kept (row := none) ⟨hB.os, hB.tape, hB.output, hB.size, fun i hi _ => hB.block i hi⟩ (by simp), h2⟩
theorem MapK.lt {w : World} {g k : Nat} {l : List V5} (h : MapK w g k l) : g < w.heap.size := by obtain ⟨D, h1, h2⟩ := h; exact h1.lt
/-- what Of hands back -/
def OfP (t : Int) (l : List V5) (r : Int) (e : Ending) (w' : World) : Prop := (r ≠ 0 ∧ e = noS r) ∨ (r = 0 ∧ ∃ (L : List (List Int)) (p : Option Addr) (cp : Nat), l = L.map pad5 ∧ (∀ x ∈ L, okL t x) ∧ e = .returned (.tuple #[.slice p (setS L).length cp, .int .i64 0]) ∧ Reads5 w' p ((setS L).map pad5) ∧ (setS L).length ≤ cp)
set_option maxRecDepth 100000 in
set_option maxHeartbeats 6000000 in
theorem pof_scan (t : Int) (a : Option Addr) (c : Nat) (l : List V5) (n : Nat) (w : World) (t1 : 1 ≤ t) (t2 : t ≤ 8) (hl : Hid (l.length = n)) (hn : n ≤ 20000) (hr : Hid (Reads5 w a l)) (r : Int) (H : Hid (chkOf t l = r)) :
    Calls Try.prog 13 #[.int .i64 t, .slice a n c] w fun e w' => OfP t l r e w' ∧ Below w.heap.size w w' := by
  have hq := issize_yes n 20000 w hn (by omega)
  have hmm := @run_makeMap Try.prog
  go_enter Try.func13, Try.ntmps13
  go_wp2_with (first
    | (go_at_call 39; refine (isterms_yes t _ t1 t2).mono ?_; rintro e w1 ⟨rfl, rfl⟩)
    | (go_at_call 40; refine hq.mono ?_; rintro e w1 ⟨rfl, rfl⟩))
  have MP := Lib.hid (MapK.new w)
  have B0 := Lib.hid ((Below.refl w.heap.size w).alloc (Nat.le_refl _) (.map #[] 0))
  clear hq hmm
  go_loopw [20] (fun i wr => ∃ k : Nat, i = .int .i64 k ∧ k ≤ n ∧ Hid (chkOf t (l.drop k) = r) ∧ Hid (MapK wr w.heap.size k (l.take k)) ∧ Hid (Below w.heap.size w wr)) (fun i _ => n - (intOf i).toNat)
  case atStart => exact ⟨0, rfl, by omega, H, MP, B0⟩
  case round =>
    obtain ⟨k, rfl, hk, HK, HMp, HB⟩ := hrel
    by_cases hlt : k < n
    · have hlt2 : k < l.length := by rw [hl.out]; exact hlt
      obtain ⟨b, off, rfl, hb, c0, c1, c2, c3, c4⟩ := (hr.out.below HB.out) k hlt2
      have HD := HK.out
      have HT := take_get5 hlt2
      rw [drop_get hlt2, chkOf] at HD
      have HBs := HB.out.size
      generalize l[k]?.getD no5 = x at c0 c1 c2 c3 c4 HD HT
      obtain ⟨m, x0, x1, x2, x3⟩ := x
      simp only at c0 c1 c2 c3 c4
      by_cases hz : chkV (m, x0, x1, x2, x3) t = 0
      · rw [if_neg (by simpa using hz)] at HD
        have HZ : Hid (chkP m x0 x1 x2 x3 t = 0) := Lib.hid hz
        have hin := chkV_inV hz t2
        have HKY := Lib.hid (key_of m x0 x1 x2 x3 hin)
        have HD2 := Lib.hid HD
        have HT2 := Lib.hid HT
        clear hz HD hin HT HK
        go_wp2_with (first
          | (go_at_call 41; refine (pcheck_any m x0 x1 x2 x3 t 0 _ HZ).mono ?_; rintro e w1 ⟨rfl, hB⟩; have B1 := Lib.hid (below_on (HB.out.alloc HBs (.cells #[.int .i64 m, .int .i64 x0, .int .i64 x1, .int .i64 x2, .int .i64 x3] 25)) (Nat.le_refl _) hB); have X1 := Lib.hid (made1 hB).1; have M1 := Lib.hid (HMp.out.below (made1 hB).2); obtain ⟨u0, u1, u2, u3, u4⟩ := X1.out.cell5; clear hB; obtain ⟨D, hown, hD⟩ := M1.out; have HDD := Lib.hid hD; have HO := Lib.hid hown; clear hown hD)
          | (at_mapUpdate; refine wpList_mapUpdate_own _ rfl _ _ _ 60 rfl 25 4 lawLook Try.underlying60 _ w.heap.size k D rfl HO.out (by unfold maxLen; omega) _ _ _ rfl rfl HKY.out _ [] (plainElem_bool Try.underlying4 true) ?_; intro w3 hown1 hgrow1; have B4 := Lib.hid (B1.out.grown hgrow1 B1.out.size (fun j e => by cases e; omega)); have M4 : Hid (MapK w3 w.heap.size (k + 1) (l.take (k + 1))) := Lib.hid ⟨_, hown1, by rw [HT2.out]; exact HDD.out.put HO.out.isMap _ _⟩; clear hown1 hgrow1))
        go_roundw
        case rel => exact ⟨k + 1, by go_num, by omega, HD2, M4, B4⟩
        case measure => simp [intOf]; omega
      · rw [if_pos hz] at HD
        have hz2 : (r != 0) = true := by rw [HD] at hz; simpa using hz
        have hz3 : r ≠ 0 := by simpa using hz2
        have HZ : Hid (chkP m x0 x1 x2 x3 t = r) := Lib.hid HD
        clear hz HD HT HK
        go_wp2_with (go_at_call 41; refine (pcheck_any m x0 x1 x2 x3 t r _ HZ).mono ?_; rintro e w1 ⟨rfl, hB⟩; have B1 := Lib.hid (below_on (HB.out.alloc HBs (.cells #[.int .i64 m, .int .i64 x0, .int .i64 x1, .int .i64 x2, .int .i64 x3] 25)) (Nat.le_refl _) hB); obtain ⟨u0, u1, u2, u3, u4⟩ := (made1 hB).1.cell5; clear hB)
        go_ret2
        exact ⟨.inl ⟨hz3, rfl⟩, B1.out⟩
    · obtain rfl : k = n := by omega
      have h0 := HK.out
      rw [List.drop_of_length_le (by rw [hl.out]; exact Nat.le_refl _)] at h0
      obtain rfl : r = 0 := h0.symm
      obtain ⟨L, hL, hok⟩ := chkOf_look H.out
      have htk : l.take k = L.map pad5 := by rw [List.take_of_length_le (by rw [hl.out]; exact Nat.le_refl _)]; exact hL
      obtain ⟨D, hown, hD⟩ := HMp.out
      rw [htk] at hD
      have HDD := Lib.hid hD
      have HO := Lib.hid hown
      have HL8 := Lib.hid (fun x hx => okL_mono (hok x hx) t2)
      have HOK := Lib.hid hok
      have HLL := Lib.hid hL
      have HBs := HB.out.size
      have hlt := hown.lt
      clear h0 htk hD hown hL hok HK HMp
      go_wp2_with (first
        | (go_at_call 47; refine (keys_any _ _).mono ?_; rintro e w1 ⟨rfl, rfl⟩)
        | (go_at_call 46; refine (sortedfunc_any wr.heap.size w.heap.size k w.heap.size _ (by simp; omega) L HL8 D HDD (Lib.hid (Box.new _ _ _)) (Lib.hid (HO.out.alloc _)) (by omega) (Nat.le_refl _) (by omega) _ (Lib.hid rfl)).mono ?_; rintro e w2 ⟨p, cp, rfl, hR, hB2, hcp⟩; have B2 := Lib.hid ((HB.out.alloc HBs _).trans hB2); have HR := Lib.hid hR; clear hB2 hR))
      go_ret2
      exact ⟨.inr ⟨rfl, L, p, cp, HLL.out, HOK.out, rfl, HR.out, hcp⟩, B2.out⟩
set_option maxRecDepth 100000 in
set_option maxHeartbeats 2000000 in
theorem pof_any (t : Int) (a : Option Addr) (n c : Nat) (l : List V5) (w : World) (hl : Hid (l.length = n)) (hn : n ≤ 60000) (hr : Hid (Reads5 w a l)) (r : Int) (H : Hid (ofP t l = r)) :
    Calls Try.prog 13 #[.int .i64 t, .slice a n c] w fun e w' => OfP t l r e w' ∧ Below w.heap.size w w' := by
  have h := H.out
  unfold ofP at h
  by_cases h1 : t < 1 ∨ 8 < t
  · rw [if_pos h1] at h
    subst h
    exact (pof_range t a n c w h1).mono (fun e w' ⟨he, hB⟩ => ⟨.inl ⟨by decide, he⟩, hB⟩)
  · rw [if_neg h1] at h
    by_cases h2 : 20000 < l.length
    · rw [if_pos h2] at h
      subst h
      exact (pof_full t a n c w (by omega) (by omega) (by rw [← hl.out]; exact h2) hn).mono (fun e w' ⟨he, hB⟩ => ⟨.inl ⟨by decide, he⟩, hB⟩)
    · rw [if_neg h2] at h
      exact pof_scan t a c l n w (by omega) (by omega) hl (by have := hl.out; omega) hr r (Lib.hid h)
end Go.Proofs.Ytdahaajfkjmflaa.s14

namespace Go.Proofs.Ytdahaajfkjmflaa.s14
set_option linter.unusedVariables false
set_option linter.unusedSimpArgs false
open Go.RowKit
open kit

open s13

theorem kM_tt (w : World) : Calls Try.prog 55 #[.bool true, .bool true] w fun e w' => e = .returned (.bool true) ∧ w = w' := by
  go_enter Try.func55, Try.ntmps55
  go_wp2
  go_ret
  exact ⟨rfl, rfl⟩
theorem kM_tf (w : World) : Calls Try.prog 55 #[.bool true, .bool false] w fun e w' => e = .returned (.bool false) ∧ w = w' := by
  go_enter Try.func55, Try.ntmps55
  go_wp2
  go_ret
  exact ⟨rfl, rfl⟩
theorem kM_ft (w : World) : Calls Try.prog 55 #[.bool false, .bool true] w fun e w' => e = .returned (.bool false) ∧ w = w' := by
  go_enter Try.func55, Try.ntmps55
  go_wp2
  go_ret
  exact ⟨rfl, rfl⟩
set_option maxRecDepth 100000 in
set_option maxHeartbeats 20000000 in
theorem mergeM (a b : Option Addr) (n m ca cb : Nat) (A B : List (List Int)) (w : World) (hn : Hid (A.length = n)) (hm : Hid (B.length = m)) (ha : n ≤ ca) (hb : m ≤ cb) (hsz : n + m ≤ 100000) (hA : Hid (∀ x ∈ A, okL 8 x)) (hB : Hid (∀ x ∈ B, okL 8 x)) (ra : Hid (Reads5 w a (A.map pad5))) (rb : Hid (Reads5 w b (B.map pad5))) (R : List (List Int)) (N : Nat) (HR : Hid (mrg kM A B = R)) (HN : Hid (R.length = N)) :
    Calls Try.prog 54 #[.slice a n ca, .slice b m cb, .func (.func 42) #[] #[], .func (.func 55) #[] #[]] w fun e w' => ∃ p cp, e = .returned (.slice p N cp) ∧ Reads5 w' p (R.map pad5) ∧ Below w.heap.size w w' ∧ N ≤ cp := by
  go_enter Try.func54, Try.ntmps54
  go_wp2
  go_loopw [0, 1, 9] (fun va vb vm wr => ∃ (A B D : List (List Int)) (a b : Option Addr) (n m ca cb : Nat), va = .slice a n ca ∧ vb = .slice b m cb ∧ n ≤ ca ∧ m ≤ cb ∧ Hid (A.length = n) ∧ Hid (B.length = m) ∧ Hid (D.length + n + m ≤ 100000) ∧ Hid (RelM kM w R A B D a b vm wr)) (fun va vb _ _ => slen va + slen vb)
  case atStart => exact ⟨A, B, [], a, b, n, m, ca, cb, rfl, rfl, ha, hb, hn, hm, Lib.hid (by simpa using hsz), Lib.hid ⟨ra.out, rb.out, HR.out, hA.out, hB.out, World.ownsRow_nil _ _ _ _, Below.refl _ _⟩⟩
  case round =>
    clear hn hm ha hb hsz hA hB ra rb
    obtain ⟨A, B, D, a, b, n, m, ca, cb, rfl, rfl, ha, hb, hn, hm, hsz, HREL⟩ := hrel
    have HB0 := Lib.hid HREL.out.hb
    have hws := HREL.out.hb.size
    rcases A with _ | ⟨x, A⟩
    · obtain rfl : n = 0 := hn.out.symm
      rcases B with _ | ⟨y, B⟩
      · obtain rfl : m = 0 := hm.out.symm
        have hR := HREL.out.eq
        rw [mrg_nil, List.append_nil] at hR
        subst hR
        have hrow := HREL.out.row
        rw [HN.out] at hrow
        obtain ⟨p, cp, rfl, hcp⟩ := row5_shape hrow
        have HROW := Lib.hid hrow
        clear hrow
        go_wp2
        go_ret
        exact ⟨p, cp, rfl, reads5_of_row (by rw [List.length_map]; exact HN.out) HROW.out, HREL.out.hb, hcp⟩
      · obtain ⟨m, rfl⟩ : ∃ m', m = m' + 1 := ⟨B.length, hm.out.symm⟩
        have HLB : Hid (B.length = m) := Lib.hid (by have := hm.out; simpa using this)
        have hR := HREL.out.eq
        rw [mrg_right] at hR
        have HEQ := Lib.hid hR
        clear hR hm
        obtain ⟨g, o, rfl, hg, haty, htly⟩ := reads_head HREL.out.rb
        have HTy := Lib.hid htly
        have hoy := Lib.hid (HREL.out.ob y (List.mem_cons_self ..))
        obtain ⟨⟨y0, y1, y2, y3, y4⟩, hy⟩ : ∃ v, pad5 y = v := ⟨_, rfl⟩
        rw [hy] at haty
        have Hy := Lib.hid hy
        have HAy := Lib.hid (haty.below HREL.out.hb)
        have hlg : g < wr.heap.size := Nat.lt_of_lt_of_le hg HREL.out.hb.size
        clear htly haty hy
        have h1 : (0 : Int) < ((m + 1 : Nat) : Int) := by omega
        have h2 : decide ((0 : Int) < ((m + 1 : Nat) : Int)) = true := decide_eq_true h1
        have hq : Hid (Reads5 w (if cb = 1 then some ⟨g, o, none⟩ else some ⟨g, o + 5, none⟩) (B.map pad5)) := Lib.hid (tail_if (by have := HLB.out; omega) HTy.out)
        go_wp2_with (first
          | (go_at_call 77; refine (heads_left _ _ _ _ _ _).mono ?_; rintro e w2 ⟨rfl, rfl⟩))
        have X := Box.new wr 25 #[.int .i64 0, .int .i64 0, .int .i64 0, .int .i64 0, .int .i64 0]
        have HB1 := Lib.hid (HB0.out.alloc HB0.out.size (.cells #[.int .i64 0, .int .i64 0, .int .i64 0, .int .i64 0, .int .i64 0] 25))
        have HW1 := Lib.hid ((Below.refl wr.heap.size wr).alloc (Nat.le_refl _) (.cells #[.int .i64 0, .int .i64 0, .int .i64 0, .int .i64 0, .int .i64 0] 25))
        generalize wr.alloc (.cells #[.int .i64 0, .int .i64 0, .int .i64 0, .int .i64 0, .int .i64 0] 25) = W at X HB1 HW1 ⊢
        obtain ⟨c0, c1, c2, c3, c4⟩ := (HAy.out.below HW1.out)
        obtain ⟨zc0, zc1, zc2, zc3, zc4⟩ := X.cell5
        obtain ⟨f0, f1, f2, f3, f4⟩ := X.free5
        have hxg : wr.heap.size ≠ g := by omega
        have hgx : g ≠ wr.heap.size := by omega
        have HX := Lib.hid X
        clear X
        go_region
        have HX2 := Lib.hid (HX.out.put5 (.int .i64 y0) (.int .i64 y1) (.int .i64 y2) (.int .i64 y3) (.int .i64 y4)).drew
        have HB2 := Lib.hid (below_put5 HB1.out HB0.out.size (.int .i64 y0) (.int .i64 y1) (.int .i64 y2) (.int .i64 y3) (.int .i64 y4)).drew
        have HW2 := Lib.hid (below_put5 HW1.out (Nat.le_refl _) (.int .i64 y0) (.int .i64 y1) (.int .i64 y2) (.int .i64 y3) (.int .i64 y4)).drew
        clear c0 c1 c2 c3 c4 zc0 zc1 zc2 zc3 zc4 f0 f1 f2 f3 f4 HX HB1 HW1 hxg hgx
        generalize (if cb = 1 then some (⟨g, o, none⟩ : Addr) else some ⟨g, o + 5, none⟩) = q at hq ⊢
        generalize (((((W.setCell ⟨wr.heap.size, 0, none⟩ (.int .i64 y0)).setCell ⟨wr.heap.size, 1, none⟩ (.int .i64 y1)).setCell ⟨wr.heap.size, 2, none⟩ (.int .i64 y2)).setCell ⟨wr.heap.size, 3, none⟩ (.int .i64 y3)).setCell ⟨wr.heap.size, 4, none⟩ (.int .i64 y4)).drew = W2 at HX2 HB2 HW2 ⊢
        have X := HX2.out
        have HB1 := HB2
        have HW1 := HW2
        clear HX2 HB2 HW2
        obtain ⟨zc0, zc1, zc2, zc3, zc4⟩ := X.cell5
        have HROW2 := Lib.hid (own5_below HREL.out.row HW1.out)
        have HSL := HB1.out.size
        go_wp2_with (go_at_call 55; refine (kM_ft _).mono ?_; rintro e w3 ⟨rfl, rfl⟩)
        refine ⟨⟨[], B, D, a, q, 0, m, ca, (cb - 1), rfl, rfl, ha, (by omega), hn, HLB, Lib.hid (by have := hsz.out; omega), Lib.hid ⟨Reads5.nil _ _, hq.out, ?_, (by simp), (fun z hz => HREL.out.ob z (List.mem_cons_of_mem _ hz)), HROW2.out, HB1.out⟩⟩, by simp [slen]; try omega⟩
        have h := HEQ.out; simpa [one, kM] using h
    · obtain ⟨n, rfl⟩ : ∃ n', n = n' + 1 := ⟨A.length, hn.out.symm⟩
      have HLA : Hid (A.length = n) := Lib.hid (by have := hn.out; simpa using this)
      have h1 : (0 : Int) < ((n + 1 : Nat) : Int) := by omega
      have h2 : decide ((0 : Int) < ((n + 1 : Nat) : Int)) = true := decide_eq_true h1
      obtain ⟨g, o, rfl, hg, hatx, htlx⟩ := reads_head HREL.out.ra
      have HTx := Lib.hid htlx
      have hox := Lib.hid (HREL.out.oa x (List.mem_cons_self ..))
      obtain ⟨⟨x0, x1, x2, x3, x4⟩, hx⟩ : ∃ v, pad5 x = v := ⟨_, rfl⟩
      rw [hx] at hatx
      have Hx := Lib.hid hx
      have HAx := Lib.hid (hatx.below HREL.out.hb)
      have hlg : g < wr.heap.size := Nat.lt_of_lt_of_le hg HREL.out.hb.size
      clear htlx hatx hx
      have hq : Hid (Reads5 w (if ca = 1 then some ⟨g, o, none⟩ else some ⟨g, o + 5, none⟩) (A.map pad5)) := Lib.hid (tail_if (by have := HLA.out; omega) HTx.out)
      rcases B with _ | ⟨y, B⟩
      · obtain rfl : m = 0 := hm.out.symm
        have hR := HREL.out.eq
        rw [mrg_left] at hR
        have HEQ := Lib.hid hR
        clear hR hn
        go_wp2_with (first
          | (go_at_call 77; refine (heads_right _ _ _ _ _ _ (by omega)).mono ?_; rintro e w2 ⟨rfl, rfl⟩))
        have X := Box.new wr 25 #[.int .i64 0, .int .i64 0, .int .i64 0, .int .i64 0, .int .i64 0]
        have HB1 := Lib.hid (HB0.out.alloc HB0.out.size (.cells #[.int .i64 0, .int .i64 0, .int .i64 0, .int .i64 0, .int .i64 0] 25))
        have HW1 := Lib.hid ((Below.refl wr.heap.size wr).alloc (Nat.le_refl _) (.cells #[.int .i64 0, .int .i64 0, .int .i64 0, .int .i64 0, .int .i64 0] 25))
        generalize wr.alloc (.cells #[.int .i64 0, .int .i64 0, .int .i64 0, .int .i64 0, .int .i64 0] 25) = W at X HB1 HW1 ⊢
        obtain ⟨c0, c1, c2, c3, c4⟩ := (HAx.out.below HW1.out)
        obtain ⟨zc0, zc1, zc2, zc3, zc4⟩ := X.cell5
        obtain ⟨f0, f1, f2, f3, f4⟩ := X.free5
        have hxg : wr.heap.size ≠ g := by omega
        have hgx : g ≠ wr.heap.size := by omega
        have HX := Lib.hid X
        clear X
        go_region
        have HX2 := Lib.hid (HX.out.put5 (.int .i64 x0) (.int .i64 x1) (.int .i64 x2) (.int .i64 x3) (.int .i64 x4)).drew
        have HB2 := Lib.hid (below_put5 HB1.out HB0.out.size (.int .i64 x0) (.int .i64 x1) (.int .i64 x2) (.int .i64 x3) (.int .i64 x4)).drew
        have HW2 := Lib.hid (below_put5 HW1.out (Nat.le_refl _) (.int .i64 x0) (.int .i64 x1) (.int .i64 x2) (.int .i64 x3) (.int .i64 x4)).drew
        clear c0 c1 c2 c3 c4 zc0 zc1 zc2 zc3 zc4 f0 f1 f2 f3 f4 HX HB1 HW1 hxg hgx
        generalize (if ca = 1 then some (⟨g, o, none⟩ : Addr) else some ⟨g, o + 5, none⟩) = q at hq ⊢
        generalize (((((W.setCell ⟨wr.heap.size, 0, none⟩ (.int .i64 x0)).setCell ⟨wr.heap.size, 1, none⟩ (.int .i64 x1)).setCell ⟨wr.heap.size, 2, none⟩ (.int .i64 x2)).setCell ⟨wr.heap.size, 3, none⟩ (.int .i64 x3)).setCell ⟨wr.heap.size, 4, none⟩ (.int .i64 x4)).drew = W2 at HX2 HB2 HW2 ⊢
        have X := HX2.out
        have HB1 := HB2
        have HW1 := HW2
        clear HX2 HB2 HW2
        obtain ⟨zc0, zc1, zc2, zc3, zc4⟩ := X.cell5
        have HROW2 := Lib.hid (own5_below HREL.out.row HW1.out)
        have HSL := HB1.out.size
        go_wp2_with (go_at_call 55; refine (kM_tf _).mono ?_; rintro e w3 ⟨rfl, rfl⟩)
        refine ⟨⟨A, [], D, q, b, n, 0, (ca - 1), cb, rfl, rfl, (by omega), hb, HLA, hm, Lib.hid (by have := hsz.out; omega), Lib.hid ⟨hq.out, Reads5.nil _ _, ?_, (fun z hz => HREL.out.oa z (List.mem_cons_of_mem _ hz)), (by simp), HROW2.out, HB1.out⟩⟩, by simp [slen]; try omega⟩
        have h := HEQ.out; simpa [one, kM] using h
      · obtain ⟨m, rfl⟩ : ∃ m', m = m' + 1 := ⟨B.length, hm.out.symm⟩
        have HLB : Hid (B.length = m) := Lib.hid (by have := hm.out; simpa using this)
        obtain ⟨gg, oo, rfl, hgg, haty, htly⟩ := reads_head HREL.out.rb
        have HTy := Lib.hid htly
        have hoy := Lib.hid (HREL.out.ob y (List.mem_cons_self ..))
        obtain ⟨⟨y0, y1, y2, y3, y4⟩, hy⟩ : ∃ v, pad5 y = v := ⟨_, rfl⟩
        rw [hy] at haty
        have Hy := Lib.hid hy
        have HAy := Lib.hid (haty.below HREL.out.hb)
        have hlgg : gg < wr.heap.size := Nat.lt_of_lt_of_le hgg HREL.out.hb.size
        clear htly haty hy
        have hr : Hid (Reads5 w (if cb = 1 then some ⟨gg, oo, none⟩ else some ⟨gg, oo + 5, none⟩) (B.map pad5)) := Lib.hid (tail_if (by have := HLB.out; omega) HTy.out)
        have h3 : (0 : Int) < ((m + 1 : Nat) : Int) := by omega
        obtain ⟨v, hv⟩ : ∃ v, cmpL x y = v := ⟨_, rfl⟩
        have HCV := Lib.hid ((cmpE_ok hox.out hoy.out Hx.out Hy.out).trans (by rw [hv]))
        have hrg := cmpL_range x y
        have hR := HREL.out.eq
        rcases hrg with h | h | h
        · have hv2 : cmpL x y = (-1) := h
          rw [mrg_lt kM x y A B (by omega)] at hR
          have HEQ := Lib.hid hR
          obtain rfl : v = (-1) := hv.symm.trans hv2
          clear hR hv hv2 h
          go_wp2_with (first
            | (go_at_call 77; refine (heads_both _ _ _ _ _ _ _ (by omega) (by omega) g gg o oo x0 x1 x2 x3 x4 y0 y1 y2 y3 y4 (-1) rfl rfl HAx HAy HCV).mono ?_; rintro e w2 ⟨rfl, hB⟩; have B2 := Lib.hid hB; clear hB))
          have HREL2 := Lib.hid (HREL.out.on B2.out)
          have HAx2 := Lib.hid (HAx.out.below B2.out)
          have HAy2 := Lib.hid (HAy.out.below B2.out)
          have hlg2 := Nat.lt_of_lt_of_le hlg B2.out.size
          have hlgg2 := Nat.lt_of_lt_of_le hlgg B2.out.size
          clear HREL HAx HAy HB0 hws hlg hlgg
          have HREL := HREL2
          have HAx := HAx2
          have HAy := HAy2
          have hlg := hlg2
          have hlgg := hlgg2
          clear HREL2 HAx2 HAy2 hlg2 hlgg2 B2
          have HB0 := Lib.hid HREL.out.hb
          have hws := HREL.out.hb.size
          have X := Box.new w2 25 #[.int .i64 0, .int .i64 0, .int .i64 0, .int .i64 0, .int .i64 0]
          have HB1 := Lib.hid (HB0.out.alloc HB0.out.size (.cells #[.int .i64 0, .int .i64 0, .int .i64 0, .int .i64 0, .int .i64 0] 25))
          have HW1 := Lib.hid ((Below.refl w2.heap.size w2).alloc (Nat.le_refl _) (.cells #[.int .i64 0, .int .i64 0, .int .i64 0, .int .i64 0, .int .i64 0] 25))
          generalize w2.alloc (.cells #[.int .i64 0, .int .i64 0, .int .i64 0, .int .i64 0, .int .i64 0] 25) = W at X HB1 HW1 ⊢
          obtain ⟨c0, c1, c2, c3, c4⟩ := (HAx.out.below HW1.out)
          obtain ⟨zc0, zc1, zc2, zc3, zc4⟩ := X.cell5
          obtain ⟨f0, f1, f2, f3, f4⟩ := X.free5
          have hxg : w2.heap.size ≠ g := by omega
          have hgx : g ≠ w2.heap.size := by omega
          have HX := Lib.hid X
          clear X
          go_region
          have HX2 := Lib.hid (HX.out.put5 (.int .i64 x0) (.int .i64 x1) (.int .i64 x2) (.int .i64 x3) (.int .i64 x4)).drew
          have HB2 := Lib.hid (below_put5 HB1.out HB0.out.size (.int .i64 x0) (.int .i64 x1) (.int .i64 x2) (.int .i64 x3) (.int .i64 x4)).drew
          have HW2 := Lib.hid (below_put5 HW1.out (Nat.le_refl _) (.int .i64 x0) (.int .i64 x1) (.int .i64 x2) (.int .i64 x3) (.int .i64 x4)).drew
          clear c0 c1 c2 c3 c4 zc0 zc1 zc2 zc3 zc4 f0 f1 f2 f3 f4 HX HB1 HW1 hxg hgx
          generalize (if ca = 1 then some (⟨g, o, none⟩ : Addr) else some ⟨g, o + 5, none⟩) = q at hq ⊢
          generalize (((((W.setCell ⟨w2.heap.size, 0, none⟩ (.int .i64 x0)).setCell ⟨w2.heap.size, 1, none⟩ (.int .i64 x1)).setCell ⟨w2.heap.size, 2, none⟩ (.int .i64 x2)).setCell ⟨w2.heap.size, 3, none⟩ (.int .i64 x3)).setCell ⟨w2.heap.size, 4, none⟩ (.int .i64 x4)).drew = W2 at HX2 HB2 HW2 ⊢
          have X := HX2.out
          have HB1 := HB2
          have HW1 := HW2
          clear HX2 HB2 HW2
          obtain ⟨zc0, zc1, zc2, zc3, zc4⟩ := X.cell5
          have HROW2 := Lib.hid (own5_below HREL.out.row HW1.out)
          have HSL := HB1.out.size
          go_wp2_with (go_at_call 55; refine (kM_tf _).mono ?_; rintro e w3 ⟨rfl, rfl⟩)
          refine ⟨⟨A, (y :: B), D, q, _, n, (m + 1), (ca - 1), cb, rfl, rfl, (by omega), hb, HLA, hm, Lib.hid (by have := hsz.out; omega), Lib.hid ⟨hq.out, HREL.out.rb, ?_, (fun z hz => HREL.out.oa z (List.mem_cons_of_mem _ hz)), HREL.out.ob, HROW2.out, HB1.out⟩⟩, by simp [slen]; try omega⟩
          have h := HEQ.out; simpa [one, kM] using h
        · have hv2 : cmpL x y = 0 := h
          rw [mrg_eq kM x y A B (by omega)] at hR
          have HEQ := Lib.hid hR
          obtain rfl : v = 0 := hv.symm.trans hv2
          clear hR hv hv2 h
          go_wp2_with (first
            | (go_at_call 77; refine (heads_both _ _ _ _ _ _ _ (by omega) (by omega) g gg o oo x0 x1 x2 x3 x4 y0 y1 y2 y3 y4 0 rfl rfl HAx HAy HCV).mono ?_; rintro e w2 ⟨rfl, hB⟩; have B2 := Lib.hid hB; clear hB))
          have HREL2 := Lib.hid (HREL.out.on B2.out)
          have HAx2 := Lib.hid (HAx.out.below B2.out)
          have HAy2 := Lib.hid (HAy.out.below B2.out)
          have hlg2 := Nat.lt_of_lt_of_le hlg B2.out.size
          have hlgg2 := Nat.lt_of_lt_of_le hlgg B2.out.size
          clear HREL HAx HAy HB0 hws hlg hlgg
          have HREL := HREL2
          have HAx := HAx2
          have HAy := HAy2
          have hlg := hlg2
          have hlgg := hlgg2
          clear HREL2 HAx2 HAy2 hlg2 hlgg2 B2
          have HB0 := Lib.hid HREL.out.hb
          have hws := HREL.out.hb.size
          have X := Box.new w2 25 #[.int .i64 0, .int .i64 0, .int .i64 0, .int .i64 0, .int .i64 0]
          have HB1 := Lib.hid (HB0.out.alloc HB0.out.size (.cells #[.int .i64 0, .int .i64 0, .int .i64 0, .int .i64 0, .int .i64 0] 25))
          have HW1 := Lib.hid ((Below.refl w2.heap.size w2).alloc (Nat.le_refl _) (.cells #[.int .i64 0, .int .i64 0, .int .i64 0, .int .i64 0, .int .i64 0] 25))
          generalize w2.alloc (.cells #[.int .i64 0, .int .i64 0, .int .i64 0, .int .i64 0, .int .i64 0] 25) = W at X HB1 HW1 ⊢
          obtain ⟨c0, c1, c2, c3, c4⟩ := (HAx.out.below HW1.out)
          obtain ⟨zc0, zc1, zc2, zc3, zc4⟩ := X.cell5
          obtain ⟨f0, f1, f2, f3, f4⟩ := X.free5
          have hxg : w2.heap.size ≠ g := by omega
          have hgx : g ≠ w2.heap.size := by omega
          have HX := Lib.hid X
          clear X
          go_region
          have HX2 := Lib.hid (HX.out.put5 (.int .i64 x0) (.int .i64 x1) (.int .i64 x2) (.int .i64 x3) (.int .i64 x4)).drew
          have HB2 := Lib.hid (below_put5 HB1.out HB0.out.size (.int .i64 x0) (.int .i64 x1) (.int .i64 x2) (.int .i64 x3) (.int .i64 x4)).drew
          have HW2 := Lib.hid (below_put5 HW1.out (Nat.le_refl _) (.int .i64 x0) (.int .i64 x1) (.int .i64 x2) (.int .i64 x3) (.int .i64 x4)).drew
          clear c0 c1 c2 c3 c4 zc0 zc1 zc2 zc3 zc4 f0 f1 f2 f3 f4 HX HB1 HW1 hxg hgx
          generalize (if ca = 1 then some (⟨g, o, none⟩ : Addr) else some ⟨g, o + 5, none⟩) = q at hq ⊢
          generalize (((((W.setCell ⟨w2.heap.size, 0, none⟩ (.int .i64 x0)).setCell ⟨w2.heap.size, 1, none⟩ (.int .i64 x1)).setCell ⟨w2.heap.size, 2, none⟩ (.int .i64 x2)).setCell ⟨w2.heap.size, 3, none⟩ (.int .i64 x3)).setCell ⟨w2.heap.size, 4, none⟩ (.int .i64 x4)).drew = W2 at HX2 HB2 HW2 ⊢
          have X := HX2.out
          have HB1 := HB2
          have HW1 := HW2
          clear HX2 HB2 HW2
          go_wp2
          obtain ⟨c0, c1, c2, c3, c4⟩ := (HAy.out.below HW1.out)
          obtain ⟨zc0, zc1, zc2, zc3, zc4⟩ := X.cell5
          obtain ⟨f0, f1, f2, f3, f4⟩ := X.free5
          have hxg : w2.heap.size ≠ gg := by omega
          have hgx : gg ≠ w2.heap.size := by omega
          have HX := Lib.hid X
          clear X
          go_region
          have HX2 := Lib.hid (HX.out.put5 (.int .i64 y0) (.int .i64 y1) (.int .i64 y2) (.int .i64 y3) (.int .i64 y4)).drew
          have HB2 := Lib.hid (below_put5 HB1.out HB0.out.size (.int .i64 y0) (.int .i64 y1) (.int .i64 y2) (.int .i64 y3) (.int .i64 y4)).drew
          have HW2 := Lib.hid (below_put5 HW1.out (Nat.le_refl _) (.int .i64 y0) (.int .i64 y1) (.int .i64 y2) (.int .i64 y3) (.int .i64 y4)).drew
          clear c0 c1 c2 c3 c4 zc0 zc1 zc2 zc3 zc4 f0 f1 f2 f3 f4 HX HB1 HW1 hxg hgx
          generalize (if cb = 1 then some (⟨gg, oo, none⟩ : Addr) else some ⟨gg, oo + 5, none⟩) = r at hr ⊢
          generalize (((((W2.setCell ⟨w2.heap.size, 0, none⟩ (.int .i64 y0)).setCell ⟨w2.heap.size, 1, none⟩ (.int .i64 y1)).setCell ⟨w2.heap.size, 2, none⟩ (.int .i64 y2)).setCell ⟨w2.heap.size, 3, none⟩ (.int .i64 y3)).setCell ⟨w2.heap.size, 4, none⟩ (.int .i64 y4)).drew = W3 at HX2 HB2 HW2 ⊢
          have X := HX2.out
          have HB1 := HB2
          have HW1 := HW2
          clear HX2 HB2 HW2
          obtain ⟨zc0, zc1, zc2, zc3, zc4⟩ := X.cell5
          have HROW2 := Lib.hid (own5_below HREL.out.row HW1.out)
          have HSL := HB1.out.size
          go_wp2_with (first
            | (go_at_call 55; refine (kM_tt _).mono ?_; rintro e w3 ⟨rfl, rfl⟩)
            | (at_builtin; refine append_in5 rfl (.tmp 46) (.tmp 48) rfl w.heap.size _ D.length _ rfl (HROW2.out.alloc _) (some ⟨W3.heap.size, 0, none⟩) [(y0, y1, y2, y3, y4)] 1 1 rfl rfl (by decide) (reads5_block (Box.new W3 25 #[.int .i64 y0, .int .i64 y1, .int .i64 y2, .int .i64 y3, .int .i64 y4]) rfl) (by have := hsz.out; omega) (by simp; omega) ?_; intro v3 w3 hv3 hB3; have O3 := Lib.hid hv3; have B3 := Lib.hid ((HB1.out.alloc HB1.out.size (.cells #[.int .i64 y0, .int .i64 y1, .int .i64 y2, .int .i64 y3, .int .i64 y4] 25)).trans hB3); clear hv3 hB3))
          refine ⟨⟨A, B, D ++ [y], q, r, n, m, (ca - 1), (cb - 1), rfl, rfl, (by omega), (by omega), HLA, HLB, Lib.hid (by have := hsz.out; simp; omega), Lib.hid ⟨hq.out, hr.out, ?_, (fun z hz => HREL.out.oa z (List.mem_cons_of_mem _ hz)), (fun z hz => HREL.out.ob z (List.mem_cons_of_mem _ hz)), ?_, B3.out⟩⟩, by simp [slen]; try omega⟩
          · have h := HEQ.out; simpa [one, kM] using h
          · have h := O3.out; rw [List.length_append, List.map_append, List.map_singleton, Hy.out]; exact h
        · have hv2 : cmpL x y = 1 := h
          rw [mrg_gt kM x y A B (by omega)] at hR
          have HEQ := Lib.hid hR
          obtain rfl : v = 1 := hv.symm.trans hv2
          clear hR hv hv2 h
          go_wp2_with (first
            | (go_at_call 77; refine (heads_both _ _ _ _ _ _ _ (by omega) (by omega) g gg o oo x0 x1 x2 x3 x4 y0 y1 y2 y3 y4 1 rfl rfl HAx HAy HCV).mono ?_; rintro e w2 ⟨rfl, hB⟩; have B2 := Lib.hid hB; clear hB))
          have HREL2 := Lib.hid (HREL.out.on B2.out)
          have HAx2 := Lib.hid (HAx.out.below B2.out)
          have HAy2 := Lib.hid (HAy.out.below B2.out)
          have hlg2 := Nat.lt_of_lt_of_le hlg B2.out.size
          have hlgg2 := Nat.lt_of_lt_of_le hlgg B2.out.size
          clear HREL HAx HAy HB0 hws hlg hlgg
          have HREL := HREL2
          have HAx := HAx2
          have HAy := HAy2
          have hlg := hlg2
          have hlgg := hlgg2
          clear HREL2 HAx2 HAy2 hlg2 hlgg2 B2
          have HB0 := Lib.hid HREL.out.hb
          have hws := HREL.out.hb.size
          have X := Box.new w2 25 #[.int .i64 0, .int .i64 0, .int .i64 0, .int .i64 0, .int .i64 0]
          have HB1 := Lib.hid (HB0.out.alloc HB0.out.size (.cells #[.int .i64 0, .int .i64 0, .int .i64 0, .int .i64 0, .int .i64 0] 25))
          have HW1 := Lib.hid ((Below.refl w2.heap.size w2).alloc (Nat.le_refl _) (.cells #[.int .i64 0, .int .i64 0, .int .i64 0, .int .i64 0, .int .i64 0] 25))
          generalize w2.alloc (.cells #[.int .i64 0, .int .i64 0, .int .i64 0, .int .i64 0, .int .i64 0] 25) = W at X HB1 HW1 ⊢
          obtain ⟨c0, c1, c2, c3, c4⟩ := (HAy.out.below HW1.out)
          obtain ⟨zc0, zc1, zc2, zc3, zc4⟩ := X.cell5
          obtain ⟨f0, f1, f2, f3, f4⟩ := X.free5
          have hxg : w2.heap.size ≠ gg := by omega
          have hgx : gg ≠ w2.heap.size := by omega
          have HX := Lib.hid X
          clear X
          go_region
          have HX2 := Lib.hid (HX.out.put5 (.int .i64 y0) (.int .i64 y1) (.int .i64 y2) (.int .i64 y3) (.int .i64 y4)).drew
          have HB2 := Lib.hid (below_put5 HB1.out HB0.out.size (.int .i64 y0) (.int .i64 y1) (.int .i64 y2) (.int .i64 y3) (.int .i64 y4)).drew
          have HW2 := Lib.hid (below_put5 HW1.out (Nat.le_refl _) (.int .i64 y0) (.int .i64 y1) (.int .i64 y2) (.int .i64 y3) (.int .i64 y4)).drew
          clear c0 c1 c2 c3 c4 zc0 zc1 zc2 zc3 zc4 f0 f1 f2 f3 f4 HX HB1 HW1 hxg hgx
          generalize (if cb = 1 then some (⟨gg, oo, none⟩ : Addr) else some ⟨gg, oo + 5, none⟩) = r at hr ⊢
          generalize (((((W.setCell ⟨w2.heap.size, 0, none⟩ (.int .i64 y0)).setCell ⟨w2.heap.size, 1, none⟩ (.int .i64 y1)).setCell ⟨w2.heap.size, 2, none⟩ (.int .i64 y2)).setCell ⟨w2.heap.size, 3, none⟩ (.int .i64 y3)).setCell ⟨w2.heap.size, 4, none⟩ (.int .i64 y4)).drew = W2 at HX2 HB2 HW2 ⊢
          have X := HX2.out
          have HB1 := HB2
          have HW1 := HW2
          clear HX2 HB2 HW2
          obtain ⟨zc0, zc1, zc2, zc3, zc4⟩ := X.cell5
          have HROW2 := Lib.hid (own5_below HREL.out.row HW1.out)
          have HSL := HB1.out.size
          go_wp2_with (go_at_call 55; refine (kM_ft _).mono ?_; rintro e w3 ⟨rfl, rfl⟩)
          refine ⟨⟨(x :: A), B, D, _, r, (n + 1), m, ca, (cb - 1), rfl, rfl, ha, (by omega), hn, HLB, Lib.hid (by have := hsz.out; omega), Lib.hid ⟨HREL.out.ra, hr.out, ?_, HREL.out.oa, (fun z hz => HREL.out.ob z (List.mem_cons_of_mem _ hz)), HROW2.out, HB1.out⟩⟩, by simp [slen]; try omega⟩
          have h := HEQ.out; simpa [one, kM] using h
end Go.Proofs.Ytdahaajfkjmflaa.s14
