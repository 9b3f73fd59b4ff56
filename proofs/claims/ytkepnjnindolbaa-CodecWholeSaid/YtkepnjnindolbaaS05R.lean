/-
  Layer 5, the program's side: haveRoom, write.
-/
import Derived.Test.YtkepnjnindolbaaS05P
import Derived.Test.YtkepnjnindolbaaKitLater
import Derived.Test.YtkepnjnindolbaaKitTexts
import Derived.Test.YtkepnjnindolbaaLayJ
namespace Go.Proofs.Ytkepnjnindolbaa.s05
set_option linter.unusedVariables false
set_option linter.unusedSimpArgs false
open Go.RowKit
open kit

/-- all bytes of a list of strings -/
def cat (ps : List ByteArray) : List UInt8 := ps.flatMap (·.data.toList)
theorem cat_cons (x : ByteArray) (r : List ByteArray) : (cat (x :: r)).length = x.size + (cat r).length := by
  unfold cat; simp
theorem join_cat (ps : List ByteArray) : Lib.join (ps.map (·.data.toList)) [] = cat ps := by
  cases ps with
  | nil => rfl
  | cons x r =>
    rw [List.map_cons, Lib.join_cons]
    unfold Lib.joinTail cat
    simp [List.flatMap]
    rfl
set_option maxRecDepth 100000 in
set_option maxHeartbeats 1000000 in
theorem haveRoom_any (a : Option Addr) (c : Nat) (ps : List ByteArray) (m : Int) (hn : ps.length ≤ 1000000) (hz : Hid (∀ x ∈ ps, x.size ≤ 9223372036854775807)) (h1 : 0 ≤ m) (h2 : m ≤ 20000) (v : Bool) (H : Hid (decide (((cat ps).length : Int) ≤ m) = v)) (w : World) (hr : Hid (ReadsS w a ps)) :
    Calls Try.prog 94 #[.slice a ps.length c, .int .i64 m] w fun en w' => en = .returned (.bool v) ∧ w = w' := by
  go_enter Try.func94, Try.ntmps94
  go_wp2
  go_loop [9, 1] (fun i q => ∃ (k : Nat) (x : Int), k ≤ ps.length ∧ i = .int .i64 k ∧ q = .int .i64 x ∧ 0 ≤ x ∧ x ≤ 20000 ∧ Hid (decide (((cat (ps.drop k)).length : Int) ≤ x) = v)) (fun i _ => ps.length - (intOf i).toNat)
  case atStart => exact ⟨0, m, by omega, rfl, rfl, h1, h2, Lib.hid (by simpa using H.out)⟩
  case round =>
    obtain ⟨k, x, hk, rfl, rfl, hx1, hx2, HS⟩ := hrel
    by_cases hlt : k < ps.length
    · obtain ⟨b, off, rfl, hb, hc⟩ := hr.out k hlt
      have hsz := hz.out _ (mem_getS ps k hlt)
      have hd : ps.drop k = (ps[k]?.getD ByteArray.empty) :: ps.drop (k + 1) := by
        rw [List.drop_eq_getElem_cons hlt, List.getElem?_eq_getElem hlt]; rfl
      have hs := HS.out
      rw [hd, cat_cons] at hs
      generalize ps[k]?.getD ByteArray.empty = y at hc hsz hs
      have HS2 := Lib.hid hs
      clear hs hd HS
      by_cases hg : x < (y.size : Int)
      · have HV : Hid (v = false) := Lib.hid (by rw [← HS2.out, decide_eq_false_iff_not]; omega)
        go_wp2
        go_ret
        exact ⟨ret_bool HV.out.symm, rfl⟩
      · have hg2 : (y.size : Int) ≤ x := by omega
        go_wp2
        go_round
        case rel => exact ⟨k + 1, x - y.size, by omega, by go_num, rfl, by omega, by omega, Lib.hid (by rw [← HS2.out, Bool.eq_iff_iff]; simp; omega)⟩
        case measure => simp [intOf]; omega
    · have HV : Hid (v = true) := Lib.hid (by
        rw [← HS.out, List.drop_eq_nil_of_le (by omega)]
        simp [cat]; omega)
      go_wp2
      go_ret
      exact ⟨ret_bool HV.out.symm, rfl⟩
/-- what writing these bytes makes of a writer -/
def addR (s : ByteArray) (m e : Int) (l : List UInt8) : ByteArray × Int × Int :=
  if (cntw s m e).2.2 = 0 then (if (l.length : Int) ≤ (cntw s m e).2.1 - (cntw s m e).1.size then ((cntw s m e).1 ++ ⟨l.toArray⟩, (cntw s m e).2.1, 0) else ((cntw s m e).1, (cntw s m e).2.1, 4)) else cntw s m e
theorem join_any2 (a : Option Addr) (c : Nat) (ps : List ByteArray) (hc : ps.length ≤ c) (hl : (cat ps).length ≤ 20000) (hn : ps.length ≤ 1000000) (w : World) (hr : ReadsS w a ps) :
    Calls Try.prog 95 #[.slice a ps.length c, .string ⟨#[]⟩] w fun en w' => en = .returned (.string ⟨(cat ps).toArray⟩) ∧ Below w.heap.size w w' := by
  by_cases h0 : ps.length = 0
  · have hp : ps = [] := List.eq_nil_of_length_eq_zero h0
    subst hp
    exact (Go.Proofs.Any.strings_Join_none lay.lay156 lay.layExtra156 a c ⟨#[]⟩ w).mono fun en w' ⟨he, hw⟩ => ⟨he, hw ▸ Below.refl _ _⟩
  · obtain ⟨b, off, rfl, hb, _⟩ := hr 0 (by omega)
    have hcell : ∀ (j : Nat) x, ps[j]? = some x → w.cell? ⟨b, off + j, none⟩ = some (.string x) := fun j x hj => by
      have hlt : j < ps.length := by
        rcases Nat.lt_or_ge j ps.length with h | h
        · exact h
        · rw [List.getElem?_eq_none h] at hj; cases hj
      obtain ⟨b', off', e, _, hc'⟩ := hr j hlt
      cases e
      rw [hc', hj]; rfl
    have h := Go.Proofs.Any.strings_Join lay.lay156 lay.layExtra156 b off c ps ⟨#[]⟩ w hcell hb (by omega) hc (by rw [show (⟨#[]⟩ : ByteArray).data.toList = [] from rfl, join_cat]; omega)
    rw [show (⟨#[]⟩ : ByteArray).data.toList = [] from rfl, join_cat] at h
    exact h
theorem ret_wr {s s' : ByteArray} {m m' e e' : Int} (h : (s, m, e) = (s', m', e')) : Ending.returned (.agg #[.string s, .int .i64 m, .int .i64 e]) = .returned (.agg #[.string s', .int .i64 m', .int .i64 e']) := by cases h; rfl
set_option maxRecDepth 100000 in
set_option maxHeartbeats 2000000 in
theorem write_any (s : ByteArray) (m e : Int) (hs : s.size ≤ 9223372036854775807) (a : Option Addr) (c : Nat) (ps : List ByteArray) (hcap : ps.length ≤ c) (hn : ps.length ≤ 1000000) (hz : Hid (∀ x ∈ ps, x.size ≤ 9223372036854775807)) (s' : ByteArray) (m' e' : Int) (H : Hid (addR s m e (cat ps) = (s', m', e'))) (w : World) (hr : Hid (ReadsS w a ps)) :
    Calls Try.prog 75 #[.agg #[.string s, .int .i64 m, .int .i64 e], .slice a ps.length c] w fun en w' => en = .returned (.agg #[.string s', .int .i64 m', .int .i64 e']) ∧ Below w.heap.size w w' := by
  obtain ⟨s0, m0, e0, hc⟩ : ∃ s0 m0 e0, cntw s m e = (s0, m0, e0) := ⟨_, _, _, rfl⟩
  obtain ⟨r1, r2, r3, r4, r5⟩ := cntw_ok hc
  have hx := H.out
  unfold addR at hx
  rw [hc] at hx
  simp only [] at hx
  have HC := Lib.hid hc
  clear H hc
  have X1 := Lib.hid (Box.new2 w (.cells #[.string s, .int .i64 m, .int .i64 e] 45) 45 #[.string ⟨#[]⟩, .int .i64 0, .int .i64 0])
  have B1 := Lib.hid (((Below.refl w.heap.size w).alloc (by simp) (.cells #[.string s, .int .i64 m, .int .i64 e] 45)).alloc (by simp) (.cells #[.string ⟨#[]⟩, .int .i64 0, .int .i64 0] 45))
  by_cases he : e0 = 0
  · subst he
    rw [if_pos rfl] at hx
    have hw1 : IntKind.i64.wrap (m0 - s0.size) = m0 - s0.size := IntWalk.i64_in _ (by omega)
    have HW1 := Lib.hid hw1
    clear hw1
    by_cases hroom : ((cat ps).length : Int) ≤ m0 - s0.size
    · rw [if_pos hroom] at hx
      have HX := Lib.hid hx
      have HR : Hid (decide (((cat ps).length : Int) ≤ m0 - s0.size) = true) := Lib.hid (by simpa using hroom)
      have hcl : (cat ps).length ≤ 20000 := by omega
      clear hx hroom
      go_enter Try.func75, Try.ntmps75
      go_wp2_with (first
        | (go_at_call 71; refine (writerOf_any s m e hs s0 m0 0 HC _).mono ?_; rintro en w1 ⟨b, rfl, hb, hR, hB⟩; have R1 := Lib.hid hR; have X2 := Lib.hid (X1.out.below hB); have B2 := Lib.hid (below_then B1.out hB); have hr2 := Lib.hid (hr.out.below B2.out); have hb2 : w.heap.size + 2 ≤ b := (by simp at hb; omega); clear hb hR hB; obtain ⟨c0, c1, c2, c3⟩ := R1.out.cells)
        | (go_at_call 72; refine (failed_any _ b s0 0 0 m0 false (Lib.hid rfl) _ R1).mono ?_; rintro en w2 ⟨rfl, rfl⟩))
      go_quiet ((go_at_call 94; rw [HW1.out]; exact quiet_eq (haveRoom_any a c ps _ hn hz (by omega) (by omega) true HR _ (Lib.hid hr2.out))))
      have R2 := Lib.hid (R1.out.drewN nq)
      have X3 : Hid (Box (w1.drewN nq) _ _ _) := Lib.hid X2.out
      have B3 := Lib.hid (below_drewN B2.out nq)
      have hr3 : Hid (ReadsS (w1.drewN nq) a ps) := Lib.hid hr2.out
      go_wp2
      generalize w1.drewN nq = w2 at R2 X3 B3 hr3 ⊢
      clear c0 c1 c2 c3
      have hsum : s0.size + (⟨(cat ps).toArray⟩ : ByteArray).size ≤ 9223372036854775807 := by
        have : (⟨(cat ps).toArray⟩ : ByteArray).size = (cat ps).length := by simp [ByteArray.size]
        omega
      have z0 : ∀ p : Later w2, p.W.cell? ⟨b, 0, none⟩ = some (.string s0) := fun p => p.cell R2.out.cells.1 R2.out.lt
      refine wp_region_later_tail 11 (by kernel_rfl) (by kernel_rfl) ?_
      simp only [List.take_succ_cons, List.take_zero, List.drop_succ_cons, List.drop_zero]
      repeat (go_big_quiet_step ((go_at_call 95; exact calls_later (join_any2 a c ps hcap hcl hn _ (hr3.out.below (Later.h _))))))
      refine wpQuiet_nil ?_
      intro p5
      have R5 := Lib.hid (R2.out.below p5.h)
      have X5 := Lib.hid (X3.out.below p5.h)
      have B5 := Lib.hid (below_then B3.out p5.h)
      generalize p5.W = w5 at R5 X5 B5 ⊢
      clear z0
      obtain ⟨c0, c1, c2, c3⟩ := R5.out.cells
      obtain ⟨f0, f1, f2, f3⟩ := R5.out.frees
      have R6 : Hid (Rb _ _ b _ 0 0 m0) := Lib.hid (Box.set R5.out 0 (by simp) (.string (s0 ++ ⟨(cat ps).toArray⟩)))
      have X6 := Lib.hid (X5.out.other (b' := b) (i := 0) (by omega) (.string (s0 ++ ⟨(cat ps).toArray⟩)))
      have B6 := Lib.hid (B5.out.setCell (p := ⟨b, 0, none⟩) (by simp; omega) (.string (s0 ++ ⟨(cat ps).toArray⟩)))
      go_wp2_with (go_at_call 74; refine (plainw_any b _ 0 0 m0 _ R6).mono ?_; rintro en w7 ⟨rfl, hB⟩; have X7 := Lib.hid (X6.out.below hB); have B7 := Lib.hid (below_then B6.out hB); clear hB; obtain ⟨x0, x1, x2⟩ := X7.out.c3; obtain ⟨g0, g1, g2⟩ := X7.out.f3)
      obtain ⟨d0, d1, d2⟩ := (X7.out.set3 (.string (s0 ++ ⟨(cat ps).toArray⟩)) (.int .i64 m0) (.int .i64 0)).c3
      refine bodyPost_ret (v := .agg #[.string (s0 ++ ⟨(cat ps).toArray⟩), .int .i64 m0, .int .i64 0]) (by simp [results, Try.results75, go_sem, d0, d1, d2]) rfl ?_
      have BE := Below.set3 B7.out (w.heap.size + 1) (by omega) (.string (s0 ++ ⟨(cat ps).toArray⟩)) (.int .i64 m0) (.int .i64 0)
      exact ⟨ret_wr HX.out, BE⟩
    · rw [if_neg hroom] at hx
      have HX := Lib.hid hx
      have HR : Hid (decide (((cat ps).length : Int) ≤ m0 - s0.size) = false) := Lib.hid (by simpa using hroom)
      clear hx hroom
      go_enter Try.func75, Try.ntmps75
      go_wp2_with (first
        | (go_at_call 71; refine (writerOf_any s m e hs s0 m0 0 HC _).mono ?_; rintro en w1 ⟨b, rfl, hb, hR, hB⟩; have R1 := Lib.hid hR; have X2 := Lib.hid (X1.out.below hB); have B2 := Lib.hid (below_then B1.out hB); have hr2 := Lib.hid (hr.out.below B2.out); have hb2 : w.heap.size + 2 ≤ b := (by simp at hb; omega); clear hb hR hB; obtain ⟨c0, c1, c2, c3⟩ := R1.out.cells)
        | (go_at_call 72; refine (failed_any _ b s0 0 0 m0 false (Lib.hid rfl) _ R1).mono ?_; rintro en w2 ⟨rfl, rfl⟩))
      go_quiet ((go_at_call 94; rw [HW1.out]; exact quiet_eq (haveRoom_any a c ps _ hn hz (by omega) (by omega) false HR _ (Lib.hid hr2.out))))
      have R2 := Lib.hid (R1.out.drewN nq)
      have X3 : Hid (Box (w1.drewN nq) _ _ _) := Lib.hid X2.out
      have B3 := Lib.hid (below_drewN B2.out nq)
      clear c0 c1 c2 c3
      go_wp2_with (first
        | (go_at_call 69; refine (keep_new _ b s0 0 m0 4 0 _ R2).mono ?_; rintro en w4 ⟨rfl, hR, hB⟩; have R5 := Lib.hid hR; have X5 := Lib.hid (GB.box X3.out hB (by omega)); have B5 := Lib.hid (B3.out.trans (hB.below (by omega) B3.out.size)); clear hR hB)
        | (go_at_call 74; refine (plainw_any b _ 4 0 m0 _ R5).mono ?_; rintro en w7 ⟨rfl, hB⟩; have X7 := Lib.hid (X5.out.below hB); have B7 := Lib.hid (below_then B5.out hB); clear hB; obtain ⟨x0, x1, x2⟩ := X7.out.c3; obtain ⟨g0, g1, g2⟩ := X7.out.f3))
      obtain ⟨d0, d1, d2⟩ := (X7.out.set3 (.string s0) (.int .i64 m0) (.int .i64 4)).c3
      refine bodyPost_ret (v := .agg #[.string s0, .int .i64 m0, .int .i64 4]) (by simp [results, Try.results75, go_sem, d0, d1, d2]) rfl ?_
      have BE := Below.set3 B7.out (w.heap.size + 1) (by omega) (.string s0) (.int .i64 m0) (.int .i64 4)
      exact ⟨ret_wr HX.out, BE⟩
  · rw [if_neg he] at hx
    have HE : Hid ((e0 != 0) = true) := Lib.hid (by simpa using he)
    have HX := Lib.hid hx
    clear hx he
    go_enter Try.func75, Try.ntmps75
    go_wp2_with (first
      | (go_at_call 71; refine (writerOf_any s m e hs s0 m0 e0 HC _).mono ?_; rintro en w1 ⟨b, rfl, hb, hR, hB⟩; have R1 := Lib.hid hR; have X2 := Lib.hid (X1.out.below hB); have B2 := Lib.hid (below_then B1.out hB); have hb2 : w.heap.size + 2 ≤ b := (by simp at hb; omega); clear hb hR hB)
      | (go_at_call 72; refine (failed_any _ b s0 e0 0 m0 true HE _ R1).mono ?_; rintro en w2 ⟨rfl, rfl⟩)
      | (go_at_call 74; refine (plainw_any b _ e0 0 m0 _ R1).mono ?_; rintro en w7 ⟨rfl, hB⟩; have X7 := Lib.hid (X2.out.below hB); have B7 := Lib.hid (below_then B2.out hB); clear hB; obtain ⟨x0, x1, x2⟩ := X7.out.c3; obtain ⟨g0, g1, g2⟩ := X7.out.f3))
    obtain ⟨d0, d1, d2⟩ := (X7.out.set3 (.string s0) (.int .i64 m0) (.int .i64 e0)).c3
    refine bodyPost_ret (v := .agg #[.string s0, .int .i64 m0, .int .i64 e0]) (by simp [results, Try.results75, go_sem, d0, d1, d2]) rfl ?_
    have BE := Below.set3 B7.out (w.heap.size + 1) (by omega) (.string s0) (.int .i64 m0) (.int .i64 e0)
    exact ⟨ret_wr HX.out, BE⟩
end Go.Proofs.Ytkepnjnindolbaa.s05
