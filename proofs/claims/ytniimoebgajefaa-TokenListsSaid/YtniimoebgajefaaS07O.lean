/-
  Layer 7: the reference's Placed.
-/
import Derived.Test.YtniimoebgajefaaS07M
import Derived.Test.YtniimoebgajefaaKitQuiet
namespace Go.Proofs.Ytniimoebgajefaa.s07
set_option linter.unusedVariables false
set_option linter.unusedSimpArgs false
open Go.RowKit
open kit

theorem endL_step (l : List Li) (P : Int) (m : Nat) (h : m < l.length) (hT : (placeL P l).take (m + 1) = l.take (m + 1)) : endL P (l.take (m + 1)) = (l[m]?.getD noLi).2.2 + (2 + ((l[m]?.getD noLi).2.1.size : Int)) := by
  have h1 := placeL_at l P m h
  have h2 : (placeL P l)[m]?.getD noLi = l[m]?.getD noLi := by
    have h3 : ((placeL P l).take (m + 1))[m]? = (l.take (m + 1))[m]? := by rw [hT]
    rw [List.getElem?_take, List.getElem?_take, if_pos (by omega), if_pos (by omega)] at h3
    rw [h3]
  rw [h2] at h1
  have h4 : (l[m]?.getD noLi).2.2 = endL P (l.take m) := congrArg (fun x => x.2.2) h1
  rw [take_tok l m h, endL_app, ← h4]
  rfl
theorem take_one (l : List Li) (h : 0 < l.length) : (placeL (hdAt l) l).take 1 = l.take 1 := by
  refine take_eq_snoc (k := 0) (by rw [placeL_len]; exact h) h rfl ?_
  rw [placeL_at l _ 0 h]
  rfl
set_option maxRecDepth 100000 in
set_option maxHeartbeats 2000000 in
theorem rplaced_any (a : Option Addr) (c : Nat) (l : List Li) (t : Int) (w : World) (hn : l.length ≤ 9223372036854775807) (hr : Hid (ReadsL w a l)) (er : Int) (H : Hid (placedR l t = er)) :
    Calls Try.prog 32 #[.slice a l.length c, .int .i64 t] w fun e w' => e = .returned (.int .i64 er) ∧ Below w.heap.size w w' := by
  obtain ⟨k, hk⟩ : ∃ k, allR (chkL t) l = k := ⟨_, rfl⟩
  have hc := H.out
  unfold placedR at hc
  rw [hk] at hc
  clear H
  by_cases hk0 : k = 0
  · rw [if_pos hk0] at hc
    subst hk0
    obtain ⟨q1, q2⟩ := allR_ok hk
    have hok : Hid (∀ z ∈ l, chkL t z = 0) := Lib.hid q2
    have HL : Hid (listR l t = (⟨(fL l).toArray⟩, 0)) := Lib.hid (by unfold listR; rw [if_pos hk])
    have HC := Lib.hid hc
    have HT0 : Hid (l.length = 0 ∨ (placeL (hdAt l) l).take 1 = l.take 1) := Lib.hid (by
      rcases Nat.eq_zero_or_pos l.length with h | h
      · exact .inl h
      · exact .inr (take_one l h))
    obtain ⟨P, hP⟩ : ∃ P, hdAt l = P := ⟨_, rfl⟩
    rw [hP] at HT0 HC
    clear hk q2 hc hP
    go_enter Try.func32, Try.ntmps32
    go_wp2_with (go_at_call 29; refine (rlist_any a c l t _ hn hr _ 0 HL).mono ?_; rintro e w1 ⟨rfl, hB⟩; have B1 := Lib.hid hB; have R1 := Lib.hid (hr.out.below hB); clear hB)
    go_loopw [7] (fun i wr => ∃ k : Nat, i = .int .i64 k ∧ 1 ≤ k ∧ (k ≤ l.length ∨ k = 1) ∧ Hid (l.length = 0 ∨ (placeL P l).take k = l.take k) ∧ Hid (ReadsL wr a l) ∧ Hid (Below w.heap.size w wr)) (fun i _ => l.length - (intOf i).toNat)
    case atStart => exact ⟨1, rfl, by omega, by omega, HT0, R1, B1⟩
    case round =>
      obtain ⟨k, rfl, hk1, hk2, HT, HR, HB⟩ := hrel
      clear R1 B1 HT0
      by_cases hlt : k < l.length
      · obtain ⟨m, rfl⟩ : ∃ m, k = m + 1 := ⟨k - 1, by omega⟩
        have hm : m < l.length := by omega
        have hT := HT.out.resolve_left (by omega)
        have hts := Lib.hid (fun he => take_eq_snoc (by rw [placeL_len]; exact hlt) hlt hT he)
        have hat := placeL_at l P (m + 1) hlt
        rw [hat] at hts
        rw [endL_step l P m hm hT] at hts hat
        have HQ : Hid (∀ h : placeL P l = l, (l[m]?.getD noLi).2.2 + (2 + ((l[m]?.getD noLi).2.1.size : Int)) = (l[m + 1]?.getD noLi).2.2) := Lib.hid fun h => by rw [h] at hat; exact (congrArg (fun x => x.2.2) hat).symm
        clear hat
        obtain ⟨b1, off, rfl, hb, h0, h1, h2⟩ := HR.out m hm
        obtain ⟨b2, off2, e2, _, g0, g1, g2⟩ := HR.out (m + 1) hlt
        cases e2
        have o1 := chkR_ok (hok.out _ (mem_tok l m hm))
        have o2 := chkP_ok o1.1
        obtain ⟨_, o3, o4⟩ := o1
        obtain ⟨_, _, _, _, o5⟩ := o2
        generalize hy : l[m]?.getD noLi = y at h0 h1 h2 hts HQ o3 o4 o5
        generalize hz : l[m + 1]?.getD noLi = z at g0 g1 g2 hts HQ
        obtain ⟨sy, tx, at1⟩ := y
        obtain ⟨sz, tz, at2⟩ := z
        simp only at h0 h1 h2 g0 g1 g2 o3 o4 o5
        have z0 : ∀ p : Later wr, p.W.cell? ⟨b1, off + m * 3, none⟩ = some (.int .i64 sy) := fun p => p.cell h0 hb
        have z1 : ∀ p : Later wr, p.W.cell? ⟨b1, off + m * 3 + 1, none⟩ = some (.string tx) := fun p => p.cell h1 hb
        have z2 : ∀ p : Later wr, p.W.cell? ⟨b1, off + m * 3 + 2, none⟩ = some (.int .i64 at1) := fun p => p.cell h2 hb
        have z3 : ∀ p : Later wr, p.W.cell? ⟨b1, off + (m + 1) * 3 + 2, none⟩ = some (.int .i64 at2) := fun p => p.cell g2 hb
        have hx8 : tx.size ≤ 9223372036854775805 := by omega
        have hmi : (m : Int) < (l.length : Int) := by omega
        have hmi2 : ((m : Int) + 1) < (l.length : Int) := by omega
        clear hy hz h0 h1 h2 g0 g1 g2
        by_cases hq : at1 + (2 + (tx.size : Int)) = at2
        · have t9 : (at2 != at1 + (2 + (tx.size : Int))) = false := by rw [bne_eq_false_iff_eq]; exact hq.symm
          have HTS := Lib.hid (hts.out (by rw [hq]))
          clear hts HQ hq
          go_wp2
          refine wp_region_later (by kernel_rfl) (by kernel_rfl) ?_
          repeat (go_big_quiet_step ((go_at_call 23; exact calls_later (rsize_any sy at1 tx hx8 _))))
          refine wpQuiet_nil ?_
          rintro w2 ⟨p5, rfl⟩
          have R5 := Lib.hid (HR.out.below p5.h)
          have B5 := Lib.hid (below_then HB.out p5.h)
          generalize p5.W = w5 at R5 B5 ⊢
          clear z0 z1 z2 z3
          go_wp2
          go_roundw
          case rel => exact ⟨m + 1 + 1, by go_num, by omega, by omega, Lib.hid (.inr HTS.out), R5, B5⟩
          case measure => simp [intOf]; omega
        · have t9 : (at2 != at1 + (2 + (tx.size : Int))) = true := by rw [bne_iff_ne]; exact fun h => hq h.symm
          have HN : Hid (9 = er) := Lib.hid (by rw [← HC.out, if_neg fun h => hq (HQ.out h)])
          clear hts HQ hq
          go_wp2
          refine wp_region_later (by kernel_rfl) (by kernel_rfl) ?_
          repeat (go_big_quiet_step ((go_at_call 23; exact calls_later (rsize_any sy at1 tx hx8 _))))
          refine wpQuiet_nil ?_
          rintro w2 ⟨p5, rfl⟩
          have R5 := Lib.hid (HR.out.below p5.h)
          have B5 := Lib.hid (below_then HB.out p5.h)
          generalize p5.W = w5 at R5 B5 ⊢
          clear z0 z1 z2 z3
          go_wp2
          go_ret
          exact ⟨ret_int HN.out, B5.out⟩
      · have HN : Hid (0 = er) := Lib.hid (by
          rw [← HC.out, if_pos]
          rcases HT.out with h | h
          · rw [List.eq_nil_of_length_eq_zero h]; rfl
          · rw [List.take_of_length_le (by rw [placeL_len]; omega), List.take_of_length_le (by omega)] at h; exact h)
        go_wp2
        go_ret
        exact ⟨ret_int HN.out, HB.out⟩
  · rw [if_neg hk0] at hc
    have HC := Lib.hid hc
    have HL : Hid (listR l t = (⟨#[]⟩, k)) := Lib.hid (by unfold listR; rw [hk, if_neg hk0])
    have t0 : (k != 0) = true := by rw [bne_iff_ne]; exact hk0
    clear hc hk0 hk
    go_enter Try.func32, Try.ntmps32
    go_wp2_with (go_at_call 29; refine (rlist_any a c l t _ hn hr _ k HL).mono ?_; rintro e w1 ⟨rfl, hB⟩)
    go_ret
    exact ⟨ret_int HC.out, hB⟩
end Go.Proofs.Ytniimoebgajefaa.s07
