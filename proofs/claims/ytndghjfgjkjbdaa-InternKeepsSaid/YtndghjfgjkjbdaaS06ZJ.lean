/-
  Layer 6: InternFinds's contract.
-/
import Derived.Test.YtndghjfgjkjbdaaS06ZI
import Derived.Test.YtndghjfgjkjbdaaS06ZH
import Derived.Deep.Cut
import Derived.Deep.CutRange
import Derived.Deep.RegionHeld3
import Derived.Deep.DrawnRows
namespace Go.Proofs.Ytndghjfgjkjbdaa.s06
set_option linter.unusedVariables false
set_option linter.unusedSimpArgs false
open Go.RowKit Go.WideMaps Go.Maps
open kit

theorem wf_bounds {z : Int} (h : (Lit.int .i64 z).wf = true) : -9223372036854775808 ≤ z ∧ z ≤ 9223372036854775807 := by
  simp [Lit.wf, IntKind.min, IntKind.max, IntKind.signed, IntKind.bits] at h
  omega
theorem mem_get2 {l : List ByteArray} {k : Nat} (hk : k < l.length) : l[k]?.getD ByteArray.empty ∈ l := mem_getS l k hk
/-- a name of a valid table is found at its number -/
theorem find_at {l : List ByteArray} (h : okT l = 0) {k : Nat} (hk : k < l.length) : findT l (l[k]?.getD ByteArray.empty) = ((k : Int), 0) := by
  obtain ⟨_, hn, hc⟩ := ok_iff.mp h
  rw [findT_good h]
  unfold findP
  rw [if_pos (hc _ (mem_get2 hk)), ix_self hn hk, if_pos hk]
theorem name_at {l : List ByteArray} (h : okT l = 0) {k : Nat} (hk : k < l.length) : nameT l (k : Int) = (l[k]?.getD ByteArray.empty, 0) := by
  rw [nameT_good h]
  unfold nameP
  rw [if_neg (by omega), Int.toNat_natCast]
theorem put_at {l : List ByteArray} (h : okT l = 0) {k : Nat} (hk : k < l.length) : putT l (l[k]?.getD ByteArray.empty) false = (l, (k : Int), 0) := by
  obtain ⟨_, hn, hc⟩ := ok_iff.mp h
  rw [putT_good h, putP_ok (hc _ (mem_get2 hk)) (.inl (mem_get2 hk)), put1_in (mem_get2 hk), ix_self hn hk]
  rfl
set_option maxRecDepth 100000 in
set_option maxHeartbeats 4000000 in
theorem finds_law (a : Option Addr) (cap : Nat) (nums : List Int) (w : World) (hn : nums.length ≤ 9223372036854775807) (hz : Hid (∀ z ∈ nums, -9223372036854775808 ≤ z ∧ z ≤ 9223372036854775807)) (hr : Hid (ReadsI w a nums)) :
    Calls Try.prog 6 #[.slice a nums.length cap] w fun e w' => e = .returned (.bool true) ∧ Below w.heap.size w w' := by
  obtain ⟨L, hL⟩ : ∃ L, madeN nums = L := ⟨_, rfl⟩
  have hok := made_ok nums
  have hsu := u_small (made_sub nums)
  rw [hL] at hok hsu
  obtain ⟨hok, hlen⟩ := hok
  have HL := Lib.hid hL
  have HOK := Lib.hid hok
  have HSM := Lib.hid hsu
  clear hL hok hsu
  go_enter Try.func6, Try.ntmps6
  go_wp2_with (first
    | (go_at_call 5; refine (known_any _).mono ?_; rintro e w1 ⟨rfl, hB⟩; have B1 := Lib.hid hB; have R1 := Lib.hid (hr.out.below hB); clear hB)
    | (go_at_call 38; refine (lmade_any a cap nums _ hn hz R1).mono ?_; rintro e w2 ⟨va, vk, rfl, hR, hB⟩; rw [HL.out] at hR ⊢; have KK := (Below.refl w2.heap.size w2).alloc (Nat.le_refl _) (.cells #[.slice va L.length vk] 24); have T2 := Lib.hid (Box.new w2 24 #[.slice va L.length vk]); have V2 := Lib.hid (hR.below KK); have B2 := Lib.hid (below_then B1.out (hB.trans (KK.mono hB.size))); clear hB hR KK; have t0 := T2.out.cell 0))
  generalize w2.alloc (.cells #[.slice va L.length vk] 24) = w3 at T2 V2 B2 t0 ⊢
  generalize w2.heap.size = bt at *
  clear t0
  go_loopw [6] (fun i wr => ∃ k : Nat, k ≤ L.length ∧ i = .int .i64 k ∧ Hid (Box wr 24 bt #[.slice va L.length vk]) ∧ Hid (ReadsS wr va L) ∧ Hid (Below w.heap.size w wr)) (fun i _ => L.length - (intOf i).toNat)
  case atStart => exact ⟨0, by omega, rfl, T2, V2, B2⟩
  case round =>
    obtain ⟨k, hk, rfl, T, V, B⟩ := hrel
    obtain ⟨B, hw⟩ : Hid (Below w.heap.size w wr) ∧ True := ⟨B, trivial⟩
    have t0 := T.out.cell 0
    by_cases hkl : k < L.length
    · obtain ⟨bq, off, rfl, hb, hcl⟩ := V.out k hkl
      have h1 := find_at HOK.out hkl
      have h2 := name_at HOK.out hkl
      have h3 := put_at HOK.out hkl
      have hx := HSM.out _ (mem_get2 hkl)
      generalize L[k]?.getD ByteArray.empty = x at hcl h1 h2 h3 hx
      have H1 := Lib.hid h1
      have H2 := Lib.hid h2
      have H3 := Lib.hid h3
      clear h1 h2 h3
      have z0 : ∀ p : Later wr, p.W.cell? ⟨bt, 0, none⟩ = some (.slice (some ⟨bq, off, none⟩) L.length vk) := fun p => p.cell (T.out.cell 0) T.out.lt
      have z1 : ∀ p : Later wr, p.W.cell? ⟨bq, off + k, none⟩ = some (.string x) := fun p => p.cell hcl hb
      go_wp2
      refine wp_region_later (by kernel_rfl) (by kernel_rfl) ?_
      repeat (go_big_quiet_step ((go_at_call 21; exact calls_later (pfind_any _ vk L x k 0 _ (by omega) HSM hx (Lib.hid (V.out.below (Later.h _))) H1))))
      refine wpQuiet_nil ?_
      rintro w' ⟨p5, rfl⟩
      have T5 := Lib.hid (T.out.below p5.h)
      have V5 := Lib.hid (V.out.below p5.h)
      have B5 := Lib.hid (below_then B.out p5.h)
      have hb5 : bq < p5.W.heap.size := Nat.lt_of_lt_of_le hb p5.h.size
      have hc5 : p5.W.cell? ⟨bq, off + k, none⟩ = some (.string x) := z1 p5
      clear z0 z1 t0 hcl hb
      generalize p5.W = w5 at T5 V5 B5 hb5 hc5 ⊢
      have t0 := T5.out.cell 0
      go_upto_region 10 with (go_at_call 23; refine (pname_any _ vk L (k : Int) x 0 _ (by omega) HSM V5 H2).mono ?_; rintro e w6 ⟨rfl, hB⟩; have T6 := Lib.hid (T5.out.below hB); have V6 := Lib.hid (V5.out.below hB); have B6 := Lib.hid (below_then B5.out hB); have hb6 := Nat.lt_of_lt_of_le hb5 hB.size; have hc6 := (hB.cell (p := ⟨bq, off + k, none⟩) hb5).trans hc5; clear hB t0 hc5 hb5; have t0 := T6.out.cell 0; have tl := T6.out.lt)
      have hd : Below w6.heap.size w6 w6.drew := (Below.refl _ _).drew
      have hA : Below w6.heap.size w6 (w6.alloc (.cells #[.slice none 0 0] 24)).drew := ((Below.refl _ _).alloc (Nat.le_refl _) _).drew
      have Td := Lib.hid (T6.out.below hd)
      have Vd := Lib.hid (V6.out.below hd)
      have Bd := Lib.hid (below_then B6.out hd)
      have Cd : Hid (w6.drew.cell? ⟨bq, off + k, none⟩ = some (.string x)) := Lib.hid hc6
      have Ta := Lib.hid (T6.out.below hA)
      have Va := Lib.hid (V6.out.below hA)
      have Ba := Lib.hid (below_then B6.out hA)
      have Ca : Hid ((w6.alloc (.cells #[.slice none 0 0] 24)).drew.cell? ⟨bq, off + k, none⟩ = some (.string x)) := Lib.hid ((hA.cell (p := ⟨bq, off + k, none⟩) hb6).trans hc6)
      have Ya : Hid (Box (w6.alloc (.cells #[.slice none 0 0] 24)).drew 24 w6.heap.size #[.slice none 0 0]) := Lib.hid (Box.new w6 24 #[.slice none 0 0])
      have hl6 := T6.out.lt
      clear hd hA
      go_cut [11, 12, 13] from 22 to 90 (fun s11 s12 s13 wx => ∃ (bn : Nat) (va2 : Option Addr) (vk2 : Nat), s11 = .pointer (some ⟨bn, 0, none⟩) ∧ s12 = .int .i64 k ∧ s13 = .int .i64 0 ∧ Hid (Box wx 24 bn #[.slice va2 L.length vk2]) ∧ Hid (ReadsS wx va2 L) ∧ Hid (Box wx 24 bt #[.slice (some ⟨bq, off, none⟩) L.length vk]) ∧ Hid (ReadsS wx (some ⟨bq, off, none⟩) L) ∧ Hid (Below w.heap.size w wx) ∧ Hid (bq < wx.heap.size ∧ wx.cell? ⟨bq, off + k, none⟩ = some (.string x)))
      case first =>
        go_region_held3 (fun w' => w'.cell? ⟨bt, 0, none⟩ = some (.slice (some ⟨bq, off, none⟩) L.length vk) ∧ w'.cell? ⟨bq, off + k, none⟩ = some (.string x))
          (first | go_keep | exact G5.out | exact G6.out)
          (first
            | (go_at_call 17; (with_reducible refine (pintern_any (some ⟨bq, off, none⟩) vk L x L (k : Int) 0 _ (by omega) HSM hx Vd H3).mono ?_); rintro e w7 ⟨V, Bo, rfl, _, hV, hB⟩; obtain ⟨va2, vk2, rfl⟩ := tab_shape hV; have KK := (Below.refl w7.heap.size w7).alloc (Nat.le_refl _) (.cells #[.slice va2 L.length vk2] 24); have hB2 := hB.trans (KK.mono hB.size); have F1 := Lib.hid (Box.new w7 24 #[.slice va2 L.length vk2]); have F2 := Lib.hid (hV.reads.below KK); have F3 := Lib.hid (Td.out.below hB2); have F4 := Lib.hid (Vd.out.below hB2); have F5 := Lib.hid (below_then Bd.out hB2); have F6 : Hid (bq < (w7.alloc (.cells #[.slice va2 L.length vk2] 24)).heap.size ∧ (w7.alloc (.cells #[.slice va2 L.length vk2] 24)).cell? ⟨bq, off + k, none⟩ = some (.string x)) := Lib.hid ⟨Nat.lt_of_lt_of_le hb6 hB2.size, (hB2.cell (p := ⟨bq, off + k, none⟩) hb6).trans Cd.out⟩; have G5 : Hid (w7.cell? ⟨bt, 0, none⟩ = some (.slice (some ⟨bq, off, none⟩) L.length vk) ∧ w7.cell? ⟨bq, off + k, none⟩ = some (.string x)) := Lib.hid ⟨(Td.out.below hB).cell 0, (hB.cell (p := ⟨bq, off + k, none⟩) hb6).trans Cd.out⟩; have G6 : Hid ((w7.alloc (.cells #[.slice va2 L.length vk2] 24)).cell? ⟨bt, 0, none⟩ = some (.slice (some ⟨bq, off, none⟩) L.length vk) ∧ (w7.alloc (.cells #[.slice va2 L.length vk2] 24)).cell? ⟨bq, off + k, none⟩ = some (.string x)) := Lib.hid ⟨F3.out.cell 0, F6.out.2⟩; clear hV hB hB2 KK)
            | (go_at_call 17; (with_reducible refine (pintern_any (some ⟨bq, off, none⟩) vk L x L (k : Int) 0 _ (by omega) HSM hx Va H3).mono ?_); rintro e w7 ⟨V, Bo, rfl, _, hV, hB⟩; obtain ⟨va2, vk2, rfl⟩ := tab_shape hV; have Y7 := Lib.hid (Ya.out.below hB); have T7 := Ta.out.below hB; have F1 := Lib.hid (Y7.out.set 0 (by simp) (.slice va2 L.length vk2)); have F2 := Lib.hid (reads_box_set hV.reads Y7.out (.slice va2 L.length vk2)); have F3 := Lib.hid (T7.other (b' := w6.heap.size) (i := 0) (by omega) (.slice va2 L.length vk2)); have F4 := Lib.hid (reads_box_set (Va.out.below hB) Y7.out (.slice va2 L.length vk2)); have F5 := Lib.hid ((below_then Ba.out hB).setCell (p := ⟨w6.heap.size, 0, none⟩) (by simpa using B6.out.size) (.slice va2 L.length vk2)); have G5 : Hid (w7.cell? ⟨bt, 0, none⟩ = some (.slice (some ⟨bq, off, none⟩) L.length vk) ∧ w7.cell? ⟨bq, off + k, none⟩ = some (.string x)) := Lib.hid ⟨T7.cell 0, (hB.cell (p := ⟨bq, off + k, none⟩) (by simp; omega)).trans Ca.out⟩; have F6 : Hid (bq < (w7.setCell ⟨w6.heap.size, 0, none⟩ (.slice va2 L.length vk2)).heap.size ∧ (w7.setCell ⟨w6.heap.size, 0, none⟩ (.slice va2 L.length vk2)).cell? ⟨bq, off + k, none⟩ = some (.string x)) := Lib.hid ⟨(by have := hB.size; simp at this ⊢; omega), (((Below.refl w6.heap.size w7).setCell (p := ⟨w6.heap.size, 0, none⟩) (Nat.le_refl _) _).cell (p := ⟨bq, off + k, none⟩) hb6).trans G5.out.2⟩; have G6 : Hid ((w7.setCell ⟨w6.heap.size, 0, none⟩ (.slice va2 L.length vk2)).cell? ⟨bt, 0, none⟩ = some (.slice (some ⟨bq, off, none⟩) L.length vk) ∧ (w7.setCell ⟨w6.heap.size, 0, none⟩ (.slice va2 L.length vk2)).cell? ⟨bq, off + k, none⟩ = some (.string x)) := Lib.hid ⟨F3.out.cell 0, F6.out.2⟩; have y0 := Y7.out.cell 0; have y1 := Y7.out.free 0; have y2 := Y7.out.lt; clear hV hB T7))
        all_goals
          go_wp2_with fail
          go_meet
          exact ⟨_, va2, vk2, rfl, rfl, rfl, F1, F2, F3, F4, F5, F6⟩
      case rest =>
        obtain ⟨bn, va2, vk2, rfl, rfl, rfl, N7, U7, T7, V7, B7, C7⟩ := hcut
        clear t0 tl hc6 hb6 hl6
        obtain ⟨hb7, hc7⟩ := C7.out
        have n0 := N7.out.cell 0
        have t0 := T7.out.cell 0
        go_wp2_with (go_at_call 16; refine (lequal_any va2 (some ⟨bq, off, none⟩) vk2 vk L _ (by omega) U7 V7).mono ?_; rintro e w8 ⟨rfl, hB⟩; have T8 := Lib.hid (T7.out.below hB); have V8 := Lib.hid (V7.out.below hB); have B8 := Lib.hid (below_then B7.out hB); clear hB)
        go_roundw
        case rel => exact ⟨k + 1, by omega, by go_num, T8, V8, B8⟩
        case measure => simp [intOf]; omega
    · go_wp2
      go_ret
      exact ⟨rfl, B.out⟩
end Go.Proofs.Ytndghjfgjkjbdaa.s06
