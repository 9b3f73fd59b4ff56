/-
  Layer 6, the program's side: Keep; Same.
-/
import Derived.Test.YtndghjfgjkjbdaaS06W
namespace Go.Proofs.Ytndghjfgjkjbdaa.s06
set_option linter.unusedVariables false
set_option linter.unusedSimpArgs false
open Go.RowKit Go.WideMaps Go.Maps
open kit

/-- a table of one's own, and an error -/
def TabE (l : List ByteArray) (er : Int) (w : World) (e : Ending) (w' : World) : Prop :=
  ∃ V B, e = .returned (.tuple #[V, .int .i64 er]) ∧ w.heap.size ≤ B ∧ TabO l B V w' ∧ Below w.heap.size w w'
/-- what Keep gives -/
def keepT (l : List ByteArray) (ks : List Int) : List ByteArray × Int := if okT l = 0 then partP l ks else ([], okT l)
set_option maxRecDepth 100000 in
set_option maxHeartbeats 1000000 in
theorem doesK (c : Nat) (a2 : Option Addr) (cap2 : Nat) (l : List ByteArray) (ks : List Int) (lk : List ByteArray) (er : Int) (w : World) (hm : ks.length ≤ 9223372036854775807) (hz : Hid (∀ x ∈ l, x.size ≤ 9223372036854775807)) (hl : l.length ≤ 32) (X : Hid (Box w 41 c #[.slice a2 ks.length cap2])) (hr : Hid (ReadsI w a2 ks)) (H : Hid (partP l ks = (lk, er))) : Does 63 c (TabR lk) l l er w := by
  intro W b bm base v hB hW hbase h1 h2 h3
  have Y1 := Lib.hid (Box.new W 24 #[.slice none 0 0])
  have BB1 := Lib.hid ((Below.refl W.heap.size W).alloc (Nat.le_refl _) (.cells #[.slice none 0 0] 24))
  have c0 := ((X.out.below hB).below BB1.out).cell 0
  have HW := Lib.hid (hW.below BB1.out)
  have hR : Hid (∀ W', Below w.heap.size (W.alloc (.cells #[.slice none 0 0] 24)) W' → ReadsI W' a2 ks) := Lib.hid fun W' h => hr.out.below ((hB.trans (BB1.out.mono hB.size)).trans h)
  have hbs := hB.size
  have lb := hW.box.lt
  clear hW hB
  go_enter Try.func63, Try.ntmps63
  go_wp2_with (go_at_call 64; refine (partp_any b bm base w.heap.size v l a2 cap2 ks lk er _ hm hl hz HW hR (by simp; omega) H).mono ?_; rintro e w2 ⟨V, v2, rfl, hV, hW2, hK2⟩; obtain ⟨ga, gk, rfl⟩ := tab_shape hV; have HV := Lib.hid hV; have W2 := Lib.hid hW2; have K2 := Lib.hid ((KT.of_below (base := base) (b := b) (bm := bm) BB1.out).trans hK2); have Y2 := Lib.hid (hK2.keep Y1.out HW.out (by decide) (by decide)); clear hV hW2 hK2; have y0 := Y2.out.cell 0; have f0 := Y2.out.free 0; have ly := Y2.out.lt)
  have d0 := (Y2.out.set 0 (by simp) (.slice ga lk.length gk)).cell 0
  have W3 := W2.out.other (i := 0) Y2.out (by omega) (by decide) (.slice ga lk.length gk)
  have K3 : KT base b bm W (w2.setCell ⟨W.heap.size, 0, none⟩ (.slice ga lk.length gk)) := K2.out.thenB ((Below.refl _ _).setCell (p := ⟨W.heap.size, 0, none⟩) (by simp) _)
  have T3 : TabR lk W.heap.size (.agg #[.slice ga lk.length gk]) (w2.setCell ⟨W.heap.size, 0, none⟩ (.slice ga lk.length gk)) := tab_mono (tab_set HV.out (by simp) _) (by simp)
  exact bodyPost_ret (v := .tuple #[.agg #[.slice ga lk.length gk], .int .i64 er]) (by simp [results, Try.results63, go_sem, d0]) rfl ⟨_, v2, rfl, T3, W3, K3⟩
set_option maxRecDepth 100000 in
set_option maxHeartbeats 1000000 in
theorem pkeep_any (a a2 : Option Addr) (cap cap2 : Nat) (l : List ByteArray) (ks : List Int) (lk : List ByteArray) (er : Int) (w : World) (hn : l.length ≤ 9223372036854775807) (hz : Hid (∀ x ∈ l, x.size ≤ 9223372036854775807)) (hr : Hid (ReadsS w a l)) (hm : ks.length ≤ 9223372036854775807) (hrm : Hid (ReadsI w a2 ks)) (H : Hid (keepT l ks = (lk, er))) :
    Calls Try.prog 29 #[.agg #[.slice a l.length cap], .slice a2 ks.length cap2] w (TabE lk er w) := by
  have P1 := Lib.hid (((Box.new w 24 #[.slice a l.length cap]).alloc (.cells #[.slice a2 ks.length cap2] 41)).alloc (.cells #[.slice none 0 0] 24))
  have S1 := Lib.hid ((Box.new2 w (.cells #[.slice a l.length cap] 24) 41 #[.slice a2 ks.length cap2]).alloc (.cells #[.slice none 0 0] 24))
  have X1 := Lib.hid (Box.new3 w (.cells #[.slice a l.length cap] 24) (.cells #[.slice a2 ks.length cap2] 41) 24 #[.slice none 0 0])
  have B1 := Lib.hid (below3 w (.cells #[.slice a l.length cap] 24) (.cells #[.slice a2 ks.length cap2] 41) (.cells #[.slice none 0 0] 24))
  have HR1 := Lib.hid (hr.out.below B1.out)
  have HRM := Lib.hid (hrm.out.below B1.out)
  have hsz : (((w.alloc (.cells #[.slice a l.length cap] 24)).alloc (.cells #[.slice a2 ks.length cap2] 41)).alloc (.cells #[.slice none 0 0] 24)).heap.size = w.heap.size + 3 := by simp
  have HS := Lib.hid hsz
  clear hsz
  by_cases hok : okT l = 0
  · have hT := H.out
    unfold keepT at hT
    rw [if_pos hok] at hT
    have HP := Lib.hid hT
    have HK := Lib.hid (chkT_ok hok)
    have hl32 : l.length ≤ 32 := ok_len hok
    obtain ⟨lr, hlr⟩ : ∃ lr, (if er = 0 then l else []) = lr := ⟨_, rfl⟩
    have HLR := Lib.hid hlr
    clear hT hok H hlr
    go_enter Try.func29, Try.ntmps29
    go_wp2_with (go_at_call 62; refine (work_okK a cap _ l l lr er lk _ hn hz HR1 HK (Lib.hid (doesK _ a2 cap2 l ks lk er _ hm hz hl32 S1 HRM HP)) HLR).mono ?_; rintro e w2 ⟨V1, V, B, B2, rfl, hb1, hb2, hT, hV, hB⟩; obtain ⟨a1, k1, rfl⟩ := tab_shape hT; obtain ⟨a3, k3, rfl⟩ := tab_shape hV; have V2 := Lib.hid (show TabO lk B2 _ w2 from hV); have X2 := Lib.hid (X1.out.below hB); have hb4 : w.heap.size + 3 ≤ B2 := (by rw [HS.out] at hb2; exact hb2); have KK := below2 w2 (.cells #[.slice a1 lr.length k1] 24) (.cells #[.slice a3 lk.length k3] 24); have B3 := Lib.hid (below_then (below_then B1.out hB) KK); have X3 := Lib.hid (X2.out.below KK); have V3 := Lib.hid (tab_below V2.out KK); clear hT hV hB hb1 hb2 KK; have x0 := X3.out.cell 0; have f0 := X3.out.free 0; have lx := X2.out.lt)
    have d0 := (X3.out.set 0 (by simp) (.slice a3 lk.length k3)).cell 0
    exact bodyPost_ret (v := .tuple #[.agg #[.slice a3 lk.length k3], .int .i64 er]) (by simp [results, Try.results29, go_sem, d0]) rfl ⟨_, B2, rfl, by omega, tab_set V3.out (by omega) _, B3.out.setCell (p := ⟨w.heap.size + 1 + 1, 0, none⟩) (by simp; omega) _⟩
  · have hT := H.out
    unfold keepT at hT
    rw [if_neg hok] at hT
    simp only [Prod.mk.injEq] at hT
    obtain ⟨rfl, rfl⟩ := hT
    obtain ⟨⟨er', p⟩, hc⟩ : ∃ r, chkT l = r := ⟨_, rfl⟩
    have he : okT l = er' := by unfold okT; rw [hc]
    rw [he] at hok ⊢
    have HC := Lib.hid hc
    clear hc he H
    go_enter Try.func29, Try.ntmps29
    go_wp2_with (go_at_call 62; refine (work_badT a cap l er' p _ _ hn hz HR1 HC hok).mono ?_; rintro e w2 ⟨rfl, hB⟩; have X2 := Lib.hid (X1.out.below hB); have KK := below2 w2 (.cells #[.slice none 0 0] 24) (.cells #[.slice none 0 0] 24); have B3 := Lib.hid (below_then (below_then B1.out hB) KK); have X3 := Lib.hid (X2.out.below KK); clear hB KK; have x0 := X3.out.cell 0; have f0 := X3.out.free 0; have lx := X2.out.lt)
    have d0 := (X3.out.set 0 (by simp) (.slice none 0 0)).cell 0
    exact bodyPost_ret (v := .tuple #[.agg #[.slice none 0 0], .int .i64 er']) (by simp [results, Try.results29, go_sem, d0]) rfl ⟨_, w.heap.size, rfl, Nat.le_refl _, tab_nil _ _, B3.out.setCell (p := ⟨w.heap.size + 1 + 1, 0, none⟩) (by simp; omega) _⟩
/-- are two lists of names one? -/
def eqB (l m : List ByteArray) : Bool := decide (l = m)
theorem eqB_len {l m : List ByteArray} (h : ¬ l.length = m.length) : eqB l m = false := decide_eq_false (fun e => h (by rw [e]))
theorem eqB_at {l m : List ByteArray} {k : Nat} (h : ¬ l[k]?.getD ByteArray.empty = m[k]?.getD ByteArray.empty) : eqB l m = false := decide_eq_false (fun e => h (by rw [e]))
theorem eqB_all {l m : List ByteArray} (hl : l.length = m.length) (h : ∀ j, j < l.length → l[j]?.getD ByteArray.empty = m[j]?.getD ByteArray.empty) : eqB l m = true := decide_eq_true (by
  refine List.ext_getElem hl fun i h1 h2 => ?_
  have := h i h1
  rwa [List.getElem?_eq_getElem h1, List.getElem?_eq_getElem h2] at this)
set_option maxRecDepth 100000 in
set_option maxHeartbeats 1000000 in
theorem slequal_any (a a2 : Option Addr) (c c2 : Nat) (l m : List ByteArray) (r : Bool) (w : World) (hl : l.length ≤ 9223372036854775807) (hm : m.length ≤ 9223372036854775807) (ra : Hid (ReadsS w a l)) (rb : Hid (ReadsS w a2 m)) (H : Hid (eqB l m = r)) :
    Calls Try.prog 65 #[.slice a l.length c, .slice a2 m.length c2] w fun e w' => e = .returned (.bool r) ∧ ∃ n, w' = w.drewN n := by
  by_cases he : l.length = m.length
  · have HE := Lib.hid he
    have hle : m.length ≤ l.length ∧ l.length ≤ m.length := by omega
    have HX := Lib.hid (fun (k : Nat) (h : ¬ l[k]?.getD ByteArray.empty = m[k]?.getD ByteArray.empty) => (eqB_at h).symm.trans H.out)
    have HY := Lib.hid (fun (h : ∀ j, j < l.length → l[j]?.getD ByteArray.empty = m[j]?.getD ByteArray.empty) => (eqB_all he h).symm.trans H.out)
    clear H he
    rw [← HE.out]
    have ht : ((l.length : Int) != (l.length : Int)) = false := by simp
    go_enter Try.func65, Try.ntmps65
    go_wp2
    go_loopw [13] (fun i wr => ∃ k n : Nat, k ≤ l.length ∧ i = .int .i64 k ∧ wr = w.drewN n ∧ Hid (∀ j, j < k → l[j]?.getD ByteArray.empty = m[j]?.getD ByteArray.empty)) (fun i _ => l.length - (intOf i).toNat)
    case atStart => exact ⟨0, 0, by omega, rfl, rfl, Lib.hid fun j hj => by omega⟩
    case round =>
      obtain ⟨k, n, hk, rfl, rfl, HA⟩ := hrel
      by_cases hlt : k < l.length
      · obtain ⟨c1, o1, rfl, _, h1⟩ := ra.out k hlt
        obtain ⟨c2', o2, rfl, _, h2⟩ := rb.out k (by omega)
        by_cases heq : l[k]?.getD ByteArray.empty = m[k]?.getD ByteArray.empty
        · have HN : Hid (∀ j, j < k + 1 → l[j]?.getD ByteArray.empty = m[j]?.getD ByteArray.empty) := Lib.hid fun j hj => by
            by_cases e : j = k
            · rw [e]; exact heq
            · exact HA.out j (by omega)
          rw [← heq] at h2
          generalize l[k]?.getD ByteArray.empty = y at h1 h2
          clear heq
          go_wp2
          go_quiet (fail)
          go_wp2
          go_roundw
          case rel => exact ⟨k + 1, _, by omega, by go_num, rfl, HN⟩
          case measure => simp [intOf]; omega
        · have HF := Lib.hid (HX.out k heq)
          have tb := str_beq_false heq
          generalize l[k]?.getD ByteArray.empty = y at h1 tb heq
          generalize m[k]?.getD ByteArray.empty = z at h2 tb heq
          have tn : (y.toList != z.toList) = true := by simp [bne, tb]
          have HQ := Lib.hid heq
          clear heq
          go_wp2
          go_quiet (fail)
          go_wp2
          go_ret
          exact ⟨ret_bool HF.out, _, by simp only [World.drewN_drewN]; rfl⟩
      · have hk2 : k = l.length := by omega
        have HF := Lib.hid (HY.out fun j hj => HA.out j (by omega))
        clear hk2
        go_wp2
        go_ret
        exact ⟨ret_bool HF.out, _, rfl⟩
  · have HF := Lib.hid ((eqB_len he).symm.trans H.out)
    have ht : ((l.length : Int) != (m.length : Int)) = true := by rw [bne_iff_ne]; omega
    have hne : ¬ (l.length : Int) = (m.length : Int) := by omega
    clear H he
    go_enter Try.func65, Try.ntmps65
    go_wp2
    go_ret
    exact ⟨ret_bool HF.out, 0, rfl⟩
set_option maxRecDepth 100000 in
theorem psame_any (a a2 : Option Addr) (c c2 : Nat) (l m : List ByteArray) (r : Bool) (w : World) (hl : l.length ≤ 9223372036854775807) (hm : m.length ≤ 9223372036854775807) (ra : Hid (ReadsS w a l)) (rb : Hid (ReadsS w a2 m)) (H : Hid (eqB l m = r)) :
    Calls Try.prog 31 #[.agg #[.slice a l.length c], .agg #[.slice a2 m.length c2]] w fun e w' => e = .returned (.bool r) ∧ Below w.heap.size w w' := by
  have B1 := Lib.hid (below2 w (.cells #[.slice a l.length c] 24) (.cells #[.slice a2 m.length c2] 24))
  have RA := Lib.hid (ra.out.below B1.out)
  have RB := Lib.hid (rb.out.below B1.out)
  go_enter Try.func31, Try.ntmps31
  go_wp2_with (go_at_call 65; refine (slequal_any a a2 c c2 l m r _ hl hm RA RB H).mono ?_; rintro e w2 ⟨rfl, n, rfl⟩)
  go_ret
  exact ⟨rfl, below_drewN B1.out n⟩
end Go.Proofs.Ytndghjfgjkjbdaa.s06
