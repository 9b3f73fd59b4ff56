/-
  Layer 6, the program's side: merge and Merge.
-/
import Derived.Test.YtndghjfgjkjbdaaS06U
namespace Go.Proofs.Ytndghjfgjkjbdaa.s06
set_option linter.unusedVariables false
set_option linter.unusedSimpArgs false
open Go.RowKit Go.WideMaps Go.Maps
open kit

theorem below_le {B C : Nat} {w w' : World} (h : Below C w w') (hB : B ≤ C) : Below B w w' := h.mono hB
theorem putP_len (l : List ByteArray) (s : ByteArray) (h : l.length ≤ 32) : (putP l s false).1.length ≤ 32 := by
  unfold putP
  split
  · split
    · simp; exact h
    · split
      · exact h
      · simp; omega
  · exact h
set_option maxRecDepth 100000 in
set_option maxHeartbeats 2000000 in
theorem mergep_any (b bm base B1 : Nat) (v : Value) (l : List ByteArray) (a2 : Option Addr) (cap2 : Nat) (m : List ByteArray) (l' : List ByteArray) (L : List Int) (er : Int) (w : World) (hm : m.length ≤ 9223372036854775807) (hz : Hid (∀ x ∈ m, x.size ≤ 9223372036854775807)) (hW : Hid (Wk w b bm base v l 0)) (hl : l.length ≤ 32) (hbase : base ≤ w.heap.size) (hr : Hid (∀ W', Below B1 w W' → ReadsS W' a2 m)) (hb1 : B1 ≤ b) (hb2 : B1 ≤ bm) (hb3 : B1 ≤ base) (H : Hid (mergeP l m = (l', L, er))) :
    Calls Try.prog 61 #[.pointer (some ⟨b, 0, none⟩), .agg #[.slice a2 m.length cap2]] w (GivesK (RowN L) b bm base l' er w) := by
  have P1 := Lib.hid (Box.new w 24 #[.slice a2 m.length cap2])
  have BB1 := Lib.hid ((Below.refl w.heap.size w).alloc (Nat.le_refl _) (.cells #[.slice a2 m.length cap2] 24))
  have HR1 := Lib.hid (hr.out _ (below_le BB1.out (by omega)))
  have lb0 := hW.out.box.lt
  obtain ⟨⟨em, pm⟩, hc⟩ : ∃ r, chkT m = r := ⟨_, rfl⟩
  have he : okT m = em := by unfold okT; rw [hc]
  have HC := Lib.hid hc
  have HX := H.out
  unfold mergeP at HX
  rw [he] at HX
  clear hc he H
  by_cases h0 : em = 0
  · subst h0
    rw [if_pos rfl] at HX
    have HG := Lib.hid HX
    have hm32 : m.length ≤ 32 := by
      have := HC.out
      unfold chkT at this
      by_cases hb : 32 < m.length
      · rw [if_pos hb] at this; exact absurd (congrArg Prod.fst this) (show ¬ (6 : Int) = 0 by decide)
      · omega
    clear HX
    go_enter Try.func61, Try.ntmps61
    go_wp2_with (go_at_call 12; refine (checkp_any a2 cap2 m 0 pm _ hm hz HR1 HC).mono ?_; rintro e w1 ⟨rfl, hB⟩; have W1 := Lib.hid (hW.out.below (below_then BB1.out hB)); have K1 := Lib.hid (KT.of_below (base := base) (b := b) (bm := bm) (below_then BB1.out hB)); have P2 := Lib.hid (P1.out.below hB); have hs1 := (below_then BB1.out hB).size; clear hB; have c0 := P2.out.cell 0)
    have HB0 := W1.out.h1
    have lbm : bm < w.heap.size := by
      obtain ⟨D, h, _⟩ := hW.out.map
      exact h.lt
    clear c0
    go_loopw [24, 8] (fun i x8 wr => ∃ (k : Nat) (v : Value) (cur : List ByteArray) (acc : List Int) (va : Option Addr) (vk : Nat), k ≤ m.length ∧ i = .int .i64 k ∧ x8 = .slice va k vk ∧ acc.length = k ∧ cur.length ≤ 32 ∧ Hid (Wk wr b bm base v cur 0) ∧ Hid (KT base b bm w wr) ∧ Hid (wr.ownsRow w.heap.size 3 1 (.slice va k vk) k (acc.map (Value.int .i64))) ∧ Hid (mrgG cur acc (m.drop k) = (l', L, er))) (fun i _ _ => m.length - (intOf i).toNat)
    case atStart => exact ⟨0, v, l, [], none, 0, by omega, rfl, rfl, rfl, hl, W1, K1, Lib.hid (World.ownsRow_nil _ _ _ _), Lib.hid (by simpa using HG.out)⟩
    case round =>
      obtain ⟨k, v, cur, acc, va, vk, hk, rfl, rfl, hacc, hcur, WK, KK, RK, HK⟩ := hrel
      have hsz := KK.out.size
      by_cases hkl : k < m.length
      · have HR := Lib.hid (hr.out _ (KK.out.below (B := B1) hb1 hb2 hb3 (by omega)))
        obtain ⟨bq, off, rfl, hb, hcl⟩ := HR.out k hkl
        have hx := hz.out _ (mem_getS m k hkl)
        have hS := HK.out
        rw [drop_consS m k hkl] at hS
        generalize m[k]?.getD ByteArray.empty = x at hcl hx hS
        unfold mrgG at hS
        have hlen := putP_len cur x hcur
        obtain ⟨⟨l2, n2, e2⟩, hp⟩ : ∃ r, putP cur x false = r := ⟨_, rfl⟩
        rw [hp] at hS hlen
        simp only at hS hlen
        have HP := Lib.hid hp
        clear hp HK
        by_cases he2 : e2 = 0
        · subst he2
          rw [if_pos rfl] at hS
          have HN := Lib.hid hS
          clear hS
          go_wp2_with (first
            | (go_at_call 50; (with_reducible refine (internp_any b bm base v cur 0 x l2 n2 0 _ hx WK HP (by omega) (by omega)).mono ?_); rintro e w2 ⟨v2, rfl, hW2, hK2⟩; have W2 := Lib.hid hW2; have K2 := Lib.hid (KK.out.trans hK2); have R2 := Lib.hid (hK2.row RK.out lb0 lbm (by decide)); have hs2 := K2.out.size; clear hW2 hK2; have W3 := Lib.hid (W2.out.below ((Below.refl w2.heap.size w2).alloc (Nat.le_refl _) (.cells #[.int .i64 n2] 3))); have K3 := Lib.hid (K2.out.then ((Below.refl w2.heap.size w2).alloc (Nat.le_refl _) (.cells #[.int .i64 n2] 3))); have R3 := Lib.hid (row_below R2.out ((Below.refl w2.heap.size w2).alloc (Nat.le_refl _) (.cells #[.int .i64 n2] 3))); have SRC := Lib.hid (src_one w2 (.int .i64 n2) 3))
            | (at_builtin; refine append_in2 Try.underlying41 info3 rfl (by omega) rfl (.tmp 37) (.tmp 39) rfl w.heap.size _ k (acc.map (Value.int .i64)) rfl R3.out ⟨w2.heap.size, 0, none⟩ [.int .i64 n2] 1 1 rfl rfl (by rcases SRC.out with ⟨h, _⟩ | ⟨x, h, hc⟩; cases h; cases h; exact hc) (by simp [Value.oneCell']) (by omega) (by simp; omega) ?_; intro v4 wA hv4 hgA; obtain ⟨a4, k4, rfl⟩ := row_shape hv4; have W4 := Lib.hid (W3.out.grownRow R3.out hgA (by decide) (by decide)); have K4 := Lib.hid (K3.out.thenB (below_grown (Below.refl _ _) R3.out hgA (by simp; omega))); have R4 := Lib.hid hv4; clear hv4 hgA))
          go_roundw
          case rel => exact ⟨k + 1, v2, l2, acc ++ [n2], a4, k4, by omega, by go_num, rfl, by simp [hacc], hlen, W4, K4, Lib.hid (by simpa using R4.out), HN⟩
          case measure => simp [intOf]; omega
        · rw [if_neg he2] at hS
          have HN := Lib.hid hS
          clear hS
          go_wp2_with (go_at_call 50; (with_reducible refine (internp_any b bm base v cur 0 x l2 n2 e2 _ hx WK HP (by omega) (by omega)).mono ?_); rintro e w2 ⟨v2, rfl, hW2, hK2⟩; have W2 := Lib.hid hW2; have K2 := Lib.hid (KK.out.trans hK2); clear hW2 hK2)
          go_ret2
          have hh := HN.out
          simp only [Prod.mk.injEq] at hh
          obtain ⟨rfl, rfl, rfl⟩ := hh
          exact ⟨_, v2, rfl, World.ownsRow_nil _ _ _ _, W2.out, K2.out⟩
      · have hk2 : k = m.length := by omega
        subst hk2
        have hS := HK.out
        rw [List.drop_length] at hS
        unfold mrgG at hS
        simp only [Prod.mk.injEq] at hS
        obtain ⟨rfl, rfl, rfl⟩ := hS
        clear HK
        go_wp2
        go_ret2
        refine ⟨_, v, rfl, ?_, WK.out, KK.out⟩
        unfold RowN
        rw [hacc]
        exact RK.out
  · rw [if_neg h0] at HX
    simp only [Prod.mk.injEq] at HX
    obtain ⟨rfl, rfl, rfl⟩ := HX
    go_enter Try.func61, Try.ntmps61
    go_wp2_with (go_at_call 12; refine (checkp_any a2 cap2 m em pm _ hm hz HR1 HC).mono ?_; rintro e w1 ⟨rfl, hB⟩; have W1 := Lib.hid (hW.out.below (below_then BB1.out hB)); have K1 := Lib.hid (KT.of_below (base := base) (b := b) (bm := bm) (below_then BB1.out hB)); clear hB)
    go_ret2
    exact ⟨_, v, rfl, World.ownsRow_nil _ _ _ _, W1.out, K1.out⟩
/-- what Merge gives -/
def mergeT (l m : List ByteArray) : List ByteArray × List Int × Int := if okT l = 0 then ((if (mergeP l m).2.2 = 0 then (mergeP l m).1 else []), (mergeP l m).2.1, (mergeP l m).2.2) else ([], [], okT l)
set_option maxRecDepth 100000 in
set_option maxHeartbeats 1000000 in
theorem doesG (c : Nat) (a2 : Option Addr) (cap2 : Nat) (l m : List ByteArray) (l' : List ByteArray) (L : List Int) (er : Int) (w : World) (hm : m.length ≤ 9223372036854775807) (hz : Hid (∀ x ∈ m, x.size ≤ 9223372036854775807)) (hl : l.length ≤ 32) (X : Hid (Box w 24 c #[.slice a2 m.length cap2])) (hr : Hid (ReadsS w a2 m)) (H : Hid (mergeP l m = (l', L, er))) : Does 60 c (RowN L) l l' er w := by
  intro W b bm base v hB hW hbase h1 h2 h3
  have c0 := (X.out.below hB).cell 0
  have HW := Lib.hid hW
  have hR : Hid (∀ W', Below w.heap.size W W' → ReadsS W' a2 m) := Lib.hid fun W' h => hr.out.below (hB.trans h)
  clear hW hB
  go_enter Try.func60, Try.ntmps60
  go_wp2_with (go_at_call 61; refine (mergep_any b bm base w.heap.size v l a2 cap2 m l' L er _ hm hz HW hl hbase hR h1 h2 h3 H).mono ?_; rintro e w2 ⟨V, v2, rfl, hV, hW2, hK2⟩; have HV := Lib.hid hV; have W2 := Lib.hid hW2; have K2 := Lib.hid hK2; clear hV hW2 hK2)
  go_ret2
  exact ⟨_, v2, rfl, HV.out, W2.out, K2.out⟩
set_option maxRecDepth 100000 in
set_option maxHeartbeats 1000000 in
theorem pmerge_any (a a2 : Option Addr) (cap cap2 : Nat) (l m : List ByteArray) (lr : List ByteArray) (L : List Int) (er : Int) (w : World) (hn : l.length ≤ 9223372036854775807) (hz : Hid (∀ x ∈ l, x.size ≤ 9223372036854775807)) (hr : Hid (ReadsS w a l)) (hm : m.length ≤ 9223372036854775807) (hzm : Hid (∀ x ∈ m, x.size ≤ 9223372036854775807)) (hrm : Hid (ReadsS w a2 m)) (H : Hid (mergeT l m = (lr, L, er))) :
    Calls Try.prog 26 #[.agg #[.slice a l.length cap], .agg #[.slice a2 m.length cap2]] w (WorkOk (RowN L) lr er w) := by
  have P1 := Lib.hid (((Box.new w 24 #[.slice a l.length cap]).alloc (.cells #[.slice a2 m.length cap2] 24)).alloc (.cells #[.slice none 0 0] 24))
  have S1 := Lib.hid ((Box.new2 w (.cells #[.slice a l.length cap] 24) 24 #[.slice a2 m.length cap2]).alloc (.cells #[.slice none 0 0] 24))
  have X1 := Lib.hid (Box.new3 w (.cells #[.slice a l.length cap] 24) (.cells #[.slice a2 m.length cap2] 24) 24 #[.slice none 0 0])
  have B1 := Lib.hid (below3 w (.cells #[.slice a l.length cap] 24) (.cells #[.slice a2 m.length cap2] 24) (.cells #[.slice none 0 0] 24))
  have HR1 := Lib.hid (hr.out.below B1.out)
  have HRM := Lib.hid (hrm.out.below B1.out)
  have hsz : (((w.alloc (.cells #[.slice a l.length cap] 24)).alloc (.cells #[.slice a2 m.length cap2] 24)).alloc (.cells #[.slice none 0 0] 24)).heap.size = w.heap.size + 3 := by simp
  have HS := Lib.hid hsz
  clear hsz
  by_cases hok : okT l = 0
  · have hT := H.out
    unfold mergeT at hT
    rw [if_pos hok] at hT
    obtain ⟨⟨l', L', er'⟩, hp⟩ : ∃ r, mergeP l m = r := ⟨_, rfl⟩
    rw [hp] at hT
    simp only [Prod.mk.injEq] at hT
    obtain ⟨hlr, rfl, rfl⟩ := hT
    have HLR := Lib.hid hlr
    have HP := Lib.hid hp
    have HK := Lib.hid (chkT_ok hok)
    have hl32 : l.length ≤ 32 := ok_len hok
    clear hlr hp hok H
    go_enter Try.func26, Try.ntmps26
    go_wp2_with (go_at_call 59; refine (work_okG a cap _ l l' lr er' (RowN L') (Lib.hid (rowN_stays _)) _ hn hz HR1 HK (Lib.hid (doesG _ a2 cap2 l m l' L' er' _ hm hzm hl32 S1 HRM HP)) HLR).mono ?_; rintro e w2 ⟨V1, V, B, B2, rfl, hb1, hb2, hT, hV, hB⟩; obtain ⟨a1, k1, rfl⟩ := tab_shape hT; obtain ⟨a3, k3, rfl⟩ := row_shape hV; have T2 := Lib.hid hT; have V2 := Lib.hid hV; have X2 := Lib.hid (X1.out.below hB); have hb3 : w.heap.size + 3 ≤ B := (by rw [HS.out] at hb1; exact hb1); have hb4 : w.heap.size + 3 ≤ B2 := (by rw [HS.out] at hb2; exact hb2); have B3 := Lib.hid (below_then B1.out hB); clear hT hV hB hb1 hb2; have c0 := X2.out.cell 0; have f0 := X2.out.free 0; have lx := X2.out.lt)
    have d0 := (X2.out.set 0 (by simp) (.slice a1 lr.length k1)).cell 0
    exact bodyPost_ret (v := .tuple #[.agg #[.slice a1 lr.length k1], .slice a3 L'.length k3, .int .i64 er']) (by simp [results, Try.results26, go_sem, d0]) rfl ⟨_, _, B, B2, rfl, by omega, by omega, tab_set T2.out (by omega) _, row_other V2.out _ _ (by omega) _, B3.out.setCell (p := ⟨w.heap.size + 1 + 1, 0, none⟩) (by simp; omega) _⟩
  · have hT := H.out
    unfold mergeT at hT
    rw [if_neg hok] at hT
    simp only [Prod.mk.injEq] at hT
    obtain ⟨rfl, rfl, rfl⟩ := hT
    obtain ⟨⟨er', p⟩, hc⟩ : ∃ r, chkT l = r := ⟨_, rfl⟩
    have he : okT l = er' := by unfold okT; rw [hc]
    rw [he] at hok ⊢
    have HC := Lib.hid hc
    clear hc he H
    go_enter Try.func26, Try.ntmps26
    go_wp2_with (go_at_call 59; refine (work_badL a cap l er' p _ _ hn hz HR1 HC hok).mono ?_; rintro e w2 ⟨rfl, hB⟩; have X2 := Lib.hid (X1.out.below hB); have B3 := Lib.hid (below_then B1.out hB); clear hB; have c0 := X2.out.cell 0; have f0 := X2.out.free 0; have lx := X2.out.lt)
    have d0 := (X2.out.set 0 (by simp) (.slice none 0 0)).cell 0
    exact bodyPost_ret (v := .tuple #[.agg #[.slice none 0 0], .slice none 0 0, .int .i64 er']) (by simp [results, Try.results26, go_sem, d0]) rfl ⟨_, _, w.heap.size, w.heap.size, rfl, Nat.le_refl _, Nat.le_refl _, tab_nil _ _, World.ownsRow_nil _ _ _ _, B3.out.setCell (p := ⟨w.heap.size + 1 + 1, 0, none⟩) (by simp; omega) _⟩
end Go.Proofs.Ytndghjfgjkjbdaa.s06
