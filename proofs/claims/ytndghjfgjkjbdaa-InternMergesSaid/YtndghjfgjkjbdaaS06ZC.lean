/-
  Layer 6, the reference's side: Merge whole, Keep, Same.
-/
import Derived.Test.YtndghjfgjkjbdaaS06ZB
namespace Go.Proofs.Ytndghjfgjkjbdaa.s06
set_option linter.unusedVariables false
set_option linter.unusedSimpArgs false
open Go.RowKit Go.WideMaps Go.Maps
open kit

theorem rmerge_any (a a2 : Option Addr) (cap cap2 : Nat) (l m : List ByteArray) (lr : List ByteArray) (L : List Int) (er : Int) (w : World) (hn : l.length ≤ 9223372036854775807) (hm : m.length ≤ 9223372036854775807) (hT : Hid (Tb w l a cap)) (hT2 : Hid (Tb w m a2 cap2)) (H : Hid (mergeT l m = (lr, L, er))) :
    Calls Try.prog 27 #[.agg #[.slice a l.length cap], .agg #[.slice a2 m.length cap2]] w (WorkOk (RowN L) lr er w) := by
  by_cases h0 : okT l = 0
  · by_cases h1 : okT m = 0
    · exact rmerge_ok a a2 cap cap2 l m lr L er w hT hT2 (Lib.hid h0) (Lib.hid h1) (ok_len h0) (ok_len h1) H
    · have := H.out
      rw [mergeT_bad2 h0 h1] at this
      cases this
      exact rmerge_err a a2 cap cap2 l m _ w hn hm hT hT2 (.inr ⟨h0, rfl, h1⟩)
  · have := H.out
    rw [mergeT_bad h0] at this
    cases this
    exact rmerge_err a a2 cap cap2 l m _ w hn hm hT hT2 (.inl ⟨rfl, h0⟩)
/-- names one by one, none twice -/
def rkG (l : List ByteArray) : List ByteArray → List Int → List ByteArray × Int
  | cur, [] => (cur, 0)
  | cur, k :: rest => if ix cur (l[k.toNat]?.getD ByteArray.empty) < cur.length then ([], 8) else rkG l (cur ++ [l[k.toNat]?.getD ByteArray.empty]) rest
theorem prtG_eq {l : List ByteArray} (hl : okT l = 0) : ∀ (rest : List Int) (cur : List ByteArray), cur.Nodup → (∀ x ∈ cur, x ∈ l) → (∀ k ∈ rest, 0 ≤ k ∧ k < (l.length : Int)) → prtG l cur rest = rkG l cur rest
  | [], cur, _, _, _ => rfl
  | k :: rest, cur, hn, hs, hk => by
    obtain ⟨h1, h2, h3⟩ := ok_iff.mp hl
    have hk0 := hk k (List.mem_cons_self ..)
    have hmem := mem_getS l k.toNat (by omega)
    have hc := h3 _ hmem
    unfold prtG rkG
    generalize l[k.toNat]?.getD ByteArray.empty = s at hmem hc ⊢
    by_cases hin : ix cur s < cur.length
    · have hp : putP cur s true = (cur, 0, 8) := by unfold putP; rw [if_pos hc, if_pos hin, if_pos rfl]
      rw [hp, if_pos hin, if_neg (show ¬ (8 : Int) = 0 by decide)]
    · have hout : s ∉ cur := fun h => hin (ix_mem.mpr h)
      have hnd : (cur ++ [s]).Nodup := by
        have := put1_nodup (s := s) hn
        rwa [put1_out hout] at this
      have hsub : ∀ x ∈ cur ++ [s], x ∈ l := fun x hx => by
        rcases List.mem_append.mp hx with h | h
        · exact hs x h
        · rw [List.mem_singleton] at h; rw [h]; exact hmem
      have hlen := nodup_len hnd hsub
      rw [List.length_append, List.length_singleton] at hlen
      have hp : putP cur s true = (cur ++ [s], (cur.length : Int), 0) := by unfold putP; rw [if_pos hc, if_neg hin, if_neg (by omega)]
      rw [hp, if_neg hin, if_pos rfl]
      exact prtG_eq hl rest (cur ++ [s]) hnd hsub fun x hx => hk x (List.mem_cons_of_mem _ hx)
theorem keepT_good {l : List ByteArray} {ks : List Int} (hl : okT l = 0) (hin : inR l ks) : keepT l ks = rkG l [] ks := by
  unfold keepT partP
  rw [if_pos hl, if_pos hin]
  refine prtG_eq hl ks [] List.nodup_nil (fun x hx => by cases hx) fun k hk => ?_
  obtain ⟨j, hj, rfl⟩ := List.getElem_of_mem hk
  have := hin j hj
  rwa [List.getElem?_eq_getElem hj] at this
theorem keepT_out {l : List ByteArray} {ks : List Int} (hl : okT l = 0) (hin : ¬ inR l ks) : keepT l ks = ([], 2) := by
  unfold keepT partP
  rw [if_pos hl, if_neg hin]
set_option maxRecDepth 100000 in
set_option maxHeartbeats 2000000 in
theorem rkeep_any (a a2 : Option Addr) (cap cap2 : Nat) (l : List ByteArray) (ks : List Int) (lk : List ByteArray) (er : Int) (w : World) (hn : l.length ≤ 9223372036854775807) (hm : ks.length ≤ 1000000) (hT : Hid (Tb w l a cap)) (hrm : Hid (ReadsI w a2 ks)) (H : Hid (keepT l ks = (lk, er))) :
    Calls Try.prog 30 #[.agg #[.slice a l.length cap], .slice a2 ks.length cap2] w (TabE lk er w) := by
  have P1 := Lib.hid ((Box.new w 24 #[.slice a l.length cap]).alloc (.cells #[.slice none 0 0] 24))
  have X1 := Lib.hid (Box.new2 w (.cells #[.slice a l.length cap] 24) 24 #[.slice none 0 0])
  have B1 := Lib.hid (below2 w (.cells #[.slice a l.length cap] 24) (.cells #[.slice none 0 0] 24))
  have T1 := Lib.hid (hT.out.below B1.out)
  have hsm := Lib.hid hT.out.small
  have hc1 := hT.out.hcap
  by_cases h0 : okT l = 0
  · have H0 := Lib.hid h0
    have hl32 := ok_len h0
    have HBAD : Hid (∀ j, j < ks.length → ¬ (0 ≤ ks[j]?.getD 0 ∧ ks[j]?.getD 0 < (l.length : Int)) → (([] : List ByteArray), (2 : Int)) = (lk, er)) := Lib.hid fun j hj hnot => by
      rw [← H.out, keepT_out h0 (fun h => hnot (h j hj))]
    have HGOOD : Hid ((∀ j, j < ks.length → 0 ≤ ks[j]?.getD 0 ∧ ks[j]?.getD 0 < (l.length : Int)) → rkG l [] ks = (lk, er)) := Lib.hid fun h => by
      rw [← H.out, keepT_good h0 h]
    clear h0 H
    go_enter Try.func30, Try.ntmps30
    go_wp2_with (go_at_call 47; refine (okt_any a cap l 0 _ hc1 hn hsm (Lib.hid T1.out.reads) H0).mono ?_; rintro e w2 ⟨rfl, hB⟩; have P2 := Lib.hid (P1.out.below hB); have X2 := Lib.hid (X1.out.below hB); have B2 := Lib.hid (below_then B1.out hB); clear hB)
    go_loopw [7] (fun i wr => ∃ k : Nat, k ≤ ks.length ∧ i = .int .i64 k ∧ Hid (∀ j, j < k → 0 ≤ ks[j]?.getD 0 ∧ ks[j]?.getD 0 < (l.length : Int)) ∧ Hid (Box wr 24 w.heap.size #[.slice a l.length cap]) ∧ Hid (Box wr 24 (w.heap.size + 1) #[.slice none 0 0]) ∧ Hid (Below w.heap.size w wr)) (fun i _ => ks.length - (intOf i).toNat)
    case atStart => exact ⟨0, by omega, rfl, Lib.hid fun j hj => (by omega), P2, X2, B2⟩
    case round =>
      obtain ⟨k, hk, rfl, HA, P, X, B⟩ := hrel
      obtain ⟨B, hw⟩ : Hid (Below w.heap.size w wr) ∧ True := ⟨B, trivial⟩
      have c0 := P.out.cell 0
      by_cases hkl : k < ks.length
      · obtain ⟨bq, off, rfl, hb, hcl⟩ := (hrm.out.below B.out) k hkl
        have hin3 : ks[k]?.getD 0 < 0 ∨ (¬ ks[k]?.getD 0 < 0 ∧ (l.length : Int) ≤ ks[k]?.getD 0) ∨ (0 ≤ ks[k]?.getD 0 ∧ ks[k]?.getD 0 < (l.length : Int)) := by omega
        rcases hin3 with h1 | ⟨h1, h2⟩ | hin
        · have HX := Lib.hid (HBAD.out k hkl (by omega))
          generalize ks[k]?.getD 0 = x at hcl h1
          have hd : decide (x < 0) = true := decide_eq_true h1
          have x0 := X.out.cell 0
          have x1 := X.out.free 0
          have x2 := X.out.lt
          go_wp2
          go_quiet (fail)
          go_wp2
          have X3 : Hid (Box (wr.drewN nq) 24 (w.heap.size + 1) #[.slice none 0 0]) := Lib.hid X.out
          have d0 := (X3.out.set 0 (by simp) (.slice none 0 0)).cell 0
          have hh := HX.out
          simp only [Prod.mk.injEq] at hh
          obtain ⟨rfl, rfl⟩ := hh
          exact bodyPost_ret (v := .tuple #[.agg #[.slice none 0 0], .int .i64 2]) (by simp [results, Try.results30, go_sem, d0]) rfl ⟨_, w.heap.size, rfl, Nat.le_refl _, tab_nil _ _, (below_drewN B.out nq).setCell (p := ⟨w.heap.size + 1, 0, none⟩) (by simp) _⟩
        · have HX := Lib.hid (HBAD.out k hkl (by omega))
          generalize ks[k]?.getD 0 = x at hcl h1 h2
          have hd : decide (x < 0) = false := decide_eq_false h1
          have hd2 : decide ((l.length : Int) ≤ x) = true := decide_eq_true h2
          have x0 := X.out.cell 0
          have x1 := X.out.free 0
          have x2 := X.out.lt
          go_wp2
          go_quiet (fail)
          go_wp2
          have X3 : Hid (Box (wr.drewN nq) 24 (w.heap.size + 1) #[.slice none 0 0]) := Lib.hid X.out
          have d0 := (X3.out.set 0 (by simp) (.slice none 0 0)).cell 0
          have hh := HX.out
          simp only [Prod.mk.injEq] at hh
          obtain ⟨rfl, rfl⟩ := hh
          exact bodyPost_ret (v := .tuple #[.agg #[.slice none 0 0], .int .i64 2]) (by simp [results, Try.results30, go_sem, d0]) rfl ⟨_, w.heap.size, rfl, Nat.le_refl _, tab_nil _ _, (below_drewN B.out nq).setCell (p := ⟨w.heap.size + 1, 0, none⟩) (by simp) _⟩
        · have HN : Hid (∀ j, j < k + 1 → 0 ≤ ks[j]?.getD 0 ∧ ks[j]?.getD 0 < (l.length : Int)) := Lib.hid fun j hj => by
            by_cases e : j = k
            · rw [e]; exact hin
            · exact HA.out j (by omega)
          generalize ks[k]?.getD 0 = x at hcl hin
          have hd : decide (x < 0) = false := decide_eq_false (by omega)
          have hd2 : decide ((l.length : Int) ≤ x) = false := decide_eq_false (by omega)
          have HIN := Lib.hid hin
          clear hin
          go_wp2
          go_quiet (fail)
          go_wp2
          go_roundw
          case rel => exact ⟨k + 1, by omega, by go_num, HN, Lib.hid P.out, Lib.hid X.out, Lib.hid (below_drewN B.out _)⟩
          case measure => simp [intOf]; omega
      · have hk2 : k = ks.length := by omega
        subst hk2
        have HG := Lib.hid (HGOOD.out HA.out)
        clear HBAD HGOOD
        have hpx := X.out.lt
        have KA := (Below.refl wr.heap.size wr).alloc (Nat.le_refl _) (.cells #[.slice none 0 0] 24)
        have P5 := Lib.hid (P.out.below KA)
        have X5 := Lib.hid (X.out.below KA)
        have B5 := Lib.hid (below_then B.out KA)
        have O5 := Lib.hid (Box.new wr 24 #[.slice none 0 0])
        have hsz : wr.heap.size + 1 ≤ (wr.alloc (.cells #[.slice none 0 0] 24)).heap.size := by simp
        have hwr := B.out.size
        clear KA
        go_wp2
        generalize wr.alloc (.cells #[.slice none 0 0] 24) = w5 at P5 X5 B5 O5 hsz ⊢
        generalize wr.heap.size = bo at *
        go_loopw [9] (fun i wr => ∃ (k : Nat) (va : Option Addr) (vk : Nat) (cur : List ByteArray), k ≤ ks.length ∧ i = .int .i64 k ∧ cur.length ≤ k ∧ Hid (Box wr 24 w.heap.size #[.slice a l.length cap]) ∧ Hid (Box wr 24 (w.heap.size + 1) #[.slice none 0 0]) ∧ Hid (Box wr 24 bo #[.slice va cur.length vk]) ∧ Hid (wr.ownsRow (bo + 1) 9 1 (.slice va cur.length vk) cur.length (cur.map Value.string)) ∧ Hid (Below w.heap.size w wr) ∧ Hid (rkG l cur (ks.drop k) = (lk, er)) ∧ Hid (bo + 1 ≤ wr.heap.size)) (fun i _ => ks.length - (intOf i).toNat)
        case atStart => exact ⟨0, none, 0, [], by omega, rfl, by simp, P5, X5, O5, Lib.hid (World.ownsRow_nil _ _ _ _), B5, Lib.hid (by simpa using HG.out), Lib.hid hsz⟩
        case round =>
          obtain ⟨k, va, vk, cur, hk, rfl, hck, P6, X6, O6, R6, B6, HK, Z6⟩ := hrel
          have c0 := P6.out.cell 0
          have o0 := O6.out.cell 0
          have o1 := O6.out.free 0
          have o2 := O6.out.lt
          by_cases hkl : k < ks.length
          · obtain ⟨bq, off, rfl, hb, hcl⟩ := (hrm.out.below B6.out) k hkl
            have hin := HA.out k hkl
            have hS := HK.out
            rw [drop_consI ks k hkl] at hS
            generalize ks[k]?.getD 0 = x at hcl hin hS
            obtain ⟨j, rfl⟩ := Int.eq_ofNat_of_zero_le hin.1
            have hj : j < l.length := by omega
            unfold rkG at hS
            rw [Int.toNat_natCast] at hS
            have hx := hsm.out _ (mem_getS l j hj)
            obtain ⟨bs, offs, rfl, hbs, hcs⟩ := (hT.out.reads.below B6.out) j hj
            generalize l[j]?.getD ByteArray.empty = y at hS hx hcs
            have RC : ReadsS wr va cur := reads_of_row rfl R6.out
            obtain ⟨r, hat⟩ : ∃ r, atI cur y = r := ⟨_, rfl⟩
            have HAT := Lib.hid hat
            by_cases hix : ix cur y < cur.length
            · rw [if_pos hix] at hS
              rw [atI_in hix] at hat
              have hr0 : 0 ≤ r := by omega
              simp only [Prod.mk.injEq] at hS
              obtain ⟨rfl, rfl⟩ := hS
              clear hat hix HK
              have x0 := X6.out.cell 0
              have x1 := X6.out.free 0
              have x2 := X6.out.lt
              go_wp2
              go_quiet (fail)
              have RCq : Hid (ReadsS (wr.drewN nq) va cur) := Lib.hid RC
              have Xq : Hid (Box (wr.drewN nq) 24 (w.heap.size + 1) #[.slice none 0 0]) := Lib.hid X6.out
              have Bq := Lib.hid (below_drewN B6.out nq)
              go_wp2_with (go_at_call 44; refine (at_any va vk cur.length cur y r _ rfl (by omega) RCq HAT).mono ?_; rintro e w9 ⟨rfl, rfl⟩)
              have d0 := (Xq.out.set 0 (by simp) (.slice none 0 0)).cell 0
              exact bodyPost_ret (v := .tuple #[.agg #[.slice none 0 0], .int .i64 8]) (by simp [results, Try.results30, go_sem, d0]) rfl ⟨_, w.heap.size, rfl, Nat.le_refl _, tab_nil _ _, Bq.out.setCell (p := ⟨w.heap.size + 1, 0, none⟩) (by simp) _⟩
            · rw [if_neg hix] at hS
              rw [atI_out hix] at hat
              have hr0 : ¬ 0 ≤ r := by omega
              have HN := Lib.hid hS
              clear hat hix HK hS
              go_wp2
              go_quiet (fail)
              have RCq : Hid (ReadsS (wr.drewN nq) va cur) := Lib.hid RC
              have Pq : Hid (Box (wr.drewN nq) 24 w.heap.size _) := Lib.hid P6.out
              have Xq : Hid (Box (wr.drewN nq) 24 (w.heap.size + 1) #[.slice none 0 0]) := Lib.hid X6.out
              have Oq : Hid (Box (wr.drewN nq) 24 bo #[.slice va cur.length vk]) := Lib.hid O6.out
              have Rq : Hid ((wr.drewN nq).ownsRow (bo + 1) 9 1 (.slice va cur.length vk) cur.length (cur.map Value.string)) := Lib.hid R6.out
              have Bq := Lib.hid (below_drewN B6.out nq)
              have Zq : Hid (bo + 1 ≤ (wr.drewN nq).heap.size) := Lib.hid Z6.out
              generalize wr.drewN nq = w6 at RCq Pq Xq Oq Rq Bq Zq ⊢
              clear c0 o0 o1 o2
              have o0 := Oq.out.cell 0
              have KS := (Below.refl w6.heap.size w6).alloc (Nat.le_refl _) (.cells #[.string y] 9)
              have P7 := Lib.hid (Pq.out.below KS)
              have X7 := Lib.hid (Xq.out.below KS)
              have O7 := Lib.hid (Oq.out.below KS)
              have R7 := Lib.hid (row_below Rq.out KS)
              have B7 := Lib.hid (below_then Bq.out KS)
              have Z7 : Hid (bo + 1 ≤ (w6.alloc (.cells #[.string y] 9)).heap.size) := Lib.hid (Nat.le_trans Zq.out KS.size)
              have SRC : Hid (∀ (j : Nat) u, [Value.string y][j]? = some u → (w6.alloc (.cells #[.string y] 9)).cell? ((⟨w6.heap.size, 0, none⟩ : Addr).add j) = some u) := Lib.hid (by
                have h := src_one w6 (.string y) 9
                rcases h with ⟨h, _⟩ | ⟨x, h, hc⟩
                · cases h
                · cases h; exact hc)
              clear KS
              have hcur2 : cur.length + 1 ≤ 1000000 := by omega
              go_wp2_with (first
                | (go_at_call 44; refine (at_any va vk cur.length cur y r _ rfl (by omega) RCq HAT).mono ?_; rintro e w9 ⟨rfl, rfl⟩)
                | (at_builtin; refine append_in2 Try.underlying22 info9 rfl (by omega) rfl (.tmp 60) (.tmp 62) rfl (bo + 1) _ cur.length (cur.map Value.string) rfl R7.out ⟨w6.heap.size, 0, none⟩ [.string y] 1 1 rfl rfl SRC.out (by simp [Value.oneCell']) hcur2 Z7.out ?_; intro v8 wA hv8 hgA; obtain ⟨a8, k8, rfl⟩ := row_shape hv8; have P8 := Lib.hid (Box.grownRow P7.out R7.out hgA (by decide)); have X8 := Lib.hid (Box.grownRow X7.out R7.out hgA (by decide)); have O8 := Lib.hid (Box.grownRow O7.out R7.out hgA (by decide)); have B8 : Hid (Below w.heap.size w wA) := Lib.hid (B7.out.trans ((below_grown (Below.refl (bo + 1) _) R7.out hgA Z7.out).mono (by omega))); have R8 := Lib.hid hv8; have Z8 := Lib.hid (Nat.le_trans Z7.out hgA.size); clear hv8 hgA o0; have o0 := O8.out.cell 0; have o1 := O8.out.free 0; have o2 := O8.out.lt))
              go_roundw
              case rel => exact ⟨k + 1, a8, k8, cur ++ [y], by omega, by go_num, by simp; omega, Lib.hid (P8.out.other (by omega) _), Lib.hid (X8.out.other (by omega) _), Lib.hid (by rw [List.length_append]; exact O8.out.set 0 (by simp) (.slice a8 (cur.length + 1) k8)), Lib.hid (by simpa using row_other R8.out bo 0 (by omega) (.slice a8 (cur.length + 1) k8)), Lib.hid (B8.out.setCell (p := ⟨bo, 0, none⟩) (by simp; omega) _), HN, Lib.hid (by simpa using Z8.out)⟩
              case measure => simp [intOf]; omega
          · have hk2 : k = ks.length := by omega
            subst hk2
            have hS := HK.out
            rw [List.drop_length] at hS
            unfold rkG at hS
            simp only [Prod.mk.injEq] at hS
            obtain ⟨rfl, rfl⟩ := hS
            clear HK
            have x0 := X6.out.cell 0
            have x1 := X6.out.free 0
            have x2 := X6.out.lt
            go_wp2
            have d0 := (X6.out.set 0 (by simp) (.slice va cur.length vk)).cell 0
            have hTT : TabO cur (bo + 1) (.agg #[.slice va cur.length vk]) wr := ⟨_, rfl, R6.out⟩
            exact bodyPost_ret (v := .tuple #[.agg #[.slice va cur.length vk], .int .i64 0]) (by simp [results, Try.results30, go_sem, d0]) rfl ⟨_, bo + 1, rfl, by omega, tab_setT hTT X6.out (by decide) _, B6.out.setCell (p := ⟨w.heap.size + 1, 0, none⟩) (by simp) _⟩
  · have hh := H.out
    unfold keepT at hh
    rw [if_neg h0] at hh
    simp only [Prod.mk.injEq] at hh
    obtain ⟨rfl, rfl⟩ := hh
    obtain ⟨q, hq⟩ : ∃ q, okT l = q := ⟨_, rfl⟩
    have HQ := Lib.hid hq
    rw [hq] at h0 ⊢
    clear hq H
    go_enter Try.func30, Try.ntmps30
    go_wp2_with (go_at_call 47; refine (okt_any a cap l q _ hc1 hn hsm (Lib.hid T1.out.reads) HQ).mono ?_; rintro e w2 ⟨rfl, hB⟩; have X2 := Lib.hid (X1.out.below hB); have B2 := Lib.hid (below_then B1.out hB); clear hB; have x0 := X2.out.cell 0; have f0 := X2.out.free 0; have lx := X2.out.lt)
    have d0 := (X2.out.set 0 (by simp) (.slice none 0 0)).cell 0
    exact bodyPost_ret (v := .tuple #[.agg #[.slice none 0 0], .int .i64 q]) (by simp [results, Try.results30, go_sem, d0]) rfl ⟨_, w.heap.size, rfl, Nat.le_refl _, tab_nil _ _, B2.out.setCell (p := ⟨w.heap.size + 1, 0, none⟩) (by simp) _⟩
end Go.Proofs.Ytndghjfgjkjbdaa.s06
