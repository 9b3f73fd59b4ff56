/-
  Layer 14: the reference's Sum. Layer 14: sums and cuts of any two lists, by both. Layer 14: what both say of any two lists.
-/
import Derived.Test.YtdahaajfkjmflaaG18
import Derived.Test.YtdahaajfkjmflaaG17
import Derived.Test.YtdahaajfkjmflaaG09
import Derived.Test.YtdahaajfkjmflaaG15
namespace Go.Proofs.Ytdahaajfkjmflaa.s14
set_option linter.unusedVariables false
set_option linter.unusedSimpArgs false
open Go.RowKit
open kit

open s13

open Go.Shelf
theorem reads_sub {w : World} {b off : Nat} {L : List (List Int)} (h : Reads5 w (some ⟨b, off, none⟩) (L.map pad5)) {i : Nat} (hi : i < L.length) : Reads5 w (some ⟨b, off + i * 5, none⟩) ([L[i]?.getD []].map pad5) := fun j hj => by
  obtain rfl : j = 0 := by simp at hj; omega
  obtain ⟨b', off', e, hb, hat⟩ := h i (by simpa using hi)
  cases e
  refine ⟨b, off + i * 5, rfl, hb, ?_⟩
  rw [map_getD hi] at hat
  simpa using hat
theorem load5_at {w : World} {b o : Nat} {n a b' c d : Int} (h : At5 w b o (n, a, b', c, d)) : (Instr.loadAt 25 (.pointer (some ⟨b, o, none⟩))).run Try.prog w = .ok (.agg #[.int .i64 n, .int .i64 a, .int .i64 b', .int .i64 c, .int .i64 d]) w := by
  obtain ⟨z0, z1, z2, z3, z4⟩ := h
  simp only at z0 z1 z2 z3 z4
  simp [go_sem, z0, z1, z2, z3, z4]
theorem idx5_at (b off n c i : Nat) (hi : i < n) (W : World) : (Instr.indexAt 22 (.slice (some ⟨b, off, none⟩) n c) (.int .i64 i)).run Try.prog W = .ok (.pointer (some ⟨b, off + i * 5, none⟩)) W := by
  obtain ⟨i0, h0, hz0, hz1, hz2⟩ := info_parts info5
  have h1 : (i : Int) < n := by omega
  simp [Instr.indexAt, run_underlying Try.underlying22, sizeOf, typeInfo, h0, hz0, hz1, hz2, go_sem, hi, h1, Addr.add]
theorem rowJ_snoc (K : Nat) (x : List Int) (B : List (List Int)) {j : Nat} (hj : j < B.length) : rowJ K x (B.take (j + 1)) = rowJ K x (B.take j) ++ [(x ++ (B[j]?.getD [])).take K] := by
  unfold rowJ
  rw [List.take_succ_eq_append_getElem hj, List.map_append, List.getElem?_eq_getElem hj]; rfl
theorem rowJ_len (K : Nat) (x : List Int) (B : List (List Int)) : (rowJ K x B).length = B.length := by unfold rowJ; rw [List.length_map]
theorem rowJ_ok {K : Nat} (hK : K ≤ 4) {x : List Int} {B : List (List Int)} (hx : okL 8 x) (hB : ∀ y ∈ B, okL 8 y) : ∀ z ∈ rowJ K x B, okL 8 z := fun z hz => by
  obtain ⟨y, hy, rfl⟩ := List.mem_map.1 hz
  refine ⟨by rw [List.length_take]; omega, fun v hv => ?_⟩
  rcases List.mem_append.1 (List.mem_of_mem_take hv) with h | h
  · exact hx.2 v h
  · exact (hB y hy).2 v h
theorem allJ_ok {K : Nat} (hK : K ≤ 4) {A B : List (List Int)} (hA : ∀ x ∈ A, okL 8 x) (hB : ∀ y ∈ B, okL 8 y) : ∀ z ∈ allJ K A B, okL 8 z := fun z hz => by
  obtain ⟨x, hx, hz⟩ := List.mem_flatMap.1 hz
  exact rowJ_ok hK (hA x hx) hB z hz
set_option maxRecDepth 100000 in
set_option maxHeartbeats 2000000 in
theorem rsum_ok (t : Int) (K : Nat) (a b : Option Addr) (n m ca cb : Nat) (A B : List (List Int)) (w : World) (hK1 : 1 ≤ K) (hK4 : K ≤ 4) (hn : Hid (A.length = n)) (hm : Hid (B.length = m)) (hn6 : n ≤ 100) (hm6 : m ≤ 100) (hA : Hid (∀ x ∈ A, okL 8 x)) (hB : Hid (∀ x ∈ B, okL 8 x)) (aA : Hid (Asc A)) (aB : Hid (Asc B)) (ra : Hid (Reads5 w a (A.map pad5))) (rb : Hid (Reads5 w b (B.map pad5))) (HR : Hid (chkA t [A.map pad5, B.map pad5] = 0)) :
    Calls Try.prog 31 #[.int .i64 t, .int .i64 K, .slice a n ca, .slice b m cb] w fun e w' => ∃ p cp N, e = .returned (.tuple #[.slice p N cp, .int .i64 0]) ∧ (sumS K A B (K + 1)).length = N ∧ Reads5 w' p ((sumS K A B (K + 1)).map pad5) ∧ Below w.heap.size w w' ∧ N ≤ cp := by
  have HQ : Hid (rngE 0 (K : Int) = 0) := Lib.hid (by unfold rngE; rw [if_neg (by omega)])
  have HS : Hid (setS (allJ K (cutS K A) (cutS K B)) = sumS K A B (K + 1)) := Lib.hid (allJ_sum aA.out aB.out)
  have HCA := Lib.hid (cutS_set K aA.out)
  have HCB := Lib.hid (cutS_set K aB.out)
  go_enter Try.func31, Try.ntmps31
  go_wp2_with (fail)
  go_at_call 56
  refine (s14.rboth_any t a b n m ca cb _ _ _ (mlen hn) (mlen hm) (by omega) (by omega) ra rb 0 HR).mono ?_
  rintro e w1 ⟨rfl, hB1⟩
  have B1 := Lib.hid hB1
  have ra1 := Lib.hid (ra.out.below hB1)
  have rb1 := Lib.hid (rb.out.below hB1)
  clear hB1
  go_wp2_with (fail)
  go_at_call 64
  refine (rranged_any 0 K _ 0 HQ).mono ?_
  rintro e w2 ⟨rfl, rfl⟩
  go_wp2_with (fail)
  go_at_call 65
  refine (rcutset_any a n ca K A _ hn (by omega) hK1 hK4 hA ra1).mono ?_
  rintro e w3 ⟨p, cp, N, rfl, l3, m3, r3, b3⟩
  rw [← HCA.out] at l3 r3
  have L3 := Lib.hid l3
  have R3 := Lib.hid r3
  have B3 := Lib.hid (below_then B1.out b3)
  have rb3 := Lib.hid (rb1.out.below b3)
  clear l3 r3 b3
  go_wp2_with (fail)
  go_at_call 65
  refine (rcutset_any b m cb K B _ hm (by omega) hK1 hK4 hB rb3).mono ?_
  rintro e w4 ⟨q, cq, M, rfl, l4, m4, r4, b4⟩
  rw [← HCB.out] at l4 r4
  have L4 := Lib.hid l4
  have R4 := Lib.hid r4
  have B4 := Lib.hid (below_then B3.out b4)
  have R34 := Lib.hid (R3.out.below b4)
  clear l4 r4 b4
  have hN : N ≤ 100 := by have h := cutS_len K A; rw [L3.out, hn.out] at h; omega
  have hM : M ≤ 100 := by have h := cutS_len K B; rw [L4.out, hm.out] at h; omega
  have OA : Hid (∀ x ∈ cutS K A, okL 8 x) := Lib.hid (cutS_ok K hA.out)
  have OB : Hid (∀ x ∈ cutS K B, okL 8 x) := Lib.hid (cutS_ok K hB.out)
  have SA : Hid (∀ x ∈ cutS K A, x.length ≤ K) := Lib.hid (fun x hx => cut_short x hx)
  generalize cutS K A = X at L3 R34 OA HS SA
  generalize cutS K B = Y at L4 R4 OB HS
  clear ra rb ra1 rb1 rb3 R3 HCA HCB HR HQ hn hm hA hB aA aB
  go_wp2
  go_loopw [11, 12, 13, 14] (fun vo vi vl vj wr => ∃ (i : Nat) (po : Option Addr) (co no : Nat), vo = .slice po no co ∧ vi = .int .i64 i ∧ i ≤ N ∧ no ≤ co ∧ Hid ((setS (allJ K (X.take i) Y)).length = no) ∧ Hid (Reads5 wr po ((setS (allJ K (X.take i) Y)).map pad5)) ∧ Hid (Below w.heap.size w wr) ∧ Hid (Reads5 wr p (X.map pad5)) ∧ Hid (Reads5 wr q (Y.map pad5))) (fun _ vi _ _ _ => N - (intOf vi).toNat)
  case atStart => exact ⟨0, none, 0, 0, rfl, rfl, by omega, Nat.le_refl _, Lib.hid (by simp [allJ, setS]), Lib.hid (by simp [allJ, setS]; exact Reads5.nil _ _), B4, R34, R4⟩
  case round =>
    obtain ⟨i, po, co, no, rfl, rfl, hi, hco, HL, HRo, HB, HX, HY⟩ := hrel
    by_cases hlt : i < N
    · have hil : i < X.length := by rw [L3.out]; exact hlt
      obtain ⟨wo, rfl⟩ : ∃ wo : World, wo = wr := ⟨_, rfl⟩
      obtain ⟨b0, off, rfl, hb0, hat⟩ := HX.out i (by rw [List.length_map]; exact hil)
      have hRS := reads_sub HX.out hil
      have hxo := OA.out _ (mem_getL hil)
      have hxs := SA.out _ (mem_getL hil)
      have hin := mem_getL hil
      rw [map_getD hil] at hat
      have htk := take_getL hil
      generalize X[i]?.getD [] = x at hat hRS hxo hxs htk hin
      have HTK := Lib.hid htk
      have HRS := Lib.hid hRS
      have HXO := Lib.hid hxo
      have hone : Hid ([x].length = 1) := Lib.hid rfl
      have hokone : Hid (∀ z ∈ [x], okL 8 z) := Lib.hid (fun z hz => by obtain rfl := List.mem_singleton.1 hz; exact HXO.out)
      have hokall : Hid (∀ z ∈ setS (allJ K (X.take i) Y), okL 8 z) := Lib.hid (setS_ok (allJ_ok hK4 (fun z hz => OA.out z (List.mem_of_mem_take hz)) OB.out))
      have hno : no ≤ 10000 := by
        have h1 := setS_len (allJ K (X.take i) Y)
        rw [HL.out, allJ_len, List.length_take, L4.out] at h1
        have h2 : min i X.length * M ≤ 100 * 100 := Nat.mul_le_mul (by omega) hM
        omega
      have hci : ¬ cp = i := by omega
      obtain ⟨⟨x0, x1, x2, x3, x4⟩, ex⟩ : ∃ y, pad5 x = y := ⟨_, rfl⟩
      have hx0 : x0 = (x.length : Int) := by have := congrArg Prod.fst ex; exact this.symm
      rw [ex] at hat
      obtain ⟨c0, c1, c2, c3, c4⟩ := hat
      simp only at c0 c1 c2 c3 c4
      by_cases hg : x.length = K ∧ 0 < M
      · obtain ⟨hg1, hg2⟩ := hg
        have hx0K : x0 = (K : Int) := by rw [hx0, hg1]
        rw [hx0K] at c0
        have pM : (0 : Int) < (M : Int) := by omega
        have HW : Hid (mrg kU (setS (allJ K (X.take i) Y)) [x] = setS (allJ K (X.take (i + 1)) Y)) := Lib.hid (by
          rw [allJ_whole hg1 (fun e => by have := L4.out; rw [e] at this; simp at this; omega), HTK.out])
        clear hil htk hRS hxo hxs hin ex hx0 hg1 hx0K hb0 hi
        go_wp2_with (fail)
        go_at_call 53
        refine (rmerge_any po (some ⟨b0, off + i * 5, none⟩) no 1 co (cp - i) _ [x] _ HL hone hco (by omega) (by omega) hokall hokone HRo HRS _ _ HW (Lib.hid rfl)).mono ?_
        rintro e w5 ⟨p5, c5, rfl, r5, b5, m5⟩
        have R5 := Lib.hid r5
        have B5 := Lib.hid (below_then HB.out b5)
        have X5 := Lib.hid (HX.out.below b5)
        have Y5 := Lib.hid (HY.out.below b5)
        clear r5 b5
        go_wp2
        go_roundw
        case rel => exact ⟨i + 1, p5, c5, _, rfl, by go_num, by omega, m5, Lib.hid rfl, R5, B5, X5, Y5⟩
        case measure => simp [intOf]; omega
      · have hgd : (decide (x0 = (K : Int)) = false) ∨ (x0 = (K : Int) ∧ M = 0) := by
          by_cases e : x0 = (K : Int)
          · exact .inr ⟨e, by
              have : x.length = K := by omega
              by_cases h0 : M = 0
              · exact h0
              · exact absurd ⟨this, by omega⟩ hg⟩
          · exact .inl (decide_eq_false e)
        have HW : Hid (mrg kU (setS (allJ K (X.take i) Y)) (setS (rowJ K x Y)) = setS (allJ K (X.take (i + 1)) Y)) := Lib.hid (by
          rw [allJ_step, HTK.out])
        have HEX := Lib.hid ex
        have C0 : Hid (wo.cell? ⟨b0, off + i * 5, none⟩ = some (.int .i64 x0)) := Lib.hid c0
        have C1 := Lib.hid c1
        have C2 := Lib.hid c2
        have C3 := Lib.hid c3
        have C4 := Lib.hid c4
        clear hil htk hRS hxo hxs hin ex hx0 hg hi c1 c2 c3 c4
        rcases hgd with hgd | ⟨hgd, hM0⟩
        all_goals
          first
          | (have hne : ¬ x0 = (K : Int) := of_decide_eq_false hgd
             have hne2 : (x0 == (K : Int)) = false := by simpa using hne
             go_wp2)
          | (have hne2 : (x0 == (K : Int)) = true := by simpa using hgd
             have hne : decide (x0 = (K : Int)) = true := decide_eq_true hgd
             have pM0 : ¬ ((M : Int) > 0) := by omega
             have pM1 : decide ((M : Int) > 0) = false := decide_eq_false pM0
             clear hM0 hgd
             go_wp2)
          go_loopw [13, 14] (fun vl vj wr => ∃ j : Nat, vj = .int .i64 j ∧ j ≤ M ∧ Hid (wr.ownsRow wo.heap.size 25 5 vl j (flat5 ((rowJ K x (Y.take j)).map pad5))) ∧ Hid (Below wo.heap.size wo wr)) (fun _ vj _ => M - (intOf vj).toNat)
          case atStart => exact ⟨0, rfl, by omega, Lib.hid (World.ownsRow_nil _ _ _ _), Lib.hid (Below.refl _ _)⟩
          case round =>
            obtain ⟨j, rfl, hj, HRow, HBj⟩ := hrel
            by_cases hlj : j < M
            · have hjl : j < Y.length := by rw [L4.out]; exact hlj
              obtain ⟨b1, of1, rfl, hb1, hau⟩ := (HY.out.below HBj.out) j (by rw [List.length_map]; exact hjl)
              have hao := HX.out.below HBj.out
              rw [map_getD hjl] at hau
              have hyo := OB.out _ (mem_getL hjl)
              have hrs := rowJ_snoc K x Y hjl
              generalize Y[j]?.getD [] = y at hau hyo hrs
              have HRS2 := Lib.hid hrs
              have HJ : Hid (joinE (K : Int) (pad5 x) (pad5 y) = (pad5 ((x ++ y).take K), 0)) := Lib.hid (joinE_ok HXO.out hyo hK1 hK4)
              rw [HEX.out] at HJ
              obtain ⟨⟨y0, y1, y2, y3, y4⟩, ey⟩ : ∃ v, pad5 y = v := ⟨_, rfl⟩
              obtain ⟨⟨z0, z1, z2, z3, z4⟩, ez⟩ : ∃ v, pad5 ((x ++ y).take K) = v := ⟨_, rfl⟩
              rw [ey, ez] at HJ
              rw [ey] at hau
              have HEZ := Lib.hid ez
              have e0 := hau
              have g0 : At5 wr b0 (off + i * 5) (x0, x1, x2, x3, x4) := by
                have hb := HBj.out
                exact ⟨(hb.cell (p := ⟨b0, _, none⟩) hb0).trans C0.out, (hb.cell (p := ⟨b0, _, none⟩) hb0).trans C1.out, (hb.cell (p := ⟨b0, _, none⟩) hb0).trans C2.out, (hb.cell (p := ⟨b0, _, none⟩) hb0).trans C3.out, (hb.cell (p := ⟨b0, _, none⟩) hb0).trans C4.out⟩
              have G0 := Lib.hid g0
              have H0 := Lib.hid hau
              have hsz := HBj.out.size
              clear hjl hau hyo hrs ey ez e0 g0
              go_wp2
              refine wp_region_specs_tail 12 [.con u13, .con (.int .i64 K), .con (.slice (some ⟨b0, off, none⟩) N cp), .con (.int .i64 i), .con (.pointer (some ⟨b0, off + i * 5, none⟩)), .con (.agg #[.int .i64 x0, .int .i64 x1, .int .i64 x2, .int .i64 x3, .int .i64 x4]), .con (.slice (some ⟨b1, of1, none⟩) M cq), .con (.int .i64 j), .con (.pointer (some ⟨b1, of1 + j * 5, none⟩)), .con (.agg #[.int .i64 y0, .int .i64 y1, .int .i64 y2, .int .i64 y3, .int .i64 y4]), .con (.agg #[.int .i64 z0, .int .i64 z1, .int .i64 z2, .int .i64 z3, .int .i64 z4]), Sl5 [(x ++ y).take K]] (by kernel_rfl) (by kernel_rfl) (by kernel_rfl) ?keeps ?steps ?rest
              case keeps =>
                intro s hs
                simp only [List.mem_cons, List.not_mem_nil, or_false] at hs
                rcases hs with rfl | rfl | rfl | rfl | rfl | rfl | rfl | rfl | rfl | rfl | rfl | rfl <;> first | exact con_keeps _ | exact Sl5.keeps _
              case steps =>
                refine ⟨fun A w9 hB9 h => step_move_old h (by kernel_rfl) 13 rfl (by kernel_rfl) (by rfl), ?_⟩
                refine ⟨fun A w9 hB9 h => step_move_old h (by kernel_rfl) 1 rfl (by kernel_rfl) (by rfl), ?_⟩
                refine ⟨fun A w9 hB9 h => step_move_old h (by kernel_rfl) 2 rfl (by kernel_rfl) (by rfl), ?_⟩
                refine ⟨fun A w9 hB9 h => step_move_old h (by kernel_rfl) 12 rfl (by kernel_rfl) (by rfl), ?_⟩
                refine ⟨fun A w9 hB9 h => step_idx h (by kernel_rfl) _ _ _ (.slice (some ⟨b0, off, none⟩) N cp) (.int .i64 i) rfl (by rfl) (by rfl) (idx5_at b0 off N cp i hlt w9), ?_⟩
                refine ⟨fun A w9 hB9 h => step_load h (by kernel_rfl) _ _ (.pointer (some ⟨b0, off + i * 5, none⟩)) rfl (h.con 4 (by kernel_rfl) (by kernel_rfl) rfl) (load5_at (G0.out.below hB9)), ?_⟩
                refine ⟨fun A w9 hB9 h => step_move_old h (by kernel_rfl) 3 rfl (by kernel_rfl) (by rfl), ?_⟩
                refine ⟨fun A w9 hB9 h => step_move_old h (by kernel_rfl) 14 rfl (by kernel_rfl) (by rfl), ?_⟩
                refine ⟨fun A w9 hB9 h => step_idx h (by kernel_rfl) _ _ _ (.slice (some ⟨b1, of1, none⟩) M cq) (.int .i64 j) rfl (by rfl) (by rfl) (idx5_at b1 of1 M cq j hlj w9), ?_⟩
                refine ⟨fun A w9 hB9 h => step_load h (by kernel_rfl) _ _ (.pointer (some ⟨b1, of1 + j * 5, none⟩)) rfl (h.con 8 (by kernel_rfl) (by kernel_rfl) rfl) (load5_at (H0.out.below hB9)), ?_⟩
                refine ⟨fun A w9 hB9 h => step_call_con h (by kernel_rfl) 66 _ [.int .i64 K, .agg #[.int .i64 x0, .int .i64 x1, .int .i64 x2, .int .i64 x3, .int .i64 x4], .agg #[.int .i64 y0, .int .i64 y1, .int .i64 y2, .int .i64 y3, .int .i64 y4]] rfl rfl (by kernel_rfl) (by rfl) (rjoin14_any (K : Int) x0 x1 x2 x3 x4 y0 y1 y2 y3 y4 w9 z0 z1 z2 z3 z4 0 HJ), ?_⟩
                exact ⟨fun A w9 hB9 h => step_slice5 h (by kernel_rfl) _ _ [(x ++ y).take K] rfl rfl (by decide) (by decide) (by simp only [List.map_cons, List.map_nil, HEZ.out]; rfl), trivial⟩
              case rest =>
                intro vs w5 hB5 hv
                obtain ⟨p9, e9, r9⟩ : ∃ p, vs 11 = .slice p 1 1 ∧ Reads5 w5 p ([(x ++ y).take K].map pad5) := hv 11 _ rfl
                have e0 : vs 0 = u13 := hv 0 _ rfl
                have R9 := Lib.hid r9
                have B5 := Lib.hid (below_then HBj.out hB5)
                have R5 := Lib.hid (own5_below HRow.out hB5)
                have S5 := B5.out.size
                simp only [putAll, Act.put, List.setIfInBounds_toArray, List.set_cons_succ, List.set_cons_zero, List.take_succ_cons, List.take_zero, List.drop_succ_cons, List.drop_zero, e9, e0]
                generalize vs 1 = u1
                generalize vs 2 = u2
                generalize vs 3 = u3
                generalize vs 4 = u4
                generalize vs 5 = u5
                generalize vs 6 = u6
                generalize vs 7 = u7
                generalize vs 8 = u8
                generalize vs 9 = u9
                generalize vs 10 = u10
                clear hv e9 e0 r9 hB5
                go_wp2_with (at_builtin; go_must (refine append_in5 rfl (.tmp 61) (.tmp 72) rfl wo.heap.size _ j _ rfl R5.out _ [pad5 ((x ++ y).take K)] 1 1 rfl rfl (by decide) R9.out (by first | omega | (simp; omega)) (by first | omega | (simp; omega)) ?_; intro v3 w3 hv3 hB3; have O3 := Lib.hid hv3; have B3 := Lib.hid (B5.out.trans hB3); clear hv3 hB3))
                go_roundw
                case rel => exact ⟨j + 1, by go_num, by omega, Lib.hid (by rw [HRS2.out, flat_snoc _ _ rfl]; exact O3.out), B3⟩
                case measure => simp [intOf]; omega
            · obtain rfl : j = M := by omega
              have hrow := HRow.out
              rw [List.take_of_length_le (by rw [L4.out]; omega)] at hrow
              obtain ⟨p6, c6, rfl, h6⟩ := row5_shape hrow
              have HJL : Hid ((rowJ K x Y).length = j) := Lib.hid (by rw [rowJ_len]; exact L4.out)
              have HRR := Lib.hid (reads5_of_row (l := (rowJ K x Y).map pad5) (by rw [List.length_map]; exact HJL.out) hrow)
              have HOK : Hid (∀ z ∈ rowJ K x Y, okL 8 z) := Lib.hid (rowJ_ok hK4 HXO.out OB.out)
              have hsl := setS_len (rowJ K x Y)
              rw [HJL.out] at hsl
              have HOS : Hid (∀ z ∈ setS (rowJ K x Y), okL 8 z) := Lib.hid (setS_ok HOK.out)
              have HRo' := Lib.hid (HRo.out.below HBj.out)
              have HX' := Lib.hid (HX.out.below HBj.out)
              have HY' := Lib.hid (HY.out.below HBj.out)
              have HB' := Lib.hid (below_then HB.out HBj.out)
              clear hrow HRow
              go_wp2_with (fail)
              go_at_call 48
              refine (rsorted_any j j (Nat.le_refl _) p6 c6 (rowJ K x Y) _ HJL (by omega) h6 HOK HRR).mono ?_
              rintro e w7 ⟨p7, c7, N7, rfl, l7, m7, r7, b7⟩
              rw [l7] at hsl
              have L7 := Lib.hid l7
              have R7 := Lib.hid r7
              have HRo7 := Lib.hid (HRo'.out.below b7)
              have HX7 := Lib.hid (HX'.out.below b7)
              have HY7 := Lib.hid (HY'.out.below b7)
              have HB7 := Lib.hid (below_then HB'.out b7)
              clear l7 r7 b7
              go_wp2_with (fail)
              go_at_call 53
              refine (rmerge_any po p7 no N7 co c7 _ _ _ HL L7 hco m7 (by omega) hokall HOS HRo7 R7 _ _ HW (Lib.hid rfl)).mono ?_
              rintro e w8 ⟨p8, c8, rfl, r8, b8, m8⟩
              have R8 := Lib.hid r8
              have B8 := Lib.hid (below_then HB7.out b8)
              have X8 := Lib.hid (HX7.out.below b8)
              have Y8 := Lib.hid (HY7.out.below b8)
              clear r8 b8
              go_wp2
              go_roundw
              case rel => exact ⟨i + 1, p8, c8, _, rfl, by go_num, by omega, m8, Lib.hid rfl, R8, B8, X8, Y8⟩
              case measure => simp [intOf]; omega
    · obtain rfl : i = N := by omega
      have hXt : X.take i = X := List.take_of_length_le (by rw [L3.out]; omega)
      rw [hXt, HS.out] at HL HRo
      go_wp2_with (fail)
      go_ret2
      exact ⟨po, co, no, rfl, HL.out, HRo.out, HB.out, hco⟩
end Go.Proofs.Ytdahaajfkjmflaa.s14

namespace Go.Proofs.Ytdahaajfkjmflaa.s14
set_option linter.unusedVariables false
set_option linter.unusedSimpArgs false
open Go.RowKit
open kit

open s13

open Go.Shelf
/-- what both hand back -/
def RetX (w : World) (X : List V5) (N : Nat) (q : Int) (e : Ending) (w' : World) : Prop := ∃ p cp, e = .returned (.tuple #[.slice p N cp, .int .i64 q]) ∧ Reads5 w' p X ∧ Below w.heap.size w w'
theorem retx_no {w w' : World} {e : Ending} {r : Int} (h : e = noS r ∧ Below w.heap.size w w') : RetX w [] 0 r e w' := ⟨none, 0, h.1, Reads5.nil _ _, h.2⟩
theorem bne0 {r : Int} (h : ¬ r = 0) : (r != 0) = true := by simpa using h
theorem sum_pair (t k : Int) (la lb : List V5) (n m : Nat) (hn : Hid (la.length = n)) (hm : Hid (lb.length = m)) (hn4 : n ≤ 40) (hm4 : m ≤ 40) : ∃ (X : List V5) (N : Nat) (q : Int), X.length = N ∧ N ≤ 10000 ∧
    (∀ (a b : Option Addr) (ca cb : Nat) (w : World), n ≤ ca → m ≤ cb → Hid (Reads5 w a la) → Hid (Reads5 w b lb) → Calls Try.prog 30 #[.int .i64 t, .int .i64 k, .slice a n ca, .slice b m cb] w (RetX w X N q)) ∧
    (∀ (a b : Option Addr) (ca cb : Nat) (w : World), Hid (Reads5 w a la) → Hid (Reads5 w b lb) → Calls Try.prog 31 #[.int .i64 t, .int .i64 k, .slice a n ca, .slice b m cb] w (RetX w X N q)) := by
  obtain ⟨r, hr⟩ : ∃ r, chkA t [la, lb] = r := ⟨_, rfl⟩
  by_cases h0 : r = 0
  · subst h0
    by_cases hk : k < 1 ∨ 4 < k
    · have HQ : rngE 0 k = 2 := by unfold rngE; rw [if_pos ⟨rfl, hk⟩]
      exact ⟨[], 0, 2, rfl, by omega, fun a b ca cb w _ _ ra rb => (psum_k t k a b n m ca cb la lb w hn hm (by omega) (by omega) ra rb (Lib.hid hr) hk).mono fun e w' h => retx_no h,
        fun a b ca cb w ra rb => (rsum_bad t k a b n m ca cb la lb w hn hm (by omega) (by omega) ra rb 0 2 (Lib.hid hr) (Lib.hid HQ) (by rfl)).mono fun e w' h => retx_no h⟩
    · have hr2 := hr
      rw [chkA_M] at hr2
      have hr3 : (if chkS t la ≠ 0 then chkS t la else if chkS t lb ≠ 0 then chkS t lb else 0) = 0 := hr2
      have ea : chkS t la = 0 := by
        by_cases h : chkS t la = 0
        · exact h
        · rw [if_pos h] at hr3; exact hr3
      rw [if_neg (by simpa using ea)] at hr3
      have eb : chkS t lb = 0 := by
        by_cases h : chkS t lb = 0
        · exact h
        · rw [if_pos h] at hr3; exact hr3
      obtain ⟨t1, t2, _⟩ := chkS_t ea
      obtain ⟨A, rfl, aA, oA⟩ := chkS_set ea
      obtain ⟨B, rfl, aB, oB⟩ := chkS_set eb
      obtain ⟨K, rfl⟩ : ∃ K : Nat, k = (K : Int) := ⟨k.toNat, by omega⟩
      have hA : Hid (A.length = n) := Lib.hid (by rw [← hn.out, List.length_map])
      have hB : Hid (B.length = m) := Lib.hid (by rw [← hm.out, List.length_map])
      have oA8 : Hid (∀ x ∈ A, okL 8 x) := Lib.hid (fun x hx => okL_mono (oA x hx) t2)
      have oB8 : Hid (∀ x ∈ B, okL 8 x) := Lib.hid (fun x hx => okL_mono (oB x hx) t2)
      have hnm : n * m ≤ 1600 := Nat.mul_le_mul hn4 hm4
      have hN : (sumS K A B (K + 1)).length ≤ 10000 := by
        have h := sumS_len K A B (K + 1)
        rw [hA.out, hB.out] at h
        have : (K + 1) * (n * m) ≤ 5 * 1600 := Nat.mul_le_mul (by omega) hnm
        omega
      refine ⟨(sumS K A B (K + 1)).map pad5, _, 0, List.length_map _, hN, fun a b ca cb w c1 c2 ra rb => (psum_ok t K a b n m ca cb A B w (by omega) (by omega) hA hB (by omega) (by omega) (by omega) c1 c2 oA8 oB8 ra rb (Lib.hid hr) _ _ (Lib.hid rfl) (Lib.hid rfl)).mono fun e w' h => ?_,
        fun a b ca cb w ra rb => (rsum_ok t K a b n m ca cb A B w (by omega) (by omega) hA hB (by omega) (by omega) oA8 oB8 (Lib.hid aA) (Lib.hid aB) ra rb (Lib.hid hr)).mono fun e w' h => ?_⟩
      · obtain ⟨p, cp, e1, r1, b1, _⟩ := h
        exact ⟨p, cp, e1, r1, b1⟩
      · obtain ⟨p, cp, N, e1, l1, r1, b1, _⟩ := h
        subst l1
        exact ⟨p, cp, e1, r1, b1⟩
  · have HQ : rngE r k = r := by unfold rngE; rw [if_neg (by omega)]
    exact ⟨[], 0, r, rfl, by omega, fun a b ca cb w _ _ ra rb => (psum_bad t k a b n m ca cb la lb w hn hm (by omega) (by omega) ra rb r (Lib.hid hr) (bne0 h0)).mono fun e w' h => retx_no h,
      fun a b ca cb w ra rb => (rsum_bad t k a b n m ca cb la lb w hn hm (by omega) (by omega) ra rb r r (Lib.hid hr) (Lib.hid HQ) (bne0 h0)).mono fun e w' h => retx_no h⟩
theorem cut_pair (t k : Int) (la : List V5) (n : Nat) (hn : Hid (la.length = n)) (hn4 : n ≤ 40) : ∃ (X : List V5) (N : Nat) (q : Int), X.length = N ∧ N ≤ 10000 ∧
    (∀ (a : Option Addr) (ca : Nat) (w : World), Hid (Reads5 w a la) → Calls Try.prog 32 #[.int .i64 t, .int .i64 k, .slice a n ca] w (RetX w X N q)) ∧
    (∀ (a : Option Addr) (ca : Nat) (w : World), Hid (Reads5 w a la) → Calls Try.prog 33 #[.int .i64 t, .int .i64 k, .slice a n ca] w (RetX w X N q)) := by
  obtain ⟨r, hr⟩ : ∃ r, chkS t la = r := ⟨_, rfl⟩
  by_cases h0 : r = 0
  · subst h0
    by_cases hk : k < 1 ∨ 4 < k
    · have HQ : rngE 0 k = 2 := by unfold rngE; rw [if_pos ⟨rfl, hk⟩]
      exact ⟨[], 0, 2, rfl, by omega, fun a ca w ra => (pcut_k t k a n ca la w hn (by omega) ra (Lib.hid hr) hk).mono fun e w' h => retx_no h,
        fun a ca w ra => (rcut_bad t k a n ca la w hn (by omega) ra 0 2 (Lib.hid hr) (Lib.hid HQ) (by rfl)).mono fun e w' h => retx_no h⟩
    · obtain ⟨t1, t2, _⟩ := chkS_t hr
      obtain ⟨A, rfl, aA, oA⟩ := chkS_set hr
      obtain ⟨K, rfl⟩ : ∃ K : Nat, k = (K : Int) := ⟨k.toNat, by omega⟩
      have hA : Hid (A.length = n) := Lib.hid (by rw [← hn.out, List.length_map])
      have oA8 : Hid (∀ x ∈ A, okL 8 x) := Lib.hid (fun x hx => okL_mono (oA x hx) t2)
      have hN : (cutS K A).length ≤ 10000 := by
        have h := cutS_len K A
        rw [hA.out] at h
        omega
      refine ⟨(cutS K A).map pad5, _, 0, List.length_map _, hN, fun a ca w ra => (pcut_ok t K a n ca A w (by omega) (by omega) hA (by omega) oA8 ra (Lib.hid hr) _ _ (Lib.hid rfl) (Lib.hid rfl)).mono fun e w' h => ?_,
        fun a ca w ra => (rcut_ok t K a n ca A w (by omega) (by omega) hA (by omega) oA8 (Lib.hid aA) ra (Lib.hid hr)).mono fun e w' h => ?_⟩
      · obtain ⟨p, cp, e1, r1, b1, _⟩ := h
        exact ⟨p, cp, e1, r1, b1⟩
      · obtain ⟨p, cp, N, e1, l1, r1, b1, _⟩ := h
        subst l1
        exact ⟨p, cp, e1, r1, b1⟩
  · have HQ : rngE r k = r := by unfold rngE; rw [if_neg (by omega)]
    exact ⟨[], 0, r, rfl, by omega, fun a ca w ra => (pcut_bad t k a n ca la w hn (by omega) ra r (Lib.hid hr) (bne0 h0)).mono fun e w' h => retx_no h,
      fun a ca w ra => (rcut_bad t k a n ca la w hn (by omega) ra r r (Lib.hid hr) (Lib.hid HQ) (bne0 h0)).mono fun e w' h => retx_no h⟩
end Go.Proofs.Ytdahaajfkjmflaa.s14

namespace Go.Proofs.Ytdahaajfkjmflaa.s14
set_option linter.unusedVariables false
set_option linter.unusedSimpArgs false
open Go.RowKit
open kit

open s13

open Go.Shelf
theorem filt_pad {A B : List (List Int)} (f : Bool → Bool) (hA : ∀ x ∈ A, x.length ≤ 4) (hB : ∀ x ∈ B, x.length ≤ 4) : (A.map pad5).filter (fun x => f (decide (x ∈ B.map pad5))) = (A.filter fun x => f (decide (x ∈ B))).map pad5 := by
  rw [List.filter_map]
  congr 1
  refine List.filter_congr fun x hx => ?_
  have : (pad5 x ∈ B.map pad5) ↔ x ∈ B := by
    rw [List.mem_map]
    constructor
    · rintro ⟨y, hy, e⟩
      have : y = x := pad5_inj (hB y hy) e
      rw [← this]; exact hy
    · intro h; exact ⟨x, h, rfl⟩
  simp only [Function.comp_apply, this]
theorem meet_filt {A B : List (List Int)} (aA : Asc A) (aB : Asc B) (hA : ∀ x ∈ A, okL 8 x) (hB : ∀ x ∈ B, okL 8 x) : (A.map pad5).filter (fun x => decide (x ∈ B.map pad5)) = (mrg kM A B).map pad5 := by
  rw [filt_pad (fun b => b) (fun x hx => (hA x hx).1) (fun x hx => (hB x hx).1)]
  congr 1
  refine asc_ext (aA.filter _) (asc_mrg kM A B aA aB) (fun z => ?_)
  rw [mem_mrg kM z A B aA aB, inM_M, List.mem_filter]
  simp
theorem less_filt {A B : List (List Int)} (aA : Asc A) (aB : Asc B) (hA : ∀ x ∈ A, okL 8 x) (hB : ∀ x ∈ B, okL 8 x) : (A.map pad5).filter (fun x => !decide (x ∈ B.map pad5)) = (mrg s14.kL A B).map pad5 := by
  rw [filt_pad (fun b => !b) (fun x hx => (hA x hx).1) (fun x hx => (hB x hx).1)]
  congr 1
  refine asc_ext (aA.filter _) (asc_mrg s14.kL A B aA aB) (fun z => ?_)
  rw [mem_mrg s14.kL z A B aA aB, inM_L, List.mem_filter]
  simp
theorem chk_two {t : Int} {la lb : List V5} (h : chkA t [la, lb] = 0) : chkS t la = 0 ∧ chkS t lb = 0 := by
  rw [chkA_M] at h
  exact ⟨chkM_at h la (by simp), chkM_at h lb (by simp)⟩
/-- two lists that are sets, as lists of strings -/
theorem two_sets {t : Int} {la lb : List V5} (h : chkA t [la, lb] = 0) : 1 ≤ t ∧ t ≤ 8 ∧ ∃ A B, la = A.map pad5 ∧ lb = B.map pad5 ∧ Asc A ∧ Asc B ∧ (∀ x ∈ A, okL 8 x) ∧ (∀ x ∈ B, okL 8 x) := by
  obtain ⟨ea, eb⟩ := chk_two h
  obtain ⟨t1, t2, _⟩ := chkS_t ea
  obtain ⟨A, rfl, aA, oA⟩ := chkS_set ea
  obtain ⟨B, rfl, aB, oB⟩ := chkS_set eb
  exact ⟨t1, t2, A, B, rfl, rfl, aA, aB, fun x hx => okL_mono (oA x hx) t2, fun x hx => okL_mono (oB x hx) t2⟩
theorem meet_pair (t : Int) (la lb : List V5) (n m : Nat) (hn : Hid (la.length = n)) (hm : Hid (lb.length = m)) (hn4 : n ≤ 60) (hm4 : m ≤ 60) : ∃ (X : List V5) (N : Nat) (q : Int), X.length = N ∧ N ≤ 10000 ∧
    (∀ (a b : Option Addr) (ca cb : Nat) (w : World), n ≤ ca → m ≤ cb → Hid (Reads5 w a la) → Hid (Reads5 w b lb) → Calls Try.prog 20 #[.int .i64 t, .slice a n ca, .slice b m cb] w (RetX w X N q)) ∧
    (∀ (a b : Option Addr) (ca cb : Nat) (w : World), Hid (Reads5 w a la) → Hid (Reads5 w b lb) → Calls Try.prog 21 #[.int .i64 t, .slice a n ca, .slice b m cb] w (RetX w X N q)) := by
  obtain ⟨r, hr⟩ : ∃ r, chkA t [la, lb] = r := ⟨_, rfl⟩
  by_cases h0 : r = 0
  · subst h0
    obtain ⟨t1, t2, A, B, rfl, rfl, aA, aB, oA, oB⟩ := two_sets hr
    have hA : Hid (A.length = n) := Lib.hid (by rw [← hn.out, List.length_map])
    have hB : Hid (B.length = m) := Lib.hid (by rw [← hm.out, List.length_map])
    have e := meet_filt aA aB oA oB
    have hN : (mrg kM A B).length ≤ 10000 := by have h := mrg_len kM A B; rw [hA.out, hB.out] at h; omega
    refine ⟨(mrg kM A B).map pad5, _, 0, List.length_map _, hN, fun a b ca cb w c1 c2 ra rb => (pmeet_ok t a b n m ca cb A B w hA hB (by omega) (by omega) c1 c2 (Lib.hid oA) (Lib.hid oB) ra rb (Lib.hid hr) _ _ (Lib.hid rfl) (Lib.hid rfl)).mono fun e w' h => ?_,
      fun a b ca cb w ra rb => (rmeet_ok t a b n m ca cb _ _ w hn hm (by omega) (by omega) ra rb (Lib.hid hr)).mono fun e' w' h => ?_⟩
    · obtain ⟨p, cp, e1, r1, b1, _⟩ := h
      exact ⟨p, cp, e1, r1, b1⟩
    · obtain ⟨p, cp, N, e1, l1, r1, b1⟩ := h
      rw [e] at l1 r1
      rw [List.length_map] at l1
      subst l1
      exact ⟨p, cp, e1, r1, b1⟩
  · exact ⟨[], 0, r, rfl, by omega, fun a b ca cb w _ _ ra rb => (pmeet_bad t a b n m ca cb la lb w hn hm (by omega) (by omega) ra rb r (Lib.hid hr) (bne0 h0)).mono fun e w' h => retx_no h,
      fun a b ca cb w ra rb => (rmeet_bad t a b n m ca cb la lb w hn hm (by omega) (by omega) ra rb r (Lib.hid hr) (bne0 h0)).mono fun e w' h => retx_no h⟩
theorem less_pair (t : Int) (la lb : List V5) (n m : Nat) (hn : Hid (la.length = n)) (hm : Hid (lb.length = m)) (hn4 : n ≤ 60) (hm4 : m ≤ 60) : ∃ (X : List V5) (N : Nat) (q : Int), X.length = N ∧ N ≤ 10000 ∧
    (∀ (a b : Option Addr) (ca cb : Nat) (w : World), n ≤ ca → m ≤ cb → Hid (Reads5 w a la) → Hid (Reads5 w b lb) → Calls Try.prog 22 #[.int .i64 t, .slice a n ca, .slice b m cb] w (RetX w X N q)) ∧
    (∀ (a b : Option Addr) (ca cb : Nat) (w : World), Hid (Reads5 w a la) → Hid (Reads5 w b lb) → Calls Try.prog 23 #[.int .i64 t, .slice a n ca, .slice b m cb] w (RetX w X N q)) := by
  obtain ⟨r, hr⟩ : ∃ r, chkA t [la, lb] = r := ⟨_, rfl⟩
  by_cases h0 : r = 0
  · subst h0
    obtain ⟨t1, t2, A, B, rfl, rfl, aA, aB, oA, oB⟩ := two_sets hr
    have hA : Hid (A.length = n) := Lib.hid (by rw [← hn.out, List.length_map])
    have hB : Hid (B.length = m) := Lib.hid (by rw [← hm.out, List.length_map])
    have e := less_filt aA aB oA oB
    have hN : (mrg s14.kL A B).length ≤ 10000 := by have h := mrg_len s14.kL A B; rw [hA.out, hB.out] at h; omega
    refine ⟨(mrg s14.kL A B).map pad5, _, 0, List.length_map _, hN, fun a b ca cb w c1 c2 ra rb => (pless_ok t a b n m ca cb A B w hA hB (by omega) (by omega) c1 c2 (Lib.hid oA) (Lib.hid oB) ra rb (Lib.hid hr) _ _ (Lib.hid rfl) (Lib.hid rfl)).mono fun e w' h => ?_,
      fun a b ca cb w ra rb => (rless_ok t a b n m ca cb _ _ w hn hm (by omega) (by omega) ra rb (Lib.hid hr)).mono fun e' w' h => ?_⟩
    · obtain ⟨p, cp, e1, r1, b1, _⟩ := h
      exact ⟨p, cp, e1, r1, b1⟩
    · obtain ⟨p, cp, N, e1, l1, r1, b1⟩ := h
      rw [e] at l1 r1
      rw [List.length_map] at l1
      subst l1
      exact ⟨p, cp, e1, r1, b1⟩
  · exact ⟨[], 0, r, rfl, by omega, fun a b ca cb w _ _ ra rb => (pless_bad t a b n m ca cb la lb w hn hm (by omega) (by omega) ra rb r (Lib.hid hr) (bne0 h0)).mono fun e w' h => retx_no h,
      fun a b ca cb w ra rb => (rless_bad t a b n m ca cb la lb w hn hm (by omega) (by omega) ra rb r (Lib.hid hr) (bne0 h0)).mono fun e w' h => retx_no h⟩
theorem of_pair (t : Int) (la : List V5) (n : Nat) (hn : Hid (la.length = n)) (hn4 : n ≤ 60) : ∃ (X : List V5) (N : Nat) (q : Int), X.length = N ∧ N ≤ 10000 ∧
    (∀ (a : Option Addr) (ca : Nat) (w : World), Hid (Reads5 w a la) → Calls Try.prog 13 #[.int .i64 t, .slice a n ca] w (RetX w X N q)) ∧
    (∀ (a : Option Addr) (ca : Nat) (w : World), n ≤ ca → Hid (Reads5 w a la) → Calls Try.prog 14 #[.int .i64 t, .slice a n ca] w (RetX w X N q)) := by
  by_cases ht : t < 1 ∨ 8 < t
  · have h : ofP t la = 2 := by unfold ofP; rw [if_pos ht]
    refine ⟨[], 0, 2, rfl, by omega, fun a ca w ra => (pof_any t a n ca la w hn (by omega) ra 2 (Lib.hid h)).mono fun e w' h => ?_,
      fun a ca w hc ra => (rof_range t a n ca w ht).mono fun e w' h => retx_no h⟩
    obtain ⟨h1, hB⟩ := h
    rcases h1 with ⟨_, h1⟩ | ⟨h1, _⟩
    · exact retx_no ⟨h1, hB⟩
    · cases h1
  · obtain ⟨r, hr⟩ : ∃ r, chkOf t la = r := ⟨_, rfl⟩
    have h : ofP t la = r := by unfold ofP; rw [if_neg ht, if_neg (by rw [hn.out]; omega)]; exact hr
    by_cases h0 : r = 0
    · subst h0
      obtain ⟨L, rfl, oL⟩ := chkOf_look hr
      have hL : Hid (L.length = n) := Lib.hid (by rw [← hn.out, List.length_map])
      have hN : (setS L).length ≤ 10000 := by have h := setS_len L; rw [hL.out] at h; omega
      refine ⟨(setS L).map pad5, _, 0, List.length_map _, hN, fun a ca w ra => (pof_set t a n ca L w (by omega) (by omega) hL (by omega) (Lib.hid oL) ra _ _ (Lib.hid rfl) (Lib.hid rfl)).mono fun e w' h => ?_,
        fun a ca w hc ra => (rof_ok t a n ca L w (by omega) (by omega) hL (by omega) hc (Lib.hid oL) ra).mono fun e w' h => ?_⟩
      · obtain ⟨p, cp, e1, r1, b1, _⟩ := h
        exact ⟨p, cp, e1, r1, b1⟩
      · obtain ⟨p, cp, N, e1, l1, r1, b1⟩ := h
        subst l1
        exact ⟨p, cp, e1, r1, b1⟩
    · refine ⟨[], 0, r, rfl, by omega, fun a ca w ra => (pof_any t a n ca la w hn (by omega) ra r (Lib.hid h)).mono fun e w' h => ?_,
        fun a ca w hc ra => (rof_scan t a n ca la w (by omega) (by omega) hn (by omega) ra r (Lib.hid hr) (bne0 h0)).mono fun e w' h => retx_no h⟩
      obtain ⟨h1, hB⟩ := h
      rcases h1 with ⟨_, h1⟩ | ⟨h1, _⟩
      · exact retx_no ⟨h1, hB⟩
      · exact absurd h1 h0
theorem uni_pair (t : Int) (la lb : List V5) (n m : Nat) (hn : Hid (la.length = n)) (hm : Hid (lb.length = m)) (hn4 : n ≤ 60) (hm4 : m ≤ 60) : ∃ (X : List V5) (N : Nat) (q : Int), X.length = N ∧ N ≤ 10000 ∧
    (∀ (a b : Option Addr) (ca cb g : Nat) (T : TypeId) (w : World), w.heap[g]? = some (.cells #[.slice a n ca, .slice b m cb, .slice a n ca] T (0, 0)) → n ≤ ca → m ≤ cb → Hid (Reads5 w a la) → Hid (Reads5 w b lb) → Calls Try.prog 18 #[.int .i64 t, .slice (some ⟨g, 0, none⟩) 3 3] w (RetX w X N q)) ∧
    (∀ (a b : Option Addr) (ca cb g : Nat) (T : TypeId) (w : World), w.heap[g]? = some (.cells #[.slice a n ca, .slice b m cb, .slice a n ca] T (0, 0)) → n ≤ ca → m ≤ cb → Hid (Reads5 w a la) → Hid (Reads5 w b lb) → Calls Try.prog 19 #[.int .i64 t, .slice (some ⟨g, 0, none⟩) 3 3] w (RetX w X N q)) := by
  have HM : Hid (∀ i, i < [la, lb, la].length → ([la, lb, la][i]?.getD []).length ≤ 60000) := Lib.hid (fun i hi => by
    have h1 := hn.out
    have h2 := hm.out
    have : i = 0 ∨ i = 1 ∨ i = 2 := by simp at hi; omega
    rcases this with rfl | rfl | rfl
    · show la.length ≤ 60000; omega
    · show lb.length ≤ 60000; omega
    · show la.length ≤ 60000; omega)
  obtain ⟨r, hr⟩ : ∃ r, chkA t [la, lb, la] = r := ⟨_, rfl⟩
  by_cases h0 : r = 0
  · subst h0
    have hM := hr
    rw [chkA_M] at hM
    have ea := chkM_at hM la (by simp)
    have eb := chkM_at hM lb (by simp)
    obtain ⟨t1, t2, _⟩ := chkS_t ea
    obtain ⟨A, rfl, aA, oA⟩ := chkS_set ea
    obtain ⟨B, rfl, aB, oB⟩ := chkS_set eb
    have hA : Hid (A.length = n) := Lib.hid (by rw [← hn.out, List.length_map])
    have hB : Hid (B.length = m) := Lib.hid (by rw [← hm.out, List.length_map])
    have htot : totS [A, B, A] = n + m + n := by simp [totS, hA.out, hB.out]; omega
    have hok : Hid (∀ L ∈ [A, B, A], ∀ x ∈ L, okL 8 x) := Lib.hid (fun L hL => by
      simp at hL
      have hL : L = A ∨ L = B := by
        rcases hL with h | h | h
        · exact .inl h
        · exact .inr h
        · exact .inl h
      rcases hL with rfl | rfl
      · exact fun x hx => okL_mono (oA x hx) t2
      · exact fun x hx => okL_mono (oB x hx) t2)
    have hN : (uniS [A, B, A]).length ≤ 10000 := by have h := uni_len [A, B, A]; rw [htot] at h; omega
    refine ⟨(uniS [A, B, A]).map pad5, _, 0, List.length_map _, hN, fun a b ca cb g T w hg c1 c2 ra rb => (punion_ok t _ 3 3 [A, B, A] w (Lib.hid rfl) (by omega) (Lib.hid (by rw [htot]; omega)) (Lib.hid (gridc3 hg (mlen hA).out (mlen hB).out (mlen hA).out c1 c2 c1 ra.out rb.out ra.out)) (Lib.hid hr) hok _ _ (Lib.hid rfl) (Lib.hid rfl)).mono fun e w' h => ?_,
      fun a b ca cb g T w hg c1 c2 ra rb => (runion_ok t _ 3 3 [A, B, A] w t1 t2 (Lib.hid rfl) (by omega) (Lib.hid (by rw [htot]; omega)) (Lib.hid (gridc3 hg (mlen hA).out (mlen hB).out (mlen hA).out c1 c2 c1 ra.out rb.out ra.out)) (Lib.hid hM) hok).mono fun e w' h => ?_⟩
    · obtain ⟨p, cp, e1, r1, b1, _⟩ := h
      exact ⟨p, cp, e1, r1, b1⟩
    · obtain ⟨p, cp, N, e1, l1, r1, b1⟩ := h
      subst l1
      exact ⟨p, cp, e1, r1, b1⟩
  · refine ⟨[], 0, r, rfl, by omega, fun a b ca cb g T w hg c1 c2 ra rb => (punion_bad t _ 3 3 [la, lb, la] w (Lib.hid rfl) (by omega) HM (Lib.hid (gridc3 hg hn.out hm.out hn.out c1 c2 c1 ra.out rb.out ra.out).grid) r (Lib.hid hr) (bne0 h0)).mono fun e w' h => retx_no h,
      fun a b ca cb g T w hg c1 c2 ra rb => ?_⟩
    have hr2 := hr
    unfold chkA at hr2
    by_cases ht : t < 1 ∨ 8 < t
    · rw [if_pos ht] at hr2; subst hr2
      exact (runion_range t _ 3 3 w ht).mono fun e w' h => retx_no h
    · rw [if_neg ht] at hr2
      exact (runion_scan t _ 3 3 [la, lb, la] w (by omega) (by omega) (Lib.hid rfl) (by omega) HM (Lib.hid (gridc3 hg hn.out hm.out hn.out c1 c2 c1 ra.out rb.out ra.out).grid) r (Lib.hid hr2) (bne0 h0)).mono fun e w' h => retx_no h
theorem uni0_pair (t : Int) : ∃ (q : Int),
    (∀ (w : World), Calls Try.prog 18 #[.int .i64 t, .slice none 0 0] w (RetX w [] 0 q)) ∧
    (∀ (w : World), Calls Try.prog 19 #[.int .i64 t, .slice none 0 0] w (RetX w [] 0 q)) := by
  by_cases ht : t < 1 ∨ 8 < t
  · have h : chkA t [] = 2 := by unfold chkA; rw [if_pos ht]
    exact ⟨2, fun w => (punion_bad t none 0 0 [] w (Lib.hid rfl) (by omega) (Lib.hid (fun i hi => by simp at hi)) (Lib.hid (gridc_none w).grid) 2 (Lib.hid h) (by rfl)).mono fun e w' h => retx_no h,
      fun w => (runion_range t none 0 0 w ht).mono fun e w' h => retx_no h⟩
  · have h : chkA t (pad2 []) = 0 := by unfold chkA; rw [if_neg ht]; rfl
    refine ⟨0, fun w => (punion_ok t none 0 0 [] w (Lib.hid rfl) (by omega) (Lib.hid (by simp [totS])) (Lib.hid (gridc_none w)) (Lib.hid h) (Lib.hid (fun L hL => by cases hL)) [] 0 (Lib.hid rfl) (Lib.hid rfl)).mono fun e w' h => ?_,
      fun w => (runion_ok t none 0 0 [] w (by omega) (by omega) (Lib.hid rfl) (by omega) (Lib.hid (by simp [totS])) (Lib.hid (gridc_none w)) (Lib.hid rfl) (Lib.hid (fun L hL => by cases hL))).mono fun e w' h => ?_⟩
    · obtain ⟨p, cp, e1, r1, b1, _⟩ := h
      exact ⟨p, cp, e1, r1, b1⟩
    · obtain ⟨p, cp, N, e1, l1, r1, b1⟩ := h
      subst l1
      exact ⟨p, cp, e1, r1, b1⟩
theorem least_pair (t : Int) (la : List V5) (n : Nat) (hn : Hid (la.length = n)) (hn4 : n ≤ 60) : ∃ (x0 x1 x2 x3 x4 q : Int),
    (∀ (a : Option Addr) (ca : Nat) (w : World), Hid (Reads5 w a la) → Calls Try.prog 24 #[.int .i64 t, .slice a n ca] w fun e w' => e = .returned (.tuple #[.agg #[.int .i64 x0, .int .i64 x1, .int .i64 x2, .int .i64 x3, .int .i64 x4], .int .i64 q]) ∧ Below w.heap.size w w') ∧
    (∀ (a : Option Addr) (ca : Nat) (w : World), Hid (Reads5 w a la) → Calls Try.prog 25 #[.int .i64 t, .slice a n ca] w fun e w' => e = .returned (.tuple #[.agg #[.int .i64 x0, .int .i64 x1, .int .i64 x2, .int .i64 x3, .int .i64 x4], .int .i64 q]) ∧ Below w.heap.size w w') := by
  obtain ⟨r, hr⟩ : ∃ r, chkS t la = r := ⟨_, rfl⟩
  by_cases h0 : r = 0
  · subst h0
    obtain ⟨t1, t2, _⟩ := chkS_t hr
    rcases la with _ | ⟨⟨x0, x1, x2, x3, x4⟩, l⟩
    · obtain rfl : n = 0 := hn.out.symm
      exact ⟨0, 0, 0, 0, 0, 20, fun a ca w _ => pleast_none t a ca w t1 t2, fun a ca w _ => rleast_none t a ca w t1 t2⟩
    · exact ⟨x0, x1, x2, x3, x4, 0, fun a ca w ra => pleast_ok t a n ca _ l w hn (by omega) ra (Lib.hid hr), fun a ca w ra => rleast_ok t a n ca _ l w hn (by omega) ra (Lib.hid hr)⟩
  · exact ⟨0, 0, 0, 0, 0, r, fun a ca w ra => pleast_bad t a n ca la w hn (by omega) ra r (Lib.hid hr) (bne0 h0), fun a ca w ra => rleast_bad t a n ca la w hn (by omega) ra r (Lib.hid hr) (bne0 h0)⟩
end Go.Proofs.Ytdahaajfkjmflaa.s14
