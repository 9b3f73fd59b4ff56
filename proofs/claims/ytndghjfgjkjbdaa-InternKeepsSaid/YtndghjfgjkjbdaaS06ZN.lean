/-
  Layer 6: InternKeeps's contract.
-/
import Derived.Test.YtndghjfgjkjbdaaS06ZP
import Derived.Deep.Cut
import Derived.Deep.CutRange
import Derived.Deep.RegionHeld3
import Derived.Deep.DrawnRows
namespace Go.Proofs.Ytndghjfgjkjbdaa.s06
set_option linter.unusedVariables false
set_option linter.unusedSimpArgs false
open Go.RowKit Go.WideMaps Go.Maps
open kit

theorem step_append4 {T E : TypeId} {z : Value} {bytes : Nat} (hT : Try.prog.underlying T = some (.slice E)) (hE : (Try.prog.info? E).map (fun i => (i.zero, i.size, i.bytes)) = some (some z, 1, bytes)) (hzc : z.cells.size = 1) (hby : bytes ≤ 1000)
    {w : World} {ops : Array Oper} {o : Oper} {a : Act} {K : Act → World → Prop} {Q : Exit → Act → World → Prop} {EE : Prop}
    (hg : o.guard = none) (s x : Operand) (hop : o.op = Op.call { callee := Callee.builtin Builtin.append, args := #[s, x], argTypes := #[T, T] })
    (base : Nat) (v : Value) (k : Nat) (xs : List Value) (hs : a.eval s = v) (hown : w.ownsRow base E 1 v k xs) (src : Option Addr) (vs : List Value) (n c : Nat) (hx : a.eval x = .slice src n c) (hn : vs.length = n) (hsrc : Src w src c vs) (h1 : ∀ u ∈ vs, u.oneCell' = true)
    (hk : k + n ≤ 1000000) (hb : base ≤ w.heap.size)
    (hK : ∀ v' w', w'.ownsRow base E 1 v' (k + n) (xs ++ vs) → w.grownBy w' v.ownBlock → K (a.put o.dst v') w') :
    if Region.wanted o (yielded ops a.tmps) = true then Oper.wp Try.prog o a w K Q else EE := by
  obtain ⟨i0, hi, hz0, hz1, hz2⟩ := info_parts hE
  subst hn
  have hw : Region.wanted o (yielded ops a.tmps) = true := by simp [Region.wanted, hg]
  rw [if_pos hw]
  rcases hsrc with ⟨rfl, rfl, rfl⟩ | ⟨ad, rfl, hc⟩
  · have hrun := run_append_owned_none (P := Try.prog) (w := w) base T o.type E i0 1 hT hi v k xs hown
    unfold Oper.wp
    simp [execOp, hop, resolve, invoke, builtin, hs, hx, hrun, Result.andThen]
    exact hK v w (by simpa using hown) (World.grownBy.refl w _)
  · have hbs : (k + vs.length) * bytes ≤ 140737488355328 := by
      have : (k + vs.length) * bytes ≤ 1000000 * 1000 := Nat.mul_le_mul hk hby
      omega
    obtain ⟨v', w', hrun, h2, h3, _⟩ := run_append_own (P := Try.prog) w base T o.type E i0 z 1 bytes hT hi hz0 hz1 hz2 hzc (by decide) v k xs hown ad vs.length c vs (by simp) hc h1 (by unfold maxLen; omega) hbs hb
    unfold Oper.wp
    simp [execOp, hop, resolve, invoke, builtin, hs, hx, hrun, Result.andThen]
    exact hK v' w' h2 h3
theorem src_drop {W : World} {g : Nat} {l : List Int} (h : ReadsI W (some ⟨g, 0, none⟩) l) (t c : Nat) : Src W (some ⟨g, t, none⟩) c ((l.drop t).map (Value.int .i64)) := by
  refine .inr ⟨_, rfl, fun j u hu => ?_⟩
  have hj : j < (l.drop t).length := by
    have := (List.getElem?_eq_some_iff.1 hu).1
    simpa using this
  have hj2 : t + j < l.length := by rw [List.length_drop] at hj; omega
  obtain ⟨b, off, e, _, hc⟩ := h (t + j) hj2
  cases e
  rw [List.getElem?_map, List.getElem?_drop, List.getElem?_eq_getElem hj2] at hu
  rw [List.getElem?_eq_getElem hj2, Nat.zero_add] at hc
  cases hu
  rw [Go.WideShapes.add_plain]
  exact hc
theorem src_take {W : World} {g : Nat} {l : List Int} (h : ReadsI W (some ⟨g, 0, none⟩) l) (t c : Nat) : Src W (some ⟨g, 0, none⟩) c ((l.take t).map (Value.int .i64)) := by
  refine .inr ⟨_, rfl, fun j u hu => ?_⟩
  have hj : j < (l.take t).length := by
    have := (List.getElem?_eq_some_iff.1 hu).1
    simpa using this
  have hj2 : j < l.length ∧ j < t := by rw [List.length_take] at hj; omega
  obtain ⟨b, off, e, _, hc⟩ := h j hj2.1
  cases e
  rw [List.getElem?_map, List.getElem?_take_of_lt hj2.2, List.getElem?_eq_getElem hj2.1] at hu
  rw [List.getElem?_eq_getElem hj2.1] at hc
  cases hu
  rw [Go.WideShapes.add_plain]
  exact hc
theorem one_ints (l : List Int) : ∀ u ∈ l.map (Value.int .i64), u.oneCell' = true := by
  intro u hu
  obtain ⟨x, _, rfl⟩ := List.mem_map.mp hu
  rfl
set_option maxRecDepth 100000 in
set_option maxHeartbeats 8000000 in
theorem keeps_law (a : Option Addr) (cap : Nat) (nums : List Int) (at0 : Int) (w : World) (hn : nums.length ≤ 9223372036854775807) (hz : Hid (∀ z ∈ nums, -9223372036854775808 ≤ z ∧ z ≤ 9223372036854775807)) (hr : Hid (ReadsI w a nums)) (ha1 : -9223372036854775808 ≤ at0) (ha2 : at0 ≤ 9223372036854775807) :
    Calls Try.prog 8 #[.slice a nums.length cap, .int .i64 at0] w fun e w' => e = .returned (.bool true) ∧ Below w.heap.size w w' := by
  obtain ⟨L, hL⟩ : ∃ L, madeN nums = L := ⟨_, rfl⟩
  have mL := mk_made nums
  rw [hL] at mL
  have hlen := mL.len
  have ML := Lib.hid mL
  have HL := Lib.hid hL
  obtain ⟨n, hnn⟩ : ∃ n, L.length = n := ⟨_, rfl⟩
  have HNN := Lib.hid hnn
  have hn20 : n ≤ 20 := by omega
  have ht1 := Int.emod_lt_of_pos at0 (show (0 : Int) < (n : Int) + 1 by omega)
  have ht2 := Int.emod_nonneg at0 (show ((n : Int) + 1) ≠ 0 by omega)
  obtain ⟨t, ht⟩ := Int.eq_ofNat_of_zero_le ht2
  have htn : t ≤ n := by omega
  have HT := Lib.hid ht
  clear mL hL hnn ht ht1 ht2 hlen
  go_enter Try.func8, Try.ntmps8
  go_wp2_with (first
    | (go_at_call 5; refine (known_any _).mono ?_; rintro e w1 ⟨rfl, hB⟩; have B1 := Lib.hid hB; have R1 := Lib.hid (hr.out.below hB); clear hB)
    | (go_at_call 38; refine (lmade_any a cap nums _ hn hz R1).mono ?_; rintro e w2 ⟨va, vk, rfl, hR, hB⟩; rw [HL.out] at hR ⊢; rw [HNN.out]; have KK := (Below.refl w2.heap.size w2).alloc (Nat.le_refl _) (.cells #[.slice va n vk] 24); have T2 := Lib.hid (Box.new w2 24 #[.slice va n vk]); have V2 := Lib.hid (hR.below KK); have B2 := Lib.hid (below_then B1.out (hB.trans (KK.mono hB.size))); clear hB hR KK; have t0 := T2.out.cell 0))
  generalize w2.alloc (.cells #[.slice va n vk] 24) = w3 at T2 V2 B2 t0 ⊢
  generalize w2.heap.size = bt at *
  clear t0
  go_loopw [13, 9] (fun i x9 wr => ∃ (k : Nat) (ra : Option Addr) (rk : Nat), k ≤ n ∧ i = .int .i64 k ∧ x9 = .slice ra k rk ∧ Hid (wr.ownsRow w3.heap.size 3 1 (.slice ra k rk) k ((upI k).map (Value.int .i64))) ∧ Hid (Below w3.heap.size w3 wr)) (fun i _ _ => n - (intOf i).toNat)
  case atStart => exact ⟨0, none, 0, by omega, rfl, rfl, Lib.hid (World.ownsRow_nil _ _ _ _), Lib.hid (Below.refl _ _)⟩
  case round =>
    obtain ⟨k, ra, rk, hk, rfl, rfl, RK, B⟩ := hrel
    have hsz := B.out.size
    by_cases hkl : k < n
    · have KK := (Below.refl wr.heap.size wr).alloc (Nat.le_refl _) (.cells #[.int .i64 (k : Int)] 3)
      have R3 := Lib.hid (row_below RK.out KK)
      have B3 := Lib.hid (below_then B.out KK)
      have Z3 := Lib.hid (Nat.le_trans hsz KK.size)
      have SRC : Hid (∀ (j : Nat) u, [Value.int .i64 (k : Int)][j]? = some u → (wr.alloc (.cells #[.int .i64 (k : Int)] 3)).cell? ((⟨wr.heap.size, 0, none⟩ : Addr).add j) = some u) := Lib.hid (by
        have h := src_one wr (.int .i64 (k : Int)) 3
        rcases h with ⟨h, _⟩ | ⟨x, h, hc⟩
        · cases h
        · cases h; exact hc)
      clear KK
      go_wp2_with (at_builtin; refine append_in2 Try.underlying41 info3 rfl (by omega) rfl (.tmp 39) (.tmp 41) rfl w3.heap.size _ k ((upI k).map (Value.int .i64)) rfl R3.out ⟨wr.heap.size, 0, none⟩ [.int .i64 (k : Int)] 1 1 rfl rfl SRC.out (by simp [Value.oneCell']) (by omega) Z3.out ?_; intro v4 wA hv4 hgA; obtain ⟨a4, k4, rfl⟩ := row_shape hv4; have B4 := Lib.hid (B3.out.trans (below_grown (Below.refl w3.heap.size _) R3.out hgA Z3.out)); have R4 := Lib.hid hv4; clear hv4 hgA)
      go_roundw
      case rel => exact ⟨k + 1, a4, k4, by omega, by go_num, rfl, Lib.hid (by rw [upI_snoc, List.map_append]; exact R4.out), B4⟩
      case measure => simp [intOf]; omega
    · have hk2 : k = n := by omega
      subst hk2
      have T4 := Lib.hid (T2.out.below B.out)
      have V4 := Lib.hid (V2.out.below B.out)
      have B4 := Lib.hid (below_then B2.out B.out)
      have hn1 : IntKind.i64.wrap ((k : Int) + 1) = (k : Int) + 1 := IntWalk.i64_in _ (by omega)
      go_wp2_with (go_at_call 39; refine (mod_any at0 ((k : Int) + 1) ha1 ha2 (by omega) (by omega) _).mono ?_; rintro e w9 ⟨rfl, rfl⟩; rw [HT.out])
      have hd : Below wr.heap.size wr (wr.alloc (.cells #[] 3)).drew := ((Below.refl _ _).alloc (Nat.le_refl _) _).drew
      have ER : Hid ((wr.alloc (.cells #[] 3)).drew.ownsRow wr.heap.size 3 1 (.slice (some ⟨wr.heap.size, 0, none⟩) 0 0) 0 []) := Lib.hid (empty_row 3 wr wr.heap.size (Nat.le_refl _))
      have T5 := Lib.hid (T4.out.below hd)
      have RAw : ReadsI wr ra (upI k) := reads_of_row (upI_len k) RK.out
      have RA5 := Lib.hid (RAw.below hd)
      have tl := T4.out.lt
      have D5 := Lib.hid hd
      clear hd
      have h0t : (0 : Int) ≤ (t : Int) := by omega
      have htk : (t : Int) ≤ (k : Int) := by omega
      go_upto_region 12 with fail
      go_cut [10] from 43 to 140 (fun s10 wx => ∃ (qa : Option Addr) (qk : Nat), s10 = .slice qa k qk ∧ Hid (wx.ownsRow wr.heap.size 3 1 (.slice qa k qk) k ((turnI k t).map (Value.int .i64))) ∧ Hid (Below wr.heap.size wr wx))
      case first =>
        have ER0 := ER
        rcases RK.out.2 with ⟨hv, hk0⟩ | ⟨g, cp, cur, hv, hbg, hgb, hle, _⟩
        · simp only [Value.slice.injEq] at hv
          obtain ⟨rfl, _, rfl⟩ := hv
          subst hk0
          obtain rfl : t = 0 := by omega
          have t0 := T4.out.cell 0
          go_region_held3 (fun w' => w'.cell? ⟨bt, 0, none⟩ = some (.slice va 0 vk))
            (first | go_keep | exact G6.out | exact G7.out)
            (first
              | ((refine step_append4 Try.underlying41 info3 rfl (by omega) (by rfl) _ _ (by rfl) wr.heap.size _ 0 [] (by rfl) ER.out none (((upI 0).drop 0).map (Value.int .i64)) 0 0 (by first | rfl | (simp [Act.eval, Act.put]; omega)) (by simp [upI_len]) (.inl ⟨rfl, rfl, rfl⟩) (one_ints _) (by omega) (by simp) ?_; intro v6 w6 hv6 hg6; clear ER; have T6 := Lib.hid (Box.grownRow T5.out ER0.out hg6 (by decide)); have HV6 := Lib.hid hv6; have B6 := Lib.hid (below_grown (Below.refl wr.heap.size _) ER0.out hg6 (by simp)); have G6 : Hid (w6.cell? ⟨bt, 0, none⟩ = some (.slice va 0 vk)) := Lib.hid (T6.out.cell 0); have Z6 := hg6.size; have RB6 := Lib.hid (RAw.below (D5.out.trans B6.out)); clear hv6 hg6))
              | ((refine step_append4 Try.underlying41 info3 rfl (by omega) (by rfl) _ _ (by rfl) wr.heap.size _ (0 + 0) ([] ++ (((upI 0).drop 0).map (Value.int .i64))) (by rfl) HV6.out none (((upI 0).take 0).map (Value.int .i64)) 0 0 (by first | rfl | (simp [Act.eval, Act.put]; omega)) (by simp [upI_len] <;> omega) (.inl ⟨rfl, rfl, rfl⟩) (one_ints _) (by omega) (Nat.le_trans (by simp) Z6) ?_; intro v7 w7 hv7 hg7; have T7 := Lib.hid (Box.grownRow T6.out HV6.out hg7 (by decide)); have G7 : Hid (w7.cell? ⟨bt, 0, none⟩ = some (.slice va 0 vk)) := Lib.hid (T7.out.cell 0); have B7 : Hid (Below wr.heap.size wr w7) := Lib.hid ((D5.out.trans B6.out).trans (below_grown (Below.refl wr.heap.size _) HV6.out hg7 (Nat.le_trans (by simp) Z6))); have HV7 := Lib.hid hv7; clear hv7 hg7)))
          all_goals
            go_wp2_with fail
            go_meet
            have hrow := HV7.out
            rw [List.nil_append, ← List.map_append, show 0 + 0 + 0 = 0 by omega] at hrow
            obtain ⟨qa, qk, rfl⟩ := row_shape hrow
            exact ⟨qa, qk, rfl, Lib.hid hrow, B7⟩
        · simp only [Value.slice.injEq] at hv
          obtain ⟨rfl, _, rfl⟩ := hv
          have hkr : (k : Int) ≤ (rk : Int) := by omega
          have htr : (t : Int) ≤ (rk : Int) := by omega
          have t0 := T4.out.cell 0
          by_cases hrt : rk = t
          · have htk2 : t = k := by omega
            subst htk2
            subst hrt
            go_region_held3 (fun w' => w'.cell? ⟨bt, 0, none⟩ = some (.slice va rk vk))
              (first | go_keep | exact G6.out | exact G7.out)
              (first
                | ((refine step_append4 Try.underlying41 info3 rfl (by omega) (by rfl) _ _ (by rfl) wr.heap.size _ 0 [] (by rfl) ER.out (some ⟨g, 0, none⟩) (((upI rk).drop rk).map (Value.int .i64)) 0 0 (by first | rfl | (simp [Act.eval, Act.put]; omega)) (by simp [upI_len]) (by rw [List.drop_eq_nil_of_le (by rw [upI_len]; omega)]; exact .inr ⟨_, rfl, fun j u hu => by simp at hu⟩) (one_ints _) (by omega) (by simp) ?_; intro v6 w6 hv6 hg6; clear ER; have T6 := Lib.hid (Box.grownRow T5.out ER0.out hg6 (by decide)); have HV6 := Lib.hid hv6; have B6 := Lib.hid (below_grown (Below.refl wr.heap.size _) ER0.out hg6 (by simp)); have G6 : Hid (w6.cell? ⟨bt, 0, none⟩ = some (.slice va rk vk)) := Lib.hid (T6.out.cell 0); have Z6 := hg6.size; have RB6 := Lib.hid (RAw.below (D5.out.trans B6.out)); clear hv6 hg6))
                | ((refine step_append4 Try.underlying41 info3 rfl (by omega) (by rfl) _ _ (by rfl) wr.heap.size _ (0 + 0) ([] ++ (((upI rk).drop rk).map (Value.int .i64))) (by rfl) HV6.out (some ⟨g, 0, none⟩) (((upI rk).take rk).map (Value.int .i64)) rk rk (by first | rfl | (simp [Act.eval, Act.put]; omega)) (by simp [upI_len] <;> omega) (src_take RB6.out rk _) (one_ints _) (by omega) (Nat.le_trans (by simp) Z6) ?_; intro v7 w7 hv7 hg7; have T7 := Lib.hid (Box.grownRow T6.out HV6.out hg7 (by decide)); have G7 : Hid (w7.cell? ⟨bt, 0, none⟩ = some (.slice va rk vk)) := Lib.hid (T7.out.cell 0); have B7 : Hid (Below wr.heap.size wr w7) := Lib.hid ((D5.out.trans B6.out).trans (below_grown (Below.refl wr.heap.size _) HV6.out hg7 (Nat.le_trans (by simp) Z6))); have HV7 := Lib.hid hv7; clear hv7 hg7)))
            all_goals
              go_wp2_with fail
              go_meet
              have hrow := HV7.out
              rw [List.nil_append, ← List.map_append, show 0 + 0 + rk = rk by omega] at hrow
              obtain ⟨qa, qk, rfl⟩ := row_shape hrow
              exact ⟨qa, qk, rfl, Lib.hid hrow, B7⟩
          · go_region_held3 (fun w' => w'.cell? ⟨bt, 0, none⟩ = some (.slice va k vk))
              (first | go_keep | exact G6.out | exact G7.out)
              (first
                | ((refine step_append4 Try.underlying41 info3 rfl (by omega) (by rfl) _ _ (by rfl) wr.heap.size _ 0 [] (by rfl) ER.out (some ⟨g, t, none⟩) (((upI k).drop t).map (Value.int .i64)) (k - t) (rk - t) (by first | rfl | (simp [Act.eval, Act.put]; omega)) (by simp [upI_len]) (src_drop RA5.out t _) (one_ints _) (by omega) (by simp) ?_; intro v6 w6 hv6 hg6; clear ER; have T6 := Lib.hid (Box.grownRow T5.out ER0.out hg6 (by decide)); have HV6 := Lib.hid hv6; have B6 := Lib.hid (below_grown (Below.refl wr.heap.size _) ER0.out hg6 (by simp)); have G6 : Hid (w6.cell? ⟨bt, 0, none⟩ = some (.slice va k vk)) := Lib.hid (T6.out.cell 0); have Z6 := hg6.size; have RB6 := Lib.hid (RAw.below (D5.out.trans B6.out)); clear hv6 hg6))
                | ((refine step_append4 Try.underlying41 info3 rfl (by omega) (by rfl) _ _ (by rfl) wr.heap.size _ (0 + (k - t)) ([] ++ (((upI k).drop t).map (Value.int .i64))) (by rfl) HV6.out (some ⟨g, 0, none⟩) (((upI k).take t).map (Value.int .i64)) t rk (by first | rfl | (simp [Act.eval, Act.put]; omega)) (by simp [upI_len] <;> omega) (src_take RB6.out t _) (one_ints _) (by omega) (Nat.le_trans (by simp) Z6) ?_; intro v7 w7 hv7 hg7; have T7 := Lib.hid (Box.grownRow T6.out HV6.out hg7 (by decide)); have G7 : Hid (w7.cell? ⟨bt, 0, none⟩ = some (.slice va k vk)) := Lib.hid (T7.out.cell 0); have B7 : Hid (Below wr.heap.size wr w7) := Lib.hid ((D5.out.trans B6.out).trans (below_grown (Below.refl wr.heap.size _) HV6.out hg7 (Nat.le_trans (by simp) Z6))); have HV7 := Lib.hid hv7; clear hv7 hg7)))
            all_goals
              go_wp2_with fail
              go_meet
              have hrow := HV7.out
              rw [List.nil_append, ← List.map_append, show 0 + (k - t) + t = k by omega] at hrow
              obtain ⟨qa, qk, rfl⟩ := row_shape hrow
              exact ⟨qa, qk, rfl, Lib.hid hrow, B7⟩
      case rest =>
        obtain ⟨qa, qk, rfl, HQ, BQ⟩ := hcut
        have T6 := Lib.hid (T4.out.below BQ.out)
        have V6 := Lib.hid (V4.out.below BQ.out)
        have RA6 := Lib.hid (RAw.below BQ.out)
        have RQ6 : Hid (ReadsI wc qa (turnI k t)) := Lib.hid (reads_of_row (turnI_len htn) HQ.out)
        have B6 := Lib.hid (below_then B4.out BQ.out)
        clear HQ BQ T4 V4 B4 T5 ER RA5 D5 hn1 RK B RAw T2 V2 B2
        obtain ⟨KT, hKT, hKL, hKo, hKs, hKm, hKe⟩ := keep_turn ML.out HNN.out htn
        have HKT := Lib.hid hKT
        have HKL := Lib.hid hKL
        have HSK := Lib.hid hKs
        have HKM := Lib.hid hKm
        have HKE0 := Lib.hid hKe
        have HKA := Lib.hid (keep_all ML.out HNN.out)
        have HUL := Lib.hid (upI_len k)
        have HTL := Lib.hid (turnI_len htn)
        have HSL := Lib.hid (u_small ML.out.sub)
        clear hKT hKL hKo hKs hKm hKe
        go_wp2_with fail
        go_loopw [14, 11, 12] (fun i x11 x12 wr2 => ∃ (m j : Nat) (r1 : Option Addr) (c1 : Nat) (r2 : Option Addr) (c2 : Nat), Hid (j = 2 * m) ∧ j ≤ k + 1 ∧ i = .int .i64 j ∧ x11 = .slice r1 m c1 ∧ x12 = .slice r2 m c2 ∧ Hid (Off (.slice r1 m c1) (.slice r2 m c2)) ∧ Hid (wr2.ownsRow wc.heap.size 3 1 (.slice r1 m c1) m ((evI m).map (Value.int .i64))) ∧ Hid (wr2.ownsRow wc.heap.size 3 1 (.slice r2 m c2) m ((boI k t m).map (Value.int .i64))) ∧ Hid (Below wc.heap.size wc wr2)) (fun i _ _ _ => k + 2 - (intOf i).toNat)
        case atStart => exact ⟨0, 0, none, 0, none, 0, Lib.hid rfl, by omega, rfl, rfl, rfl, Lib.hid (Off.nil _), Lib.hid (World.ownsRow_nil _ _ _ _), Lib.hid (World.ownsRow_nil _ _ _ _), Lib.hid (Below.refl _ _)⟩
        case round =>
          obtain ⟨m, j, r1, c1, r2, c2, HJ, hjk, rfl, rfl, rfl, HO, RS, RO, BW⟩ := hrel
          have hsz2 := BW.out.size
          have hm20 : m ≤ 20 := by have := HJ.out; omega
          by_cases hjl : j < k
          · obtain ⟨qb, qo, hqa, _, _⟩ := RQ6.out j (by rw [HTL.out]; exact hjl)
            subst hqa
            obtain ⟨z, hz⟩ : ∃ z, z = (turnI k t)[j]?.getD 0 := ⟨_, rfl⟩
            have HZ := Lib.hid hz
            clear hz
            have KK := (Below.refl wr.heap.size wr).alloc (Nat.le_refl _) (.cells #[.int .i64 (j : Int)] 3)
            have RS3 := Lib.hid (row_below RS.out KK)
            have RO3 := Lib.hid (row_below RO.out KK)
            have B3 := Lib.hid (below_then BW.out KK)
            have Z3 := Lib.hid (Nat.le_trans hsz2 KK.size)
            have SRC : Hid (∀ (j2 : Nat) u, [Value.int .i64 (j : Int)][j2]? = some u → (wr.alloc (.cells #[.int .i64 (j : Int)] 3)).cell? ((⟨wr.heap.size, 0, none⟩ : Addr).add j2) = some u) := Lib.hid (cell_one_new _ _ _)
            clear KK
            go_wp2_with (at_builtin; first
              | (refine append_at2 Try.underlying41 info3 rfl (by omega) rfl (.tmp 61) (.tmp 63) rfl wc.heap.size _ m ((evI m).map (Value.int .i64)) rfl RS3.out ⟨wr.heap.size, 0, none⟩ [.int .i64 (j : Int)] 1 1 rfl rfl SRC.out (by simp [Value.oneCell']) (by omega) Z3.out ?_; intro v4 wA hv4 hgA hat; obtain ⟨a4, k4, rfl⟩ := row_shape hv4; have B4 := Lib.hid (B3.out.trans (below_grown (Below.refl wc.heap.size _) RS3.out hgA Z3.out)); have RS4 := Lib.hid hv4; have RO4 := Lib.hid (HO.out.row RO3.out hgA); have HO4 := Lib.hid (HO.out.next RO3.out hat); have Z4 := Lib.hid B4.out.size; clear hv4 hgA hat; obtain ⟨d2, o2, hb2, _, hc2⟩ := (RQ6.out.below B4.out) j (by rw [HTL.out]; exact hjl); cases hb2; rw [← HZ.out] at hc2; have KK := (Below.refl wA.heap.size wA).alloc (Nat.le_refl _) (.cells #[.int .i64 z] 3); have RS5 := Lib.hid (row_below RS4.out KK); have RO5 := Lib.hid (row_below RO4.out KK); have B5 := Lib.hid (below_then B4.out KK); have Z5 := Lib.hid (Nat.le_trans Z4.out KK.size); have SRC5 : Hid (∀ (j2 : Nat) u, [Value.int .i64 z][j2]? = some u → (wA.alloc (.cells #[.int .i64 z] 3)).cell? ((⟨wA.heap.size, 0, none⟩ : Addr).add j2) = some u) := Lib.hid (cell_one_new _ _ _); clear KK RS3 RO3 B3 Z3 SRC)
              | (refine append_at2 Try.underlying41 info3 rfl (by omega) rfl (.tmp 65) (.tmp 70) rfl wc.heap.size _ m ((boI k t m).map (Value.int .i64)) rfl RO5.out ⟨wA.heap.size, 0, none⟩ [.int .i64 z] 1 1 rfl rfl SRC5.out (by simp [Value.oneCell']) (by omega) Z5.out ?_; intro v6 wB hv6 hgB hat; obtain ⟨a6, k6, rfl⟩ := row_shape hv6; have B6b := Lib.hid (B5.out.trans (below_grown (Below.refl wc.heap.size _) RO5.out hgB Z5.out)); have RO6 := Lib.hid hv6; have RS6 := Lib.hid (HO4.out.symm.row RS5.out hgB); have HO6 := Lib.hid (HO4.out.symm.next RS5.out hat).symm; clear hv6 hgB hat))
            go_roundw
            case rel => exact ⟨m + 1, j + 2, a4, k4, a6, k6, Lib.hid (by have := HJ.out; omega), by omega, by go_num, rfl, rfl, HO6, Lib.hid (by rw [evI_snoc, List.map_append, ← HJ.out]; exact RS6.out), Lib.hid (by rw [boI_snoc, List.map_append, ← HJ.out, ← HZ.out]; exact RO6.out), B6b⟩
            case measure => simp [intOf]; omega
          · have hm2 : 2 * m ≤ k + 1 := by have := HJ.out; omega
            obtain ⟨C, hC1, hC2, hC3⟩ := HKM.out m hm2
            have HKE := Lib.hid hC1
            have HKB := Lib.hid hC2
            have HCL := Lib.hid hC3
            have HEL := Lib.hid (evI_len m)
            have HBL := Lib.hid (boI_len k t m)
            have HEQ : Hid (eqB L L = true) := Lib.hid (decide_eq_true rfl)
            have T8 := Lib.hid (T6.out.below BW.out)
            have V8 := Lib.hid (V6.out.below BW.out)
            have RA8 := Lib.hid (RA6.out.below BW.out)
            have RQ8 := Lib.hid (RQ6.out.below BW.out)
            have B8 := Lib.hid (below_then B6.out BW.out)
            have RS8 : Hid (ReadsI wr r1 (evI m)) := Lib.hid (reads_of_row (evI_len m) RS.out)
            have RO8 : Hid (ReadsI wr r2 (boI k t m)) := Lib.hid (reads_of_row (boI_len k t m) RO.out)
            have h9 : k ≤ 100 := by omega
            have h8 : m ≤ 100 := by omega
            have h99 : k ≤ 100 ∧ k ≤ 100 := ⟨h9, h9⟩
            have h9m : k ≤ 100 ∧ m ≤ 100 := ⟨h9, h8⟩
            have c10 := T8.out.cell 0
            clear hC1 hC2 hC3 T6 V6 RA6 RQ6 B6 RS RO BW HO HKM HJ
            by_cases hA : t = 0
            · have HRR : Hid (eqB KT L = true) := Lib.hid (by rw [HKE0.out]; exact decide_eq_true (.inl hA))
              have e0 : ((t : Int) == 0) = true := by rw [beq_iff_eq]; omega
              clear HKE0 hA
              go_wp2_with (first
                  | (go_at_call 29; (refine (keep_w va ra vk rk L (upI k) L k k k _ HNN HUL HNN h99 HSL V8 RA8 HKA).mono ?_); rintro e w11 ⟨a11, k11, rfl, hR, hB⟩; have KK := (Below.refl w11.heap.size w11).alloc (Nat.le_refl _) (.cells #[.slice a11 k k11] 24); have hB2 := hB.trans (KK.mono hB.size); have T_1 := Lib.hid (T8.out.below hB2); have V_1 := Lib.hid (V8.out.below hB2); have RA_1 := Lib.hid (RA8.out.below hB2); have RQ_1 := Lib.hid (RQ8.out.below hB2); have RS_1 := Lib.hid (RS8.out.below hB2); have RO_1 := Lib.hid (RO8.out.below hB2); have B_1 := Lib.hid (below_then B8.out hB2); have R1_1 := Lib.hid (hR.below KK); have C1_1 := Lib.hid (Box.new w11 24 #[.slice a11 k k11]); clear T8 V8 RA8 RQ8 RS8 RO8 B8 hB hB2 KK; have c11 := T_1.out.cell 0)
                  | (go_at_call 29; (refine (keep_w va qa vk qk L (turnI k t) KT k k k _ HNN HTL HKL h99 HSL V_1 RQ_1 HKT).mono ?_); rintro e w12 ⟨a12, k12, rfl, hR, hB⟩; have KK := (Below.refl w12.heap.size w12).alloc (Nat.le_refl _) (.cells #[.slice a12 k k12] 24); have hB2 := hB.trans (KK.mono hB.size); have T_2 := Lib.hid (T_1.out.below hB2); have V_2 := Lib.hid (V_1.out.below hB2); have RA_2 := Lib.hid (RA_1.out.below hB2); have RQ_2 := Lib.hid (RQ_1.out.below hB2); have RS_2 := Lib.hid (RS_1.out.below hB2); have RO_2 := Lib.hid (RO_1.out.below hB2); have B_2 := Lib.hid (below_then B_1.out hB2); have R1_2 := Lib.hid (R1_1.out.below hB2); have C1_2 := Lib.hid (C1_1.out.below hB2); have R2_2 := Lib.hid (hR.below KK); have C2_2 := Lib.hid (Box.new w12 24 #[.slice a12 k k12]); clear T_1 V_1 RA_1 RQ_1 RS_1 RO_1 B_1 R1_1 C1_1 hB hB2 KK; have c12 := C2_2.out.cell 0)
                  | (go_at_call 29; (refine (keep_w a12 r1 k12 c1 KT (evI m) C k m m _ HKL HEL HCL h9m HSK R2_2 RS_2 HKE).mono ?_); rintro e w13 ⟨a13, k13, rfl, hR, hB⟩; have KK := (Below.refl w13.heap.size w13).alloc (Nat.le_refl _) (.cells #[.slice a13 m k13] 24); have hB2 := hB.trans (KK.mono hB.size); have T_3 := Lib.hid (T_2.out.below hB2); have V_3 := Lib.hid (V_2.out.below hB2); have RA_3 := Lib.hid (RA_2.out.below hB2); have RQ_3 := Lib.hid (RQ_2.out.below hB2); have RS_3 := Lib.hid (RS_2.out.below hB2); have RO_3 := Lib.hid (RO_2.out.below hB2); have B_3 := Lib.hid (below_then B_2.out hB2); have R1_3 := Lib.hid (R1_2.out.below hB2); have C1_3 := Lib.hid (C1_2.out.below hB2); have R2_3 := Lib.hid (R2_2.out.below hB2); have C2_3 := Lib.hid (C2_2.out.below hB2); have R3_3 := Lib.hid (hR.below KK); have C3_3 := Lib.hid (Box.new w13 24 #[.slice a13 m k13]); clear T_2 V_2 RA_2 RQ_2 RS_2 RO_2 B_2 R1_2 C1_2 R2_2 C2_2 hB hB2 KK; have c13 := T_3.out.cell 0)
                  | (go_at_call 29; (refine (keep_w va r2 vk c2 L (boI k t m) C k m m _ HNN HBL HCL h9m HSL V_3 RO_3 HKB).mono ?_); rintro e w14 ⟨a14, k14, rfl, hR, hB⟩; have KK := (Below.refl w14.heap.size w14).alloc (Nat.le_refl _) (.cells #[.slice a14 m k14] 24); have hB2 := hB.trans (KK.mono hB.size); have T_4 := Lib.hid (T_3.out.below hB2); have V_4 := Lib.hid (V_3.out.below hB2); have RA_4 := Lib.hid (RA_3.out.below hB2); have RQ_4 := Lib.hid (RQ_3.out.below hB2); have RS_4 := Lib.hid (RS_3.out.below hB2); have RO_4 := Lib.hid (RO_3.out.below hB2); have B_4 := Lib.hid (below_then B_3.out hB2); have R1_4 := Lib.hid (R1_3.out.below hB2); have C1_4 := Lib.hid (C1_3.out.below hB2); have R2_4 := Lib.hid (R2_3.out.below hB2); have C2_4 := Lib.hid (C2_3.out.below hB2); have R3_4 := Lib.hid (R3_3.out.below hB2); have C3_4 := Lib.hid (C3_3.out.below hB2); have R4_4 := Lib.hid (hR.below KK); have C4_4 := Lib.hid (Box.new w14 24 #[.slice a14 m k14]); clear T_3 V_3 RA_3 RQ_3 RS_3 RO_3 B_3 R1_3 C1_3 R2_3 C2_3 R3_3 C3_3 hB hB2 KK; have c14 := T_4.out.cell 0; have c15 := C1_4.out.cell 0)
                  | (go_at_call 16; (refine (lequal_n a11 va k11 vk L k _ HNN h9 R1_4 V_4).mono ?_); rintro e w21 ⟨rfl, hB⟩; have T_5 := Lib.hid (T_4.out.below hB); have V_5 := Lib.hid (V_4.out.below hB); have RA_5 := Lib.hid (RA_4.out.below hB); have RQ_5 := Lib.hid (RQ_4.out.below hB); have RS_5 := Lib.hid (RS_4.out.below hB); have RO_5 := Lib.hid (RO_4.out.below hB); have B_5 := Lib.hid (below_then B_4.out hB); have R1_5 := Lib.hid (R1_4.out.below hB); have C1_5 := Lib.hid (C1_4.out.below hB); have R2_5 := Lib.hid (R2_4.out.below hB); have C2_5 := Lib.hid (C2_4.out.below hB); have R3_5 := Lib.hid (R3_4.out.below hB); have C3_5 := Lib.hid (C3_4.out.below hB); have R4_5 := Lib.hid (R4_4.out.below hB); have C4_5 := Lib.hid (C4_4.out.below hB); clear T_4 V_4 RA_4 RQ_4 RS_4 RO_4 B_4 R1_4 C1_4 R2_4 C2_4 R3_4 C3_4 R4_4 C4_4 hB; have c21 := T_5.out.cell 0; have c22 := C1_5.out.cell 0)
                  | (go_at_call 31; (refine (psame_n a11 va k11 vk L L k true _ HNN HNN h9 R1_5 V_5 HEQ).mono ?_); rintro e w22 ⟨rfl, hB⟩; have T_6 := Lib.hid (T_5.out.below hB); have V_6 := Lib.hid (V_5.out.below hB); have RA_6 := Lib.hid (RA_5.out.below hB); have RQ_6 := Lib.hid (RQ_5.out.below hB); have RS_6 := Lib.hid (RS_5.out.below hB); have RO_6 := Lib.hid (RO_5.out.below hB); have B_6 := Lib.hid (below_then B_5.out hB); have R1_6 := Lib.hid (R1_5.out.below hB); have C1_6 := Lib.hid (C1_5.out.below hB); have R2_6 := Lib.hid (R2_5.out.below hB); have C2_6 := Lib.hid (C2_5.out.below hB); have R3_6 := Lib.hid (R3_5.out.below hB); have C3_6 := Lib.hid (C3_5.out.below hB); have R4_6 := Lib.hid (R4_5.out.below hB); have C4_6 := Lib.hid (C4_5.out.below hB); clear T_5 V_5 RA_5 RQ_5 RS_5 RO_5 B_5 R1_5 C1_5 R2_5 C2_5 R3_5 C3_5 R4_5 C4_5 hB; have c23 := C3_6.out.cell 0; have c24 := C4_6.out.cell 0)
                  | (go_at_call 16; (refine (lequal_n a13 a14 k13 k14 C m _ HCL h8 R3_6 R4_6).mono ?_); rintro e w23 ⟨rfl, hB⟩; have T_7 := Lib.hid (T_6.out.below hB); have V_7 := Lib.hid (V_6.out.below hB); have RA_7 := Lib.hid (RA_6.out.below hB); have RQ_7 := Lib.hid (RQ_6.out.below hB); have RS_7 := Lib.hid (RS_6.out.below hB); have RO_7 := Lib.hid (RO_6.out.below hB); have B_7 := Lib.hid (below_then B_6.out hB); have R1_7 := Lib.hid (R1_6.out.below hB); have C1_7 := Lib.hid (C1_6.out.below hB); have R2_7 := Lib.hid (R2_6.out.below hB); have C2_7 := Lib.hid (C2_6.out.below hB); have R3_7 := Lib.hid (R3_6.out.below hB); have C3_7 := Lib.hid (C3_6.out.below hB); have R4_7 := Lib.hid (R4_6.out.below hB); have C4_7 := Lib.hid (C4_6.out.below hB); clear T_6 V_6 RA_6 RQ_6 RS_6 RO_6 B_6 R1_6 C1_6 R2_6 C2_6 R3_6 C3_6 R4_6 C4_6 hB; have c25 := C2_7.out.cell 0; have c26 := T_7.out.cell 0)
                  | (go_at_call 31; (refine (psame_n a12 va k12 vk KT L k true _ HKL HNN h9 R2_7 V_7 HRR).mono ?_); rintro e w24 ⟨rfl, hB⟩; have T_8 := Lib.hid (T_7.out.below hB); have V_8 := Lib.hid (V_7.out.below hB); have RA_8 := Lib.hid (RA_7.out.below hB); have RQ_8 := Lib.hid (RQ_7.out.below hB); have RS_8 := Lib.hid (RS_7.out.below hB); have RO_8 := Lib.hid (RO_7.out.below hB); have B_8 := Lib.hid (below_then B_7.out hB); have R1_8 := Lib.hid (R1_7.out.below hB); have C1_8 := Lib.hid (C1_7.out.below hB); have R2_8 := Lib.hid (R2_7.out.below hB); have C2_8 := Lib.hid (C2_7.out.below hB); have R3_8 := Lib.hid (R3_7.out.below hB); have C3_8 := Lib.hid (C3_7.out.below hB); have R4_8 := Lib.hid (R4_7.out.below hB); have C4_8 := Lib.hid (C4_7.out.below hB); clear T_7 V_7 RA_7 RQ_7 RS_7 RO_7 B_7 R1_7 C1_7 R2_7 C2_7 R3_7 C3_7 R4_7 C4_7 hB))
              go_ret
              exact ⟨rfl, B_8.out⟩
            · have e0 : ((t : Int) == 0) = false := by rw [beq_eq_false_iff_ne]; omega
              by_cases hBk : t = k
              · have HRR : Hid (eqB KT L = true) := Lib.hid (by rw [HKE0.out]; exact decide_eq_true (.inr hBk))
                have e1 : ((t : Int) == (k : Int)) = true := by rw [beq_iff_eq]; omega
                clear HKE0 hA hBk
                go_wp2_with (first
                    | (go_at_call 29; (refine (keep_w va ra vk rk L (upI k) L k k k _ HNN HUL HNN h99 HSL V8 RA8 HKA).mono ?_); rintro e w11 ⟨a11, k11, rfl, hR, hB⟩; have KK := (Below.refl w11.heap.size w11).alloc (Nat.le_refl _) (.cells #[.slice a11 k k11] 24); have hB2 := hB.trans (KK.mono hB.size); have T_1 := Lib.hid (T8.out.below hB2); have V_1 := Lib.hid (V8.out.below hB2); have RA_1 := Lib.hid (RA8.out.below hB2); have RQ_1 := Lib.hid (RQ8.out.below hB2); have RS_1 := Lib.hid (RS8.out.below hB2); have RO_1 := Lib.hid (RO8.out.below hB2); have B_1 := Lib.hid (below_then B8.out hB2); have R1_1 := Lib.hid (hR.below KK); have C1_1 := Lib.hid (Box.new w11 24 #[.slice a11 k k11]); clear T8 V8 RA8 RQ8 RS8 RO8 B8 hB hB2 KK; have c11 := T_1.out.cell 0)
                    | (go_at_call 29; (refine (keep_w va qa vk qk L (turnI k t) KT k k k _ HNN HTL HKL h99 HSL V_1 RQ_1 HKT).mono ?_); rintro e w12 ⟨a12, k12, rfl, hR, hB⟩; have KK := (Below.refl w12.heap.size w12).alloc (Nat.le_refl _) (.cells #[.slice a12 k k12] 24); have hB2 := hB.trans (KK.mono hB.size); have T_2 := Lib.hid (T_1.out.below hB2); have V_2 := Lib.hid (V_1.out.below hB2); have RA_2 := Lib.hid (RA_1.out.below hB2); have RQ_2 := Lib.hid (RQ_1.out.below hB2); have RS_2 := Lib.hid (RS_1.out.below hB2); have RO_2 := Lib.hid (RO_1.out.below hB2); have B_2 := Lib.hid (below_then B_1.out hB2); have R1_2 := Lib.hid (R1_1.out.below hB2); have C1_2 := Lib.hid (C1_1.out.below hB2); have R2_2 := Lib.hid (hR.below KK); have C2_2 := Lib.hid (Box.new w12 24 #[.slice a12 k k12]); clear T_1 V_1 RA_1 RQ_1 RS_1 RO_1 B_1 R1_1 C1_1 hB hB2 KK; have c12 := C2_2.out.cell 0)
                    | (go_at_call 29; (refine (keep_w a12 r1 k12 c1 KT (evI m) C k m m _ HKL HEL HCL h9m HSK R2_2 RS_2 HKE).mono ?_); rintro e w13 ⟨a13, k13, rfl, hR, hB⟩; have KK := (Below.refl w13.heap.size w13).alloc (Nat.le_refl _) (.cells #[.slice a13 m k13] 24); have hB2 := hB.trans (KK.mono hB.size); have T_3 := Lib.hid (T_2.out.below hB2); have V_3 := Lib.hid (V_2.out.below hB2); have RA_3 := Lib.hid (RA_2.out.below hB2); have RQ_3 := Lib.hid (RQ_2.out.below hB2); have RS_3 := Lib.hid (RS_2.out.below hB2); have RO_3 := Lib.hid (RO_2.out.below hB2); have B_3 := Lib.hid (below_then B_2.out hB2); have R1_3 := Lib.hid (R1_2.out.below hB2); have C1_3 := Lib.hid (C1_2.out.below hB2); have R2_3 := Lib.hid (R2_2.out.below hB2); have C2_3 := Lib.hid (C2_2.out.below hB2); have R3_3 := Lib.hid (hR.below KK); have C3_3 := Lib.hid (Box.new w13 24 #[.slice a13 m k13]); clear T_2 V_2 RA_2 RQ_2 RS_2 RO_2 B_2 R1_2 C1_2 R2_2 C2_2 hB hB2 KK; have c13 := T_3.out.cell 0)
                    | (go_at_call 29; (refine (keep_w va r2 vk c2 L (boI k t m) C k m m _ HNN HBL HCL h9m HSL V_3 RO_3 HKB).mono ?_); rintro e w14 ⟨a14, k14, rfl, hR, hB⟩; have KK := (Below.refl w14.heap.size w14).alloc (Nat.le_refl _) (.cells #[.slice a14 m k14] 24); have hB2 := hB.trans (KK.mono hB.size); have T_4 := Lib.hid (T_3.out.below hB2); have V_4 := Lib.hid (V_3.out.below hB2); have RA_4 := Lib.hid (RA_3.out.below hB2); have RQ_4 := Lib.hid (RQ_3.out.below hB2); have RS_4 := Lib.hid (RS_3.out.below hB2); have RO_4 := Lib.hid (RO_3.out.below hB2); have B_4 := Lib.hid (below_then B_3.out hB2); have R1_4 := Lib.hid (R1_3.out.below hB2); have C1_4 := Lib.hid (C1_3.out.below hB2); have R2_4 := Lib.hid (R2_3.out.below hB2); have C2_4 := Lib.hid (C2_3.out.below hB2); have R3_4 := Lib.hid (R3_3.out.below hB2); have C3_4 := Lib.hid (C3_3.out.below hB2); have R4_4 := Lib.hid (hR.below KK); have C4_4 := Lib.hid (Box.new w14 24 #[.slice a14 m k14]); clear T_3 V_3 RA_3 RQ_3 RS_3 RO_3 B_3 R1_3 C1_3 R2_3 C2_3 R3_3 C3_3 hB hB2 KK; have c14 := T_4.out.cell 0; have c15 := C1_4.out.cell 0)
                    | (go_at_call 16; (refine (lequal_n a11 va k11 vk L k _ HNN h9 R1_4 V_4).mono ?_); rintro e w21 ⟨rfl, hB⟩; have T_5 := Lib.hid (T_4.out.below hB); have V_5 := Lib.hid (V_4.out.below hB); have RA_5 := Lib.hid (RA_4.out.below hB); have RQ_5 := Lib.hid (RQ_4.out.below hB); have RS_5 := Lib.hid (RS_4.out.below hB); have RO_5 := Lib.hid (RO_4.out.below hB); have B_5 := Lib.hid (below_then B_4.out hB); have R1_5 := Lib.hid (R1_4.out.below hB); have C1_5 := Lib.hid (C1_4.out.below hB); have R2_5 := Lib.hid (R2_4.out.below hB); have C2_5 := Lib.hid (C2_4.out.below hB); have R3_5 := Lib.hid (R3_4.out.below hB); have C3_5 := Lib.hid (C3_4.out.below hB); have R4_5 := Lib.hid (R4_4.out.below hB); have C4_5 := Lib.hid (C4_4.out.below hB); clear T_4 V_4 RA_4 RQ_4 RS_4 RO_4 B_4 R1_4 C1_4 R2_4 C2_4 R3_4 C3_4 R4_4 C4_4 hB; have c21 := T_5.out.cell 0; have c22 := C1_5.out.cell 0)
                    | (go_at_call 31; (refine (psame_n a11 va k11 vk L L k true _ HNN HNN h9 R1_5 V_5 HEQ).mono ?_); rintro e w22 ⟨rfl, hB⟩; have T_6 := Lib.hid (T_5.out.below hB); have V_6 := Lib.hid (V_5.out.below hB); have RA_6 := Lib.hid (RA_5.out.below hB); have RQ_6 := Lib.hid (RQ_5.out.below hB); have RS_6 := Lib.hid (RS_5.out.below hB); have RO_6 := Lib.hid (RO_5.out.below hB); have B_6 := Lib.hid (below_then B_5.out hB); have R1_6 := Lib.hid (R1_5.out.below hB); have C1_6 := Lib.hid (C1_5.out.below hB); have R2_6 := Lib.hid (R2_5.out.below hB); have C2_6 := Lib.hid (C2_5.out.below hB); have R3_6 := Lib.hid (R3_5.out.below hB); have C3_6 := Lib.hid (C3_5.out.below hB); have R4_6 := Lib.hid (R4_5.out.below hB); have C4_6 := Lib.hid (C4_5.out.below hB); clear T_5 V_5 RA_5 RQ_5 RS_5 RO_5 B_5 R1_5 C1_5 R2_5 C2_5 R3_5 C3_5 R4_5 C4_5 hB; have c23 := C3_6.out.cell 0; have c24 := C4_6.out.cell 0)
                    | (go_at_call 16; (refine (lequal_n a13 a14 k13 k14 C m _ HCL h8 R3_6 R4_6).mono ?_); rintro e w23 ⟨rfl, hB⟩; have T_7 := Lib.hid (T_6.out.below hB); have V_7 := Lib.hid (V_6.out.below hB); have RA_7 := Lib.hid (RA_6.out.below hB); have RQ_7 := Lib.hid (RQ_6.out.below hB); have RS_7 := Lib.hid (RS_6.out.below hB); have RO_7 := Lib.hid (RO_6.out.below hB); have B_7 := Lib.hid (below_then B_6.out hB); have R1_7 := Lib.hid (R1_6.out.below hB); have C1_7 := Lib.hid (C1_6.out.below hB); have R2_7 := Lib.hid (R2_6.out.below hB); have C2_7 := Lib.hid (C2_6.out.below hB); have R3_7 := Lib.hid (R3_6.out.below hB); have C3_7 := Lib.hid (C3_6.out.below hB); have R4_7 := Lib.hid (R4_6.out.below hB); have C4_7 := Lib.hid (C4_6.out.below hB); clear T_6 V_6 RA_6 RQ_6 RS_6 RO_6 B_6 R1_6 C1_6 R2_6 C2_6 R3_6 C3_6 R4_6 C4_6 hB; have c25 := C2_7.out.cell 0; have c26 := T_7.out.cell 0)
                    | (go_at_call 31; (refine (psame_n a12 va k12 vk KT L k true _ HKL HNN h9 R2_7 V_7 HRR).mono ?_); rintro e w24 ⟨rfl, hB⟩; have T_8 := Lib.hid (T_7.out.below hB); have V_8 := Lib.hid (V_7.out.below hB); have RA_8 := Lib.hid (RA_7.out.below hB); have RQ_8 := Lib.hid (RQ_7.out.below hB); have RS_8 := Lib.hid (RS_7.out.below hB); have RO_8 := Lib.hid (RO_7.out.below hB); have B_8 := Lib.hid (below_then B_7.out hB); have R1_8 := Lib.hid (R1_7.out.below hB); have C1_8 := Lib.hid (C1_7.out.below hB); have R2_8 := Lib.hid (R2_7.out.below hB); have C2_8 := Lib.hid (C2_7.out.below hB); have R3_8 := Lib.hid (R3_7.out.below hB); have C3_8 := Lib.hid (C3_7.out.below hB); have R4_8 := Lib.hid (R4_7.out.below hB); have C4_8 := Lib.hid (C4_7.out.below hB); clear T_7 V_7 RA_7 RQ_7 RS_7 RO_7 B_7 R1_7 C1_7 R2_7 C2_7 R3_7 C3_7 R4_7 C4_7 hB))
                go_ret
                exact ⟨rfl, B_8.out⟩
              · have HRR : Hid (eqB KT L = false) := Lib.hid (by rw [HKE0.out]; exact decide_eq_false (fun h => h.elim hA hBk))
                have e1 : ((t : Int) == (k : Int)) = false := by rw [beq_eq_false_iff_ne]; omega
                clear HKE0 hA hBk
                go_wp2_with (first
                    | (go_at_call 29; (refine (keep_w va ra vk rk L (upI k) L k k k _ HNN HUL HNN h99 HSL V8 RA8 HKA).mono ?_); rintro e w11 ⟨a11, k11, rfl, hR, hB⟩; have KK := (Below.refl w11.heap.size w11).alloc (Nat.le_refl _) (.cells #[.slice a11 k k11] 24); have hB2 := hB.trans (KK.mono hB.size); have T_1 := Lib.hid (T8.out.below hB2); have V_1 := Lib.hid (V8.out.below hB2); have RA_1 := Lib.hid (RA8.out.below hB2); have RQ_1 := Lib.hid (RQ8.out.below hB2); have RS_1 := Lib.hid (RS8.out.below hB2); have RO_1 := Lib.hid (RO8.out.below hB2); have B_1 := Lib.hid (below_then B8.out hB2); have R1_1 := Lib.hid (hR.below KK); have C1_1 := Lib.hid (Box.new w11 24 #[.slice a11 k k11]); clear T8 V8 RA8 RQ8 RS8 RO8 B8 hB hB2 KK; have c11 := T_1.out.cell 0)
                    | (go_at_call 29; (refine (keep_w va qa vk qk L (turnI k t) KT k k k _ HNN HTL HKL h99 HSL V_1 RQ_1 HKT).mono ?_); rintro e w12 ⟨a12, k12, rfl, hR, hB⟩; have KK := (Below.refl w12.heap.size w12).alloc (Nat.le_refl _) (.cells #[.slice a12 k k12] 24); have hB2 := hB.trans (KK.mono hB.size); have T_2 := Lib.hid (T_1.out.below hB2); have V_2 := Lib.hid (V_1.out.below hB2); have RA_2 := Lib.hid (RA_1.out.below hB2); have RQ_2 := Lib.hid (RQ_1.out.below hB2); have RS_2 := Lib.hid (RS_1.out.below hB2); have RO_2 := Lib.hid (RO_1.out.below hB2); have B_2 := Lib.hid (below_then B_1.out hB2); have R1_2 := Lib.hid (R1_1.out.below hB2); have C1_2 := Lib.hid (C1_1.out.below hB2); have R2_2 := Lib.hid (hR.below KK); have C2_2 := Lib.hid (Box.new w12 24 #[.slice a12 k k12]); clear T_1 V_1 RA_1 RQ_1 RS_1 RO_1 B_1 R1_1 C1_1 hB hB2 KK; have c12 := C2_2.out.cell 0)
                    | (go_at_call 29; (refine (keep_w a12 r1 k12 c1 KT (evI m) C k m m _ HKL HEL HCL h9m HSK R2_2 RS_2 HKE).mono ?_); rintro e w13 ⟨a13, k13, rfl, hR, hB⟩; have KK := (Below.refl w13.heap.size w13).alloc (Nat.le_refl _) (.cells #[.slice a13 m k13] 24); have hB2 := hB.trans (KK.mono hB.size); have T_3 := Lib.hid (T_2.out.below hB2); have V_3 := Lib.hid (V_2.out.below hB2); have RA_3 := Lib.hid (RA_2.out.below hB2); have RQ_3 := Lib.hid (RQ_2.out.below hB2); have RS_3 := Lib.hid (RS_2.out.below hB2); have RO_3 := Lib.hid (RO_2.out.below hB2); have B_3 := Lib.hid (below_then B_2.out hB2); have R1_3 := Lib.hid (R1_2.out.below hB2); have C1_3 := Lib.hid (C1_2.out.below hB2); have R2_3 := Lib.hid (R2_2.out.below hB2); have C2_3 := Lib.hid (C2_2.out.below hB2); have R3_3 := Lib.hid (hR.below KK); have C3_3 := Lib.hid (Box.new w13 24 #[.slice a13 m k13]); clear T_2 V_2 RA_2 RQ_2 RS_2 RO_2 B_2 R1_2 C1_2 R2_2 C2_2 hB hB2 KK; have c13 := T_3.out.cell 0)
                    | (go_at_call 29; (refine (keep_w va r2 vk c2 L (boI k t m) C k m m _ HNN HBL HCL h9m HSL V_3 RO_3 HKB).mono ?_); rintro e w14 ⟨a14, k14, rfl, hR, hB⟩; have KK := (Below.refl w14.heap.size w14).alloc (Nat.le_refl _) (.cells #[.slice a14 m k14] 24); have hB2 := hB.trans (KK.mono hB.size); have T_4 := Lib.hid (T_3.out.below hB2); have V_4 := Lib.hid (V_3.out.below hB2); have RA_4 := Lib.hid (RA_3.out.below hB2); have RQ_4 := Lib.hid (RQ_3.out.below hB2); have RS_4 := Lib.hid (RS_3.out.below hB2); have RO_4 := Lib.hid (RO_3.out.below hB2); have B_4 := Lib.hid (below_then B_3.out hB2); have R1_4 := Lib.hid (R1_3.out.below hB2); have C1_4 := Lib.hid (C1_3.out.below hB2); have R2_4 := Lib.hid (R2_3.out.below hB2); have C2_4 := Lib.hid (C2_3.out.below hB2); have R3_4 := Lib.hid (R3_3.out.below hB2); have C3_4 := Lib.hid (C3_3.out.below hB2); have R4_4 := Lib.hid (hR.below KK); have C4_4 := Lib.hid (Box.new w14 24 #[.slice a14 m k14]); clear T_3 V_3 RA_3 RQ_3 RS_3 RO_3 B_3 R1_3 C1_3 R2_3 C2_3 R3_3 C3_3 hB hB2 KK; have c14 := T_4.out.cell 0; have c15 := C1_4.out.cell 0)
                    | (go_at_call 16; (refine (lequal_n a11 va k11 vk L k _ HNN h9 R1_4 V_4).mono ?_); rintro e w21 ⟨rfl, hB⟩; have T_5 := Lib.hid (T_4.out.below hB); have V_5 := Lib.hid (V_4.out.below hB); have RA_5 := Lib.hid (RA_4.out.below hB); have RQ_5 := Lib.hid (RQ_4.out.below hB); have RS_5 := Lib.hid (RS_4.out.below hB); have RO_5 := Lib.hid (RO_4.out.below hB); have B_5 := Lib.hid (below_then B_4.out hB); have R1_5 := Lib.hid (R1_4.out.below hB); have C1_5 := Lib.hid (C1_4.out.below hB); have R2_5 := Lib.hid (R2_4.out.below hB); have C2_5 := Lib.hid (C2_4.out.below hB); have R3_5 := Lib.hid (R3_4.out.below hB); have C3_5 := Lib.hid (C3_4.out.below hB); have R4_5 := Lib.hid (R4_4.out.below hB); have C4_5 := Lib.hid (C4_4.out.below hB); clear T_4 V_4 RA_4 RQ_4 RS_4 RO_4 B_4 R1_4 C1_4 R2_4 C2_4 R3_4 C3_4 R4_4 C4_4 hB; have c21 := T_5.out.cell 0; have c22 := C1_5.out.cell 0)
                    | (go_at_call 31; (refine (psame_n a11 va k11 vk L L k true _ HNN HNN h9 R1_5 V_5 HEQ).mono ?_); rintro e w22 ⟨rfl, hB⟩; have T_6 := Lib.hid (T_5.out.below hB); have V_6 := Lib.hid (V_5.out.below hB); have RA_6 := Lib.hid (RA_5.out.below hB); have RQ_6 := Lib.hid (RQ_5.out.below hB); have RS_6 := Lib.hid (RS_5.out.below hB); have RO_6 := Lib.hid (RO_5.out.below hB); have B_6 := Lib.hid (below_then B_5.out hB); have R1_6 := Lib.hid (R1_5.out.below hB); have C1_6 := Lib.hid (C1_5.out.below hB); have R2_6 := Lib.hid (R2_5.out.below hB); have C2_6 := Lib.hid (C2_5.out.below hB); have R3_6 := Lib.hid (R3_5.out.below hB); have C3_6 := Lib.hid (C3_5.out.below hB); have R4_6 := Lib.hid (R4_5.out.below hB); have C4_6 := Lib.hid (C4_5.out.below hB); clear T_5 V_5 RA_5 RQ_5 RS_5 RO_5 B_5 R1_5 C1_5 R2_5 C2_5 R3_5 C3_5 R4_5 C4_5 hB; have c23 := C3_6.out.cell 0; have c24 := C4_6.out.cell 0)
                    | (go_at_call 16; (refine (lequal_n a13 a14 k13 k14 C m _ HCL h8 R3_6 R4_6).mono ?_); rintro e w23 ⟨rfl, hB⟩; have T_7 := Lib.hid (T_6.out.below hB); have V_7 := Lib.hid (V_6.out.below hB); have RA_7 := Lib.hid (RA_6.out.below hB); have RQ_7 := Lib.hid (RQ_6.out.below hB); have RS_7 := Lib.hid (RS_6.out.below hB); have RO_7 := Lib.hid (RO_6.out.below hB); have B_7 := Lib.hid (below_then B_6.out hB); have R1_7 := Lib.hid (R1_6.out.below hB); have C1_7 := Lib.hid (C1_6.out.below hB); have R2_7 := Lib.hid (R2_6.out.below hB); have C2_7 := Lib.hid (C2_6.out.below hB); have R3_7 := Lib.hid (R3_6.out.below hB); have C3_7 := Lib.hid (C3_6.out.below hB); have R4_7 := Lib.hid (R4_6.out.below hB); have C4_7 := Lib.hid (C4_6.out.below hB); clear T_6 V_6 RA_6 RQ_6 RS_6 RO_6 B_6 R1_6 C1_6 R2_6 C2_6 R3_6 C3_6 R4_6 C4_6 hB; have c25 := C2_7.out.cell 0; have c26 := T_7.out.cell 0)
                    | (go_at_call 31; (refine (psame_n a12 va k12 vk KT L k false _ HKL HNN h9 R2_7 V_7 HRR).mono ?_); rintro e w24 ⟨rfl, hB⟩; have T_8 := Lib.hid (T_7.out.below hB); have V_8 := Lib.hid (V_7.out.below hB); have RA_8 := Lib.hid (RA_7.out.below hB); have RQ_8 := Lib.hid (RQ_7.out.below hB); have RS_8 := Lib.hid (RS_7.out.below hB); have RO_8 := Lib.hid (RO_7.out.below hB); have B_8 := Lib.hid (below_then B_7.out hB); have R1_8 := Lib.hid (R1_7.out.below hB); have C1_8 := Lib.hid (C1_7.out.below hB); have R2_8 := Lib.hid (R2_7.out.below hB); have C2_8 := Lib.hid (C2_7.out.below hB); have R3_8 := Lib.hid (R3_7.out.below hB); have C3_8 := Lib.hid (C3_7.out.below hB); have R4_8 := Lib.hid (R4_7.out.below hB); have C4_8 := Lib.hid (C4_7.out.below hB); clear T_7 V_7 RA_7 RQ_7 RS_7 RO_7 B_7 R1_7 C1_7 R2_7 C2_7 R3_7 C3_7 R4_7 C4_7 hB))
                go_ret
                exact ⟨rfl, B_8.out⟩
end Go.Proofs.Ytndghjfgjkjbdaa.s06
