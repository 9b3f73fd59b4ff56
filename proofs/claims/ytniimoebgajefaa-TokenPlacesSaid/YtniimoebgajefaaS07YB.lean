/-
  Layer 7: the law TokenPlaces.
-/
import Derived.Test.YtniimoebgajefaaS07V
import Derived.Test.YtniimoebgajefaaS07YA
import Derived.Test.YtniimoebgajefaaS07M
namespace Go.Proofs.Ytniimoebgajefaa.s07
set_option linter.unusedVariables false
set_option linter.unusedSimpArgs false
open Go.RowKit
open kit

/-- the tokens that are made of some numbers -/
def mkL (t : Int) (zs : List Int) : List Li := zs.map fun z => madeR z t
theorem mkL_len (t : Int) (zs : List Int) : (mkL t zs).length = zs.length := by simp [mkL]
theorem mkL_snoc (t : Int) (zs : List Int) (j : Nat) (h : j < zs.length) : mkL t (zs.take (j + 1)) = mkL t (zs.take j) ++ [madeR (zs[j]?.getD 0) t] := by
  unfold mkL
  rw [List.take_succ_eq_append_getElem h, List.getElem?_eq_getElem h, List.map_append]
  rfl
theorem mkL_ok (t : Int) (zs : List Int) (h1 : 1 ≤ t) (h2 : t ≤ 8) : ∀ x ∈ mkL t zs, chkLP t x = 0 := by
  intro x hx
  obtain ⟨z, _, rfl⟩ := List.mem_map.1 hx
  exact (chkR_ok (madeR_ok z t h1 h2)).1
set_option maxRecDepth 100000 in
set_option maxHeartbeats 8000000 in
theorem places_law (a0 : Option Addr) (c0 : Nat) (zs : List Int) (n at1 ag1 : Int) (hlen : zs.length ≤ 9223372036854775807) (hz : Hid (∀ z ∈ zs, -9223372036854775808 ≤ z ∧ z ≤ 9223372036854775807)) (n1 : -9223372036854775808 ≤ n) (n2 : n ≤ 9223372036854775807) (q1 : -9223372036854775808 ≤ at1) (q2 : at1 ≤ 9223372036854775807) (r1 : -9223372036854775808 ≤ ag1) (r2 : ag1 ≤ 9223372036854775807) (w : World) (hr : Hid (ReadsI w a0 zs)) :
    Calls Try.prog 9 #[.slice a0 zs.length c0, .int .i64 n, .int .i64 at1, .int .i64 ag1] w fun e w' => e = .returned (.bool true) ∧ Below w.heap.size w w' := by
  obtain ⟨m, hm⟩ : ∃ m, n % 8 = m := ⟨_, rfl⟩
  have m1 : 0 ≤ m := by omega
  have m2 : m ≤ 7 := by omega
  have HM := Lib.hid hm
  obtain ⟨a, ha⟩ : ∃ a, at1 % 1073741824 = a := ⟨_, rfl⟩
  obtain ⟨b, hb⟩ : ∃ b, ag1 % 1073741824 = b := ⟨_, rfl⟩
  have a1 : 0 ≤ a := by omega
  have a2 : a ≤ 1073741824 := by omega
  have b1 : 0 ≤ b := by omega
  have b2 : b ≤ 1073741824 := by omega
  have HA := Lib.hid ha
  have HB9 := Lib.hid hb
  have t3 : 1 ≤ 1 + m := by omega
  have t4 : 1 + m ≤ 8 := by omega
  clear hm ha hb
  go_enter Try.func9, Try.ntmps9
  go_wp2_with (go_at_call 33; refine (mod_any n 8 n1 n2 (by omega) (by omega) _).mono ?_; rintro e w1 ⟨rfl, rfl⟩; rw [HM.out])
  go_loopw [11, 10] (fun i v wr => ∃ j : Nat, i = .int .i64 j ∧ j ≤ zs.length ∧ j ≤ 12 ∧ Hid (wr.ownsRow w.heap.size 23 3 v j (flatL (mkL (1 + m) (zs.take j)))) ∧ Hid (Below w.heap.size w wr)) (fun i _ _ => 12 - (intOf i).toNat)
  case atStart => exact ⟨0, rfl, by omega, by omega, Lib.hid (World.ownsRow_nil _ _ _ _), Lib.hid (Below.refl _ _)⟩
  case round =>
    obtain ⟨j, rfl, hj, hj12, HR, HB⟩ := hrel
    by_cases hlt : j < zs.length ∧ j < 12
    · obtain ⟨hlt1, hlt2⟩ := hlt
      obtain ⟨bb, off, rfl, hbb, c9⟩ := (hr.out.below HB.out) j hlt1
      have hzb := hz.out _ (mem_getD zs j hlt1)
      have hsn := Lib.hid (mkL_snoc (1 + m) zs j hlt1)
      generalize zs[j]?.getD 0 = z at c9 hzb hsn
      obtain ⟨z1, z2⟩ := hzb
      obtain ⟨⟨y, x, p⟩, hmk⟩ : ∃ u, madeR z (1 + m) = u := ⟨_, rfl⟩
      rw [hmk] at hsn
      have HMK := Lib.hid hmk
      have hwr := HB.out.size
      have hjl : (mkL (1 + m) (zs.take j)).length = j := by rw [mkL_len, List.length_take]; omega
      clear hmk
      go_wp2_with (first
        | (go_at_call 34; refine (made_any z (1 + m) z1 z2 t3 t4 _ y x p HMK).mono ?_; rintro e w2 ⟨rfl, hB⟩; have B2 := Lib.hid (below_then HB.out hB); have R2 := Lib.hid (row_below HR.out hB); have S2 := Lib.hid (fun j u (hu : (flatL [((y, x, p) : Li)])[j]? = some u) => src_new w2 23 (y, x, p) j u (by rw [flatL_one] at hu; exact hu)); clear hB)
        | (at_builtin; refine append_tok Try.underlying34 rfl (.tmp 38) (.tmp 45) rfl w.heap.size _ j (mkL (1 + m) (zs.take j)) rfl (R2.out.alloc _) ⟨w2.heap.size, 0, none⟩ [(y, x, p)] 1 1 rfl rfl S2.out (by omega) (Nat.le_trans B2.out.size (by simp)) ?_; intro vA wA hrA hgA; have BA := Lib.hid (toks_grown (B2.out.alloc B2.out.size (.cells #[.int .i64 y, .string x, .int .i64 p] 23)) (R2.out.alloc (.cells #[.int .i64 y, .string x, .int .i64 p] 23)) hgA (Nat.le_trans B2.out.size (by simp))); have RA := Lib.hid hrA; clear hrA hgA))
      go_roundw
      case rel => exact ⟨j + 1, by go_num, by omega, by omega, Lib.hid (by rw [hsn.out]; exact RA.out), BA⟩
      case measure => simp [intOf]; omega
    · have hor : (¬ (j : Int) < (zs.length : Int)) ∨ ((j : Int) < (zs.length : Int) ∧ ¬ (j : Int) < 12) := by omega
      obtain ⟨L, hL⟩ : ∃ L, mkL (1 + m) (zs.take j) = L := ⟨_, rfl⟩
      have hLl : L.length = j := by rw [← hL, mkL_len, List.length_take]; omega
      have hLok : ∀ x ∈ L, chkLP (1 + m) x = 0 := hL ▸ mkL_ok (1 + m) (zs.take j) t3 t4
      rw [hL] at HR
      obtain ⟨al, cl, rfl, hcl, hRL, hzl⟩ := toks_row hLl HR.out
      have RL := Lib.hid hRL
      have hL12 : L.length ≤ 12 := by omega
      obtain ⟨X, hX⟩ : ∃ X, placeL a L = X := ⟨_, rfl⟩
      obtain ⟨Y, hY⟩ : ∃ Y, placeL b L = Y := ⟨_, rfl⟩
      have hXok : ∀ x ∈ X, chkLP (1 + m) x = 0 := hX ▸ place_parts hLok
      have hYok : ∀ x ∈ Y, chkLP (1 + m) x = 0 := hY ▸ place_parts hLok
      have hXl : X.length = L.length := by rw [← hX, placeL_len]
      have hYl : Y.length = L.length := by rw [← hY, placeL_len]
      have HP1 : Hid (placeR L (1 + m) a = (X, 0)) := Lib.hid (by rw [← hX]; exact place_zero hL12 hLok a1 a2)
      have HP2 : Hid (placeR X (1 + m) b = (Y, 0)) := Lib.hid (by rw [place_zero (by omega) hXok b1 b2, ← hX, placeL_twice, hY])
      have HP3 : Hid (placeR Y (1 + m) a = (X, 0)) := Lib.hid (by rw [place_zero (by omega) hYok a1 a2, ← hY, placeL_twice, hX])
      have hXc : ∀ z ∈ X, chkL (1 + m) z = 0 := hX ▸ place_chk hL12 hLok a1 a2
      have HPL : Hid (placedR X (1 + m) = 0) := Lib.hid (by rw [← hX]; exact place_placed hL12 hLok a1 a2)
      have HLS : Hid (listR X (1 + m) = (⟨(fL (X.drop 0)).toArray⟩, 0)) := Lib.hid (list_zero (by omega) hXc)
      have HXC := Lib.hid hXc
      have HXA : Hid (∀ k, k < L.length → X[k]?.getD noLi = ((L[k]?.getD noLi).1, (L[k]?.getD noLi).2.1, endL a (L.take k))) := Lib.hid fun k hk => by rw [← hX]; exact placeL_at L a k hk
      have HXL := Lib.hid hXl
      have n64a : L.length ≤ 9223372036854775807 := by omega
      have n64b : X.length ≤ 9223372036854775807 := by omega
      have n64c : Y.length ≤ 9223372036854775807 := by omega
      have n6 : X.length ≤ 1000000 := by omega
      have tne : ((X.length : Int) != (L.length : Int)) = false := by rw [bne_eq_false_iff_eq, hXl]
      have tne2 : ((X.length : Int) = (L.length : Int)) := by rw [hXl]
      have TNE := Lib.hid tne2
      have HLL := Lib.hid hLl
      clear hL hLok hcl hRL hzl hX hY hXok hYok hXl hYl hXc hlt tne2
      have hj9 : j = L.length := HLL.out.symm
      subst hj9
      rcases hor with t1 | ⟨t1, t2⟩
      all_goals
        go_wp2_with (first
          | (go_at_call 33; have ha9 := HA.out; refine (mod_any at1 1073741824 q1 q2 (by omega) (by omega) _).mono ?_; rintro e w1 ⟨rfl, rfl⟩; rw [ha9]; clear ha9 HA)
          | (go_at_call 33; refine (mod_any ag1 1073741824 r1 r2 (by omega) (by omega) _).mono ?_; rintro e w1 ⟨rfl, rfl⟩; rw [HB9.out])
          | (go_at_call 17; have hp9 := HP1; refine (tplace_any al cl L (1 + m) a _ n64a RL X 0 HP1).mono ?_; rintro e w2 ⟨ax, cx, rfl, hRX, hz2, hB⟩; have B2 := Lib.hid (below_then HB.out hB); have RX2 := Lib.hid hRX; have RL2 := Lib.hid (RL.out.below hB); clear hB hRX hz2 RL HB HP1 hp9 HR)
          | (go_at_call 17; have hp9 := HP2; refine (tplace_any ax cx X (1 + m) b _ n64b RX2 Y 0 HP2).mono ?_; rintro e w3 ⟨ay, cy, rfl, hRY, hz3, hB⟩; have B3 := Lib.hid (below_then B2.out hB); have RY3 := Lib.hid hRY; have RX3 := Lib.hid (RX2.out.below hB); have RL3 := Lib.hid (RL2.out.below hB); clear hB hRY hz3 RL2 RX2 B2 HP2 hp9)
          | (go_at_call 17; refine (tplace_any ay cy Y (1 + m) a _ n64c RY3 X 0 HP3).mono ?_; rintro e w4 ⟨az, cz, rfl, hRZ, hz4, hB⟩; have B4 := Lib.hid (below_then B3.out hB); have RZ4 := Lib.hid hRZ; have RX4 := Lib.hid (RX3.out.below hB); have RL4 := Lib.hid (RL3.out.below hB); clear hB hRZ hz4 RL3 RX3 RY3 B3 HP3)
          | (go_at_call 18; refine (placed_any ax cx X (1 + m) _ n64b RX4 0 HPL).mono ?_; rintro e w5 ⟨rfl, hB⟩; have B5 := Lib.hid (below_then B4.out hB); have RZ5 := Lib.hid (RZ4.out.below hB); have RX5 := Lib.hid (RX4.out.below hB); have RL5 := Lib.hid (RL4.out.below hB); clear hB RL4 RX4 RZ4 B4)
          | (go_at_call 31; refine (same_toks ax az cx cz X _ n6 RX5.out RZ5.out).mono ?_; rintro e w6 ⟨rfl, n9, hw9⟩; have hB : Below w5.heap.size w5 w6 := hw9 ▸ below_drewN (Below.refl _ _) n9; have B6 := Lib.hid (below_then B5.out hB); have RX6 := Lib.hid (RX5.out.below hB); have RL6 := Lib.hid (RL5.out.below hB); clear hB hw9 RL5 RX5 RZ5 B5)
          | (go_at_call 16; refine (list_any ax cx X (1 + m) _ n64b RX6 _ 0 HLS).mono ?_; rintro e w7 ⟨rfl, hB⟩; have B7 := Lib.hid (below_then B6.out hB); have RX7 := Lib.hid (RX6.out.below hB); have RL7 := Lib.hid (RL6.out.below hB); clear hB RL6 RX6 B6))
        go_loopw [21, 20] (fun i sv wx => ∃ k : Nat, i = .int .i64 k ∧ k ≤ L.length ∧ sv = .string ⟨(fL (X.drop k)).toArray⟩ ∧ Hid (ReadsL wx ax X) ∧ Hid (ReadsL wx al L) ∧ Hid (Below w.heap.size w wx)) (fun i _ _ => L.length - (intOf i).toNat)
        case atStart => exact ⟨0, rfl, by omega, rfl, RX7, RL7, B7⟩
        case round =>
          obtain ⟨k, rfl, hk, rfl, HRX, HRL, HBx⟩ := hrel
          clear RX7 RL7 B7
          by_cases hlt : k < L.length
          · have hltX : k < X.length := by have := HXL.out; omega
            obtain ⟨bx, offx, rfl, hbx, c0, c1, c2⟩ := HRX.out k hltX
            obtain ⟨bl, offl, rfl, hbl, d0, d1, d2⟩ := HRL.out k hlt
            have hxa := HXA.out k hlt
            have hdt := drop_tok X k hltX
            have hck := HXC.out _ (mem_tok X k hltX)
            generalize X[k]?.getD noLi = xk at c0 c1 c2 hxa hdt hck
            generalize L[k]?.getD noLi = lk at d0 d1 d2 hxa
            obtain ⟨y, x, p⟩ := xk
            obtain ⟨ly, lx, lp⟩ := lk
            simp only [Prod.mk.injEq] at hxa
            obtain ⟨rfl, rfl, -⟩ := hxa
            simp only at c0 c1 c2 d0 d1 d2
            have hrl : (fL (X.drop (k + 1))).length ≤ 1000 := by
              have h1 := fL_len (X.drop (k + 1)) fun z hz => chkL_okB (HXC.out z (List.mem_of_mem_drop hz))
              rw [List.length_drop] at h1
              have h2 := HXL.out
              omega
            have hx24 : x.size ≤ 24 := (chkL_okB hck).2.2
            have hS : (⟨(fL (X.drop k)).toArray⟩ : ByteArray) = frm y x ++ ⟨(fL (X.drop (k + 1))).toArray⟩ := by rw [hdt, fL_cons]
            have hrs := fL_size (X.drop (k + 1))
            generalize (⟨(fL (X.drop k)).toArray⟩ : ByteArray) = S at hS ⊢
            generalize hrr : (⟨(fL (X.drop (k + 1))).toArray⟩ : ByteArray) = rest at hS hrs
            have hsz : S.size = 2 + x.size + rest.size := by rw [hS, ByteArray.size_append, frm_size]
            have HRB : Hid (readR S (1 + m) p = ((y, x, p), 2 + (x.size : Int), 0, 0)) := Lib.hid (by rw [hS]; exact read_back rest hck)
            have HRE : Hid (S.extract (2 + x.size) S.size = rest) := Lib.hid (by
              have h1 := rest_ext (frm y x) rest
              rw [frm_size] at h1
              rw [hS]; exact h1)
            have HRR := Lib.hid hrr
            have hS8 : S.size ≤ 9223372036854775800 := by omega
            have hu1 : ¬ (2 + (x.size : Int)) < 0 := by omega
            have hu2 : ¬ (S.size : Int) < 2 + (x.size : Int) := by omega
            have hu3 : 2 + x.size ≤ S.size := by omega
            have hkX : (k : Int) < (X.length : Int) := by omega
            have hkL : (k : Int) < (L.length : Int) := by omega
            clear hdt hck hrl hx24 hS hrs hrr hsz
            go_wp2_with (go_at_call 25; refine (pread_any S (1 + m) p _ hS8 y x p (2 + (x.size : Int)) 0 0 HRB).mono ?_; rintro e w9 ⟨rfl, hB⟩)
            have N := two_new w9 #[.int .i64 y, .string x, .int .i64 p] #[.int .i64 0, .int .i64 0]
            generalize (w9.alloc (.cells #[.int .i64 y, .string x, .int .i64 p] 23)).alloc (.cells #[.int .i64 0, .int .i64 0] 41) = W9 at N ⊢
            obtain ⟨XN, YN, BN⟩ := N
            have hB2 : Below wr.heap.size wr W9 := below_then hB BN
            have HRX9 := Lib.hid (HRX.out.below hB2)
            have HRL9 := Lib.hid (HRL.out.below hB2)
            have HB9x := Lib.hid (below_then HBx.out hB2)
            replace c0 := (hB2.cell (p := ⟨bx, _, none⟩) hbx).trans c0
            replace c1 := (hB2.cell (p := ⟨bx, _, none⟩) hbx).trans c1
            replace c2 := (hB2.cell (p := ⟨bx, _, none⟩) hbx).trans c2
            replace d0 := (hB2.cell (p := ⟨bl, _, none⟩) hbl).trans d0
            replace d1 := (hB2.cell (p := ⟨bl, _, none⟩) hbl).trans d1
            replace d2 := (hB2.cell (p := ⟨bl, _, none⟩) hbl).trans d2
            obtain ⟨e0, e1, e2⟩ := XN.cell3
            obtain ⟨f0, f1⟩ := YN.cell2
            clear XN YN BN hB hB2 HRX HRL HBx
            go_quiet (fail)
            go_wp2
            rw [HRE.out, ← HRR.out]
            go_roundw
            case rel => exact ⟨k + 1, by go_num, by omega, rfl, HRX9, HRL9, Lib.hid (below_drewN HB9x.out _)⟩
            case measure => simp [intOf]; omega
          · have hke : X.drop k = [] := List.drop_eq_nil_of_le (by have := HXL.out; omega)
            have he : (⟨(fL (X.drop k)).toArray⟩ : ByteArray) = ⟨#[]⟩ := by rw [hke]; rfl
            rw [he]
            clear he hke
            go_wp2_with (go_at_call 20; refine (awake_any _).mono ?_; rintro e w9 ⟨rfl, hB⟩; have B9 := Lib.hid (below_then HBx.out hB); clear hB)
            go_ret
            exact ⟨rfl, B9.out⟩
end Go.Proofs.Ytniimoebgajefaa.s07
