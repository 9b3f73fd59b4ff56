/-
  The contract of the reference's Flip.
-/
import Derived.Test.YtpdpdmkfgbmdmaaWalksH
namespace Go.Proofs.Ytpdpdmkfgbmdmaa
set_option linter.unusedSimpArgs false
set_option linter.unusedVariables false
open Go.RowKit
open crcs (W)

set_option maxRecDepth 100000 in
set_option maxHeartbeats 1000000 in
theorem flipr_any (s : ByteArray) (a : Option Addr) (cap : Nat) (zs : List Int) (x : ByteArray) (er : Int) (w : World) (hn : zs.length ≤ 100000) (hs : s.size ≤ 1000000) (hz : ∀ z ∈ zs, -9223372036854775808 ≤ z ∧ z ≤ 9223372036854775807) (hr : ReadsI w a zs) (H : Hid (flipR s zs = (x, er))) :
    Calls Try.prog 29 #[.string s, .slice a zs.length cap] w fun e w' => e = .returned (.tuple #[.string x, .int .i64 er]) ∧ Below w.heap.size w w' := by
  have HZ := Lib.hid hz
  clear hz
  have cv := conv_str w s
  go_enter Try.func29, Try.ntmps29
  go_wp2
  go_loop [6] (fun i => ∃ k : Nat, k ≤ zs.length ∧ i = .int .i64 k ∧ ∀ j, j < k → isBit s.size (zs[j]?.getD 0) = true) (fun i => zs.length - (intOf i).toNat)
  case atStart => exact ⟨0, by omega, rfl, fun j hj => by omega⟩
  case round =>
    obtain ⟨k, hk, rfl, hall⟩ := hrel
    have HA := Lib.hid hall
    clear hall
    by_cases hlt : k < zs.length
    · obtain ⟨b, off, rfl, hb, hc⟩ := hr k hlt
      obtain ⟨hz1, hz2⟩ := HZ.out _ (mem_getD zs k hlt)
      obtain ⟨z, hzk⟩ : ∃ z, z = zs[k]?.getD 0 := ⟨_, rfl⟩
      rw [← hzk] at hc hz1 hz2
      have HK := Lib.hid hzk
      clear hzk
      by_cases hn : z < 0
      · go_wp2
        go_ret2
        exact ⟨ret_se ((flipR_no hlt (by rw [← HK.out]; exact isBit_no (.inl hn))).symm.trans H.out), Below.refl _ _⟩
      · obtain ⟨n, rfl⟩ := Int.eq_ofNat_of_zero_le (show 0 ≤ z by omega)
        by_cases hbig : (s.size : Int) ≤ (n : Int) / 8
        · have d1 : decide ((n : Int) < 0) = false := decide_eq_false (by omega)
          go_wp2
          go_ret2
          exact ⟨ret_se ((flipR_no hlt (by rw [← HK.out]; exact isBit_no (.inr hbig))).symm.trans H.out), Below.refl _ _⟩
        · have d1 : decide ((n : Int) < 0) = false := decide_eq_false (by omega)
          have d2 : decide ((s.size : Int) ≤ (n : Int) / 8) = false := decide_eq_false (by omega)
          go_wp2
          go_round
          case rel =>
            refine ⟨k + 1, by omega, by go_num, fun j hj => ?_⟩
            by_cases e : j = k
            · subst e; rw [← HK.out]; exact isBit_yes (by omega) (by omega)
            · exact HA.out j (by omega)
          case measure => simp [intOf]; omega
    · have hk2 : k = zs.length := by omega
      subst hk2
      have hall := HA.out
      have HF := Lib.hid (flipR_yes HA.out)
      clear hall
      go_wp2
      go_loopw [8] (fun i wr => ∃ k : Nat, k ≤ zs.length ∧ i = .int .i64 k ∧ Bts wr w.heap.size (flips s.data.toList (zs.take k)) ∧ Below w.heap.size w wr) (fun i _ => zs.length - (intOf i).toNat)
      case atStart => exact ⟨0, by omega, rfl, bw_bts w s, bw_below w s⟩
      case round =>
        obtain ⟨k, hk, rfl, hbt, hB⟩ := hrel
        by_cases hlt : k < zs.length
        · obtain ⟨b, off, rfl, hb, hc⟩ := (hr.below hB) k hlt
          obtain ⟨hz1, hz2⟩ := HZ.out _ (mem_getD zs k hlt)
          have hf := Lib.hid (flips_snoc s.data.toList zs k hlt)
          have hib := HA.out k hlt
          obtain ⟨z, hzk⟩ : ∃ z, z = zs[k]?.getD 0 := ⟨_, rfl⟩
          rw [← hzk] at hc hz1 hz2 hib
          have HK := Lib.hid hzk
          clear hzk
          obtain ⟨hp1, hp2⟩ := isBit_out hib
          clear hib
          obtain ⟨n, rfl⟩ := Int.eq_ofNat_of_zero_le hp1
          have hlen : (flips s.data.toList (zs.take k)).length = s.size := by rw [flips_len]; simp
          generalize hL : flips s.data.toList (zs.take k) = l at hbt hlen hf
          obtain ⟨q, hq⟩ : ∃ q, n / 8 = q := ⟨_, rfl⟩
          obtain ⟨r, hr8⟩ : ∃ r, n % 8 = r := ⟨_, rfl⟩
          have hq1 : q < l.length := by omega
          have hq2 : q < s.size := by omega
          have hr2 : r < 8 := by omega
          obtain ⟨hcl, hfr⟩ := hbt.cell q hq1
          have e1 : (n : Int) / 8 = (q : Int) := by omega
          have e2 : (n : Int) % 8 = (r : Int) := by omega
          have e3 : (n : Int).tdiv 8 = (q : Int) := by rw [Int.tdiv_eq_ediv_of_nonneg (by omega)]; omega
          have e4 : (n : Int).tmod 8 = (r : Int) := by rw [Int.tmod_eq_emod_of_nonneg (by omega)]; omega
          have e5 : IntKind.i64.wrap (q : Int) = q := IntWalk.i64_in _ (by omega)
          have e6 : IntKind.i64.wrap (r : Int) = r := IntWalk.i64_in _ (by omega)
          have e7 : IntKind.u64.wrap (r : Int) = r := wrap_u64_in _ (by omega) (by omega)
          have HQ := Lib.hid hq
          have HR := Lib.hid hr8
          clear hq hr8
          have HL := Lib.hid hL
          have hlen' := Lib.hid hlen
          clear hL hlen
          go_wp2
          go_still_tail 23, (by kernel_rfl)
          have hbt2 := hbt.drew
          have hB2 := hB.drew
          change wpList _ _ _ _ _ wr.drew
          generalize wr.drew = w2 at hbt2 hB2 ⊢
          clear hcl hfr hbt hc
          obtain ⟨hcl2, hfr2⟩ := hbt2.cell q hq1
          have HV := Lib.hid (flip_val l q r n hq1 HR.out)
          have HS := Lib.hid (hbt2.set q hq1 (l[q]?.getD 0 ^^^ bitB n))
          go_wp2
          go_roundw
          case rel =>
            refine ⟨k + 1, by omega, by go_num, ?_, hB2.setCell (p := ⟨w.heap.size, q, none⟩) (Nat.le_refl _) _⟩
            have h1 := HS.out
            have h2 := hf.out
            rw [← HV.out] at h1
            rw [h2, ← HK.out]
            have h3 : flip1 l ((n : Int)).toNat = l.set q (l[q]?.getD 0 ^^^ bitB n) := by
              rw [Int.toNat_natCast]; unfold flip1; rw [HQ.out]
            rw [h3]
            exact h1
          case measure => simp [intOf]; omega
        · have hk2 : k = zs.length := by omega
          subst hk2
          have hcv := hbt.conv s.size (bcap w s) (by rw [flips_len]; simp)
          rw [List.take_length] at hcv
          go_wp2
          go_ret2
          exact ⟨ret_se (HF.out.symm.trans H.out), hB⟩
end Go.Proofs.Ytpdpdmkfgbmdmaa
