/-
  Layer 7: the reference's List and Place.
-/
import Derived.Test.YtniimoebgajefaaS07K
import Derived.Deep.RegionHeld3
import Derived.Deep.AppendLies
namespace Go.Proofs.Ytniimoebgajefaa.s07
set_option linter.unusedVariables false
set_option linter.unusedSimpArgs false
open Go.RowKit
open kit

theorem fL_join (l : List Li) (y p : Int) (x : ByteArray) : (⟨(fL l).toArray⟩ : ByteArray) ++ frm y x = ⟨(fL (l ++ [(y, x, p)])).toArray⟩ := by
  apply bytes_ext
  rw [ByteArray.data_append, Array.toList_append, fL_app, fL_one]
  unfold fB
  simp
theorem fL_size (l : List Li) : (⟨(fL l).toArray⟩ : ByteArray).size = (fL l).length := by simp [ByteArray.size]
theorem chkL_bytes {t sy at' : Int} {tx : ByteArray} {q : Int} (h : chkL t (sy, tx, at') = q) : bytesR sy tx at' t = if q = 0 then (frm sy tx, 0) else (⟨#[]⟩, q) := by
  unfold bytesR
  have : chkR sy tx.size at' t = q := h
  rw [this]
set_option maxRecDepth 100000 in
set_option maxHeartbeats 1000000 in
theorem rlist_any (a : Option Addr) (c : Nat) (l : List Li) (t : Int) (w : World) (hn : l.length ≤ 9223372036854775807) (hr : Hid (ReadsL w a l)) (b : ByteArray) (er : Int) (H : Hid (listR l t = (b, er))) :
    Calls Try.prog 29 #[.slice a l.length c, .int .i64 t] w fun e w' => e = .returned (.tuple #[.string b, .int .i64 er]) ∧ Below w.heap.size w w' := by
  have hc := H.out
  unfold listR allR at hc
  clear H
  by_cases hbig : 1000 < l.length
  · have HC : Hid ((⟨#[]⟩, 6) = (b, er)) := Lib.hid (by rw [← hc, if_pos hbig]; rfl)
    have hb2 : (1000 : Int) < (l.length : Int) := by omega
    clear hc
    go_enter Try.func29, Try.ntmps29
    go_wp2
    go_ret2
    exact ⟨ret_se HC.out, Below.refl _ _⟩
  · rw [if_neg hbig] at hc
    have HC : Hid ((if firstE (chkL t) (l.drop 0) = 0 then (⟨(fL l).toArray⟩, 0) else (⟨#[]⟩, firstE (chkL t) (l.drop 0))) = (b, er)) := Lib.hid hc
    have hb2 : ¬ (1000 : Int) < (l.length : Int) := by omega
    have hb3 : l.length ≤ 1000 := by omega
    clear hc hbig
    go_enter Try.func29, Try.ntmps29
    go_wp2
    go_loopw [7, 6] (fun i o wr => ∃ k : Nat, i = .int .i64 k ∧ k ≤ l.length ∧ o = .string ⟨(fL (l.take k)).toArray⟩ ∧ Hid (∀ x ∈ l.take k, okB x) ∧ Hid ((if firstE (chkL t) (l.drop k) = 0 then (⟨(fL l).toArray⟩, 0) else (⟨#[]⟩, firstE (chkL t) (l.drop k))) = (b, er)) ∧ Hid (Below w.heap.size w wr)) (fun i _ _ => l.length - (intOf i).toNat)
    case atStart => exact ⟨0, rfl, by omega, rfl, Lib.hid (by intro x hx; simp at hx), HC, Lib.hid (Below.refl _ _)⟩
    case round =>
      obtain ⟨k, rfl, hk, rfl, HO, HE, HB⟩ := hrel
      clear HC
      by_cases hlt : k < l.length
      · obtain ⟨b1, off, rfl, hb, h0, h1, h2⟩ := (hr.out.below HB.out) k hlt
        have he := HE.out
        rw [drop_tok l k hlt] at he
        unfold firstE at he
        have htk := Lib.hid (take_tok l k hlt)
        have hln : (fL (l.take k)).length ≤ 30000 := by
          have := fL_len (l.take k) HO.out
          rw [List.length_take] at this
          omega
        have hsz := Lib.hid (fL_size (l.take k))
        generalize l[k]?.getD noLi = y at h0 h1 h2 he htk
        obtain ⟨sy, tx, at'⟩ := y
        obtain ⟨q, hq⟩ : ∃ q, chkL t (sy, tx, at') = q := ⟨_, rfl⟩
        rw [hq] at he
        have hbq := chkL_bytes hq
        have hwr := HB.out.size
        clear HE
        by_cases hq0 : q = 0
        · rw [if_pos hq0] at he hbq
          subst hq0
          have hokx := chkL_okB hq
          have HN := Lib.hid he
          have HQ := Lib.hid hbq
          have HJ := Lib.hid (fL_join (l.take k) sy at' tx)
          have HO2 : Hid (∀ x ∈ l.take (k + 1), okB x) := Lib.hid (by
            rw [htk.out]
            intro x hx
            rcases List.mem_append.1 hx with h | h
            · exact HO.out x h
            · rw [List.mem_singleton.1 h]; exact hokx)
          have hs9 : (⟨(fL (l.take k)).toArray⟩ : ByteArray).size + (frm sy tx).size ≤ 9223372036854775807 := by
            rw [hsz.out, frm_size]
            have := hokx.2.2
            simp only at this
            omega
          clear he hbq hq hokx hln
          generalize hS : (⟨(fL (l.take k)).toArray⟩ : ByteArray) = S at hs9 HJ ⊢
          clear hS hsz
          go_wp2_with (go_at_call 21; refine (rbytes_any sy at' t tx _ _ 0 HQ).mono ?_; rintro e w2 ⟨rfl, hB⟩; have B2 := Lib.hid (below_then HB.out hB); clear hB)
          go_roundw
          case rel => exact ⟨k + 1, by go_num, by omega, by rw [HJ.out, ← htk.out], HO2, HN, B2⟩
          case measure => simp [intOf]; omega
        · rw [if_neg hq0] at he hbq
          have HQ := Lib.hid hbq
          have HN : Hid ((⟨#[]⟩, q) = (b, er)) := Lib.hid (by rw [← he, if_neg hq0])
          have t0 : (q != 0) = true := by rw [bne_iff_ne]; exact hq0
          clear he hq0 hbq hq hsz
          go_wp2_with (go_at_call 21; refine (rbytes_any sy at' t tx _ _ q HQ).mono ?_; rintro e w2 ⟨rfl, hB⟩; have B2 := Lib.hid (below_then HB.out hB); clear hB)
          go_ret2
          exact ⟨ret_se HN.out, B2.out⟩
      · have he := HE.out
        rw [List.drop_eq_nil_of_le (by omega)] at he
        have hke : l.take k = l := List.take_of_length_le (by omega)
        have HN : Hid ((⟨(fL (l.take k)).toArray⟩, 0) = (b, er)) := Lib.hid (by rw [← he, hke]; rfl)
        clear he HE hke
        go_wp2
        go_ret2
        exact ⟨ret_se HN.out, HB.out⟩
end Go.Proofs.Ytniimoebgajefaa.s07
