/-
  The contracts of Flip, of the program and of the reference.
-/
import Derived.Test.YtpdpdmkfgbmdmaaWalksG
import Derived.StillTailTactics
import Derived.IntWalk
import Derived.Laws.IdiomStrings
namespace Go.Proofs.Ytpdpdmkfgbmdmaa
set_option linter.unusedSimpArgs false
set_option linter.unusedVariables false
open Go.RowKit
open crcs (W)

/-- block b holds bytes, from its head on -/
def Bts (w : World) (b : Nat) (l : List UInt8) : Prop :=
  ∃ cs fr, w.heap[b]? = some (.cells cs 5 fr) ∧ l.length ≤ fr.1 ∧ ∀ i, i < l.length → cs[i]? = some (.int .u8 ((l[i]?.getD 0).toNat : Int))
theorem Bts.lt {w : World} {b : Nat} {l : List UInt8} (h : Bts w b l) : b < w.heap.size := by
  obtain ⟨cs, fr, hb, _⟩ := h
  exact (Array.getElem?_eq_some_iff.1 hb).1
theorem Bts.below {w w1 : World} {b : Nat} {l : List UInt8} (h : Bts w b l) (hB : Below w.heap.size w w1) : Bts w1 b l := by
  have hl := h.lt
  obtain ⟨cs, fr, hb, h1⟩ := h
  exact ⟨cs, fr, (hB.block b hl).trans hb, h1⟩
theorem Bts.drew {w : World} {b : Nat} {l : List UInt8} (h : Bts w b l) : Bts w.drew b l := h
theorem Bts.cell {w : World} {b : Nat} {l : List UInt8} (h : Bts w b l) (i : Nat) (hi : i < l.length) : w.cell? ⟨b, i, none⟩ = some (.int .u8 ((l[i]?.getD 0).toNat : Int)) ∧ w.frozen? ⟨b, i, none⟩ = false := by
  obtain ⟨cs, fr, hb, h1, h2⟩ := h
  unfold World.cell? World.frozen?
  rw [hb]
  refine ⟨by simpa using h2 i hi, ?_⟩
  simp
  omega
theorem Bts.set {w : World} {b : Nat} {l : List UInt8} (h : Bts w b l) (i : Nat) (hi : i < l.length) (x : UInt8) : Bts (w.setCell ⟨b, i, none⟩ (.int .u8 (x.toNat : Int))) b (l.set i x) := by
  obtain ⟨cs, fr, hb, h1, h2⟩ := h
  obtain ⟨hlt, hv⟩ := Array.getElem?_eq_some_iff.1 hb
  have hsz : i < cs.size := (Array.getElem?_eq_some_iff.1 (h2 i hi)).1
  refine ⟨cs.setIfInBounds i (.int .u8 (x.toNat : Int)), fr, ?_, by simpa using h1, fun j hj => ?_⟩
  · show (w.heap.modify b _)[b]? = _
    rw [Array.getElem?_eq_getElem (by rw [Array.size_modify]; exact hlt), Array.getElem_modify_self, hv]
    simp
  · rw [Array.getElem?_setIfInBounds, List.getElem?_set]
    by_cases e : i = j
    · subst e; simp [hsz, hi]
    · rw [if_neg e, if_neg e]; exact h2 j (by simpa using hj)
/-- the world behind a conversion of a string to bytes -/
def bw (w : World) (s : ByteArray) : World := w.drew.alloc (.cells (bytesRow s (grownCap w s.size 0 5)) 5 ((bytesRow s (grownCap w s.size 0 5)).size, (bytesRow s (grownCap w s.size 0 5)).size + 1))
def bcap (w : World) (s : ByteArray) : Nat := grownCap w s.size 0 5
theorem conv_str (w : World) (s : ByteArray) : (convert 9 51 (.string s)).run Try.prog w = .ok (.slice (some ⟨w.heap.size, 0, none⟩) s.size (bcap w s)) (bw w s) :=
  run_bytes_of_string w 9 51 5 s Try.underlying9 Try.underlying51 Try.underlying5
theorem bw_below (w : World) (s : ByteArray) : Below w.heap.size w (bw w s) := (Below.refl _ w).drew.alloc (Nat.le_refl _) _
theorem bw_bts (w : World) (s : ByteArray) : Bts (bw w s) w.heap.size s.data.toList := by
  refine ⟨_, _, World.alloc_heap_new w.drew _, ?_, fun i hi => ?_⟩
  · simp [bytesRow]
  · have hi' : i < s.data.size := by simpa using hi
    unfold bytesRow
    rw [Array.getElem?_append_left (by simpa using hi')]
    rw [Array.getElem?_map, Array.getElem?_eq_getElem hi', show s.data.toList[i]?.getD 0 = s.data[i] by rw [List.getElem?_eq_getElem hi]; rfl]
    rfl
theorem Bts.conv {w : World} {b : Nat} {l : List UInt8} (h : Bts w b l) (n c : Nat) (hn : l.length = n) : (convert 51 9 (.slice (some ⟨b, 0, none⟩) n c)).run Try.prog w = .ok (.string ⟨l.toArray⟩) w := by
  subst hn
  refine run_convert_bytes_back w 51 9 5 ⟨b, 0, none⟩ c l Try.underlying51 Try.underlying5 Try.underlying9 fun j hj => ?_
  have := (h.cell j hj).1
  rw [List.getElem?_eq_getElem hj] at this
  rw [Go.WideShapes.add_plain, Nat.zero_add]
  simpa using this

theorem wrap_u64_in (a : Int) (h1 : 0 ≤ a) (h2 : a ≤ 18446744073709551615) : IntKind.u64.wrap a = a := by
  simp only [IntKind.wrap, IntKind.signed, IntKind.bits, Bool.false_and, Bool.false_eq_true, if_false]
  omega
/-- a bit of a byte -/
def bitB (n : Nat) : UInt8 := UInt8.ofNat (2 ^ (n % 8))
/-- a bit turned -/
def flip1 (l : List UInt8) (n : Nat) : List UInt8 := l.set (n / 8) (l[n / 8]?.getD 0 ^^^ bitB n)
def flips (l : List UInt8) (zs : List Int) : List UInt8 := zs.foldl (fun l z => flip1 l z.toNat) l
/-- is that the number of a bit? -/
def isBit (n : Nat) (z : Int) : Bool := decide (0 ≤ z) && decide (z / 8 < n)
/-- what Flip answers -/
def flipR (s : ByteArray) (zs : List Int) : ByteArray × Int :=
  if zs.all (isBit s.size) then (⟨(flips s.data.toList zs).toArray⟩, 0) else (⟨#[]⟩, 2)
theorem flip1_len (l : List UInt8) (n : Nat) : (flip1 l n).length = l.length := by simp [flip1]
theorem flips_len (zs : List Int) : ∀ l : List UInt8, (flips l zs).length = l.length := by
  induction zs with
  | nil => intro l; rfl
  | cons z zs ih => intro l; show (flips (flip1 l z.toNat) zs).length = _; rw [ih, flip1_len]
theorem flips_snoc (l : List UInt8) (zs : List Int) (k : Nat) (h : k < zs.length) : flips l (zs.take (k + 1)) = flip1 (flips l (zs.take k)) (zs[k]?.getD 0).toNat := by
  rw [List.take_succ_eq_append_getElem h, flips, List.foldl_append, List.getElem?_eq_getElem h]
  rfl
theorem isBit_no {n : Nat} {z : Int} (h : z < 0 ∨ (n : Int) ≤ z / 8) : isBit n z = false := by
  unfold isBit
  rcases h with h | h
  · rw [decide_eq_false (by omega)]; rfl
  · rw [decide_eq_false (p := z / 8 < n) (by omega), Bool.and_false]
theorem isBit_yes {n : Nat} {z : Int} (h : 0 ≤ z) (h2 : z / 8 < n) : isBit n z = true := by
  unfold isBit
  rw [decide_eq_true h, decide_eq_true h2]; rfl
theorem isBit_out {n : Nat} {z : Int} (h : isBit n z = true) : 0 ≤ z ∧ z / 8 < n := by
  unfold isBit at h
  simpa using h
theorem flipR_no {s : ByteArray} {zs : List Int} {k : Nat} (hk : k < zs.length) (h : isBit s.size (zs[k]?.getD 0) = false) : flipR s zs = (⟨#[]⟩, 2) := by
  unfold flipR
  rw [if_neg]
  intro ha
  have := List.all_eq_true.1 ha _ (show zs[k]?.getD 0 ∈ zs by rw [List.getElem?_eq_getElem hk]; exact List.getElem_mem hk)
  rw [h] at this
  cases this
theorem flipR_yes {s : ByteArray} {zs : List Int} (h : ∀ j, j < zs.length → isBit s.size (zs[j]?.getD 0) = true) : flipR s zs = (⟨(flips s.data.toList zs).toArray⟩, 0) := by
  unfold flipR
  rw [if_pos]
  rw [List.all_eq_true]
  intro z hz
  obtain ⟨i, hi, rfl⟩ := List.getElem_of_mem hz
  have := h i hi
  rwa [List.getElem?_eq_getElem hi] at this

theorem flip_val (l : List UInt8) (q r n : Nat) (hq : q < l.length) (hr : n % 8 = r) : bits .xor .u8 ((l[q]).toNat : Int) (IntKind.u8.wrap (2 ^ r)) = ((l[q]?.getD 0 ^^^ bitB n).toNat : Int) := by
  have h : IntKind.u8.wrap (2 ^ r) = ((bitB n).toNat : Int) := by
    unfold bitB
    rw [hr, wrap_u8, UInt8.toNat_ofNat', Int.natCast_emod, Int.natCast_pow]
    rfl
  rw [h, xor_b, List.getElem?_eq_getElem hq]
  rfl
theorem ret_se {x x' : ByteArray} {er er' : Int} (h : (x, er) = (x', er')) : Ending.returned (.tuple #[.string x, .int .i64 er]) = .returned (.tuple #[.string x', .int .i64 er']) := by
  cases h; rfl
theorem mem_getD (zs : List Int) (k : Nat) (h : k < zs.length) : zs[k]?.getD 0 ∈ zs := by
  rw [List.getElem?_eq_getElem h]; exact List.getElem_mem h
set_option maxRecDepth 100000 in
theorem flip_any (s : ByteArray) (a : Option Addr) (cap : Nat) (zs : List Int) (x : ByteArray) (er : Int) (w : World) (hn : zs.length ≤ 100000) (hs : s.size ≤ 1000000) (hz : ∀ z ∈ zs, -9223372036854775808 ≤ z ∧ z ≤ 9223372036854775807) (hr : ReadsI w a zs) (H : Hid (flipR s zs = (x, er))) :
    Calls Try.prog 28 #[.string s, .slice a zs.length cap] w fun e w' => e = .returned (.tuple #[.string x, .int .i64 er]) ∧ Below w.heap.size w w' := by
  have HZ := Lib.hid hz
  clear hz
  have cv := conv_str w s
  go_enter Try.func28, Try.ntmps28
  go_wp2
  go_loopw [8, 13] (fun _ i wr => ∃ k : Nat, k ≤ zs.length ∧ i = .int .i64 k ∧ Bts wr w.heap.size (flips s.data.toList (zs.take k)) ∧ Below w.heap.size w wr ∧ ∀ j, j < k → isBit s.size (zs[j]?.getD 0) = true) (fun _ i _ => zs.length - (intOf i).toNat)
  case atStart => exact ⟨0, by omega, rfl, bw_bts w s, bw_below w s, fun j hj => by omega⟩
  case round =>
    obtain ⟨k, hk, rfl, hbt, hB, hall⟩ := hrel
    have HA := Lib.hid hall
    clear hall
    by_cases hlt : k < zs.length
    · obtain ⟨b, off, rfl, hb, hc⟩ := (hr.below hB) k hlt
      obtain ⟨hz1, hz2⟩ := HZ.out _ (mem_getD zs k hlt)
      have hf := Lib.hid (flips_snoc s.data.toList zs k hlt)
      obtain ⟨z, hzk⟩ : ∃ z, z = zs[k]?.getD 0 := ⟨_, rfl⟩
      rw [← hzk] at hc hz1 hz2
      have HK := Lib.hid hzk
      clear hzk
      by_cases hn : z < 0
      · go_wp2
        go_ret2
        exact ⟨ret_se ((flipR_no hlt (by rw [← HK.out]; exact isBit_no (.inl hn))).symm.trans H.out), hB⟩
      · obtain ⟨n, rfl⟩ := Int.eq_ofNat_of_zero_le (show 0 ≤ z by omega)
        by_cases hbig : (s.size : Int) ≤ (n : Int) / 8
        · have d1 : decide ((n : Int) < 0) = false := decide_eq_false (by omega)
          go_wp2
          go_ret2
          exact ⟨ret_se ((flipR_no hlt (by rw [← HK.out]; exact isBit_no (.inr hbig))).symm.trans H.out), hB⟩
        · have d1 : decide ((n : Int) < 0) = false := decide_eq_false (by omega)
          have d2 : decide ((s.size : Int) ≤ (n : Int) / 8) = false := decide_eq_false (by omega)
          have hlen : (flips s.data.toList (zs.take k)).length = s.size := by rw [flips_len]; simp
          generalize hL : flips s.data.toList (zs.take k) = l at hbt hlen hf
          obtain ⟨q, hq⟩ : ∃ q, n / 8 = q := ⟨_, rfl⟩
          obtain ⟨r, hr8⟩ : ∃ r, n % 8 = r := ⟨_, rfl⟩
          have hq1 : q < l.length := by omega
          have hq2 : q < s.size := by omega
          have hr2 : r < 8 := by omega
          obtain ⟨hcl, hfr⟩ := hbt.cell q hq1
          have e1 : (n : Int) / 8 = (q : Int) := by omega
          have e2 : (n : Int) % 8 = (r : Int) := by omega
          have e3 : (n : Int).tdiv 8 = (q : Int) := by rw [Int.tdiv_eq_ediv_of_nonneg (by omega)]; omega
          have e4 : (n : Int).tmod 8 = (r : Int) := by rw [Int.tmod_eq_emod_of_nonneg (by omega)]; omega
          have e5 : IntKind.i64.wrap (q : Int) = q := IntWalk.i64_in _ (by omega)
          have e6 : IntKind.i64.wrap (r : Int) = r := IntWalk.i64_in _ (by omega)
          have HQ := Lib.hid hq
          have HR := Lib.hid hr8
          clear hq hr8
          have HL := Lib.hid hL
          have hlen' := Lib.hid hlen
          clear hL hlen
          go_wp2
          go_still_tail 10, (by kernel_rfl)
          have hbt2 := hbt.drew
          have hB2 := hB.drew
          change wpList _ _ _ _ _ wr.drew
          generalize wr.drew = w2 at hbt2 hB2 ⊢
          clear hcl hfr hbt hc
          obtain ⟨hcl2, hfr2⟩ := hbt2.cell q hq1
          have HV := Lib.hid (flip_val l q r n hq1 HR.out)
          have HS := Lib.hid (hbt2.set q hq1 (l[q]?.getD 0 ^^^ bitB n))
          go_wp2
          go_roundw
          case rel =>
            refine ⟨k + 1, by omega, by go_num, ?_, hB2.setCell (p := ⟨w.heap.size, q, none⟩) (Nat.le_refl _) _, fun j hj => ?_⟩
            · have h1 := HS.out
              have h2 := hf.out
              rw [← HV.out] at h1
              rw [h2, ← HK.out]
              have h3 : flip1 l ((n : Int)).toNat = l.set q (l[q]?.getD 0 ^^^ bitB n) := by
                rw [Int.toNat_natCast]; unfold flip1; rw [HQ.out]
              rw [h3]
              exact h1
            · by_cases e : j = k
              · subst e; rw [← HK.out]; exact isBit_yes (by omega) (by omega)
              · exact HA.out j (by omega)
          case measure => simp [intOf]; omega
    · have hk2 : k = zs.length := by omega
      subst hk2
      have hall := HA.out
      have hcv := hbt.conv s.size (bcap w s) (by rw [flips_len]; simp)
      rw [List.take_length] at hcv
      have HF := Lib.hid (flipR_yes HA.out)
      go_wp2
      go_ret2
      exact ⟨ret_se (HF.out.symm.trans H.out), hB⟩
end Go.Proofs.Ytpdpdmkfgbmdmaa
