/-
  The contract of the reference's Bits.
-/
import Derived.Test.YtpdpdmkfgbmdmaaWalksI
namespace Go.Proofs.Ytpdpdmkfgbmdmaa
set_option linter.unusedSimpArgs false
set_option linter.unusedVariables false
open Go.RowKit
open crcs (W)

/-- do two strings differ in this bit? -/
def dif (s t : ByteArray) (i : Nat) : Bool := (s.data.toList[i / 8]?.getD 0 ^^^ t.data.toList[i / 8]?.getD 0).toNat.testBit (i % 8)
/-- the bits below n in which they differ -/
def diffs (s t : ByteArray) (n : Nat) : List Int := ((List.range n).filter (dif s t)).map fun i : Nat => (i : Int)
theorem diffs_yes {s t : ByteArray} {n : Nat} (h : dif s t n = true) : diffs s t (n + 1) = diffs s t n ++ [(n : Int)] := by
  unfold diffs
  rw [List.range_succ, List.filter_append, List.map_append]
  simp [h]
theorem diffs_no {s t : ByteArray} {n : Nat} (h : dif s t n = false) : diffs s t (n + 1) = diffs s t n := by
  unfold diffs
  rw [List.range_succ, List.filter_append, List.map_append]
  simp [h]
/-- two results: numbers, error -/
def Lst (w : World) (L : List Int) (er : Int) (e : Ending) (w' : World) : Prop :=
  ∃ a c, e = .returned (.tuple #[.slice a L.length c, .int .i64 er]) ∧ ReadsI w' a L ∧ Below w.heap.size w w'

theorem diffs_yes' {s t : ByteArray} {k p : Nat} (h : dif s t (8 * k + p) = true) : diffs s t (8 * k + (p + 1)) = diffs s t (8 * k + p) ++ [8 * (k : Int) + p] := by
  have := diffs_yes h
  rw [← Nat.add_assoc, this]
  simp
theorem diffs_no' {s t : ByteArray} {k p : Nat} (h : dif s t (8 * k + p) = false) : diffs s t (8 * k + (p + 1)) = diffs s t (8 * k + p) := diffs_no h
theorem src_one (W0 : World) (v : Value) (t : TypeId) : Src (W0.alloc (.cells #[v] t)) (some ⟨W0.heap.size, 0, none⟩) 1 [v] := by
  refine .inr ⟨_, rfl, fun j u hu => ?_⟩
  have hj : j = 0 := by
    rcases Nat.eq_zero_or_pos j with h | h
    · exact h
    · rw [List.getElem?_eq_none (by simp; omega)] at hu; cases hu
  subst hj
  have : v = u := by simpa using hu
  subst this
  simp [Addr.add]
theorem row_alloc_drewN {w : World} {B E k : Nat} {v : Value} {xs : List Value} (h : w.ownsRow B E 1 v k xs) (n : Nat) (o : Obj) : ((w.drewN n).alloc o).ownsRow B E 1 v k xs := (show (w.drewN n).ownsRow B E 1 v k xs from h).alloc o
theorem row_snoc {w : World} {B : Nat} {v : Value} {D L : List Int} {z : Int} (hL : L = D ++ [z]) (h : w.ownsRow B 3 1 v (D.length + 1) (D.map (Value.int .i64) ++ [.int .i64 z])) : w.ownsRow B 3 1 v L.length (L.map (Value.int .i64)) := by
  subst hL
  simpa using h
theorem lst_row {w w' : World} {v : Value} {D L : List Int} (hL : D = L) (h : w'.ownsRow w.heap.size 3 1 v D.length (D.map (Value.int .i64))) (hB : Below w.heap.size w w') : Lst w L 0 (.returned (.tuple #[v, .int .i64 0])) w' := by
  subst hL
  obtain ⟨a1, c1, rfl⟩ := row_shape h
  exact ⟨_, _, rfl, reads_of_row rfl h, hB⟩
theorem diffs_len (s t : ByteArray) (n : Nat) : (diffs s t n).length ≤ n := by
  unfold diffs
  have := List.length_filter_le (dif s t) (List.range n)
  simp at *
  omega
/-- what Bits answers -/
def bitsR (s t : ByteArray) : List Int × Int := if s.size = t.size then (diffs s t (8 * s.size), 0) else ([], 2)
/-- the walk's test of a bit -/
theorem bit_test (x : UInt8) (p : Nat) (hp : p < 8) : (bits .and .u8 ((x.toNat : Int) / 2 ^ p) 1 == 1) = x.toNat.testBit p := by
  have h : (x.toNat : Int) / 2 ^ p = ((x.toNat >>> p : Nat) : Int) := by
    rw [Nat.shiftRight_eq_div_pow, Int.natCast_ediv, Int.natCast_pow]; rfl
  have hlt : x.toNat >>> p < 256 := by
    rw [Nat.shiftRight_eq_div_pow]
    exact Nat.lt_of_le_of_lt (Nat.div_le_self _ _) x.toNat_lt
  have e : bits .and .u8 ((x.toNat >>> p : Nat) : Int) 1 = IntKind.u8.wrap ((BitVec.ofInt 8 ((x.toNat >>> p : Nat) : Int) &&& BitVec.ofInt 8 1).toNat : Int) := rfl
  rw [h, e, BitVec.ofInt_natCast, BitVec.toNat_and, BitVec.toNat_ofNat, Nat.mod_eq_of_lt (show x.toNat >>> p < 2 ^ 8 from hlt)]
  have e1 : (BitVec.ofInt 8 1).toNat = 1 := by decide
  rw [e1, Nat.and_one_is_mod, wrap_u8_in _ (by omega) (by omega)]
  rw [Nat.testBit, Nat.and_comm, Nat.and_one_is_mod]
  rcases (show x.toNat >>> p % 2 = 0 ∨ x.toNat >>> p % 2 = 1 by omega) with h | h <;> rw [h] <;> rfl
theorem dif_at (s t : ByteArray) (k p : Nat) (hs : k < s.size) (ht : k < t.size) (hp : p < 8) : dif s t (8 * k + p) = (s[k] ^^^ t[k]).toNat.testBit p := by
  unfold dif
  rw [show (8 * k + p) / 8 = k by omega, show (8 * k + p) % 8 = p by omega, List.getElem?_eq_getElem (by simpa using hs), List.getElem?_eq_getElem (by simpa using ht)]
  rfl
set_option maxRecDepth 100000 in
set_option maxHeartbeats 1000000 in
theorem bitsr_any (s t : ByteArray) (L : List Int) (er : Int) (w : World) (hs : s.size ≤ 10000) (H : Hid (bitsR s t = (L, er))) :
    Calls Try.prog 32 #[.string s, .string t] w (Lst w L er) := by
  have h := H.out
  unfold bitsR at h
  clear H
  by_cases hne : s.size = t.size
  case neg =>
    rw [if_neg hne] at h; cases h
    have tne : ((s.size : Int) != t.size) = true := by rw [bne_iff_ne]; omega
    clear hne
    go_enter Try.func32, Try.ntmps32
    go_wp2
    go_ret2
    exact ⟨_, _, rfl, Reads.nil _ _, Below.refl _ _⟩
  rw [if_pos hne] at h
  have teq : ((s.size : Int) != t.size) = false := by rw [bne_eq_false_iff_eq]; omega
  obtain ⟨hL, rfl⟩ := Prod.mk.inj h
  have HL := Lib.hid hL
  have hst : s.size ≤ t.size := by omega
  have HE := Lib.hid hne
  clear hne h hL
  go_enter Try.func32, Try.ntmps32
  go_wp2
  go_loopw [6, 7] (fun v i wr => ∃ k : Nat, k ≤ s.size ∧ i = .int .i64 k ∧ wr.ownsRow w.heap.size 3 1 v (diffs s t (8 * k)).length ((diffs s t (8 * k)).map (Value.int .i64)) ∧ Below w.heap.size w wr) (fun _ i _ => s.size - (intOf i).toNat)
  case atStart => exact ⟨0, by omega, rfl, World.ownsRow_nil _ _ _ _, Below.refl _ _⟩
  case round =>
    obtain ⟨k, hk, rfl, hrow, hB⟩ := hrel
    by_cases hlt : k < s.size
    · have hlt' : k < t.size := by omega
      obtain ⟨wo, rfl⟩ : ∃ wo : World, wo = wr := ⟨_, rfl⟩
      go_wp2
      go_loopw [6, 8] (fun v i wr => ∃ p : Nat, p ≤ 8 ∧ i = .int .i64 p ∧ wr.ownsRow w.heap.size 3 1 v (diffs s t (8 * k + p)).length ((diffs s t (8 * k + p)).map (Value.int .i64)) ∧ Below w.heap.size w wr) (fun _ i _ => 8 - (intOf i).toNat)
      case atStart => exact ⟨0, by omega, rfl, hrow, hB⟩
      case round =>
        obtain ⟨p, hp, rfl, hrow2, hB2⟩ := hrel
        clear hrow hB
        by_cases hlt2 : p < 8
        · have hd := dif_at s t k p hlt hlt' hlt2
          have hx := xor_b s[k] t[k]
          have hbt := bit_test (s[k] ^^^ t[k]) p hlt2
          rw [← hd] at hbt
          have hlen := diffs_len s t (8 * k + p)
          have hyes := Lib.hid (fun h => diffs_yes' (s := s) (t := t) (k := k) (p := p) h)
          have hno := Lib.hid (fun h => diffs_no' (s := s) (t := t) (k := k) (p := p) h)
          generalize diffs s t (8 * k + p) = D at hrow2 hlen hyes hno
          generalize s[k] ^^^ t[k] = y at hx hbt
          have e7 : IntKind.u64.wrap (p : Int) = p := wrap_u64_in _ (by omega) (by omega)
          clear hd
          cases hdif : dif s t (8 * k + p)
          · have HN := Lib.hid (hno.out hdif)
            rw [hdif] at hbt
            clear hyes hno hdif
            go_wp2
            go_quiet (fail)
            go_wp2
            go_roundw
            case rel => exact ⟨p + 1, by omega, by go_num, by rw [HN.out]; exact hrow2, below_drewN hB2 _⟩
            case measure => simp [intOf]; omega
          · have HN := Lib.hid (hyes.out hdif)
            rw [hdif] at hbt
            clear hyes hno hdif
            go_wp2
            go_quiet (fail)
            go_wp2_with (at_builtin; refine append_in Try.underlying36 info3 rfl (by omega) rfl (.tmp 36) (.tmp 41) rfl w.heap.size _ D.length (D.map (Value.int .i64)) rfl (row_alloc_drewN hrow2 _ _) _ [.int .i64 (8 * (k : Int) + p)] 1 1 rfl rfl (src_one _ _ _) (by simp [Value.oneCell']) (by omega) (by have := hB2.size; simp; omega) ?_; intro v1 wA hv1 hBA; have hBz := ((below_drewN hB2 _).alloc hB2.size _).trans hBA)
            go_roundw
            case rel => exact ⟨p + 1, by omega, by go_num, row_snoc HN.out hv1, hBz⟩
            case measure => simp [intOf]; omega
        · obtain rfl : p = 8 := by omega
          go_wp2
          go_roundw
          case rel => exact ⟨k + 1, by omega, by go_num, hrow2, hB2⟩
          case measure => simp [intOf]; omega
    · obtain rfl : k = s.size := by omega
      go_wp2
      go_ret2
      exact lst_row HL.out hrow hB
end Go.Proofs.Ytpdpdmkfgbmdmaa
