/-
  The contracts of the helpers: Short, OwnTexts, SameTexts, OwnInts, SameInts, Mod.
-/
import Derived.Test.YtpdpdmkfgbmdmaaWalksF
import Derived.Laws.AppendOwnNone
namespace Go.Proofs.Ytpdpdmkfgbmdmaa
set_option linter.unusedSimpArgs false
set_option linter.unusedVariables false
open Go.RowKit
open crcs (W)

/-- what an append takes from: nothing, or a row of cells -/
def Src (w : World) (a : Option Addr) (c : Nat) (vs : List Value) : Prop :=
  (a = none ∧ vs = [] ∧ c = 0) ∨ ∃ x, a = some x ∧ ∀ j u, vs[j]? = some u → w.cell? (x.add j) = some u
theorem Src.below {w w1 : World} {a : Option Addr} {c : Nat} {vs : List Value} (h : Src w a c vs) (hB : Below w.heap.size w w1) : Src w1 a c vs := by
  rcases h with h | ⟨x, rfl, hc⟩
  · exact .inl h
  · refine .inr ⟨x, rfl, fun j u hu => ?_⟩
    have h1 := hc j u hu
    have hb : (x.add j).block < w.heap.size := by
      rcases Nat.lt_or_ge (x.add j).block w.heap.size with hlt | hge
      · exact hlt
      · have : w.heap[(x.add j).block]? = none := Array.getElem?_eq_none hge
        simp [World.cell?, this] at h1
    exact (hB.cell hb).trans h1
theorem Src.alloc {w : World} {a : Option Addr} {c : Nat} {vs : List Value} (h : Src w a c vs) (o : Obj) : Src (w.alloc o) a c vs := h.below ((Below.refl _ _).alloc (Nat.le_refl _) o)
theorem below_grown {B : Nat} {E : TypeId} {w w1 w2 : World} {v : Value} {k : Nat} {xs : List Value} (h : Below B w w1) (hr : w1.ownsRow B E 1 v k xs) (hg : w1.grownBy w2 v.ownBlock) (hB : B ≤ w1.heap.size) : Below B w w2 := by
  refine h.grown hg hB fun j ej => ?_
  rcases hr.2 with ⟨rfl, _⟩ | ⟨g, cap, cur, rfl, hb, _, _⟩
  · simp [Value.ownBlock] at ej
  · obtain rfl : g = j := by simpa [Value.ownBlock] using ej
    exact hb
theorem append_in {T E : TypeId} {z : Value} {bytes : Nat} (hT : Try.prog.underlying T = some (.slice E)) (hE : (Try.prog.info? E).map (fun i => (i.zero, i.size, i.bytes)) = some (some z, 1, bytes)) (hzc : z.cells.size = 1) (hby : bytes ≤ 1000)
    {w : World} {ops : Array Oper} {rest : List Oper} {o : Oper} {a : Act} {Q : Exit → Act → World → Prop}
    (hg : o.guard = none) (s x : Operand) (hop : o.op = Op.call { callee := Callee.builtin Builtin.append, args := #[s, x], argTypes := #[T, T] })
    (base : Nat) (v : Value) (k : Nat) (xs : List Value) (hs : a.eval s = v) (hown : w.ownsRow base E 1 v k xs) (src : Option Addr) (vs : List Value) (n c : Nat) (hx : a.eval x = .slice src n c) (hn : vs.length = n) (hsrc : Src w src c vs) (h1 : ∀ u ∈ vs, u.oneCell' = true)
    (hk : k + n ≤ 1000000) (hb : base ≤ w.heap.size)
    (hK : ∀ v' w', w'.ownsRow base E 1 v' (k + n) (xs ++ vs) → Below base w w' → wpList Try.prog ops Q rest (a.put o.dst v') w') :
    wpList Try.prog ops Q (o :: rest) a w := by
  obtain ⟨i0, hi, hz0, hz1, hz2⟩ := info_parts hE
  subst hn
  rcases hsrc with ⟨rfl, rfl, rfl⟩ | ⟨ad, rfl, hc⟩
  · refine wpList_append_own_none hg s x T hop base E i0 1 hT hi v k _ hs hown hx (hK v w ?_ (Below.refl _ _))
    simpa using hown
  · refine wpList_append_own w hg s x T hop base E i0 z 1 bytes hT hi hz0 hz1 hz2 hzc (by decide) v k _ hs hown ad vs.length c vs hx (by simp) hc h1 (by unfold maxLen; omega) ?_ hb fun v' w' h1 h2 _ => hK v' w' h1 (below_grown (Below.refl _ _) hown h2 hb)
    have : (k + vs.length) * bytes ≤ 1000000 * 1000 := Nat.mul_le_mul hk hby
    omega
theorem empty_row (E : TypeId) (w : World) (base : Nat) (hb : base ≤ w.heap.size) : (w.alloc (.cells #[] E)).ownsRow base E 1 (.slice (some ⟨w.heap.size, 0, none⟩) 0 0) 0 [] :=
  ⟨rfl, .inr ⟨w.heap.size, 0, #[], rfl, hb, World.alloc_heap_new w _, by omega, by unfold maxLen; omega, rfl, rfl⟩⟩
theorem row_shape {E : TypeId} {W : World} {base k : Nat} {v : Value} {xs : List Value} (h : W.ownsRow base E 1 v k xs) : ∃ a cap, v = .slice a k cap := by
  rcases h.2 with ⟨rfl, rfl⟩ | ⟨g, cap, _, rfl, _⟩
  · exact ⟨_, _, rfl⟩
  · exact ⟨_, _, rfl⟩
theorem cell_lt {w : World} {b o : Nat} {v : Value} (h : w.cell? ⟨b, o, none⟩ = some v) : b < w.heap.size := by
  rcases Nat.lt_or_ge b w.heap.size with hlt | hge
  · exact hlt
  · have : w.heap[b]? = none := Array.getElem?_eq_none hge
    simp [World.cell?, this] at h
theorem reads_of_row {α : Type} {f : α → Value} {d : α} {E : TypeId} {W : World} {base cap : Nat} {a : Option Addr} {L : List α} {k : Nat} (hk : L.length = k) (h : W.ownsRow base E 1 (.slice a k cap) k (L.map f)) : Reads f d W a L := by
  intro i hi
  rcases h.2 with ⟨_, h0⟩ | ⟨g, cap', cur, e, _, _, _⟩
  · omega
  · cases e
    have hc := h.cellAt i (by omega)
    have hx : (L.map f)[i]? = some (f (L[i]?.getD d)) := by simp [List.getElem?_eq_getElem hi]
    rw [hx] at hc
    exact ⟨g, 0, rfl, cell_lt hc, by rw [show 0 + i = i by omega]; exact hc⟩
theorem info3 : (Try.prog.info? 3).map (fun i => (i.zero, i.size, i.bytes)) = some (some (.int .i64 0), 1, 8) := by kernel_rfl
theorem info9 : (Try.prog.info? 9).map (fun i => (i.zero, i.size, i.bytes)) = some (some (.string ⟨#[]⟩), 1, 16) := by kernel_rfl

/-- a row that came in, read as a list -/
theorem row_in {α : Type} (f : α → Value) (d : α) {w : World} {x : Addr} {len cap : Nat} {z0 : List α} (hl : len ≤ cap) (hz : z0.length = cap) (hc : ∀ i, i < z0.length → w.cell? (x.add i) = some (f (z0.getD i d))) :
    Reads f d w (some x) (z0.take len) ∧ (∀ j u, ((z0.take len).map f)[j]? = some u → w.cell? (x.add j) = some u) := by
  constructor
  · intro i hi
    have hlen : (z0.take len).length = len := by simp; omega
    obtain ⟨b, off, spot⟩ := x
    have hspot : spot = none := by simpa [Addr.add] using World.cell?_spot (hc 0 (by omega))
    subst hspot
    have hcell := hc i (by omega)
    rw [Go.WideShapes.add_plain] at hcell
    refine ⟨b, off, rfl, cell_lt hcell, ?_⟩
    rw [hcell, List.getElem?_take, if_pos (by omega)]
    rfl
  · intro j u hu
    rw [List.getElem?_map, List.getElem?_take] at hu
    split at hu
    · rename_i hj
      have h := hc j (by omega)
      rw [h]
      simp only [List.getD_eq_getElem?_getD]
      cases he : z0[j]? with
      | none => rw [he] at hu; cases hu
      | some y => rw [he] at hu; simpa using hu
    · cases hu
/-- a slice of the call's own that reads as xs -/
def OwnOf {α : Type} (f : α → Value) (d : α) (w : World) (xs : List α) (e : Ending) (w' : World) : Prop :=
  ∃ a c, e = .returned (.slice a xs.length c) ∧ Reads f d w' a xs ∧ Below w.heap.size w w'
theorem own_ints (a : Option Addr) (c : Nat) (zs : List Int) (w : World) (hn : zs.length ≤ 100000) (hs : Src w a c (zs.map (Value.int .i64))) :
    Calls Try.prog 27 #[.slice a zs.length c] w (OwnOf (Value.int .i64) 0 w zs) := by
  go_enter Try.func27, Try.ntmps27
  go_wp2_with (at_builtin; refine append_in Try.underlying36 info3 rfl (by omega) rfl (.tmp 3) (.tmp 4) rfl w.heap.size _ 0 [] rfl (empty_row 3 w _ (Nat.le_refl _)) a (zs.map (Value.int .i64)) zs.length c rfl (by simp) (hs.alloc _) (by simp [Value.oneCell']) (by omega) (by simp) ?_; intro v1 wA hv1 hBA; simp only [Nat.zero_add, List.nil_append] at hv1; obtain ⟨a1, k1, rfl⟩ := row_shape hv1)
  go_ret
  exact ⟨a1, k1, rfl, reads_of_row rfl hv1, ((Below.refl _ w).alloc (Nat.le_refl _) _).trans hBA⟩
theorem own_texts (a : Option Addr) (c : Nat) (ss : List ByteArray) (w : World) (hn : ss.length ≤ 100000) (hs : Src w a c (ss.map Value.string)) :
    Calls Try.prog 13 #[.slice a ss.length c] w (OwnOf Value.string ByteArray.empty w ss) := by
  go_enter Try.func13, Try.ntmps13
  go_wp2_with (at_builtin; refine append_in Try.underlying23 info9 rfl (by omega) rfl (.tmp 3) (.tmp 4) rfl w.heap.size _ 0 [] rfl (empty_row 9 w _ (Nat.le_refl _)) a (ss.map Value.string) ss.length c rfl (by simp) (hs.alloc _) (by simp [Value.oneCell']) (by omega) (by simp) ?_; intro v1 wA hv1 hBA; simp only [Nat.zero_add, List.nil_append] at hv1; obtain ⟨a1, k1, rfl⟩ := row_shape hv1)
  go_ret
  exact ⟨a1, k1, rfl, reads_of_row rfl hv1, ((Below.refl _ w).alloc (Nat.le_refl _) _).trans hBA⟩

set_option maxRecDepth 100000 in
theorem same_ints (a b : Option Addr) (ca cb : Nat) (zs : List Int) (w : World) (hn : zs.length ≤ 9223372036854775807) (ra : ReadsI w a zs) (rb : ReadsI w b zs) :
    Calls Try.prog 30 #[.slice a zs.length ca, .slice b zs.length cb] w fun e w' => e = .returned (.bool true) ∧ ∃ n, w' = w.drewN n := by
  go_enter Try.func30, Try.ntmps30
  go_wp2
  go_loopw [5] (fun i wr => ∃ k n : Nat, k ≤ zs.length ∧ i = .int .i64 k ∧ wr = w.drewN n) (fun i _ => zs.length - (intOf i).toNat)
  case atStart => exact ⟨0, 0, by omega, rfl, rfl⟩
  case round =>
    obtain ⟨k, n, hk, rfl, rfl⟩ := hrel
    by_cases hlt : k < zs.length
    · obtain ⟨c1, o1, rfl, _, h1⟩ := ra k hlt
      obtain ⟨c2, o2, rfl, _, h2⟩ := rb k hlt
      generalize zs[k]?.getD 0 = y at h1 h2
      go_wp2
      go_quiet (fail)
      go_wp2
      go_roundw
      case rel => exact ⟨k + 1, _, by omega, by go_num, rfl⟩
      case measure => simp [intOf]; omega
    · go_wp2
      go_ret
      exact ⟨rfl, _, rfl⟩
set_option maxRecDepth 100000 in
theorem same_texts (a b : Option Addr) (ca cb : Nat) (zs : List ByteArray) (w : World) (hn : zs.length ≤ 9223372036854775807) (ra : ReadsS w a zs) (rb : ReadsS w b zs) :
    Calls Try.prog 18 #[.slice a zs.length ca, .slice b zs.length cb] w fun e w' => e = .returned (.bool true) ∧ ∃ n, w' = w.drewN n := by
  go_enter Try.func18, Try.ntmps18
  go_wp2
  go_loopw [5] (fun i wr => ∃ k n : Nat, k ≤ zs.length ∧ i = .int .i64 k ∧ wr = w.drewN n) (fun i _ => zs.length - (intOf i).toNat)
  case atStart => exact ⟨0, 0, by omega, rfl, rfl⟩
  case round =>
    obtain ⟨k, n, hk, rfl, rfl⟩ := hrel
    by_cases hlt : k < zs.length
    · obtain ⟨c1, o1, rfl, _, h1⟩ := ra k hlt
      obtain ⟨c2, o2, rfl, _, h2⟩ := rb k hlt
      generalize zs[k]?.getD ByteArray.empty = y at h1 h2
      go_wp2
      go_quiet (fail)
      go_wp2
      go_roundw
      case rel => exact ⟨k + 1, _, by omega, by go_num, rfl⟩
      case measure => simp [intOf]; omega
    · go_wp2
      go_ret
      exact ⟨rfl, _, rfl⟩

/-- Short's answer -/
def shortB (ss : List ByteArray) (m : Nat) : Bool := ss.all fun s => decide (s.size ≤ m)
theorem short_yes {ss : List ByteArray} {m : Nat} (h : ∀ i, i < ss.length → (ss[i]?.getD ByteArray.empty).size ≤ m) : shortB ss m = true := by
  unfold shortB
  rw [List.all_eq_true]
  intro s hs
  obtain ⟨i, hi, rfl⟩ := List.getElem_of_mem hs
  have := h i hi
  rw [List.getElem?_eq_getElem hi] at this
  simpa using this
theorem short_no {ss : List ByteArray} {m i : Nat} (hi : i < ss.length) (h : m < (ss[i]?.getD ByteArray.empty).size) : shortB ss m = false := by
  unfold shortB
  rw [List.all_eq_false]
  refine ⟨ss[i], List.getElem_mem hi, ?_⟩
  rw [List.getElem?_eq_getElem hi] at h
  simp at h
  simp
  omega
theorem short_mem {ss : List ByteArray} {m : Nat} (h : shortB ss m = true) : ∀ s ∈ ss, s.size ≤ m := by
  intro s hs
  have := List.all_eq_true.1 h s hs
  simpa using this
theorem ret_bool {a b : Bool} (h : a = b) : Ending.returned (.bool a) = .returned (.bool b) := by rw [h]
set_option maxRecDepth 100000 in
theorem short_any (a : Option Addr) (cap m : Nat) (ss : List ByteArray) (w : World) (hn : ss.length ≤ 9223372036854775807) (hm : m ≤ 1000000) (hz : ∀ s ∈ ss, s.size ≤ 9223372036854775807) (hr : ReadsS w a ss) :
    Calls Try.prog 9 #[.slice a ss.length cap, .int .i64 m] w fun e w' => e = .returned (.bool (shortB ss m)) ∧ w = w' := by
  have HZ := Lib.hid hz
  clear hz
  go_enter Try.func9, Try.ntmps9
  go_wp2
  go_loop [5] (fun i => ∃ k : Nat, k ≤ ss.length ∧ i = .int .i64 k ∧ ∀ j, j < k → (ss[j]?.getD ByteArray.empty).size ≤ m) (fun i => ss.length - (intOf i).toNat)
  case atStart => exact ⟨0, by omega, rfl, fun j hj => by omega⟩
  case round =>
    obtain ⟨k, hk, rfl, hall⟩ := hrel
    have HA := Lib.hid hall
    clear hall
    by_cases hlt : k < ss.length
    · obtain ⟨b, off, rfl, hb, hc⟩ := hr k hlt
      have hx := HZ.out _ (mem_getS ss k hlt)
      obtain ⟨s, hs⟩ : ∃ s, s = ss[k]?.getD ByteArray.empty := ⟨_, rfl⟩
      rw [← hs] at hc hx
      have HS := Lib.hid hs
      clear hs
      by_cases hbig : m < s.size
      · go_wp2
        go_ret
        exact ⟨ret_bool (short_no hlt (by rw [← HS.out]; exact hbig)).symm, rfl⟩
      · go_wp2
        go_round
        case rel => exact ⟨k + 1, by omega, by go_num, fun j hj => by
          by_cases e : j = k
          · subst e; rw [← HS.out]; omega
          · exact HA.out j (by omega)⟩
        case measure => simp [intOf]; omega
    · have : k = ss.length := by omega
      go_wp2
      go_ret
      exact ⟨ret_bool (short_yes fun j hj => HA.out j (by omega)).symm, rfl⟩
theorem tmod_fix (n m : Int) (hm : 0 < m) : (if n.tmod m < 0 then n.tmod m + m else n.tmod m) = n % m := by
  have h1 := Int.tmod_eq_emod (a := n) (b := m)
  have h2 := Int.emod_nonneg n (by omega : m ≠ 0)
  have h3 := Int.emod_lt_of_pos n hm
  rw [h1]
  have ha : (m.natAbs : Int) = m := by omega
  split <;> split <;> omega
theorem mod_any (n m : Int) (h1 : -9223372036854775808 ≤ n) (h2 : n ≤ 9223372036854775807) (m1 : 1 ≤ m) (m2 : m ≤ 1000000000) (w : World) :
    Calls Try.prog 34 #[.int .i64 n, .int .i64 m] w fun e w' => e = .returned (.int .i64 (n % m)) ∧ w = w' := by
  have H := Lib.hid (tmod_fix n m (by omega))
  go_enter Try.func34, Try.ntmps34
  have hlo : -m ≤ n.tmod m := by
    have := H.out
    have h2 := Int.emod_nonneg n (by omega : m ≠ 0)
    split at this <;> omega
  go_wp2
  · have hl : n.tmod m < 0 := by assumption
    go_ret
    exact ⟨ret_int (by rw [← H.out, if_pos hl]), rfl⟩
  · have hl : 0 ≤ n.tmod m := by assumption
    go_ret
    exact ⟨ret_int (by rw [← H.out, if_neg (by omega)]), rfl⟩
end Go.Proofs.Ytpdpdmkfgbmdmaa
