/-
  What is of no program: worlds, readings of slices, appends, bytes.
-/
import Derived.Test.YtddackdghphcnaaDoorRows
import Derived.WalkKit
import Derived.WalkSpells
import Derived.WalkLawsBesides
import Derived.Lib.Hide
import Derived.Below
import Derived.RegionTactic
import Derived.RangeFuncRecord
import Derived.WalkMore
import Derived.RangeFuncNested
import Derived.RangeFuncBound
import Derived.RangeFuncCalls
import Derived.RangeFuncLeaves
import Derived.RangeFuncBox
import Derived.Shelf.Abstract
import Derived.Shelf.RegionOpen
import Derived.OwnWalkIn
import Derived.TacticsInMore
import Derived.LoopNIn
import Derived.LoopIn
import Derived.Maps.AppendAt
import Derived.OpenShut
import Derived.Deep.QuietTactic
import Derived.BigQuiet
import Derived.Deep.RegionWith
import Derived.Deep.RegionHeld3
import Derived.StillTailTactics
import Derived.IntWalk
import Derived.Laws.AppendOwnNone
import Derived.Laws.IdiomStrings
import Derived.Laws.BytesArg
namespace Go.Proofs.YtddackdghphcnaaDoor.kit
set_option linter.unusedVariables false
set_option linter.unusedSimpArgs false
open Go.RowKit

theorem ret_int {k : IntKind} {a b : Int} (h : a = b) : Ending.returned (.int k a) = .returned (.int k b) := by rw [h]

theorem ret_str {a b : ByteArray} (h : a = b) : Ending.returned (.string a) = .returned (.string b) := by rw [h]
theorem ret_bool {a b : Bool} (h : a = b) : Ending.returned (.bool a) = .returned (.bool b) := by rw [h]
theorem ret_se {x x' : ByteArray} {er er' : Int} (h : (x, er) = (x', er')) : Ending.returned (.tuple #[.string x, .int .i64 er]) = .returned (.tuple #[.string x', .int .i64 er']) := by
  cases h; rfl
theorem below_drewN {B : Nat} {w w1 : World} (h : Below B w w1) (n : Nat) : Below B w (w1.drewN n) := h.trans ⟨rfl, rfl, rfl, Nat.le_refl _, fun _ _ => rfl⟩
theorem below_on {B : Nat} {w w1 w2 : World} (h : Below B w w1) (hB : B ≤ w.heap.size) (k : Below w1.heap.size w1 w2) : Below B w w2 := h.trans (k.mono (Nat.le_trans hB h.size))
theorem below_then {w w1 w2 : World} (h : Below w.heap.size w w1) (k : Below w1.heap.size w1 w2) : Below w.heap.size w w2 := below_on h (Nat.le_refl _) k
theorem below_alloc_then {w w1 w2 : World} {o : Obj} (h : Below w.heap.size w w1) (k : Below (w1.alloc o).heap.size (w1.alloc o) w2) : Below w.heap.size w w2 := below_on (h.alloc h.size o) (Nat.le_refl _) k
theorem below_drew_in {w w1 : World} (h : Below w.drew.heap.size w.drew w1) : Below w.heap.size w w1 := (Below.refl w.heap.size w).drew.trans h

theorem bytes_ext {a b : ByteArray} (h : a.data.toList = b.data.toList) : a = b := by
  cases a; cases b; simp only at h; rw [Array.toList_inj.1 h]
theorem str_beq_true {a b : ByteArray} (h : a = b) : (a.toList == b.toList) = true := by rw [h]; exact beq_self_eq_true _
theorem str_beq_false {a b : ByteArray} (h : ¬ a = b) : (a.toList == b.toList) = false := by
  rw [beq_eq_false_iff_ne]
  intro e
  rw [ByteArray.toList_eq, ByteArray.toList_eq] at e
  exact h (bytes_ext e)
theorem wrap_u8 (a : Int) : IntKind.u8.wrap a = a % 256 := by
  simp only [IntKind.wrap, IntKind.signed, IntKind.bits, Bool.false_and, Bool.false_eq_true, if_false]
  omega
theorem wrap_u8_in (a : Int) (h1 : 0 ≤ a) (h2 : a ≤ 255) : IntKind.u8.wrap a = a := by
  rw [wrap_u8]; omega
theorem wrap_u32_in (a : Int) (h1 : 0 ≤ a) (h2 : a ≤ 4294967295) : IntKind.u32.wrap a = a := by
  simp only [IntKind.wrap, IntKind.signed, IntKind.bits, Bool.false_and, Bool.false_eq_true, if_false]
  omega
theorem wrap_u64_in (a : Int) (h1 : 0 ≤ a) (h2 : a ≤ 18446744073709551615) : IntKind.u64.wrap a = a := by
  simp only [IntKind.wrap, IntKind.signed, IntKind.bits, Bool.false_and, Bool.false_eq_true, if_false]
  omega
theorem xor_b (a b : UInt8) : bits .xor .u8 (a.toNat : Int) (b.toNat : Int) = ((a ^^^ b).toNat : Int) := by
  have : bits .xor .u8 (a.toNat : Int) (b.toNat : Int) = IntKind.u8.wrap ((BitVec.ofInt 8 (a.toNat : Int) ^^^ BitVec.ofInt 8 (b.toNat : Int)).toNat : Int) := rfl
  rw [this, BitVec.ofInt_natCast, BitVec.ofInt_natCast, BitVec.toNat_xor, BitVec.toNat_ofNat, BitVec.toNat_ofNat, Nat.mod_eq_of_lt (a := a.toNat) a.toNat_lt, Nat.mod_eq_of_lt (a := b.toNat) b.toNat_lt, UInt8.toNat_xor]
  have h : a.toNat ^^^ b.toNat < 2 ^ 8 := Nat.xor_lt_two_pow a.toNat_lt b.toNat_lt
  exact wrap_u8_in _ (by omega) (by omega)
/-- a slice, a cell an element, that reads as xs -/
def Reads {α : Type} (f : α → Value) (d : α) (w : World) (a : Option Addr) (xs : List α) : Prop :=
  ∀ i, i < xs.length → ∃ b off, a = some ⟨b, off, none⟩ ∧ b < w.heap.size ∧ w.cell? ⟨b, off + i, none⟩ = some (f (xs[i]?.getD d))
theorem Reads.below {α : Type} {f : α → Value} {d : α} {w w' : World} {a : Option Addr} {xs : List α} (h : Reads f d w a xs) (hB : Below w.heap.size w w') : Reads f d w' a xs := fun i hi => by
  obtain ⟨b, off, e, hb, hc⟩ := h i hi
  exact ⟨b, off, e, Nat.lt_of_lt_of_le hb hB.size, (hB.cell (p := ⟨b, off + i, none⟩) hb).trans hc⟩
theorem Reads.alloc {α : Type} {f : α → Value} {d : α} {w : World} {a : Option Addr} {xs : List α} (h : Reads f d w a xs) (o : Obj) : Reads f d (w.alloc o) a xs := h.below ((Below.refl _ _).alloc (Nat.le_refl _) o)
theorem Reads.drew {α : Type} {f : α → Value} {d : α} {w : World} {a : Option Addr} {xs : List α} (h : Reads f d w a xs) : Reads f d w.drew a xs := h
theorem Reads.drewN {α : Type} {f : α → Value} {d : α} {w : World} {a : Option Addr} {xs : List α} (h : Reads f d w a xs) (n : Nat) : Reads f d (w.drewN n) a xs := h
theorem Reads.nil {α : Type} {f : α → Value} {d : α} (w : World) (a : Option Addr) : Reads f d w a [] := fun i hi => by simp at hi
abbrev ReadsS := Reads Value.string ByteArray.empty
abbrev ReadsI := Reads (Value.int .i64) 0
theorem mem_getS (ss : List ByteArray) (k : Nat) (h : k < ss.length) : ss[k]?.getD ByteArray.empty ∈ ss := by
  rw [List.getElem?_eq_getElem h]; exact List.getElem_mem h

theorem mem_getD (zs : List Int) (k : Nat) (h : k < zs.length) : zs[k]?.getD 0 ∈ zs := by
  rw [List.getElem?_eq_getElem h]; exact List.getElem_mem h
/-- what an append takes from: nothing, or a row of cells -/
def Src (w : World) (a : Option Addr) (c : Nat) (vs : List Value) : Prop :=
  (a = none ∧ vs = [] ∧ c = 0) ∨ ∃ x, a = some x ∧ ∀ j u, vs[j]? = some u → w.cell? (x.add j) = some u
theorem Src.below {w w1 : World} {a : Option Addr} {c : Nat} {vs : List Value} (h : Src w a c vs) (hB : Below w.heap.size w w1) : Src w1 a c vs := by
  rcases h with h | ⟨x, rfl, hc⟩
  · exact .inl h
  · refine .inr ⟨x, rfl, fun j u hu => ?_⟩
    have h1 := hc j u hu
    have hb : (x.add j).block < w.heap.size := by
      rcases Nat.lt_or_ge (x.add j).block w.heap.size with hlt | hge
      · exact hlt
      · have : w.heap[(x.add j).block]? = none := Array.getElem?_eq_none hge
        simp [World.cell?, this] at h1
    exact (hB.cell hb).trans h1
theorem Src.alloc {w : World} {a : Option Addr} {c : Nat} {vs : List Value} (h : Src w a c vs) (o : Obj) : Src (w.alloc o) a c vs := h.below ((Below.refl _ _).alloc (Nat.le_refl _) o)
theorem below_grown {B : Nat} {E : TypeId} {w w1 w2 : World} {v : Value} {k : Nat} {xs : List Value} (h : Below B w w1) (hr : w1.ownsRow B E 1 v k xs) (hg : w1.grownBy w2 v.ownBlock) (hB : B ≤ w1.heap.size) : Below B w w2 := by
  refine h.grown hg hB fun j ej => ?_
  rcases hr.2 with ⟨rfl, _⟩ | ⟨g, cap, cur, rfl, hb, _, _⟩
  · simp [Value.ownBlock] at ej
  · obtain rfl : g = j := by simpa [Value.ownBlock] using ej
    exact hb
theorem append_in {T E : TypeId} {z : Value} {bytes : Nat} (hT : Tryd.prog.underlying T = some (.slice E)) (hE : (Tryd.prog.info? E).map (fun i => (i.zero, i.size, i.bytes)) = some (some z, 1, bytes)) (hzc : z.cells.size = 1) (hby : bytes ≤ 1000)
    {w : World} {ops : Array Oper} {rest : List Oper} {o : Oper} {a : Act} {Q : Exit → Act → World → Prop}
    (hg : o.guard = none) (s x : Operand) (hop : o.op = Op.call { callee := Callee.builtin Builtin.append, args := #[s, x], argTypes := #[T, T] })
    (base : Nat) (v : Value) (k : Nat) (xs : List Value) (hs : a.eval s = v) (hown : w.ownsRow base E 1 v k xs) (src : Option Addr) (vs : List Value) (n c : Nat) (hx : a.eval x = .slice src n c) (hn : vs.length = n) (hsrc : Src w src c vs) (h1 : ∀ u ∈ vs, u.oneCell' = true)
    (hk : k + n ≤ 1000000) (hb : base ≤ w.heap.size)
    (hK : ∀ v' w', w'.ownsRow base E 1 v' (k + n) (xs ++ vs) → Below base w w' → wpList Tryd.prog ops Q rest (a.put o.dst v') w') :
    wpList Tryd.prog ops Q (o :: rest) a w := by
  obtain ⟨i0, hi, hz0, hz1, hz2⟩ := info_parts hE
  subst hn
  rcases hsrc with ⟨rfl, rfl, rfl⟩ | ⟨ad, rfl, hc⟩
  · refine wpList_append_own_none hg s x T hop base E i0 1 hT hi v k _ hs hown hx (hK v w ?_ (Below.refl _ _))
    simpa using hown
  · refine wpList_append_own w hg s x T hop base E i0 z 1 bytes hT hi hz0 hz1 hz2 hzc (by decide) v k _ hs hown ad vs.length c vs hx (by simp) hc h1 (by unfold maxLen; omega) ?_ hb fun v' w' h1 h2 _ => hK v' w' h1 (below_grown (Below.refl _ _) hown h2 hb)
    have : (k + vs.length) * bytes ≤ 1000000 * 1000 := Nat.mul_le_mul hk hby
    omega
theorem empty_row (E : TypeId) (w : World) (base : Nat) (hb : base ≤ w.heap.size) : (w.alloc (.cells #[] E)).ownsRow base E 1 (.slice (some ⟨w.heap.size, 0, none⟩) 0 0) 0 [] :=
  ⟨rfl, .inr ⟨w.heap.size, 0, #[], rfl, hb, World.alloc_heap_new w _, by omega, by unfold maxLen; omega, rfl, rfl⟩⟩
theorem row_shape {E : TypeId} {W : World} {base k : Nat} {v : Value} {xs : List Value} (h : W.ownsRow base E 1 v k xs) : ∃ a cap, v = .slice a k cap := by
  rcases h.2 with ⟨rfl, rfl⟩ | ⟨g, cap, _, rfl, _⟩
  · exact ⟨_, _, rfl⟩
  · exact ⟨_, _, rfl⟩
theorem cell_lt {w : World} {b o : Nat} {v : Value} (h : w.cell? ⟨b, o, none⟩ = some v) : b < w.heap.size := by
  rcases Nat.lt_or_ge b w.heap.size with hlt | hge
  · exact hlt
  · have : w.heap[b]? = none := Array.getElem?_eq_none hge
    simp [World.cell?, this] at h
theorem reads_of_row {α : Type} {f : α → Value} {d : α} {E : TypeId} {W : World} {base cap : Nat} {a : Option Addr} {L : List α} {k : Nat} (hk : L.length = k) (h : W.ownsRow base E 1 (.slice a k cap) k (L.map f)) : Reads f d W a L := by
  intro i hi
  rcases h.2 with ⟨_, h0⟩ | ⟨g, cap', cur, e, _, _, _⟩
  · omega
  · cases e
    have hc := h.cellAt i (by omega)
    have hx : (L.map f)[i]? = some (f (L[i]?.getD d)) := by simp [List.getElem?_eq_getElem hi]
    rw [hx] at hc
    exact ⟨g, 0, rfl, cell_lt hc, by rw [show 0 + i = i by omega]; exact hc⟩
/-- a row that came in, read as a list -/
theorem row_in {α : Type} (f : α → Value) (d : α) {w : World} {x : Addr} {len cap : Nat} {z0 : List α} (hl : len ≤ cap) (hz : z0.length = cap) (hc : ∀ i, i < z0.length → w.cell? (x.add i) = some (f (z0.getD i d))) :
    Reads f d w (some x) (z0.take len) ∧ (∀ j u, ((z0.take len).map f)[j]? = some u → w.cell? (x.add j) = some u) := by
  constructor
  · intro i hi
    have hlen : (z0.take len).length = len := by simp; omega
    obtain ⟨b, off, spot⟩ := x
    have hspot : spot = none := by simpa [Addr.add] using World.cell?_spot (hc 0 (by omega))
    subst hspot
    have hcell := hc i (by omega)
    rw [Go.WideShapes.add_plain] at hcell
    refine ⟨b, off, rfl, cell_lt hcell, ?_⟩
    rw [hcell, List.getElem?_take, if_pos (by omega)]
    rfl
  · intro j u hu
    rw [List.getElem?_map, List.getElem?_take] at hu
    split at hu
    · rename_i hj
      have h := hc j (by omega)
      rw [h]
      simp only [List.getD_eq_getElem?_getD]
      cases he : z0[j]? with
      | none => rw [he] at hu; cases hu
      | some y => rw [he] at hu; simpa using hu
    · cases hu
/-- a slice of the call's own that reads as xs -/
def OwnOf {α : Type} (f : α → Value) (d : α) (w : World) (xs : List α) (e : Ending) (w' : World) : Prop :=
  ∃ a c, e = .returned (.slice a xs.length c) ∧ Reads f d w' a xs ∧ Below w.heap.size w w'
theorem src_one (W0 : World) (v : Value) (t : TypeId) : Src (W0.alloc (.cells #[v] t)) (some ⟨W0.heap.size, 0, none⟩) 1 [v] := by
  refine .inr ⟨_, rfl, fun j u hu => ?_⟩
  have hj : j = 0 := by
    rcases Nat.eq_zero_or_pos j with h | h
    · exact h
    · rw [List.getElem?_eq_none (by simp; omega)] at hu; cases hu
  subst hj
  have : v = u := by simpa using hu
  subst this
  simp [Addr.add]
theorem row_alloc_drewN {w : World} {B E k : Nat} {v : Value} {xs : List Value} (h : w.ownsRow B E 1 v k xs) (n : Nat) (o : Obj) : ((w.drewN n).alloc o).ownsRow B E 1 v k xs := (show (w.drewN n).ownsRow B E 1 v k xs from h).alloc o
theorem row_alloc {w : World} {B E k : Nat} {v : Value} {xs : List Value} (h : w.ownsRow B E 1 v k xs) (o : Obj) : (w.alloc o).ownsRow B E 1 v k xs := h.alloc o

/-- one element more -/
theorem row_snoc {α : Type} {f : α → Value} {E : TypeId} {w : World} {B : Nat} {v : Value} {D L : List α} {z : α} (hL : L = D ++ [z]) (h : w.ownsRow B E 1 v (D.length + 1) (D.map f ++ [f z])) : w.ownsRow B E 1 v L.length (L.map f) := by
  subst hL
  simpa using h
theorem take_snoc (s : ByteArray) (k : Nat) (h : k < s.size) : s.data.toList.take (k + 1) = s.data.toList.take k ++ [s[k]] := by
  rw [List.take_succ_eq_append_getElem (by simpa using h)]; rfl
/-- block g is an array of the call's own that begins with xs -/
def Arr {α : Type} (f : α → Value) (d : α) (E : TypeId) (w : World) (g : Nat) (l : List α) : Prop :=
  ∃ cs, w.heap[g]? = some (.cells cs E (0, 0)) ∧ l.length ≤ cs.size ∧ ∀ i, i < l.length → cs[i]? = some (f (l[i]?.getD d))
theorem Arr.lt {α : Type} {f : α → Value} {d : α} {E : TypeId} {w : World} {g : Nat} {l : List α} (h : Arr f d E w g l) : g < w.heap.size := by
  obtain ⟨cs, hb, _⟩ := h
  exact (Array.getElem?_eq_some_iff.1 hb).1
theorem Arr.below {α : Type} {f : α → Value} {d : α} {E : TypeId} {w w1 : World} {g : Nat} {l : List α} (h : Arr f d E w g l) (hB : Below w.heap.size w w1) : Arr f d E w1 g l := by
  have hl := h.lt
  obtain ⟨cs, hb, h1⟩ := h
  exact ⟨cs, (hB.block g hl).trans hb, h1⟩
theorem Arr.drew {α : Type} {f : α → Value} {d : α} {E : TypeId} {w : World} {g : Nat} {l : List α} (h : Arr f d E w g l) : Arr f d E w.drew g l := h
theorem Arr.drewN {α : Type} {f : α → Value} {d : α} {E : TypeId} {w : World} {g : Nat} {l : List α} (h : Arr f d E w g l) (n : Nat) : Arr f d E (w.drewN n) g l := h
theorem Arr.cell {α : Type} {f : α → Value} {d : α} {E : TypeId} {w : World} {g : Nat} {l : List α} (h : Arr f d E w g l) (i : Nat) (hi : i < l.length) : w.cell? ⟨g, i, none⟩ = some (f (l[i]?.getD d)) ∧ w.frozen? ⟨g, i, none⟩ = false := by
  obtain ⟨cs, hb, h1, h2⟩ := h
  unfold World.cell? World.frozen?
  rw [hb]
  exact ⟨by simpa using h2 i hi, by simp⟩
theorem Arr.set {α : Type} {f : α → Value} {d : α} {E : TypeId} {w : World} {g : Nat} {l : List α} (h : Arr f d E w g l) (i : Nat) (hi : i < l.length) (x : α) : Arr f d E (w.setCell ⟨g, i, none⟩ (f x)) g (l.set i x) := by
  obtain ⟨cs, hb, h1, h2⟩ := h
  obtain ⟨hlt, hv⟩ := Array.getElem?_eq_some_iff.1 hb
  refine ⟨cs.setIfInBounds i (f x), ?_, by simpa using h1, fun j hj => ?_⟩
  · show (w.heap.modify g _)[g]? = _
    rw [Array.getElem?_eq_getElem (by rw [Array.size_modify]; exact hlt), Array.getElem_modify_self, hv]
    simp
  · rw [Array.getElem?_setIfInBounds, List.getElem?_set]
    by_cases e : i = j
    · subst e; simp [hi, Nat.lt_of_lt_of_le hi h1]
    · rw [if_neg e, if_neg e]; exact h2 j (by simpa using hj)
theorem Arr.of_row {α : Type} {f : α → Value} {d : α} {E : TypeId} {w : World} {base n : Nat} {v : Value} {l : List α} (hn : l.length = n) (hpos : 0 < n) (h : w.ownsRow base E 1 v n (l.map f)) : ∃ g cap, v = .slice (some ⟨g, 0, none⟩) n cap ∧ base ≤ g ∧ Arr f d E w g l := by
  rcases h.2 with ⟨_, h0⟩ | ⟨g, cap, cur, rfl, hb, hk, h1, h2, h3, h4⟩
  · omega
  · refine ⟨g, cap, rfl, hb, cur, hk, by omega, fun i hi => ?_⟩
    have : (cur.toList.take (n * 1))[i]? = (l.map f)[i]? := by rw [h4]
    rw [List.getElem?_take, if_pos (by omega), List.getElem?_map, List.getElem?_eq_getElem hi] at this
    rw [List.getElem?_eq_getElem hi]
    simpa using this
theorem Arr.reads {α : Type} {f : α → Value} {d : α} {E : TypeId} {w : World} {g : Nat} {l : List α} (h : Arr f d E w g l) : Reads f d w (some ⟨g, 0, none⟩) l := fun i hi =>
  ⟨g, 0, rfl, h.lt, by rw [Nat.zero_add]; exact (h.cell i hi).1⟩
end Go.Proofs.YtddackdghphcnaaDoor.kit
