/-
  What is of no program: worlds, readings of slices, appends, bytes. Layer 13, plain: looks as lists of terminals; the order, sums, numbers, texts. Layer 14, plain: sets of looks as ascending lists. A region that draws its order, whose operations only read and whose callees make blocks of their own: one walk in the text's order, in the class of the worlds that have the old blocks as they were.
-/
import Derived.Test.YtdahaajfkjmflaaRows
import Derived.WalkKit
import Derived.WalkSpells
import Derived.WalkLawsBesides
import Derived.Lib.Hide
import Derived.Below
import Derived.RegionTactic
import Derived.RangeFuncRecord
import Derived.WalkMore
import Derived.RangeFuncNested
import Derived.RangeFuncBound
import Derived.RangeFuncCalls
import Derived.RangeFuncLeaves
import Derived.RangeFuncBox
import Derived.Shelf.Abstract
import Derived.Shelf.RegionOpen
import Derived.OwnWalkIn
import Derived.TacticsInMore
import Derived.LoopNIn
import Derived.LoopIn
import Derived.Maps.AppendAt
import Derived.OpenShut
import Derived.Deep.QuietTactic
import Derived.BigQuiet
import Derived.Deep.RegionWith
import Derived.Deep.RegionHeld3
import Derived.StillTailTactics
import Derived.IntWalk
import Derived.Laws.AppendOwnNone
import Derived.Laws.IdiomStrings
import Derived.Laws.BytesArg
namespace Go.Proofs.Ytdahaajfkjmflaa.kit
set_option linter.unusedVariables false
set_option linter.unusedSimpArgs false
open Go.RowKit

theorem ret_int {k : IntKind} {a b : Int} (h : a = b) : Ending.returned (.int k a) = .returned (.int k b) := by rw [h]

theorem ret_str {a b : ByteArray} (h : a = b) : Ending.returned (.string a) = .returned (.string b) := by rw [h]
theorem ret_bool {a b : Bool} (h : a = b) : Ending.returned (.bool a) = .returned (.bool b) := by rw [h]
theorem ret_se {x x' : ByteArray} {er er' : Int} (h : (x, er) = (x', er')) : Ending.returned (.tuple #[.string x, .int .i64 er]) = .returned (.tuple #[.string x', .int .i64 er']) := by
  cases h; rfl
theorem below_drewN {B : Nat} {w w1 : World} (h : Below B w w1) (n : Nat) : Below B w (w1.drewN n) := h.trans ⟨rfl, rfl, rfl, Nat.le_refl _, fun _ _ => rfl⟩
theorem below_on {B : Nat} {w w1 w2 : World} (h : Below B w w1) (hB : B ≤ w.heap.size) (k : Below w1.heap.size w1 w2) : Below B w w2 := h.trans (k.mono (Nat.le_trans hB h.size))
theorem below_then {w w1 w2 : World} (h : Below w.heap.size w w1) (k : Below w1.heap.size w1 w2) : Below w.heap.size w w2 := below_on h (Nat.le_refl _) k
theorem below_alloc_then {w w1 w2 : World} {o : Obj} (h : Below w.heap.size w w1) (k : Below (w1.alloc o).heap.size (w1.alloc o) w2) : Below w.heap.size w w2 := below_on (h.alloc h.size o) (Nat.le_refl _) k
theorem below_drew_in {w w1 : World} (h : Below w.drew.heap.size w.drew w1) : Below w.heap.size w w1 := (Below.refl w.heap.size w).drew.trans h

theorem bytes_ext {a b : ByteArray} (h : a.data.toList = b.data.toList) : a = b := by
  cases a; cases b; simp only at h; rw [Array.toList_inj.1 h]
theorem str_beq_true {a b : ByteArray} (h : a = b) : (a.toList == b.toList) = true := by rw [h]; exact beq_self_eq_true _
theorem str_beq_false {a b : ByteArray} (h : ¬ a = b) : (a.toList == b.toList) = false := by
  rw [beq_eq_false_iff_ne]
  intro e
  rw [ByteArray.toList_eq, ByteArray.toList_eq] at e
  exact h (bytes_ext e)
theorem wrap_u8 (a : Int) : IntKind.u8.wrap a = a % 256 := by
  simp only [IntKind.wrap, IntKind.signed, IntKind.bits, Bool.false_and, Bool.false_eq_true, if_false]
  omega
theorem wrap_u8_in (a : Int) (h1 : 0 ≤ a) (h2 : a ≤ 255) : IntKind.u8.wrap a = a := by
  rw [wrap_u8]; omega
theorem wrap_u32_in (a : Int) (h1 : 0 ≤ a) (h2 : a ≤ 4294967295) : IntKind.u32.wrap a = a := by
  simp only [IntKind.wrap, IntKind.signed, IntKind.bits, Bool.false_and, Bool.false_eq_true, if_false]
  omega
theorem wrap_u64_in (a : Int) (h1 : 0 ≤ a) (h2 : a ≤ 18446744073709551615) : IntKind.u64.wrap a = a := by
  simp only [IntKind.wrap, IntKind.signed, IntKind.bits, Bool.false_and, Bool.false_eq_true, if_false]
  omega
theorem xor_b (a b : UInt8) : bits .xor .u8 (a.toNat : Int) (b.toNat : Int) = ((a ^^^ b).toNat : Int) := by
  have : bits .xor .u8 (a.toNat : Int) (b.toNat : Int) = IntKind.u8.wrap ((BitVec.ofInt 8 (a.toNat : Int) ^^^ BitVec.ofInt 8 (b.toNat : Int)).toNat : Int) := rfl
  rw [this, BitVec.ofInt_natCast, BitVec.ofInt_natCast, BitVec.toNat_xor, BitVec.toNat_ofNat, BitVec.toNat_ofNat, Nat.mod_eq_of_lt (a := a.toNat) a.toNat_lt, Nat.mod_eq_of_lt (a := b.toNat) b.toNat_lt, UInt8.toNat_xor]
  have h : a.toNat ^^^ b.toNat < 2 ^ 8 := Nat.xor_lt_two_pow a.toNat_lt b.toNat_lt
  exact wrap_u8_in _ (by omega) (by omega)
/-- a slice, a cell an element, that reads as xs -/
def Reads {α : Type} (f : α → Value) (d : α) (w : World) (a : Option Addr) (xs : List α) : Prop :=
  ∀ i, i < xs.length → ∃ b off, a = some ⟨b, off, none⟩ ∧ b < w.heap.size ∧ w.cell? ⟨b, off + i, none⟩ = some (f (xs[i]?.getD d))
theorem Reads.below {α : Type} {f : α → Value} {d : α} {w w' : World} {a : Option Addr} {xs : List α} (h : Reads f d w a xs) (hB : Below w.heap.size w w') : Reads f d w' a xs := fun i hi => by
  obtain ⟨b, off, e, hb, hc⟩ := h i hi
  exact ⟨b, off, e, Nat.lt_of_lt_of_le hb hB.size, (hB.cell (p := ⟨b, off + i, none⟩) hb).trans hc⟩
theorem Reads.alloc {α : Type} {f : α → Value} {d : α} {w : World} {a : Option Addr} {xs : List α} (h : Reads f d w a xs) (o : Obj) : Reads f d (w.alloc o) a xs := h.below ((Below.refl _ _).alloc (Nat.le_refl _) o)
theorem Reads.drew {α : Type} {f : α → Value} {d : α} {w : World} {a : Option Addr} {xs : List α} (h : Reads f d w a xs) : Reads f d w.drew a xs := h
theorem Reads.drewN {α : Type} {f : α → Value} {d : α} {w : World} {a : Option Addr} {xs : List α} (h : Reads f d w a xs) (n : Nat) : Reads f d (w.drewN n) a xs := h
theorem Reads.nil {α : Type} {f : α → Value} {d : α} (w : World) (a : Option Addr) : Reads f d w a [] := fun i hi => by simp at hi
abbrev ReadsS := Reads Value.string ByteArray.empty
abbrev ReadsI := Reads (Value.int .i64) 0
theorem mem_getS (ss : List ByteArray) (k : Nat) (h : k < ss.length) : ss[k]?.getD ByteArray.empty ∈ ss := by
  rw [List.getElem?_eq_getElem h]; exact List.getElem_mem h

theorem mem_getD (zs : List Int) (k : Nat) (h : k < zs.length) : zs[k]?.getD 0 ∈ zs := by
  rw [List.getElem?_eq_getElem h]; exact List.getElem_mem h
/-- what an append takes from: nothing, or a row of cells -/
def Src (w : World) (a : Option Addr) (c : Nat) (vs : List Value) : Prop :=
  (a = none ∧ vs = [] ∧ c = 0) ∨ ∃ x, a = some x ∧ ∀ j u, vs[j]? = some u → w.cell? (x.add j) = some u
theorem Src.below {w w1 : World} {a : Option Addr} {c : Nat} {vs : List Value} (h : Src w a c vs) (hB : Below w.heap.size w w1) : Src w1 a c vs := by
  rcases h with h | ⟨x, rfl, hc⟩
  · exact .inl h
  · refine .inr ⟨x, rfl, fun j u hu => ?_⟩
    have h1 := hc j u hu
    have hb : (x.add j).block < w.heap.size := by
      rcases Nat.lt_or_ge (x.add j).block w.heap.size with hlt | hge
      · exact hlt
      · have : w.heap[(x.add j).block]? = none := Array.getElem?_eq_none hge
        simp [World.cell?, this] at h1
    exact (hB.cell hb).trans h1
theorem Src.alloc {w : World} {a : Option Addr} {c : Nat} {vs : List Value} (h : Src w a c vs) (o : Obj) : Src (w.alloc o) a c vs := h.below ((Below.refl _ _).alloc (Nat.le_refl _) o)
theorem below_grown {B : Nat} {E : TypeId} {w w1 w2 : World} {v : Value} {k : Nat} {xs : List Value} (h : Below B w w1) (hr : w1.ownsRow B E 1 v k xs) (hg : w1.grownBy w2 v.ownBlock) (hB : B ≤ w1.heap.size) : Below B w w2 := by
  refine h.grown hg hB fun j ej => ?_
  rcases hr.2 with ⟨rfl, _⟩ | ⟨g, cap, cur, rfl, hb, _, _⟩
  · simp [Value.ownBlock] at ej
  · obtain rfl : g = j := by simpa [Value.ownBlock] using ej
    exact hb
theorem append_in {T E : TypeId} {z : Value} {bytes : Nat} (hT : Try.prog.underlying T = some (.slice E)) (hE : (Try.prog.info? E).map (fun i => (i.zero, i.size, i.bytes)) = some (some z, 1, bytes)) (hzc : z.cells.size = 1) (hby : bytes ≤ 1000)
    {w : World} {ops : Array Oper} {rest : List Oper} {o : Oper} {a : Act} {Q : Exit → Act → World → Prop}
    (hg : o.guard = none) (s x : Operand) (hop : o.op = Op.call { callee := Callee.builtin Builtin.append, args := #[s, x], argTypes := #[T, T] })
    (base : Nat) (v : Value) (k : Nat) (xs : List Value) (hs : a.eval s = v) (hown : w.ownsRow base E 1 v k xs) (src : Option Addr) (vs : List Value) (n c : Nat) (hx : a.eval x = .slice src n c) (hn : vs.length = n) (hsrc : Src w src c vs) (h1 : ∀ u ∈ vs, u.oneCell' = true)
    (hk : k + n ≤ 1000000) (hb : base ≤ w.heap.size)
    (hK : ∀ v' w', w'.ownsRow base E 1 v' (k + n) (xs ++ vs) → Below base w w' → wpList Try.prog ops Q rest (a.put o.dst v') w') :
    wpList Try.prog ops Q (o :: rest) a w := by
  obtain ⟨i0, hi, hz0, hz1, hz2⟩ := info_parts hE
  subst hn
  rcases hsrc with ⟨rfl, rfl, rfl⟩ | ⟨ad, rfl, hc⟩
  · refine wpList_append_own_none hg s x T hop base E i0 1 hT hi v k _ hs hown hx (hK v w ?_ (Below.refl _ _))
    simpa using hown
  · refine wpList_append_own w hg s x T hop base E i0 z 1 bytes hT hi hz0 hz1 hz2 hzc (by decide) v k _ hs hown ad vs.length c vs hx (by simp) hc h1 (by unfold maxLen; omega) ?_ hb fun v' w' h1 h2 _ => hK v' w' h1 (below_grown (Below.refl _ _) hown h2 hb)
    have : (k + vs.length) * bytes ≤ 1000000 * 1000 := Nat.mul_le_mul hk hby
    omega
theorem empty_row (E : TypeId) (w : World) (base : Nat) (hb : base ≤ w.heap.size) : (w.alloc (.cells #[] E)).ownsRow base E 1 (.slice (some ⟨w.heap.size, 0, none⟩) 0 0) 0 [] :=
  ⟨rfl, .inr ⟨w.heap.size, 0, #[], rfl, hb, World.alloc_heap_new w _, by omega, by unfold maxLen; omega, rfl, rfl⟩⟩
theorem row_shape {E : TypeId} {W : World} {base k : Nat} {v : Value} {xs : List Value} (h : W.ownsRow base E 1 v k xs) : ∃ a cap, v = .slice a k cap := by
  rcases h.2 with ⟨rfl, rfl⟩ | ⟨g, cap, _, rfl, _⟩
  · exact ⟨_, _, rfl⟩
  · exact ⟨_, _, rfl⟩
theorem cell_lt {w : World} {b o : Nat} {v : Value} (h : w.cell? ⟨b, o, none⟩ = some v) : b < w.heap.size := by
  rcases Nat.lt_or_ge b w.heap.size with hlt | hge
  · exact hlt
  · have : w.heap[b]? = none := Array.getElem?_eq_none hge
    simp [World.cell?, this] at h
theorem reads_of_row {α : Type} {f : α → Value} {d : α} {E : TypeId} {W : World} {base cap : Nat} {a : Option Addr} {L : List α} {k : Nat} (hk : L.length = k) (h : W.ownsRow base E 1 (.slice a k cap) k (L.map f)) : Reads f d W a L := by
  intro i hi
  rcases h.2 with ⟨_, h0⟩ | ⟨g, cap', cur, e, _, _, _⟩
  · omega
  · cases e
    have hc := h.cellAt i (by omega)
    have hx : (L.map f)[i]? = some (f (L[i]?.getD d)) := by simp [List.getElem?_eq_getElem hi]
    rw [hx] at hc
    exact ⟨g, 0, rfl, cell_lt hc, by rw [show 0 + i = i by omega]; exact hc⟩
/-- a row that came in, read as a list -/
theorem row_in {α : Type} (f : α → Value) (d : α) {w : World} {x : Addr} {len cap : Nat} {z0 : List α} (hl : len ≤ cap) (hz : z0.length = cap) (hc : ∀ i, i < z0.length → w.cell? (x.add i) = some (f (z0.getD i d))) :
    Reads f d w (some x) (z0.take len) ∧ (∀ j u, ((z0.take len).map f)[j]? = some u → w.cell? (x.add j) = some u) := by
  constructor
  · intro i hi
    have hlen : (z0.take len).length = len := by simp; omega
    obtain ⟨b, off, spot⟩ := x
    have hspot : spot = none := by simpa [Addr.add] using World.cell?_spot (hc 0 (by omega))
    subst hspot
    have hcell := hc i (by omega)
    rw [Go.WideShapes.add_plain] at hcell
    refine ⟨b, off, rfl, cell_lt hcell, ?_⟩
    rw [hcell, List.getElem?_take, if_pos (by omega)]
    rfl
  · intro j u hu
    rw [List.getElem?_map, List.getElem?_take] at hu
    split at hu
    · rename_i hj
      have h := hc j (by omega)
      rw [h]
      simp only [List.getD_eq_getElem?_getD]
      cases he : z0[j]? with
      | none => rw [he] at hu; cases hu
      | some y => rw [he] at hu; simpa using hu
    · cases hu
/-- a slice of the call's own that reads as xs -/
def OwnOf {α : Type} (f : α → Value) (d : α) (w : World) (xs : List α) (e : Ending) (w' : World) : Prop :=
  ∃ a c, e = .returned (.slice a xs.length c) ∧ Reads f d w' a xs ∧ Below w.heap.size w w'
theorem src_one (W0 : World) (v : Value) (t : TypeId) : Src (W0.alloc (.cells #[v] t)) (some ⟨W0.heap.size, 0, none⟩) 1 [v] := by
  refine .inr ⟨_, rfl, fun j u hu => ?_⟩
  have hj : j = 0 := by
    rcases Nat.eq_zero_or_pos j with h | h
    · exact h
    · rw [List.getElem?_eq_none (by simp; omega)] at hu; cases hu
  subst hj
  have : v = u := by simpa using hu
  subst this
  simp [Addr.add]
theorem row_alloc_drewN {w : World} {B E k : Nat} {v : Value} {xs : List Value} (h : w.ownsRow B E 1 v k xs) (n : Nat) (o : Obj) : ((w.drewN n).alloc o).ownsRow B E 1 v k xs := (show (w.drewN n).ownsRow B E 1 v k xs from h).alloc o
theorem row_alloc {w : World} {B E k : Nat} {v : Value} {xs : List Value} (h : w.ownsRow B E 1 v k xs) (o : Obj) : (w.alloc o).ownsRow B E 1 v k xs := h.alloc o

/-- one element more -/
theorem row_snoc {α : Type} {f : α → Value} {E : TypeId} {w : World} {B : Nat} {v : Value} {D L : List α} {z : α} (hL : L = D ++ [z]) (h : w.ownsRow B E 1 v (D.length + 1) (D.map f ++ [f z])) : w.ownsRow B E 1 v L.length (L.map f) := by
  subst hL
  simpa using h
theorem take_snoc (s : ByteArray) (k : Nat) (h : k < s.size) : s.data.toList.take (k + 1) = s.data.toList.take k ++ [s[k]] := by
  rw [List.take_succ_eq_append_getElem (by simpa using h)]; rfl
/-- block g is an array of the call's own that begins with xs -/
def Arr {α : Type} (f : α → Value) (d : α) (E : TypeId) (w : World) (g : Nat) (l : List α) : Prop :=
  ∃ cs, w.heap[g]? = some (.cells cs E (0, 0)) ∧ l.length ≤ cs.size ∧ ∀ i, i < l.length → cs[i]? = some (f (l[i]?.getD d))
theorem Arr.lt {α : Type} {f : α → Value} {d : α} {E : TypeId} {w : World} {g : Nat} {l : List α} (h : Arr f d E w g l) : g < w.heap.size := by
  obtain ⟨cs, hb, _⟩ := h
  exact (Array.getElem?_eq_some_iff.1 hb).1
theorem Arr.below {α : Type} {f : α → Value} {d : α} {E : TypeId} {w w1 : World} {g : Nat} {l : List α} (h : Arr f d E w g l) (hB : Below w.heap.size w w1) : Arr f d E w1 g l := by
  have hl := h.lt
  obtain ⟨cs, hb, h1⟩ := h
  exact ⟨cs, (hB.block g hl).trans hb, h1⟩
theorem Arr.drew {α : Type} {f : α → Value} {d : α} {E : TypeId} {w : World} {g : Nat} {l : List α} (h : Arr f d E w g l) : Arr f d E w.drew g l := h
theorem Arr.drewN {α : Type} {f : α → Value} {d : α} {E : TypeId} {w : World} {g : Nat} {l : List α} (h : Arr f d E w g l) (n : Nat) : Arr f d E (w.drewN n) g l := h
theorem Arr.cell {α : Type} {f : α → Value} {d : α} {E : TypeId} {w : World} {g : Nat} {l : List α} (h : Arr f d E w g l) (i : Nat) (hi : i < l.length) : w.cell? ⟨g, i, none⟩ = some (f (l[i]?.getD d)) ∧ w.frozen? ⟨g, i, none⟩ = false := by
  obtain ⟨cs, hb, h1, h2⟩ := h
  unfold World.cell? World.frozen?
  rw [hb]
  exact ⟨by simpa using h2 i hi, by simp⟩
theorem Arr.set {α : Type} {f : α → Value} {d : α} {E : TypeId} {w : World} {g : Nat} {l : List α} (h : Arr f d E w g l) (i : Nat) (hi : i < l.length) (x : α) : Arr f d E (w.setCell ⟨g, i, none⟩ (f x)) g (l.set i x) := by
  obtain ⟨cs, hb, h1, h2⟩ := h
  obtain ⟨hlt, hv⟩ := Array.getElem?_eq_some_iff.1 hb
  refine ⟨cs.setIfInBounds i (f x), ?_, by simpa using h1, fun j hj => ?_⟩
  · show (w.heap.modify g _)[g]? = _
    rw [Array.getElem?_eq_getElem (by rw [Array.size_modify]; exact hlt), Array.getElem_modify_self, hv]
    simp
  · rw [Array.getElem?_setIfInBounds, List.getElem?_set]
    by_cases e : i = j
    · subst e; simp [hi, Nat.lt_of_lt_of_le hi h1]
    · rw [if_neg e, if_neg e]; exact h2 j (by simpa using hj)
theorem Arr.of_row {α : Type} {f : α → Value} {d : α} {E : TypeId} {w : World} {base n : Nat} {v : Value} {l : List α} (hn : l.length = n) (hpos : 0 < n) (h : w.ownsRow base E 1 v n (l.map f)) : ∃ g cap, v = .slice (some ⟨g, 0, none⟩) n cap ∧ base ≤ g ∧ Arr f d E w g l := by
  rcases h.2 with ⟨_, h0⟩ | ⟨g, cap, cur, rfl, hb, hk, h1, h2, h3, h4⟩
  · omega
  · refine ⟨g, cap, rfl, hb, cur, hk, by omega, fun i hi => ?_⟩
    have : (cur.toList.take (n * 1))[i]? = (l.map f)[i]? := by rw [h4]
    rw [List.getElem?_take, if_pos (by omega), List.getElem?_map, List.getElem?_eq_getElem hi] at this
    rw [List.getElem?_eq_getElem hi]
    simpa using this
theorem Arr.reads {α : Type} {f : α → Value} {d : α} {E : TypeId} {w : World} {g : Nat} {l : List α} (h : Arr f d E w g l) : Reads f d w (some ⟨g, 0, none⟩) l := fun i hi =>
  ⟨g, 0, rfl, h.lt, by rw [Nat.zero_add]; exact (h.cell i hi).1⟩
end Go.Proofs.Ytdahaajfkjmflaa.kit

namespace Go.Proofs.Ytdahaajfkjmflaa.s13
set_option linter.unusedVariables false
set_option linter.unusedSimpArgs false

/-- right for t terminals -/
def okL (t : Int) (l : List Int) : Prop := l.length ≤ 4 ∧ ∀ x ∈ l, 0 ≤ x ∧ x < t
/-- the length and the four places -/
def pad (l : List Int) : Nat × Int × Int × Int × Int := (l.length, l[0]?.getD 0, l[1]?.getD 0, l[2]?.getD 0, l[3]?.getD 0)
theorem pad_inj {l m : List Int} (hl : l.length ≤ 4) (h : pad l = pad m) : l = m := by
  simp only [pad, Prod.mk.injEq] at h
  obtain ⟨h0, h1, h2, h3, h4⟩ := h
  match l, m, hl with
  | [], [], _ => rfl
  | [a], [b], _ => simpa using h1
  | [a, b], [c, d], _ => simp at h1 h2 ⊢; exact ⟨h1, h2⟩
  | [a, b, c], [d, e, f], _ => simp at h1 h2 h3 ⊢; exact ⟨h1, h2, h3⟩
  | [a, b, c, d], [e, f, g, i], _ => simp at h1 h2 h3 h4 ⊢; exact ⟨h1, h2, h3, h4⟩
  | [], _ :: _, _ => simp at h0
  | _ :: _, [], _ => simp at h0
  | [_], _ :: _ :: _, _ => simp at h0
  | _ :: _ :: _, [_], _ => simp at h0
  | [_, _], _ :: _ :: _ :: _, _ => simp at h0
  | _ :: _ :: _ :: _, [_, _], _ => simp at h0
  | [_, _, _], _ :: _ :: _ :: _ :: _, _ => simp at h0
  | _ :: _ :: _ :: _ :: _, [_, _, _], _ => simp at h0
  | [_, _, _, _], _ :: _ :: _ :: _ :: _ :: _, _ => simp at h0
  | _ :: _ :: _ :: _ :: _ :: _, _, h => simp at h
/-- what Check says -/
def chkP (n a b c d t : Int) : Int :=
  if t < 1 ∨ 8 < t then 2 else if n < 0 ∨ 4 < n then 3
  else if (n ≤ 0 ∧ a ≠ 0) ∨ (n ≤ 1 ∧ b ≠ 0) ∨ (n ≤ 2 ∧ c ≠ 0) ∨ (n ≤ 3 ∧ d ≠ 0) then 3
  else if (0 < n ∧ (a < 0 ∨ t ≤ a)) ∨ (1 < n ∧ (b < 0 ∨ t ≤ b)) ∨ (2 < n ∧ (c < 0 ∨ t ≤ c)) ∨ (3 < n ∧ (d < 0 ∨ t ≤ d)) then 14 else 0
theorem chkP_yes {n a b c d t : Int} (h : chkP n a b c d t = 0) : 1 ≤ t ∧ t ≤ 8 ∧ 0 ≤ n ∧ n ≤ 4 ∧ (0 < n ∨ a = 0) ∧ (1 < n ∨ b = 0) ∧ (2 < n ∨ c = 0) ∧ (3 < n ∨ d = 0) ∧ 0 ≤ a ∧ a < t ∧ 0 ≤ b ∧ b < t ∧ 0 ≤ c ∧ c < t ∧ 0 ≤ d ∧ d < t := by
  unfold chkP at h
  split at h
  · cases h
  · split at h
    · cases h
    · split at h
      · cases h
      · split at h
        · cases h
        · refine ⟨?_, ?_, ?_, ?_, ?_, ?_, ?_, ?_, ?_, ?_, ?_, ?_, ?_, ?_, ?_, ?_⟩ <;> omega
theorem chkP_look {n a b c d t : Int} (h : chkP n a b c d t = 0) : ∃ l, okL t l ∧ pad l = (n.toNat, a, b, c, d) ∧ (n.toNat : Int) = n := by
  obtain ⟨t1, t2, n0, n4, z0, z1, z2, z3, a0, a1, b0, b1, c0, c1, d0, d1⟩ := chkP_yes h
  obtain ⟨k, rfl⟩ : ∃ k : Nat, n = k := ⟨n.toNat, by omega⟩
  have hk : k = 0 ∨ k = 1 ∨ k = 2 ∨ k = 3 ∨ k = 4 := by omega
  rcases hk with rfl | rfl | rfl | rfl | rfl
  · refine ⟨[], ⟨by simp, by simp⟩, ?_, rfl⟩
    simp [pad]; omega
  · refine ⟨[a], ⟨by simp, by simp; omega⟩, ?_, rfl⟩
    simp [pad]; omega
  · refine ⟨[a, b], ⟨by simp, by simp; omega⟩, ?_, rfl⟩
    simp [pad]; omega
  · refine ⟨[a, b, c], ⟨by simp, by simp; omega⟩, ?_, rfl⟩
    simp [pad]; omega
  · exact ⟨[a, b, c, d], ⟨by simp, by simp; omega⟩, by simp [pad], rfl⟩
theorem okL_at {t : Int} {l : List Int} (h : okL t l) (i : Nat) (hi : i < l.length) : 0 ≤ l[i]?.getD 0 ∧ l[i]?.getD 0 < t := by
  rw [List.getElem?_eq_getElem hi]
  exact h.2 _ (List.getElem_mem hi)
theorem okL_at0 {t : Int} {l : List Int} (h : okL t l) (ht : 1 ≤ t) (i : Nat) : 0 ≤ l[i]?.getD 0 ∧ l[i]?.getD 0 < t := by
  rcases Nat.lt_or_ge i l.length with hi | hi
  · exact okL_at h i hi
  · rw [List.getElem?_eq_none hi]; simp; omega
theorem okL_chk {t : Int} {l : List Int} {n : Nat} {a b c d : Int} (h : okL t l) (t1 : 1 ≤ t) (t2 : t ≤ 8) (hp : pad l = (n, a, b, c, d)) : chkP n a b c d t = 0 := by
  simp only [pad, Prod.mk.injEq] at hp
  obtain ⟨rfl, rfl, rfl, rfl, rfl⟩ := hp
  have e0 := okL_at0 h t1 0
  have e1 := okL_at0 h t1 1
  have e2 := okL_at0 h t1 2
  have e3 := okL_at0 h t1 3
  have z : ∀ i, l.length ≤ i → l[i]?.getD 0 = 0 := fun i hi => by rw [List.getElem?_eq_none hi]; rfl
  have z0 := z 0
  have z1 := z 1
  have z2 := z 2
  have z3 := z 3
  have h4 := h.1
  unfold chkP
  rw [if_neg (by omega), if_neg (by omega), if_neg (by omega), if_neg (by omega)]
theorem okL_mono {t u : Int} {l : List Int} (h : okL t l) (hu : t ≤ u) : okL u l := ⟨h.1, fun x hx => by have := h.2 x hx; omega⟩
theorem okL_take {t : Int} {l : List Int} (h : okL t l) (k : Nat) : okL t (l.take k) := ⟨by rw [List.length_take]; have := h.1; omega, fun x hx => h.2 x (List.mem_of_mem_take hx)⟩
theorem okL_join {t : Int} {l m : List Int} (h : okL t l) (g : okL t m) (k : Nat) (hk : k ≤ 4) : okL t ((l ++ m).take k) :=
  ⟨by rw [List.length_take]; omega, fun x hx => by
    rcases List.mem_append.1 (List.mem_of_mem_take hx) with hx | hx
    · exact h.2 x hx
    · exact g.2 x hx⟩
theorem okL_nil (t : Int) : okL t [] := ⟨by simp, by simp⟩

/-- how two looks compare -/
def cmpL : List Int → List Int → Int
  | [], [] => 0
  | [], _ :: _ => -1
  | _ :: _, [] => 1
  | x :: l, y :: m => if x < y then -1 else if y < x then 1 else cmpL l m
theorem cmpL_range (l : List Int) : ∀ m, cmpL l m = -1 ∨ cmpL l m = 0 ∨ cmpL l m = 1 := by
  induction l with
  | nil => intro m; cases m <;> simp [cmpL]
  | cons x l ih =>
    intro m
    cases m with
    | nil => simp [cmpL]
    | cons y m =>
      unfold cmpL
      split
      · simp
      · split
        · simp
        · exact ih m
theorem cmpL_self (l : List Int) : cmpL l l = 0 := by
  induction l with
  | nil => rfl
  | cons x l ih => simp [cmpL, ih]
theorem cmpL_zero {l : List Int} : ∀ {m}, cmpL l m = 0 → l = m := by
  induction l with
  | nil => intro m h; cases m with | nil => rfl | cons y m => simp [cmpL] at h
  | cons x l ih =>
    intro m h
    cases m with
    | nil => simp [cmpL] at h
    | cons y m =>
      unfold cmpL at h
      split at h
      · omega
      · split at h
        · omega
        · rw [ih h, show x = y by omega]
theorem cmpL_neg (l : List Int) : ∀ m, cmpL m l = - cmpL l m := by
  induction l with
  | nil => intro m; cases m <;> simp [cmpL]
  | cons x l ih =>
    intro m
    cases m with
    | nil => simp [cmpL]
    | cons y m =>
      have := ih m
      unfold cmpL
      by_cases h1 : x < y
      · rw [if_neg (by omega), if_pos h1, if_pos h1]; rfl
      · by_cases h2 : y < x
        · rw [if_pos h2, if_neg h1, if_pos h2]
        · rw [if_neg h2, if_neg h1, if_neg h1, if_neg h2]; exact this
theorem cmpL_trans (l : List Int) : ∀ m o, cmpL l m ≤ 0 → cmpL m o ≤ 0 → cmpL l o ≤ 0 := by
  induction l with
  | nil => intro m o _ _; cases o <;> simp [cmpL]
  | cons x l ih =>
    intro m o h1 h2
    cases m with
    | nil => simp [cmpL] at h1
    | cons y m =>
      cases o with
      | nil => simp [cmpL] at h2
      | cons z o =>
        unfold cmpL at h1 h2 ⊢
        split at h1
        · split at h2
          · rw [if_pos (by omega)]; omega
          · split at h2
            · omega
            · rw [if_pos (by omega)]; omega
        · split at h1
          · omega
          · split at h2
            · rw [if_pos (by omega)]; omega
            · split at h2
              · omega
              · rw [if_neg (by omega), if_neg (by omega)]; exact ih m o h1 h2
theorem cmpL_strict (l m o : List Int) (h1 : cmpL l m < 0) (h2 : cmpL m o ≤ 0) : cmpL l o < 0 := by
  have h3 := cmpL_trans l m o (by omega) h2
  rcases cmpL_range l o with h | h | h
  · omega
  · have e := cmpL_zero h
    subst e
    have := cmpL_neg m l
    omega
  · omega
theorem cmpL_prefix (l : List Int) : ∀ m, cmpL l (l ++ m) ≤ 0 := by
  induction l with
  | nil => intro m; cases m <;> simp [cmpL]
  | cons x l ih => intro m; simp [cmpL]; exact ih m
theorem cmpL_nil (l : List Int) : cmpL [] l = if l.length = 0 then 0 else -1 := by
  cases l <;> simp [cmpL]

/-- how many looks of at most k terminals -/
def cnt (t : Int) : Nat → Int
  | 0 => 1
  | k + 1 => 1 + cnt t k * t
theorem cnt_pos (t : Int) (ht : 1 ≤ t) : ∀ k, 1 ≤ cnt t k := by
  intro k
  induction k with
  | zero => simp [cnt]
  | succ k ih =>
    have : 0 ≤ cnt t k * t := Int.mul_nonneg (by omega) (by omega)
    simp only [cnt]; omega
/-- the number of a look -/
def numL (t : Int) : Nat → List Int → Int
  | _, [] => 0
  | 0, _ :: _ => 0
  | k + 1, s :: r => 1 + s * cnt t k + numL t k r
/-- the look of a number -/
def decL (t : Int) : Nat → Int → List Int
  | 0, _ => []
  | k + 1, n => if n ≤ 0 then [] else (n - 1) / cnt t k :: decL t k ((n - 1) % cnt t k)
theorem numL_range (t : Int) (ht : 1 ≤ t) : ∀ (k : Nat) (l : List Int), l.length ≤ k → (∀ x ∈ l, 0 ≤ x ∧ x < t) → 0 ≤ numL t k l ∧ numL t k l < cnt t k := by
  intro k
  induction k with
  | zero => intro l hl _; cases l with | nil => simp [numL, cnt] | cons x l => simp at hl
  | succ k ih =>
    intro l hl hx
    have hc := cnt_pos t ht k
    cases l with
    | nil => have := cnt_pos t ht (k + 1); simp [numL]; omega
    | cons s r =>
      obtain ⟨h1, h2⟩ := ih r (by simpa using hl) (fun x h => hx x (List.mem_cons_of_mem _ h))
      obtain ⟨s0, s1⟩ := hx s List.mem_cons_self
      simp only [numL, cnt]
      have e1 : 0 ≤ s * cnt t k := Int.mul_nonneg s0 (by omega)
      have e2 : (s + 1) * cnt t k ≤ t * cnt t k := Int.mul_le_mul_of_nonneg_right (by omega) (by omega)
      rw [Int.add_mul, Int.one_mul] at e2
      rw [Int.mul_comm (cnt t k) t]
      omega
theorem decL_ok (t : Int) (ht : 1 ≤ t) : ∀ (k : Nat) (n : Int), 0 ≤ n → n < cnt t k → (decL t k n).length ≤ k ∧ (∀ x ∈ decL t k n, 0 ≤ x ∧ x < t) ∧ numL t k (decL t k n) = n := by
  intro k
  induction k with
  | zero => intro n h0 h1; simp [decL, numL, cnt] at *; omega
  | succ k ih =>
    intro n h0 h1
    have hc := cnt_pos t ht k
    unfold decL
    by_cases hn : n ≤ 0
    · rw [if_pos hn]; simp [numL]; omega
    · rw [if_neg hn]
      have hm := Int.emod_nonneg (n - 1) (show cnt t k ≠ 0 by omega)
      have hm2 := Int.emod_lt_of_pos (n - 1) (show 0 < cnt t k by omega)
      obtain ⟨i1, i2, i3⟩ := ih ((n - 1) % cnt t k) hm hm2
      have hq0 : 0 ≤ (n - 1) / cnt t k := Int.ediv_nonneg (by omega) (by omega)
      have hq1 : (n - 1) / cnt t k < t := by
        simp only [cnt] at h1
        refine Int.ediv_lt_of_lt_mul (by omega) ?_
        rw [Int.mul_comm t]; omega
      refine ⟨by simp; omega, ?_, ?_⟩
      · intro x hx
        rcases List.mem_cons.1 hx with rfl | hx
        · exact ⟨hq0, hq1⟩
        · exact i2 x hx
      · simp only [numL]
        rw [i3]
        have := Int.emod_add_mul_ediv (n - 1) (cnt t k)
        rw [Int.mul_comm] at this
        omega
/-- all looks, in order -/
def allL (t : Nat) : Nat → List Int → List (List Int)
  | 0, x => [x]
  | k + 1, x => x :: (List.range t).flatMap fun (s : Nat) => allL t k (x ++ [(s : Int)])
theorem allL_map (t : Nat) : ∀ (k : Nat) (x : List Int), allL t k x = (allL t k []).map (x ++ ·) := by
  intro k
  induction k with
  | zero => intro x; simp [allL]
  | succ k ih =>
    intro x
    simp only [allL, List.nil_append, List.map_cons, List.append_nil, List.map_flatMap]
    congr 1
    congr 1
    funext s
    rw [ih (x ++ [(s : Int)]), ih [(s : Int)], List.map_map]
    congr 1
    funext y
    simp
theorem flat_len {α : Type} (f : Nat → List α) (c : Nat) (t : Nat) (h : ∀ s, (f s).length = c) : ((List.range t).flatMap f).length = t * c := by
  induction t with
  | zero => simp
  | succ t ih => rw [List.range_succ, List.flatMap_append, List.length_append, ih]; simp [h]; rw [Nat.add_mul]; omega
theorem allL_len (t : Nat) : ∀ (k : Nat) (x : List Int), ((allL t k x).length : Int) = cnt t k := by
  intro k
  induction k with
  | zero => intro x; simp [allL, cnt]
  | succ k ih =>
    intro x
    have hf := flat_len (fun s : Nat => allL t k (x ++ [(s : Int)])) (allL t k []).length t (fun s => by rw [allL_map, List.length_map])
    simp only [allL, cnt, List.length_cons]
    rw [hf, ← ih []]
    simp
    rw [Int.mul_comm]; omega
theorem flat_at {α : Type} (f : Nat → List α) (c : Nat) (h : ∀ s, (f s).length = c) : ∀ (t s j : Nat), s < t → j < c → ((List.range t).flatMap f)[s * c + j]? = (f s)[j]? := by
  intro t
  induction t with
  | zero => intro s j hs; omega
  | succ t ih =>
    intro s j hs hj
    rw [List.range_succ, List.flatMap_append]
    have hl := flat_len f c t h
    by_cases e : s < t
    · have : s * c + j < t * c := by
        have : (s + 1) * c ≤ t * c := Nat.mul_le_mul_right c (by omega)
        rw [Nat.add_mul] at this; omega
      rw [List.getElem?_append_left (by omega)]
      exact ih s j e hj
    · obtain rfl : s = t := by omega
      rw [List.getElem?_append_right (by omega), hl]
      simp
theorem allL_at (t : Nat) (ht : 1 ≤ t) : ∀ (k : Nat) (l : List Int), l.length ≤ k → (∀ x ∈ l, 0 ≤ x ∧ x < (t : Int)) → (allL t k [])[(numL t k l).toNat]? = some l := by
  intro k
  induction k with
  | zero => intro l hl _; cases l with | nil => simp [numL, allL] | cons x l => simp at hl
  | succ k ih =>
    intro l hl hx
    cases l with
    | nil => simp [numL, allL]
    | cons s r =>
      have hr : ∀ x ∈ r, 0 ≤ x ∧ x < (t : Int) := fun x h => hx x (List.mem_cons_of_mem _ h)
      have hi := ih r (by simpa using hl) hr
      obtain ⟨n0, n1⟩ := numL_range t (by omega) k r (by simpa using hl) hr
      obtain ⟨s0, s1⟩ := hx s List.mem_cons_self
      have hc := allL_len t k []
      obtain ⟨s', rfl⟩ : ∃ s' : Nat, s = s' := ⟨s.toNat, by omega⟩
      have hf := flat_at (fun s : Nat => allL t k ([] ++ [(s : Int)])) (allL t k []).length (fun s => by rw [allL_map, List.length_map]) t s' (numL t k r).toNat (by omega) (by omega)
      have e : (numL t (k + 1) ((s' : Int) :: r)).toNat = (s' * (allL t k []).length + (numL t k r).toNat) + 1 := by
        simp only [numL]
        rw [← hc]
        have : 0 ≤ (s' : Int) * ((allL t k []).length : Int) := Int.mul_nonneg (by omega) (by omega)
        have e2 : ((s' * (allL t k []).length : Nat) : Int) = (s' : Int) * ((allL t k []).length : Int) := by simp
        omega
      rw [e]
      simp only [allL, List.getElem?_cons_succ]
      rw [hf, allL_map, List.getElem?_map, hi]
      simp
theorem allL_dec (t : Nat) (ht : 1 ≤ t) (k i : Nat) (hi : i < (allL t k []).length) : (allL t k [])[i]? = some (decL t k i) := by
  have hc := allL_len t k []
  obtain ⟨h1, h2, h3⟩ := decL_ok t (by omega) k i (by omega) (by omega)
  have h := allL_at t ht k (decL t k i) h1 h2
  rw [h3] at h
  simpa using h
theorem allL_inj (t : Nat) (ht : 1 ≤ t) (k i : Nat) (l : List Int) (h : (allL t k [])[i]? = some l) : (numL t k l) = i := by
  have hi : i < (allL t k []).length := (List.getElem?_eq_some_iff.1 h).1
  have hc := allL_len t k []
  obtain ⟨h1, h2, h3⟩ := decL_ok t (by omega) k i (by omega) (by omega)
  rw [allL_dec t ht k i hi] at h
  cases h
  exact h3
theorem allL_mem (t : Nat) (ht : 1 ≤ t) (k : Nat) (l : List Int) (h : l ∈ allL t k []) : l.length ≤ k ∧ ∀ x ∈ l, 0 ≤ x ∧ x < (t : Int) := by
  obtain ⟨i, hi, rfl⟩ := List.mem_iff_getElem.1 h
  have hc := allL_len t k []
  obtain ⟨h1, h2, h3⟩ := decL_ok t (by omega) k i (by omega) (by omega)
  have e := allL_dec t ht k i hi
  rw [List.getElem?_eq_getElem hi] at e
  rw [Option.some.inj e]
  exact ⟨h1, h2⟩
end Go.Proofs.Ytdahaajfkjmflaa.s13

namespace Go.Proofs.Ytdahaajfkjmflaa.s14
set_option linter.unusedVariables false
set_option linter.unusedSimpArgs false
open Go.RowKit
open kit

open s13

/-- strictly ascending -/
def Asc (l : List (List Int)) : Prop := l.Pairwise (fun x y => cmpL x y < 0)
theorem asc_nil : Asc [] := List.Pairwise.nil
theorem asc_one (x : List Int) : Asc [x] := List.pairwise_singleton _ _
theorem asc_cons {x : List Int} {l : List (List Int)} : Asc (x :: l) ↔ (∀ y ∈ l, cmpL x y < 0) ∧ Asc l := List.pairwise_cons
theorem cmpL_irr {x y : List Int} (h : cmpL x y < 0) (k : cmpL y x < 0) : False := by have := cmpL_neg x y; omega
theorem cmpL_lt_ne {x y : List Int} (h : cmpL x y < 0) : x ≠ y := by rintro rfl; rw [cmpL_self] at h; omega
/-- two ascending lists with the same elements are one -/
theorem asc_ext : ∀ {a b : List (List Int)}, Asc a → Asc b → (∀ x, x ∈ a ↔ x ∈ b) → a = b
  | [], [], _, _, _ => rfl
  | [], y :: b, _, _, h => by simpa using (h y).2 (List.mem_cons_self ..)
  | x :: a, [], _, _, h => by simpa using (h x).1 (List.mem_cons_self ..)
  | x :: a, y :: b, ha, hb, h => by
    have ha := asc_cons.1 ha
    have hb := asc_cons.1 hb
    have e : x = y := by
      rcases List.mem_cons.1 ((h x).1 (List.mem_cons_self ..)) with e | e
      · exact e
      · rcases List.mem_cons.1 ((h y).2 (List.mem_cons_self ..)) with k | k
        · exact k.symm
        · exact (cmpL_irr (hb.1 x e) (ha.1 y k)).elim
    subst e
    rw [asc_ext ha.2 hb.2 (fun z => ⟨fun hz => by
      rcases List.mem_cons.1 ((h z).1 (List.mem_cons_of_mem _ hz)) with e | e
      · exact (cmpL_lt_ne (ha.1 z hz) e.symm).elim
      · exact e, fun hz => by
      rcases List.mem_cons.1 ((h z).2 (List.mem_cons_of_mem _ hz)) with e | e
      · exact (cmpL_lt_ne (hb.1 z hz) e.symm).elim
      · exact e⟩)]
def one (b : Bool) (x : List Int) : List (List Int) := if b then [x] else []
/-- two lists side by side -/
def mrg (kp : Bool → Bool → Bool) : List (List Int) → List (List Int) → List (List Int)
  | [], [] => []
  | x :: a, [] => one (kp true false) x ++ mrg kp a []
  | [], y :: b => one (kp false true) y ++ mrg kp [] b
  | x :: a, y :: b =>
    if cmpL x y < 0 then one (kp true false) x ++ mrg kp a (y :: b)
    else if 0 < cmpL x y then one (kp false true) y ++ mrg kp (x :: a) b
    else one (kp true true) y ++ mrg kp a b
  termination_by a b => a.length + b.length
theorem mrg_nil (kp : Bool → Bool → Bool) : mrg kp [] [] = [] := by rw [mrg]
theorem mrg_left (kp : Bool → Bool → Bool) (x : List Int) (a : List (List Int)) : mrg kp (x :: a) [] = one (kp true false) x ++ mrg kp a [] := by rw [mrg]
theorem mrg_right (kp : Bool → Bool → Bool) (y : List Int) (b : List (List Int)) : mrg kp [] (y :: b) = one (kp false true) y ++ mrg kp [] b := by rw [mrg]
theorem mrg_lt (kp : Bool → Bool → Bool) (x y : List Int) (a b : List (List Int)) (h : cmpL x y < 0) : mrg kp (x :: a) (y :: b) = one (kp true false) x ++ mrg kp a (y :: b) := by rw [mrg, if_pos h]
theorem mrg_gt (kp : Bool → Bool → Bool) (x y : List Int) (a b : List (List Int)) (h : 0 < cmpL x y) : mrg kp (x :: a) (y :: b) = one (kp false true) y ++ mrg kp (x :: a) b := by rw [mrg, if_neg (by omega), if_pos h]
theorem mrg_eq (kp : Bool → Bool → Bool) (x y : List Int) (a b : List (List Int)) (h : cmpL x y = 0) : mrg kp (x :: a) (y :: b) = one (kp true true) y ++ mrg kp a b := by rw [mrg, if_neg (by omega), if_neg (by omega)]
theorem mem_one {b : Bool} {x z : List Int} : z ∈ one b x ↔ z = x ∧ b = true := by unfold one; cases b <;> simp
/-- what stands in it -/
def inM (kp : Bool → Bool → Bool) (a b : List (List Int)) (z : List Int) : Prop := (z ∈ a ∧ z ∈ b ∧ kp true true = true) ∨ (z ∈ a ∧ z ∉ b ∧ kp true false = true) ∨ (z ∉ a ∧ z ∈ b ∧ kp false true = true)
theorem not_mem_lt {x y : List Int} {b : List (List Int)} (hb : Asc (y :: b)) (h : cmpL x y < 0) : x ∉ y :: b := fun hx => by
  rcases List.mem_cons.1 hx with e | e
  · exact cmpL_lt_ne h e
  · exact cmpL_irr h ((asc_cons.1 hb).1 x e)
theorem not_mem_tail {y : List Int} {b : List (List Int)} (hb : Asc (y :: b)) : y ∉ b := fun hx => cmpL_lt_ne ((asc_cons.1 hb).1 y hx) rfl
theorem mem_mrg (kp : Bool → Bool → Bool) (z : List Int) : ∀ (a b : List (List Int)), Asc a → Asc b → (z ∈ mrg kp a b ↔ inM kp a b z)
  | [], [], _, _ => by rw [mrg_nil]; simp [inM]
  | x :: a, [], ha, hb => by
    rw [mrg_left, List.mem_append, mem_one, mem_mrg kp z a [] (asc_cons.1 ha).2 hb]
    have := not_mem_tail ha
    unfold inM
    simp only [List.mem_cons, List.not_mem_nil]
    by_cases e : z = x
    · subst e; simp [this]
    · simp [e]
  | [], y :: b, ha, hb => by
    rw [mrg_right, List.mem_append, mem_one, mem_mrg kp z [] b ha (asc_cons.1 hb).2]
    have := not_mem_tail hb
    unfold inM
    simp only [List.mem_cons, List.not_mem_nil]
    by_cases e : z = y
    · subst e; simp [this]
    · simp [e]
  | x :: a, y :: b, ha, hb => by
    rcases cmpL_range x y with h | h | h
    · rw [mrg_lt kp x y a b (by omega), List.mem_append, mem_one, mem_mrg kp z a (y :: b) (asc_cons.1 ha).2 hb]
      have h1 := not_mem_tail ha
      have h2 := not_mem_lt hb (show cmpL x y < 0 by omega)
      unfold inM
      by_cases e : z = x
      · subst e; simp only [h1, h2, List.mem_cons_self]; simp
      · simp only [List.mem_cons, e, false_or, false_and]
    · have e0 := cmpL_zero h
      subst e0
      rw [mrg_eq kp x x a b h, List.mem_append, mem_one, mem_mrg kp z a b (asc_cons.1 ha).2 (asc_cons.1 hb).2]
      have h1 := not_mem_tail ha
      have h2 := not_mem_tail hb
      unfold inM
      by_cases e : z = x
      · subst e; simp only [h1, h2, List.mem_cons_self]; simp
      · simp only [List.mem_cons, e, false_or, false_and]
    · have h' : cmpL y x < 0 := by have := cmpL_neg x y; omega
      rw [mrg_gt kp x y a b (by omega), List.mem_append, mem_one, mem_mrg kp z (x :: a) b ha (asc_cons.1 hb).2]
      have h1 := not_mem_tail hb
      have h2 := not_mem_lt ha h'
      unfold inM
      by_cases e : z = y
      · subst e; simp only [h1, h2, List.mem_cons_self]; simp
      · simp only [List.mem_cons, e, false_or, false_and]
  termination_by a b => a.length + b.length
theorem inM_or {kp : Bool → Bool → Bool} {a b : List (List Int)} {z : List Int} (h : inM kp a b z) : z ∈ a ∨ z ∈ b := by
  rcases h with h | h | h
  · exact .inl h.1
  · exact .inl h.1
  · exact .inr h.2.1
theorem asc_one_app {b : Bool} {x : List Int} {l : List (List Int)} (h : Asc l) (hx : ∀ z ∈ l, cmpL x z < 0) : Asc (one b x ++ l) := by
  cases b
  · exact h
  · exact asc_cons.2 ⟨hx, h⟩
theorem asc_mrg (kp : Bool → Bool → Bool) : ∀ (a b : List (List Int)), Asc a → Asc b → Asc (mrg kp a b)
  | [], [], _, _ => by rw [mrg_nil]; exact asc_nil
  | x :: a, [], ha, hb => by
    rw [mrg_left]
    have ha2 := asc_cons.1 ha
    refine asc_one_app (asc_mrg kp a [] ha2.2 hb) (fun z hz => ?_)
    rcases inM_or ((mem_mrg kp z a [] ha2.2 hb).1 hz) with h | h
    · exact ha2.1 z h
    · cases h
  | [], y :: b, ha, hb => by
    rw [mrg_right]
    have hb2 := asc_cons.1 hb
    refine asc_one_app (asc_mrg kp [] b ha hb2.2) (fun z hz => ?_)
    rcases inM_or ((mem_mrg kp z [] b ha hb2.2).1 hz) with h | h
    · cases h
    · exact hb2.1 z h
  | x :: a, y :: b, ha, hb => by
    have ha2 := asc_cons.1 ha
    have hb2 := asc_cons.1 hb
    rcases cmpL_range x y with h | h | h
    · rw [mrg_lt kp x y a b (by omega)]
      refine asc_one_app (asc_mrg kp a (y :: b) ha2.2 hb) (fun z hz => ?_)
      rcases inM_or ((mem_mrg kp z a (y :: b) ha2.2 hb).1 hz) with k | k
      · exact ha2.1 z k
      · rcases List.mem_cons.1 k with rfl | k
        · omega
        · exact cmpL_strict x y z (by omega) (by have := hb2.1 z k; omega)
    · have e0 := cmpL_zero h
      subst e0
      rw [mrg_eq kp x x a b h]
      refine asc_one_app (asc_mrg kp a b ha2.2 hb2.2) (fun z hz => ?_)
      rcases inM_or ((mem_mrg kp z a b ha2.2 hb2.2).1 hz) with k | k
      · exact ha2.1 z k
      · exact hb2.1 z k
    · have h' : cmpL y x < 0 := by have := cmpL_neg x y; omega
      rw [mrg_gt kp x y a b (by omega)]
      refine asc_one_app (asc_mrg kp (x :: a) b ha hb2.2) (fun z hz => ?_)
      rcases inM_or ((mem_mrg kp z (x :: a) b ha hb2.2).1 hz) with k | k
      · rcases List.mem_cons.1 k with rfl | k
        · exact h'
        · exact cmpL_strict y x z h' (by have := ha2.1 z k; omega)
      · exact hb2.1 z k
  termination_by a b => a.length + b.length
theorem mrg_len (kp : Bool → Bool → Bool) : ∀ (a b : List (List Int)), (mrg kp a b).length ≤ a.length + b.length
  | [], [] => by rw [mrg_nil]; simp
  | x :: a, [] => by
    rw [mrg_left, List.length_append]; have := mrg_len kp a []; unfold one; simp at this ⊢; split <;> simp <;> omega
  | [], y :: b => by
    rw [mrg_right, List.length_append]; have := mrg_len kp [] b; unfold one; simp at this ⊢; split <;> simp <;> omega
  | x :: a, y :: b => by
    rcases cmpL_range x y with h | h | h
    · rw [mrg_lt kp x y a b (by omega), List.length_append]; have := mrg_len kp a (y :: b); unfold one; simp at this ⊢; split <;> simp <;> omega
    · rw [mrg_eq kp x y a b h, List.length_append]; have := mrg_len kp a b; unfold one; simp at this ⊢; split <;> simp <;> omega
    · rw [mrg_gt kp x y a b (by omega), List.length_append]; have := mrg_len kp (x :: a) b; unfold one; simp at this ⊢; split <;> simp <;> omega
  termination_by a b => a.length + b.length
/-- equal ones side by side count once -/
def compL : List (List Int) → List (List Int)
  | [] => []
  | [x] => [x]
  | x :: y :: l => if x = y then compL (y :: l) else x :: compL (y :: l)
theorem compL_mem (z : List Int) : ∀ l, z ∈ compL l ↔ z ∈ l
  | [] => by simp [compL]
  | [x] => by simp [compL]
  | x :: y :: l => by
    unfold compL
    have ih := compL_mem z (y :: l)
    by_cases h : x = y
    · rw [if_pos h, ih, h]; simp
    · rw [if_neg h, List.mem_cons, ih, List.mem_cons (a := z) (b := x)]
/-- ascending, not strictly -/
def Up (l : List (List Int)) : Prop := l.Pairwise (fun x y => cmpL x y ≤ 0)
theorem asc_up {l : List (List Int)} (h : Asc l) : Up l := h.imp (fun h => by omega)
theorem compL_asc : ∀ {l}, Up l → Asc (compL l)
  | [], _ => asc_nil
  | [x], _ => asc_one x
  | x :: y :: l, h => by
    unfold compL
    have h2 := List.pairwise_cons.1 h
    by_cases e : x = y
    · rw [if_pos e]; exact compL_asc h2.2
    · rw [if_neg e]
      refine asc_cons.2 ⟨fun z hz => ?_, compL_asc h2.2⟩
      have hz := (compL_mem z _).1 hz
      have h3 := h2.1 z hz
      rcases Int.lt_or_eq_of_le h3 with k | k
      · exact k
      · have e2 := cmpL_zero k
        subst e2
        have h4 := h2.1 y (List.mem_cons_self ..)
        rcases List.mem_cons.1 hz with e5 | h5
        · exact absurd e5 e
        · have h6 := (List.pairwise_cons.1 h2.2).1 x h5
          have h7 := cmpL_neg x y
          exact absurd (cmpL_zero (show cmpL x y = 0 by omega)) e
theorem compL_len : ∀ l, (compL l).length ≤ l.length
  | [] => by simp [compL]
  | [x] => by simp [compL]
  | x :: y :: l => by
    unfold compL
    have := compL_len (y :: l)
    split
    · simp at this ⊢; omega
    · simp at this ⊢; omega
theorem compL_self {l : List (List Int)} (h : Asc l) : compL l = l := asc_ext (compL_asc (asc_up h)) h (fun z => compL_mem z l)
theorem take_le (k : Nat) : ∀ (x y : List Int), cmpL x y ≤ 0 → cmpL (x.take k) (y.take k) ≤ 0 := by
  induction k with
  | zero => intro x y _; simp [cmpL]
  | succ k ih =>
    intro x y h
    match x, y with
    | [], [] => simp [cmpL]
    | [], y :: b => simp [cmpL]
    | x :: a, [] => simp [cmpL] at h
    | x :: a, y :: b =>
      simp only [List.take_succ_cons]
      unfold cmpL at h ⊢
      split at h
      · rw [if_pos (by omega)]; omega
      · split at h
        · omega
        · rw [if_neg (by omega), if_neg (by omega)]; exact ih a b h
/-- the list cut to k -/
def cutS (k : Nat) (l : List (List Int)) : List (List Int) := compL (l.map (List.take k))
theorem up_map (k : Nat) {l : List (List Int)} (h : Up l) : Up (l.map (List.take k)) := List.pairwise_map.2 (h.imp (fun {x y} h => take_le k x y h))
theorem cutS_asc (k : Nat) {l : List (List Int)} (h : Asc l) : Asc (cutS k l) := compL_asc (up_map k (asc_up h))
theorem cutS_mem (k : Nat) (l : List (List Int)) (z : List Int) : z ∈ cutS k l ↔ ∃ x ∈ l, x.take k = z := by unfold cutS; rw [compL_mem, List.mem_map]
theorem cutS_len (k : Nat) (l : List (List Int)) : (cutS k l).length ≤ l.length := by unfold cutS; have := compL_len (l.map (List.take k)); simpa using this
/-- the strings with n terminals -/
def ofLen (n : Nat) (l : List (List Int)) : List (List Int) := l.filter (fun x => decide (x.length = n))
theorem ofLen_asc (n : Nat) {l : List (List Int)} (h : Asc l) : Asc (ofLen n l) := h.filter _
theorem ofLen_mem (n : Nat) (l : List (List Int)) (z : List Int) : z ∈ ofLen n l ↔ z ∈ l ∧ z.length = n := by unfold ofLen; simp
/-- pairs of strings, joined -/
def prodS (a b : List (List Int)) : List (List Int) := a.flatMap (fun x => b.map (fun y => x ++ y))
theorem prodS_mem (a b : List (List Int)) (z : List Int) : z ∈ prodS a b ↔ ∃ x ∈ a, ∃ y ∈ b, x ++ y = z := by unfold prodS; simp
theorem cmpL_app_left (x : List Int) : ∀ y z, cmpL (x ++ y) (x ++ z) = cmpL y z := by
  induction x with
  | nil => intro y z; rfl
  | cons a x ih => intro y z; simp only [List.cons_append]; rw [cmpL, if_neg (by omega), if_neg (by omega)]; exact ih y z
theorem cmpL_app_lt : ∀ (x y : List Int), x.length = y.length → cmpL x y < 0 → ∀ u v, cmpL (x ++ u) (y ++ v) < 0
  | [], [], _, h, _, _ => by simp [cmpL] at h
  | [], _ :: _, h, _, _, _ => by simp at h
  | _ :: _, [], h, _, _, _ => by simp at h
  | x :: a, y :: b, hl, h, u, v => by
    simp only [List.cons_append]
    unfold cmpL at h ⊢
    split at h
    · rw [if_pos (by omega)]; omega
    · split at h
      · omega
      · rw [if_neg (by omega), if_neg (by omega)]; exact cmpL_app_lt a b (by simpa using hl) h u v
theorem prodS_asc (n : Nat) : ∀ {a b : List (List Int)}, Asc a → Asc b → (∀ x ∈ a, x.length = n) → Asc (prodS a b)
  | [], b, _, _, _ => asc_nil
  | x :: a, b, ha, hb, hn => by
    have ha2 := asc_cons.1 ha
    unfold prodS
    rw [List.flatMap_cons]
    refine List.pairwise_append.2 ⟨List.pairwise_map.2 (hb.imp (fun {y z} h => by rw [cmpL_app_left]; exact h)), prodS_asc n ha2.2 hb (fun z hz => hn z (List.mem_cons_of_mem _ hz)), fun u hu v hv => ?_⟩
    obtain ⟨y, hy, rfl⟩ := List.mem_map.1 hu
    obtain ⟨x', hx', y', hy', rfl⟩ := (prodS_mem a b v).1 hv
    exact cmpL_app_lt x x' (by rw [hn x (List.mem_cons_self ..), hn x' (List.mem_cons_of_mem _ hx')]) (ha2.1 x' hx') y y'
def kU (_ _ : Bool) : Bool := true
def kM (a b : Bool) : Bool := a && b
def kL (a b : Bool) : Bool := a && !b
theorem inM_U {a b : List (List Int)} {z : List Int} : inM kU a b z ↔ z ∈ a ∨ z ∈ b := by
  unfold inM kU; by_cases h : z ∈ a <;> by_cases k : z ∈ b <;> simp [h, k]
theorem inM_M {a b : List (List Int)} {z : List Int} : inM kM a b z ↔ z ∈ a ∧ z ∈ b := by
  unfold inM kM; simp
theorem inM_L {a b : List (List Int)} {z : List Int} : inM kL a b z ↔ z ∈ a ∧ z ∉ b := by
  unfold inM kL; simp
/-- the part of the sum that begins with n terminals -/
def partS (k n : Nat) (a b : List (List Int)) : List (List Int) := prodS (ofLen n (cutS k a)) (cutS (k - n) b)
theorem partS_asc (k n : Nat) {a b : List (List Int)} (ha : Asc a) (hb : Asc b) : Asc (partS k n a b) := prodS_asc n (ofLen_asc n (cutS_asc k ha)) (cutS_asc _ hb) (fun x hx => ((ofLen_mem n _ x).1 hx).2)
/-- the sum's parts, from n on -/
def sumS (k : Nat) (a b : List (List Int)) : Nat → List (List Int)
  | 0 => []
  | n + 1 => mrg kU (sumS k a b n) (partS k n a b)
theorem sumS_asc (k : Nat) {a b : List (List Int)} (ha : Asc a) (hb : Asc b) : ∀ n, Asc (sumS k a b n)
  | 0 => asc_nil
  | n + 1 => asc_mrg kU _ _ (sumS_asc k ha hb n) (partS_asc k n ha hb)
theorem take_parts (k : Nat) (x y : List Int) : x.take k ++ y.take (k - (x.take k).length) = (x ++ y).take k := by
  rw [List.take_append, List.length_take]
  congr 1
  rcases Nat.le_total k x.length with h | h
  · rw [Nat.min_eq_left h, Nat.sub_self, Nat.sub_eq_zero_of_le h]
  · rw [Nat.min_eq_right h]
theorem sumS_mem (k : Nat) {a b : List (List Int)} (ha : Asc a) (hb : Asc b) (z : List Int) : ∀ n, (z ∈ sumS k a b n ↔ ∃ x ∈ a, ∃ y ∈ b, (x.take k).length < n ∧ (x ++ y).take k = z)
  | 0 => by simp [sumS]
  | n + 1 => by
    rw [sumS, mem_mrg kU z _ _ (sumS_asc k ha hb n) (partS_asc k n ha hb), inM_U, sumS_mem k ha hb z n]
    unfold partS
    rw [prodS_mem]
    constructor
    · rintro (⟨x, hx, y, hy, h1, h2⟩ | ⟨u, hu, v, hv, rfl⟩)
      · exact ⟨x, hx, y, hy, by omega, h2⟩
      · obtain ⟨hu, hn⟩ := (ofLen_mem n _ u).1 hu
        obtain ⟨x, hx, rfl⟩ := (cutS_mem k a u).1 hu
        obtain ⟨y, hy, rfl⟩ := (cutS_mem _ b v).1 hv
        exact ⟨x, hx, y, hy, by omega, by rw [← hn, take_parts]⟩
    · rintro ⟨x, hx, y, hy, h1, rfl⟩
      by_cases h : (x.take k).length < n
      · exact .inl ⟨x, hx, y, hy, h, rfl⟩
      · have hn : (x.take k).length = n := by omega
        exact .inr ⟨x.take k, (ofLen_mem n _ _).2 ⟨(cutS_mem k a _).2 ⟨x, hx, rfl⟩, hn⟩, y.take (k - n), (cutS_mem _ b _).2 ⟨y, hy, rfl⟩, by rw [← hn, take_parts]⟩
/-- the sum -/
theorem sum_mem (k : Nat) {a b : List (List Int)} (ha : Asc a) (hb : Asc b) (z : List Int) : z ∈ sumS k a b (k + 1) ↔ ∃ x ∈ a, ∃ y ∈ b, (x ++ y).take k = z := by
  rw [sumS_mem k ha hb]
  constructor
  · rintro ⟨x, hx, y, hy, _, h⟩; exact ⟨x, hx, y, hy, h⟩
  · rintro ⟨x, hx, y, hy, h⟩; exact ⟨x, hx, y, hy, by rw [List.length_take]; omega, h⟩
/-- a strict order on any list: the set of its elements -/
def insS (x : List Int) (l : List (List Int)) : List (List Int) := mrg kU [x] l
def setS : List (List Int) → List (List Int)
  | [] => []
  | x :: l => insS x (setS l)
theorem setS_asc : ∀ l, Asc (setS l)
  | [] => asc_nil
  | x :: l => asc_mrg kU [x] _ (asc_one x) (setS_asc l)
theorem setS_mem (z : List Int) : ∀ l, z ∈ setS l ↔ z ∈ l
  | [] => by simp [setS]
  | x :: l => by rw [setS, insS, mem_mrg kU z _ _ (asc_one x) (setS_asc l), inM_U, setS_mem z l]; simp
theorem setS_len (l : List (List Int)) : (setS l).length ≤ l.length := by
  induction l with
  | nil => simp [setS]
  | cons x l ih => unfold setS insS; have := mrg_len kU [x] (setS l); simp at this ⊢; omega
theorem setS_eq {l m : List (List Int)} (h : Asc m) (e : ∀ z, z ∈ m ↔ z ∈ l) : m = setS l := asc_ext h (setS_asc l) (fun z => (e z).trans (setS_mem z l).symm)
end Go.Proofs.Ytdahaajfkjmflaa.s14

namespace Go.Proofs.Ytdahaajfkjmflaa.kit
set_option linter.unusedVariables false
set_option linter.unusedSimpArgs false
open Go Go.RowKit

/-- a later world that has all blocks of w as they were -/
structure Later (w : World) where
  W : World
  h : Below w.heap.size w W
instance (w : World) : Inhabited (Later w) := ⟨⟨w, Below.refl _ _⟩⟩
theorem Later.cell {w : World} (p : Later w) {a : Addr} {v : Value} (h : w.cell? a = some v) (hb : a.block < w.heap.size) : p.W.cell? a = some v := (p.h.cell (p := a) hb).trans h
theorem wp_region_later {P : Program} {id : Nat} {Q : Exit → Act → World → Prop} {a : Act} {w : World} {l : List Oper} (hm : P.follows .mixedOrders = true) (hB : Region.lexB .any l.toArray = true)
    (h : wpQuiet P l.toArray (fun w' => ∃ p : Later w, w' = p.W) (fun a' => ∀ w', (∃ p : Later w, w' = p.W) → Q .normal a' w') l a) : (Code.region id l.toArray true).wp P Q a w :=
  wp_region_quiet (C := fun w' => ∃ p : Later w, w' = p.W) hm hB ⟨⟨w.drew, (Below.refl _ _).drew⟩, rfl⟩ (by simpa using h)
theorem calls_later {P : Program} {f : FuncId} {args : Array Value} {w : World} {p : Later w} {v : Value}
    (h : Calls P f args p.W fun e w' => e = .returned v ∧ Below p.W.heap.size p.W w') : Calls P f args p.W fun e w'' => e = .returned v ∧ ∃ q : Later w, w'' = q.W :=
  h.mono fun _ W' ⟨he, hB⟩ => ⟨he, ⟨⟨W', below_then p.h hB⟩, rfl⟩⟩
theorem calls_same {P : Program} {f : FuncId} {args : Array Value} {w : World} {p : Later w} {v : Value}
    (h : Calls P f args p.W fun e w' => e = .returned v ∧ p.W = w') : Calls P f args p.W fun e w'' => e = .returned v ∧ ∃ q : Later w, w'' = q.W :=
  h.mono fun _ W' ⟨he, hB⟩ => ⟨he, p, hB.symm⟩
end Go.Proofs.Ytdahaajfkjmflaa.kit
