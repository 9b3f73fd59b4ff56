/-
  Layer 6: InternMerges: what came in, and two tables of the law's own.
-/
import Derived.Test.YtndghjfgjkjbdaaS06ZF
import Derived.Test.YtndghjfgjkjbdaaS06ZG
import Derived.Deep.Cut
import Derived.Deep.CutRange
import Derived.Deep.RegionHeld3
import Derived.Deep.DrawnRows
namespace Go.Proofs.Ytndghjfgjkjbdaa.s06
set_option linter.unusedVariables false
set_option linter.unusedSimpArgs false
open Go.RowKit Go.WideMaps Go.Maps
open kit

/-- numbers that came in -/
structure Ti (w : World) (l : List Int) (a : Option Addr) (cap : Nat) : Prop where
  reads : ReadsI w a l
  hcap : l.length ≤ cap
  hnil : a = none → cap = 0
theorem Ti.below {w w1 : World} {l : List Int} {a : Option Addr} {cap : Nat} (h : Ti w l a cap) (hB : Below w.heap.size w w1) : Ti w1 l a cap := ⟨h.reads.below hB, h.hcap, h.hnil⟩
theorem Ti.src {w : World} {l : List Int} {a : Option Addr} {cap : Nat} (h : Ti w l a cap) : Src w a cap (l.map (Value.int .i64)) := by
  cases a with
  | none =>
    have h1 := h.hnil rfl
    have h2 := h.hcap
    have h3 : l = [] := List.length_eq_zero_iff.1 (by omega)
    subst h3
    exact .inl ⟨rfl, rfl, h1⟩
  | some x =>
    refine .inr ⟨x, rfl, fun j u hu => ?_⟩
    have hj : j < l.length := by simpa using (List.getElem?_eq_some_iff.1 hu).1
    obtain ⟨b, off, e, _, hc⟩ := h.reads j hj
    cases e
    rw [List.getElem?_map, List.getElem?_eq_getElem hj] at hu
    rw [List.getElem?_eq_getElem hj] at hc
    cases hu
    rw [Go.WideShapes.add_plain]
    exact hc
/-- what came in, boxed -/
structure MI (w W : World) (a : Option Addr) (cap : Nat) (l : List ByteArray) (a2 : Option Addr) (cap2 : Nat) (m : List ByteArray) (a3 : Option Addr) (cap3 : Nat) (ks : List Int) : Prop where
  P : Box W 24 w.heap.size #[.slice a l.length cap]
  Q : Box W 24 (w.heap.size + 1) #[.slice a2 m.length cap2]
  A : Tb W l a cap
  M : Tb W m a2 cap2
  I : Ti W ks a3 cap3
  B : Below w.heap.size w W
theorem MI.below {w W W1 : World} {a : Option Addr} {cap : Nat} {l : List ByteArray} {a2 : Option Addr} {cap2 : Nat} {m : List ByteArray} {a3 : Option Addr} {cap3 : Nat} {ks : List Int} (hB : Below W.heap.size W W1) (h : MI w W a cap l a2 cap2 m a3 cap3 ks) : MI w W1 a cap l a2 cap2 m a3 cap3 ks :=
  ⟨h.P.below hB, h.Q.below hB, h.A.below hB, h.M.below hB, h.I.below hB, below_then h.B hB⟩
theorem MI.alloc {w W : World} {a : Option Addr} {cap : Nat} {l : List ByteArray} {a2 : Option Addr} {cap2 : Nat} {m : List ByteArray} {a3 : Option Addr} {cap3 : Nat} {ks : List Int} (h : MI w W a cap l a2 cap2 m a3 cap3 ks) (o : Obj) : MI w (W.alloc o) a cap l a2 cap2 m a3 cap3 ks :=
  h.below ((Below.refl _ _).alloc (Nat.le_refl _) o)
theorem MI.held {w W : World} {a : Option Addr} {cap : Nat} {l : List ByteArray} {a2 : Option Addr} {cap2 : Nat} {m : List ByteArray} {a3 : Option Addr} {cap3 : Nat} {ks : List Int} (h : MI w W a cap l a2 cap2 m a3 cap3 ks) : W.cell? ⟨w.heap.size, 0, none⟩ = some (.slice a l.length cap) ∧ W.cell? ⟨w.heap.size + 1, 0, none⟩ = some (.slice a2 m.length cap2) := ⟨h.P.cell 0, h.Q.cell 0⟩
theorem MI.drew {w W : World} {a : Option Addr} {cap : Nat} {l : List ByteArray} {a2 : Option Addr} {cap2 : Nat} {m : List ByteArray} {a3 : Option Addr} {cap3 : Nat} {ks : List Int} (h : MI w W a cap l a2 cap2 m a3 cap3 ks) : MI w W.drew a cap l a2 cap2 m a3 cap3 ks :=
  h.below (Below.refl _ _).drew
theorem Box.drewB {W : World} {t : TypeId} {b : Nat} {xs : Array Value} (h : Box W t b xs) : Box W.drew t b xs := h.below (Below.refl _ _).drew
theorem held_drew {W : World} {p q : Addr} {x y : Value} (h : W.cell? p = some x ∧ W.cell? q = some y) : W.drew.cell? p = some x ∧ W.drew.cell? q = some y :=
  ⟨((Below.refl _ W).drew.cell (World.block_lt_of_cell? W p h.1)).trans h.1, ((Below.refl _ W).drew.cell (World.block_lt_of_cell? W q h.2)).trans h.2⟩
theorem held_alloc {W : World} {o : Obj} {p q : Addr} {x y : Value} (h : W.cell? p = some x ∧ W.cell? q = some y) : (W.alloc o).cell? p = some x ∧ (W.alloc o).cell? q = some y :=
  ⟨(((Below.refl _ W).alloc (Nat.le_refl _) o).cell (World.block_lt_of_cell? W p h.1)).trans h.1, (((Below.refl _ W).alloc (Nat.le_refl _) o).cell (World.block_lt_of_cell? W q h.2)).trans h.2⟩
theorem held_set {W : World} {b : Nat} {u : Value} {p q : Nat} {x y : Value} (h : W.cell? ⟨p, 0, none⟩ = some x ∧ W.cell? ⟨q, 0, none⟩ = some y) (hp : p ≠ b) (hq : q ≠ b) : (W.setCell ⟨b, 0, none⟩ u).cell? ⟨p, 0, none⟩ = some x ∧ (W.setCell ⟨b, 0, none⟩ u).cell? ⟨q, 0, none⟩ = some y := by
  have e : ∀ g, g ≠ b → (W.setCell ⟨b, 0, none⟩ u).cell? ⟨g, 0, none⟩ = W.cell? ⟨g, 0, none⟩ := fun g hg => World.cell?_of_block (Below.heap_setCell _ _ _ _ hg)
  exact ⟨(e p hp).trans h.1, (e q hq).trans h.2⟩
/-- what came in, boxed, and three of the law's own -/
structure MB (w W : World) (a : Option Addr) (cap : Nat) (l : List ByteArray) (a2 : Option Addr) (cap2 : Nat) (m : List ByteArray) (a3 : Option Addr) (cap3 : Nat) (ks : List Int) (a1 a4 a5 : Option Addr) : Prop where
  S : MI w W a cap l a2 cap2 m a3 cap3 ks
  RH : ReadsS W a1 l
  RK : ReadsS W a4 m
  RW : ReadsI W a5 ks
theorem reads_setT {W : World} {c b : Nat} {a : Option Addr} {xs : List ByteArray} {pa : Option Addr} {pn pk : Nat} (h : ReadsS W a xs) (X : Box W 24 b #[.slice pa pn pk]) (u : Value) : ReadsS (W.setCell ⟨b, 0, none⟩ u) a xs := reads_box_set h X u
theorem readsI_set {w : World} {a : Option Addr} {l : List Int} (h : ReadsI w a l) {t : TypeId} {c : Nat} {pa : Option Addr} {pn pk : Nat} (X : Box w t c #[.slice pa pn pk]) (u : Value) : ReadsI (w.setCell ⟨c, 0, none⟩ u) a l := by
  intro i hi
  obtain ⟨b, off, e, hb, hc⟩ := h i hi
  have hne : b ≠ c := by
    intro e2; subst e2
    rw [X.cell] at hc
    generalize off + i = q at hc
    cases q with
    | zero => simp at hc
    | succ q => simp at hc
  exact ⟨b, off, e, by simpa using hb, (World.cell?_of_block (Below.heap_setCell _ _ _ _ hne)).trans hc⟩
theorem MI.set {w W : World} {a : Option Addr} {cap : Nat} {l : List ByteArray} {a2 : Option Addr} {cap2 : Nat} {m : List ByteArray} {a3 : Option Addr} {cap3 : Nat} {ks : List Int} {a1 : Option Addr} {k1 : Nat} {a4 : Option Addr} {k4 : Nat} {a5 : Option Addr} (h : MI w W a cap l a2 cap2 m a3 cap3 ks) {b : Nat} {pa : Option Addr} {pn pk : Nat} (X : Box W 24 b #[.slice pa pn pk]) (hb : w.heap.size + 1 < b) (u : Value) : MI w (W.setCell ⟨b, 0, none⟩ u) a cap l a2 cap2 m a3 cap3 ks :=
  ⟨h.P.other (by omega) u, h.Q.other (by omega) u, ⟨reads_box_set h.A.reads X u, h.A.hcap, h.A.hnil, h.A.small⟩, ⟨reads_box_set h.M.reads X u, h.M.hcap, h.M.hnil, h.M.small⟩, ⟨readsI_set h.I.reads X u, h.I.hcap, h.I.hnil⟩, h.B.setCell (p := ⟨b, 0, none⟩) (by simp; omega) u⟩
theorem MB.set {w W : World} {a : Option Addr} {cap : Nat} {l : List ByteArray} {a2 : Option Addr} {cap2 : Nat} {m : List ByteArray} {a3 : Option Addr} {cap3 : Nat} {ks : List Int} {a1 : Option Addr} {k1 : Nat} {a4 : Option Addr} {k4 : Nat} {a5 : Option Addr} (h : MB w W a cap l a2 cap2 m a3 cap3 ks a1 a4 a5) {b : Nat} {pa : Option Addr} {pn pk : Nat} (X : Box W 24 b #[.slice pa pn pk]) (hb : w.heap.size + 1 < b) (u : Value) : MB w (W.setCell ⟨b, 0, none⟩ u) a cap l a2 cap2 m a3 cap3 ks a1 a4 a5 :=
  ⟨MI.set (a1 := a1) (k1 := k1) (a4 := a4) (k4 := k4) (a5 := a5) h.S X hb u, reads_box_set h.RH X u, reads_box_set h.RK X u, readsI_set h.RW X u⟩
theorem MB.below {w W W1 : World} {a : Option Addr} {cap : Nat} {l : List ByteArray} {a2 : Option Addr} {cap2 : Nat} {m : List ByteArray} {a3 : Option Addr} {cap3 : Nat} {ks : List Int} {a1 a4 a5 : Option Addr} (h : MB w W a cap l a2 cap2 m a3 cap3 ks a1 a4 a5) (hB : Below W.heap.size W W1) : MB w W1 a cap l a2 cap2 m a3 cap3 ks a1 a4 a5 :=
  ⟨h.S.below hB, h.RH.below hB, h.RK.below hB, h.RW.below hB⟩
theorem MB.alloc {w W : World} {a : Option Addr} {cap : Nat} {l : List ByteArray} {a2 : Option Addr} {cap2 : Nat} {m : List ByteArray} {a3 : Option Addr} {cap3 : Nat} {ks : List Int} {a1 a4 a5 : Option Addr} (h : MB w W a cap l a2 cap2 m a3 cap3 ks a1 a4 a5) (o : Obj) : MB w (W.alloc o) a cap l a2 cap2 m a3 cap3 ks a1 a4 a5 := h.below ((Below.refl _ _).alloc (Nat.le_refl _) o)
/-- and two variables for two of them -/
structure MS (w W : World) (bh bk : Nat) (a : Option Addr) (cap : Nat) (l : List ByteArray) (a2 : Option Addr) (cap2 : Nat) (m : List ByteArray) (a3 : Option Addr) (cap3 : Nat) (ks : List Int) (a1 : Option Addr) (k1 : Nat) (a4 : Option Addr) (k4 : Nat) (a5 : Option Addr) : Prop where
  M : MB w W a cap l a2 cap2 m a3 cap3 ks a1 a4 a5
  H : Box W 24 bh #[.slice a1 l.length k1]
  K : Box W 24 bk #[.slice a4 m.length k4]
  h1 : w.heap.size + 1 < bh
  h2 : w.heap.size + 1 < bk
theorem MS.below {w W W1 : World} {bh bk : Nat} {a : Option Addr} {cap : Nat} {l : List ByteArray} {a2 : Option Addr} {cap2 : Nat} {m : List ByteArray} {a3 : Option Addr} {cap3 : Nat} {ks : List Int} {a1 : Option Addr} {k1 : Nat} {a4 : Option Addr} {k4 : Nat} {a5 : Option Addr} (h : MS w W bh bk a cap l a2 cap2 m a3 cap3 ks a1 k1 a4 k4 a5) (hB : Below W.heap.size W W1) : MS w W1 bh bk a cap l a2 cap2 m a3 cap3 ks a1 k1 a4 k4 a5 :=
  ⟨h.M.below hB, h.H.below hB, h.K.below hB, h.h1, h.h2⟩
theorem MS.set {w W : World} {bh bk : Nat} {a : Option Addr} {cap : Nat} {l : List ByteArray} {a2 : Option Addr} {cap2 : Nat} {m : List ByteArray} {a3 : Option Addr} {cap3 : Nat} {ks : List Int} {a1 : Option Addr} {k1 : Nat} {a4 : Option Addr} {k4 : Nat} {a5 : Option Addr} (h : MS w W bh bk a cap l a2 cap2 m a3 cap3 ks a1 k1 a4 k4 a5) {b : Nat} {pa : Option Addr} {pn pk : Nat} (X : Box W 24 b #[.slice pa pn pk]) (hb : w.heap.size + 1 < b) (hb1 : bh < b) (hb2 : bk < b) (u : Value) : MS w (W.setCell ⟨b, 0, none⟩ u) bh bk a cap l a2 cap2 m a3 cap3 ks a1 k1 a4 k4 a5 :=
  ⟨MB.set (k1 := k1) (k4 := k4) h.M X hb u, h.H.other (by omega) u, h.K.other (by omega) u, h.h1, h.h2⟩
theorem fin_nn {w W : World} {a : Option Addr} {cap : Nat} {l : List ByteArray} {a2 : Option Addr} {cap2 : Nat} {m : List ByteArray} {a3 : Option Addr} {cap3 : Nat} {ks : List Int} {a1 : Option Addr} {k1 : Nat} {a4 : Option Addr} {k4 : Nat} {a5 : Option Addr} (h : MB w W a cap l a2 cap2 m a3 cap3 ks a1 a4 a5) : MS w ((W.alloc (.cells #[.slice a1 l.length k1] 24)).alloc (.cells #[.slice a4 m.length k4] 24)) W.heap.size (W.heap.size + 1) a cap l a2 cap2 m a3 cap3 ks a1 k1 a4 k4 a5 :=
  ⟨(h.alloc _).alloc _, (Box.new _ _ _).alloc _, Box.new2 _ _ _ _, h.S.Q.lt, Nat.lt_succ_of_lt h.S.Q.lt⟩
theorem fin_nm {w W : World} {a : Option Addr} {cap : Nat} {l : List ByteArray} {a2 : Option Addr} {cap2 : Nat} {m : List ByteArray} {a3 : Option Addr} {cap3 : Nat} {ks : List Int} {a1 : Option Addr} {k1 : Nat} {a4 : Option Addr} {k4 : Nat} {a5 : Option Addr} (h : MB w W a cap l a2 cap2 m a3 cap3 ks a1 a4 a5) : MS w ((W.alloc (.cells #[.slice a4 m.length k4] 24)).alloc (.cells #[.slice a1 l.length k1] 24)) (W.heap.size + 1) W.heap.size a cap l a2 cap2 m a3 cap3 ks a1 k1 a4 k4 a5 :=
  ⟨(h.alloc _).alloc _, Box.new2 _ _ _ _, (Box.new _ _ _).alloc _, Nat.lt_succ_of_lt h.S.Q.lt, h.S.Q.lt⟩
theorem fin_on {w W : World} {a : Option Addr} {cap : Nat} {l : List ByteArray} {a2 : Option Addr} {cap2 : Nat} {m : List ByteArray} {a3 : Option Addr} {cap3 : Nat} {ks : List Int} {a1 : Option Addr} {k1 : Nat} {a4 : Option Addr} {k4 : Nat} {a5 : Option Addr} (h : MB w W a cap l a2 cap2 m a3 cap3 ks a1 a4 a5) {b : Nat} (X : Box W 24 b #[.slice none 0 0]) (hb : w.heap.size + 1 < b) : MS w ((W.setCell ⟨b, 0, none⟩ (.slice a1 l.length k1)).alloc (.cells #[.slice a4 m.length k4] 24)) b W.heap.size a cap l a2 cap2 m a3 cap3 ks a1 k1 a4 k4 a5 :=
  ⟨(MB.set (k1 := k1) (k4 := k4) h X hb _).alloc _, (X.set 0 (by simp) _).alloc _, by simpa using Box.new (W.setCell ⟨b, 0, none⟩ (.slice a1 l.length k1)) 24 #[.slice a4 m.length k4], hb, h.S.Q.lt⟩
theorem fin_no {w W : World} {a : Option Addr} {cap : Nat} {l : List ByteArray} {a2 : Option Addr} {cap2 : Nat} {m : List ByteArray} {a3 : Option Addr} {cap3 : Nat} {ks : List Int} {a1 : Option Addr} {k1 : Nat} {a4 : Option Addr} {k4 : Nat} {a5 : Option Addr} (h : MB w W a cap l a2 cap2 m a3 cap3 ks a1 a4 a5) {b : Nat} (X : Box W 24 b #[.slice none 0 0]) (hb : w.heap.size + 1 < b) : MS w ((W.setCell ⟨b, 0, none⟩ (.slice a4 m.length k4)).alloc (.cells #[.slice a1 l.length k1] 24)) W.heap.size b a cap l a2 cap2 m a3 cap3 ks a1 k1 a4 k4 a5 :=
  ⟨(MB.set (k1 := k1) (k4 := k4) h X hb _).alloc _, by simpa using Box.new (W.setCell ⟨b, 0, none⟩ (.slice a4 m.length k4)) 24 #[.slice a1 l.length k1], (X.set 0 (by simp) _).alloc _, h.S.Q.lt, hb⟩
theorem fin_oo {w W : World} {a : Option Addr} {cap : Nat} {l : List ByteArray} {a2 : Option Addr} {cap2 : Nat} {m : List ByteArray} {a3 : Option Addr} {cap3 : Nat} {ks : List Int} {a1 : Option Addr} {k1 : Nat} {a4 : Option Addr} {k4 : Nat} {a5 : Option Addr} (h : MB w W a cap l a2 cap2 m a3 cap3 ks a1 a4 a5) {b c : Nat} (X : Box W 24 b #[.slice none 0 0]) (Y : Box W 24 c #[.slice none 0 0]) (hb : w.heap.size + 1 < b) (hc : w.heap.size + 1 < c) (hne : b ≠ c) : MS w ((W.setCell ⟨b, 0, none⟩ (.slice a1 l.length k1)).setCell ⟨c, 0, none⟩ (.slice a4 m.length k4)) b c a cap l a2 cap2 m a3 cap3 ks a1 k1 a4 k4 a5 :=
  ⟨MB.set (k1 := k1) (k4 := k4) (MB.set (k1 := k1) (k4 := k4) h X hb _) (Y.other (Ne.symm hne) _) hc _, (X.set 0 (by simp) _).other hne _, (Y.other (Ne.symm hne) _).set 0 (by simp) _, hb, hc⟩
end Go.Proofs.Ytndghjfgjkjbdaa.s06
