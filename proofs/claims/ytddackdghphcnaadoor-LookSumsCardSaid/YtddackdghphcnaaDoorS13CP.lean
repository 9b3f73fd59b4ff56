/-
  Layer 13: copy into a look's places; boxes that were just made.
-/
import Derived.Test.YtddackdghphcnaaDoorS13L
import Derived.Laws.IdiomCopy
namespace Go.Proofs.YtddackdghphcnaaDoor.s13
set_option linter.unusedVariables false
set_option linter.unusedSimpArgs false
open Go.RowKit
open kit

/-- places with one set -/
def upd (f : Nat → Int) (i : Nat) (v : Int) : Nat → Int := fun j => if j = i then v else f j
theorem b5_set {w : World} {t : TypeId} {g : Nat} {x : Value} {f : Nat → Int} (X : Box w t g #[x, .int .i64 (f 0), .int .i64 (f 1), .int .i64 (f 2), .int .i64 (f 3)]) (i : Nat) (hi : i < 4) (v : Int) :
    Box (w.setCell ⟨g, 1 + i, none⟩ (.int .i64 v)) t g #[x, .int .i64 (upd f i v 0), .int .i64 (upd f i v 1), .int .i64 (upd f i v 2), .int .i64 (upd f i v 3)] := by
  have hm : i = 0 ∨ i = 1 ∨ i = 2 ∨ i = 3 := by omega
  rcases hm with rfl | rfl | rfl | rfl
  · exact X.set 1 (by simp) _
  · exact X.set 2 (by simp) _
  · exact X.set 3 (by simp) _
  · exact X.set 4 (by simp) _
/-- a row of numbers laid over places, from m on -/
def over (f : Nat → Int) (m : Nat) (zs : List Int) : Nat → Int := fun j => if m ≤ j ∧ j < m + zs.length then zs[j - m]?.getD 0 else f j
theorem over_cons (f : Nat → Int) (m : Nat) (z : Int) (zs : List Int) : over f m (z :: zs) = over (upd f m z) (m + 1) zs := by
  funext j
  unfold over upd
  by_cases e : j = m
  · subst e; simp; intro h; omega
  · by_cases h : m ≤ j ∧ j < m + (z :: zs).length
    · simp only [List.length_cons] at h
      rw [if_pos (by simpa using h), if_pos (by omega)]
      rw [show j - m = (j - (m + 1)) + 1 by omega, List.getElem?_cons_succ]
    · simp only [List.length_cons] at h
      rw [if_neg (by simpa using h), if_neg (by omega), if_neg e]
theorem over_nil (f : Nat → Int) (m : Nat) : over f m [] = f := by
  funext j; unfold over; rw [if_neg (by simp only [List.length_nil]; omega)]
theorem b5_over {t : TypeId} {g : Nat} {x : Value} : ∀ (zs : List Int) (m : Nat) (f : Nat → Int) (w : World), m + zs.length ≤ 4 → Box w t g #[x, .int .i64 (f 0), .int .i64 (f 1), .int .i64 (f 2), .int .i64 (f 3)] →
    Box (w.setCells g (1 + m) (zs.map (Value.int .i64))) t g #[x, .int .i64 (over f m zs 0), .int .i64 (over f m zs 1), .int .i64 (over f m zs 2), .int .i64 (over f m zs 3)]
  | [], m, f, w, _, X => by rw [over_nil]; exact X
  | z :: zs, m, f, w, h, X => by
    simp only [List.length_cons] at h
    have := b5_over (t := t) (g := g) (x := x) zs (m + 1) (upd f m z) (w.setCell ⟨g, 1 + m, none⟩ (.int .i64 z)) (by omega) (b5_set X m (by omega) z)
    rw [over_cons]
    simpa [World.setCells, Nat.add_assoc] using this
theorem cells_other {t : TypeId} {g g' : Nat} {xs : Array Value} (hne : g' ≠ g) : ∀ (vs : List Value) (o : Nat) (w : World), Box w t g' xs → Box (w.setCells g o vs) t g' xs
  | [], _, _, h => h
  | v :: r, o, w, h => cells_other hne r (o + 1) _ (h.other hne v)
theorem cells_below {B g : Nat} {w0 : World} (hB : B ≤ g) : ∀ (vs : List Value) (o : Nat) (w : World), Below B w0 w → Below B w0 (w.setCells g o vs)
  | [], _, _, h => h
  | v :: r, o, w, h => cells_below hB r (o + 1) _ (h.setCell (p := ⟨g, o, none⟩) hB v)
theorem cells_size {g : Nat} : ∀ (vs : List Value) (o : Nat) (w : World), (w.setCells g o vs).heap.size = w.heap.size
  | [], _, _ => rfl
  | v :: r, o, w => (cells_size r (o + 1) _).trans (by simp)
/-- copy into a look, from place m on: zs are the numbers that go over -/
theorem copy_box {w : World} {g : Nat} {x : Value} {f : Nat → Int} (X : Box w 25 g #[x, .int .i64 (f 0), .int .i64 (f 1), .int .i64 (f 2), .int .i64 (f 3)]) (m dLen dCap : Nat) (dst src : Option Addr) (sLen sCap : Nat) (zs : List Int)
    (hn : zs.length = Nat.min sLen dLen) (hm : m + zs.length ≤ 4) (hr : Reads (Value.int .i64) 0 w src zs) (hdst : dLen = 0 ∨ dst = some ⟨g, 1 + m, none⟩) :
    ∃ W, (∀ ty, (Builtin.copy_ #[22, 22] ty #[.slice dst dLen dCap, .slice src sLen sCap]).run Tryd.prog w = .ok (.int .i64 zs.length) W) ∧
      Box W 25 g #[x, .int .i64 (over f m zs 0), .int .i64 (over f m zs 1), .int .i64 (over f m zs 2), .int .i64 (over f m zs 3)] ∧
      (∀ t' g' xs, g' ≠ g → Box w t' g' xs → Box W t' g' xs) ∧ (∀ B w0, B ≤ g → Below B w0 w → Below B w0 W) ∧ W.heap.size = w.heap.size := by
  have hs : (Tryd.prog.info? 3).map (·.size) = some 1 := by kernel_rfl
  rcases Nat.eq_zero_or_pos zs.length with h0 | hpos
  · have hz : zs = [] := List.length_eq_zero_iff.1 h0
    subst hz
    refine ⟨w, fun ty => ?_, by rw [over_nil]; exact X, fun _ _ _ _ h => h, fun _ _ _ h => h, rfl⟩
    exact run_copy_none w 22 22 ty 3 dst src dLen dCap sLen sCap Tryd.underlying22 hs (by simpa using hn.symm)
  · obtain ⟨b, off, rfl, hb, _⟩ := hr 0 hpos
    obtain rfl : dst = some ⟨g, 1 + m, none⟩ := by
      rcases hdst with h | h
      · rw [h] at hn
        have h0 : zs.length = 0 := hn.trans (Nat.min_eq_right (Nat.zero_le _))
        omega
      · exact h
    refine ⟨w.setCells g (1 + m) (zs.map (Value.int .i64)), fun ty => ?_, b5_over zs m f w hm X, fun t' g' xs hne h => cells_other hne _ _ _ h, fun B w0 hB h => cells_below hB _ _ _ h, cells_size _ _ _⟩
    have h := run_copy_cells (P := Tryd.prog) w 22 22 ty 3 g (1 + m) dLen dCap ⟨b, off, none⟩ sLen sCap (zs.map (Value.int .i64)) Tryd.underlying22 hs (by simpa using hn)
      (fun j v hj => by
        rw [List.getElem?_map] at hj
        have hjl : j < zs.length := by
          rcases Nat.lt_or_ge j zs.length with h | h
          · exact h
          · rw [List.getElem?_eq_none h] at hj; cases hj
        obtain ⟨b', off', e, _, hc⟩ := hr j hjl
        cases e
        rw [Go.WideShapes.add_plain, hc]
        rw [List.getElem?_eq_getElem hjl] at hj ⊢
        simpa using hj)
      (fun j hj => by
        rw [List.length_map] at hj
        rw [show 1 + m + j = 1 + (m + j) by omega]
        have := X.cell (1 + (m + j))
        have hm4 : m + j = 0 ∨ m + j = 1 ∨ m + j = 2 ∨ m + j = 3 := by omega
        rcases hm4 with e | e | e | e <;> rw [e] at this ⊢ <;> rw [this] <;> rfl)
      (fun j hj => X.free _)
      (fun v hv => by obtain ⟨z, _, rfl⟩ := List.mem_map.1 hv; rfl)
    rw [List.length_map] at h
    exact h
theorem size1 (w : World) (o : Obj) : (w.alloc o).heap.size = w.heap.size + 1 := Array.size_push ..
theorem new2 (w : World) (o : Obj) (t : TypeId) (xs : Array Value) : Box ((w.alloc o).alloc (.cells xs t)) t (w.heap.size + 1) xs := by
  have := Box.new (w.alloc o) t xs; rwa [size1] at this
theorem new3 (w : World) (o o' : Obj) (t : TypeId) (xs : Array Value) : Box (((w.alloc o).alloc o').alloc (.cells xs t)) t (w.heap.size + 1 + 1) xs := by
  have := new2 (w.alloc o) o' t xs; rwa [size1] at this
theorem new4 (w : World) (o o' o'' : Obj) (t : TypeId) (xs : Array Value) : Box ((((w.alloc o).alloc o').alloc o'').alloc (.cells xs t)) t (w.heap.size + 1 + 1 + 1) xs := by
  have := new3 (w.alloc o) o' o'' t xs; rwa [size1] at this
/-- what a block that was made before a call holds behind it -/
theorem made1 {w w1 : World} {t : TypeId} {xs : Array Value} (hB : Below (w.alloc (.cells xs t)).heap.size (w.alloc (.cells xs t)) w1) : Box w1 t w.heap.size xs ∧ Below w.heap.size w w1 :=
  ⟨(Box.new w t xs).below hB, below_on ((Below.refl w.heap.size w).alloc (Nat.le_refl _) _) (Nat.le_refl _) hB⟩
theorem made2 {w w1 : World} {t t' : TypeId} {xs ys : Array Value} (hB : Below ((w.alloc (.cells xs t)).alloc (.cells ys t')).heap.size ((w.alloc (.cells xs t)).alloc (.cells ys t')) w1) : Box w1 t w.heap.size xs ∧ Box w1 t' (w.heap.size + 1) ys ∧ Below w.heap.size w w1 := by
  have Y := Box.new (w.alloc (.cells xs t)) t' ys
  rw [show (w.alloc (.cells xs t)).heap.size = w.heap.size + 1 from Array.size_push ..] at Y
  exact ⟨((Box.new w t xs).alloc _).below hB, Y.below hB, below_on (((Below.refl w.heap.size w).alloc (Nat.le_refl _) _).alloc (by simp) _) (Nat.le_refl _) hB⟩
theorem made3 {w w1 : World} {t t' t'' : TypeId} {xs ys zs : Array Value} (hB : Below (((w.alloc (.cells xs t)).alloc (.cells ys t')).alloc (.cells zs t'')).heap.size (((w.alloc (.cells xs t)).alloc (.cells ys t')).alloc (.cells zs t'')) w1) :
    Box w1 t w.heap.size xs ∧ Box w1 t' (w.heap.size + 1) ys ∧ Box w1 t'' (w.heap.size + 1 + 1) zs ∧ Below w.heap.size w w1 := by
  have Y := Box.new (w.alloc (.cells xs t)) t' ys
  rw [show (w.alloc (.cells xs t)).heap.size = w.heap.size + 1 from Array.size_push ..] at Y
  have Z := Box.new ((w.alloc (.cells xs t)).alloc (.cells ys t')) t'' zs
  rw [show ((w.alloc (.cells xs t)).alloc (.cells ys t')).heap.size = w.heap.size + 1 + 1 by rw [show ((w.alloc (.cells xs t)).alloc (.cells ys t')).heap.size = (w.alloc (.cells xs t)).heap.size + 1 from Array.size_push ..]; rw [show (w.alloc (.cells xs t)).heap.size = w.heap.size + 1 from Array.size_push ..]] at Z
  exact ⟨(((Box.new w t xs).alloc _).alloc _).below hB, (Y.alloc _).below hB, Z.below hB, below_on ((((Below.refl w.heap.size w).alloc (Nat.le_refl _) _).alloc (by simp) _).alloc (by simp; omega) _) (Nat.le_refl _) hB⟩
/-- a list's length and places -/
def pad5 (l : List Int) : V5 := ((l.length : Int), l[0]?.getD 0, l[1]?.getD 0, l[2]?.getD 0, l[3]?.getD 0)
theorem pad5_of {l : List Int} {N : Nat} {a b c d : Int} (h : pad5 l = ((N : Int), a, b, c, d)) : pad l = (N, a, b, c, d) := by
  simp only [pad5, pad, Prod.mk.injEq] at h ⊢
  refine ⟨by omega, h.2⟩
theorem pad5_inj {l m : List Int} (hl : l.length ≤ 4) (h : pad5 l = pad5 m) : l = m := pad_inj hl (by
  simp only [pad5, pad, Prod.mk.injEq] at h ⊢
  exact ⟨by omega, h.2⟩)
theorem pad5_look {n a b c d t : Int} (h : chkP n a b c d t = 0) : ∃ l, okL t l ∧ pad5 l = (n, a, b, c, d) := by
  obtain ⟨l, h1, h2, h3⟩ := chkP_look h
  refine ⟨l, h1, ?_⟩
  simp only [pad5, pad, Prod.mk.injEq] at h2 ⊢
  exact ⟨by omega, h2.2⟩
theorem pad5_chk {t : Int} {l : List Int} {n a b c d : Int} (h : okL t l) (t1 : 1 ≤ t) (t2 : t ≤ 8) (hp : pad5 l = (n, a, b, c, d)) : chkP n a b c d t = 0 := by
  simp only [pad5, Prod.mk.injEq] at hp
  obtain ⟨rfl, rfl, rfl, rfl, rfl⟩ := hp
  exact okL_chk h t1 t2 rfl
theorem pad5_pl {l : List Int} {n a b c d : Int} (hl : l.length ≤ 4) (hp : pad5 l = (n, a, b, c, d)) (i : Nat) : pl a b c d i = l[i]?.getD 0 := by
  simp only [pad5, Prod.mk.injEq] at hp
  obtain ⟨_, rfl, rfl, rfl, rfl⟩ := hp
  unfold pl
  split
  · next h => subst h; rfl
  · split
    · next h => subst h; rfl
    · split
      · next h => subst h; rfl
      · split
        · next h => subst h; rfl
        · rw [List.getElem?_eq_none (by omega)]; rfl
/-- places by number give a list's -/
theorem pad5_over {l : List Int} (hl : l.length ≤ 4) {f : Nat → Int} (h : ∀ i, i < 4 → f i = l[i]?.getD 0) : pad5 l = ((l.length : Int), f 0, f 1, f 2, f 3) := by
  unfold pad5; rw [h 0 (by omega), h 1 (by omega), h 2 (by omega), h 3 (by omega)]
theorem made4 {w w1 : World} {t t' t'' t3 : TypeId} {xs ys zs us : Array Value} (hB : Below ((((w.alloc (.cells xs t)).alloc (.cells ys t')).alloc (.cells zs t'')).alloc (.cells us t3)).heap.size ((((w.alloc (.cells xs t)).alloc (.cells ys t')).alloc (.cells zs t'')).alloc (.cells us t3)) w1) :
    Box w1 t w.heap.size xs ∧ Box w1 t' (w.heap.size + 1) ys ∧ Box w1 t'' (w.heap.size + 1 + 1) zs ∧ Below w.heap.size w w1 :=
  ⟨((((Box.new w t xs).alloc _).alloc _).alloc _).below hB, (((new2 w _ t' ys).alloc _).alloc _).below hB, ((new3 w _ _ t'' zs).alloc _).below hB, below_on (((((Below.refl w.heap.size w).alloc (Nat.le_refl _) _).alloc (by simp) _).alloc (by simp; omega) _).alloc (by simp; omega) _) (Nat.le_refl _) hB⟩
end Go.Proofs.YtddackdghphcnaaDoor.s13
