/-
  Layer 13: the law of the order.
-/
import Derived.Test.YtddackdghphcnaaDoorG15
import Derived.Test.YtddackdghphcnaaDoorG11
import Derived.Test.YtddackdghphcnaaDoorG09
import Derived.Test.YtddackdghphcnaaDoorG14
namespace Go.Proofs.YtddackdghphcnaaDoor.s13
set_option linter.unusedVariables false
set_option linter.unusedSimpArgs false
set_option linter.unnecessarySimpa false
open Go.RowKit
open kit

theorem ok_chk {l : List Int} (h : okL 3 l) {n a b c d : Int} (hp : pad5 l = (n, a, b, c, d)) : chkP n a b c d 8 = 0 := pad5_chk (t := 8) ⟨h.1, fun x hx => by have := h.2 x hx; omega⟩ (by omega) (by omega) hp
theorem both_ok {l m : List Int} (h : okL 3 l) (k : okL 3 m) {n a b c d n' a' b' c' d' : Int} (hp : pad5 l = (n, a, b, c, d)) (kp : pad5 m = (n', a', b', c', d')) : bothP n a b c d n' a' b' c' d' = 0 := by
  unfold bothP
  rw [ok_chk h hp, ok_chk k kp]; rfl
theorem lst_of {l : List Int} (h : l.length ≤ 4) {y : V5} (hp : pad5 l = y) : lst y = l := by rw [← hp, lst_pad h]
theorem cmpE_ok {l m : List Int} (h : okL 3 l) (k : okL 3 m) {n a b c d n' a' b' c' d' : Int} (hp : pad5 l = (n, a, b, c, d)) (kp : pad5 m = (n', a', b', c', d')) : cmpE (n, a, b, c, d) (n', a', b', c', d') = (cmpL l m, 0) := by
  unfold cmpE
  simp only
  rw [if_neg (by rw [both_ok h k hp kp]; simp), lst_of h.1 hp, lst_of k.1 kp]
theorem begE_ok {l m : List Int} (h : okL 3 l) (k : okL 3 m) {n a b c d n' a' b' c' d' : Int} (hp : pad5 l = (n, a, b, c, d)) (kp : pad5 m = (n', a', b', c', d')) : begE (n, a, b, c, d) (n', a', b', c', d') = (begB l m, 0) := by
  unfold begE
  simp only
  rw [if_neg (by rw [both_ok h k hp kp]; simp), lst_of h.1 hp, lst_of k.1 kp]
theorem eq_ok {l m : List Int} (h : okL 3 l) (k : okL 3 m) {n a b c d n' a' b' c' d' : Int} (hp : pad5 l = (n, a, b, c, d)) (kp : pad5 m = (n', a', b', c', d')) : decide (n = n' ∧ a = a' ∧ b = b' ∧ c = c' ∧ d = d') = decide (cmpL l m = 0) := by
  refine decide_eq_decide.2 ⟨fun ⟨e0, e1, e2, e3, e4⟩ => ?_, fun e => ?_⟩
  · have : l = m := pad5_inj h.1 (by rw [hp, kp, e0, e1, e2, e3, e4])
    rw [this]; exact cmpL_self m
  · have := cmpL_zero e
    subst this
    rw [hp] at kp
    simpa using kp
theorem order_cases (l m o : List Int) (v1 v2 v3 : Int) (vb e : Bool) (h1 : cmpL l m = v1) (h2 : cmpL m o = v2) (h3 : cmpL l o = v3) (hb : begB l m = vb) (he : decide (cmpL l m = 0) = e) : (v1 = -1 ∧ v2 = -1 ∧ v3 = -1 ∧ vb = true ∧ e = false) ∨ (v1 = -1 ∧ v2 = -1 ∧ v3 = -1 ∧ vb = false ∧ e = false) ∨ (v1 = -1 ∧ v2 = 0 ∧ v3 = -1 ∧ vb = true ∧ e = false) ∨ (v1 = -1 ∧ v2 = 0 ∧ v3 = -1 ∧ vb = false ∧ e = false) ∨ (v1 = -1 ∧ v2 = 1 ∧ v3 = -1 ∧ vb = true ∧ e = false) ∨ (v1 = -1 ∧ v2 = 1 ∧ v3 = -1 ∧ vb = false ∧ e = false) ∨ (v1 = -1 ∧ v2 = 1 ∧ v3 = 0 ∧ vb = true ∧ e = false) ∨ (v1 = -1 ∧ v2 = 1 ∧ v3 = 0 ∧ vb = false ∧ e = false) ∨ (v1 = -1 ∧ v2 = 1 ∧ v3 = 1 ∧ vb = true ∧ e = false) ∨ (v1 = -1 ∧ v2 = 1 ∧ v3 = 1 ∧ vb = false ∧ e = false) ∨ (v1 = 0 ∧ v2 = -1 ∧ v3 = -1 ∧ vb = true ∧ e = true) ∨ (v1 = 0 ∧ v2 = -1 ∧ v3 = -1 ∧ vb = false ∧ e = true) ∨ (v1 = 0 ∧ v2 = 0 ∧ v3 = 0 ∧ vb = true ∧ e = true) ∨ (v1 = 0 ∧ v2 = 0 ∧ v3 = 0 ∧ vb = false ∧ e = true) ∨ (v1 = 0 ∧ v2 = 1 ∧ v3 = 1 ∧ vb = true ∧ e = true) ∨ (v1 = 0 ∧ v2 = 1 ∧ v3 = 1 ∧ vb = false ∧ e = true) ∨ (v1 = 1 ∧ v2 = -1 ∧ v3 = -1 ∧ vb = false ∧ e = false) ∨ (v1 = 1 ∧ v2 = -1 ∧ v3 = 0 ∧ vb = false ∧ e = false) ∨ (v1 = 1 ∧ v2 = -1 ∧ v3 = 1 ∧ vb = false ∧ e = false) ∨ (v1 = 1 ∧ v2 = 0 ∧ v3 = 1 ∧ vb = false ∧ e = false) ∨ (v1 = 1 ∧ v2 = 1 ∧ v3 = 1 ∧ vb = false ∧ e = false) := by
  have r1 := cmpL_range l m
  have r2 := cmpL_range m o
  have r3 := cmpL_range l o
  have t1 := cmpL_trans l m o
  have s1 := cmpL_strict l m o
  have n1 := cmpL_neg l m
  have n2 := cmpL_neg m o
  have n3 := cmpL_neg l o
  have t2 := cmpL_trans o m l
  have s2 := cmpL_strict o m l
  have z1 : cmpL l m = 0 → cmpL l o = cmpL m o := fun h => by rw [cmpL_zero h]
  have z2 : cmpL m o = 0 → cmpL l o = cmpL l m := fun h => by rw [cmpL_zero h]
  have hp : vb = true → v1 ≤ 0 := fun h => by
    rw [h] at hb
    have hq := of_decide_eq_true hb
    have := cmpL_prefix l (m.drop l.length)
    have hm : l ++ m.drop l.length = m := by have h5 := List.take_append_drop l.length m; rw [hq] at h5; exact h5
    rw [hm] at this
    omega
  have he2 : e = decide (v1 = 0) := by rw [← he, h1]
  clear hb he
  rw [h1] at r1 t1 s1 n1 z1 z2
  rw [h2] at r2 t1 s1 n2 z1 z2
  rw [h3] at r3 t1 s1 n3 z1 z2
  rw [n1] at t2 s2
  rw [n2] at t2 s2
  rw [n3] at t2 s2
  clear h1 h2 h3 n1 n2 n3
  subst he2
  cases vb
  · clear hp
    rcases r1 with rfl | rfl | rfl <;> rcases r2 with rfl | rfl | rfl <;> rcases r3 with rfl | rfl | rfl <;> first | (simp; done) | (exfalso; simp at t1 s1 t2 s2 z1 z2; done)
  · have hp := hp rfl
    rcases r1 with rfl | rfl | rfl <;> rcases r2 with rfl | rfl | rfl <;> rcases r3 with rfl | rfl | rfl <;> first | (simp; done) | (exfalso; simp at t1 s1 t2 s2 z1 z2 hp; done)
end Go.Proofs.YtddackdghphcnaaDoor.s13
