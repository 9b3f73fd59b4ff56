/-
  Sorting: what is left to do when a part is done (of no program but for the order).
-/
import Derived.Test.YtabcggmmdjeobaaDoorSrtV
namespace Go.Proofs.YtabcggmmdjeobaaDoor.srt
set_option linter.unusedVariables false
set_option linter.unusedSimpArgs false
open Go.RowKit
open kit s03
open Go.Sort (swp grow SWO PermIn SortedIn permIn_refl permIn_trans permIn_mono permIn_all)

/-- e is d with [a, b) permuted; when [s, t) of it is sorted, all of [a, b) is -/
structure Todo (d e : Array ByteArray) (a b s t : Nat) : Prop where
  le1 : a ≤ s
  le2 : s ≤ t
  le3 : t ≤ b
  size : e.size = d.size
  perm : PermIn a b d e
  below : Go.Sort.Below ltS s t e
  rest : ∀ f, PermIn s t e f → SortedIn ltS s t f → SortedIn ltS a b f
variable {d e f : Array ByteArray} {a b s t m : Nat}
theorem todo_start (hab : a ≤ b) (h : Go.Sort.Below ltS a b d) : Todo d d a b a b := ⟨by omega, hab, by omega, rfl, permIn_refl _ _ _, h, fun _ _ h => h⟩
theorem Todo.mono (h : Todo d e a b s t) (hb : b ≤ d.size) (hp : PermIn s t e f) : PermIn a b d f :=
  permIn_trans _ _ _ _ _ h.perm (permIn_mono e f s t a b h.le1 h.le3 (by rw [h.size]; exact hb) hp)
theorem Todo.done (h : Todo d e a b s t) (hb : b ≤ d.size) (hp : PermIn s t e f) (hs : SortedIn ltS s t f) : PermIn a b d f ∧ SortedIn ltS a b f := ⟨h.mono hb hp, h.rest f hp hs⟩
theorem below_perm (h : Go.Sort.Below ltS s t e) (ht : t ≤ e.size) (hp : PermIn s t e f) : Go.Sort.Below ltS s t f := by
  rcases h with h | h
  · exact .inl h
  · by_cases h0 : s = 0
    · exact .inl h0
    · refine .inr fun i h1 h2 => ?_
      rw [hp.2.1 (s - 1) (.inl (by omega))]
      exact permIn_all e f s t (fun x => ltS x e[s - 1]! = false) ht hp h i h1 h2
theorem Todo.permuted (h : Todo d e a b s t) (hb : b ≤ d.size) (hp : PermIn s t e f) : Todo d f a b s t :=
  ⟨h.le1, h.le2, h.le3, hp.1.trans h.size, h.mono hb hp, below_perm h.below (by rw [h.size]; have := h.le3; omega) hp, fun g hg hs => h.rest g (permIn_trans _ _ _ _ _ hp hg) hs⟩
theorem asymS {x y : ByteArray} (h : ltS x y = true) : ltS y x = false := by
  cases hq : ltS y x
  · rfl
  · have := swoS.trans _ _ _ h hq
    rw [swoS.irrefl] at this
    exact absurd this (by decide)
theorem sorted_all {P : ByteArray} (h1 : ∀ i, s ≤ i → i < m → e[i]! = P) (h2 : ∀ i, m ≤ i → i < t → ltS P e[i]! = true) (h3 : SortedIn ltS m t e) : SortedIn ltS s t e := by
  intro i j hi hij hj
  by_cases hm : m ≤ i
  · exact h3 i j hm hij hj
  · rw [h1 i hi (by omega)]
    by_cases hmj : m ≤ j
    · exact asymS (h2 j hmj hj)
    · rw [h1 j (by omega) (by omega)]; exact swoS.irrefl P
theorem Todo.equal {v : Nat} (h : Todo d e a b s t) (hb : b ≤ d.size) (hv1 : s ≤ v) (hv2 : v < t) (h0 : 0 < s) (ht : ltS e[s - 1]! e[v]! = false) (hp : PartedEq e f e[v]! s t m) : Todo d f a b m t := by
  obtain ⟨p1, p2, p3, p4, p5, p6⟩ := hp
  have hte : t ≤ e.size := by rw [h.size]; have := h.le3; omega
  have hall : ∀ i, s ≤ i → i < t → ltS f[i]! e[v]! = false := by
    rcases h.below with hB | hB
    · omega
    · exact permIn_all e f s t (fun x => ltS x e[v]! = false) hte p4 (fun i h1 h2 => swoS.ntrans _ _ _ (hB i h1 h2) ht)
  have heq : ∀ i, s ≤ i → i < m → f[i]! = e[v]! := fun i h1 h2 => ltS_total _ _ (hall i h1 (by omega)) (p5 i h1 h2)
  have hP := h.permuted hb p4
  refine ⟨by have := h.le1; omega, p2, h.le3, hP.size, hP.perm, .inr fun i h1 h2 => ?_, fun g hg hs => ?_⟩
  · rw [heq (m - 1) (by omega) (by omega)]
    exact hall i (by omega) h2
  · refine hP.rest g (permIn_mono f g m t s t (by omega) (by omega) (by rw [hP.size, ← h.size]; exact hte) hg) ?_
    refine sorted_all (P := e[v]!) (m := m) (fun i h1 h2 => ?_) (fun i h1 h2 => ?_) hs
    · rw [hg.2.1 i (.inl h2)]; exact heq i h1 h2
    · exact permIn_all f g m t (fun x => ltS e[v]! x = true) (by rw [hP.size, ← h.size]; exact hte) hg p6 i h1 h2
theorem sorted_two {P : ByteArray} (h1 : ∀ i, s ≤ i → i < m → ltS e[i]! P = true) (h2 : ∀ i, m < i → i < t → ltS e[i]! P = false) (hP : e[m]! = P) (hl : SortedIn ltS s m e) (hr : SortedIn ltS (m + 1) t e) : SortedIn ltS s t e := by
  have hPr : ∀ i, m < i → i < t → ltS e[i]! P = false := h2
  intro i j hi hij hj
  by_cases him : i < m
  · by_cases hjm : j < m
    · exact hl i j hi hij hjm
    · have hjP : ltS e[j]! P = false := by
        by_cases e1 : j = m
        · subst e1; rw [hP]; exact swoS.irrefl P
        · exact h2 j (by omega) hj
      cases hq : ltS e[j]! e[i]!
      · rfl
      · rw [swoS.trans _ _ _ hq (h1 i hi him)] at hjP
        exact absurd hjP (by decide)
  · by_cases e1 : i = m
    · subst e1; rw [hP]; exact h2 j hij hj
    · exact hr i j (by omega) hij hj
theorem Todo.left (h : Todo d e a b s t) (hb : b ≤ d.size) (hp : Parted e f s t m) {g : Array ByteArray} (hg : PermIn s m f g) (hs : SortedIn ltS s m g) : Todo d g a b (m + 1) t := by
  obtain ⟨p1, p2, p3, p4, p5, p6⟩ := hp
  have hP := h.permuted hb p4
  have hte : t ≤ f.size := by rw [hP.size]; have := h.le3; omega
  have gm : g[m]! = f[m]! := hg.2.1 m (.inr (by omega))
  have hgr : ∀ i, m < i → g[i]! = f[i]! := fun i hi => hg.2.1 i (.inr (by omega))
  have hgl : ∀ i, s ≤ i → i < m → ltS g[i]! f[m]! = true := permIn_all f g s m (fun x => ltS x f[m]! = true) (by omega) hg p5
  have hsg : g.size = f.size := hg.1
  have hfg : PermIn s t f g := permIn_mono f g s m s t (by omega) (by omega) hte hg
  refine ⟨by have := h.le1; omega, by omega, h.le3, by rw [hsg, hP.size], hP.mono hb hfg, .inr fun i h1 h2 => ?_, fun k hk hsk => ?_⟩
  · rw [show m + 1 - 1 = m by omega, gm, hgr i (by omega)]
    exact p6 i (by omega) h2
  · refine hP.rest k (permIn_trans _ _ _ _ _ hfg (permIn_mono g k (m + 1) t s t (by omega) (by omega) (by omega) hk)) ?_
    have km : ∀ i, i < m + 1 → k[i]! = g[i]! := fun i hi => hk.2.1 i (.inl hi)
    refine sorted_two (P := f[m]!) (m := m) (fun i h1 h2 => ?_) (fun i h1 h2 => ?_) ?_ (fun i j h1 h2 h3 => ?_) hsk
    · rw [km i (by omega)]; exact hgl i h1 h2
    · exact permIn_all g k (m + 1) t (fun x => ltS x f[m]! = false) (by omega) hk (fun i h1 h2 => by rw [hgr i (by omega)]; exact p6 i (by omega) h2) i (by omega) h2
    · rw [km m (by omega), gm]
    · rw [km i (by omega), km j (by omega)]; exact hs i j h1 h2 h3
theorem Todo.right (h : Todo d e a b s t) (hb : b ≤ d.size) (hp : Parted e f s t m) {g : Array ByteArray} (hg : PermIn (m + 1) t f g) (hs : SortedIn ltS (m + 1) t g) : Todo d g a b s m := by
  obtain ⟨p1, p2, p3, p4, p5, p6⟩ := hp
  have hP := h.permuted hb p4
  have hte : t ≤ f.size := by rw [hP.size]; have := h.le3; omega
  have gl : ∀ i, i < m + 1 → g[i]! = f[i]! := fun i hi => hg.2.1 i (.inl hi)
  have hsg : g.size = f.size := hg.1
  have hfg : PermIn s t f g := permIn_mono f g (m + 1) t s t (by omega) (by omega) hte hg
  have hP2 := hP.permuted hb hfg
  refine ⟨h.le1, p1, by have := h.le3; omega, hP2.size, hP2.perm, ?_, fun k hk hsk => ?_⟩
  · rcases hP2.below with hB | hB
    · exact .inl hB
    · exact .inr fun i h1 h2 => hB i h1 (by omega)
  · refine hP2.rest k (permIn_mono g k s m s t (by omega) (by omega) (by omega) hk) ?_
    have km : ∀ i, m ≤ i → k[i]! = g[i]! := fun i hi => hk.2.1 i (.inr hi)
    refine sorted_two (P := f[m]!) (m := m) (fun i h1 h2 => ?_) (fun i h1 h2 => ?_) ?_ hsk (fun i j h1 h2 h3 => ?_)
    · exact permIn_all g k s m (fun x => ltS x f[m]! = true) (by omega) hk (fun i h1 h2 => by rw [gl i (by omega)]; exact p5 i h1 h2) i h1 h2
    · rw [km i (by omega)]
      exact permIn_all f g (m + 1) t (fun x => ltS x f[m]! = false) (by omega) hg (fun i h1 h2 => p6 i (by omega) h2) i (by omega) h2
    · rw [km m (by omega), gl m (by omega)]
    · rw [km i (by omega), km j (by omega)]; exact hs i j h1 h2 h3
theorem Todo.belowLeft (h : Todo d e a b s t) (hb : b ≤ d.size) (hp : Parted e f s t m) : Go.Sort.Below ltS s m f := by
  obtain ⟨p1, p2, p3, p4, p5, p6⟩ := hp
  have hP := h.permuted hb p4
  rcases hP.below with hB | hB
  · exact .inl hB
  · exact .inr fun i h1 h2 => hB i h1 (by omega)
theorem Parted.belowRight (hp : Parted e f s t m) : Go.Sort.Below ltS (m + 1) t f := by
  obtain ⟨p1, p2, p3, p4, p5, p6⟩ := hp
  exact .inr fun i h1 h2 => by rw [show m + 1 - 1 = m by omega]; exact p6 i (by omega) h2
end Go.Proofs.YtabcggmmdjeobaaDoor.srt
