/-
  Layer 6: merging as lists, for InternJoins.
-/
import Derived.Test.YtndghjfgjkjbdaaS06ZJ
namespace Go.Proofs.Ytndghjfgjkjbdaa.s06
set_option linter.unusedVariables false
set_option linter.unusedSimpArgs false
open Go.RowKit Go.WideMaps Go.Maps
open kit

/-- the numbers that merging gives -/
def idxs : List ByteArray → List ByteArray → List Int
  | _, [] => []
  | cur, s :: rest => (ix cur s : Int) :: idxs (put1 cur s) rest
theorem idxs_len : ∀ (rest cur : List ByteArray), (idxs cur rest).length = rest.length
  | [], _ => rfl
  | s :: rest, cur => by rw [idxs, List.length_cons, List.length_cons, idxs_len rest]
theorem idxs_at : ∀ (rest cur : List ByteArray) (k : Nat), k < rest.length → (idxs cur rest)[k]?.getD 0 = (ix (putAll cur (rest.take k)) (rest[k]?.getD ByteArray.empty) : Int)
  | [], _, k, h => by simp at h
  | s :: rest, cur, 0, _ => by rw [idxs]; rfl
  | s :: rest, cur, k + 1, h => by
    have := idxs_at rest (put1 cur s) k (by simpa using h)
    rw [idxs]
    simpa [putAll_cons] using this
theorem mrgG_ok : ∀ (rest cur : List ByteArray) (acc : List Int), okT cur = 0 → cur.length ≤ 20 → (∀ x ∈ cur, x ∈ uL) → (∀ x ∈ rest, x ∈ uL) → mrgG cur acc rest = (putAll cur rest, acc ++ idxs cur rest, 0)
  | [], cur, acc, _, _, _, _ => by rw [mrgG, idxs, List.append_nil]; rfl
  | s :: rest, cur, acc, h0, h1, h2, h3 => by
    have hs := h3 s (List.mem_cons_self ..)
    have hp := putP_ok (l := cur) (u_check hs) (.inr (by omega))
    obtain ⟨_, hn, _⟩ := ok_iff.mp h0
    have hN := putAll_ok (ss := [s]) h2 (fun x hx => by rw [List.mem_singleton] at hx; rw [hx]; exact hs) hn
    have e1 : putAll cur [s] = put1 cur s := rfl
    rw [e1] at hN
    rw [mrgG, hp]
    simp only [if_true]
    rw [mrgG_ok rest (put1 cur s) _ hN.1 hN.2 (fun x hx => by
      rcases put1_mem.mp hx with h | rfl
      · exact h2 x h
      · exact hs) (fun x hx => h3 x (List.mem_cons_of_mem _ hx)), putAll_cons, idxs, List.append_assoc]
    rfl
/-- a table made of numbers -/
structure Mk (l : List ByteArray) : Prop where
  ok : okT l = 0
  len : l.length ≤ 20
  sub : ∀ x ∈ l, x ∈ uL
theorem Mk.nodup {l : List ByteArray} (h : Mk l) : l.Nodup := (ok_iff.mp h.ok).2.1
theorem mk_made (nums : List Int) : Mk (madeN nums) := ⟨(made_ok nums).1, (made_ok nums).2, made_sub nums⟩
theorem Mk.put {l m : List ByteArray} (h : Mk l) (h2 : Mk m) : Mk (putAll l m) := by
  obtain ⟨h3, h4⟩ := putAll_ok h.sub h2.sub h.nodup
  exact ⟨h3, h4, fun x hx => by
    rcases putAll_mem.mp hx with h5 | h5
    · exact h.sub x h5
    · exact h2.sub x h5⟩
theorem merge_mk {l m : List ByteArray} (h : Mk l) (h2 : Mk m) : mergeT l m = (putAll l m, idxs l m, 0) := by
  rw [mergeT_good h.ok h2.ok, mrgG_ok m l [] h.ok h.len h.sub h2.sub]
  rfl
theorem idx_val {l m : List ByteArray} (k : Nat) (hk : k < m.length) : (idxs l m)[k]?.getD 0 = (ix (putAll l m) (m[k]?.getD ByteArray.empty) : Int) := by
  rw [idxs_at m l k hk, putAll_ix l m k hk]
theorem idx_self {l : List ByteArray} (h : Mk l) (k : Nat) (hk : k < l.length) : (idxs l l)[k]?.getD 0 = (k : Int) := by
  rw [idx_val k hk, putAll_self, ix_self h.nodup hk]
theorem idx_name {l m : List ByteArray} (h : Mk l) (h2 : Mk m) (k : Nat) (hk : k < m.length) : nameT (putAll l m) ((idxs l m)[k]?.getD 0) = (m[k]?.getD ByteArray.empty, 0) := by
  rw [idx_val k hk]
  have hm : m[k]?.getD ByteArray.empty ∈ putAll l m := putAll_mem.mpr (.inr (mem_getS m k hk))
  rw [name_at (h.put h2).ok (ix_mem.mpr hm), ix_get hm]
theorem TabO.cap {l : List ByteArray} {B k : Nat} {a : Option Addr} {w : World} (h : TabO l B (.agg #[.slice a l.length k]) w) : l.length ≤ k := by
  obtain ⟨v, e, hr⟩ := h
  simp only [Value.agg.injEq] at e
  have e2 : v = .slice a l.length k := by
    have := congrArg (fun x => x[0]?) e
    simpa using this.symm
  subst e2
  rcases hr.2 with ⟨h1, h2⟩ | ⟨g, cap, cur, h1, _, _, h2, _⟩
  · simp only [Value.slice.injEq] at h1; omega
  · simp only [Value.slice.injEq] at h1; omega
theorem merge_w (a a2 : Option Addr) (cap cap2 : Nat) (l m lr : List ByteArray) (w : World) (h : Hid (Mk l)) (h2 : Hid (Mk m)) (hlr : Hid (putAll l m = lr)) (hr : Hid (ReadsS w a l)) (hrm : Hid (ReadsS w a2 m)) :
    Calls Try.prog 26 #[.agg #[.slice a l.length cap], .agg #[.slice a2 m.length cap2]] w fun e w' => ∃ a4 k4 a5 k5, e = .returned (.tuple #[.agg #[.slice a4 lr.length k4], .slice a5 m.length k5, .int .i64 0]) ∧ ReadsS w' a4 lr ∧ lr.length ≤ k4 ∧ ReadsI w' a5 (idxs l m) ∧ Below w.heap.size w w' :=
  (pmerge_any a a2 cap cap2 l m lr (idxs l m) 0 w (by have := h.out.len; omega) (Lib.hid (u_small h.out.sub)) hr (by have := h2.out.len; omega) (Lib.hid (u_small h2.out.sub)) hrm (Lib.hid (by rw [merge_mk h.out h2.out, hlr.out]))).mono fun e w' hh => by
    obtain ⟨V1, V, B, B2, rfl, _, _, hT, hV, hB⟩ := hh
    obtain ⟨a4, k4, rfl⟩ := tab_shape hT
    obtain ⟨a5, k5, rfl, hR⟩ := row_readsI hV
    exact ⟨a4, k4, a5, k5, by rw [idxs_len], hT.reads, hT.cap, hR, hB⟩
end Go.Proofs.Ytndghjfgjkjbdaa.s06
