/-
  Layer 6: what InternKeeps needs behind its lists: keeping turned numbers, an append that says where it lies.
-/
import Derived.Test.YtndghjfgjkjbdaaS06ZM
import Derived.Maps.AppendAt
namespace Go.Proofs.Ytndghjfgjkjbdaa.s06
set_option linter.unusedVariables false
set_option linter.unusedSimpArgs false
open Go.RowKit Go.WideMaps Go.Maps
open kit

theorem keepL_len (l : List ByteArray) (ks : List Nat) : (keepL l ks).length = ks.length := by simp [keepL]
theorem nats_len (ks : List Int) : (nats ks).length = ks.length := by simp [nats]
theorem keep_all {L : List ByteArray} {k : Nat} (h : Mk L) (hk : L.length = k) : keepT L (upI k) = (L, 0) := by
  rw [keep_mk h.ok (by rw [nats_up]; exact List.nodup_range) (fun x hx => by rw [hk]; exact up_mem hx), nats_up, ← hk, keepL_all]
theorem ev_mem {m n : Nat} (h : 2 * m ≤ n + 1) {x : Int} (hx : x ∈ evI m) : 0 ≤ x ∧ x < (n : Int) := by
  unfold evI at hx
  rw [List.mem_map] at hx
  obtain ⟨j, hj, rfl⟩ := hx
  rw [List.mem_range] at hj
  omega
theorem nev_mem {m n : Nat} (h : 2 * m ≤ n + 1) {x : Nat} (hx : x ∈ nats (evI m)) : x < n := by
  rw [nats_ev, List.mem_map] at hx
  obtain ⟨j, hj, rfl⟩ := hx
  rw [List.mem_range] at hj
  omega
theorem bo_mem {n t m : Nat} (ht : t ≤ n) (h : 2 * m ≤ n + 1) {x : Int} (hx : x ∈ boI n t m) : 0 ≤ x ∧ x < (n : Int) := by
  unfold boI at hx
  rw [List.mem_map] at hx
  obtain ⟨j, hj, rfl⟩ := hx
  rw [List.mem_range] at hj
  have hl := turnI_len ht
  rw [List.getElem?_eq_getElem (by omega)]
  exact turn_mem (List.getElem_mem _)
theorem turn_get (n t : Nat) (ht : t < n) : (nats (turnI n t))[0]?.getD 0 = t := by
  rw [nats_turn, List.getElem?_append_left (by simp; omega), List.getElem?_drop, List.getElem?_range (by omega)]
  rfl
theorem keep_turn {L : List ByteArray} {k t : Nat} (h : Mk L) (hk : L.length = k) (ht : t ≤ k) :
    ∃ KT, keepT L (turnI k t) = (KT, 0) ∧ KT.length = k ∧ okT KT = 0 ∧ (∀ x ∈ KT, x.size ≤ 9223372036854775807) ∧ (∀ m, 2 * m ≤ k + 1 → ∃ C, keepT KT (evI m) = (C, 0) ∧ keepT L (boI k t m) = (C, 0) ∧ C.length = m) ∧ eqB KT L = decide (t = 0 ∨ t = k) := by
  have hd := nats_turn_nodup k t
  have hb : ∀ x ∈ nats (turnI k t), x < L.length := fun x hx => by
    unfold nats at hx
    rw [List.mem_map] at hx
    obtain ⟨y, hy, rfl⟩ := hx
    have := turn_mem hy
    omega
  have hkl : (keepL L (nats (turnI k t))).length = k := by rw [keepL_len, nats_len, turnI_len ht]
  refine ⟨keepL L (nats (turnI k t)), keep_mk h.ok hd (fun x hx => by rw [hk]; exact turn_mem hx), hkl, keep_ok h.ok hd hb, fun x hx => ?_, fun m hm => ?_, ?_⟩
  · unfold keepL at hx
    rw [List.mem_map] at hx
    obtain ⟨j, hj, rfl⟩ := hx
    exact u_small h.sub _ (mem_getS L j (hb j hj))
  · refine ⟨keepL L (nats (boI k t m)), ?_, keep_mk h.ok (nats_bo_nodup k t m ht hm) (fun x hx => by rw [hk]; exact bo_mem ht hm hx), by rw [keepL_len, nats_len, boI_len]⟩
    rw [keep_mk (keep_ok h.ok hd hb) (nats_ev_nodup m) (fun x hx => by rw [hkl]; exact ev_mem hm hx), keepL_keepL _ _ _ (fun x hx => by rw [nats_len, turnI_len ht]; exact nev_mem hm hx), nats_bo]
  · unfold eqB
    refine decide_eq_decide.mpr ⟨fun e => ?_, fun e => ?_⟩
    · by_cases h0 : t = 0
      · exact .inl h0
      · by_cases h1 : t = k
        · exact .inr h1
        · exfalso
          have e0 : (keepL L (nats (turnI k t)))[0]?.getD ByteArray.empty = L[0]?.getD ByteArray.empty := by rw [e]
          have e1 : (keepL L (nats (turnI k t)))[0]?.getD ByteArray.empty = L[t]?.getD ByteArray.empty := by
            have hl0 : 0 < (nats (turnI k t)).length := by rw [nats_len, turnI_len ht]; omega
            have hg := turn_get k t (by omega)
            unfold keepL
            rw [List.getElem?_map]
            rw [List.getElem?_eq_getElem hl0] at hg ⊢
            simp only [Option.getD_some] at hg
            simp only [Option.map_some, Option.getD_some, hg]
          rw [e1, List.getElem?_eq_getElem (by omega), List.getElem?_eq_getElem (by omega)] at e0
          exact List.pairwise_iff_getElem.mp h.nodup 0 t (by omega) (by omega) (by omega) e0.symm
    · have hr : nats (turnI k t) = List.range k := by
        rw [nats_turn]
        rcases e with rfl | rfl
        · simp
        · rw [List.drop_eq_nil_of_le (by simp), List.take_of_length_le (by simp)]
          rfl
      rw [hr, ← hk, keepL_all]
theorem append_at2 {T E : TypeId} {z : Value} {bytes : Nat} (hT : Try.prog.underlying T = some (.slice E)) (hE : (Try.prog.info? E).map (fun i => (i.zero, i.size, i.bytes)) = some (some z, 1, bytes)) (hzc : z.cells.size = 1) (hby : bytes ≤ 1000)
    {w : World} {ops : Array Oper} {rest : List Oper} {o : Oper} {a : Act} {Q : Exit → Act → World → Prop}
    (hg : o.guard = none) (s x : Operand) (hop : o.op = Op.call { callee := Callee.builtin Builtin.append, args := #[s, x], argTypes := #[T, T] })
    (base : Nat) (v : Value) (k : Nat) (xs : List Value) (hs : a.eval s = v) (hown : w.ownsRow base E 1 v k xs) (ad : Addr) (vs : List Value) (n c : Nat) (hx : a.eval x = .slice (some ad) n c) (hn : vs.length = n) (hsrc : ∀ j u, vs[j]? = some u → w.cell? (ad.add j) = some u) (h1 : ∀ u ∈ vs, u.oneCell' = true)
    (hk : k + n ≤ 1000000) (hb : base ≤ w.heap.size)
    (hK : ∀ v' w', w'.ownsRow base E 1 v' (k + n) (xs ++ vs) → w.grownBy w' v.ownBlock → (v'.ownBlock = v.ownBlock ∨ v'.ownBlock = some w.heap.size) → wpList Try.prog ops Q rest (a.put o.dst v') w') :
    wpList Try.prog ops Q (o :: rest) a w := by
  obtain ⟨i0, hi, hz0, hz1, hz2⟩ := info_parts hE
  subst hn
  refine wpList_append_own_at w hg s x T hop base E i0 z 1 bytes hT hi hz0 hz1 hz2 hzc (by decide) v k _ hs hown ad vs.length c vs hx (by simp) hsrc h1 (by unfold maxLen; omega) ?_ hb fun v' w' h1 h2 _ h4 => hK v' w' h1 h2 h4
  have : (k + vs.length) * bytes ≤ 1000000 * 1000 := Nat.mul_le_mul hk hby
  omega
/-- two rows that lie apart -/
def Off (v u : Value) : Prop := ∀ g, v.ownBlock = some g → u.ownBlock = some g → False
theorem Off.nil (u : Value) : Off (.slice none 0 0) u := fun g h _ => by cases h
theorem Off.symm {v u : Value} (h : Off v u) : Off u v := fun g a b => h g b a
theorem Off.next {v v' u : Value} {w : World} {B E k : Nat} {xs : List Value} (h : Off v u) (hu : w.ownsRow B E 1 u k xs) (hv : v'.ownBlock = v.ownBlock ∨ v'.ownBlock = some w.heap.size) : Off v' u := by
  intro g h1 h2
  rcases hv with e | e
  · exact h g (e ▸ h1) h2
  · have := (hu.lt g h2).2
    rw [e] at h1
    cases h1
    omega
theorem Off.row {v u : Value} (h : Off v u) {w w' : World} {B E k : Nat} {xs : List Value} (hu : w.ownsRow B E 1 u k xs) (hg : w.grownBy w' v.ownBlock) : w'.ownsRow B E 1 u k xs := by
  refine hu.kept hg ?_
  cases e : u.ownBlock with
  | none => exact .inl rfl
  | some g => exact .inr fun e2 => h g e2.symm e
theorem keep_w (a a2 : Option Addr) (cap cap2 : Nat) (l : List ByteArray) (ks : List Int) (lr : List ByteArray) (n m q : Nat) (w : World) (hn : Hid (l.length = n)) (hm : Hid (ks.length = m)) (hq : Hid (lr.length = q)) (h9 : n ≤ 100 ∧ m ≤ 100) (hz : Hid (∀ x ∈ l, x.size ≤ 9223372036854775807)) (hr : Hid (ReadsS w a l)) (hrm : Hid (ReadsI w a2 ks)) (H : Hid (keepT l ks = (lr, 0))) :
    Calls Try.prog 29 #[.agg #[.slice a n cap], .slice a2 m cap2] w fun e w' => ∃ a4 k4, e = .returned (.tuple #[.agg #[.slice a4 q k4], .int .i64 0]) ∧ ReadsS w' a4 lr ∧ Below w.heap.size w w' := by
  obtain ⟨h1, h2⟩ := h9
  have e1 := hn.out
  have e2 := hm.out
  have e3 := hq.out
  subst e1 e2 e3
  refine (pkeep_any a a2 cap cap2 l ks lr 0 w (by omega) hz hr (by omega) hrm H).mono fun e w' h => ?_
  obtain ⟨V, B, rfl, _, hT, hB⟩ := h
  obtain ⟨a4, k4, rfl⟩ := tab_shape hT
  exact ⟨a4, k4, rfl, hT.reads, hB⟩
theorem lequal_n (a a2 : Option Addr) (c c2 : Nat) (l : List ByteArray) (n : Nat) (w : World) (hl : Hid (l.length = n)) (h9 : n ≤ 100) (ra : Hid (ReadsS w a l)) (rb : Hid (ReadsS w a2 l)) :
    Calls Try.prog 16 #[.agg #[.slice a n c], .agg #[.slice a2 n c2]] w fun e w' => e = .returned (.bool true) ∧ Below w.heap.size w w' := by
  have e1 := hl.out
  subst e1
  exact lequal_any a a2 c c2 l w (by omega) ra rb
theorem psame_n (a a2 : Option Addr) (c c2 : Nat) (l m : List ByteArray) (n : Nat) (r : Bool) (w : World) (hl : Hid (l.length = n)) (hm : Hid (m.length = n)) (h9 : n ≤ 100) (ra : Hid (ReadsS w a l)) (rb : Hid (ReadsS w a2 m)) (H : Hid (eqB l m = r)) :
    Calls Try.prog 31 #[.agg #[.slice a n c], .agg #[.slice a2 n c2]] w fun e w' => e = .returned (.bool r) ∧ Below w.heap.size w w' := by
  have e1 := hl.out
  have e2 := hm.out
  have h := psame_any a a2 c c2 l m r w (by omega) (by omega) ra rb H
  rw [e1, e2] at h
  exact h
end Go.Proofs.Ytndghjfgjkjbdaa.s06
