/-
  Layer 6: keeping as lists, for InternKeeps.
-/
import Derived.Test.YtndghjfgjkjbdaaS06ZK
namespace Go.Proofs.Ytndghjfgjkjbdaa.s06
set_option linter.unusedVariables false
set_option linter.unusedSimpArgs false
open Go.RowKit Go.WideMaps Go.Maps
open kit

/-- numbers from 0 on -/
def upI (n : Nat) : List Int := (List.range n).map fun (k : Nat) => (k : Int)
theorem upI_len (n : Nat) : (upI n).length = n := by simp [upI]
theorem upI_at {n k : Nat} (h : k < n) : (upI n)[k]?.getD 0 = (k : Int) := by
  unfold upI
  rw [List.getElem?_map, List.getElem?_range h]
  rfl
theorem upI_snoc (n : Nat) : upI (n + 1) = upI n ++ [(n : Int)] := by
  unfold upI
  rw [List.range_succ, List.map_append]
  rfl
/-- the numbers of names as naturals -/
def nats (ks : List Int) : List Nat := ks.map Int.toNat
theorem rkG_keep (l : List ByteArray) (hn : l.Nodup) : ∀ (rest : List Int) (cur : List ByteArray) (pre : List Nat), cur = keepL l pre → (pre ++ nats rest).Nodup → (∀ k ∈ pre, k < l.length) → (∀ k ∈ rest, 0 ≤ k ∧ k < (l.length : Int)) → rkG l cur rest = (keepL l (pre ++ nats rest), 0)
  | [], cur, pre, hc, _, _, _ => by rw [rkG, hc, nats, List.map_nil, List.append_nil]
  | k :: rest, cur, pre, hc, hd, hp, hk => by
    have hk0 := hk k (List.mem_cons_self ..)
    have hkl : k.toNat < l.length := by omega
    have e1 : pre ++ nats (k :: rest) = (pre ++ [k.toNat]) ++ nats rest := by unfold nats; simp
    rw [e1] at hd ⊢
    have hd1 : (pre ++ [k.toNat]).Nodup := (List.nodup_append.mp hd).1
    have hp1 : ∀ j ∈ pre ++ [k.toNat], j < l.length := fun j hj => by
      rcases List.mem_append.mp hj with h | h
      · exact hp j h
      · rw [List.mem_singleton] at h; omega
    have hout : ¬ ix cur (l[k.toNat]?.getD ByteArray.empty) < cur.length := by
      intro h
      have hm := ix_mem.mp h
      rw [hc] at hm
      unfold keepL at hm
      rw [List.mem_map] at hm
      obtain ⟨j, hj, he⟩ := hm
      have h1 := ix_self hn (hp j hj)
      have h2 := ix_self hn hkl
      rw [he, h2] at h1
      have := (List.nodup_append.mp hd1).2.2 j hj k.toNat (List.mem_singleton.mpr rfl)
      omega
    rw [rkG, if_neg hout]
    refine rkG_keep l hn rest _ (pre ++ [k.toNat]) ?_ hd hp1 fun x hx => hk x (List.mem_cons_of_mem _ hx)
    rw [hc]
    unfold keepL
    rw [List.map_append]
    rfl
/-- keeping different numbers of a valid table -/
theorem keep_mk {l : List ByteArray} (h : okT l = 0) {ks : List Int} (hd : (nats ks).Nodup) (hk : ∀ k ∈ ks, 0 ≤ k ∧ k < (l.length : Int)) : keepT l ks = (keepL l (nats ks), 0) := by
  have hin : inR l ks := by
    intro j hj
    have := hk _ (mem_getD ks j hj)
    exact this
  rw [keepT_good h hin, rkG_keep l (ok_iff.mp h).2.1 ks [] [] rfl (by simpa using hd) (fun _ h => by cases h) hk]
  rfl
theorem keep_ok {l : List ByteArray} (h : okT l = 0) {ks : List Nat} (hd : ks.Nodup) (hk : ∀ k ∈ ks, k < l.length) : okT (keepL l ks) = 0 := by
  obtain ⟨h1, h2, h3⟩ := ok_iff.mp h
  have hn := keepL_nodup h2 hd hk
  have hs : ∀ x ∈ keepL l ks, x ∈ l := fun x hx => by
    unfold keepL at hx
    rw [List.mem_map] at hx
    obtain ⟨k, hk2, rfl⟩ := hx
    exact mem_getS l k (hk k hk2)
  exact ok_iff.mpr ⟨Nat.le_trans (nodup_len hn hs) h1, hn, fun x hx => h3 x (hs x hx)⟩
/-- all numbers, those from t on first -/
def turnI (n t : Nat) : List Int := (upI n).drop t ++ (upI n).take t
theorem turnI_len {n t : Nat} (h : t ≤ n) : (turnI n t).length = n := by
  unfold turnI
  rw [List.length_append, List.length_drop, List.length_take, upI_len]
  omega
theorem nats_up (n : Nat) : nats (upI n) = List.range n := by
  unfold nats upI
  rw [List.map_map]
  conv => rhs; rw [← List.map_id (List.range n)]
  rfl
theorem nats_turn (n t : Nat) : nats (turnI n t) = (List.range n).drop t ++ (List.range n).take t := by
  have : nats (turnI n t) = (nats (upI n)).drop t ++ (nats (upI n)).take t := by
    unfold turnI nats
    rw [List.map_append, List.map_drop, List.map_take]
  rw [this, nats_up]
theorem turn_perm (n t : Nat) : ((List.range n).drop t ++ (List.range n).take t).Perm (List.range n) := by
  have h : ((List.range n).take t ++ (List.range n).drop t) = List.range n := List.take_append_drop t _
  conv => rhs; rw [← h]
  exact List.perm_append_comm
theorem nats_turn_nodup (n t : Nat) : (nats (turnI n t)).Nodup := by
  rw [nats_turn]
  exact (turn_perm n t).nodup_iff.mpr List.nodup_range
theorem turn_mem {n t : Nat} {k : Int} (h : k ∈ turnI n t) : 0 ≤ k ∧ k < (n : Int) := by
  have h2 : k ∈ upI n := by
    unfold turnI at h
    rcases List.mem_append.mp h with h | h
    · exact List.mem_of_mem_drop h
    · exact List.mem_of_mem_take h
  unfold upI at h2
  rw [List.mem_map] at h2
  obtain ⟨j, hj, rfl⟩ := h2
  rw [List.mem_range] at hj
  omega
theorem up_mem {n : Nat} {k : Int} (h : k ∈ upI n) : 0 ≤ k ∧ k < (n : Int) := by
  unfold upI at h
  rw [List.mem_map] at h
  obtain ⟨j, hj, rfl⟩ := h
  rw [List.mem_range] at hj
  omega
/-- every second number -/
def evI (m : Nat) : List Int := (List.range m).map fun (k : Nat) => ((2 * k : Nat) : Int)
theorem evI_len (m : Nat) : (evI m).length = m := by simp [evI]
theorem evI_snoc (m : Nat) : evI (m + 1) = evI m ++ [((2 * m : Nat) : Int)] := by
  unfold evI
  rw [List.range_succ, List.map_append]
  rfl
def boI (n t m : Nat) : List Int := (List.range m).map fun k => (turnI n t)[2 * k]?.getD 0
theorem boI_len (n t m : Nat) : (boI n t m).length = m := by simp [boI]
theorem boI_snoc (n t m : Nat) : boI n t (m + 1) = boI n t m ++ [(turnI n t)[2 * m]?.getD 0] := by
  unfold boI
  rw [List.range_succ, List.map_append]
  rfl
theorem nats_ev (m : Nat) : nats (evI m) = (List.range m).map fun k => 2 * k := by
  unfold nats evI
  rw [List.map_map]
  refine List.map_congr_left fun k _ => ?_
  exact Int.toNat_natCast _
theorem nats_ev_nodup (m : Nat) : (nats (evI m)).Nodup := by
  rw [nats_ev]
  refine List.pairwise_map.mpr ?_
  exact List.nodup_range.imp fun h e => h (by omega)
theorem nats_get (ks : List Int) (k : Nat) : (nats ks)[k]?.getD 0 = (ks[k]?.getD 0).toNat := by
  unfold nats
  rw [List.getElem?_map]
  cases ks[k]? <;> rfl
theorem nats_bo (n t m : Nat) : nats (boI n t m) = (nats (evI m)).map fun k => (nats (turnI n t))[k]?.getD 0 := by
  rw [nats_ev]
  unfold nats boI
  rw [List.map_map, List.map_map]
  refine List.map_congr_left fun k _ => ?_
  exact (nats_get (turnI n t) (2 * k)).symm
theorem nats_bo_nodup (n t m : Nat) (ht : t ≤ n) (hm : 2 * m ≤ n + 1) : (nats (boI n t m)).Nodup := by
  rw [nats_bo]
  have hl : (nats (turnI n t)).length = n := by unfold nats; rw [List.length_map, turnI_len ht]
  have hd := nats_turn_nodup n t
  refine List.pairwise_map.mpr ?_
  have hr : ∀ k ∈ nats (evI m), k < n := fun k hk => by
    rw [nats_ev, List.mem_map] at hk
    obtain ⟨j, hj, rfl⟩ := hk
    rw [List.mem_range] at hj
    omega
  refine (nats_ev_nodup m).imp_of_mem fun {a b} ha hb hne he => ?_
  have ha2 := hr a ha
  have hb2 := hr b hb
  rw [List.getElem?_eq_getElem (by omega), List.getElem?_eq_getElem (by omega)] at he
  rcases Nat.lt_or_gt_of_ne hne with h | h
  · exact List.pairwise_iff_getElem.mp hd a b (by omega) (by omega) h he
  · exact List.pairwise_iff_getElem.mp hd b a (by omega) (by omega) h he.symm
end Go.Proofs.Ytndghjfgjkjbdaa.s06
