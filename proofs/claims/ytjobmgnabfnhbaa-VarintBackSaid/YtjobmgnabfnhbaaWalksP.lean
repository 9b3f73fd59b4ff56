/-
  The contract of VarintMany.
-/
import Derived.Test.YtjobmgnabfnhbaaWalksO
import Derived.Test.YtjobmgnabfnhbaaMathC
import Derived.Laws.AppendOwnNone
namespace Go.Proofs.Ytjobmgnabfnhbaa
open Go.RowKit

theorem rlg_back (s : ByteArray) : ∀ (zs pre acc : List Int), (∀ z ∈ zs, 0 ≤ z ∧ z ≤ 18446744073709551615) → s.data.toList = bys (pre ++ zs.flatMap digs) → rlg s zs.length pre.length acc = (acc ++ zs, 0, 0) := by
  intro zs
  induction zs with
  | nil =>
    intro pre acc _ h
    have hs : s.size = pre.length := by
      have := congrArg List.length h
      rw [bys_len] at this
      simpa using this
    show rlg s 0 pre.length acc = _
    rw [rlg, if_neg (by omega)]
    simp
  | cons z zs ih =>
    intro pre acc hz h
    obtain ⟨z0, z1⟩ := hz z (List.mem_cons_self ..)
    have h1 : s.data.toList = bys pre ++ (bys (digs z) ++ bys (zs.flatMap digs)) := by
      rw [h, List.flatMap_cons, bys_app, bys_app]
    have hr := rd_mid h1 z0 z1
    rw [bys_len] at hr
    show rlg s (zs.length + 1) pre.length acc = _
    rw [rlg, hr]
    have := ih (pre ++ digs z) (acc ++ [z]) (fun y hy => hz y (List.mem_cons_of_mem _ hy)) (by rw [h, List.flatMap_cons, List.append_assoc])
    rw [List.length_append, Int.natCast_add] at this
    simp only [if_pos]
    rw [this]
    simp
theorem rlist_back (zs : List Int) (hl : zs.length ≤ 20000) (hz : ∀ z ∈ zs, 0 ≤ z ∧ z ≤ 18446744073709551615) : rlist (strOfNums (zs.flatMap digs)) zs.length = (zs, 0, 0) := by
  unfold rlist
  rw [if_neg (by omega)]
  have := rlg_back (strOfNums (zs.flatMap digs)) zs [] [] hz (by rw [str_list]; rfl)
  simpa using this

/-- what an append takes from: nothing, or a row of numbers -/
def Src (w : World) (a : Option Addr) (c : Nat) (zs : List Int) : Prop :=
  (a = none ∧ zs = [] ∧ c = 0) ∨ ∃ x, a = some x ∧ ∀ j u, (zs.map (Value.int .u64))[j]? = some u → w.cell? (x.add j) = some u
theorem Src.below {w w1 : World} {a : Option Addr} {c : Nat} {zs : List Int} (h : Src w a c zs) (hB : Below w.heap.size w w1) : Src w1 a c zs := by
  rcases h with h | ⟨x, rfl, hc⟩
  · exact .inl h
  · refine .inr ⟨x, rfl, fun j u hu => ?_⟩
    have h1 := hc j u hu
    have hb : (x.add j).block < w.heap.size := by
      rcases Nat.lt_or_ge (x.add j).block w.heap.size with hlt | hge
      · exact hlt
      · have : w.heap[(x.add j).block]? = none := Array.getElem?_eq_none hge
        simp [World.cell?, this] at h1
    exact (hB.cell hb).trans h1
theorem append_in {w : World} {ops : Array Oper} {rest : List Oper} {o : Oper} {a : Act} {Q : Exit → Act → World → Prop}
    (hg : o.guard = none) (s x : Operand) (hop : o.op = Op.call { callee := Callee.builtin Builtin.append, args := #[s, x], argTypes := #[38, 38] })
    (base : Nat) (v : Value) (k : Nat) (xs : List Int) (hs : a.eval s = v) (hown : w.ownsRow base 22 1 v k (xs.map (Value.int .u64))) (src : Option Addr) (zs : List Int) (c : Nat) (hx : a.eval x = .slice src zs.length c) (hsrc : Src w src c zs)
    (hk : k + zs.length ≤ 100000) (hb : base ≤ w.heap.size)
    (hK : ∀ v' w', w'.ownsRow base 22 1 v' (k + zs.length) ((xs ++ zs).map (Value.int .u64)) → Below base w w' → wpList Try.prog ops Q rest (a.put o.dst v') w') :
    wpList Try.prog ops Q (o :: rest) a w := by
  obtain ⟨i0, hi, hz0, hz1, hz2⟩ := info_parts info22
  rcases hsrc with ⟨rfl, rfl, rfl⟩ | ⟨ad, rfl, hc⟩
  · refine wpList_append_own_none hg s x 38 hop base 22 i0 1 Try.underlying38 hi v k _ hs hown hx (hK v w ?_ (Below.refl _ _))
    simpa using hown
  · refine wpList_append_own w hg s x 38 hop base 22 i0 (.int .u64 0) 1 8 Try.underlying38 hi hz0 hz1 hz2 rfl (by decide) v k _ hs hown ad zs.length c (zs.map (Value.int .u64)) hx (by simp) hc (by simp [Value.oneCell']) (by unfold maxLen; omega) (by omega) hb fun v' w' h1 h2 _ => hK v' w' ?_ ?_
    · rw [List.map_append]; exact h1
    · exact below_grown (Below.refl _ _) hown h2 hb
theorem list_app (za zb : List Int) : strOfNums (za.flatMap digs) ++ strOfNums (zb.flatMap digs) = strOfNums ((za ++ zb).flatMap digs) := by
  rw [strOfNums_app, List.flatMap_append]
theorem str_len (zs : List Int) (hn : zs.length ≤ 1000) (hz : ∀ z ∈ zs, 0 ≤ z ∧ z ≤ 18446744073709551615) : (strOfNums (zs.flatMap digs)).size ≤ 10000 := by
  rw [strOfNums_size]
  have := flat_len zs (fun z h => (hz z h).2)
  omega

theorem list_len (a : Option Addr) (cap n : Nat) (zs : List Int) (hn : zs.length = n) (w : World) (hl : n ≤ 1000) (hz : ∀ z ∈ zs, 0 ≤ z ∧ z ≤ 18446744073709551615) (hr : Reads64 w a zs) :
    Calls Try.prog 27 #[.slice a n cap] w fun e w' => e = .returned (.string (strOfNums (zs.flatMap digs))) ∧ Below w.heap.size w w' := by
  subst hn
  exact list_any a cap zs w hl hz hr
theorem back_row {w1 : World} {v : Value} {zc : List Int} {n base : Nat} (hn : zc.length = n) (h : w1.ownsRow base 22 1 v zc.length (zc.map (Value.int .u64))) : ∃ a cap, v = .slice a n cap ∧ Reads64 w1 a zc := by
  obtain ⟨a, cap, rfl⟩ := row_shape h
  exact ⟨a, cap, by rw [hn], reads_of_row rfl h⟩
theorem all_row {w1 : World} {v : Value} {za zb zc : List Int} {base : Nat} (hz : za ++ zb = zc) (h : w1.ownsRow base 22 1 v (za.length + zb.length) ((za ++ zb).map (Value.int .u64))) : ∃ a cap, v = .slice a (za.length + zb.length) cap ∧ Reads64 w1 a zc := by
  obtain ⟨a, cap, rfl⟩ := row_shape h
  subst hz
  exact ⟨a, cap, rfl, reads_of_row List.length_append h⟩

set_option maxRecDepth 100000 in
set_option maxHeartbeats 2000000 in
theorem many_any (a b : Option Addr) (ca cb : Nat) (za zb : List Int) (w : World) (hna : za.length ≤ 20) (hnb : zb.length ≤ 20) (hza : ∀ z ∈ za, 0 ≤ z ∧ z ≤ 18446744073709551615) (hzb : ∀ z ∈ zb, 0 ≤ z ∧ z ≤ 18446744073709551615) (ra : Reads64 w a za) (rb : Reads64 w b zb) (sa : Src w a ca za) (sb : Src w b cb zb) :
    Calls Try.prog 8 #[.slice a za.length ca, .slice b zb.length cb] w fun e w' => e = .returned (.bool true) ∧ Below w.heap.size w w' := by
  have HA := Lib.hid hza
  have HB := Lib.hid hzb
  have HAB : Hid (∀ z ∈ za ++ zb, 0 ≤ z ∧ z ≤ 18446744073709551615) := Lib.hid (fun z hz => (List.mem_append.1 hz).elim (hza z) (hzb z))
  have hlab : (za ++ zb).length = za.length + zb.length := List.length_append
  have hL := rlist_back (za ++ zb) (by omega) HAB.out
  have l3 := str_len (za ++ zb) (by omega) HAB.out
  have hap := list_app za zb
  have hadd : (strOfNums (za.flatMap digs)).size + (strOfNums (zb.flatMap digs)).size ≤ 9223372036854775807 := by
    have l1 := str_len za (by omega) hza
    have l2 := str_len zb (by omega) hzb
    omega
  rw [hlab, Int.natCast_add] at hL
  clear hza hzb
  generalize hzc : za ++ zb = zc at HAB hlab hL l3 hap
  have HC := Lib.hid hzc
  have HN := Lib.hid hlab
  have HL := Lib.hid hL
  clear hzc hlab hL
  go_enter Try.func8, Try.ntmps8
  go_wp2_with (first
    | (go_at_call 6; refine (known_any _).mono ?_; rintro e w0 ⟨rfl, hB0⟩; have z0 := hB0.size)
    | (at_builtin; refine append_in rfl (.tmp 21) (.tmp 22) rfl w0.heap.size _ 0 [] rfl (empty_row w0 _ (Nat.le_refl _)) a za ca rfl (sa.below (hB0.alloc z0 _)) (by omega) (by simp) ?_; intro v1 wA hv1 hBA; simp only [Nat.zero_add, List.nil_append] at hv1; obtain ⟨a1, k1, rfl⟩ := row_shape hv1; have KA := (hB0.alloc z0 (.cells #[] 22)).trans (hBA.mono z0); have zA : w0.heap.size ≤ wA.heap.size := Nat.le_trans (by simp) hBA.size)
    | (at_builtin; refine append_in rfl (.tmp 23) (.tmp 24) rfl w0.heap.size _ za.length za rfl hv1 b zb cb rfl (sb.below KA) (by omega) zA ?_; intro v2 wB hv2 hBB; obtain ⟨a2, k2, rfl, q2⟩ := all_row HC.out hv2; have KB := KA.trans (hBB.mono z0))
    | (go_at_call 27; (with_reducible refine (list_any a ca za _ (by omega) HA.out (ra.below KB)).mono ?_); rintro e w1 ⟨rfl, hB1⟩; have K1 := below_then KB hB1; have q3 := q2.below hB1)
    | (go_at_call 27; (with_reducible refine (list_any b cb zb _ (by omega) HB.out (rb.below K1)).mono ?_); rintro e w2 ⟨rfl, hB2⟩; have K2 := below_then K1 hB2; have q4 := q3.below hB2)
    | (go_at_call 25; refine (rlist_any _ _ (by omega) zc 0 0 HL _).mono ?_; rintro e w3 ⟨v3, rfl, hr3, hB3⟩; obtain ⟨b3, k3, rfl, p5⟩ := back_row HN.out hr3; have K3 := below_then K2 hB3; have q5 := q4.below hB3)
    | (go_at_call 27; (with_reducible refine (list_len a2 k2 _ zc HN.out _ (by omega) HAB.out (q5.alloc _)).mono ?_); rintro e w4 ⟨rfl, hB4⟩; have K4 := below_alloc_then K3 hB4; have q6 := (q5.alloc _).below hB4; have p6 := (p5.alloc _).below hB4; obtain ⟨cx0, cx1⟩ := ((Box2.new w3 (.int .i64 0) (.int .i64 0)).below hB4).cells))
  clear cx0 cx1
  go_loopw [10] (fun i wr => ∃ k : Nat, k ≤ za.length + zb.length ∧ i = .int .i64 k ∧ Reads64 wr b3 zc ∧ Reads64 wr a2 zc ∧ Below w.heap.size w wr) (fun i _ => za.length + zb.length - (intOf i).toNat)
  case atStart => exact ⟨0, by omega, rfl, p6, q6, K4⟩
  case round =>
    obtain ⟨k, hk, rfl, g1, g2, hBr⟩ := hrel
    by_cases hlt : k < za.length + zb.length
    · obtain ⟨c1, o1, rfl, _, h1⟩ := g1 k (by rw [HN.out]; exact hlt)
      obtain ⟨c2, o2, rfl, _, h2⟩ := g2 k (by rw [HN.out]; exact hlt)
      generalize zc[k]?.getD 0 = y at h1 h2
      go_wp2
      go_quiet (fail)
      go_wp2
      go_roundw
      case rel => exact ⟨k + 1, by omega, by go_num, g1, g2, below_drewN hBr _⟩
      case measure => simp [intOf]; omega
    · go_wp2
      go_ret
      exact ⟨rfl, hBr⟩
end Go.Proofs.Ytjobmgnabfnhbaa
