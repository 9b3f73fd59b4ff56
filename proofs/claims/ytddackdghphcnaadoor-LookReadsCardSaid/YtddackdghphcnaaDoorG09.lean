/-
  Layer 13: the program's from, a recursive iterator. Layer 13: the program's AppendSeq, Collect and All. Layer 13: the program's All.
-/
import Derived.Test.YtddackdghphcnaaDoorG03
import Derived.Test.YtddackdghphcnaaDoorG08
import Derived.Test.YtddackdghphcnaaDoorG02
import Derived.Maps.OwnIn
import Derived.Test.YtddackdghphcnaaDoorG07
namespace Go.Proofs.YtddackdghphcnaaDoor.s13
set_option linter.unusedVariables false
set_option linter.unusedSimpArgs false
open Go.RowKit
open kit

open Go.Shelf
attribute [local go_sem] Oper.semAt_some
def encL (x : List Int) : Array Value := #[.agg #[.int .i64 (pad5 x).1, .int .i64 (pad5 x).2.1, .int .i64 (pad5 x).2.2.1, .int .i64 (pad5 x).2.2.2.1, .int .i64 (pad5 x).2.2.2.2]]
theorem encL_eq {x : List Int} {a b c d e : Int} (h : pad5 x = (a, b, c, d, e)) : encL x = #[.agg #[.int .i64 a, .int .i64 b, .int .i64 c, .int .i64 d, .int .i64 e]] := by unfold encL; rw [h]
def cellsL (x : List Int) : Array Value := #[.int .i64 (pad5 x).1, .int .i64 (pad5 x).2.1, .int .i64 (pad5 x).2.2.1, .int .i64 (pad5 x).2.2.2.1, .int .i64 (pad5 x).2.2.2.2]
theorem cellsL_eq {x : List Int} {a b c d e : Int} (h : pad5 x = (a, b, c, d, e)) : cellsL x = #[.int .i64 a, .int .i64 b, .int .i64 c, .int .i64 d, .int .i64 e] := by unfold cellsL; rw [h]
theorem from_in (F : Fence) (n : Nat) (h5 : F.fn 62) (hro : F.round = none) (a b c d e t k : Int) (w : World) :
    CallsIn F n Tryd.prog 62 #[.agg #[.int .i64 a, .int .i64 b, .int .i64 c, .int .i64 d, .int .i64 e], .int .i64 t, .int .i64 k] w fun e' w' => e' = .returned (.func (.func 70) #[] #[.pointer (some ⟨w.heap.size, 0, none⟩), .pointer (some ⟨w.heap.size + 1 + 1, 0, none⟩), .pointer (some ⟨w.heap.size + 1, 0, none⟩)]) ∧ w' = ((w.alloc (.cells #[.int .i64 a, .int .i64 b, .int .i64 c, .int .i64 d, .int .i64 e] 25)).alloc (.cells #[.int .i64 t] 3)).alloc (.cells #[.int .i64 k] 3) := by
  refine callsIn_of_wp Tryd.func62 rfl h5 ?_ hro
  simp only [Tryd.ntmps62, List.size_toArray, List.length_cons, List.length_nil, Nat.reduceAdd, Nat.reduceSub, Array.replicate_succ, Array.replicate_zero, List.push_toArray, List.append_toArray, List.nil_append, List.cons_append]
  gi_wp2
  go_ret
  exact ⟨rfl, rfl⟩
/-- the looks behind the first j terminals -/
def flatJ (t d : Nat) (p : List Int) (j : Nat) : List (List Int) := (List.range j).flatMap fun (s : Nat) => allL t d (p ++ [(s : Int)])
theorem flatJ_succ (t d : Nat) (p : List Int) (j : Nat) : flatJ t d p (j + 1) = flatJ t d p j ++ allL t d (p ++ [(j : Int)]) := by
  unfold flatJ; rw [List.range_succ, List.flatMap_append]; simp
theorem flatJ_le (t d : Nat) (p : List Int) {j : Nat} : ∀ {i : Nat}, j ≤ i → (flatJ t d p j).length ≤ (flatJ t d p i).length
  | 0, h => by obtain rfl : j = 0 := by omega
               exact Nat.le_refl _
  | i + 1, h => by
    by_cases e : j = i + 1
    · subst e; exact Nat.le_refl _
    · rw [flatJ_succ, List.length_append]
      have := flatJ_le t d p (j := j) (i := i) (by omega)
      omega
theorem flatJ_pre (t d : Nat) (p : List Int) {j : Nat} : ∀ {i : Nat}, j ≤ i → flatJ t d p j <+: flatJ t d p i
  | 0, h => by obtain rfl : j = 0 := by omega
               exact List.prefix_refl _
  | i + 1, h => by
    by_cases e : j = i + 1
    · subst e; exact List.prefix_refl _
    · rw [flatJ_succ]
      exact (flatJ_pre t d p (j := j) (i := i) (by omega)).trans (List.prefix_append _ _)
theorem anyDepthR {F : Fence} {m k : Nat} {P : Program} {l : Nat} {f : FuncId} {tmps : Array Value} {a b : Code} {W : World} {R : Ending → World → Prop} (hd : F.depth = none) (h : RoundIn F m P l f tmps a b W R) : RoundIn F k P l f tmps a b W R :=
  ⟨h.1, fun c cs _ => h.2 c cs (fun d h => by rw [hd] at h; cases h)⟩
set_option maxRecDepth 100000 in
set_option maxHeartbeats 4000000 in
theorem from1_zero (F : Fence) (n : Nat) (h70 : F.fn 70) (hro : F.round = none) (hd : F.depth = none) (k : Nat) (t : Nat) (p : List Int) (hp : p.length = k) (hk : k ≤ 4) (l bx bk bt : Nat) (J Jx : List (List Int) → (Nat → Prop) → World → Prop) (Z0 : Nat → Prop) (hJ : AbZ J) (hJx : AbZ Jx)
    (zx : Z0 bx) (zk : Z0 bk) (zt : Z0 bt) (m : Nat)
    (hY : ∀ pre x Z W1, J pre Z W1 → (∀ r, Z0 r → Z r) → pre.length < (allL t 0 p).length → YieldAt F m Tryd.prog l (encL x) W1 fun e W' => (e = .returned (.bool true) ∧ J (pre ++ [x]) Z W' ∧ KeepZ Z W1 W') ∨ (e = .returned (.bool false) ∧ Jx (pre ++ [x]) Z W' ∧ KeepZ Z W1 W'))
    (W : World) (hX : Box W 25 bx (cellsL p)) (hK : Box W 3 bk #[.int .i64 k]) (hT : Box W 3 bt #[.int .i64 t]) (h0 : J [] Z0 W) :
    CallsIn F n Tryd.prog 70 #[.func (.yield l) #[] #[], .pointer (some ⟨bx, 0, none⟩), .pointer (some ⟨bk, 0, none⟩), .pointer (some ⟨bt, 0, none⟩)] W fun e W' => (∃ v, e = .returned v) ∧
      ((∃ xs, xs = allL t 0 p ∧ J xs Z0 W') ∨ (∃ pre, pre <+: allL t 0 p ∧ Jx pre Z0 W')) := by
  obtain ⟨⟨x0, x1, x2, x3, x4⟩, hpp⟩ : ∃ y, pad5 p = y := ⟨_, rfl⟩
  have hx0 : x0 = k := by have := congrArg Prod.fst hpp; simpa [pad5, hp] using this.symm
  subst hx0
  rw [cellsL_eq hpp] at hX
  have J1 := hJ.claim _ _ _ (.cells #[.func (.yield l) #[] #[]] 92) h0
  obtain ⟨fn, tmps, assign, body, hy, hR⟩ := hY [] p _ _ J1 (fun r hr => .inl hr) (by simp [allL])
  rw [encL_eq hpp] at hy
  have X1 := Lib.hid (hX.alloc (.cells #[.func (.yield l) #[] #[]] 92))
  refine callsIn_of_wp_marks Tryd.func70 rfl h70 ?_ hro
  simp only [Tryd.ntmps70, List.size_toArray, List.length_cons, List.length_nil, Nat.reduceAdd, Nat.reduceSub, Array.replicate_succ, Array.replicate_zero, List.push_toArray, List.append_toArray, List.nil_append, List.cons_append]
  obtain ⟨c0, c1, c2, c3, c4⟩ := X1.out.cell5
  gi_wp2
  refine RoundIn.mono (anyDepthR hd hR) ?_
  rintro e W3 (⟨rfl, hJ3, hk3⟩ | ⟨rfl, hJx3, hk3⟩)
  · have X3 : Box W3 25 bx #[.int .i64 ((k : Int)), .int .i64 x1, .int .i64 x2, .int .i64 x3, .int .i64 x4] := (hk3 bx (.inl zx)).trans X1.out
    have K3 : Box W3 3 bk #[.int .i64 k] := (hk3 bk (.inl zk)).trans (hK.alloc (.cells #[.func (.yield l) #[] #[]] 92))
    obtain ⟨c0, c1, c2, c3, c4⟩ := X3.cell5
    have ck := K3.cell 0
    simp at ck
    gi_wp2
    refine leaves_marksG (G := fun w => J ([] ++ [p]) (fun r => Z0 r ∨ r = W.heap.size) w) (fun w => results_none rfl _ _ _) (fun w hw => ⟨⟨_, rfl⟩, .inl ⟨_, rfl, hJ.less _ _ _ _ hw (fun r hr => .inl hr)⟩⟩) [] W3 List.nodup_nil (by simp) (by simp) hJ3
  · gi_wp2
    refine leaves_marksG (G := fun w => Jx ([] ++ [p]) (fun r => Z0 r ∨ r = W.heap.size) w) (fun w => results_none rfl _ _ _) (fun w hw => ⟨⟨_, rfl⟩, .inr ⟨_, List.prefix_refl _, hJx.less _ _ _ _ hw (fun r hr => .inl hr)⟩⟩) [] W3 List.nodup_nil (by simp) (by simp) hJx3
theorem pad5_snoc0 {p : List Int} {N : Nat} {a b c d : Int} (hp : p.length = N) (hN : N < 4) (h : pad5 p = ((N : Int), a, b, c, d)) : pad5 (p ++ [0]) = ((N : Int) + 1, a, b, c, d) := by
  match p, hp with
  | [], e => subst e; simp [pad5] at *; omega
  | [x], e => subst e; simp [pad5] at *; omega
  | [x, y], e => subst e; simp [pad5] at *; omega
  | [x, y, z], e => subst e; simp [pad5] at *; omega
  | x :: y :: z :: u :: r, e => simp at e; omega
theorem snoc_set {W : World} {g N : Nat} {p : List Int} {c : Int} (hp : p.length = N) (hN : N < 4) (h : Box W 25 g (cellsL (p ++ [c]))) (s : Int) : Box (W.setCell ⟨g, 1 + N, none⟩ (.int .i64 s)) 25 g (cellsL (p ++ [s])) := by
  have h2 := h.set (1 + N) (by simp [cellsL]; omega) (.int .i64 s)
  have e : (cellsL (p ++ [c])).set (1 + N) (.int .i64 s) (by simp [cellsL]; omega) = cellsL (p ++ [s]) := by
    match p, hp with
    | [], e => subst e; rfl
    | [x], e => subst e; rfl
    | [x, y], e => subst e; rfl
    | [x, y, z], e => subst e; rfl
    | x :: y :: z :: u :: r, e => simp at e; omega
  rwa [e] at h2
theorem allL_head (t d : Nat) (p : List Int) : allL t (d + 1) p = p :: flatJ t d p t := rfl
/-- what the function's own variables hold -/
structure Own5 (W : World) (l bx bk bt b4 b5 : Nat) (p q : List Int) (k t : Nat) : Prop where
  x : Box W 25 bx (cellsL p)
  k : Box W 3 bk #[.int .i64 k]
  t : Box W 3 bt #[.int .i64 t]
  f : Box W 92 b4 #[.func (.yield l) #[] #[]]
  y : Box W 25 b5 (cellsL q)
theorem Own5.same {W W' : World} {l bx bk bt b4 b5 : Nat} {p q : List Int} {k t : Nat} (h : Own5 W l bx bk bt b4 b5 p q k t) (hs : ∀ r, r = bx ∨ r = bk ∨ r = bt ∨ r = b4 ∨ r = b5 → W'.heap[r]? = W.heap[r]?) : Own5 W' l bx bk bt b4 b5 p q k t :=
  ⟨(hs _ (.inl rfl)).trans h.x, (hs _ (.inr (.inl rfl))).trans h.k, (hs _ (.inr (.inr (.inl rfl)))).trans h.t, (hs _ (.inr (.inr (.inr (.inl rfl))))).trans h.f, (hs _ (.inr (.inr (.inr (.inr rfl))))).trans h.y⟩
set_option maxRecDepth 100000 in
set_option maxHeartbeats 4000000 in
theorem from1_succ (F : Fence) (n : Nat) (h62 : F.fn 62) (h70 : F.fn 70) (hro : F.round = none) (hd : F.depth = none) (k d : Nat) (t : Nat) (ht : t ≤ 8) (p : List Int) (hp : p.length + (d + 1) = k) (hk : k ≤ 4) (l bx bk bt : Nat) (J Jx : List (List Int) → (Nat → Prop) → World → Prop) (Z0 : Nat → Prop) (hJ : AbZ J) (hJx : AbZ Jx)
    (zx : Z0 bx) (zk : Z0 bk) (zt : Z0 bt) (m : Nat)
    (hY : ∀ pre x Z W1, J pre Z W1 → (∀ r, Z0 r → Z r) → pre.length < (allL t (d + 1) p).length → YieldAt F m Tryd.prog l (encL x) W1 fun e W' => (e = .returned (.bool true) ∧ J (pre ++ [x]) Z W' ∧ KeepZ Z W1 W') ∨ (e = .returned (.bool false) ∧ Jx (pre ++ [x]) Z W' ∧ KeepZ Z W1 W'))
    (W : World) (hX : Box W 25 bx (cellsL p)) (hK : Box W 3 bk #[.int .i64 k]) (hT : Box W 3 bt #[.int .i64 t]) (h0 : J [] Z0 W)
    (IH : ∀ (n : Nat) (q : List Int), q.length + d = k → ∀ (l bx bk bt : Nat) (J Jx : List (List Int) → (Nat → Prop) → World → Prop) (Z0 : Nat → Prop), AbZ J → AbZ Jx → Z0 bx → Z0 bk → Z0 bt → ∀ m : Nat,
      (∀ pre x Z W1, J pre Z W1 → (∀ r, Z0 r → Z r) → pre.length < (allL t d q).length → YieldAt F m Tryd.prog l (encL x) W1 fun e W' => (e = .returned (.bool true) ∧ J (pre ++ [x]) Z W' ∧ KeepZ Z W1 W') ∨ (e = .returned (.bool false) ∧ Jx (pre ++ [x]) Z W' ∧ KeepZ Z W1 W')) →
      ∀ W : World, Box W 25 bx (cellsL q) → Box W 3 bk #[.int .i64 k] → Box W 3 bt #[.int .i64 t] → J [] Z0 W →
      CallsIn F n Tryd.prog 70 #[.func (.yield l) #[] #[], .pointer (some ⟨bx, 0, none⟩), .pointer (some ⟨bk, 0, none⟩), .pointer (some ⟨bt, 0, none⟩)] W fun e W' => (∃ v, e = .returned v) ∧
        ((∃ xs, xs = allL t d q ∧ J xs Z0 W') ∨ (∃ pre, pre <+: allL t d q ∧ Jx pre Z0 W'))) :
    CallsIn F n Tryd.prog 70 #[.func (.yield l) #[] #[], .pointer (some ⟨bx, 0, none⟩), .pointer (some ⟨bk, 0, none⟩), .pointer (some ⟨bt, 0, none⟩)] W fun e W' => (∃ v, e = .returned v) ∧
      ((∃ xs, xs = allL t (d + 1) p ∧ J xs Z0 W') ∨ (∃ pre, pre <+: allL t (d + 1) p ∧ Jx pre Z0 W')) := by
  obtain ⟨⟨x0, x1, x2, x3, x4⟩, hpp⟩ : ∃ y, pad5 p = y := ⟨_, rfl⟩
  obtain ⟨N, hN⟩ : ∃ N, p.length = N := ⟨_, rfl⟩
  have hx0 : x0 = N := by have := congrArg Prod.fst hpp; simpa [pad5, hN] using this.symm
  subst hx0
  have hNk : (N : Int) ≠ k := by omega
  have hNe : decide ((N : Int) = k) = false := decide_eq_false hNk
  have hX' := hX
  rw [cellsL_eq hpp] at hX'
  have J1 := hJ.claim _ _ _ (.cells #[.func (.yield l) #[] #[]] 92) h0
  obtain ⟨fn, tmps, assign, body, hy, hR⟩ := hY [] p _ _ J1 (fun r hr => .inl hr) (by simp [allL])
  rw [encL_eq hpp] at hy
  have X1 := Lib.hid (hX'.alloc (.cells #[.func (.yield l) #[] #[]] 92))
  refine callsIn_any (m := 6) hd ?_
  refine callsIn_of_wp_marks Tryd.func70 rfl h70 ?_ hro
  simp only [Tryd.ntmps70, List.size_toArray, List.length_cons, List.length_nil, Nat.reduceAdd, Nat.reduceSub, Array.replicate_succ, Array.replicate_zero, List.push_toArray, List.append_toArray, List.nil_append, List.cons_append]
  obtain ⟨c0, c1, c2, c3, c4⟩ := X1.out.cell5
  gi_wp2
  refine RoundIn.mono (anyDepthR hd hR) ?_
  clear hR hy c0 c1 c2 c3 c4
  rintro e W3 (⟨rfl, hJ3, hk3⟩ | ⟨rfl, hJx3, hk3⟩)
  · have X3 : Box W3 25 bx #[.int .i64 ((N : Int)), .int .i64 x1, .int .i64 x2, .int .i64 x3, .int .i64 x4] := (hk3 bx (.inl zx)).trans X1.out
    have K3 : Box W3 3 bk #[.int .i64 k] := (hk3 bk (.inl zk)).trans (hK.alloc (.cells #[.func (.yield l) #[] #[]] 92))
    have T3 : Box W3 3 bt #[.int .i64 t] := (hk3 bt (.inl zt)).trans (hT.alloc (.cells #[.func (.yield l) #[] #[]] 92))
    have F3 : Box W3 92 W.heap.size #[.func (.yield l) #[] #[]] := (hk3 W.heap.size (.inr rfl)).trans (Box.new W _ _)
    have hN4 : N < 4 := by omega
    have hps := pad5_snoc0 hN hN4 hpp
    have Y4 : Box (W3.alloc (.cells #[.int .i64 ((N : Int) + 1), .int .i64 x1, .int .i64 x2, .int .i64 x3, .int .i64 x4] 25)) 25 W3.heap.size (cellsL (p ++ [0])) := by rw [cellsL_eq hps]; exact Box.new W3 25 _
    have J4 := hJ.claim _ _ _ (.cells #[.int .i64 ((N : Int) + 1), .int .i64 x1, .int .i64 x2, .int .i64 x3, .int .i64 x4] 25) hJ3
    have O4 : Own5 (W3.alloc (.cells #[.int .i64 ((N : Int) + 1), .int .i64 x1, .int .i64 x2, .int .i64 x3, .int .i64 x4] 25)) l bx bk bt W.heap.size W3.heap.size p (p ++ [0]) k t := ⟨by rw [cellsL_eq hpp]; exact X3.alloc _, K3.alloc _, T3.alloc _, F3.alloc _, Y4⟩
    obtain ⟨c0, c1, c2, c3, c4⟩ := X3.cell5
    have lX := X3.lt
    have lK := K3.lt
    have lT := T3.lt
    have lF := F3.lt
    have ck := K3.cell 0
    have ct := T3.cell 0
    simp at ck ct
    gi_wp2
    have hBX : bx ≠ W3.heap.size := by omega
    have hBK : bk ≠ W3.heap.size := by omega
    have hBT : bt ≠ W3.heap.size := by omega
    have hBF : W.heap.size ≠ W3.heap.size := by omega
    clear hX' J1 X1 hk3 c0 c1 c2 c3 c4 ck ct lX lK lT X3 K3 T3 F3 Y4 h0 hX hK hT hJ3
    refine wpIn_loop (fun A W5 => ∃ (j : Nat) (ds : List Nat) (Z2 : Nat → Prop) (c : Int) (u6 u7 u16 u17 u25 u26 u27 u28 u29 u30 u31 u32 u33 u34 u35 u36 u37 u38 u39 u40 u41 : Value), j ≤ t ∧ A = { tmps := #[.func (.yield l) #[] #[], .pointer (some ⟨bx, 0, none⟩), .pointer (some ⟨bk, 0, none⟩), .pointer (some ⟨bt, 0, none⟩), .pointer (some ⟨W.heap.size, 0, none⟩), .pointer (some ⟨W3.heap.size, 0, none⟩), u6, u7, .func (.yield l) #[] #[], .agg #[.int .i64 ((N : Int)), .int .i64 x1, .int .i64 x2, .int .i64 x3, .int .i64 x4], .bool true, .bool false, .bool false, .pointer (some ⟨bx, 0, none⟩), .int .i64 N, .int .i64 k, u16, u17, .agg #[.int .i64 ((N : Int)), .int .i64 x1, .int .i64 x2, .int .i64 x3, .int .i64 x4], .pointer (some ⟨W3.heap.size, 0, none⟩), .int .i64 N, .int .i64 ((N : Int) + 1), .pointer (some ⟨W3.heap.size, 0, none⟩), .int .i64 t, .int .i64 j, u25, u26, u27, u28, u29, u30, u31, u32, u33, u34, u35, u36, u37, u38, u39, u40, u41], defers := ds.map kit.mark } ∧
        J (p :: flatJ t d p j) Z2 W5 ∧ Own5 W5 l bx bk bt W.heap.size W3.heap.size p (p ++ [c]) k t ∧ (∀ r, Z0 r ∨ r = W.heap.size ∨ r = W3.heap.size → Z2 r) ∧ ds.Nodup ∧ ∀ q ∈ ds, Z2 q ∧ W5.heap[q]? = some (.deferred (some [])))
      (fun A _ => t - (intOf (A.tmps.getD 24 undef)).toNat) ?start ?round
    case start => exact ⟨0, [], _, 0, _, _, _, _, _, _, _, _, _, _, _, _, _, _, _, _, _, _, _, _, _, by omega, rfl, J4, O4, fun r hr => hr.elim (fun h => .inl (.inl h)) (fun h => h.elim (fun h => .inl (.inr h)) (fun h => .inr h)), List.nodup_nil, fun q hq => by cases hq⟩
    case round =>
      clear J4 O4
      rintro A W5 ⟨j, ds, Z2, c, u6, u7, u16, u17, u25, u26, u27, u28, u29, u30, u31, u32, u33, u34, u35, u36, u37, u38, u39, u40, u41, hj, rfl, hJ5, hO, hz2, hnd, hds⟩
      by_cases hlt : j < t
      · obtain ⟨⟨y0, y1, y2, y3, y4⟩, hyy⟩ : ∃ y, pad5 (p ++ [(j : Int)]) = y := ⟨_, rfl⟩
        have hO6 : Own5 (W5.setCell ⟨W3.heap.size, 1 + N, none⟩ (.int .i64 j)) l bx bk bt W.heap.size W3.heap.size p (p ++ [(j : Int)]) k t := by
          refine ⟨?_, ?_, ?_, ?_, snoc_set hN hN4 hO.y _⟩
          · exact hO.x.other hBX _
          · exact hO.k.other hBK _
          · exact hO.t.other hBT _
          · exact hO.f.other hBF _
        have hJ6 := hJ.turn _ _ _ _ W3.heap.size hJ5 (hz2 _ (.inr (.inr rfl))) ((GB.refl W3.heap.size W5).set (1 + N) (.int .i64 j))
        have hds6 : ∀ q ∈ ds, Z2 q ∧ (W5.setCell ⟨W3.heap.size, 1 + N, none⟩ (.int .i64 j)).heap[q]? = some (.deferred (some [])) := fun q hq => ⟨(hds q hq).1, (Below.heap_setCell _ _ _ _ (fun e => by
          have h1 := (hds q hq).2
          have h2 : W5.heap[W3.heap.size]? = _ := hO.y
          rw [e, h2] at h1
          cases h1)).trans (hds q hq).2⟩
        have xx := hO.x
        rw [cellsL_eq hpp] at xx
        have s0 := xx.cell 0
        simp at s0
        have sf := hO.y.free (1 + N)
        obtain ⟨s1, hs1⟩ : ∃ v, W5.cell? ⟨W3.heap.size, 1 + N, none⟩ = some v := ⟨_, (hO.y.cell (1 + N)).trans (Array.getElem?_eq_getElem (by simp [cellsL]; omega))⟩
        have yy := hO6.y
        rw [cellsL_eq hyy] at yy
        obtain ⟨d0, d1, d2, d3, d4⟩ := yy.cell5
        have dk := hO6.k.cell 0
        have dt := hO6.t.cell 0
        simp at dk dt
        gi_wp2_with (gi_at_call 62; refine (from_in F (6 - 1) h62 hro y0 y1 y2 y3 y4 t k _).mono ?_; rintro e' w' ⟨rfl, rfl⟩)
        obtain ⟨W6, hW6⟩ : ∃ W6, W5.setCell ⟨W3.heap.size, 1 + N, none⟩ (.int .i64 j) = W6 := ⟨_, rfl⟩
        have hsz6 : W6.heap.size = W5.heap.size := by rw [← hW6]; simp
        rw [hW6] at hO6 hJ6 hds6 ⊢
        rw [← hsz6]
        clear hsz6 d0 d1 d2 d3 d4 dk dt yy s0 sf hs1 s1 xx hJ5 hO hds
        have hJ7 := hJ.claim _ _ _ (.cells #[.int .i64 k] 3) (hJ.claim _ _ _ (.cells #[.int .i64 t] 3) (hJ.claim _ _ _ (.cells #[.int .i64 y0, .int .i64 y1, .int .i64 y2, .int .i64 y3, .int .i64 y4] 25) hJ6))
        simp only [World.size_alloc] at hJ7
        have B1 := ((Box.new W6 25 #[.int .i64 y0, .int .i64 y1, .int .i64 y2, .int .i64 y3, .int .i64 y4]).alloc (.cells #[.int .i64 t] 3)).alloc (.cells #[.int .i64 k] 3)
        have B2 := (Box.new (W6.alloc (.cells #[.int .i64 y0, .int .i64 y1, .int .i64 y2, .int .i64 y3, .int .i64 y4] 25)) 3 #[.int .i64 t]).alloc (.cells #[.int .i64 k] 3)
        have B3 := Box.new ((W6.alloc (.cells #[.int .i64 y0, .int .i64 y1, .int .i64 y2, .int .i64 y3, .int .i64 y4] 25)).alloc (.cells #[.int .i64 t] 3)) 3 #[.int .i64 k]
        simp only [World.size_alloc] at B2 B3
        have zlt : ∀ r, Z2 r → r < W6.heap.size := fun r hr => hJ.size _ _ _ hJ6 r hr
        have hKZ : KeepZ Z2 W6 (((W6.alloc (.cells #[.int .i64 y0, .int .i64 y1, .int .i64 y2, .int .i64 y3, .int .i64 y4] 25)).alloc (.cells #[.int .i64 t] 3)).alloc (.cells #[.int .i64 k] 3)) := fun r hr => by
          have := zlt r hr
          exact (Below.heap_alloc _ _ r (by simp; omega)).trans ((Below.heap_alloc _ _ r (by simp; omega)).trans (Below.heap_alloc _ _ r this))
        obtain ⟨W7, hW7⟩ : ∃ W7, ((W6.alloc (.cells #[.int .i64 y0, .int .i64 y1, .int .i64 y2, .int .i64 y3, .int .i64 y4] 25)).alloc (.cells #[.int .i64 t] 3)).alloc (.cells #[.int .i64 k] 3) = W7 := ⟨_, rfl⟩
        have hsz7 : W7.heap.size = W6.heap.size + 3 := by rw [← hW7]; simp
        rw [hW7] at hJ7 B1 B2 B3 hKZ ⊢
        rw [← cellsL_eq hyy] at B1
        clear hW7 hW6
        -- what holds of the blocks that are this call's own
        obtain ⟨H, hHd⟩ : ∃ H : World → Prop, H = fun W' => Own5 W' l bx bk bt W.heap.size W3.heap.size p (p ++ [(j : Int)]) k t ∧ ∀ q ∈ ds, W'.heap[q]? = some (.deferred (some [])) := ⟨_, rfl⟩
        have hH : ∀ A B, H A → KeepZ Z2 A B → H B := fun A B h hk => by
          rw [hHd] at h ⊢
          exact ⟨h.1.same (fun r hr => hk r (by rcases hr with rfl | rfl | rfl | rfl | rfl; exact hz2 _ (.inl zx); exact hz2 _ (.inl zk); exact hz2 _ (.inl zt); exact hz2 _ (.inr (.inl rfl)); exact hz2 _ (.inr (.inr rfl)))), fun q hq => (hk q (hds6 q hq).1).trans (h.2 q hq)⟩
        have h7 : H W7 := hH W6 W7 (by rw [hHd]; exact ⟨hO6, fun q hq => (hds6 q hq).2⟩) hKZ
        have hlen : (p :: flatJ t d p j).length + (allL t d (p ++ [(j : Int)])).length ≤ (allL t (d + 1) p).length := by
          have e1 := flatJ_le t d p (j := j + 1) (i := t) (by omega)
          rw [flatJ_succ, List.length_append] at e1
          rw [allL_head, List.length_cons, List.length_cons]
          omega
        have hsub : flatJ t d p j ++ allL t d (p ++ [(j : Int)]) <+: flatJ t d p t := by rw [← flatJ_succ]; exact flatJ_pre t d p (by omega)
        have hE : ∀ r, (r = W7.heap.size ∨ r = W7.heap.size + 1) → ¬ Z2 r := fun r hr h => by have := zlt r h; omega
        refine wpIn_rangeFunc_ownZ hro (by omega) (gf := 70) (lb := #[.pointer (some ⟨W6.heap.size, 0, none⟩), .pointer (some ⟨W6.heap.size + 1 + 1, 0, none⟩), .pointer (some ⟨W6.heap.size + 1, 0, none⟩)]) rfl h70 (enters_of Tryd.func70 (by kernel_rfl) rfl)
          (encs := encL) (Z0 := fun r => r = W6.heap.size ∨ r = W6.heap.size + 1 ∨ r = W6.heap.size + 1 + 1) (S := fun xs => xs = allL t d (p ++ [(j : Int)])) (Sp := fun pre => pre <+: allL t d (p ++ [(j : Int)])) (N := (allL t d (p ++ [(j : Int)])).length)
          (R := fun W' => Box W' 25 W6.heap.size (cellsL (p ++ [(j : Int)])) ∧ Box W' 3 (W6.heap.size + 1 + 1) #[.int .i64 k] ∧ Box W' 3 (W6.heap.size + 1) #[.int .i64 t])
          (fun l' J' Jx' W' hR' hJ' hJx' hY' h0' => callsIn_any hd (IH 6 (p ++ [(j : Int)]) (by rw [List.length_append]; simp; omega) l' W6.heap.size (W6.heap.size + 1 + 1) (W6.heap.size + 1) J' Jx' _ hJ' hJx' (.inl rfl) (.inr (.inr rfl)) (.inr (.inl rfl)) _ hY' W' hR'.1 hR'.2.1 hR'.2.2 h0'))
          (fun o o' => ⟨(B1.alloc o).alloc o', (B3.alloc o).alloc o', (B2.alloc o).alloc o'⟩) (fun x => rfl) (fun r hr => by omega)
          (fun s Z W' => J (p :: flatJ t d p j ++ s) (fun r => Z2 r ∨ Z r ∨ (r = W7.heap.size ∨ r = W7.heap.size + 1)) W' ∧ H W' ∧ ∀ r, Z r → ¬ Z2 r)
          (fun c s Z W' => c = Code.ret ∧ Jx (p :: flatJ t d p j ++ s) (fun r => Z2 r ∨ Z r ∨ (r = W7.heap.size ∨ r = W7.heap.size + 1)) W' ∧ H W' ∧ ∀ r, Z r → ¬ Z2 r)
          (abz_inner hJ (fun s => p :: flatJ t d p j ++ s) Z2 _ H hH) (fun c => abz_pure (abz_inner hJx (fun s => p :: flatJ t d p j ++ s) Z2 _ H hH) _)
          (fun s Z W' k o o' h hk _ _ => inner_put hJ (fun s => p :: flatJ t d p j ++ s) Z2 _ H hH hE o' hk h)
          (fun c s Z W' k o o' h hk _ _ => ⟨h.1, inner_put hJx (fun s => p :: flatJ t d p j ++ s) Z2 _ H hH hE o' hk h.2⟩)
          (fun o o' => by
            have h8 := hJ.claim _ _ _ o' (hJ.claim _ _ _ o hJ7)
            rw [World.size_alloc] at h8
            refine ⟨?_, hH _ _ h7 (fun r hr => ?_), fun r hr h => ?_⟩
            · rw [List.append_nil]
              refine hJ.less _ _ _ _ h8 (fun r hr => ?_)
              rcases hr with h | (h | h | h) | (h | h)
              · exact .inl (.inl (.inl (.inl (.inl h))))
              · exact .inl (.inl (.inl (.inl (.inr h))))
              · exact .inl (.inl (.inl (.inr h)))
              · exact .inl (.inl (.inr h))
              · exact .inl (.inr h)
              · exact .inr h
            · have := zlt r hr
              exact (Below.heap_alloc _ _ r (by simp; omega)).trans (Below.heap_alloc _ _ r (by omega))
            · have := zlt r h; omega)
          (fun x a' W' => ∃ b7, Box W' 25 b7 (cellsL x) ∧ a' = { tmps := #[.func (.yield l) #[] #[], .pointer (some ⟨bx, 0, none⟩), .pointer (some ⟨bk, 0, none⟩), .pointer (some ⟨bt, 0, none⟩), .pointer (some ⟨W.heap.size, 0, none⟩), .pointer (some ⟨W3.heap.size, 0, none⟩), .int .i64 j, .pointer (some ⟨b7, 0, none⟩), .func (.yield l) #[] #[], .agg #[.int .i64 ((N : Int)), .int .i64 x1, .int .i64 x2, .int .i64 x3, .int .i64 x4], .bool true, .bool false, .bool false, .pointer (some ⟨bx, 0, none⟩), .int .i64 N, .int .i64 k, u16, u17, .agg #[.int .i64 ((N : Int)), .int .i64 x1, .int .i64 x2, .int .i64 x3, .int .i64 x4], .pointer (some ⟨W3.heap.size, 0, none⟩), .int .i64 N, .int .i64 ((N : Int) + 1), .pointer (some ⟨W3.heap.size, 0, none⟩), .int .i64 t, .int .i64 j, .bool true, .int .i64 j, .pointer (some ⟨bx, 0, none⟩), .int .i64 N, .int .i64 j, .pointer (some ⟨W3.heap.size, 1, none⟩), .pointer (some ⟨W3.heap.size, 1 + N, none⟩), .agg #[.int .i64 y0, .int .i64 y1, .int .i64 y2, .int .i64 y3, .int .i64 y4], .int .i64 t, .int .i64 k, .func (.func 70) #[] #[.pointer (some ⟨W6.heap.size, 0, none⟩), .pointer (some ⟨W6.heap.size + 1 + 1, 0, none⟩), .pointer (some ⟨W6.heap.size + 1, 0, none⟩)], (encL x).getD 0 undef, u37, u38, u39, u40, u41], defers := [] })
          ?hAx ?assign ?body ?done ?stop
        case hAx =>
          rintro x a' W' k' o o' ⟨b7, hb7, rfl⟩ hk hc
          refine ⟨b7, ?_, rfl⟩
          have hne : b7 ≠ k' := by
            rintro rfl
            have h2 : W'.heap[b7]? = _ := hb7
            rw [hk] at h2
            cases h2
            cases hc
          exact (World.putObj_heap_other hne).trans hb7
        case assign =>
          intro l1 pre x Z Wc K hi _ hK
          clear hsz7
          obtain ⟨⟨v0, v1, v2, v3, v4⟩, hv⟩ : ∃ y, pad5 x = y := ⟨_, rfl⟩
          have he := encL_eq hv
          have hcl := cellsL_eq hv
          rw [he]
          have hsz := fun r (h : Z r ∨ (r = W7.heap.size ∨ r = W7.heap.size + 1)) => hJ.size _ _ _ hi.1 r (.inr h)
          gi_wp2
          refine hK _ _ (fun r hr => Below.heap_alloc Wc _ r (hsz r hr)) ((abz_inner hJ (fun s => p :: flatJ t d p j ++ s) Z2 _ H hH).alloc _ hi) ⟨Wc.heap.size, ?_, ?_⟩
          · rw [hcl]; exact Box.new Wc _ _
          · rw [he]; rfl
        case body =>
          rintro l1 pre x a' Z Wc ⟨hJc, hHc, hdis⟩ ⟨b7, hb7, rfl⟩ hz hne hlt2 _ hln
          clear hsz7
          obtain ⟨⟨v0, v1, v2, v3, v4⟩, hv⟩ : ∃ y, pad5 x = y := ⟨_, rfl⟩
          have hOc : Own5 Wc l bx bk bt W.heap.size W3.heap.size p (p ++ [(j : Int)]) k t := by rw [hHd] at hHc; exact hHc.1
          obtain ⟨fn, tmps, assign, body, hy, hR⟩ := hY (p :: flatJ t d p j ++ pre) x _ Wc hJc (fun r hr => .inl (hz2 r (.inl hr))) (by rw [List.length_append]; omega)
          have he := encL_eq hv
          rw [he] at hy ⊢
          rw [cellsL_eq hv] at hb7
          obtain ⟨c0, c1, c2, c3, c4⟩ := hb7.cell5
          have cf := hOc.f.cell 0
          simp at cf
          have hR' : RoundIn (F.inRound l1) m Tryd.prog l fn tmps assign body Wc _ := hR
          clear hR
          gi_wp2
          refine RoundIn.mono (anyDepthR hd hR') ?_
          clear hR' hy c0 c1 c2 c3 c4 cf
          rintro e W9 (⟨rfl, hJ9, hk9⟩ | ⟨rfl, hJx9, hk9⟩)
          · gi_wp2
            exact ⟨fun r hr => hk9 r (.inr hr), by rw [← List.append_assoc]; exact hJ9, hH _ _ hHc (fun r hr => hk9 r (.inl hr)), hdis⟩
          · gi_wp2
            exact ⟨fun r hr => hk9 r (.inr hr), rfl, by rw [← List.append_assoc]; exact hJx9, hH _ _ hHc (fun r hr => hk9 r (.inl hr)), hdis⟩
        case done =>
          rintro xs W8 rfl ⟨hJ8, hH8, hd8⟩ hK8
          rw [hHd] at hH8
          have HS7 := Lib.hid hsz7
          clear hsz7
          gi_wp2
          refine ⟨⟨j + 1, by omega, W7.heap.size :: ds, ⟨by omega, rfl⟩, (fun r => Z2 r ∨ (r = W6.heap.size ∨ r = W6.heap.size + 1 ∨ r = W6.heap.size + 1 + 1) ∨ (r = W7.heap.size ∨ r = W7.heap.size + 1)), by rw [flatJ_succ]; exact hJ8, ⟨_, hH8.1⟩, fun r hr => .inl (hz2 r hr), List.nodup_cons.2 ⟨fun h => by have := zlt _ (hds6 _ h).1; have := HS7.out; omega, hnd⟩, fun q hq => ?_⟩, by simp [intOf]; omega⟩
          rcases List.mem_cons.1 hq with rfl | hq
          · exact ⟨.inr (.inr (.inl rfl)), hK8⟩
          · exact ⟨.inl (hds6 q hq).1, hH8.2 q hq⟩
        case stop =>
          rintro c pre W8 hpre ⟨rfl, hJ8, hH8, hd8⟩ hK8
          rw [hHd] at hH8
          have HS7 := Lib.hid hsz7
          clear hsz7
          gi_wp2
          refine leaves_marksG (G := fun w => Jx (p :: flatJ t d p j ++ pre) (fun r => Z2 r ∨ (r = W6.heap.size ∨ r = W6.heap.size + 1 ∨ r = W6.heap.size + 1 + 1) ∨ (r = W7.heap.size ∨ r = W7.heap.size + 1)) w) (fun w => results_none rfl _ _ _) (fun w hw => ⟨⟨_, rfl⟩, .inr ⟨_, ?p1, hJx.less _ _ _ _ hw (fun r hr => .inl (hz2 r (.inl hr)))⟩⟩) (W7.heap.size :: ds) W8 (List.nodup_cons.2 ⟨fun h => by have := zlt _ (hds6 _ h).1; have := HS7.out; omega, hnd⟩) (fun q hq => ?p2) (fun w q o' hq h => hJx.turn _ _ _ _ q h ?p3 (grownBy_putObj' w q o')) hJ8
          case p1 =>
            rw [allL_head, List.cons_append]
            exact List.cons_prefix_cons.2 ⟨rfl, (List.prefix_append_right_inj _ |>.2 hpre).trans hsub⟩
          case p2 =>
            rcases List.mem_cons.1 hq with rfl | hq
            · exact hK8
            · exact hH8.2 q hq
          case p3 =>
            rcases List.mem_cons.1 hq with rfl | hq
            · exact .inr (.inr (.inl rfl))
            · exact .inl (hds6 q hq).1
      · obtain rfl : j = t := by omega
        gi_wp2
        refine leaves_marksG (G := fun w => J (p :: flatJ j d p j) Z2 w) (fun w => results_none rfl _ _ _) (fun w hw => ⟨⟨_, rfl⟩, .inl ⟨_, (allL_head j d p).symm, hJ.less _ _ _ _ hw (fun r hr => hz2 r (.inl hr))⟩⟩) ds W5 hnd (fun q hq => (hds q hq).2) (fun w q o' hq h => hJ.turn _ _ _ _ q h (hds q hq).1 (grownBy_putObj' w q o')) hJ5
  · gi_wp2
    refine leaves_marksG (G := fun w => Jx ([] ++ [p]) (fun r => Z0 r ∨ r = W.heap.size) w) (fun w => results_none rfl _ _ _) (fun w hw => ⟨⟨_, rfl⟩, .inr ⟨_, ⟨_, rfl⟩, hJx.less _ _ _ _ hw (fun r hr => .inl hr)⟩⟩) [] W3 List.nodup_nil (by simp) (by simp) hJx3
theorem from1_any (F : Fence) (h62 : F.fn 62) (h70 : F.fn 70) (hro : F.round = none) (hd : F.depth = none) (k t : Nat) (ht : t ≤ 8) (hk : k ≤ 4) : ∀ (d n : Nat) (q : List Int), q.length + d = k → ∀ (l bx bk bt : Nat) (J Jx : List (List Int) → (Nat → Prop) → World → Prop) (Z0 : Nat → Prop), AbZ J → AbZ Jx → Z0 bx → Z0 bk → Z0 bt → ∀ m : Nat,
      (∀ pre x Z W1, J pre Z W1 → (∀ r, Z0 r → Z r) → pre.length < (allL t d q).length → YieldAt F m Tryd.prog l (encL x) W1 fun e W' => (e = .returned (.bool true) ∧ J (pre ++ [x]) Z W' ∧ KeepZ Z W1 W') ∨ (e = .returned (.bool false) ∧ Jx (pre ++ [x]) Z W' ∧ KeepZ Z W1 W')) →
      ∀ W : World, Box W 25 bx (cellsL q) → Box W 3 bk #[.int .i64 k] → Box W 3 bt #[.int .i64 t] → J [] Z0 W →
      CallsIn F n Tryd.prog 70 #[.func (.yield l) #[] #[], .pointer (some ⟨bx, 0, none⟩), .pointer (some ⟨bk, 0, none⟩), .pointer (some ⟨bt, 0, none⟩)] W fun e W' => (∃ v, e = .returned v) ∧
        ((∃ xs, xs = allL t d q ∧ J xs Z0 W') ∨ (∃ pre, pre <+: allL t d q ∧ Jx pre Z0 W')) := by
  intro d
  induction d with
  | zero =>
    intro n q hq l bx bk bt J Jx Z0 hJ hJx zx zk zt m hY W hX hK hT h0
    exact from1_zero F n h70 hro hd k t q (by omega) hk l bx bk bt J Jx Z0 hJ hJx zx zk zt m hY W hX hK hT h0
  | succ d ih =>
    intro n q hq l bx bk bt J Jx Z0 hJ hJx zx zk zt m hY W hX hK hT h0
    exact from1_succ F n h62 h70 hro hd k d t ht q hq hk l bx bk bt J Jx Z0 hJ hJx zx zk zt m hY W hX hK hT h0 ih
end Go.Proofs.YtddackdghphcnaaDoor.s13

namespace Go.Proofs.YtddackdghphcnaaDoor.s13
set_option linter.unusedVariables false
set_option linter.unusedSimpArgs false
open Go.RowKit
open kit

open Go.Shelf
attribute [local go_sem] Oper.semAt_some
/-- what the collecting loop says of the state: its variable, the row that grows, what it is no block of -/
def Coll (B b2 : Nat) (w0 : World) (pre : List (List Int)) (Z : Nat → Prop) (W : World) : Prop :=
  (∃ v, Box W 48 b2 #[v] ∧ W.ownsRow w0.heap.size 25 5 v pre.length (flat5 (pre.map pad5)) ∧ ∀ r, Z r → v.ownBlock ≠ some r) ∧ Below B w0 W ∧ w0.heap.size ≤ W.heap.size ∧ ∀ r, Z r → B ≤ r ∧ r ≠ b2 ∧ r < W.heap.size
theorem own_lt {W : World} {base size k : Nat} {E : TypeId} {v : Value} {xs : List Value} (h : W.ownsRow base E size v k xs) {g : Nat} (hg : v.ownBlock = some g) : g < W.heap.size ∧ ∃ cs t z, W.heap[g]? = some (.cells cs t z) := by
  rcases h.2 with ⟨rfl, _⟩ | ⟨g', cap, cur, rfl, _, hgb, _⟩
  · cases hg
  · obtain rfl : g' = g := by simpa [Value.ownBlock] using hg
    exact ⟨(Array.getElem?_eq_some_iff.1 hgb).1, _, _, _, hgb⟩
theorem coll_ab (B b2 : Nat) (w0 : World) (hB : B ≤ w0.heap.size) : AbZ (Coll B b2 w0) :=
  { size := fun s Z W h r hr => (h.2.2.2 r hr).2.2
    grown := fun s Z W W' ⟨⟨v, h1, h2, h3⟩, h4, h5, h6⟩ hg => ⟨⟨v, (grown_keep hg h1.lt (fun e => by cases e)).trans h1, h2.kept hg (by
        rcases e : v.ownBlock with _ | g
        · exact .inl rfl
        · exact .inr (fun e => by cases e)), h3⟩, h4.grown hg (Nat.le_trans hB h5) (fun j e => by cases e), Nat.le_trans h5 hg.size, fun r hr => ⟨(h6 r hr).1, (h6 r hr).2.1, Nat.lt_of_lt_of_le (h6 r hr).2.2 hg.size⟩⟩
    claim := fun s Z W o ⟨⟨v, h1, h2, h3⟩, h4, h5, h6⟩ => ⟨⟨v, h1.alloc o, h2.alloc o, fun r hr => by
        rcases hr with hr | rfl
        · exact h3 r hr
        · exact fun e => Nat.lt_irrefl _ (own_lt h2 e).1⟩, h4.alloc (Nat.le_trans hB h5) o, by simp; omega, fun r hr => by
        have := h1.lt
        rcases hr with hr | rfl
        · have := h6 r hr; simp; omega
        · simp; omega⟩
    turn := fun s Z W W' r ⟨⟨v, h1, h2, h3⟩, h4, h5, h6⟩ hr hg => ⟨⟨v, (grown_keep hg h1.lt (fun e => (h6 r hr).2.1 (by cases e; rfl))).trans h1, h2.kept hg (.inr (h3 r hr)), h3⟩, h4.grown hg (Nat.le_trans hB h5) (fun j e => by cases e; exact (h6 r hr).1), Nat.le_trans h5 hg.size, fun q hq => ⟨(h6 q hq).1, (h6 q hq).2.1, Nat.lt_of_lt_of_le (h6 q hq).2.2 hg.size⟩⟩
    less := fun s Z Z' W ⟨⟨v, h1, h2, h3⟩, h4, h5, h6⟩ hz => ⟨⟨v, h1, h2, fun r hr => h3 r (hz r hr)⟩, h4, h5, fun r hr => h6 r (hz r hr)⟩ }
theorem coll_put {B b2 : Nat} {w0 : World} {s : List (List Int)} {Z : Nat → Prop} {W : World} {k : Nat} {o : Obj} (o' : Obj) (hB : B ≤ k) (hk : W.heap[k]? = some o) (ho : o.isCells = false) (hw : B ≤ w0.heap.size) (h : Coll B b2 w0 s Z W) : Coll B b2 w0 s Z (W.putObj k o') := by
  obtain ⟨⟨v, h1, h2, h3⟩, h4, h5, h6⟩ := h
  have hg := grownBy_putObj' W k o'
  have hne : b2 ≠ k := by
    rintro rfl
    have e : W.heap[b2]? = _ := h1
    rw [hk] at e; cases e; cases ho
  exact ⟨⟨v, (World.putObj_heap_other hne).trans h1, ownsRow_putObj h2 o' hk ho, h3⟩, h4.grown hg (Nat.le_trans hw h5) (fun j e => by cases e; exact hB), Nat.le_trans h5 hg.size, fun q hq => ⟨(h6 q hq).1, (h6 q hq).2.1, Nat.lt_of_lt_of_le (h6 q hq).2.2 hg.size⟩⟩
theorem abz_false {β : Type} : AbZ (fun (_ : β) (_ : Nat → Prop) (_ : World) => False) := ⟨fun _ _ _ h => h.elim, fun _ _ _ _ h _ => h, fun _ _ _ _ h => h, fun _ _ _ _ _ h _ _ => h, fun _ _ _ _ h _ => h⟩
set_option maxRecDepth 100000 in
set_option maxHeartbeats 6000000 in
theorem appendseq_any (k t : Nat) (ht : t ≤ 8) (hk : k ≤ 4) (bx bk bt B : Nat) (w : World) (hB : B ≤ w.heap.size) (hX : Box w 25 bx (cellsL [])) (hK : Box w 3 bk #[.int .i64 k]) (hT : Box w 3 bt #[.int .i64 t]) (zx : B ≤ bx) (zk : B ≤ bk) (zt : B ≤ bt) (L : List (List Int)) (HL : Hid (allL t k [] = L)) (hlen : L.length ≤ 5000) :
    Calls Tryd.prog 69 #[.slice none 0 0, .func (.func 70) #[] #[.pointer (some ⟨bx, 0, none⟩), .pointer (some ⟨bk, 0, none⟩), .pointer (some ⟨bt, 0, none⟩)]] w fun e w' => ∃ a cp, e = .returned (.slice a L.length cp) ∧ Reads5 w' a (L.map pad5) ∧ Below B w w' := by
  obtain ⟨i0, hi, hz0, hz1, hz2⟩ := info_parts info5
  refine (callsIn_wide (n := 6)).1 ?_
  refine callsIn_of_wp_marks Tryd.func69 rfl trivial ?_ rfl
  simp only [Tryd.ntmps69, List.size_toArray, List.length_cons, List.length_nil, Nat.reduceAdd, Nat.reduceSub, Array.replicate_succ, Array.replicate_zero, List.push_toArray, List.append_toArray, List.nil_append, List.cons_append]
  gi_wp2
  obtain ⟨W0, hW0⟩ : ∃ W0, w.alloc (.cells #[.slice none 0 0] 48) = W0 := ⟨_, rfl⟩
  have hsz : W0.heap.size = w.heap.size + 1 := by rw [← hW0]; simp
  have X0 : Box W0 25 bx (cellsL []) := by rw [← hW0]; exact hX.alloc _
  have K0 : Box W0 3 bk #[.int .i64 k] := by rw [← hW0]; exact hK.alloc _
  have T0 : Box W0 3 bt #[.int .i64 t] := by rw [← hW0]; exact hT.alloc _
  have V0 : Box W0 48 w.heap.size #[.slice none 0 0] := by rw [← hW0]; exact Box.new w _ _
  have Bw : Below B w W0 := by rw [← hW0]; exact (Below.refl _ _).alloc hB _
  have lx := hX.lt
  have lk := hK.lt
  have lt := hT.lt
  rw [hW0]
  clear hW0 hX hK hT
  have hI0 : Coll B w.heap.size w [] (fun r => r = bx ∨ r = bk ∨ r = bt) W0 := ⟨⟨_, V0, World.ownsRow_nil _ _ _ _, fun r _ e => by cases e⟩, Bw, by omega, fun r hr => by rcases hr with rfl | rfl | rfl <;> exact ⟨by assumption, by omega, by omega⟩⟩
  refine wpIn_rangeFunc_ownZ (F := Fence.wide) rfl (by omega) (gf := 70) (lb := #[.pointer (some ⟨bx, 0, none⟩), .pointer (some ⟨bk, 0, none⟩), .pointer (some ⟨bt, 0, none⟩)]) rfl trivial (enters_of Tryd.func70 (by kernel_rfl) rfl)
    (encs := encL) (Z0 := fun r => r = bx ∨ r = bk ∨ r = bt) (S := fun xs => xs = allL t k []) (Sp := fun pre => pre <+: allL t k []) (N := (allL t k []).length)
    (R := fun W' => Box W' 25 bx (cellsL []) ∧ Box W' 3 bk #[.int .i64 k] ∧ Box W' 3 bt #[.int .i64 t])
    (fun l' J' Jx' W' hR' hJ' hJx' hY' h0' => from1_any Fence.wide trivial trivial rfl rfl k t ht hk k _ [] (by simp) l' bx bk bt J' Jx' _ hJ' hJx' (.inl rfl) (.inr (.inl rfl)) (.inr (.inr rfl)) _ hY' W' hR'.1 hR'.2.1 hR'.2.2 h0')
    (fun o o' => ⟨(X0.alloc o).alloc o', (K0.alloc o).alloc o', (T0.alloc o).alloc o'⟩) (fun x => rfl) (fun r hr => by omega)
    (Coll B w.heap.size w) (fun _ _ _ _ => False) (coll_ab B _ w hB) (fun _ => abz_false)
    (fun s Z W' k' o o' h hk' ho hc => coll_put o' (by omega) ho hc hB h) (fun _ _ _ _ _ _ _ h _ _ _ => h)
    (fun o o' => (coll_ab B _ w hB).alloc _ ((coll_ab B _ w hB).alloc _ hI0))
    (fun x a' W' => ∃ b5, Box W' 25 b5 (cellsL x) ∧ a' = { tmps := #[.slice none 0 0, .func (.func 70) #[] #[.pointer (some ⟨bx, 0, none⟩), .pointer (some ⟨bk, 0, none⟩), .pointer (some ⟨bt, 0, none⟩)], .pointer (some ⟨w.heap.size, 0, none⟩), undef, .slice none 0 0, .pointer (some ⟨b5, 0, none⟩), .func (.func 70) #[] #[.pointer (some ⟨bx, 0, none⟩), .pointer (some ⟨bk, 0, none⟩), .pointer (some ⟨bt, 0, none⟩)], (encL x).getD 0 undef, undef, undef, undef, undef, undef], defers := [] })
    ?hAx ?assign ?body ?done ?stop
  case hAx =>
    rintro x a' W' k' o o' ⟨b7, hb7, rfl⟩ hk hc
    refine ⟨b7, ?_, rfl⟩
    have hne : b7 ≠ k' := by
      rintro rfl
      have h2 : W'.heap[b7]? = _ := hb7
      rw [hk] at h2
      cases h2
      cases hc
    exact (World.putObj_heap_other hne).trans hb7
  case assign =>
    intro l1 pre x Z Wc K hi hlt1 hK
    have hlts : ∀ r, (Z r ∨ r = W0.heap.size ∨ r = W0.heap.size + 1) → r < Wc.heap.size := fun r hr => by
      rcases hr with hr | rfl | rfl
      · exact (hi.2.2.2 r hr).2.2
      · omega
      · omega
    obtain ⟨⟨v0, v1, v2, v3, v4⟩, hv⟩ : ∃ y, pad5 x = y := ⟨_, rfl⟩
    have he := encL_eq hv
    have hcl := cellsL_eq hv
    rw [he]
    clear hsz
    gi_wp2
    refine hK _ _ (fun r hr => Below.heap_alloc Wc _ r (hlts r hr)) ((coll_ab B _ w hB).alloc _ hi) ⟨Wc.heap.size, ?_, ?_⟩
    · rw [hcl]; exact Box.new Wc _ _
    · rw [he]; rfl
  case body =>
    rintro l1 pre x a' Z Wc ⟨⟨v, h1, h2, h3⟩, h4, h5, h6⟩ ⟨b5, hb5, rfl⟩ hz hne hlt2 hnc hln
    obtain ⟨⟨v0, v1, v2, v3, v4⟩, hv⟩ : ∃ y, pad5 x = y := ⟨_, rfl⟩
    have he := encL_eq hv
    rw [he]
    rw [cellsL_eq hv] at hb5
    obtain ⟨c0, c1, c2, c3, c4⟩ := hb5.cell5
    have lb5 := hb5.lt
    have cv := h1.cell 0
    simp at cv
    rw [HL.out] at hln
    clear hsz
    have hsrc : ∀ (i : Nat) (u : Value), (cells5 (v0, v1, v2, v3, v4))[i]? = some u → (Wc.alloc (.cells #[.int .i64 v0, .int .i64 v1, .int .i64 v2, .int .i64 v3, .int .i64 v4] 25)).cell? ((⟨Wc.heap.size, 0, none⟩ : Addr).add i) = some u := fun i u hu => by
      rw [Go.WideShapes.add_plain, Nat.zero_add, (Box.new Wc 25 #[.int .i64 v0, .int .i64 v1, .int .i64 v2, .int .i64 v3, .int .i64 v4]).cell i]
      simpa [cells5] using hu
    have hpl : (pre.length + 1) * 40 ≤ 140737488355328 := by omega
    have hpm : pre.length + 1 ≤ maxLen := by unfold maxLen; omega
    gi_wp2_with (gi_at_builtin; go_loud (refine wpListIn_append_own_at _ rfl (.tmp 8) (.tmp 10) 48 rfl w.heap.size 25 i0 (.agg #[.int .i64 0, .int .i64 0, .int .i64 0, .int .i64 0, .int .i64 0]) 5 40 Tryd.underlying48 hi hz0 hz1 hz2 rfl (by decide) v pre.length _ rfl (h2.alloc _) ⟨Wc.heap.size, 0, none⟩ 1 1 (cells5 (v0, v1, v2, v3, v4)) rfl rfl hsrc (by simp [cells5, Value.oneCell']) hpm hpl (by simp; omega) ?_); intro v' w1 hown' hgrow _ hblk; obtain ⟨g', cap', rfl⟩ := ownsRow_succ hown'; obtain ⟨hv1, hv2, hr2, hk2, hb2⟩ := Boxed.appended h1 (by decide) h2 h5 (Nat.le_refl _) hown' hgrow; have hc1 := hv1.cell; have hf1 := hv1.frozen)
    have hkeep : ∀ r, r < Wc.heap.size → v.ownBlock ≠ some r → r ≠ w.heap.size → (w1.setCell ⟨w.heap.size, 0, none⟩ (.slice (some ⟨g', 0, none⟩) (pre.length + 1) cap')).heap[r]? = Wc.heap[r]? := fun r hr ho hb =>
      (Below.heap_setCell _ _ _ _ hb).trans ((grown_keep hgrow (by simp; omega) (fun e => ho e.symm)).trans (Below.heap_alloc Wc _ r hr))
    have hncr : ∀ r, r = W0.heap.size ∨ r = W0.heap.size + 1 → r < Wc.heap.size ∧ v.ownBlock ≠ some r ∧ r ≠ w.heap.size := fun r hr => by
      obtain ⟨o, ho, hc⟩ := hnc r hr
      refine ⟨(Array.getElem?_eq_some_iff.1 ho).1, fun e => ?_, fun e => ?_⟩
      · obtain ⟨_, cs, t', z, h⟩ := own_lt h2 e
        rw [ho] at h; cases h; cases hc
      · have h : Wc.heap[w.heap.size]? = _ := h1
        rw [← e, ho] at h; cases h; cases hc
    refine ⟨fun r hr => ?_, ⟨_, hv2, ?_, fun r hr e => ?_⟩, h4.trans (hb2.mono hB), ?_, fun r hr => ⟨(h6 r hr).1, (h6 r hr).2.1, ?_⟩⟩
    · rcases hr with hr | hr
      · exact hkeep r (h6 r hr).2.2 (h3 r hr) (h6 r hr).2.1
      · obtain ⟨e1, e2, e3⟩ := hncr r hr
        exact hkeep r e1 e2 e3
    · rw [List.length_append, List.map_append, flat5_app, List.map_singleton, hv, flat5_one]
      exact hr2
    · rcases hblk with hb | hb
      · exact h3 r hr (hb ▸ e)
      · rw [hb] at e
        have e2 := (h6 r hr).2.2
        simp at e
        omega
    · exact Nat.le_trans h5 hb2.size
    · exact Nat.lt_of_lt_of_le (h6 r hr).2.2 hb2.size
  case done =>
    rintro xs W8 rfl ⟨⟨v, h1, h2, h3⟩, h4, h5, h6⟩ hK8
    rw [HL.out] at h2
    have cv := h1.cell 0
    simp at cv
    obtain ⟨a, cp, rfl⟩ : ∃ a cp, v = .slice a L.length cp := by
      rcases h2.2 with ⟨rfl, h0⟩ | ⟨g, cap, _, rfl, _⟩
      · exact ⟨none, 0, by rw [show L.length = 0 by omega]⟩
      · exact ⟨_, _, rfl⟩
    have hne : (Value.slice a L.length cp).ownBlock ≠ some W0.heap.size := fun e => by
      obtain ⟨_, cs, t', z, h⟩ := own_lt h2 e
      rw [hK8] at h; cases h
    have HSZ := Lib.hid hsz
    clear hsz
    gi_wp2
    refine leaves_marksG (G := fun W' => W'.ownsRow w.heap.size 25 5 (.slice a L.length cp) L.length (flat5 (L.map pad5)) ∧ Below B w W' ∧ w.heap.size ≤ W'.heap.size) (fun w => results_tmp rfl _ _ _) (fun w' hw => ⟨a, ⟨cp, rfl⟩, reads5_of_row (by simp) hw.1, hw.2.1⟩) [W0.heap.size] W8 (by simp) (fun q hq => by obtain rfl := List.mem_singleton.1 hq; exact hK8) (fun W' q o' hq h => by
      obtain rfl := List.mem_singleton.1 hq
      exact ⟨h.1.kept (grownBy_putObj' W' _ o') (.inr hne), h.2.1.grown (grownBy_putObj' W' _ o') (Nat.le_trans hB h.2.2) (fun j e => by cases e; have := HSZ.out; omega), Nat.le_trans h.2.2 (grownBy_putObj' W' W0.heap.size o').size⟩) ⟨h2, h4, h5⟩
  case stop =>
    rintro c pre W8 _ h _
    exact h.elim
set_option maxRecDepth 100000 in
set_option maxHeartbeats 2000000 in
theorem collect_any (k t : Nat) (ht : t ≤ 8) (hk : k ≤ 4) (bx bk bt B : Nat) (w : World) (hB : B ≤ w.heap.size) (hX : Hid (Box w 25 bx (cellsL []))) (hK : Hid (Box w 3 bk #[.int .i64 k])) (hT : Hid (Box w 3 bt #[.int .i64 t])) (zx : B ≤ bx) (zk : B ≤ bk) (zt : B ≤ bt) (L : List (List Int)) (HL : Hid (allL t k [] = L)) (hlen : L.length ≤ 5000) :
    Calls Tryd.prog 61 #[.func (.func 70) #[] #[.pointer (some ⟨bx, 0, none⟩), .pointer (some ⟨bk, 0, none⟩), .pointer (some ⟨bt, 0, none⟩)]] w fun e w' => ∃ a cp, e = .returned (.slice a L.length cp) ∧ Reads5 w' a (L.map pad5) ∧ Below B w w' := by
  go_enter Tryd.func61, Tryd.ntmps61
  go_wp2_with (go_at_call 69; refine (appendseq_any k t ht hk bx bk bt B _ hB hX.out hK.out hT.out zx zk zt L HL hlen).mono ?_; rintro e w1 ⟨a, cp, rfl, hR, hB1⟩)
  go_ret
  exact ⟨a, cp, rfl, hR, hB1⟩
end Go.Proofs.YtddackdghphcnaaDoor.s13

namespace Go.Proofs.YtddackdghphcnaaDoor.s13
set_option linter.unusedVariables false
set_option linter.unusedSimpArgs false
open Go.RowKit
open kit

theorem from_any (a b c d e t k : Int) (w : World) : Calls Tryd.prog 62 #[.agg #[.int .i64 a, .int .i64 b, .int .i64 c, .int .i64 d, .int .i64 e], .int .i64 t, .int .i64 k] w fun e' w' => e' = .returned (.func (.func 70) #[] #[.pointer (some ⟨w.heap.size, 0, none⟩), .pointer (some ⟨w.heap.size + 1 + 1, 0, none⟩), .pointer (some ⟨w.heap.size + 1, 0, none⟩)]) ∧ w' = ((w.alloc (.cells #[.int .i64 a, .int .i64 b, .int .i64 c, .int .i64 d, .int .i64 e] 25)).alloc (.cells #[.int .i64 t] 3)).alloc (.cells #[.int .i64 k] 3) :=
  (callsIn_wide (n := 6)).1 (from_in Fence.wide 6 trivial rfl a b c d e t k w)
set_option maxRecDepth 100000 in
set_option maxHeartbeats 2000000 in
theorem pall_terms (t k : Int) (w : World) (h : t < 1 ∨ 8 < t) : Calls Tryd.prog 35 #[.int .i64 t, .int .i64 k] w fun e w' => e = .returned (.tuple #[.slice none 0 0, .int .i64 2]) ∧ Below w.heap.size w w' := by
  go_enter Tryd.func35, Tryd.ntmps35
  go_wp2_with (go_at_call 50; refine (isterms_no t _ h).mono ?_; rintro e w1 ⟨rfl, rfl⟩)
  go_ret2
  exact ⟨rfl, Below.refl _ _⟩
set_option maxRecDepth 100000 in
set_option maxHeartbeats 2000000 in
theorem pall_len (t k : Int) (w : World) (h1 : 1 ≤ t) (h2 : t ≤ 8) (h : k < 0 ∨ 4 < k) : Calls Tryd.prog 35 #[.int .i64 t, .int .i64 k] w fun e w' => e = .returned (.tuple #[.slice none 0 0, .int .i64 2]) ∧ Below w.heap.size w w' := by
  go_enter Tryd.func35, Tryd.ntmps35
  go_wp2_with (first
    | (go_at_call 50; refine (isterms_yes t _ h1 h2).mono ?_; rintro e w1 ⟨rfl, rfl⟩)
    | (go_at_call 51; refine (islen_no k _ h).mono ?_; rintro e w1 ⟨rfl, rfl⟩))
  go_ret2
  exact ⟨rfl, Below.refl _ _⟩
set_option maxRecDepth 100000 in
set_option maxHeartbeats 4000000 in
theorem pall_ok (t k : Nat) (w : World) (h1 : 1 ≤ t) (h2 : t ≤ 8) (hk : k ≤ 4) (L : List (List Int)) (HL : Hid (allL t k [] = L)) : Calls Tryd.prog 35 #[.int .i64 t, .int .i64 k] w fun e w' => ∃ a cp, e = .returned (.tuple #[.slice a L.length cp, .int .i64 0]) ∧ Reads5 w' a (L.map pad5) ∧ Below w.heap.size w w' := by
  have t1 : (1 : Int) ≤ t := by omega
  have t2 : (t : Int) ≤ 8 := by omega
  have k1 : (0 : Int) ≤ k := by omega
  have k2 : (k : Int) ≤ 4 := by omega
  have hlen : Hid (L.length ≤ 5000) := Lib.hid (by
    have e1 := allL_len t k []
    have e2 := (cnt_le t t1 t2 k hk).2
    rw [HL.out] at e1
    omega)
  have X0 := Lib.hid (((Box.new w 25 #[.int .i64 0, .int .i64 0, .int .i64 0, .int .i64 0, .int .i64 0]).alloc (.cells #[.int .i64 t] 3)).alloc (.cells #[.int .i64 k] 3))
  have T0 := Lib.hid ((Box.new (w.alloc (.cells #[.int .i64 0, .int .i64 0, .int .i64 0, .int .i64 0, .int .i64 0] 25)) 3 #[.int .i64 t]).alloc (.cells #[.int .i64 k] 3))
  have K0 := Lib.hid (Box.new ((w.alloc (.cells #[.int .i64 0, .int .i64 0, .int .i64 0, .int .i64 0, .int .i64 0] 25)).alloc (.cells #[.int .i64 t] 3)) 3 #[.int .i64 k])
  have B0 := Lib.hid (((((Below.refl w.heap.size w).alloc (Nat.le_refl _) (.cells #[.int .i64 0, .int .i64 0, .int .i64 0, .int .i64 0, .int .i64 0] 25)).alloc (by simp) (.cells #[.int .i64 t] 3))).alloc (by simp; omega) (.cells #[.int .i64 k] 3))
  have hsz : Hid ((((w.alloc (.cells #[.int .i64 0, .int .i64 0, .int .i64 0, .int .i64 0, .int .i64 0] 25)).alloc (.cells #[.int .i64 t] 3)).alloc (.cells #[.int .i64 k] 3)).heap.size = w.heap.size + 3) := Lib.hid (by simp)
  have K0 : Hid (Box (((w.alloc (.cells #[.int .i64 0, .int .i64 0, .int .i64 0, .int .i64 0, .int .i64 0] 25)).alloc (.cells #[.int .i64 t] 3)).alloc (.cells #[.int .i64 k] 3)) 3 (w.heap.size + 1 + 1) #[.int .i64 k]) := Lib.hid (by have := K0.out; rwa [World.size_alloc, World.size_alloc] at this)
  have T0 : Hid (Box (((w.alloc (.cells #[.int .i64 0, .int .i64 0, .int .i64 0, .int .i64 0, .int .i64 0] 25)).alloc (.cells #[.int .i64 t] 3)).alloc (.cells #[.int .i64 k] 3)) 3 (w.heap.size + 1) #[.int .i64 t]) := Lib.hid (by have := T0.out; rwa [World.size_alloc] at this)
  obtain ⟨W7, hW7⟩ : ∃ W7, ((w.alloc (.cells #[.int .i64 0, .int .i64 0, .int .i64 0, .int .i64 0, .int .i64 0] 25)).alloc (.cells #[.int .i64 t] 3)).alloc (.cells #[.int .i64 k] 3) = W7 := ⟨_, rfl⟩
  have HW := Lib.hid hW7
  rw [hW7] at X0 T0 K0 B0 hsz
  have hf := from_any 0 0 0 0 0 t k w
  rw [hW7] at hf
  have hcl := Lib.hid (collect_any k t h2 hk w.heap.size (w.heap.size + 1 + 1) (w.heap.size + 1) w.heap.size W7 (by have := hsz.out; omega) (Lib.hid X0.out) K0 T0 (Nat.le_refl _) (by omega) (by omega) L HL hlen.out)
  have HF := Lib.hid hf
  clear hW7 hf
  go_enter Tryd.func35, Tryd.ntmps35
  go_wp2_with (first
    | (go_at_call 50; refine (isterms_yes t _ t1 t2).mono ?_; rintro e w1 ⟨rfl, rfl⟩)
    | (go_at_call 51; refine (islen_yes k _ k1 k2).mono ?_; rintro e w1 ⟨rfl, rfl⟩)
    | (go_at_call 62; refine HF.out.mono ?_; rintro e w1 ⟨rfl, rfl⟩)
    | (go_at_call 61; refine hcl.out.mono ?_; rintro e w2 ⟨a, cp, rfl, hR, hB⟩; have R2 := Lib.hid hR; have B2 := Lib.hid (B0.out.trans hB); clear hR hB))
  go_ret2
  exact ⟨a, cp, rfl, R2.out, B2.out⟩
/-- what All says -/
def allE (t k : Int) : List V5 × Int := if (t < 1 ∨ 8 < t) ∨ (k < 0 ∨ 4 < k) then ([], 2) else ((allL t.toNat k.toNat []).map pad5, 0)
theorem pall_any (t k : Int) (w : World) (L : List V5) (r : Int) (H : Hid (allE t k = (L, r))) : Calls Tryd.prog 35 #[.int .i64 t, .int .i64 k] w fun e w' => ∃ a cp, e = .returned (.tuple #[.slice a L.length cp, .int .i64 r]) ∧ Reads5 w' a L ∧ Below w.heap.size w w' := by
  have h := H.out
  unfold allE at h
  by_cases h1 : t < 1 ∨ 8 < t
  · rw [if_pos (.inl h1)] at h; cases h
    exact (pall_terms t k w h1).mono fun e w' ⟨e1, e2⟩ => ⟨none, 0, e1, Reads5.nil _ _, e2⟩
  · by_cases h2 : k < 0 ∨ 4 < k
    · rw [if_pos (.inr h2)] at h; cases h
      exact (pall_len t k w (by omega) (by omega) h2).mono fun e w' ⟨e1, e2⟩ => ⟨none, 0, e1, Reads5.nil _ _, e2⟩
    · rw [if_neg (by omega)] at h; cases h
      obtain ⟨T, rfl⟩ : ∃ T : Nat, t = T := ⟨t.toNat, by omega⟩
      obtain ⟨K, rfl⟩ : ∃ K : Nat, k = K := ⟨k.toNat, by omega⟩
      rw [Int.toNat_natCast, Int.toNat_natCast]
      refine (pall_ok T K w (by omega) (by omega) (by omega) _ (Lib.hid rfl)).mono ?_
      rintro e w' ⟨a, cp, e1, e2⟩
      exact ⟨a, cp, by rw [List.length_map]; exact e1, e2⟩
end Go.Proofs.YtddackdghphcnaaDoor.s13
