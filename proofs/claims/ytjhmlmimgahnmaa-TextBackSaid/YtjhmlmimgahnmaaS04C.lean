/-
  Layer 4: the next lexeme, and all of a text's (of no program).
-/
import Derived.Test.YtjhmlmimgahnmaaS04X
namespace Go.Proofs.Ytjhmlmimgahnmaa.s04
set_option linter.unusedVariables false
set_option linter.unusedSimpArgs false
open Go.RowKit
open kit

theorem passAt_ge (s : ByteArray) (k : Nat) : k ≤ passAt s k := by unfold passAt; omega
theorem passAt_le (s : ByteArray) (k : Nat) (h : k ≤ s.size) : passAt s k ≤ s.size := by
  unfold passAt
  have := passM_le (s.data.toList.drop k) false
  have e : (s.data.toList.drop k).length = s.size - k := by simp
  omega
theorem begR_le (s : ByteArray) (h : 0 < s.size) : (begR s).2 ≤ s.size := by
  unfold begR
  split
  · simp; omega
  · split
    · exact run_le _ _ _ h
    · split
      · split
        · simp
        · exact run_le _ _ _ h
      · simp
/-- a lexeme: its kind, its text, its place -/
abbrev Lx := Nat × ByteArray × Nat
abbrev lexV (x : Lx) : Value := .agg #[.int .i64 (x.1 : Int), .string x.2.1, .int .i64 (x.2.2 : Int)]
/-- the lexeme that begins at k -/
def lexAt (s : ByteArray) (k : Nat) : Lx := ((begR (s.extract k s.size)).1, (s.extract k s.size).extract 0 (begR (s.extract k s.size)).2, k)
def noLx : Lx := (0, ByteArray.empty, 0)
/-- the next lexeme behind a place: the lexeme, where it ends, the fault and its place -/
def nextR (s : ByteArray) (i : Int) : Lx × Nat × Nat × Nat :=
  if i < 0 ∨ (s.size : Int) < i then (noLx, 0, 2, 0)
  else if passAt s i.toNat = s.size then (noLx, 0, 5, passAt s i.toNat)
  else if (lexAt s (passAt s i.toNat)).1 = 0 then (noLx, 0, 3, passAt s i.toNat)
  else (lexAt s (passAt s i.toNat), passAt s i.toNat + (lexAt s (passAt s i.toNat)).2.1.size, 0, 0)
theorem nextret {x x' : Lx} {n n' e e' a a' : Nat} (h : (x', n', e', a') = (x, n, e, a)) : Ending.returned (.tuple #[.agg #[.int .i64 (x.1 : Int), .string x.2.1, .int .i64 (x.2.2 : Int)], .int .i64 (n : Int), .agg #[.int .i64 (e : Int), .int .i64 (a : Int)]]) = .returned (.tuple #[lexV x', .int .i64 n', .agg #[.int .i64 (e' : Int), .int .i64 (a' : Int)]]) := by
  simp only [Prod.mk.injEq] at h
  obtain ⟨rfl, rfl, rfl, rfl⟩ := h
  rfl
theorem Box.new2 (w : World) (o : Obj) (t : TypeId) (xs : Array Value) : Box ((w.alloc o).alloc (.cells xs t)) t (w.heap.size + 1) xs := by
  have h := Box.new (w.alloc o) t xs
  rwa [show (w.alloc o).heap.size = w.heap.size + 1 from Array.size_push ..] at h
theorem lt_two {w w2 : World} {o o' : Obj} (h : Below ((w.alloc o).alloc o').heap.size ((w.alloc o).alloc o') w2) : w.heap.size + 1 < w2.heap.size := by
  have := h.size
  have e : ((w.alloc o).alloc o').heap.size = w.heap.size + 1 + 1 := (Array.size_push ..).trans (congrArg (· + 1) (Array.size_push ..))
  omega
theorem below_two {w w2 : World} {o o' : Obj} (h : Below ((w.alloc o).alloc o').heap.size ((w.alloc o).alloc o') w2) : Below w.heap.size w w2 := below_alloc_then (Below.refl _ _) (below_alloc_then (Below.refl _ _) h)
theorem next_results (tm : Array Value) (W : World) (b1 b2 : Nat) {x y z u v n : Value} (h4 : tm.getD 4 undef = .pointer (some ⟨b1, 0, none⟩)) (h5 : tm.getD 5 undef = n) (h6 : tm.getD 6 undef = .pointer (some ⟨b2, 0, none⟩))
    (X : Box W 31 b1 #[x, y, z]) (Y : Box W 26 b2 #[u, v]) : (results Try.f12 tm).run Try.prog W = .ok (.tuple #[.agg #[x, y, z], n, .agg #[u, v]]) W := by
  obtain ⟨c0, c1, c2⟩ := X.cell3
  obtain ⟨d0, d1⟩ := Y.cell2
  simp only [Array.getD_eq_getD_getElem?] at h4 h5 h6
  simp [results, Try.results12, go_sem, h4, h5, h6, c0, c1, c2, d0, d1]
theorem Box.drew {w : World} {t : TypeId} {b : Nat} {xs : Array Value} (h : Box w t b xs) : Box w.drew t b xs := h
set_option maxRecDepth 100000 in
set_option maxHeartbeats 2000000 in
theorem next_any (s : ByteArray) (i : Int) (w : World) (h1 : -9223372036854775808 ≤ i) (h2 : i ≤ 9223372036854775807) (hs : s.size ≤ 9223372036854775806)
    (x : Lx) (n er a : Nat) (H : Hid (nextR s i = (x, n, er, a))) :
    Calls Try.prog 12 #[.string s, .int .i64 i] w fun e w' => e = .returned (.tuple #[lexV x, .int .i64 n, .agg #[.int .i64 (er : Int), .int .i64 (a : Int)]]) ∧ Below w.heap.size w w' := by
  have HS := Lib.hid hs
  by_cases hneg : i < 0
  · have HX : Hid ((x, n, er, a) = (noLx, 0, 2, 0)) := Lib.hid (by rw [← H.out]; unfold nextR; rw [if_pos (Or.inl hneg)])
    go_enter Try.func12, Try.ntmps12
    go_wp2
    refine bodyPost_ret (v := .tuple #[.agg #[.int .i64 (0 : Nat), .string ByteArray.empty, .int .i64 (0 : Nat)], .int .i64 ((0 : Nat) : Int), .agg #[.int .i64 ((2 : Nat) : Int), .int .i64 ((0 : Nat) : Int)]]) (by simp [results, Try.results12, go_sem]; first | rfl | done) rfl ⟨nextret (x := noLx) (by rw [HX.out]), ((Below.refl _ _).alloc (Nat.le_refl _) _).alloc (by simp) _⟩
  · by_cases hbig : (s.size : Int) < i
    · have HX : Hid ((x, n, er, a) = (noLx, 0, 2, 0)) := Lib.hid (by rw [← H.out]; unfold nextR; rw [if_pos (Or.inr hbig)])
      go_enter Try.func12, Try.ntmps12
      go_wp2
      refine bodyPost_ret (v := .tuple #[.agg #[.int .i64 (0 : Nat), .string ByteArray.empty, .int .i64 (0 : Nat)], .int .i64 ((0 : Nat) : Int), .agg #[.int .i64 ((2 : Nat) : Int), .int .i64 ((0 : Nat) : Int)]]) (by simp [results, Try.results12, go_sem]; first | rfl | done) rfl ⟨nextret (x := noLx) (by rw [HX.out]), ((Below.refl _ _).alloc (Nat.le_refl _) _).alloc (by simp) _⟩
    · obtain ⟨m, rfl⟩ : ∃ m : Nat, i = m := ⟨i.toNat, by omega⟩
      have hm : m ≤ s.size := by omega
      obtain ⟨k, hk⟩ : ∃ k, k = passAt s m := ⟨_, rfl⟩
      have hk1 : k ≤ s.size := by rw [hk]; exact passAt_le s m hm
      have HK := Lib.hid hk
      have HN : Hid ((x, n, er, a) = if k = s.size then (noLx, 0, 5, k) else if (lexAt s k).1 = 0 then (noLx, 0, 3, k) else (lexAt s k, k + (lexAt s k).2.1.size, 0, 0)) := Lib.hid (by rw [← H.out]; unfold nextR; rw [if_neg (by omega), show ((m : Int)).toNat = m from by omega, ← hk])
      clear hk
      by_cases hend : k = s.size
      · have HX : Hid ((x, n, er, a) = (noLx, 0, 5, k)) := Lib.hid (by rw [HN.out, if_pos hend])
        clear HN
        have tend : ((k : Int) == (s.size : Int)) = true := by rw [beq_iff_eq]; omega
        clear hend
        go_enter Try.func12, Try.ntmps12
        go_wp2_with (go_at_call 23; refine (pass_any s m _ hm hs).mono ?_; rintro e w1 ⟨rfl, rfl⟩; rw [← HK.out])
        refine bodyPost_ret (v := .tuple #[.agg #[.int .i64 (0 : Nat), .string ByteArray.empty, .int .i64 (0 : Nat)], .int .i64 ((0 : Nat) : Int), .agg #[.int .i64 ((5 : Nat) : Int), .int .i64 (k : Int)]]) (by simp [results, Try.results12, go_sem]; first | rfl | done) rfl ⟨nextret (x := noLx) (by rw [HX.out]), ((Below.refl _ _).alloc (Nat.le_refl _) _).alloc (by simp) _⟩
      · have tend : ((k : Int) == (s.size : Int)) = false := by rw [beq_eq_false_iff_ne]; omega
        have hlt : k < s.size := by omega
        have hsz : (s.extract k s.size).size = s.size - k := by simp
        have HX : Hid ((x, n, er, a) = if (lexAt s k).1 = 0 then (noLx, 0, 3, k) else (lexAt s k, k + (lexAt s k).2.1.size, 0, 0)) := Lib.hid (by rw [HN.out, if_neg hend])
        obtain ⟨kd, hkd⟩ : ∃ kd, kd = (begR (s.extract k s.size)).1 := ⟨_, rfl⟩
        obtain ⟨tx, htx⟩ : ∃ tx, tx = (s.extract k s.size).extract 0 (begR (s.extract k s.size)).2 := ⟨_, rfl⟩
        have HL : Hid (lexAt s k = (kd, tx, k)) := Lib.hid (by unfold lexAt; rw [← hkd, ← htx])
        have htl : tx.size ≤ s.size - k := by
          have := begR_le (s.extract k s.size) (by omega)
          rw [htx]; simp; omega
        have HD := Lib.hid hkd
        have HT := Lib.hid htx
        have HB : Hid (0 < (s.extract k s.size).size ∧ (s.extract k s.size).size ≤ 9223372036854775806) := Lib.hid (by omega)
        clear hkd htx hend HN hsz
        by_cases hkz : kd = 0
        · have HX := Lib.hid (show (x, n, er, a) = (noLx, 0, 3, k) by rw [HX.out, HL.out, if_pos hkz])
          have tz : ((kd : Int) == 0) = true := by rw [beq_iff_eq]; omega
          clear hkz
          go_enter Try.func12, Try.ntmps12
          go_wp2_with (first
            | (go_at_call 23; refine (pass_any s m _ hm hs).mono ?_; rintro e w1 ⟨rfl, rfl⟩; rw [← HK.out])
            | (go_at_call 24; refine (begins_any (s.extract k s.size) _ HB.out.1 HB.out.2).mono ?_; rintro e w2 ⟨rfl, hB2⟩; rw [← HD.out, ← HT.out];
                have BX := Lib.hid ((((Box.new w 31 #[.int .i64 0, .string ⟨#[]⟩, .int .i64 0]).alloc (.cells #[.int .i64 0, .int .i64 0] 26)).below hB2).alloc (.cells #[.int .i64 (kd : Int), .string tx, .int .i64 0] 31));
                have BF := Lib.hid (((Box.new2 w (.cells #[.int .i64 0, .string ⟨#[]⟩, .int .i64 0] 31) 26 #[.int .i64 0, .int .i64 0]).below hB2).alloc (.cells #[.int .i64 (kd : Int), .string tx, .int .i64 0] 31));
                have BL := Lib.hid (Box.new w2 31 #[.int .i64 (kd : Int), .string tx, .int .i64 0]);
                have hlt2 : w.heap.size + 1 < w2.heap.size := lt_two hB2;
                obtain ⟨cx0, cx1, cx2⟩ := BX.out.cell3; obtain ⟨fx0, fx1, fx2⟩ := BX.out.free3; obtain ⟨cf0, cf1⟩ := BF.out.cell2; obtain ⟨ff0, ff1⟩ := BF.out.free2))
          have RX : Box _ 31 w.heap.size #[.int .i64 0, .string ⟨#[]⟩, .int .i64 0] := ((((BX.out.set 0 (by decide) (.int .i64 0)).set 1 (by decide) (.string ⟨#[]⟩)).set 2 (by decide) (.int .i64 0)).other (b' := w.heap.size + 1) (i := 0) (by omega) (.int .i64 3)).other (b' := w.heap.size + 1) (i := 1) (by omega) (.int .i64 (k : Int))
          have RF : Box _ 26 (w.heap.size + 1) #[.int .i64 3, .int .i64 (k : Int)] := ((((BF.out.other (b' := w.heap.size) (i := 0) (by omega) (.int .i64 0)).other (b' := w.heap.size) (i := 1) (by omega) (.string ⟨#[]⟩)).other (b' := w.heap.size) (i := 2) (by omega) (.int .i64 0)).set 0 (by decide) (.int .i64 3)).set 1 (by decide) (.int .i64 (k : Int))
          refine bodyPost_ret (next_results _ _ w.heap.size (w.heap.size + 1) rfl rfl rfl RX RF) rfl ⟨nextret (x := noLx) (n := (0 : Nat)) (e := (3 : Nat)) (a := k) (by rw [HX.out]), ?_⟩
          iterate 5 refine Below.setCell ?_ (by first | exact Nat.le_refl _ | exact Nat.le_succ _) _
          exact (below_two hB2).alloc (below_two hB2).size _
        · have HX := Lib.hid (show (x, n, er, a) = ((kd, tx, k), k + tx.size, 0, 0) by rw [HX.out, HL.out, if_neg hkz])
          have tz : ((kd : Int) == 0) = false := by rw [beq_eq_false_iff_ne]; omega
          clear hkz
          go_enter Try.func12, Try.ntmps12
          go_wp2_with (first
            | (go_at_call 23; refine (pass_any s m _ hm hs).mono ?_; rintro e w1 ⟨rfl, rfl⟩; rw [← HK.out])
            | (go_at_call 24; refine (begins_any (s.extract k s.size) _ HB.out.1 HB.out.2).mono ?_; rintro e w2 ⟨rfl, hB2⟩; rw [← HD.out, ← HT.out];
                have BX := Lib.hid ((((Box.new w 31 #[.int .i64 0, .string ⟨#[]⟩, .int .i64 0]).alloc (.cells #[.int .i64 0, .int .i64 0] 26)).below hB2).alloc (.cells #[.int .i64 (kd : Int), .string tx, .int .i64 (k : Int)] 31));
                have BF := Lib.hid (((Box.new2 w (.cells #[.int .i64 0, .string ⟨#[]⟩, .int .i64 0] 31) 26 #[.int .i64 0, .int .i64 0]).below hB2).alloc (.cells #[.int .i64 (kd : Int), .string tx, .int .i64 (k : Int)] 31));
                have BL := Lib.hid (Box.new w2 31 #[.int .i64 (kd : Int), .string tx, .int .i64 (k : Int)]);
                have hlt2 : w.heap.size + 1 < w2.heap.size := lt_two hB2;
                obtain ⟨cx0, cx1, cx2⟩ := BX.out.cell3; obtain ⟨fx0, fx1, fx2⟩ := BX.out.free3; obtain ⟨cf0, cf1⟩ := BF.out.cell2; obtain ⟨ff0, ff1⟩ := BF.out.free2))
          go_region
          go_wp2
          have RX : Box _ 31 w.heap.size #[.int .i64 (kd : Int), .string tx, .int .i64 (k : Int)] := ((((BX.out.set 0 (by simp) (.int .i64 (kd : Int))).set 1 (by simp) (.string tx)).set 2 (by simp) (.int .i64 (k : Int))).other (b' := w.heap.size + 1) (i := 0) (by omega) (.int .i64 0)).other (b' := w.heap.size + 1) (i := 1) (by omega) (.int .i64 0)
          have RF : Box _ 26 (w.heap.size + 1) #[.int .i64 0, .int .i64 0] := ((((BF.out.other (b' := w.heap.size) (i := 0) (by omega) (.int .i64 (kd : Int))).other (b' := w.heap.size) (i := 1) (by omega) (.string tx)).other (b' := w.heap.size) (i := 2) (by omega) (.int .i64 (k : Int))).set 0 (by simp) (.int .i64 0)).set 1 (by simp) (.int .i64 0)
          refine bodyPost_ret (next_results _ _ w.heap.size (w.heap.size + 1) rfl rfl rfl RX.drew RF.drew) rfl ⟨nextret (x := (kd, tx, k)) (n := k + tx.size) (e := 0) (a := 0) (by rw [HX.out]), ?_⟩
          refine Below.drew ?_
          iterate 5 refine Below.setCell ?_ (by first | exact Nat.le_refl _ | exact Nat.le_succ _) _
          exact (below_two hB2).alloc (below_two hB2).size _
end Go.Proofs.Ytjhmlmimgahnmaa.s04
