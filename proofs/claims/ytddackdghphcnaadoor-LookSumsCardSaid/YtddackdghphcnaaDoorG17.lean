/-
  Layer 13: sums, plain; the fields of a look; the law of the sums. What the listed variables give: a start that meets the condition; the table of 64 numbers that the library reads.
-/
import Derived.Test.YtddackdghphcnaaDoorG16
import Derived.Deep.RegionWith
import Derived.Deep.DeepMust
import Derived.Test.YtddackdghphcnaaDoorTie
import Derived.Test.YtddackdghphcnaaDoorG10
import Derived.ProofKit
import Derived.LaidMore
import Derived.Stop.LaidErr
namespace Go.Proofs.YtddackdghphcnaaDoor.s13
set_option linter.unusedVariables false
set_option linter.unusedSimpArgs false
set_option linter.unnecessarySimpa false
open Go.RowKit
open kit

theorem field0 (g : Nat) (w : World) : (Instr.fieldAt 25 (.pointer (some ⟨g, 0, none⟩)) 0).run Tryd.prog w = .ok (.pointer (some ⟨g, 0, none⟩)) w := by simp [go_sem]
theorem load0 {w : World} {g : Nat} {n a b c d : Int} (h : Box w 25 g #[.int .i64 n, .int .i64 a, .int .i64 b, .int .i64 c, .int .i64 d]) : (Instr.loadAt 3 (.pointer (some ⟨g, 0, none⟩))).run Tryd.prog w = .ok (.int .i64 n) w := by
  have z := h.cell 0
  simp at z
  simp [go_sem, z]
theorem min_run (k n r : Int) (h : min k n = r) (ty : TypeId) (w : World) : (Builtin.min_ #[3, 3] ty #[.int .i64 k, .int .i64 n]).run Tryd.prog w = .ok (.int .i64 r) w := by
  subst h
  simp [go_sem]
theorem add_run (x y r : Int) (h : x + y = r) (h1 : 0 ≤ r) (h2 : r ≤ 100) (w : World) : (binOp .add 3 (.int .i64 x) (.int .i64 y)).run Tryd.prog w = .ok (.int .i64 r) w := by
  subst h
  have e : IntKind.i64.wrap (x + y) = x + y := IntWalk.i64_in _ (by omega)
  simp [go_sem, e]
theorem int_self (r : Int) (W : World) : (binOp .eql 3 (.int .i64 r) (.int .i64 r)).run Tryd.prog W = .ok (.bool true) W := by simp [go_sem]
theorem ok_take {l : List Int} (h : ∀ x ∈ l, 0 ≤ x ∧ x < 3) {k : Nat} (hk : k ≤ 4) : okL 3 (l.take k) := ⟨by rw [List.length_take]; omega, fun x hx => h x (List.mem_of_mem_take hx)⟩
theorem ok_app {l m : List Int} (h : okL 3 l) (k : okL 3 m) : ∀ x ∈ l ++ m, 0 ≤ x ∧ x < 3 := fun x hx => by
  rcases List.mem_append.1 hx with hx | hx
  · exact h.2 x hx
  · exact k.2 x hx
theorem joinE_ok {l m : List Int} (h : okL 3 l) (q : okL 3 m) {n a b c d n' a' b' c' d' : Int} (hp : pad5 l = (n, a, b, c, d)) (kp : pad5 m = (n', a', b', c', d')) {k : Nat} (k1 : 1 ≤ k) (k2 : k ≤ 4) : joinE (k : Int) (n, a, b, c, d) (n', a', b', c', d') = (pad5 ((l ++ m).take k), 0) := by
  unfold joinE
  simp only
  rw [if_neg (by rw [both_ok h q hp kp]; simp), if_neg (by omega), lst_of h.1 hp, lst_of q.1 kp, Int.toNat_natCast]
theorem cutE_ok {l : List Int} (h : okL 3 l) {n a b c d : Int} (hp : pad5 l = (n, a, b, c, d)) {k : Nat} (k2 : k ≤ 4) : cutE (n, a, b, c, d) (k : Int) = (pad5 (l.take k), 0) := by
  unfold cutE
  simp only
  rw [if_neg (by rw [ok_chk h hp]; simp), if_neg (by omega), lst_of h.1 hp, Int.toNat_natCast]
theorem take_app1 (l m : List Int) (k : Nat) : (l.take k ++ m).take k = (l ++ m).take k := by
  rw [List.take_append, List.take_append, List.take_take, Nat.min_self]
  by_cases e : l.length ≤ k
  · rw [List.length_take, Nat.min_eq_right e]
  · rw [List.length_take, Nat.min_eq_left (by omega), Nat.sub_self, show k - l.length = 0 by omega]
theorem take_app2 (l m : List Int) (k : Nat) : (l ++ m.take k).take k = (l ++ m).take k := by
  rw [List.take_append, List.take_append, List.take_take, Nat.min_eq_left (by omega)]
set_option maxRecDepth 100000 in
set_option maxHeartbeats 8000000 in
theorem looksums_any (a b c n : Int) (w : World) (hT : Hid (Tab w)) (a1 : -9223372036854775808 ≤ a) (a2 : a ≤ 9223372036854775807) (b1 : -9223372036854775808 ≤ b) (b2 : b ≤ 9223372036854775807) (c1 : -9223372036854775808 ≤ c) (c2 : c ≤ 9223372036854775807) (n1 : -9223372036854775808 ≤ n) (n2 : n ≤ 9223372036854775807) :
    Calls Tryd.prog 8 #[.int .i64 a, .int .i64 b, .int .i64 c, .int .i64 n] w fun e w' => e = .returned (.bool true) ∧ Below w.heap.size w w' := by
  go_enter Tryd.func8, Tryd.ntmps8
  go_wp2_with fail
  refine (lookknown_any _ hT).mono ?_
  rintro e w1 ⟨rfl, hB⟩
  have B1 := Lib.hid hB
  clear hB
  go_wp2_with fail
  refine (lmade_any a _ a1 a2).mono ?_
  rintro e w2 ⟨l, x0, x1, x2, x3, x4, hl, hlp, rfl, hB⟩
  have Hl := Lib.hid hl
  have HlP := Lib.hid hlp
  have B2 := Lib.hid (below_on B1.out (Nat.le_refl _) hB)
  clear hB hl hlp
  go_wp2_with fail
  refine (lmade_any b _ b1 b2).mono ?_
  rintro e w3 ⟨m, y0, y1, y2, y3, y4, hl, hlp, rfl, hB⟩
  have Hm := Lib.hid hl
  have HmP := Lib.hid hlp
  have B3 := Lib.hid (below_on B2.out (Nat.le_refl _) hB)
  clear hB hl hlp
  go_wp2_with fail
  refine (lmade_any c _ c1 c2).mono ?_
  rintro e w4 ⟨o, u0, u1, u2, u3, u4, hl, hlp, rfl, hB⟩
  have Ho := Lib.hid hl
  have HoP := Lib.hid hlp
  have B4 := Lib.hid (below_on B3.out (Nat.le_refl _) hB)
  clear hB hl hlp
  obtain ⟨k0, hk0⟩ : ∃ k0 : Nat, n % 4 = k0 := ⟨(n % 4).toNat, by have := Int.emod_nonneg n (show (4 : Int) ≠ 0 by decide); omega⟩
  have hk3 : k0 ≤ 3 := by have := Int.emod_lt_of_pos n (show (0 : Int) < 4 by decide); omega
  have HMO := fun W => mod_any n 4 n1 n2 (by omega) (by omega) W
  rw [hk0] at HMO
  clear hk0
  go_wp2_with fail
  refine (HMO _).mono ?_
  rintro e w5 ⟨rfl, rfl⟩
  clear HMO
  go_wp2_with fail
  obtain ⟨kk, hkk⟩ : ∃ kk : Int, 1 + (k0 : Int) = kk := ⟨_, rfl⟩
  have hkn : ((k0 + 1 : Nat) : Int) = kk := by omega
  rw [hkk]
  obtain ⟨⟨p0, p1, p2, p3, p4⟩, hpP⟩ : ∃ y, pad5 ((l ++ m).take (k0 + 1)) = y := ⟨_, rfl⟩
  obtain ⟨⟨r0, r1, r2, r3, r4⟩, hrP⟩ : ∃ y, pad5 ((m ++ o).take (k0 + 1)) = y := ⟨_, rfl⟩
  obtain ⟨⟨s0, s1, s2, s3, s4⟩, hsP⟩ : ∃ y, pad5 ((l ++ m ++ o).take (k0 + 1)) = y := ⟨_, rfl⟩
  obtain ⟨⟨q0, q1, q2, q3, q4⟩, hqP⟩ : ∃ y, pad5 (l.take (k0 + 1)) = y := ⟨_, rfl⟩
  have okp := ok_take (ok_app Hl.out Hm.out) (k := k0 + 1) (by omega)
  have okr := ok_take (ok_app Hm.out Ho.out) (k := k0 + 1) (by omega)
  have okq := ok_take Hl.out.2 (k := k0 + 1) (by omega)
  have J1 : Hid (joinE kk (x0, x1, x2, x3, x4) (y0, y1, y2, y3, y4) = ((p0, p1, p2, p3, p4), 0)) := Lib.hid (by rw [← hkn, joinE_ok Hl.out Hm.out HlP.out HmP.out (by omega) (by omega), hpP])
  have J2 : Hid (joinE kk (y0, y1, y2, y3, y4) (u0, u1, u2, u3, u4) = ((r0, r1, r2, r3, r4), 0)) := Lib.hid (by rw [← hkn, joinE_ok Hm.out Ho.out HmP.out HoP.out (by omega) (by omega), hrP])
  have J3 : Hid (joinE kk (p0, p1, p2, p3, p4) (u0, u1, u2, u3, u4) = ((s0, s1, s2, s3, s4), 0)) := Lib.hid (by rw [← hkn, joinE_ok okp Ho.out hpP HoP.out (by omega) (by omega), take_app1, hsP])
  have J4 : Hid (joinE kk (x0, x1, x2, x3, x4) (r0, r1, r2, r3, r4) = ((s0, s1, s2, s3, s4), 0)) := Lib.hid (by rw [← hkn, joinE_ok Hl.out okr HlP.out hrP (by omega) (by omega), take_app2, ← List.append_assoc, hsP])
  have J5 : Hid (cutE (x0, x1, x2, x3, x4) kk = ((q0, q1, q2, q3, q4), 0)) := Lib.hid (by rw [← hkn, cutE_ok Hl.out HlP.out (by omega), hqP])
  have J6 : Hid (joinE kk (q0, q1, q2, q3, q4) (y0, y1, y2, y3, y4) = ((p0, p1, p2, p3, p4), 0)) := Lib.hid (by rw [← hkn, joinE_ok okq Hm.out hqP HmP.out (by omega) (by omega), take_app1, hpP])
  have J7 : Hid (joinE kk (x0, x1, x2, x3, x4) (0, 0, 0, 0, 0) = ((q0, q1, q2, q3, q4), 0)) := Lib.hid (by rw [← hkn, joinE_ok (m := []) Hl.out ⟨by simp, fun x hx => by cases hx⟩ HlP.out (show pad5 [] = (0, 0, 0, 0, 0) from rfl) (by omega) (by omega), List.append_nil, hqP])
  obtain ⟨a0, ha0⟩ : ∃ a0 : Int, x0 + y0 = a0 := ⟨_, rfl⟩
  have ex : (l.length : Int) = x0 := congrArg Prod.fst HlP.out
  have ey : (m.length : Int) = y0 := congrArg Prod.fst HmP.out
  have eq0 : ((l.take (k0 + 1)).length : Int) = q0 := congrArg Prod.fst hqP
  have ep0 : (((l ++ m).take (k0 + 1)).length : Int) = p0 := congrArg Prod.fst hpP
  rw [List.length_take] at eq0 ep0
  rw [List.length_append] at ep0
  have HN1 : Hid (min kk x0 = q0) := Lib.hid (by omega)
  have HN3 := Lib.hid ha0
  have HN2 : Hid (min kk a0 = p0) := Lib.hid (by omega)
  have HN4 : Hid (0 ≤ a0 ∧ a0 ≤ 100) := Lib.hid (by have := Hl.out.1; have := Hm.out.1; omega)
  clear hkk hkn ex ey eq0 ep0 ha0 okp okr okq hpP hrP hsP hqP
  refine (pjoin_any kk x0 x1 x2 x3 x4 y0 y1 y2 y3 y4 _ _ _ J1).mono ?_
  rintro e w6 ⟨rfl, hB⟩
  have B6 := Lib.hid (below_on B4.out (Nat.le_refl _) (made3 hB).2.2.2)
  have X6 := Lib.hid ((made3 hB).1)
  have Y6 := Lib.hid ((made3 hB).2.1)
  have Z6 := Lib.hid ((made3 hB).2.2.1)
  clear hB
  obtain ⟨cX0, cX1, cX2, cX3, cX4⟩ := X6.out.cell5
  obtain ⟨cY0, cY1, cY2, cY3, cY4⟩ := Y6.out.cell5
  obtain ⟨cZ0, cZ1, cZ2, cZ3, cZ4⟩ := Z6.out.cell5
  have lX := X6.out.lt
  have lY := Y6.out.lt
  have lZ := Z6.out.lt
  go_wp2_with fail
  refine (pjoin_any kk y0 y1 y2 y3 y4 u0 u1 u2 u3 u4 _ _ _ J2).mono ?_
  rintro e w7 ⟨rfl, hB⟩
  have B7 := Lib.hid (below_on B6.out (Nat.le_refl _) (made1 hB).2)
  have X7 := Lib.hid ((X6.out.alloc _).below hB)
  have Y7 := Lib.hid ((Y6.out.alloc _).below hB)
  have Z7 := Lib.hid ((Z6.out.alloc _).below hB)
  have P7 := Lib.hid (made1 hB).1
  clear hB B6 X6 Y6 Z6 cX0 cX1 cX2 cX3 cX4 cY0 cY1 cY2 cY3 cY4 cZ0 cZ1 cZ2 cZ3 cZ4 lX lY lZ
  obtain ⟨cX0, cX1, cX2, cX3, cX4⟩ := X7.out.cell5
  obtain ⟨cY0, cY1, cY2, cY3, cY4⟩ := Y7.out.cell5
  obtain ⟨cZ0, cZ1, cZ2, cZ3, cZ4⟩ := Z7.out.cell5
  obtain ⟨cP0, cP1, cP2, cP3, cP4⟩ := P7.out.cell5
  have lX := X7.out.lt
  have lY := Y7.out.lt
  have lZ := Z7.out.lt
  have lP := P7.out.lt
  go_wp2_with fail
  refine (pjoin_any kk p0 p1 p2 p3 p4 u0 u1 u2 u3 u4 _ _ _ J3).mono ?_
  rintro e w8 ⟨rfl, hB⟩
  have B8 := Lib.hid (below_on B7.out (Nat.le_refl _) (made1 hB).2)
  have X8 := Lib.hid ((X7.out.alloc _).below hB)
  have Y8 := Lib.hid ((Y7.out.alloc _).below hB)
  have Z8 := Lib.hid ((Z7.out.alloc _).below hB)
  have P8 := Lib.hid ((P7.out.alloc _).below hB)
  have R8 := Lib.hid (made1 hB).1
  clear hB B7 X7 Y7 Z7 P7 cX0 cX1 cX2 cX3 cX4 cY0 cY1 cY2 cY3 cY4 cZ0 cZ1 cZ2 cZ3 cZ4 cP0 cP1 cP2 cP3 cP4 lX lY lZ lP
  obtain ⟨cX0, cX1, cX2, cX3, cX4⟩ := X8.out.cell5
  obtain ⟨cY0, cY1, cY2, cY3, cY4⟩ := Y8.out.cell5
  obtain ⟨cZ0, cZ1, cZ2, cZ3, cZ4⟩ := Z8.out.cell5
  obtain ⟨cP0, cP1, cP2, cP3, cP4⟩ := P8.out.cell5
  obtain ⟨cR0, cR1, cR2, cR3, cR4⟩ := R8.out.cell5
  have lX := X8.out.lt
  have lY := Y8.out.lt
  have lZ := Z8.out.lt
  have lP := P8.out.lt
  have lR := R8.out.lt
  go_wp2_with fail
  refine (pjoin_any kk x0 x1 x2 x3 x4 r0 r1 r2 r3 r4 _ _ _ J4).mono ?_
  rintro e w9 ⟨rfl, hB⟩
  have B9 := Lib.hid (below_on B8.out (Nat.le_refl _) (made1 hB).2)
  have X9 := Lib.hid ((X8.out.alloc _).below hB)
  have Y9 := Lib.hid ((Y8.out.alloc _).below hB)
  have Z9 := Lib.hid ((Z8.out.alloc _).below hB)
  have P9 := Lib.hid ((P8.out.alloc _).below hB)
  have R9 := Lib.hid ((R8.out.alloc _).below hB)
  have S9 := Lib.hid (made1 hB).1
  clear hB B8 X8 Y8 Z8 P8 R8 cX0 cX1 cX2 cX3 cX4 cY0 cY1 cY2 cY3 cY4 cZ0 cZ1 cZ2 cZ3 cZ4 cP0 cP1 cP2 cP3 cP4 cR0 cR1 cR2 cR3 cR4 lX lY lZ lP lR
  obtain ⟨cX0, cX1, cX2, cX3, cX4⟩ := X9.out.cell5
  obtain ⟨cY0, cY1, cY2, cY3, cY4⟩ := Y9.out.cell5
  obtain ⟨cZ0, cZ1, cZ2, cZ3, cZ4⟩ := Z9.out.cell5
  obtain ⟨cP0, cP1, cP2, cP3, cP4⟩ := P9.out.cell5
  obtain ⟨cR0, cR1, cR2, cR3, cR4⟩ := R9.out.cell5
  obtain ⟨cS0, cS1, cS2, cS3, cS4⟩ := S9.out.cell5
  have lX := X9.out.lt
  have lY := Y9.out.lt
  have lZ := Z9.out.lt
  have lP := P9.out.lt
  have lR := R9.out.lt
  have lS := S9.out.lt
  go_wp2_with fail
  refine (pcut_any x0 x1 x2 x3 x4 kk _ _ _ J5).mono ?_
  rintro e w10 ⟨rfl, hB⟩
  have B10 := Lib.hid (below_on B9.out (Nat.le_refl _) (made1 hB).2)
  have X10 := Lib.hid ((X9.out.alloc _).below hB)
  have Y10 := Lib.hid ((Y9.out.alloc _).below hB)
  have Z10 := Lib.hid ((Z9.out.alloc _).below hB)
  have P10 := Lib.hid ((P9.out.alloc _).below hB)
  have R10 := Lib.hid ((R9.out.alloc _).below hB)
  have S10 := Lib.hid ((S9.out.alloc _).below hB)
  have V10 := Lib.hid (made1 hB).1
  clear hB B9 X9 Y9 Z9 P9 R9 S9 cX0 cX1 cX2 cX3 cX4 cY0 cY1 cY2 cY3 cY4 cZ0 cZ1 cZ2 cZ3 cZ4 cP0 cP1 cP2 cP3 cP4 cR0 cR1 cR2 cR3 cR4 cS0 cS1 cS2 cS3 cS4 lX lY lZ lP lR lS
  obtain ⟨cX0, cX1, cX2, cX3, cX4⟩ := X10.out.cell5
  obtain ⟨cY0, cY1, cY2, cY3, cY4⟩ := Y10.out.cell5
  obtain ⟨cZ0, cZ1, cZ2, cZ3, cZ4⟩ := Z10.out.cell5
  obtain ⟨cP0, cP1, cP2, cP3, cP4⟩ := P10.out.cell5
  obtain ⟨cR0, cR1, cR2, cR3, cR4⟩ := R10.out.cell5
  obtain ⟨cS0, cS1, cS2, cS3, cS4⟩ := S10.out.cell5
  obtain ⟨cV0, cV1, cV2, cV3, cV4⟩ := V10.out.cell5
  have lX := X10.out.lt
  have lY := Y10.out.lt
  have lZ := Z10.out.lt
  have lP := P10.out.lt
  have lR := R10.out.lt
  have lS := S10.out.lt
  have lV := V10.out.lt
  go_wp2_with fail
  refine (pjoin_any kk q0 q1 q2 q3 q4 y0 y1 y2 y3 y4 _ _ _ J6).mono ?_
  rintro e w11 ⟨rfl, hB⟩
  have B11 := Lib.hid (below_on B10.out (Nat.le_refl _) (made1 hB).2)
  have X11 := Lib.hid ((X10.out.alloc _).below hB)
  have Y11 := Lib.hid ((Y10.out.alloc _).below hB)
  have Z11 := Lib.hid ((Z10.out.alloc _).below hB)
  have P11 := Lib.hid ((P10.out.alloc _).below hB)
  have R11 := Lib.hid ((R10.out.alloc _).below hB)
  have S11 := Lib.hid ((S10.out.alloc _).below hB)
  have V11 := Lib.hid ((V10.out.alloc _).below hB)
  have Q11 := Lib.hid (made1 hB).1
  clear hB B10 X10 Y10 Z10 P10 R10 S10 V10 cX0 cX1 cX2 cX3 cX4 cY0 cY1 cY2 cY3 cY4 cZ0 cZ1 cZ2 cZ3 cZ4 cP0 cP1 cP2 cP3 cP4 cR0 cR1 cR2 cR3 cR4 cS0 cS1 cS2 cS3 cS4 cV0 cV1 cV2 cV3 cV4 lX lY lZ lP lR lS lV
  obtain ⟨cX0, cX1, cX2, cX3, cX4⟩ := X11.out.cell5
  obtain ⟨cY0, cY1, cY2, cY3, cY4⟩ := Y11.out.cell5
  obtain ⟨cZ0, cZ1, cZ2, cZ3, cZ4⟩ := Z11.out.cell5
  obtain ⟨cP0, cP1, cP2, cP3, cP4⟩ := P11.out.cell5
  obtain ⟨cR0, cR1, cR2, cR3, cR4⟩ := R11.out.cell5
  obtain ⟨cS0, cS1, cS2, cS3, cS4⟩ := S11.out.cell5
  obtain ⟨cV0, cV1, cV2, cV3, cV4⟩ := V11.out.cell5
  obtain ⟨cQ0, cQ1, cQ2, cQ3, cQ4⟩ := Q11.out.cell5
  have lX := X11.out.lt
  have lY := Y11.out.lt
  have lZ := Z11.out.lt
  have lP := P11.out.lt
  have lR := R11.out.lt
  have lS := S11.out.lt
  have lV := V11.out.lt
  have lQ := Q11.out.lt
  go_wp2_with fail
  obtain ⟨w12, hw12⟩ : ∃ W, w11.alloc (.cells #[.int .i64 p0, .int .i64 p1, .int .i64 p2, .int .i64 p3, .int .i64 p4] 25) = W := ⟨_, rfl⟩
  have X12 : Hid (Box w12 25 (w4.heap.size) #[.int .i64 x0, .int .i64 x1, .int .i64 x2, .int .i64 x3, .int .i64 x4]) := Lib.hid (by rw [← hw12]; exact X11.out.alloc _)
  have Y12 : Hid (Box w12 25 (w4.heap.size + 1) #[.int .i64 y0, .int .i64 y1, .int .i64 y2, .int .i64 y3, .int .i64 y4]) := Lib.hid (by rw [← hw12]; exact Y11.out.alloc _)
  have P12 : Hid (Box w12 25 (w6.heap.size) #[.int .i64 p0, .int .i64 p1, .int .i64 p2, .int .i64 p3, .int .i64 p4]) := Lib.hid (by rw [← hw12]; exact P11.out.alloc _)
  have S12 : Hid (Box w12 25 (w8.heap.size) #[.int .i64 s0, .int .i64 s1, .int .i64 s2, .int .i64 s3, .int .i64 s4]) := Lib.hid (by rw [← hw12]; exact S11.out.alloc _)
  have V12 : Hid (Box w12 25 (w9.heap.size) #[.int .i64 s0, .int .i64 s1, .int .i64 s2, .int .i64 s3, .int .i64 s4]) := Lib.hid (by rw [← hw12]; exact V11.out.alloc _)
  have Q12 : Hid (Box w12 25 (w10.heap.size) #[.int .i64 q0, .int .i64 q1, .int .i64 q2, .int .i64 q3, .int .i64 q4]) := Lib.hid (by rw [← hw12]; exact Q11.out.alloc _)
  have W12 : Hid (Box w12 25 w11.heap.size #[.int .i64 p0, .int .i64 p1, .int .i64 p2, .int .i64 p3, .int .i64 p4]) := Lib.hid (by rw [← hw12]; exact Box.new w11 _ _)
  have B12 : Hid (Below w.heap.size w w12) := Lib.hid (by rw [← hw12]; exact B11.out.alloc B11.out.size _)
  rw [hw12]
  clear hw12 cX0 cX1 cX2 cX3 cX4 cY0 cY1 cY2 cY3 cY4 cZ0 cZ1 cZ2 cZ3 cZ4 cP0 cP1 cP2 cP3 cP4 cR0 cR1 cR2 cR3 cR4 cS0 cS1 cS2 cS3 cS4 cV0 cV1 cV2 cV3 cV4 cQ0 cQ1 cQ2 cQ3 cQ4
  obtain ⟨d0, d1, d2, d3, d4⟩ := X12.out.cell5
  have lX12 := X12.out.lt
  rename_i K hK
  have FINAL : ∀ (A : Act) (W : World) (be : Nat), A.tmps.size = 150 → A.defers = [] → A.eval (.tmp 9) = .bool true → A.eval (.tmp 3) = .int .i64 kk → A.eval (.tmp 14) = .int .i64 0 → A.eval (.tmp 16) = .int .i64 0 → A.eval (.tmp 18) = .int .i64 0 → A.eval (.tmp 20) = .int .i64 0 → A.eval (.tmp 22) = .int .i64 0 → A.eval (.tmp 24) = .int .i64 0 → A.eval (.tmp 26) = .int .i64 0 → A.eval (.tmp 10) = .pointer (some ⟨w4.heap.size, 0, none⟩) → A.eval (.tmp 11) = .pointer (some ⟨w4.heap.size + 1, 0, none⟩) → A.eval (.tmp 13) = .pointer (some ⟨w6.heap.size, 0, none⟩) → A.eval (.tmp 17) = .pointer (some ⟨w8.heap.size, 0, none⟩) → A.eval (.tmp 19) = .pointer (some ⟨w9.heap.size, 0, none⟩) → A.eval (.tmp 21) = .pointer (some ⟨w10.heap.size, 0, none⟩) → A.eval (.tmp 23) = .pointer (some ⟨w11.heap.size, 0, none⟩) → A.eval (.tmp 25) = .pointer (some ⟨be, 0, none⟩) → Hid (Box W 25 (w4.heap.size) #[.int .i64 x0, .int .i64 x1, .int .i64 x2, .int .i64 x3, .int .i64 x4]) → Hid (Box W 25 (w4.heap.size + 1) #[.int .i64 y0, .int .i64 y1, .int .i64 y2, .int .i64 y3, .int .i64 y4]) → Hid (Box W 25 (w6.heap.size) #[.int .i64 p0, .int .i64 p1, .int .i64 p2, .int .i64 p3, .int .i64 p4]) → Hid (Box W 25 (w8.heap.size) #[.int .i64 s0, .int .i64 s1, .int .i64 s2, .int .i64 s3, .int .i64 s4]) → Hid (Box W 25 (w9.heap.size) #[.int .i64 s0, .int .i64 s1, .int .i64 s2, .int .i64 s3, .int .i64 s4]) → Hid (Box W 25 (w10.heap.size) #[.int .i64 q0, .int .i64 q1, .int .i64 q2, .int .i64 q3, .int .i64 q4]) → Hid (Box W 25 (w11.heap.size) #[.int .i64 p0, .int .i64 p1, .int .i64 p2, .int .i64 p3, .int .i64 p4]) → Hid (Box W 25 (be) #[.int .i64 q0, .int .i64 q1, .int .i64 q2, .int .i64 q3, .int .i64 q4]) → Hid (Below w.heap.size w W) → K A W := by
    intro A W be z qd e9 e3 e14 e16 e18 e20 e22 e24 e26 e10 e11 e13 e17 e19 e21 e23 e25 Xz Yz Pz Sz Vz Qz Wz Ez Bz
    refine hK _ _ ?_
    clear hK
    refine wp_seq ?_
    refine wp_region_inText [.con (.bool true), .con (.bool true), .con (.int .i64 0), .con (.bool true), .con (.bool true), .con (.bool true), .con (.int .i64 0), .con (.bool true), .con (.bool true), .con (.bool true), .con (.int .i64 0), .con (.bool true), .con (.bool true), .con (.bool true), .con (.int .i64 0), .con (.bool true), .con (.bool true), .con (.bool true), .con (.int .i64 0), .con (.bool true), .con (.bool true), .con (.bool true), .con (.int .i64 0), .con (.bool true), .con (.bool true), .con (.bool true), .con (.int .i64 0), .con (.bool true), .con (.bool true), .con (.bool true), .con (.agg #[.int .i64 s0, .int .i64 s1, .int .i64 s2, .int .i64 s3, .int .i64 s4]), .con (.agg #[.int .i64 s0, .int .i64 s1, .int .i64 s2, .int .i64 s3, .int .i64 s4]), .con (.bool true), .con (.bool true), .con (.bool true), .con (.agg #[.int .i64 p0, .int .i64 p1, .int .i64 p2, .int .i64 p3, .int .i64 p4]), .con (.agg #[.int .i64 p0, .int .i64 p1, .int .i64 p2, .int .i64 p3, .int .i64 p4]), .con (.bool true), .con (.bool true), .con (.bool true), .con (.agg #[.int .i64 q0, .int .i64 q1, .int .i64 q2, .int .i64 q3, .int .i64 q4]), .con (.agg #[.int .i64 q0, .int .i64 q1, .int .i64 q2, .int .i64 q3, .int .i64 q4]), .con (.bool true), .con (.bool true), .con (.bool true), .con (.pointer (some ⟨w10.heap.size, 0, none⟩)), .con (.int .i64 q0), .con (.int .i64 kk), .con (.pointer (some ⟨w4.heap.size, 0, none⟩)), .con (.int .i64 x0), .con (.int .i64 q0), .con (.bool true), .con (.bool true), .con (.bool true), .con (.pointer (some ⟨w6.heap.size, 0, none⟩)), .con (.int .i64 p0), .con (.int .i64 kk), .con (.pointer (some ⟨w4.heap.size, 0, none⟩)), .con (.int .i64 x0), .con (.pointer (some ⟨w4.heap.size + 1, 0, none⟩)), .con (.int .i64 y0), .con (.int .i64 a0), .con (.int .i64 p0), .con (.bool true), .con (.bool true), .con (.bool true)] (by rw [z]; kernel_rfl) (mkS_keeps (by kernel_rfl)) ?steps ?fin
    case steps =>
      refine ⟨fun A wq hB h => step_move_old h (by kernel_rfl) 9 rfl (by kernel_rfl) (e9), ?_⟩
      refine ⟨fun A wq hB h => step_move h (by kernel_rfl) _ rfl (by kernel_rfl), ?_⟩
      refine ⟨fun A wq hB h => step_move_old h (by kernel_rfl) 14 rfl (by kernel_rfl) (e14), ?_⟩
      refine ⟨fun A wq hB h => step_bin h (by kernel_rfl) _ _ _ _ _ (.int .i64 0) (.int .i64 0) rfl (by kernel_rfl) (by kernel_rfl) (fun W => by kernel_rfl) (fun W => by kernel_rfl), ?_⟩
      refine ⟨fun A wq hB h => step_pick h (by kernel_rfl) _ _ _ true rfl (by kernel_rfl) (by kernel_rfl), ?_⟩
      refine ⟨fun A wq hB h => step_move h (by kernel_rfl) _ rfl (by kernel_rfl), ?_⟩
      refine ⟨fun A wq hB h => step_move_old h (by kernel_rfl) 16 rfl (by kernel_rfl) (e16), ?_⟩
      refine ⟨fun A wq hB h => step_bin h (by kernel_rfl) _ _ _ _ _ (.int .i64 0) (.int .i64 0) rfl (by kernel_rfl) (by kernel_rfl) (fun W => by kernel_rfl) (fun W => by kernel_rfl), ?_⟩
      refine ⟨fun A wq hB h => step_pick h (by kernel_rfl) _ _ _ true rfl (by kernel_rfl) (by kernel_rfl), ?_⟩
      refine ⟨fun A wq hB h => step_move h (by kernel_rfl) _ rfl (by kernel_rfl), ?_⟩
      refine ⟨fun A wq hB h => step_move_old h (by kernel_rfl) 18 rfl (by kernel_rfl) (e18), ?_⟩
      refine ⟨fun A wq hB h => step_bin h (by kernel_rfl) _ _ _ _ _ (.int .i64 0) (.int .i64 0) rfl (by kernel_rfl) (by kernel_rfl) (fun W => by kernel_rfl) (fun W => by kernel_rfl), ?_⟩
      refine ⟨fun A wq hB h => step_pick h (by kernel_rfl) _ _ _ true rfl (by kernel_rfl) (by kernel_rfl), ?_⟩
      refine ⟨fun A wq hB h => step_move h (by kernel_rfl) _ rfl (by kernel_rfl), ?_⟩
      refine ⟨fun A wq hB h => step_move_old h (by kernel_rfl) 20 rfl (by kernel_rfl) (e20), ?_⟩
      refine ⟨fun A wq hB h => step_bin h (by kernel_rfl) _ _ _ _ _ (.int .i64 0) (.int .i64 0) rfl (by kernel_rfl) (by kernel_rfl) (fun W => by kernel_rfl) (fun W => by kernel_rfl), ?_⟩
      refine ⟨fun A wq hB h => step_pick h (by kernel_rfl) _ _ _ true rfl (by kernel_rfl) (by kernel_rfl), ?_⟩
      refine ⟨fun A wq hB h => step_move h (by kernel_rfl) _ rfl (by kernel_rfl), ?_⟩
      refine ⟨fun A wq hB h => step_move_old h (by kernel_rfl) 22 rfl (by kernel_rfl) (e22), ?_⟩
      refine ⟨fun A wq hB h => step_bin h (by kernel_rfl) _ _ _ _ _ (.int .i64 0) (.int .i64 0) rfl (by kernel_rfl) (by kernel_rfl) (fun W => by kernel_rfl) (fun W => by kernel_rfl), ?_⟩
      refine ⟨fun A wq hB h => step_pick h (by kernel_rfl) _ _ _ true rfl (by kernel_rfl) (by kernel_rfl), ?_⟩
      refine ⟨fun A wq hB h => step_move h (by kernel_rfl) _ rfl (by kernel_rfl), ?_⟩
      refine ⟨fun A wq hB h => step_move_old h (by kernel_rfl) 24 rfl (by kernel_rfl) (e24), ?_⟩
      refine ⟨fun A wq hB h => step_bin h (by kernel_rfl) _ _ _ _ _ (.int .i64 0) (.int .i64 0) rfl (by kernel_rfl) (by kernel_rfl) (fun W => by kernel_rfl) (fun W => by kernel_rfl), ?_⟩
      refine ⟨fun A wq hB h => step_pick h (by kernel_rfl) _ _ _ true rfl (by kernel_rfl) (by kernel_rfl), ?_⟩
      refine ⟨fun A wq hB h => step_move h (by kernel_rfl) _ rfl (by kernel_rfl), ?_⟩
      refine ⟨fun A wq hB h => step_move_old h (by kernel_rfl) 26 rfl (by kernel_rfl) (e26), ?_⟩
      refine ⟨fun A wq hB h => step_bin h (by kernel_rfl) _ _ _ _ _ (.int .i64 0) (.int .i64 0) rfl (by kernel_rfl) (by kernel_rfl) (fun W => by kernel_rfl) (fun W => by kernel_rfl), ?_⟩
      refine ⟨fun A wq hB h => step_pick h (by kernel_rfl) _ _ _ true rfl (by kernel_rfl) (by kernel_rfl), ?_⟩
      refine ⟨fun A wq hB h => step_move h (by kernel_rfl) _ rfl (by kernel_rfl), ?_⟩
      refine ⟨fun A wq hB h => step_load h (by kernel_rfl) _ _ (.pointer (some ⟨w8.heap.size, 0, none⟩)) rfl (h.old 17 (by kernel_rfl) (e17)) (load5 (Sz.out.below hB)), ?_⟩
      refine ⟨fun A wq hB h => step_load h (by kernel_rfl) _ _ (.pointer (some ⟨w9.heap.size, 0, none⟩)) rfl (h.old 19 (by kernel_rfl) (e19)) (load5 (Vz.out.below hB)), ?_⟩
      refine ⟨fun A wq hB h => step_bin h (by kernel_rfl) _ _ _ _ _ (.agg #[.int .i64 s0, .int .i64 s1, .int .i64 s2, .int .i64 s3, .int .i64 s4]) (.agg #[.int .i64 s0, .int .i64 s1, .int .i64 s2, .int .i64 s3, .int .i64 s4]) rfl (by kernel_rfl) (by kernel_rfl) (fun W => guard_look _ _ _ _ _ W) (fun W => look_self _ _ _ _ _ W), ?_⟩
      refine ⟨fun A wq hB h => step_pick h (by kernel_rfl) _ _ _ true rfl (by kernel_rfl) (by kernel_rfl), ?_⟩
      refine ⟨fun A wq hB h => step_move h (by kernel_rfl) _ rfl (by kernel_rfl), ?_⟩
      refine ⟨fun A wq hB h => step_load h (by kernel_rfl) _ _ (.pointer (some ⟨w11.heap.size, 0, none⟩)) rfl (h.old 23 (by kernel_rfl) (e23)) (load5 (Wz.out.below hB)), ?_⟩
      refine ⟨fun A wq hB h => step_load h (by kernel_rfl) _ _ (.pointer (some ⟨w6.heap.size, 0, none⟩)) rfl (h.old 13 (by kernel_rfl) (e13)) (load5 (Pz.out.below hB)), ?_⟩
      refine ⟨fun A wq hB h => step_bin h (by kernel_rfl) _ _ _ _ _ (.agg #[.int .i64 p0, .int .i64 p1, .int .i64 p2, .int .i64 p3, .int .i64 p4]) (.agg #[.int .i64 p0, .int .i64 p1, .int .i64 p2, .int .i64 p3, .int .i64 p4]) rfl (by kernel_rfl) (by kernel_rfl) (fun W => guard_look _ _ _ _ _ W) (fun W => look_self _ _ _ _ _ W), ?_⟩
      refine ⟨fun A wq hB h => step_pick h (by kernel_rfl) _ _ _ true rfl (by kernel_rfl) (by kernel_rfl), ?_⟩
      refine ⟨fun A wq hB h => step_move h (by kernel_rfl) _ rfl (by kernel_rfl), ?_⟩
      refine ⟨fun A wq hB h => step_load h (by kernel_rfl) _ _ (.pointer (some ⟨be, 0, none⟩)) rfl (h.old 25 (by kernel_rfl) (e25)) (load5 (Ez.out.below hB)), ?_⟩
      refine ⟨fun A wq hB h => step_load h (by kernel_rfl) _ _ (.pointer (some ⟨w10.heap.size, 0, none⟩)) rfl (h.old 21 (by kernel_rfl) (e21)) (load5 (Qz.out.below hB)), ?_⟩
      refine ⟨fun A wq hB h => step_bin h (by kernel_rfl) _ _ _ _ _ (.agg #[.int .i64 q0, .int .i64 q1, .int .i64 q2, .int .i64 q3, .int .i64 q4]) (.agg #[.int .i64 q0, .int .i64 q1, .int .i64 q2, .int .i64 q3, .int .i64 q4]) rfl (by kernel_rfl) (by kernel_rfl) (fun W => guard_look _ _ _ _ _ W) (fun W => look_self _ _ _ _ _ W), ?_⟩
      refine ⟨fun A wq hB h => step_pick h (by kernel_rfl) _ _ _ true rfl (by kernel_rfl) (by kernel_rfl), ?_⟩
      refine ⟨fun A wq hB h => step_move h (by kernel_rfl) _ rfl (by kernel_rfl), ?_⟩
      refine ⟨fun A wq hB h => step_field h (by kernel_rfl) _ _ _ (.pointer (some ⟨w10.heap.size, 0, none⟩)) rfl (h.old 21 (by kernel_rfl) (e21)) (field0 _ wq), ?_⟩
      refine ⟨fun A wq hB h => step_load h (by kernel_rfl) _ _ (.pointer (some ⟨w10.heap.size, 0, none⟩)) rfl (lookAt_eval h (by kernel_rfl)) (load0 (Qz.out.below hB)), ?_⟩
      refine ⟨fun A wq hB h => step_move_old h (by kernel_rfl) 3 rfl (by kernel_rfl) (e3), ?_⟩
      refine ⟨fun A wq hB h => step_field h (by kernel_rfl) _ _ _ (.pointer (some ⟨w4.heap.size, 0, none⟩)) rfl (h.old 10 (by kernel_rfl) (e10)) (field0 _ wq), ?_⟩
      refine ⟨fun A wq hB h => step_load h (by kernel_rfl) _ _ (.pointer (some ⟨w4.heap.size, 0, none⟩)) rfl (lookAt_eval h (by kernel_rfl)) (load0 (Xz.out.below hB)), ?_⟩
      refine ⟨fun A wq hB h => step_min h (by kernel_rfl) _ _ _ (.int .i64 kk) (.int .i64 x0) rfl (by kernel_rfl) (by kernel_rfl) (min_run kk x0 q0 HN1.out _ wq), ?_⟩
      refine ⟨fun A wq hB h => step_bin h (by kernel_rfl) _ _ _ _ _ (.int .i64 q0) (.int .i64 q0) rfl (by kernel_rfl) (by kernel_rfl) (fun W => by kernel_rfl) (fun W => int_self _ W), ?_⟩
      refine ⟨fun A wq hB h => step_pick h (by kernel_rfl) _ _ _ true rfl (by kernel_rfl) (by kernel_rfl), ?_⟩
      refine ⟨fun A wq hB h => step_move h (by kernel_rfl) _ rfl (by kernel_rfl), ?_⟩
      refine ⟨fun A wq hB h => step_field h (by kernel_rfl) _ _ _ (.pointer (some ⟨w6.heap.size, 0, none⟩)) rfl (h.old 13 (by kernel_rfl) (e13)) (field0 _ wq), ?_⟩
      refine ⟨fun A wq hB h => step_load h (by kernel_rfl) _ _ (.pointer (some ⟨w6.heap.size, 0, none⟩)) rfl (lookAt_eval h (by kernel_rfl)) (load0 (Pz.out.below hB)), ?_⟩
      refine ⟨fun A wq hB h => step_move_old h (by kernel_rfl) 3 rfl (by kernel_rfl) (e3), ?_⟩
      refine ⟨fun A wq hB h => step_field h (by kernel_rfl) _ _ _ (.pointer (some ⟨w4.heap.size, 0, none⟩)) rfl (h.old 10 (by kernel_rfl) (e10)) (field0 _ wq), ?_⟩
      refine ⟨fun A wq hB h => step_load h (by kernel_rfl) _ _ (.pointer (some ⟨w4.heap.size, 0, none⟩)) rfl (lookAt_eval h (by kernel_rfl)) (load0 (Xz.out.below hB)), ?_⟩
      refine ⟨fun A wq hB h => step_field h (by kernel_rfl) _ _ _ (.pointer (some ⟨w4.heap.size + 1, 0, none⟩)) rfl (h.old 11 (by kernel_rfl) (e11)) (field0 _ wq), ?_⟩
      refine ⟨fun A wq hB h => step_load h (by kernel_rfl) _ _ (.pointer (some ⟨w4.heap.size + 1, 0, none⟩)) rfl (lookAt_eval h (by kernel_rfl)) (load0 (Yz.out.below hB)), ?_⟩
      refine ⟨fun A wq hB h => step_bin h (by kernel_rfl) _ _ _ _ _ (.int .i64 x0) (.int .i64 y0) rfl (by kernel_rfl) (by kernel_rfl) (fun W => by kernel_rfl) (fun W => add_run x0 y0 a0 HN3.out HN4.out.1 HN4.out.2 W), ?_⟩
      refine ⟨fun A wq hB h => step_min h (by kernel_rfl) _ _ _ (.int .i64 kk) (.int .i64 a0) rfl (by kernel_rfl) (by kernel_rfl) (min_run kk a0 p0 HN2.out _ wq), ?_⟩
      refine ⟨fun A wq hB h => step_bin h (by kernel_rfl) _ _ _ _ _ (.int .i64 p0) (.int .i64 p0) rfl (by kernel_rfl) (by kernel_rfl) (fun W => by kernel_rfl) (fun W => int_self _ W), ?_⟩
      refine ⟨fun A wq hB h => step_pick h (by kernel_rfl) _ _ _ true rfl (by kernel_rfl) (by kernel_rfl), ?_⟩
      refine ⟨fun A wq hB h => step_assign h (by kernel_rfl) _ rfl (by kernel_rfl), ?_⟩
      exact trivial
    case fin =>
      intro B w14 hB hH
      have B14 := Lib.hid (below_on Bz.out (Nat.le_refl _) hB)
      have hs : B.tmps.size = 150 := hH.size.trans z
      have hdd : B.defers = [] := hH.defers.trans qd
      have h8 : B.eval (.tmp 8) = .bool true := hH.con 65 8 (.bool true) rfl rfl
      clear hB hH
      show Code.wp Tryd.prog Code.ret _ _ _
      go_wp2
      exact bodyPost_ret (v := .bool true) (by simp [Act.eval, hs] at h8; simp [results, Tryd.results8, go_sem, hs, h8]) hdd ⟨rfl, B14.out⟩
  clear hK
  go_region_with (first | (go_at_call 37; refine (lof_any none 0 [] _ (by simp) (Lib.hid (fun i hi => by simp at hi)) 0 0 0 0 0 0 (Lib.hid (by decide))).mono ?_; rintro e wa ⟨rfl, hB⟩; have Xa : Hid (Box wa 25 (w4.heap.size) #[.int .i64 x0, .int .i64 x1, .int .i64 x2, .int .i64 x3, .int .i64 x4]) := Lib.hid (by first | exact X12.out.drew.below hB | exact (X12.out.alloc _).drew.below hB); have Ya : Hid (Box wa 25 (w4.heap.size + 1) #[.int .i64 y0, .int .i64 y1, .int .i64 y2, .int .i64 y3, .int .i64 y4]) := Lib.hid (by first | exact Y12.out.drew.below hB | exact (Y12.out.alloc _).drew.below hB); have Pa : Hid (Box wa 25 (w6.heap.size) #[.int .i64 p0, .int .i64 p1, .int .i64 p2, .int .i64 p3, .int .i64 p4]) := Lib.hid (by first | exact P12.out.drew.below hB | exact (P12.out.alloc _).drew.below hB); have Sa : Hid (Box wa 25 (w8.heap.size) #[.int .i64 s0, .int .i64 s1, .int .i64 s2, .int .i64 s3, .int .i64 s4]) := Lib.hid (by first | exact S12.out.drew.below hB | exact (S12.out.alloc _).drew.below hB); have Va : Hid (Box wa 25 (w9.heap.size) #[.int .i64 s0, .int .i64 s1, .int .i64 s2, .int .i64 s3, .int .i64 s4]) := Lib.hid (by first | exact V12.out.drew.below hB | exact (V12.out.alloc _).drew.below hB); have Qa : Hid (Box wa 25 (w10.heap.size) #[.int .i64 q0, .int .i64 q1, .int .i64 q2, .int .i64 q3, .int .i64 q4]) := Lib.hid (by first | exact Q12.out.drew.below hB | exact (Q12.out.alloc _).drew.below hB); have Wa : Hid (Box wa 25 w11.heap.size #[.int .i64 p0, .int .i64 p1, .int .i64 p2, .int .i64 p3, .int .i64 p4]) := Lib.hid (by first | exact W12.out.drew.below hB | exact (W12.out.alloc _).drew.below hB); have Ba : Hid (Below w.heap.size w wa) := Lib.hid (by first | exact below_on B12.out.drew (Nat.le_refl _) hB | exact below_on (B12.out.alloc B12.out.size _).drew (Nat.le_refl _) hB); (try (have Na : Hid (Box wa 25 w12.heap.size #[.int .i64 0, .int .i64 0, .int .i64 0, .int .i64 0, .int .i64 0]) := Lib.hid ((Box.new w12 25 #[.int .i64 0, .int .i64 0, .int .i64 0, .int .i64 0, .int .i64 0]).drew.below hB))); clear hB; obtain ⟨d0, d1, d2, d3, d4⟩ := Xa.out.cell5; have lXa := Xa.out.lt) | (go_at_call 21; refine (pjoin_any kk x0 x1 x2 x3 x4 0 0 0 0 0 _ _ _ J7).mono ?_; rintro e wb ⟨rfl, hB⟩; have Xb : Hid (Box wb 25 (w4.heap.size) #[.int .i64 x0, .int .i64 x1, .int .i64 x2, .int .i64 x3, .int .i64 x4]) := Lib.hid (by first | exact Xa.out.below hB | exact (Xa.out.alloc _).below hB); have Yb : Hid (Box wb 25 (w4.heap.size + 1) #[.int .i64 y0, .int .i64 y1, .int .i64 y2, .int .i64 y3, .int .i64 y4]) := Lib.hid (by first | exact Ya.out.below hB | exact (Ya.out.alloc _).below hB); have Pb : Hid (Box wb 25 (w6.heap.size) #[.int .i64 p0, .int .i64 p1, .int .i64 p2, .int .i64 p3, .int .i64 p4]) := Lib.hid (by first | exact Pa.out.below hB | exact (Pa.out.alloc _).below hB); have Sb : Hid (Box wb 25 (w8.heap.size) #[.int .i64 s0, .int .i64 s1, .int .i64 s2, .int .i64 s3, .int .i64 s4]) := Lib.hid (by first | exact Sa.out.below hB | exact (Sa.out.alloc _).below hB); have Vb : Hid (Box wb 25 (w9.heap.size) #[.int .i64 s0, .int .i64 s1, .int .i64 s2, .int .i64 s3, .int .i64 s4]) := Lib.hid (by first | exact Va.out.below hB | exact (Va.out.alloc _).below hB); have Qb : Hid (Box wb 25 (w10.heap.size) #[.int .i64 q0, .int .i64 q1, .int .i64 q2, .int .i64 q3, .int .i64 q4]) := Lib.hid (by first | exact Qa.out.below hB | exact (Qa.out.alloc _).below hB); have Wb : Hid (Box wb 25 (w11.heap.size) #[.int .i64 p0, .int .i64 p1, .int .i64 p2, .int .i64 p3, .int .i64 p4]) := Lib.hid (by first | exact Wa.out.below hB | exact (Wa.out.alloc _).below hB); have Bb : Hid (Below w.heap.size w wb) := Lib.hid (by first | exact below_on Ba.out (Nat.le_refl _) hB | exact below_on Ba.out (Nat.le_refl _) (made1 hB).2); (try (have Nb : Hid (Box wb 25 wa.heap.size #[.int .i64 0, .int .i64 0, .int .i64 0, .int .i64 0, .int .i64 0]) := Lib.hid (made1 hB).1; obtain ⟨f0, f1, f2, f3, f4⟩ := Nb.out.free5; obtain ⟨g0, g1, g2, g3, g4⟩ := Nb.out.cell5)); (try (have Nc : Hid (Box wb 25 w12.heap.size #[.int .i64 0, .int .i64 0, .int .i64 0, .int .i64 0, .int .i64 0]) := Lib.hid (Na.out.below hB); obtain ⟨f0, f1, f2, f3, f4⟩ := Nc.out.free5; obtain ⟨g0, g1, g2, g3, g4⟩ := Nc.out.cell5)); clear hB))
  all_goals first
    | (have q := Nc; clear q; go_must (exact FINAL _ _ (w12.heap.size) (by kernel_rfl) (by kernel_rfl) (by kernel_rfl) (by kernel_rfl) (by kernel_rfl) (by kernel_rfl) (by kernel_rfl) (by kernel_rfl) (by kernel_rfl) (by kernel_rfl) (by kernel_rfl) (by kernel_rfl) (by kernel_rfl) (by kernel_rfl) (by kernel_rfl) (by kernel_rfl) (by kernel_rfl) (by kernel_rfl) (by kernel_rfl) (Lib.hid (Xb.out.far5 (Nat.ne_of_lt X12.out.lt) (.int .i64 q0) (.int .i64 q1) (.int .i64 q2) (.int .i64 q3) (.int .i64 q4))) (Lib.hid (Yb.out.far5 (Nat.ne_of_lt Y12.out.lt) (.int .i64 q0) (.int .i64 q1) (.int .i64 q2) (.int .i64 q3) (.int .i64 q4))) (Lib.hid (Pb.out.far5 (Nat.ne_of_lt P12.out.lt) (.int .i64 q0) (.int .i64 q1) (.int .i64 q2) (.int .i64 q3) (.int .i64 q4))) (Lib.hid (Sb.out.far5 (Nat.ne_of_lt S12.out.lt) (.int .i64 q0) (.int .i64 q1) (.int .i64 q2) (.int .i64 q3) (.int .i64 q4))) (Lib.hid (Vb.out.far5 (Nat.ne_of_lt V12.out.lt) (.int .i64 q0) (.int .i64 q1) (.int .i64 q2) (.int .i64 q3) (.int .i64 q4))) (Lib.hid (Qb.out.far5 (Nat.ne_of_lt Q12.out.lt) (.int .i64 q0) (.int .i64 q1) (.int .i64 q2) (.int .i64 q3) (.int .i64 q4))) (Lib.hid (Wb.out.far5 (Nat.ne_of_lt W12.out.lt) (.int .i64 q0) (.int .i64 q1) (.int .i64 q2) (.int .i64 q3) (.int .i64 q4))) (Lib.hid (Nc.out.put5 (.int .i64 q0) (.int .i64 q1) (.int .i64 q2) (.int .i64 q3) (.int .i64 q4))) (Lib.hid (below_put5 Bb.out B12.out.size (.int .i64 q0) (.int .i64 q1) (.int .i64 q2) (.int .i64 q3) (.int .i64 q4)))))
    | (have q := Nb; clear q; go_must (exact FINAL _ _ (wa.heap.size) (by kernel_rfl) (by kernel_rfl) (by kernel_rfl) (by kernel_rfl) (by kernel_rfl) (by kernel_rfl) (by kernel_rfl) (by kernel_rfl) (by kernel_rfl) (by kernel_rfl) (by kernel_rfl) (by kernel_rfl) (by kernel_rfl) (by kernel_rfl) (by kernel_rfl) (by kernel_rfl) (by kernel_rfl) (by kernel_rfl) (by kernel_rfl) (Lib.hid (Xb.out.far5 (Nat.ne_of_lt Xa.out.lt) (.int .i64 q0) (.int .i64 q1) (.int .i64 q2) (.int .i64 q3) (.int .i64 q4))) (Lib.hid (Yb.out.far5 (Nat.ne_of_lt Ya.out.lt) (.int .i64 q0) (.int .i64 q1) (.int .i64 q2) (.int .i64 q3) (.int .i64 q4))) (Lib.hid (Pb.out.far5 (Nat.ne_of_lt Pa.out.lt) (.int .i64 q0) (.int .i64 q1) (.int .i64 q2) (.int .i64 q3) (.int .i64 q4))) (Lib.hid (Sb.out.far5 (Nat.ne_of_lt Sa.out.lt) (.int .i64 q0) (.int .i64 q1) (.int .i64 q2) (.int .i64 q3) (.int .i64 q4))) (Lib.hid (Vb.out.far5 (Nat.ne_of_lt Va.out.lt) (.int .i64 q0) (.int .i64 q1) (.int .i64 q2) (.int .i64 q3) (.int .i64 q4))) (Lib.hid (Qb.out.far5 (Nat.ne_of_lt Qa.out.lt) (.int .i64 q0) (.int .i64 q1) (.int .i64 q2) (.int .i64 q3) (.int .i64 q4))) (Lib.hid (Wb.out.far5 (Nat.ne_of_lt Wa.out.lt) (.int .i64 q0) (.int .i64 q1) (.int .i64 q2) (.int .i64 q3) (.int .i64 q4))) (Lib.hid (Nb.out.put5 (.int .i64 q0) (.int .i64 q1) (.int .i64 q2) (.int .i64 q3) (.int .i64 q4))) (Lib.hid (below_put5 Bb.out Ba.out.size (.int .i64 q0) (.int .i64 q1) (.int .i64 q2) (.int .i64 q3) (.int .i64 q4)))))
    | (go_must (exact FINAL _ _ (wb.heap.size) (by kernel_rfl) (by kernel_rfl) (by kernel_rfl) (by kernel_rfl) (by kernel_rfl) (by kernel_rfl) (by kernel_rfl) (by kernel_rfl) (by kernel_rfl) (by kernel_rfl) (by kernel_rfl) (by kernel_rfl) (by kernel_rfl) (by kernel_rfl) (by kernel_rfl) (by kernel_rfl) (by kernel_rfl) (by kernel_rfl) (by kernel_rfl) (Lib.hid (Xb.out.alloc _)) (Lib.hid (Yb.out.alloc _)) (Lib.hid (Pb.out.alloc _)) (Lib.hid (Sb.out.alloc _)) (Lib.hid (Vb.out.alloc _)) (Lib.hid (Qb.out.alloc _)) (Lib.hid (Wb.out.alloc _)) (Lib.hid (Box.new wb _ _)) (Lib.hid (Bb.out.alloc Bb.out.size _))))
end Go.Proofs.YtddackdghphcnaaDoor.s13

namespace Go.Proofs.YtddackdghphcnaaDoor.laid
open Go.ChangeShapes Go.WideShapes Go.ChangeAt Go.RowKit
set_option linter.unusedVariables false
set_option maxRecDepth 100000

theorem own : ownKnob Tryd.prog.godebug = none := by kernel_rfl
theorem laidOut : laidOutB Tryd.prog = true := by kernel_rfl
theorem door_met (os : Os) (args : Array Value) : laidMetH Tryd.prog Rows.lookMakesRow.laid ((World.doorLaid Tryd.prog 24 os).forCall (fun _ _ => 0) ⟨#[], args, []⟩).memory :=
  laidMetH_of_parts3 (fuel := 8) (laidMet_of_run' 8 (by kernel_rfl) (by kernel_rfl)) (by kernel_rfl) (by kernel_rfl)
theorem tab_of_laid {W : World} (h : laidMetH Tryd.prog Rows.lookMakesRow.laid W) : s13.Tab W := by
  rw [MakeChecks.laidMetH_plain _ _ _ (by kernel_rfl)] at h
  have h2 := laidMet.tail h
  exact Lib.tabIs_of_head (g := 3) (t := 112) (e := 5) (n := 64) (by kernel_rfl) (by kernel_rfl) (by kernel_rfl) (by kernel_rfl) (by kernel_rfl) (by kernel_rfl) h2
end Go.Proofs.YtddackdghphcnaaDoor.laid
