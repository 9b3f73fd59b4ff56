/-
  The contract of CrcLinear.
-/
import Derived.Test.YtpdpdmkfgbmdmaaWalksR
namespace Go.Proofs.Ytpdpdmkfgbmdmaa
set_option linter.unusedSimpArgs false
set_option linter.unusedVariables false
open Go.RowKit
open crcs (W)

theorem xorS_list (s t : ByteArray) : (xorS s t).data.toList = xl s t := rfl
theorem xorS_size {s t : ByteArray} (h : s.size = t.size) : (xorS s t).size = s.size := by
  have := xl_len h
  show (xl s t).toArray.size = _
  rw [List.size_toArray, this]
theorem crc_lin {A B C : ByteArray} (h1 : A.size = B.size) (h2 : A.size = C.size) : wi (crcS (xorS (xorS A B) C)) = bits .xor .u32 (bits .xor .u32 (wi (crcS A)) (wi (crcS B))) (wi (crcS C)) := by
  rw [xor_w, xor_w]
  congr 1
  unfold crcS crcOf
  rw [xorS_list]
  unfold xl
  rw [xorS_list]
  unfold xl
  exact crcs.linear3 crcs.ones _ _ _ (by simpa using h1) (by simpa using h2)
theorem of_lin (A B C : ByteArray) (h1 : A.size = B.size) (h2 : A.size = C.size) (hs : A.size ≤ 1000000) (W0 : World) :
    Calls Try.prog 16 #[.slice (some ⟨W0.heap.size, 0, none⟩) 1 1] (W0.alloc (.cells #[.string (xorS (xorS A B) C)] 9)) fun e w' => e = .returned (.int .u32 (bits .xor .u32 (bits .xor .u32 (wi (crcS A)) (wi (crcS B))) (wi (crcS C)))) ∧ Below W0.heap.size W0 w' := by
  rw [← crc_lin h1 h2]
  exact of_S _ W0 (by rw [xorS_size (by rw [xorS_size h1]; exact h2), xorS_size h1]; omega)
theorem crc_last {A B D : ByteArray} {q : Nat} (hA : A.size = q + 4) (hB : B.size = q + 4) (hD : A.extract 0 q ++ B.extract q B.size = D) : crcS A = crcS D ↔ A = D := by
  have e1 : A.data.toList = A.data.toList.take q ++ A.data.toList.drop q := (List.take_append_drop q _).symm
  have e2 : D.data.toList = A.data.toList.take q ++ B.data.toList.drop q := by
    rw [← hD, ByteArray.data_append, Array.toList_append, ByteArray.data_extract, ByteArray.data_extract]
    have : B.data.toList.length = q + 4 := by simpa using hB
    simp [List.take_of_length_le, hB]
  constructor
  · intro h
    unfold crcS crcOf at h
    have h' : crcs.adds crcs.ones A.data.toList = crcs.adds crcs.ones D.data.toList := by
      have := congrArg (fun x => ~~~x) h
      simpa using this
    rw [e1, e2] at h'
    have := (crcs.last4 crcs.ones _ _ _ (by simp [hA]) (by simp [hB])).1 h'
    apply bytes_ext
    rw [e1, e2, this]
  · rintro rfl; rfl

set_option maxRecDepth 100000 in
set_option maxHeartbeats 2000000 in
theorem lin_short_1 (a b c A B C : ByteArray) (m : Nat) (w : World) (ha : a.size ≤ 100) (hb : b.size ≤ 100) (hc : c.size ≤ 100) (e1 : a.size = m) (t1 : ¬ b.size < a.size) (t2 : m ≤ b.size) (t3 : m ≤ c.size) (hA : a.extract 0 m = A) (hB : b.extract 0 m = B) (hC : c.extract 0 m = C) (h4 : m < 4) :
    Calls Try.prog 7 #[.string a, .string b, .string c] w fun e w' => e = .returned (.bool true) ∧ Below w.heap.size w w' := by
  have ma : m ≤ a.size := by omega
  have mb : m ≤ b.size := by omega
  have mc : m ≤ c.size := by omega
  have m1 : m ≤ 100 := by omega
  have sA : A.size = m := by rw [← hA, ByteArray.size_extract]; omega
  have sB : B.size = m := by rw [← hB, ByteArray.size_extract]; omega
  have sC : C.size = m := by rw [← hC, ByteArray.size_extract]; omega
  have zA : A.size ≤ 100 := by omega
  have zB : B.size ≤ 100 := by omega
  have zC : C.size ≤ 100 := by omega
  have AB : Hid (A.size = B.size) := Lib.hid (by rw [sA, sB])
  have AC : Hid (A.size = C.size) := Lib.hid (by rw [sA, sC])
  have XC : Hid ((xorS A B).size = C.size) := Lib.hid (by rw [xorS_size AB.out, sA, sC])
  have zX : (xorS A B).size ≤ 100 := by rw [xorS_size AB.out]; exact zA
  clear sA sB sC
  go_enter Try.func7, Try.ntmps7
  go_wp2_with (go_at_call 5; (with_reducible refine (known_any _).mono ?_); rintro e w1 ⟨rfl, hB1⟩)
  go_quiet (fail)
  have K1 := below_drewN hB1 nq
  generalize w1.drewN nq = w1 at K1 ⊢
  clear hB1
  go_wp2_with (first
    | (go_at_call 35; (with_reducible refine (joined_any A B _ (by omega) AB.out).mono ?_); rintro e w2 ⟨rfl, hB2⟩; have K2 := below_then K1 hB2)
    | (go_at_call 35; (with_reducible refine (joined_any (xorS A B) C _ (by omega) XC.out).mono ?_); rintro e w3 ⟨rfl, hB3⟩; have K3 := below_then K2 hB3)
    | (go_at_call 16; (with_reducible refine (of_lin A B C AB.out AC.out (by omega) _).mono ?_); rintro e w4 ⟨rfl, hB4⟩; have K4 := below_then K3 hB4)
    | (go_at_call 16; (with_reducible refine (of_S A _ (by omega)).mono ?_); rintro e w5 ⟨rfl, hB5⟩; have K5 := below_then K4 hB5)
    | (go_at_call 16; (with_reducible refine (of_S B _ (by omega)).mono ?_); rintro e w6 ⟨rfl, hB6⟩; have K6 := below_then K5 hB6)
    | (go_at_call 16; (with_reducible refine (of_S C _ (by omega)).mono ?_); rintro e w7 ⟨rfl, hB7⟩; have K7 := below_then K6 hB7))
  go_ret
  exact ⟨rfl, K7⟩
set_option maxRecDepth 100000 in
set_option maxHeartbeats 2000000 in
theorem lin_long_1 (a b c A B C : ByteArray) (m : Nat) (w : World) (ha : a.size ≤ 100) (hb : b.size ≤ 100) (hc : c.size ≤ 100) (e1 : a.size = m) (t1 : ¬ b.size < a.size) (t2 : m ≤ b.size) (t3 : m ≤ c.size) (hA : a.extract 0 m = A) (hB : b.extract 0 m = B) (hC : c.extract 0 m = C) (q : Nat) (h4 : m = q + 4) :
    Calls Try.prog 7 #[.string a, .string b, .string c] w fun e w' => e = .returned (.bool true) ∧ Below w.heap.size w w' := by
  have ma : m ≤ a.size := by omega
  have mb : m ≤ b.size := by omega
  have mc : m ≤ c.size := by omega
  have m1 : m ≤ 100 := by omega
  have sA : A.size = m := by rw [← hA, ByteArray.size_extract]; omega
  have sB : B.size = m := by rw [← hB, ByteArray.size_extract]; omega
  have sC : C.size = m := by rw [← hC, ByteArray.size_extract]; omega
  have zA : A.size ≤ 100 := by omega
  have zB : B.size ≤ 100 := by omega
  have zC : C.size ≤ 100 := by omega
  have AB : Hid (A.size = B.size) := Lib.hid (by rw [sA, sB])
  have AC : Hid (A.size = C.size) := Lib.hid (by rw [sA, sC])
  have XC : Hid ((xorS A B).size = C.size) := Lib.hid (by rw [xorS_size AB.out, sA, sC])
  have zX : (xorS A B).size ≤ 100 := by rw [xorS_size AB.out]; exact zA
  obtain ⟨D, hD⟩ : ∃ D, A.extract 0 q ++ B.extract q B.size = D := ⟨_, rfl⟩
  have hlast := Lib.hid (crc_last (A := A) (B := B) (D := D) (q := q) (by omega) (by omega) hD)
  have zD : D.size ≤ 200 := by rw [← hD, ByteArray.size_append, ByteArray.size_extract, ByteArray.size_extract]; omega
  have q1 : q ≤ A.size := by omega
  have q2 : q ≤ B.size := by omega
  have q3 : (A.extract 0 q).size + (B.extract q B.size).size ≤ 9223372036854775807 := by rw [ByteArray.size_extract, ByteArray.size_extract]; omega
  have q4 : (m : Int) - 4 = q := by omega
  have q5 : IntKind.i64.wrap ((m : Int) - 4) = q := by rw [q4]; exact IntWalk.i64_in _ (by omega)
  have q6 : (4 : Int) ≤ m := by omega
  have q7 : IntKind.i64.wrap (q : Int) = q := IntWalk.i64_in _ (by omega)
  clear sA sB sC h4
  go_enter Try.func7, Try.ntmps7
  go_wp2_with (go_at_call 5; (with_reducible refine (known_any _).mono ?_); rintro e w1 ⟨rfl, hB1⟩)
  go_quiet (fail)
  have K1 := below_drewN hB1 nq
  generalize w1.drewN nq = w1 at K1 ⊢
  clear hB1
  go_wp2_with (first
    | (go_at_call 35; (with_reducible refine (joined_any A B _ (by omega) AB.out).mono ?_); rintro e w2 ⟨rfl, hB2⟩; have K2 := below_then K1 hB2)
    | (go_at_call 35; (with_reducible refine (joined_any (xorS A B) C _ (by omega) XC.out).mono ?_); rintro e w3 ⟨rfl, hB3⟩; have K3 := below_then K2 hB3)
    | (go_at_call 16; (with_reducible refine (of_lin A B C AB.out AC.out (by omega) _).mono ?_); rintro e w4 ⟨rfl, hB4⟩; have K4 := below_then K3 hB4)
    | (go_at_call 16; (with_reducible refine (of_S A _ (by omega)).mono ?_); rintro e w5 ⟨rfl, hB5⟩; have K5 := below_then K4 hB5)
    | (go_at_call 16; (with_reducible refine (of_S B _ (by omega)).mono ?_); rintro e w6 ⟨rfl, hB6⟩; have K6 := below_then K5 hB6)
    | (go_at_call 16; (with_reducible refine (of_S C _ (by omega)).mono ?_); rintro e w7 ⟨rfl, hB7⟩; have K7 := below_then K6 hB7))
  go_quiet (fail)
  have K8 := below_drewN K7 nq
  generalize w7.drewN nq = w8 at K8 ⊢
  clear hA hB hC hD e1
  by_cases hAD : A = D
  · have f1 : (wi (crcS A) == wi (crcS D)) = true := by rw [hlast.out.2 hAD]; exact beq_self_eq_true _
    have f2 := str_beq_true hAD
    clear hAD
    go_wp2_with (first
      | (go_at_call 16; (with_reducible refine (of_S A _ (by omega)).mono ?_); rintro e w9 ⟨rfl, hB9⟩; have K9 := below_then K8 hB9)
      | (go_at_call 16; (with_reducible refine (of_S D _ (by omega)).mono ?_); rintro e w10 ⟨rfl, hB10⟩; have K10 := below_then K9 hB10))
    go_ret
    exact ⟨rfl, K10⟩
  · have f1 : (wi (crcS A) == wi (crcS D)) = false := by rw [beq_eq_false_iff_ne]; exact fun e => hAD (hlast.out.1 (wi_inj e))
    have f2 := str_beq_false hAD
    clear hAD
    go_wp2_with (first
      | (go_at_call 16; (with_reducible refine (of_S A _ (by omega)).mono ?_); rintro e w9 ⟨rfl, hB9⟩; have K9 := below_then K8 hB9)
      | (go_at_call 16; (with_reducible refine (of_S D _ (by omega)).mono ?_); rintro e w10 ⟨rfl, hB10⟩; have K10 := below_then K9 hB10))
    go_ret
    exact ⟨rfl, K10⟩
set_option maxRecDepth 100000 in
set_option maxHeartbeats 2000000 in
theorem lin_short_2 (a b c A B C : ByteArray) (m : Nat) (w : World) (ha : a.size ≤ 100) (hb : b.size ≤ 100) (hc : c.size ≤ 100) (e1 : b.size = m) (t1 : b.size < a.size) (t2 : m ≤ a.size) (t3 : m ≤ c.size) (hA : a.extract 0 m = A) (hB : b.extract 0 m = B) (hC : c.extract 0 m = C) (h4 : m < 4) :
    Calls Try.prog 7 #[.string a, .string b, .string c] w fun e w' => e = .returned (.bool true) ∧ Below w.heap.size w w' := by
  have ma : m ≤ a.size := by omega
  have mb : m ≤ b.size := by omega
  have mc : m ≤ c.size := by omega
  have m1 : m ≤ 100 := by omega
  have sA : A.size = m := by rw [← hA, ByteArray.size_extract]; omega
  have sB : B.size = m := by rw [← hB, ByteArray.size_extract]; omega
  have sC : C.size = m := by rw [← hC, ByteArray.size_extract]; omega
  have zA : A.size ≤ 100 := by omega
  have zB : B.size ≤ 100 := by omega
  have zC : C.size ≤ 100 := by omega
  have AB : Hid (A.size = B.size) := Lib.hid (by rw [sA, sB])
  have AC : Hid (A.size = C.size) := Lib.hid (by rw [sA, sC])
  have XC : Hid ((xorS A B).size = C.size) := Lib.hid (by rw [xorS_size AB.out, sA, sC])
  have zX : (xorS A B).size ≤ 100 := by rw [xorS_size AB.out]; exact zA
  clear sA sB sC
  go_enter Try.func7, Try.ntmps7
  go_wp2_with (go_at_call 5; (with_reducible refine (known_any _).mono ?_); rintro e w1 ⟨rfl, hB1⟩)
  go_quiet (fail)
  have K1 := below_drewN hB1 nq
  generalize w1.drewN nq = w1 at K1 ⊢
  clear hB1
  go_wp2_with (first
    | (go_at_call 35; (with_reducible refine (joined_any A B _ (by omega) AB.out).mono ?_); rintro e w2 ⟨rfl, hB2⟩; have K2 := below_then K1 hB2)
    | (go_at_call 35; (with_reducible refine (joined_any (xorS A B) C _ (by omega) XC.out).mono ?_); rintro e w3 ⟨rfl, hB3⟩; have K3 := below_then K2 hB3)
    | (go_at_call 16; (with_reducible refine (of_lin A B C AB.out AC.out (by omega) _).mono ?_); rintro e w4 ⟨rfl, hB4⟩; have K4 := below_then K3 hB4)
    | (go_at_call 16; (with_reducible refine (of_S A _ (by omega)).mono ?_); rintro e w5 ⟨rfl, hB5⟩; have K5 := below_then K4 hB5)
    | (go_at_call 16; (with_reducible refine (of_S B _ (by omega)).mono ?_); rintro e w6 ⟨rfl, hB6⟩; have K6 := below_then K5 hB6)
    | (go_at_call 16; (with_reducible refine (of_S C _ (by omega)).mono ?_); rintro e w7 ⟨rfl, hB7⟩; have K7 := below_then K6 hB7))
  go_ret
  exact ⟨rfl, K7⟩
set_option maxRecDepth 100000 in
set_option maxHeartbeats 2000000 in
theorem lin_long_2 (a b c A B C : ByteArray) (m : Nat) (w : World) (ha : a.size ≤ 100) (hb : b.size ≤ 100) (hc : c.size ≤ 100) (e1 : b.size = m) (t1 : b.size < a.size) (t2 : m ≤ a.size) (t3 : m ≤ c.size) (hA : a.extract 0 m = A) (hB : b.extract 0 m = B) (hC : c.extract 0 m = C) (q : Nat) (h4 : m = q + 4) :
    Calls Try.prog 7 #[.string a, .string b, .string c] w fun e w' => e = .returned (.bool true) ∧ Below w.heap.size w w' := by
  have ma : m ≤ a.size := by omega
  have mb : m ≤ b.size := by omega
  have mc : m ≤ c.size := by omega
  have m1 : m ≤ 100 := by omega
  have sA : A.size = m := by rw [← hA, ByteArray.size_extract]; omega
  have sB : B.size = m := by rw [← hB, ByteArray.size_extract]; omega
  have sC : C.size = m := by rw [← hC, ByteArray.size_extract]; omega
  have zA : A.size ≤ 100 := by omega
  have zB : B.size ≤ 100 := by omega
  have zC : C.size ≤ 100 := by omega
  have AB : Hid (A.size = B.size) := Lib.hid (by rw [sA, sB])
  have AC : Hid (A.size = C.size) := Lib.hid (by rw [sA, sC])
  have XC : Hid ((xorS A B).size = C.size) := Lib.hid (by rw [xorS_size AB.out, sA, sC])
  have zX : (xorS A B).size ≤ 100 := by rw [xorS_size AB.out]; exact zA
  obtain ⟨D, hD⟩ : ∃ D, A.extract 0 q ++ B.extract q B.size = D := ⟨_, rfl⟩
  have hlast := Lib.hid (crc_last (A := A) (B := B) (D := D) (q := q) (by omega) (by omega) hD)
  have zD : D.size ≤ 200 := by rw [← hD, ByteArray.size_append, ByteArray.size_extract, ByteArray.size_extract]; omega
  have q1 : q ≤ A.size := by omega
  have q2 : q ≤ B.size := by omega
  have q3 : (A.extract 0 q).size + (B.extract q B.size).size ≤ 9223372036854775807 := by rw [ByteArray.size_extract, ByteArray.size_extract]; omega
  have q4 : (m : Int) - 4 = q := by omega
  have q5 : IntKind.i64.wrap ((m : Int) - 4) = q := by rw [q4]; exact IntWalk.i64_in _ (by omega)
  have q6 : (4 : Int) ≤ m := by omega
  have q7 : IntKind.i64.wrap (q : Int) = q := IntWalk.i64_in _ (by omega)
  clear sA sB sC h4
  go_enter Try.func7, Try.ntmps7
  go_wp2_with (go_at_call 5; (with_reducible refine (known_any _).mono ?_); rintro e w1 ⟨rfl, hB1⟩)
  go_quiet (fail)
  have K1 := below_drewN hB1 nq
  generalize w1.drewN nq = w1 at K1 ⊢
  clear hB1
  go_wp2_with (first
    | (go_at_call 35; (with_reducible refine (joined_any A B _ (by omega) AB.out).mono ?_); rintro e w2 ⟨rfl, hB2⟩; have K2 := below_then K1 hB2)
    | (go_at_call 35; (with_reducible refine (joined_any (xorS A B) C _ (by omega) XC.out).mono ?_); rintro e w3 ⟨rfl, hB3⟩; have K3 := below_then K2 hB3)
    | (go_at_call 16; (with_reducible refine (of_lin A B C AB.out AC.out (by omega) _).mono ?_); rintro e w4 ⟨rfl, hB4⟩; have K4 := below_then K3 hB4)
    | (go_at_call 16; (with_reducible refine (of_S A _ (by omega)).mono ?_); rintro e w5 ⟨rfl, hB5⟩; have K5 := below_then K4 hB5)
    | (go_at_call 16; (with_reducible refine (of_S B _ (by omega)).mono ?_); rintro e w6 ⟨rfl, hB6⟩; have K6 := below_then K5 hB6)
    | (go_at_call 16; (with_reducible refine (of_S C _ (by omega)).mono ?_); rintro e w7 ⟨rfl, hB7⟩; have K7 := below_then K6 hB7))
  go_quiet (fail)
  have K8 := below_drewN K7 nq
  generalize w7.drewN nq = w8 at K8 ⊢
  clear hA hB hC hD e1
  by_cases hAD : A = D
  · have f1 : (wi (crcS A) == wi (crcS D)) = true := by rw [hlast.out.2 hAD]; exact beq_self_eq_true _
    have f2 := str_beq_true hAD
    clear hAD
    go_wp2_with (first
      | (go_at_call 16; (with_reducible refine (of_S A _ (by omega)).mono ?_); rintro e w9 ⟨rfl, hB9⟩; have K9 := below_then K8 hB9)
      | (go_at_call 16; (with_reducible refine (of_S D _ (by omega)).mono ?_); rintro e w10 ⟨rfl, hB10⟩; have K10 := below_then K9 hB10))
    go_ret
    exact ⟨rfl, K10⟩
  · have f1 : (wi (crcS A) == wi (crcS D)) = false := by rw [beq_eq_false_iff_ne]; exact fun e => hAD (hlast.out.1 (wi_inj e))
    have f2 := str_beq_false hAD
    clear hAD
    go_wp2_with (first
      | (go_at_call 16; (with_reducible refine (of_S A _ (by omega)).mono ?_); rintro e w9 ⟨rfl, hB9⟩; have K9 := below_then K8 hB9)
      | (go_at_call 16; (with_reducible refine (of_S D _ (by omega)).mono ?_); rintro e w10 ⟨rfl, hB10⟩; have K10 := below_then K9 hB10))
    go_ret
    exact ⟨rfl, K10⟩
set_option maxRecDepth 100000 in
set_option maxHeartbeats 2000000 in
theorem lin_short_3 (a b c A B C : ByteArray) (m : Nat) (w : World) (ha : a.size ≤ 100) (hb : b.size ≤ 100) (hc : c.size ≤ 100) (e1 : c.size = m) (t1 : b.size < a.size) (t2 : m < b.size) (t3 : m ≤ a.size) (hA : a.extract 0 m = A) (hB : b.extract 0 m = B) (hC : c.extract 0 m = C) (h4 : m < 4) :
    Calls Try.prog 7 #[.string a, .string b, .string c] w fun e w' => e = .returned (.bool true) ∧ Below w.heap.size w w' := by
  have ma : m ≤ a.size := by omega
  have mb : m ≤ b.size := by omega
  have mc : m ≤ c.size := by omega
  have m1 : m ≤ 100 := by omega
  have sA : A.size = m := by rw [← hA, ByteArray.size_extract]; omega
  have sB : B.size = m := by rw [← hB, ByteArray.size_extract]; omega
  have sC : C.size = m := by rw [← hC, ByteArray.size_extract]; omega
  have zA : A.size ≤ 100 := by omega
  have zB : B.size ≤ 100 := by omega
  have zC : C.size ≤ 100 := by omega
  have AB : Hid (A.size = B.size) := Lib.hid (by rw [sA, sB])
  have AC : Hid (A.size = C.size) := Lib.hid (by rw [sA, sC])
  have XC : Hid ((xorS A B).size = C.size) := Lib.hid (by rw [xorS_size AB.out, sA, sC])
  have zX : (xorS A B).size ≤ 100 := by rw [xorS_size AB.out]; exact zA
  clear sA sB sC
  go_enter Try.func7, Try.ntmps7
  go_wp2_with (go_at_call 5; (with_reducible refine (known_any _).mono ?_); rintro e w1 ⟨rfl, hB1⟩)
  go_quiet (fail)
  have K1 := below_drewN hB1 nq
  generalize w1.drewN nq = w1 at K1 ⊢
  clear hB1
  go_wp2_with (first
    | (go_at_call 35; (with_reducible refine (joined_any A B _ (by omega) AB.out).mono ?_); rintro e w2 ⟨rfl, hB2⟩; have K2 := below_then K1 hB2)
    | (go_at_call 35; (with_reducible refine (joined_any (xorS A B) C _ (by omega) XC.out).mono ?_); rintro e w3 ⟨rfl, hB3⟩; have K3 := below_then K2 hB3)
    | (go_at_call 16; (with_reducible refine (of_lin A B C AB.out AC.out (by omega) _).mono ?_); rintro e w4 ⟨rfl, hB4⟩; have K4 := below_then K3 hB4)
    | (go_at_call 16; (with_reducible refine (of_S A _ (by omega)).mono ?_); rintro e w5 ⟨rfl, hB5⟩; have K5 := below_then K4 hB5)
    | (go_at_call 16; (with_reducible refine (of_S B _ (by omega)).mono ?_); rintro e w6 ⟨rfl, hB6⟩; have K6 := below_then K5 hB6)
    | (go_at_call 16; (with_reducible refine (of_S C _ (by omega)).mono ?_); rintro e w7 ⟨rfl, hB7⟩; have K7 := below_then K6 hB7))
  go_ret
  exact ⟨rfl, K7⟩
set_option maxRecDepth 100000 in
set_option maxHeartbeats 2000000 in
theorem lin_long_3 (a b c A B C : ByteArray) (m : Nat) (w : World) (ha : a.size ≤ 100) (hb : b.size ≤ 100) (hc : c.size ≤ 100) (e1 : c.size = m) (t1 : b.size < a.size) (t2 : m < b.size) (t3 : m ≤ a.size) (hA : a.extract 0 m = A) (hB : b.extract 0 m = B) (hC : c.extract 0 m = C) (q : Nat) (h4 : m = q + 4) :
    Calls Try.prog 7 #[.string a, .string b, .string c] w fun e w' => e = .returned (.bool true) ∧ Below w.heap.size w w' := by
  have ma : m ≤ a.size := by omega
  have mb : m ≤ b.size := by omega
  have mc : m ≤ c.size := by omega
  have m1 : m ≤ 100 := by omega
  have sA : A.size = m := by rw [← hA, ByteArray.size_extract]; omega
  have sB : B.size = m := by rw [← hB, ByteArray.size_extract]; omega
  have sC : C.size = m := by rw [← hC, ByteArray.size_extract]; omega
  have zA : A.size ≤ 100 := by omega
  have zB : B.size ≤ 100 := by omega
  have zC : C.size ≤ 100 := by omega
  have AB : Hid (A.size = B.size) := Lib.hid (by rw [sA, sB])
  have AC : Hid (A.size = C.size) := Lib.hid (by rw [sA, sC])
  have XC : Hid ((xorS A B).size = C.size) := Lib.hid (by rw [xorS_size AB.out, sA, sC])
  have zX : (xorS A B).size ≤ 100 := by rw [xorS_size AB.out]; exact zA
  obtain ⟨D, hD⟩ : ∃ D, A.extract 0 q ++ B.extract q B.size = D := ⟨_, rfl⟩
  have hlast := Lib.hid (crc_last (A := A) (B := B) (D := D) (q := q) (by omega) (by omega) hD)
  have zD : D.size ≤ 200 := by rw [← hD, ByteArray.size_append, ByteArray.size_extract, ByteArray.size_extract]; omega
  have q1 : q ≤ A.size := by omega
  have q2 : q ≤ B.size := by omega
  have q3 : (A.extract 0 q).size + (B.extract q B.size).size ≤ 9223372036854775807 := by rw [ByteArray.size_extract, ByteArray.size_extract]; omega
  have q4 : (m : Int) - 4 = q := by omega
  have q5 : IntKind.i64.wrap ((m : Int) - 4) = q := by rw [q4]; exact IntWalk.i64_in _ (by omega)
  have q6 : (4 : Int) ≤ m := by omega
  have q7 : IntKind.i64.wrap (q : Int) = q := IntWalk.i64_in _ (by omega)
  clear sA sB sC h4
  go_enter Try.func7, Try.ntmps7
  go_wp2_with (go_at_call 5; (with_reducible refine (known_any _).mono ?_); rintro e w1 ⟨rfl, hB1⟩)
  go_quiet (fail)
  have K1 := below_drewN hB1 nq
  generalize w1.drewN nq = w1 at K1 ⊢
  clear hB1
  go_wp2_with (first
    | (go_at_call 35; (with_reducible refine (joined_any A B _ (by omega) AB.out).mono ?_); rintro e w2 ⟨rfl, hB2⟩; have K2 := below_then K1 hB2)
    | (go_at_call 35; (with_reducible refine (joined_any (xorS A B) C _ (by omega) XC.out).mono ?_); rintro e w3 ⟨rfl, hB3⟩; have K3 := below_then K2 hB3)
    | (go_at_call 16; (with_reducible refine (of_lin A B C AB.out AC.out (by omega) _).mono ?_); rintro e w4 ⟨rfl, hB4⟩; have K4 := below_then K3 hB4)
    | (go_at_call 16; (with_reducible refine (of_S A _ (by omega)).mono ?_); rintro e w5 ⟨rfl, hB5⟩; have K5 := below_then K4 hB5)
    | (go_at_call 16; (with_reducible refine (of_S B _ (by omega)).mono ?_); rintro e w6 ⟨rfl, hB6⟩; have K6 := below_then K5 hB6)
    | (go_at_call 16; (with_reducible refine (of_S C _ (by omega)).mono ?_); rintro e w7 ⟨rfl, hB7⟩; have K7 := below_then K6 hB7))
  go_quiet (fail)
  have K8 := below_drewN K7 nq
  generalize w7.drewN nq = w8 at K8 ⊢
  clear hA hB hC hD e1
  by_cases hAD : A = D
  · have f1 : (wi (crcS A) == wi (crcS D)) = true := by rw [hlast.out.2 hAD]; exact beq_self_eq_true _
    have f2 := str_beq_true hAD
    clear hAD
    go_wp2_with (first
      | (go_at_call 16; (with_reducible refine (of_S A _ (by omega)).mono ?_); rintro e w9 ⟨rfl, hB9⟩; have K9 := below_then K8 hB9)
      | (go_at_call 16; (with_reducible refine (of_S D _ (by omega)).mono ?_); rintro e w10 ⟨rfl, hB10⟩; have K10 := below_then K9 hB10))
    go_ret
    exact ⟨rfl, K10⟩
  · have f1 : (wi (crcS A) == wi (crcS D)) = false := by rw [beq_eq_false_iff_ne]; exact fun e => hAD (hlast.out.1 (wi_inj e))
    have f2 := str_beq_false hAD
    clear hAD
    go_wp2_with (first
      | (go_at_call 16; (with_reducible refine (of_S A _ (by omega)).mono ?_); rintro e w9 ⟨rfl, hB9⟩; have K9 := below_then K8 hB9)
      | (go_at_call 16; (with_reducible refine (of_S D _ (by omega)).mono ?_); rintro e w10 ⟨rfl, hB10⟩; have K10 := below_then K9 hB10))
    go_ret
    exact ⟨rfl, K10⟩
set_option maxRecDepth 100000 in
set_option maxHeartbeats 2000000 in
theorem lin_short_4 (a b c A B C : ByteArray) (m : Nat) (w : World) (ha : a.size ≤ 100) (hb : b.size ≤ 100) (hc : c.size ≤ 100) (e1 : c.size = m) (t1 : ¬ b.size < a.size) (t2 : m < a.size) (t3 : m ≤ b.size) (hA : a.extract 0 m = A) (hB : b.extract 0 m = B) (hC : c.extract 0 m = C) (h4 : m < 4) :
    Calls Try.prog 7 #[.string a, .string b, .string c] w fun e w' => e = .returned (.bool true) ∧ Below w.heap.size w w' := by
  have ma : m ≤ a.size := by omega
  have mb : m ≤ b.size := by omega
  have mc : m ≤ c.size := by omega
  have m1 : m ≤ 100 := by omega
  have sA : A.size = m := by rw [← hA, ByteArray.size_extract]; omega
  have sB : B.size = m := by rw [← hB, ByteArray.size_extract]; omega
  have sC : C.size = m := by rw [← hC, ByteArray.size_extract]; omega
  have zA : A.size ≤ 100 := by omega
  have zB : B.size ≤ 100 := by omega
  have zC : C.size ≤ 100 := by omega
  have AB : Hid (A.size = B.size) := Lib.hid (by rw [sA, sB])
  have AC : Hid (A.size = C.size) := Lib.hid (by rw [sA, sC])
  have XC : Hid ((xorS A B).size = C.size) := Lib.hid (by rw [xorS_size AB.out, sA, sC])
  have zX : (xorS A B).size ≤ 100 := by rw [xorS_size AB.out]; exact zA
  clear sA sB sC
  go_enter Try.func7, Try.ntmps7
  go_wp2_with (go_at_call 5; (with_reducible refine (known_any _).mono ?_); rintro e w1 ⟨rfl, hB1⟩)
  go_quiet (fail)
  have K1 := below_drewN hB1 nq
  generalize w1.drewN nq = w1 at K1 ⊢
  clear hB1
  go_wp2_with (first
    | (go_at_call 35; (with_reducible refine (joined_any A B _ (by omega) AB.out).mono ?_); rintro e w2 ⟨rfl, hB2⟩; have K2 := below_then K1 hB2)
    | (go_at_call 35; (with_reducible refine (joined_any (xorS A B) C _ (by omega) XC.out).mono ?_); rintro e w3 ⟨rfl, hB3⟩; have K3 := below_then K2 hB3)
    | (go_at_call 16; (with_reducible refine (of_lin A B C AB.out AC.out (by omega) _).mono ?_); rintro e w4 ⟨rfl, hB4⟩; have K4 := below_then K3 hB4)
    | (go_at_call 16; (with_reducible refine (of_S A _ (by omega)).mono ?_); rintro e w5 ⟨rfl, hB5⟩; have K5 := below_then K4 hB5)
    | (go_at_call 16; (with_reducible refine (of_S B _ (by omega)).mono ?_); rintro e w6 ⟨rfl, hB6⟩; have K6 := below_then K5 hB6)
    | (go_at_call 16; (with_reducible refine (of_S C _ (by omega)).mono ?_); rintro e w7 ⟨rfl, hB7⟩; have K7 := below_then K6 hB7))
  go_ret
  exact ⟨rfl, K7⟩
set_option maxRecDepth 100000 in
set_option maxHeartbeats 2000000 in
theorem lin_long_4 (a b c A B C : ByteArray) (m : Nat) (w : World) (ha : a.size ≤ 100) (hb : b.size ≤ 100) (hc : c.size ≤ 100) (e1 : c.size = m) (t1 : ¬ b.size < a.size) (t2 : m < a.size) (t3 : m ≤ b.size) (hA : a.extract 0 m = A) (hB : b.extract 0 m = B) (hC : c.extract 0 m = C) (q : Nat) (h4 : m = q + 4) :
    Calls Try.prog 7 #[.string a, .string b, .string c] w fun e w' => e = .returned (.bool true) ∧ Below w.heap.size w w' := by
  have ma : m ≤ a.size := by omega
  have mb : m ≤ b.size := by omega
  have mc : m ≤ c.size := by omega
  have m1 : m ≤ 100 := by omega
  have sA : A.size = m := by rw [← hA, ByteArray.size_extract]; omega
  have sB : B.size = m := by rw [← hB, ByteArray.size_extract]; omega
  have sC : C.size = m := by rw [← hC, ByteArray.size_extract]; omega
  have zA : A.size ≤ 100 := by omega
  have zB : B.size ≤ 100 := by omega
  have zC : C.size ≤ 100 := by omega
  have AB : Hid (A.size = B.size) := Lib.hid (by rw [sA, sB])
  have AC : Hid (A.size = C.size) := Lib.hid (by rw [sA, sC])
  have XC : Hid ((xorS A B).size = C.size) := Lib.hid (by rw [xorS_size AB.out, sA, sC])
  have zX : (xorS A B).size ≤ 100 := by rw [xorS_size AB.out]; exact zA
  obtain ⟨D, hD⟩ : ∃ D, A.extract 0 q ++ B.extract q B.size = D := ⟨_, rfl⟩
  have hlast := Lib.hid (crc_last (A := A) (B := B) (D := D) (q := q) (by omega) (by omega) hD)
  have zD : D.size ≤ 200 := by rw [← hD, ByteArray.size_append, ByteArray.size_extract, ByteArray.size_extract]; omega
  have q1 : q ≤ A.size := by omega
  have q2 : q ≤ B.size := by omega
  have q3 : (A.extract 0 q).size + (B.extract q B.size).size ≤ 9223372036854775807 := by rw [ByteArray.size_extract, ByteArray.size_extract]; omega
  have q4 : (m : Int) - 4 = q := by omega
  have q5 : IntKind.i64.wrap ((m : Int) - 4) = q := by rw [q4]; exact IntWalk.i64_in _ (by omega)
  have q6 : (4 : Int) ≤ m := by omega
  have q7 : IntKind.i64.wrap (q : Int) = q := IntWalk.i64_in _ (by omega)
  clear sA sB sC h4
  go_enter Try.func7, Try.ntmps7
  go_wp2_with (go_at_call 5; (with_reducible refine (known_any _).mono ?_); rintro e w1 ⟨rfl, hB1⟩)
  go_quiet (fail)
  have K1 := below_drewN hB1 nq
  generalize w1.drewN nq = w1 at K1 ⊢
  clear hB1
  go_wp2_with (first
    | (go_at_call 35; (with_reducible refine (joined_any A B _ (by omega) AB.out).mono ?_); rintro e w2 ⟨rfl, hB2⟩; have K2 := below_then K1 hB2)
    | (go_at_call 35; (with_reducible refine (joined_any (xorS A B) C _ (by omega) XC.out).mono ?_); rintro e w3 ⟨rfl, hB3⟩; have K3 := below_then K2 hB3)
    | (go_at_call 16; (with_reducible refine (of_lin A B C AB.out AC.out (by omega) _).mono ?_); rintro e w4 ⟨rfl, hB4⟩; have K4 := below_then K3 hB4)
    | (go_at_call 16; (with_reducible refine (of_S A _ (by omega)).mono ?_); rintro e w5 ⟨rfl, hB5⟩; have K5 := below_then K4 hB5)
    | (go_at_call 16; (with_reducible refine (of_S B _ (by omega)).mono ?_); rintro e w6 ⟨rfl, hB6⟩; have K6 := below_then K5 hB6)
    | (go_at_call 16; (with_reducible refine (of_S C _ (by omega)).mono ?_); rintro e w7 ⟨rfl, hB7⟩; have K7 := below_then K6 hB7))
  go_quiet (fail)
  have K8 := below_drewN K7 nq
  generalize w7.drewN nq = w8 at K8 ⊢
  clear hA hB hC hD e1
  by_cases hAD : A = D
  · have f1 : (wi (crcS A) == wi (crcS D)) = true := by rw [hlast.out.2 hAD]; exact beq_self_eq_true _
    have f2 := str_beq_true hAD
    clear hAD
    go_wp2_with (first
      | (go_at_call 16; (with_reducible refine (of_S A _ (by omega)).mono ?_); rintro e w9 ⟨rfl, hB9⟩; have K9 := below_then K8 hB9)
      | (go_at_call 16; (with_reducible refine (of_S D _ (by omega)).mono ?_); rintro e w10 ⟨rfl, hB10⟩; have K10 := below_then K9 hB10))
    go_ret
    exact ⟨rfl, K10⟩
  · have f1 : (wi (crcS A) == wi (crcS D)) = false := by rw [beq_eq_false_iff_ne]; exact fun e => hAD (hlast.out.1 (wi_inj e))
    have f2 := str_beq_false hAD
    clear hAD
    go_wp2_with (first
      | (go_at_call 16; (with_reducible refine (of_S A _ (by omega)).mono ?_); rintro e w9 ⟨rfl, hB9⟩; have K9 := below_then K8 hB9)
      | (go_at_call 16; (with_reducible refine (of_S D _ (by omega)).mono ?_); rintro e w10 ⟨rfl, hB10⟩; have K10 := below_then K9 hB10))
    go_ret
    exact ⟨rfl, K10⟩
end Go.Proofs.Ytpdpdmkfgbmdmaa
