/-
  Layer 5: CodecBack's contract.
-/
import Derived.Test.YtkepnjnindolbaaS05ZH
namespace Go.Proofs.Ytkepnjnindolbaa.s05
set_option linter.unusedVariables false
set_option linter.unusedSimpArgs false
open Go.RowKit
open kit

theorem e3_n (ns : List Int) (k : Nat) (h : k < ns.length) (R : List UInt8) : encN ns ++ R = encN (ns.take k) ++ (bys (digs (ns[k]?.getD 0)) ++ (encN (ns.drop (k + 1)) ++ R)) := by
  conv => lhs; rw [encN_mid ns k h]
  simp only [List.append_assoc]
theorem e3_s (P : List UInt8) (ts : List ByteArray) (k : Nat) (h : k < ts.length) (R : List UInt8) : P ++ (encS ts ++ R) = (P ++ encS (ts.take k)) ++ (bys (digs (ts[k]?.getD ByteArray.empty).size) ++ ((ts[k]?.getD ByteArray.empty).data.toList ++ (encS (ts.drop (k + 1)) ++ R))) := by
  conv => lhs; rw [encS_mid ts k h]
  simp only [List.append_assoc]
theorem km20 : cntw ⟨#[]⟩ 20000 0 = (⟨#[]⟩, 20000, 0) := by kernel_rfl
set_option maxRecDepth 100000 in
set_option maxHeartbeats 4000000 in
theorem back_any (a0 a1 a2 : Option Addr) (cap0 cap1 cap2 : Nat) (ns : List Int) (ts : List ByteArray) (l : List Int) (w : World) (hl0 : ns.length ≤ 9223372036854775807) (hl1 : ts.length ≤ 9223372036854775807) (hl2 : l.length ≤ 9223372036854775807)
    (HN : Hid (∀ x ∈ ns, 0 ≤ x ∧ x ≤ 18446744073709551615)) (HZ : Hid (∀ x ∈ ts, x.size ≤ 9223372036854775807)) (HI : Hid (∀ z ∈ l, -9223372036854775808 ≤ z ∧ z ≤ 9223372036854775807)) (RN : Hid (Reads (Value.int .u64) 0 w a0 ns)) (RT : Hid (ReadsS w a1 ts)) (RI : Hid (ReadsI w a2 l)) :
    Calls Try.prog 7 #[.slice a0 ns.length cap0, .slice a1 ts.length cap1, .slice a2 l.length cap2] w fun en w' => en = .returned (.bool true) ∧ Below w.heap.size w w' := by
  by_cases hbig : 10 < ns.length ∨ 10 < ts.length ∨ 10 < l.length
  · have hc : 10 < ns.length ∨ (¬ 10 < ns.length ∧ 10 < ts.length) ∨ (¬ 10 < ns.length ∧ ¬ 10 < ts.length ∧ 10 < l.length) := by omega
    clear hbig
    rcases hc with h1 | ⟨h1, h2⟩ | ⟨h1, h2, h3⟩
    all_goals
      go_enter Try.func7, Try.ntmps7
      go_wp2_with (go_at_call 6; refine (cknown_any _).mono ?_; rintro e w9 ⟨rfl, hB9⟩; have B9 := Lib.hid hB9; clear hB9)
      go_ret
      exact ⟨rfl, B9.out⟩
  have h1 : ¬ 10 < ns.length := by omega
  have h2 : ¬ 10 < ts.length := by omega
  have h3 : ¬ 10 < l.length := by omega
  have h1' : ns.length ≤ 10 := by omega
  have h2' : ts.length ≤ 10 := by omega
  have h3' : l.length ≤ 10 := by omega
  clear hbig
  cases hb : shortB ts 60
  · have HB := Lib.hid hb
    clear hb
    go_enter Try.func7, Try.ntmps7
    go_wp2_with (first
      | (go_at_call 6; refine (cknown_any _).mono ?_; rintro e w9 ⟨rfl, hB9⟩; have B9 := Lib.hid hB9; clear hB9)
      | (go_at_call 27; refine (short_any a1 cap1 60 ts _ hl1 (by omega) HZ.out (RT.out.below B9.out)).mono ?_; rintro e w8 ⟨rfl, rfl⟩; rw [HB.out]))
    go_ret
    exact ⟨rfl, B9.out⟩
  · have hsm := short_mem hb
    have HSM := Lib.hid hsm
    have hel := encS_len 60 ts hsm (by omega)
    have hel2 : (encS ts).length ≤ 700 := by have : ts.length * (60 + 10) ≤ 10 * (60 + 10) := Nat.mul_le_mul_right _ h2'; omega
    have hnl := encN_len HN.out
    have hil := encI_len HI.out (by omega)
    have htot : (encN ns).length + (encS ts).length + (encI l).length ≤ 1000 := by omega
    have HB := Lib.hid hb
    have HTOT := Lib.hid htot
    clear hb hsm hel hel2 hnl hil htot
    go_enter Try.func7, Try.ntmps7
    go_wp2_with (first
      | (go_at_call 6; refine (cknown_any _).mono ?_; rintro e w1 ⟨rfl, hB⟩; have B1 := Lib.hid hB; clear hB)
      | (go_at_call 27; refine (short_any a1 cap1 60 ts _ hl1 (by omega) HZ.out (RT.out.below B1.out)).mono ?_; rintro e w9 ⟨rfl, rfl⟩; rw [HB.out])
      | (go_at_call 32; refine (pmake_any 20000 ⟨#[]⟩ 20000 0 (Lib.hid km20) _).mono ?_; rintro en w2 ⟨rfl, hB⟩; have B2 := Lib.hid (below_then B1.out hB); clear hB))
    go_loopw [9] (fun i wr => ∃ k, k ≤ ns.length ∧ i = .int .i64 k ∧ Hid (Box wr 45 w2.heap.size #[.string ⟨(encN (ns.take k)).toArray⟩, .int .i64 20000, .int .i64 0]) ∧ Hid (Below w.heap.size w wr)) (fun i _ => ns.length - (intOf i).toNat)
    case atStart => exact ⟨0, by omega, rfl, Lib.hid (Box.new _ _ _), Lib.hid (B2.out.alloc B2.out.size _)⟩
    case round =>
      obtain ⟨k, hk, rfl, X, B⟩ := hrel
      have hb2 := B2.out.size
      by_cases hlt : k < ns.length
      · obtain ⟨b, off, rfl, hb, hc⟩ := RN.out.below B.out k hlt
        have hn := HN.out _ (mem_getD ns k hlt)
        have hA : addR ⟨(encN (ns.take k)).toArray⟩ 20000 0 (bys (digs (ns[k]?.getD 0))) = (⟨(encN (ns.take (k + 1))).toArray⟩, 20000, 0) := by
          have hm := congrArg List.length (encN_mid ns k hlt)
          rw [List.length_append, List.length_append] at hm
          have := HTOT.out
          rw [encN_snoc ns k hlt]
          exact add_ok (by rw [List.length_append]; omega)
        have hsz : (⟨(encN (ns.take k)).toArray⟩ : ByteArray).size ≤ 9223372036854775807 := by
          rw [ba_size]
          have hm := congrArg List.length (encN_mid ns k hlt)
          rw [List.length_append] at hm
          have := HTOT.out
          omega
        generalize ns[k]?.getD 0 = x at hc hn hA
        generalize hS : (⟨(encN (ns.take k)).toArray⟩ : ByteArray) = S at X hA hsz
        generalize hT : (⟨(encN (ns.take (k + 1))).toArray⟩ : ByteArray) = T at hA
        have HA := Lib.hid hA
        have HT := Lib.hid hT
        clear hA hT hS
        obtain ⟨n1, n2⟩ := hn
        have X2 : Hid (Box wr.drew 45 w2.heap.size #[.string S, .int .i64 20000, .int .i64 0]) := Lib.hid X.out
        have B2' : Hid (Below w.heap.size w wr.drew) := Lib.hid B.out.drew
        have hc2 : wr.drew.cell? ⟨b, off + k, none⟩ = some (.int .u64 x) := hc
        obtain ⟨c0, c1, c2⟩ := X2.out.c3
        clear X
        go_wp2
        go_region_with (go_at_call 34; (refine (pput_any S 20000 0 x hsz n1 n2 T 20000 0 HA _).mono ?_; rintro en w3 ⟨rfl, hB⟩; have X3 := Lib.hid (X2.out.below hB); have B3 := Lib.hid (below_then B2'.out hB); clear hB c0 c1 c2; obtain ⟨c0, c1, c2⟩ := X3.out.c3; obtain ⟨f0, f1, f2⟩ := X3.out.f3; have lx := X3.out.lt))
        all_goals
          go_wp2
          go_roundw
          case rel => exact ⟨k + 1, by omega, by go_num, Lib.hid (by rw [HT.out]; exact X3.out.set3 (.string T) (.int .i64 20000) (.int .i64 0)), Lib.hid (Below.set3 B3.out _ hb2 _ _ _)⟩
          case measure => simp [intOf]; omega
      · have hkk : k = ns.length := by omega
        subst hkk
        rw [List.take_length] at X
        have ht := HTOT.out
        obtain ⟨L3, hL3⟩ : ∃ L, L = encN ns ++ (encS ts ++ (encI l ++ [101, 110, 100])) := ⟨_, rfl⟩
        have l3 : L3.length = (encN ns).length + ((encS ts).length + ((encI l).length + 3)) := by rw [hL3, List.length_append, List.length_append, List.length_append]; rfl
        have k1 : addR ⟨(encN ns).toArray⟩ 20000 0 (encS ts) = (⟨(encN ns ++ encS ts).toArray⟩, 20000, 0) := add_ok (by rw [List.length_append]; omega)
        have k2 : addR ⟨(encN ns ++ encS ts).toArray⟩ 20000 0 (encI l) = (⟨(encN ns ++ encS ts ++ encI l).toArray⟩, 20000, 0) := add_ok (by rw [List.length_append, List.length_append]; omega)
        have k3 : addR ⟨(encN ns ++ encS ts ++ encI l).toArray⟩ 20000 0 (⟨#[101, 110, 100]⟩ : ByteArray).data.toList = (⟨L3.toArray⟩, 20000, 0) := by
          rw [add_ok (by rw [List.length_append, List.length_append, List.length_append]; show _ + 3 ≤ _; omega), hL3]
          simp
        have k4 : doneW ⟨L3.toArray⟩ 20000 0 = (⟨L3.toArray⟩, 0) := done_ok (by omega)
        have z0 : (⟨(encN ns).toArray⟩ : ByteArray).size ≤ 9223372036854775807 := by rw [ba_size]; omega
        have z1 : (⟨(encN ns ++ encS ts).toArray⟩ : ByteArray).size ≤ 9223372036854775807 := by rw [ba_size, List.length_append]; omega
        have z2 : (⟨(encN ns ++ encS ts ++ encI l).toArray⟩ : ByteArray).size ≤ 9223372036854775807 := by rw [ba_size, List.length_append, List.length_append]; omega
        have z3 : (⟨L3.toArray⟩ : ByteArray).size ≤ 20000 := by rw [ba_size]; omega
        have z3' : (⟨L3.toArray⟩ : ByteArray).size ≤ 9223372036854775807 := by omega
        have k5 : cnt ⟨L3.toArray⟩ 0 0 0 = (⟨L3.toArray⟩, 0, 0, 0) := cnt_of z3 (by omega) (by omega)
        have e3 : (⟨L3.toArray⟩ : ByteArray).data.toList = encN ns ++ (encS ts ++ (encI l ++ [101, 110, 100])) := by rw [← hL3]
        have e4 : (⟨L3.toArray⟩ : ByteArray).size = (encN ns ++ encS ts ++ encI l ++ [101, 110, 100]).length := by rw [ba_size, hL3]; simp
        clear hL3 l3
        generalize (⟨L3.toArray⟩ : ByteArray) = S3 at k3 k4 k5 z3 z3' e3 e4
        generalize (⟨(encN ns ++ encS ts ++ encI l).toArray⟩ : ByteArray) = S2 at k2 k3 z2
        generalize (⟨(encN ns ++ encS ts).toArray⟩ : ByteArray) = S1 at k1 k2 z1
        generalize (⟨(encN ns).toArray⟩ : ByteArray) = S0 at k1 z0 X
        have K1 := Lib.hid k1
        have K2 := Lib.hid k2
        have K3 := Lib.hid k3
        have K4 := Lib.hid k4
        have K5 := Lib.hid k5
        have E3 := Lib.hid e3
        have E4 := Lib.hid e4
        clear k1 k2 k3 k4 k5 e3 e4 ht
        obtain ⟨c0, c1, c2⟩ := X.out.c3
        go_wp2_with (first
          | (go_at_call 36; refine (pputs_any S0 20000 0 a1 cap1 ts z0 (by omega) HZ S1 20000 0 K1 _ (Lib.hid (RT.out.below B.out))).mono ?_; rintro en w3 ⟨rfl, hB⟩; have X3 := Lib.hid (X.out.below hB); have B3 := Lib.hid (below_then B.out hB); clear hB c0 c1 c2; obtain ⟨c0, c1, c2⟩ := X3.out.c3; obtain ⟨f0, f1, f2⟩ := X3.out.f3; have lx := X3.out.lt; have X4 := Lib.hid (X3.out.set3 (.string S1) (.int .i64 20000) (.int .i64 0)); have B4 := Lib.hid (Below.set3 B3.out _ hb2 (.string S1) (.int .i64 20000) (.int .i64 0)))
          | (go_at_call 38; refine (pputi_any S1 20000 0 a2 cap2 l z1 (by omega) HI S2 20000 0 K2 _ (Lib.hid (RI.out.below B4.out))).mono ?_; rintro en w5 ⟨rfl, hB⟩; clear c0 c1 c2 f0 f1 f2 lx; have X5 := Lib.hid (X4.out.below hB); have B5 := Lib.hid (below_then B4.out hB); clear hB)
          | (go_at_call 40; refine (padd_any S2 20000 0 ⟨#[101, 110, 100]⟩ z2 (by decide) S3 20000 0 K3 _).mono ?_; rintro en w6 ⟨rfl, hB⟩; have X6 := Lib.hid (X5.out.below hB); have B6 := Lib.hid (below_then B5.out hB); clear hB; obtain ⟨c0, c1, c2⟩ := X6.out.c3; obtain ⟨f0, f1, f2⟩ := X6.out.f3; have lx := X6.out.lt; have X7 := Lib.hid (X6.out.set3 (.string S3) (.int .i64 20000) (.int .i64 0)); have B7 := Lib.hid (Below.set3 B6.out _ hb2 (.string S3) (.int .i64 20000) (.int .i64 0)))
          | (go_at_call 30; refine (pdone_any S3 20000 0 z3' S3 0 K4 _).mono ?_; rintro en w8 ⟨rfl, hB⟩; clear c0 c1 c2 f0 f1 f2 lx; have B8 := Lib.hid (below_then B7.out hB); clear hB)
          | (go_at_call 25; refine (pread_any S3 z3' S3 0 0 0 K5 _).mono ?_; rintro en w9 ⟨rfl, hB⟩; have B9 := Lib.hid (below_then B8.out hB); clear hB; have hw9 := B9.out.size))
        go_loopw [13] (fun i wr => ∃ k : Nat, k ≤ ns.length ∧ i = .int .i64 k ∧ Hid (Box wr 26 w9.heap.size #[.string S3, .int .i64 ((encN (ns.take k)).length : Int), .int .i64 0, .int .i64 0]) ∧ Hid (Below w.heap.size w wr)) (fun i _ => ns.length - (intOf i).toNat)
        case atStart => exact ⟨0, by omega, rfl, Lib.hid (Box.new _ _ _), Lib.hid (B9.out.alloc B9.out.size _)⟩
        case round =>
          obtain ⟨k, hk, rfl, R, B'⟩ := hrel
          by_cases hlt : k < ns.length
          · obtain ⟨b, off, rfl, hb, hc⟩ := RN.out.below B'.out k hlt
            have hn := HN.out _ (mem_getD ns k hlt)
            have hW := wide_back (s := S3) (n := ns[k]?.getD 0) (by rw [E3.out]; exact e3_n ns k hlt _) hn.1 hn.2 z3
            rw [← encN_snoc ns k hlt] at hW
            generalize ns[k]?.getD 0 = x at hc hn hW
            generalize hp : ((encN (ns.take k)).length : Int) = p at R hW
            generalize hp' : ((encN (ns.take (k + 1))).length : Int) = p' at hW
            have HW := Lib.hid hW
            have HP := Lib.hid hp'
            clear hW hp hp' hn
            obtain ⟨c0, c1, c2, c3⟩ := R.out.c4
            go_wp2_with (go_at_call 12; refine (pwide_any S3 p 0 0 18446744073709551615 z3' (by omega) (by omega) S3 p' 0 0 x HW _).mono ?_; rintro en wa ⟨rfl, hB⟩; have hc2 := hB.cell (p := ⟨b, off + k, none⟩) hb; rw [hc] at hc2; have R3 := Lib.hid (R.out.below hB); have B3' := Lib.hid (below_then B'.out hB); clear hB c0 c1 c2 c3; have lr := R3.out.lt; obtain ⟨c0, c1, c2, c3⟩ := R3.out.c4; obtain ⟨f0, f1, f2, f3⟩ := R3.out.f4; have hb3 := cell_lt hc2)
            go_roundw
            case rel => exact ⟨k + 1, by omega, by go_num, Lib.hid (by rw [HP.out]; exact (R3.out.set4 (.string S3) (.int .i64 p') (.int .i64 0) (.int .i64 0)).alloc _), Lib.hid (by have h9 := Below.set4 B3'.out _ hw9 (.string S3) (.int .i64 p') (.int .i64 0) (.int .i64 0); exact h9.alloc h9.size _)⟩
            case measure => simp [intOf]; omega
          · have hkk : k = ns.length := by omega
            subst hkk
            rw [List.take_length] at R
            go_wp2
            go_loopw [16] (fun i wr => ∃ k : Nat, k ≤ ts.length ∧ i = .int .i64 k ∧ Hid (Box wr 26 w9.heap.size #[.string S3, .int .i64 ((encN ns ++ encS (ts.take k)).length : Int), .int .i64 0, .int .i64 0]) ∧ Hid (Below w.heap.size w wr)) (fun i _ => ts.length - (intOf i).toNat)
            case atStart => exact ⟨0, by omega, rfl, Lib.hid (by rw [List.take_zero, encS_nil, List.append_nil]; exact R.out), Lib.hid B'.out⟩
            case round =>
              obtain ⟨k, hk, rfl, R, B2'⟩ := hrel
              by_cases hlt : k < ts.length
              · obtain ⟨b, off, rfl, hb, hc⟩ := RT.out.below B2'.out k hlt
                have hn := HSM.out _ (mem_getS ts k hlt)
                have hW := str_back (s := S3) (t := ts[k]?.getD ByteArray.empty) (m := 60) (by rw [E3.out]; exact e3_s (encN ns) ts k hlt _) (by omega) z3
                rw [List.append_assoc (encN ns), ← encS_snoc ts k hlt] at hW
                generalize ts[k]?.getD ByteArray.empty = x at hc hn hW
                generalize hp : ((encN ns ++ encS (ts.take k)).length : Int) = p at R hW
                generalize hp' : ((encN ns ++ encS (ts.take (k + 1))).length : Int) = p' at hW
                have HW := Lib.hid hW
                have HP := Lib.hid hp'
                clear hW hp hp' hn
                obtain ⟨c0, c1, c2, c3⟩ := R.out.c4
                go_wp2_with (go_at_call 14; refine (pstring_any S3 p 0 0 60 z3' (by omega) (by omega) S3 p' 0 0 x HW _).mono ?_; rintro en wa ⟨rfl, hB⟩; have hc2 := hB.cell (p := ⟨b, off + k, none⟩) hb; rw [hc] at hc2; have R3 := Lib.hid (R.out.below hB); have B3' := Lib.hid (below_then B2'.out hB); clear hB c0 c1 c2 c3; have lr := R3.out.lt; obtain ⟨c0, c1, c2, c3⟩ := R3.out.c4; obtain ⟨f0, f1, f2, f3⟩ := R3.out.f4; have hb3 := cell_lt hc2)
                go_roundw
                case rel => exact ⟨k + 1, by omega, by go_num, Lib.hid (by rw [HP.out]; exact (R3.out.set4 (.string S3) (.int .i64 p') (.int .i64 0) (.int .i64 0)).alloc _), Lib.hid (by have h9 := Below.set4 B3'.out _ hw9 (.string S3) (.int .i64 p') (.int .i64 0) (.int .i64 0); exact h9.alloc h9.size _)⟩
                case measure => simp [intOf]; omega
              · have hkk : k = ts.length := by omega
                subst hkk
                rw [List.take_length] at R
                have h5 := ints_back (s := S3) (pre := encN ns ++ encS ts) (l := l) (m := 10) (post := [101, 110, 100]) (by rw [E3.out]; simp only [List.append_assoc]) HI.out (by omega) (by omega) z3
                have h6 := fixed_back (s := S3) (t := ⟨#[101, 110, 100]⟩) (pre := encN ns ++ encS ts ++ encI l) (post := []) (by rw [E3.out]; simp only [List.append_assoc, List.append_nil]) z3
                have h7 : endF S3 ((encN ns ++ encS ts ++ encI l ++ (⟨#[101, 110, 100]⟩ : ByteArray).data.toList).length : Int) 0 0 = (0, 0) := end_back (by rw [E4.out]) z3
                generalize ((encN ns ++ encS ts).length : Int) = p at R h5
                generalize ((encN ns ++ encS ts ++ encI l).length : Int) = p2 at h5 h6
                generalize ((encN ns ++ encS ts ++ encI l ++ (⟨#[101, 110, 100]⟩ : ByteArray).data.toList).length : Int) = p3 at h6 h7
                have H5 := Lib.hid h5
                have H6 : Hid (fldR (⟨#[]⟩ : ByteArray) (fixF 3) S3 p2 0 0 = ((S3, p3, 0, 0), ⟨#[101, 110, 100]⟩)) := Lib.hid h6
                have H7 := Lib.hid h7
                clear h5 h6 h7
                obtain ⟨c0, c1, c2, c3⟩ := R.out.c4
                have lr0 := R.out.lt
                go_wp2_with (first
                  | (go_at_call 18; refine (pints_any S3 p 0 0 10 (-9223372036854775808) 9223372036854775807 z3' (by omega) (by omega) (by omega) (by omega) (by omega) (by omega) S3 p2 0 0 l H5 _).mono ?_; rintro en wb ⟨Vu, bu, rfl, hbu, hVu, hB⟩; have R3 := Lib.hid (R.out.below hB); have B3' := Lib.hid (below_then B2'.out hB); clear hB c0 c1 c2 c3; have lr := R3.out.lt; obtain ⟨c0, c1, c2, c3⟩ := R3.out.c4; obtain ⟨f0, f1, f2, f3⟩ := R3.out.f4; have lu : w9.heap.size < bu := Nat.lt_of_lt_of_le lr0 hbu; have RV0 := Lib.hid (hVu.set4 w9.heap.size lu (.string S3) (.int .i64 p2) (.int .i64 0) (.int .i64 0)); have R4 := Lib.hid (R3.out.set4 (.string S3) (.int .i64 p2) (.int .i64 0) (.int .i64 0)); have B4' := Lib.hid (Below.set4 B3'.out _ hw9 (.string S3) (.int .i64 p2) (.int .i64 0) (.int .i64 0)); obtain ⟨au, cu, rfl, _⟩ := hVu)
                  | (go_at_call 16; refine (pfixed_any S3 p2 0 0 3 z3' (by omega) (by omega) S3 p3 0 0 ⟨#[101, 110, 100]⟩ H6 _).mono ?_; rintro en wc ⟨rfl, hB⟩; clear c0 c1 c2 c3 f0 f1 f2 f3 lr; have R5 := Lib.hid (R4.out.below hB); have B5' := Lib.hid (below_then B4'.out hB); have lr := R5.out.lt; obtain ⟨c0, c1, c2, c3⟩ := R5.out.c4; obtain ⟨f0, f1, f2, f3⟩ := R5.out.f4; have RV1 := Lib.hid ((RV0.out.below hB).set4 w9.heap.size lu (.string S3) (.int .i64 p3) (.int .i64 0) (.int .i64 0)); clear hB; have R6 := Lib.hid (R5.out.set4 (.string S3) (.int .i64 p3) (.int .i64 0) (.int .i64 0)); have B6' := Lib.hid (Below.set4 B5'.out _ hw9 (.string S3) (.int .i64 p3) (.int .i64 0) (.int .i64 0)); obtain ⟨ax, cx, ex, rx⟩ := RV1.out.reads; cases ex; have RX := Lib.hid rx; clear rx)
                  | (go_at_call 20; refine (same_ints au a2 cu cap2 l _ hl2 RX.out (RI.out.below B6'.out)).mono ?_; rintro en wd ⟨rfl, n8, rfl⟩; clear c0 c1 c2 c3 f0 f1 f2 f3 lr; have B7' := Lib.hid (below_drewN B6'.out n8); have R7 := Lib.hid (R6.out.below (below_drewN (Below.refl _ _) n8)); obtain ⟨c0, c1, c2, c3⟩ := R7.out.c4)
                  | (go_at_call 23; refine (pend_any S3 p3 0 0 z3' 0 0 H7 _).mono ?_; rintro en we ⟨rfl, hB⟩; have B8' := Lib.hid (below_then B7'.out hB); clear hB))
                go_ret
                exact ⟨rfl, B8'.out⟩
end Go.Proofs.Ytkepnjnindolbaa.s05
