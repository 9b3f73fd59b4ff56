/-
  Layer 5, the reference's side: Put, PutString, PutInts.
-/
import Derived.Test.YtkepnjnindolbaaS05Z
namespace Go.Proofs.Ytkepnjnindolbaa.s05
set_option linter.unusedVariables false
set_option linter.unusedSimpArgs false
open Go.RowKit
open kit

set_option maxRecDepth 100000 in
set_option maxHeartbeats 1000000 in
theorem rput_any (s : ByteArray) (m e : Int) (n : Int) (hs : s.size ≤ 9223372036854775807) (h1 : 0 ≤ n) (h2 : n ≤ 18446744073709551615) (s' : ByteArray) (m' e' : Int) (H : Hid (addR s m e (bys (digs n)) = (s', m', e'))) (w : World) :
    Calls Try.prog 35 #[.agg #[.string s, .int .i64 m, .int .i64 e], .int .u64 n] w fun en w' => en = .returned (.agg #[.string s', .int .i64 m', .int .i64 e']) ∧ Below w.heap.size w w' := by
  obtain ⟨W, hW⟩ : ∃ W, W = (w.alloc (.cells #[.string s, .int .i64 m, .int .i64 e] 45)).alloc (.cells #[.string ⟨#[]⟩, .int .i64 0, .int .i64 0] 45) := ⟨_, rfl⟩
  have P1 : Hid (Box W 45 w.heap.size #[.string s, .int .i64 m, .int .i64 e]) := Lib.hid (by rw [hW]; exact (Box.new _ _ _).alloc _)
  have X1 : Hid (Box W 45 (w.heap.size + 1) #[.string ⟨#[]⟩, .int .i64 0, .int .i64 0]) := Lib.hid (by rw [hW]; exact Box.new2 _ _ _ _)
  have B1 : Hid (Below w.heap.size w W) := Lib.hid (by rw [hW]; exact ((Below.refl w.heap.size w).alloc (by simp) _).alloc (by simp) _)
  have hWh := Lib.hid hW
  clear hW
  have hd := digs_len10 h2
  have hds : (strOfNums (digs n)).size ≤ 9223372036854775807 := by rw [strOfNums_size]; omega
  go_enter Try.func35, Try.ntmps35
  go_wp2
  rw [← hWh.out]
  have P2 : Hid (Box W.drew 45 w.heap.size #[.string s, .int .i64 m, .int .i64 e]) := Lib.hid P1.out
  have X2 : Hid (Box W.drew 45 (w.heap.size + 1) #[.string ⟨#[]⟩, .int .i64 0, .int .i64 0]) := Lib.hid X1.out
  have B2 := Lib.hid B1.out.drew
  have n1 : w.heap.size ≠ w.heap.size + 1 := by omega
  have g0 := P2.out.c3
  go_region_held3 (fun w' => w'.cell? ⟨w.heap.size, 0, none⟩ = some (.string s) ∧ w'.cell? ⟨w.heap.size, 1, none⟩ = some (.int .i64 m) ∧ w'.cell? ⟨w.heap.size, 2, none⟩ = some (.int .i64 e))
    (first
      | with_reducible exact g0
      | with_reducible exact P3.out.c3
      | with_reducible exact P4.out.c3
      | with_reducible exact (((P4.out.other n1 _).other n1 _).other n1 _).c3)
    (first
      | (go_at_call 77; refine (bytesr_any n h1 h2 _).mono ?_; rintro en w3 ⟨rfl, hB⟩; have P3 := Lib.hid (P2.out.below hB); have X3 := Lib.hid (X2.out.below hB); have B3 := Lib.hid (below_then B2.out hB); clear hB)
      | (go_at_call 41; refine (radd_any s m e (strOfNums (digs n)) hs hds s' m' e' (Lib.hid H.out) _).mono ?_; rintro en w4 ⟨rfl, hB⟩; have P4 := Lib.hid (P3.out.below hB); have X4 := Lib.hid (X3.out.below hB); have B4 := Lib.hid (below_then B3.out hB); clear hB; obtain ⟨c0, c1, c2⟩ := X4.out.c3; obtain ⟨f0, f1, f2⟩ := X4.out.f3))
  go_wp2
  obtain ⟨d0, d1, d2⟩ := (X4.out.set3 (.string s') (.int .i64 m') (.int .i64 e')).c3
  exact bodyPost_ret (v := .agg #[.string s', .int .i64 m', .int .i64 e']) (by simp [results, Try.results35, go_sem, d0, d1, d2]) rfl ⟨rfl, Below.set3 B4.out _ (by simp) _ _ _⟩
theorem encS_snoc (ts : List ByteArray) (k : Nat) (h : k < ts.length) : encS (ts.take (k + 1)) = encS (ts.take k) ++ (bys (digs (ts[k]?.getD ByteArray.empty).size) ++ (ts[k]?.getD ByteArray.empty).data.toList) := by
  unfold encS
  rw [partsOf_snoc ts k h]
  simp [cat, str_list]
theorem encS_nil : encS [] = [] := rfl
theorem encS_len_mono (ts : List ByteArray) (k : Nat) : (encS (ts.take k)).length ≤ (encS ts).length := by
  unfold encS cat partsOf
  conv => rhs; rw [← List.take_append_drop k ts]
  simp only [List.flatMap_append, List.length_append]
  omega
theorem mk_cat3 (A : List UInt8) (xs : List Int) (t : ByteArray) : (⟨A.toArray⟩ : ByteArray) ++ strOfNums xs ++ t = ⟨(A ++ (bys xs ++ t.data.toList)).toArray⟩ := by
  apply bytes_ext
  simp [str_list]
theorem mk_cat2 (A : List UInt8) (xs : List Int) : (⟨A.toArray⟩ : ByteArray) ++ strOfNums xs = ⟨(A ++ bys xs).toArray⟩ := by
  apply bytes_ext
  simp [str_list]
theorem mk_size (A : List UInt8) : (⟨A.toArray⟩ : ByteArray).size = A.length := by simp [ByteArray.size]
set_option maxRecDepth 100000 in
set_option maxHeartbeats 2000000 in
theorem rputs_any (s : ByteArray) (m e : Int) (a : Option Addr) (c : Nat) (ts : List ByteArray) (hs : s.size ≤ 9223372036854775807) (hn : ts.length ≤ 100000) (hz : Hid (∀ x ∈ ts, x.size ≤ 20000)) (htot : (encS ts).length ≤ 20000) (s' : ByteArray) (m' e' : Int) (H : Hid (addR s m e (encS ts) = (s', m', e'))) (w : World) (hr : Hid (ReadsS w a ts)) :
    Calls Try.prog 37 #[.agg #[.string s, .int .i64 m, .int .i64 e], .slice a ts.length c] w fun en w' => en = .returned (.agg #[.string s', .int .i64 m', .int .i64 e']) ∧ Below w.heap.size w w' := by
  obtain ⟨W, hW⟩ : ∃ W, W = (w.alloc (.cells #[.string s, .int .i64 m, .int .i64 e] 45)).alloc (.cells #[.string ⟨#[]⟩, .int .i64 0, .int .i64 0] 45) := ⟨_, rfl⟩
  have P1 : Hid (Box W 45 w.heap.size #[.string s, .int .i64 m, .int .i64 e]) := Lib.hid (by rw [hW]; exact (Box.new _ _ _).alloc _)
  have X1 : Hid (Box W 45 (w.heap.size + 1) #[.string ⟨#[]⟩, .int .i64 0, .int .i64 0]) := Lib.hid (by rw [hW]; exact Box.new2 _ _ _ _)
  have B1 : Hid (Below w.heap.size w W) := Lib.hid (by rw [hW]; exact ((Below.refl w.heap.size w).alloc (by simp) _).alloc (by simp) _)
  have hWh := Lib.hid hW
  clear hW
  go_enter Try.func37, Try.ntmps37
  go_wp2
  rw [← hWh.out]
  go_loopw [5, 6] (fun q i wr => ∃ (k : Nat), k ≤ ts.length ∧ i = .int .i64 k ∧ q = .string ⟨(encS (ts.take k)).toArray⟩ ∧ Hid (Below W.heap.size W wr)) (fun _ i _ => ts.length - (intOf i).toNat)
  case atStart => exact ⟨0, by omega, rfl, rfl, Lib.hid (Below.refl _ _)⟩
  case round =>
    obtain ⟨k, hk, rfl, rfl, HB⟩ := hrel
    by_cases hlt : k < ts.length
    · obtain ⟨b, off, rfl, hb, hc⟩ := (hr.out.below (below_then B1.out HB.out)) k hlt
      have hzx := hz.out _ (mem_getS ts k hlt)
      have hp := encS_snoc ts k hlt
      have hlen := encS_len_mono ts (k + 1)
      rw [hp] at hlen
      simp only [List.length_append] at hlen
      generalize ts[k]?.getD ByteArray.empty = y at hc hzx hp hlen
      have hA : y.data.toList.length = y.size := by rw [Array.length_toList]; rfl
      rw [hA, bys_len] at hlen
      have HP := Lib.hid hp
      clear hp hA
      have hqs := mk_size (encS (ts.take k))
      generalize encS (ts.take k) = A at HP hlen hqs
      have q1 : (⟨A.toArray⟩ : ByteArray).size + y.size ≤ 20000 := by omega
      have q2 : (⟨A.toArray⟩ : ByteArray).size + (strOfNums (digs y.size)).size ≤ 9223372036854775807 := by rw [strOfNums_size]; omega
      have q3 : ((⟨A.toArray⟩ : ByteArray) ++ strOfNums (digs y.size)).size + y.size ≤ 9223372036854775807 := by rw [ByteArray.size_append, strOfNums_size]; omega
      have HQ := Lib.hid hqs
      clear hqs
      have HM := Lib.hid (mk_cat3 A (digs y.size) y)
      generalize (⟨A.toArray⟩ : ByteArray) = Q at q1 q2 q3 HQ HM ⊢
      go_wp2
      have z0 : ∀ p : Later wr, p.W.cell? ⟨b, off + k, none⟩ = some (.string y) := fun p => p.cell hc hb
      clear hc
      refine wp_region_later (by kernel_rfl) (by kernel_rfl) ?_
      repeat (go_big_quiet_step ((go_at_call 77; exact calls_later (bytesr_any y.size (by omega) (by omega) _))))
      refine wpQuiet_nil ?_
      intro _ hw'
      obtain ⟨p5, hw''⟩ := hw'
      subst hw''
      have HB5 := Lib.hid (below_then HB.out p5.h)
      generalize p5.W = w5 at HB5 ⊢
      clear z0
      go_wp2
      go_roundw
      case rel => exact ⟨k + 1, by omega, by go_num, by rw [HP.out, ← HM.out], HB5⟩
      case measure => simp [intOf]; omega
    · have hkk : k = ts.length := by omega
      subst hkk
      rw [List.take_length]
      have P3 := Lib.hid (P1.out.below HB.out)
      have X3 := Lib.hid (X1.out.below HB.out)
      have B3 := Lib.hid (below_then B1.out HB.out)
      have hq := mk_size (encS ts)
      have hq2 : (⟨(encS ts).toArray⟩ : ByteArray).size ≤ 9223372036854775807 := by omega
      clear hq
      obtain ⟨c0, c1, c2⟩ := P3.out.c3
      go_wp2_with (go_at_call 41; refine (radd_any s m e ⟨(encS ts).toArray⟩ hs hq2 s' m' e' (Lib.hid (by simpa using H.out)) _).mono ?_; rintro en w7 ⟨rfl, hB⟩; have X7 := Lib.hid (X3.out.below hB); have B7 := Lib.hid (below_then B3.out hB); clear hB c0 c1 c2; obtain ⟨c0, c1, c2⟩ := X7.out.c3; obtain ⟨f0, f1, f2⟩ := X7.out.f3)
      obtain ⟨d0, d1, d2⟩ := (X7.out.set3 (.string s') (.int .i64 m') (.int .i64 e')).c3
      exact bodyPost_ret (v := .agg #[.string s', .int .i64 m', .int .i64 e']) (by simp [results, Try.results37, go_sem, d0, d1, d2]) rfl ⟨rfl, Below.set3 B7.out _ (by simp) _ _ _⟩
set_option maxRecDepth 100000 in
set_option maxHeartbeats 2000000 in
theorem rputi_any (s : ByteArray) (m e : Int) (a : Option Addr) (c : Nat) (l : List Int) (hs : s.size ≤ 9223372036854775807) (hn : l.length ≤ 1000) (hl64 : Hid (∀ z ∈ l, -9223372036854775808 ≤ z ∧ z ≤ 9223372036854775807)) (s' : ByteArray) (m' e' : Int) (H : Hid (addR s m e (encI l) = (s', m', e'))) (w : World) (hr : Hid (ReadsI w a l)) :
    Calls Try.prog 39 #[.agg #[.string s, .int .i64 m, .int .i64 e], .slice a l.length c] w fun en w' => en = .returned (.agg #[.string s', .int .i64 m', .int .i64 e']) ∧ Below w.heap.size w w' := by
  obtain ⟨W, hW⟩ : ∃ W, W = (w.alloc (.cells #[.string s, .int .i64 m, .int .i64 e] 45)).alloc (.cells #[.string ⟨#[]⟩, .int .i64 0, .int .i64 0] 45) := ⟨_, rfl⟩
  have P1 : Hid (Box W 45 w.heap.size #[.string s, .int .i64 m, .int .i64 e]) := Lib.hid (by rw [hW]; exact (Box.new _ _ _).alloc _)
  have X1 : Hid (Box W 45 (w.heap.size + 1) #[.string ⟨#[]⟩, .int .i64 0, .int .i64 0]) := Lib.hid (by rw [hW]; exact Box.new2 _ _ _ _)
  have B1 : Hid (Below w.heap.size w W) := Lib.hid (by rw [hW]; exact ((Below.refl w.heap.size w).alloc (by simp) _).alloc (by simp) _)
  have hWh := Lib.hid hW
  clear hW
  have q0 : (digs l.length).length ≤ 10 := digs_len10 (by omega)
  go_enter Try.func39, Try.ntmps39
  go_wp2_with (go_at_call 77; rw [← hWh.out]; refine (bytesr_any l.length (by omega) (by omega) _).mono ?_; rintro en w3 ⟨rfl, hB⟩; have HB0 := Lib.hid hB; clear hB)
  go_loopw [5, 6] (fun q i wr => ∃ (k : Nat), k ≤ l.length ∧ i = .int .i64 k ∧ q = .string ⟨(bys (digs l.length) ++ bys (((l.take k).map zg).flatMap digs)).toArray⟩ ∧ Hid (Below W.heap.size W wr)) (fun _ i _ => l.length - (intOf i).toNat)
  case atStart => exact ⟨0, by omega, rfl, by congr 1; apply bytes_ext; simp [str_list, bys], HB0⟩
  case round =>
    obtain ⟨k, hk, rfl, rfl, HB⟩ := hrel
    by_cases hlt : k < l.length
    · obtain ⟨b, off, rfl, hb, hc⟩ := (hr.out.below (below_then B1.out HB.out)) k hlt
      obtain ⟨hz1, hz3⟩ := hl64.out _ (mem_getD l k hlt)
      have hp : ((l.take (k + 1)).map zg).flatMap digs = ((l.take k).map zg).flatMap digs ++ digs (zg (l[k]?.getD 0)) := by
        rw [List.take_succ_eq_append_getElem hlt, List.map_append, List.flatMap_append, List.getElem?_eq_getElem hlt]; simp
      have hfl := flat_len ((l.take k).map zg) (fun z hz => by
        rw [List.mem_map] at hz
        obtain ⟨y, hy, rfl⟩ := hz
        exact (zg_range (hl64.out y (List.mem_of_mem_take hy)).1 (hl64.out y (List.mem_of_mem_take hy)).2).2)
      rw [List.length_map] at hfl
      have htl : (l.take k).length ≤ k := List.length_take_le _ _
      generalize l[k]?.getD 0 = y at hc hz1 hz3 hp
      obtain ⟨hg1, hg2⟩ := zg_range hz1 hz3
      have hdy := digs_len10 hg2
      have hqs := mk_size (bys (digs l.length) ++ bys (((l.take k).map zg).flatMap digs))
      rw [List.length_append, bys_len, bys_len] at hqs
      have HP := Lib.hid hp
      clear hp
      have HM := Lib.hid (mk_cat2 (bys (digs l.length) ++ bys (((l.take k).map zg).flatMap digs)) (digs (zg y)))
      have HC : Hid (bys (digs l.length) ++ bys (((l.take (k + 1)).map zg).flatMap digs) = (bys (digs l.length) ++ bys (((l.take k).map zg).flatMap digs)) ++ bys (digs (zg y))) := Lib.hid (by rw [HP.out, bys_app, List.append_assoc])
      generalize bys (digs l.length) ++ bys (((l.take k).map zg).flatMap digs) = A at HM HC hqs ⊢
      have q2 : (⟨A.toArray⟩ : ByteArray).size + (strOfNums (digs (zg y))).size ≤ 9223372036854775807 := by rw [strOfNums_size]; omega
      clear hqs hfl htl
      generalize (⟨A.toArray⟩ : ByteArray) = Q at q2 HM ⊢
      go_wp2_with (first
        | (go_at_call 81; refine (zigr_any y hz1 hz3 _).mono ?_; rintro en w4 ⟨rfl, rfl⟩)
        | (go_at_call 77; refine (bytesr_any (zg y) hg1 hg2 _).mono ?_; rintro en w5 ⟨rfl, hB⟩; have HB5 := Lib.hid (below_then HB.out hB); clear hB))
      go_roundw
      case rel => exact ⟨k + 1, by omega, by go_num, by rw [HC.out, ← HM.out], HB5⟩
      case measure => simp [intOf]; omega
    · have hkk : k = l.length := by omega
      subst hkk
      rw [List.take_length]
      have P3 := Lib.hid (P1.out.below HB.out)
      have X3 := Lib.hid (X1.out.below HB.out)
      have B3 := Lib.hid (below_then B1.out HB.out)
      have hfl := flat_len (l.map zg) (fun z hz => by
        rw [List.mem_map] at hz
        obtain ⟨y, hy, rfl⟩ := hz
        exact (zg_range (hl64.out y hy).1 (hl64.out y hy).2).2)
      rw [List.length_map] at hfl
      have hq := mk_size (bys (digs l.length) ++ bys ((l.map zg).flatMap digs))
      rw [List.length_append, bys_len, bys_len] at hq
      have hq2 : (⟨(bys (digs l.length) ++ bys ((l.map zg).flatMap digs)).toArray⟩ : ByteArray).size ≤ 9223372036854775807 := by omega
      clear hq hfl
      obtain ⟨c0, c1, c2⟩ := P3.out.c3
      go_wp2_with (go_at_call 41; refine (radd_any s m e ⟨(bys (digs l.length) ++ bys ((l.map zg).flatMap digs)).toArray⟩ hs hq2 s' m' e' (Lib.hid H.out) _).mono ?_; rintro en w7 ⟨rfl, hB⟩; have X7 := Lib.hid (X3.out.below hB); have B7 := Lib.hid (below_then B3.out hB); clear hB c0 c1 c2; obtain ⟨c0, c1, c2⟩ := X7.out.c3; obtain ⟨f0, f1, f2⟩ := X7.out.f3)
      obtain ⟨d0, d1, d2⟩ := (X7.out.set3 (.string s') (.int .i64 m') (.int .i64 e')).c3
      exact bodyPost_ret (v := .agg #[.string s', .int .i64 m', .int .i64 e']) (by simp [results, Try.results39, go_sem, d0, d1, d2]) rfl ⟨rfl, Below.set3 B7.out _ (by simp) _ _ _⟩
end Go.Proofs.Ytkepnjnindolbaa.s05
