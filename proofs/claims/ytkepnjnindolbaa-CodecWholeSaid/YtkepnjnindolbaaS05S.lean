/-
  Layer 5, the program's side: Add, Put, PutString, PutInts.
-/
import Derived.Test.YtkepnjnindolbaaS05R
import Derived.Test.YtkepnjnindolbaaKitInts
import Derived.Test.YtkepnjnindolbaaS05F
import Derived.Test.YtkepnjnindolbaaWalksD
namespace Go.Proofs.Ytkepnjnindolbaa.s05
set_option linter.unusedVariables false
set_option linter.unusedSimpArgs false
open Go.RowKit
open kit

theorem reads_one (W : World) (a : Nat) (t : ByteArray) (h : W.cell? ⟨a, 0, none⟩ = some (.string t)) : ReadsS W (some ⟨a, 0, none⟩) [t] := by
  intro i hi
  have h0 : i = 0 := by simpa using hi
  subst h0
  exact ⟨a, 0, rfl, cell_lt h, by simpa using h⟩
theorem reads_pair (W : World) (a : Nat) (t u : ByteArray) (h : W.cell? ⟨a, 0, none⟩ = some (.string t)) (h2 : W.cell? ⟨a, 1, none⟩ = some (.string u)) : ReadsS W (some ⟨a, 0, none⟩) [t, u] := by
  intro i hi
  have h0 : i = 0 ∨ i = 1 := by simp at hi; omega
  rcases h0 with rfl | rfl
  · exact ⟨a, 0, rfl, cell_lt h, by simpa using h⟩
  · exact ⟨a, 0, rfl, cell_lt h2, by simpa using h2⟩
theorem cat_one (t : ByteArray) : cat [t] = t.data.toList := by simp [cat]
theorem size_digs (n : Int) : (strOfNums (digs n)).size = (digs n).length := strOfNums_size _
theorem size_any (n : Int) (h1 : 0 ≤ n) (h2 : n ≤ 9223372036854775807) (w : World) :
    Calls Try.prog 78 #[.int .i64 n] w fun en w' => en = .returned (.string (strOfNums (digs n))) ∧ Below w.heap.size w w' := by
  go_enter Try.func78, Try.ntmps78
  go_wp2_with (go_at_call 76; refine (bytes_any n h1 (by omega) _).mono ?_; rintro en w1 ⟨rfl, hB⟩)
  go_ret
  exact ⟨rfl, hB⟩
set_option maxRecDepth 100000 in
set_option maxHeartbeats 1000000 in
theorem padd_any (s : ByteArray) (m e : Int) (t : ByteArray) (hs : s.size ≤ 9223372036854775807) (ht : t.size ≤ 9223372036854775807) (s' : ByteArray) (m' e' : Int) (H : Hid (addR s m e t.data.toList = (s', m', e'))) (w : World) :
    Calls Try.prog 40 #[.agg #[.string s, .int .i64 m, .int .i64 e], .string t] w fun en w' => en = .returned (.agg #[.string s', .int .i64 m', .int .i64 e']) ∧ Below w.heap.size w w' := by
  have X1 := Box.new2 w (.cells #[.string s, .int .i64 m, .int .i64 e] 45) 45 #[.string ⟨#[]⟩, .int .i64 0, .int .i64 0]
  have B1 := ((Below.refl w.heap.size w).alloc (by simp) (.cells #[.string s, .int .i64 m, .int .i64 e] 45)).alloc (by simp) (.cells #[.string ⟨#[]⟩, .int .i64 0, .int .i64 0] 45)
  have X2 := Lib.hid (X1.alloc (.cells #[.string t] 9))
  have B2 := Lib.hid (B1.alloc (by simp; omega) (.cells #[.string t] 9))
  have P2 := Lib.hid (nth_box ((w.alloc (.cells #[.string s, .int .i64 m, .int .i64 e] 45)).alloc (.cells #[.string ⟨#[]⟩, .int .i64 0, .int .i64 0] 45)) (w.heap.size + 2) 9 #[.string t] (by simp))
  clear X1 B1
  go_enter Try.func40, Try.ntmps40
  go_wp2_with (go_at_call 75; refine (write_any s m e hs _ 1 [t] (by simp) (by simp) (Lib.hid (by simpa using ht)) s' m' e' (Lib.hid (by rw [cat_one]; exact H.out)) _ (Lib.hid (reads_one _ (w.heap.size + 2) t P2.out.c1))).mono ?_; rintro en w1 ⟨rfl, hB⟩; have X3 := Lib.hid (X2.out.below hB); have B3 := Lib.hid (below_then B2.out hB); clear hB; obtain ⟨c0, c1, c2⟩ := X3.out.c3; obtain ⟨f0, f1, f2⟩ := X3.out.f3)
  obtain ⟨d0, d1, d2⟩ := (X3.out.set3 (.string s') (.int .i64 m') (.int .i64 e')).c3
  exact bodyPost_ret (v := .agg #[.string s', .int .i64 m', .int .i64 e']) (by simp [results, Try.results40, go_sem, d0, d1, d2]) rfl ⟨rfl, Below.set3 B3.out _ (by simp) _ _ _⟩
set_option maxRecDepth 100000 in
set_option maxHeartbeats 1000000 in
theorem pput_any (s : ByteArray) (m e : Int) (n : Int) (hs : s.size ≤ 9223372036854775807) (h1 : 0 ≤ n) (h2 : n ≤ 18446744073709551615) (s' : ByteArray) (m' e' : Int) (H : Hid (addR s m e (bys (digs n)) = (s', m', e'))) (w : World) :
    Calls Try.prog 34 #[.agg #[.string s, .int .i64 m, .int .i64 e], .int .u64 n] w fun en w' => en = .returned (.agg #[.string s', .int .i64 m', .int .i64 e']) ∧ Below w.heap.size w w' := by
  obtain ⟨W, hW⟩ : ∃ W, W = (w.alloc (.cells #[.string s, .int .i64 m, .int .i64 e] 45)).alloc (.cells #[.string ⟨#[]⟩, .int .i64 0, .int .i64 0] 45) := ⟨_, rfl⟩
  have P1 : Hid (Box W 45 w.heap.size #[.string s, .int .i64 m, .int .i64 e]) := Lib.hid (by rw [hW]; exact (Box.new _ _ _).alloc _)
  have X1 : Hid (Box W 45 (w.heap.size + 1) #[.string ⟨#[]⟩, .int .i64 0, .int .i64 0]) := Lib.hid (by rw [hW]; exact Box.new2 _ _ _ _)
  have B1 : Hid (Below w.heap.size w W) := Lib.hid (by rw [hW]; exact ((Below.refl w.heap.size w).alloc (by simp) _).alloc (by simp) _)
  have hWh := Lib.hid hW
  clear hW
  have hd := digs_len10 h2
  go_enter Try.func34, Try.ntmps34
  go_wp2
  rw [← hWh.out]
  have P2 : Hid (Box W.drew 45 w.heap.size #[.string s, .int .i64 m, .int .i64 e]) := Lib.hid P1.out
  have X2 : Hid (Box W.drew 45 (w.heap.size + 1) #[.string ⟨#[]⟩, .int .i64 0, .int .i64 0]) := Lib.hid X1.out
  have B2 := Lib.hid B1.out.drew
  have n1 : w.heap.size ≠ w.heap.size + 1 := by omega
  have g0 := P2.out.c3
  go_region_held3 (fun w' => w'.cell? ⟨w.heap.size, 0, none⟩ = some (.string s) ∧ w'.cell? ⟨w.heap.size, 1, none⟩ = some (.int .i64 m) ∧ w'.cell? ⟨w.heap.size, 2, none⟩ = some (.int .i64 e))
    (first
      | with_reducible exact g0
      | with_reducible exact P3.out.c3
      | with_reducible exact (P3.out.alloc _).c3
      | with_reducible exact P4.out.c3
      | with_reducible exact (((P4.out.other n1 _).other n1 _).other n1 _).c3)
    (first
      | (go_at_call 76; refine (bytes_any n h1 h2 _).mono ?_; rintro en w3 ⟨rfl, hB⟩; have P3 := Lib.hid (P2.out.below hB); have X3 := Lib.hid (X2.out.below hB); have B3 := Lib.hid (below_then B2.out hB); have Q3 := Lib.hid (Box.new w3 9 #[.string (strOfNums (digs n))]); clear hB)
      | (go_at_call 75; refine (write_any s m e hs _ 1 [strOfNums (digs n)] (by simp) (by simp) (Lib.hid (by simp [size_digs]; omega)) s' m' e' (Lib.hid (by rw [cat_one]; exact H.out)) _ (Lib.hid (reads_one _ w3.heap.size _ Q3.out.c1))).mono ?_; rintro en w4 ⟨rfl, hB⟩; have P4 := Lib.hid ((P3.out.alloc _).below hB); have X4 := Lib.hid ((X3.out.alloc _).below hB); have B4 := Lib.hid (below_then (B3.out.alloc B3.out.size _) hB); clear hB; obtain ⟨c0, c1, c2⟩ := X4.out.c3; obtain ⟨f0, f1, f2⟩ := X4.out.f3))
  go_wp2
  obtain ⟨d0, d1, d2⟩ := (X4.out.set3 (.string s') (.int .i64 m') (.int .i64 e')).c3
  exact bodyPost_ret (v := .agg #[.string s', .int .i64 m', .int .i64 e']) (by simp [results, Try.results34, go_sem, d0, d1, d2]) rfl ⟨rfl, Below.set3 B4.out _ (by simp) _ _ _⟩
/-- the parts of strings: each behind its length -/
def partsOf (ts : List ByteArray) : List ByteArray := ts.flatMap fun t => [strOfNums (digs t.size), t]
theorem partsOf_len (ts : List ByteArray) : (partsOf ts).length = 2 * ts.length := by
  induction ts with
  | nil => rfl
  | cons t ts ih => show ([strOfNums (digs t.size), t] ++ partsOf ts).length = _; simp [ih]; omega
theorem partsOf_snoc (ts : List ByteArray) (k : Nat) (h : k < ts.length) : partsOf (ts.take (k + 1)) = partsOf (ts.take k) ++ [strOfNums (digs (ts[k]?.getD ByteArray.empty).size), ts[k]?.getD ByteArray.empty] := by
  rw [List.take_succ_eq_append_getElem h, List.getElem?_eq_getElem h]
  unfold partsOf
  rw [List.flatMap_append]
  simp
theorem partsOf_size {ts : List ByteArray} (h : ∀ t ∈ ts, t.size ≤ 9223372036854775807) : ∀ x ∈ partsOf ts, x.size ≤ 9223372036854775807 := by
  intro x hx
  unfold partsOf at hx
  rw [List.mem_flatMap] at hx
  obtain ⟨t, ht, hx⟩ := hx
  have := h t ht
  simp at hx
  rcases hx with rfl | rfl
  · rw [size_digs]
    have : (digs t.size).length ≤ 10 := digs_len10 (by omega)
    omega
  · exact this
/-- the bytes of strings, each behind its length -/
def encS (ts : List ByteArray) : List UInt8 := cat (partsOf ts)
theorem src_two (W0 : World) (n : Nat) (hn : n = W0.heap.size) (v u : Value) (t : TypeId) : Src (W0.alloc (.cells #[v, u] t)) (some ⟨n, 0, none⟩) 2 [v, u] := by
  subst hn
  refine .inr ⟨_, rfl, fun j x hx => ?_⟩
  have hb := Box.new W0 t #[v, u]
  have hj : j = 0 ∨ j = 1 := by
    rcases Nat.lt_or_ge j 2 with h | h
    · omega
    · rw [List.getElem?_eq_none (by simpa using h)] at hx; cases hx
  rcases hj with rfl | rfl
  · have := hb.cell 0; simp [Addr.add] at hx ⊢; exact hx
  · have := hb.cell 1; simp [Addr.add] at hx ⊢; exact hx
theorem row_cap {E : TypeId} {W : World} {base k c : Nat} {a : Option Addr} {n : Nat} {xs : List Value} (h : W.ownsRow base E 1 (.slice a n c) k xs) : n = k ∧ n ≤ c := by
  rcases h.2 with ⟨e, h0⟩ | ⟨g, cap, cur, e, _, _, hc, _⟩
  · cases e; exact ⟨h0.symm, Nat.le_refl _⟩
  · cases e; exact ⟨rfl, hc⟩
set_option maxRecDepth 100000 in
set_option maxHeartbeats 2000000 in
theorem pputs_any (s : ByteArray) (m e : Int) (a : Option Addr) (c : Nat) (ts : List ByteArray) (hs : s.size ≤ 9223372036854775807) (hn : ts.length ≤ 100000) (hz : Hid (∀ x ∈ ts, x.size ≤ 9223372036854775807)) (s' : ByteArray) (m' e' : Int) (H : Hid (addR s m e (encS ts) = (s', m', e'))) (w : World) (hr : Hid (ReadsS w a ts)) :
    Calls Try.prog 36 #[.agg #[.string s, .int .i64 m, .int .i64 e], .slice a ts.length c] w fun en w' => en = .returned (.agg #[.string s', .int .i64 m', .int .i64 e']) ∧ Below w.heap.size w w' := by
  obtain ⟨W, hW⟩ : ∃ W, W = (w.alloc (.cells #[.string s, .int .i64 m, .int .i64 e] 45)).alloc (.cells #[.string ⟨#[]⟩, .int .i64 0, .int .i64 0] 45) := ⟨_, rfl⟩
  have P1 : Hid (Box W 45 w.heap.size #[.string s, .int .i64 m, .int .i64 e]) := Lib.hid (by rw [hW]; exact (Box.new _ _ _).alloc _)
  have X1 : Hid (Box W 45 (w.heap.size + 1) #[.string ⟨#[]⟩, .int .i64 0, .int .i64 0]) := Lib.hid (by rw [hW]; exact Box.new2 _ _ _ _)
  have B1 : Hid (Below w.heap.size w W) := Lib.hid (by rw [hW]; exact ((Below.refl w.heap.size w).alloc (by simp) _).alloc (by simp) _)
  have hsz : W.heap.size = w.heap.size + 2 := by rw [hW]; simp
  have hWh := Lib.hid hW
  have HSZ := Lib.hid hsz
  clear hW hsz
  go_enter Try.func36, Try.ntmps36
  go_wp2
  rw [← hWh.out]
  go_loopw [10, 5] (fun i q wr => ∃ (k : Nat), k ≤ ts.length ∧ i = .int .i64 k ∧ Hid (wr.ownsRow W.heap.size 9 1 q (partsOf (ts.take k)).length ((partsOf (ts.take k)).map Value.string)) ∧ Hid (Below W.heap.size W wr)) (fun i _ _ => ts.length - (intOf i).toNat)
  case atStart => exact ⟨0, by omega, rfl, Lib.hid (World.ownsRow_nil _ _ _ _), Lib.hid (Below.refl _ _)⟩
  case round =>
    obtain ⟨k, hk, rfl, HR, HB⟩ := hrel
    have hBs := HB.out.size
    have hwr := HSZ.out
    by_cases hlt : k < ts.length
    · obtain ⟨b, off, rfl, hb, hc⟩ := (hr.out.below (below_then B1.out HB.out)) k hlt
      have hzx := hz.out _ (mem_getS ts k hlt)
      have hp := partsOf_snoc ts k hlt
      generalize ts[k]?.getD ByteArray.empty = y at hc hzx hp
      have HP := Lib.hid hp
      have hpl : (partsOf (ts.take k)).length ≤ 200000 := by rw [partsOf_len]; have : (ts.take k).length ≤ k := List.length_take_le _ _; omega
      clear hp hwr
      generalize hT : partsOf (ts.take k) = T at HR hpl
      have HT := Lib.hid hT
      clear hT
      go_wp2_with (first
        | (go_at_call 78; refine (size_any y.size (by omega) (by omega) _).mono ?_; rintro en w1 ⟨rfl, hB1⟩; have HR1 := Lib.hid (row_below HR.out hB1); have HB1 := Lib.hid (below_then HB.out hB1); have hz1 := HB1.out.size; clear hB1)
        | (at_builtin; refine append_in Try.underlying46 info9 rfl (by omega) rfl (.tmp 14) (.tmp 19) rfl W.heap.size _ T.length (T.map Value.string) rfl (row_alloc HR1.out _) _ [.string (strOfNums (digs y.size)), .string y] 2 2 rfl rfl (src_two _ _ (by simp) _ _ _) (by simp [Value.oneCell']) (by omega) (by simp; omega) ?_; intro v1 wA hv1 hBA; obtain ⟨a1, k1, rfl⟩ := row_shape hv1; have HR2 := Lib.hid hv1; have HB2 := Lib.hid ((HB1.out.alloc hz1 _).trans hBA); clear hv1 hBA))
      go_roundw
      case rel => exact ⟨k + 1, by omega, by go_num, Lib.hid (by rw [HP.out, HT.out]; simpa using HR2.out), HB2⟩
      case measure => simp [intOf]; omega
    · have hkk : k = ts.length := by omega
      subst hkk
      rw [List.take_length] at HR
      clear hwr
      obtain ⟨a1, c1, rfl⟩ := row_shape HR.out
      have hcap := (row_cap HR.out).2
      have P3 := Lib.hid (P1.out.below HB.out)
      have X3 := Lib.hid (X1.out.below HB.out)
      have B3 := Lib.hid (below_then B1.out HB.out)
      have hrow := Lib.hid (reads_of_row rfl HR.out : ReadsS wr a1 (partsOf ts))
      have hpl : (partsOf ts).length ≤ 1000000 := by rw [partsOf_len]; omega
      obtain ⟨c0, c1', c2⟩ := P3.out.c3
      go_wp2_with (go_at_call 75; refine (write_any s m e hs a1 _ (partsOf ts) hcap hpl (Lib.hid (partsOf_size hz.out)) s' m' e' H _ hrow).mono ?_; rintro en w7 ⟨rfl, hB⟩; have X7 := Lib.hid (X3.out.below hB); have B7 := Lib.hid (below_then B3.out hB); clear hB c0 c1' c2; obtain ⟨c0, c1, c2⟩ := X7.out.c3; obtain ⟨f0, f1, f2⟩ := X7.out.f3)
      obtain ⟨d0, d1, d2⟩ := (X7.out.set3 (.string s') (.int .i64 m') (.int .i64 e')).c3
      exact bodyPost_ret (v := .agg #[.string s', .int .i64 m', .int .i64 e']) (by simp [results, Try.results36, go_sem, d0, d1, d2]) rfl ⟨rfl, Below.set3 B7.out _ (by simp) _ _ _⟩
theorem info27 : (Try.prog.info? 27).map (fun i => (i.zero, i.size, i.bytes)) = some (some (.int .u64 0), 1, 8) := by kernel_rfl
theorem zg_range {a : Int} (h1 : -9223372036854775808 ≤ a) (h2 : a ≤ 9223372036854775807) : 0 ≤ zg a ∧ zg a ≤ 18446744073709551615 := by
  unfold zg; split <;> omega
theorem list_any64 (a : Option Addr) (c : Nat) (l : List Int) (w : World) (hn : l.length ≤ 1000) (hl : Hid (∀ z ∈ l, -9223372036854775808 ≤ z ∧ z ≤ 9223372036854775807)) {B : Nat} (hr : Hid (w.ownsRow B 27 1 (.slice a l.length c) l.length ((l.map zg).map (Value.int .u64)))) :
    Calls Try.prog 80 #[.slice a l.length c] w fun e w' => e = .returned (.string (strOfNums ((l.map zg).flatMap digs))) ∧ Below w.heap.size w w' := by
  have h := list_any a c (l.map zg) w (by simpa using hn) (fun z hz => by
    rw [List.mem_map] at hz
    obtain ⟨y, hy, rfl⟩ := hz
    exact zg_range (hl.out y hy).1 (hl.out y hy).2) (reads_of_row (f := Value.int .u64) (d := 0) (by simp) hr.out)
  simpa using h
/-- the bytes of a list of numbers -/
def encI (l : List Int) : List UInt8 := bys (digs l.length) ++ bys ((l.map zg).flatMap digs)
theorem cat_encI (l : List Int) : cat [strOfNums (digs l.length), strOfNums ((l.map zg).flatMap digs)] = encI l := by
  simp [cat, encI, str_list]
set_option maxRecDepth 100000 in
set_option maxHeartbeats 2000000 in
theorem pputi_any (s : ByteArray) (m e : Int) (a : Option Addr) (c : Nat) (l : List Int) (hs : s.size ≤ 9223372036854775807) (hn : l.length ≤ 1000) (hl64 : Hid (∀ z ∈ l, -9223372036854775808 ≤ z ∧ z ≤ 9223372036854775807)) (s' : ByteArray) (m' e' : Int) (H : Hid (addR s m e (encI l) = (s', m', e'))) (w : World) (hr : Hid (ReadsI w a l)) :
    Calls Try.prog 38 #[.agg #[.string s, .int .i64 m, .int .i64 e], .slice a l.length c] w fun en w' => en = .returned (.agg #[.string s', .int .i64 m', .int .i64 e']) ∧ Below w.heap.size w w' := by
  obtain ⟨W, hW⟩ : ∃ W, W = (w.alloc (.cells #[.string s, .int .i64 m, .int .i64 e] 45)).alloc (.cells #[.string ⟨#[]⟩, .int .i64 0, .int .i64 0] 45) := ⟨_, rfl⟩
  have P1 : Hid (Box W 45 w.heap.size #[.string s, .int .i64 m, .int .i64 e]) := Lib.hid (by rw [hW]; exact (Box.new _ _ _).alloc _)
  have X1 : Hid (Box W 45 (w.heap.size + 1) #[.string ⟨#[]⟩, .int .i64 0, .int .i64 0]) := Lib.hid (by rw [hW]; exact Box.new2 _ _ _ _)
  have B1 : Hid (Below w.heap.size w W) := Lib.hid (by rw [hW]; exact ((Below.refl w.heap.size w).alloc (by simp) _).alloc (by simp) _)
  have hWh := Lib.hid hW
  clear hW
  have hz2 : Hid (∀ x ∈ [strOfNums (digs l.length), strOfNums ((l.map zg).flatMap digs)], x.size ≤ 9223372036854775807) := Lib.hid (by
    have q1 : (digs l.length).length ≤ 10 := digs_len10 (by omega)
    have q2 := flat_len (l.map zg) (fun z hz => by
      rw [List.mem_map] at hz
      obtain ⟨y, hy, rfl⟩ := hz
      exact (zg_range (hl64.out y hy).1 (hl64.out y hy).2).2)
    rw [List.length_map] at q2
    intro x hx
    simp only [List.mem_cons, List.not_mem_nil, or_false] at hx
    rcases hx with rfl | rfl
    · rw [strOfNums_size]; omega
    · rw [strOfNums_size]; omega)
  have H2 : Hid (addR s m e (cat [strOfNums (digs l.length), strOfNums ((l.map zg).flatMap digs)]) = (s', m', e')) := Lib.hid (by rw [cat_encI]; exact H.out)
  clear H
  go_enter Try.func38, Try.ntmps38
  go_wp2
  rw [← hWh.out]
  go_loopw [10, 5] (fun i q wr => ∃ (k : Nat), k ≤ l.length ∧ i = .int .i64 k ∧ Hid (wr.ownsRow W.heap.size 27 1 q ((l.take k).map zg).length (((l.take k).map zg).map (Value.int .u64))) ∧ Hid (Below W.heap.size W wr)) (fun i _ _ => l.length - (intOf i).toNat)
  case atStart => exact ⟨0, by omega, rfl, Lib.hid (World.ownsRow_nil _ _ _ _), Lib.hid (Below.refl _ _)⟩
  case round =>
    obtain ⟨k, hk, rfl, HR, HB⟩ := hrel
    have hBs := HB.out.size
    by_cases hlt : k < l.length
    · obtain ⟨b, off, rfl, hb, hc⟩ := (hr.out.below (below_then B1.out HB.out)) k hlt
      obtain ⟨hz1, hz3⟩ := hl64.out _ (mem_getD l k hlt)
      have hp : (l.take (k + 1)).map zg = (l.take k).map zg ++ [zg (l[k]?.getD 0)] := by
        rw [List.take_succ_eq_append_getElem hlt, List.map_append, List.getElem?_eq_getElem hlt]; rfl
      generalize l[k]?.getD 0 = y at hc hz1 hz3 hp
      have HP := Lib.hid hp
      have hpl : ((l.take k).map zg).length ≤ 1000 := by rw [List.length_map]; have : (l.take k).length ≤ k := List.length_take_le _ _; omega
      clear hp
      generalize hT : (l.take k).map zg = T at HR hpl
      have HT := Lib.hid hT
      clear hT
      go_wp2_with (first
        | (go_at_call 79; refine (zig_any y hz1 hz3 _).mono ?_; rintro en w1 ⟨rfl, rfl⟩)
        | (at_builtin; refine append_in Try.underlying62 info27 rfl (by omega) rfl (.tmp 14) (.tmp 17) rfl W.heap.size _ T.length (T.map (Value.int .u64)) rfl (row_alloc HR.out _) _ [.int .u64 (zg y)] 1 1 rfl rfl (src_one _ _ _) (by simp [Value.oneCell']) (by omega) (by simp; omega) ?_; intro v1 wA hv1 hBA; obtain ⟨a1, k1, rfl⟩ := row_shape hv1; have HR2 := Lib.hid hv1; have HB2 := Lib.hid ((HB.out.alloc hBs _).trans hBA); clear hv1 hBA))
      go_roundw
      case rel => exact ⟨k + 1, by omega, by go_num, Lib.hid (by rw [HP.out, HT.out]; simpa using HR2.out), HB2⟩
      case measure => simp [intOf]; omega
    · have hkk : k = l.length := by omega
      subst hkk
      rw [List.take_length] at HR
      obtain ⟨a1, c1, rfl⟩ := row_shape HR.out
      rw [List.length_map] at *
      obtain ⟨W2, rfl⟩ : ∃ W2 : World, W2 = wr := ⟨_, rfl⟩
      have P2 : Hid (Box W2.drew 45 w.heap.size #[.string s, .int .i64 m, .int .i64 e]) := Lib.hid (P1.out.below HB.out.drew)
      have X2 : Hid (Box W2.drew 45 (w.heap.size + 1) #[.string ⟨#[]⟩, .int .i64 0, .int .i64 0]) := Lib.hid (X1.out.below HB.out.drew)
      have B2 := Lib.hid (below_then B1.out HB.out).drew
      have R2 : Hid (W2.drew.ownsRow W.heap.size 27 1 (.slice a1 l.length c1) l.length ((l.map zg).map (Value.int .u64))) := Lib.hid HR.out
      have n1 : w.heap.size ≠ w.heap.size + 1 := by omega
      go_wp2
      have g0 := P2.out.c3
      go_region_held3 (fun w' => w'.cell? ⟨w.heap.size, 0, none⟩ = some (.string s) ∧ w'.cell? ⟨w.heap.size, 1, none⟩ = some (.int .i64 m) ∧ w'.cell? ⟨w.heap.size, 2, none⟩ = some (.int .i64 e))
    (first
      | with_reducible exact g0
      | with_reducible exact saP.out.c3
      | with_reducible exact laP.out.c3
      | with_reducible exact lbP.out.c3
      | with_reducible exact sbP.out.c3
      | with_reducible exact (laP.out.alloc _).c3
      | with_reducible exact (sbP.out.alloc _).c3
      | with_reducible exact lawP.out.c3
      | with_reducible exact sbwP.out.c3
      | with_reducible exact (((lawP.out.other n1 _).other n1 _).other n1 _).c3
      | with_reducible exact (((sbwP.out.other n1 _).other n1 _).other n1 _).c3)
    (first
      | (go_at_call 78; (with_reducible refine (size_any l.length (by omega) (by omega) W2.drew).mono ?_); rintro en sa ⟨rfl, hB⟩; have saP := Lib.hid (P2.out.below hB); have saX := Lib.hid (X2.out.below hB); have saB := Lib.hid (below_then B2.out hB); have saR := Lib.hid (row_below R2.out hB); clear hB)
      | (go_at_call 80; (with_reducible refine (list_any64 a1 c1 l sa hn hl64 saR).mono ?_); rintro en la ⟨rfl, hB⟩; have laP := Lib.hid (saP.out.below hB); have laX := Lib.hid (saX.out.below hB); have laB := Lib.hid (below_then saB.out hB); have laR := Lib.hid (row_below saR.out hB); clear hB)
      | (go_at_call 80; (with_reducible refine (list_any64 a1 c1 l W2.drew hn hl64 R2).mono ?_); rintro en lb ⟨rfl, hB⟩; have lbP := Lib.hid (P2.out.below hB); have lbX := Lib.hid (X2.out.below hB); have lbB := Lib.hid (below_then B2.out hB); have lbR := Lib.hid (row_below R2.out hB); clear hB)
      | (go_at_call 78; (with_reducible refine (size_any l.length (by omega) (by omega) lb).mono ?_); rintro en sb ⟨rfl, hB⟩; have sbP := Lib.hid (lbP.out.below hB); have sbX := Lib.hid (lbX.out.below hB); have sbB := Lib.hid (below_then lbB.out hB); have sbR := Lib.hid (row_below lbR.out hB); clear hB)
      | (go_at_call 75; (refine (write_any s m e hs _ 2 [strOfNums (digs l.length), strOfNums ((l.map zg).flatMap digs)] (by simp) (by simp) hz2 s' m' e' H2 (la.alloc _) (Lib.hid (reads_pair _ _ _ _ (Box.new _ _ _).cell2.1 (Box.new _ _ _).cell2.2))).mono ?_); rintro en law ⟨rfl, hB⟩; have lawP := Lib.hid ((laP.out.alloc _).below hB); have lawX := Lib.hid ((laX.out.alloc _).below hB); have lawB := Lib.hid (below_then (laB.out.alloc laB.out.size _) hB); clear hB; obtain ⟨c0, c1', c2⟩ := lawX.out.c3; obtain ⟨f0, f1, f2⟩ := lawX.out.f3)
      | (go_at_call 75; (refine (write_any s m e hs _ 2 [strOfNums (digs l.length), strOfNums ((l.map zg).flatMap digs)] (by simp) (by simp) hz2 s' m' e' H2 (sb.alloc _) (Lib.hid (reads_pair _ _ _ _ (Box.new _ _ _).cell2.1 (Box.new _ _ _).cell2.2))).mono ?_); rintro en sbw ⟨rfl, hB⟩; have sbwP := Lib.hid ((sbP.out.alloc _).below hB); have sbwX := Lib.hid ((sbX.out.alloc _).below hB); have sbwB := Lib.hid (below_then (sbB.out.alloc sbB.out.size _) hB); clear hB; obtain ⟨c0, c1', c2⟩ := sbwX.out.c3; obtain ⟨f0, f1, f2⟩ := sbwX.out.f3))
      all_goals
        go_wp2
        first
          | (obtain ⟨d0, d1, d2⟩ := (lawX.out.set3 (.string s') (.int .i64 m') (.int .i64 e')).c3; exact bodyPost_ret (v := .agg #[.string s', .int .i64 m', .int .i64 e']) (by simp [results, Try.results38, go_sem, d0, d1, d2]) rfl ⟨rfl, Below.set3 lawB.out _ (by simp) _ _ _⟩)
          | (obtain ⟨d0, d1, d2⟩ := (sbwX.out.set3 (.string s') (.int .i64 m') (.int .i64 e')).c3; exact bodyPost_ret (v := .agg #[.string s', .int .i64 m', .int .i64 e']) (by simp [results, Try.results38, go_sem, d0, d1, d2]) rfl ⟨rfl, Below.set3 sbwB.out _ (by simp) _ _ _⟩)
end Go.Proofs.Ytkepnjnindolbaa.s05
