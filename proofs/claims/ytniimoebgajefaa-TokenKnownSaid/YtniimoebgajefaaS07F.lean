/-
  Layer 7, the program's side: read.
-/
import Derived.Test.YtniimoebgajefaaS07C
import Derived.Test.YtniimoebgajefaaS07E
namespace Go.Proofs.Ytniimoebgajefaa.s07
set_option linter.unusedVariables false
set_option linter.unusedSimpArgs false
open Go.RowKit
open kit

theorem Box.blk {w w1 : World} {t : TypeId} {b B : Nat} {xs : Array Value} (h : Box w t b xs) (hB : Below B w w1) (hlt : b < B) : Box w1 t b xs := (hB.block b hlt).trans h
/-- read's answer -/
def rdP (s : ByteArray) (t : Int) : Int × ByteArray × Int := if badR s t = 0 then (if wholeR s then ((atB s 0 : Int), s.extract 2 (2 + atB s 1), 0) else (0, ByteArray.empty, 5)) else (0, ByteArray.empty, badR s t)
/-- the bytes of a part -/
def sub (s : ByteArray) (i j : Nat) : List Int := ((s.data.toList.drop i).take (j - i)).map fun c => (c.toNat : Int)
theorem sub_self (s : ByteArray) (i : Nat) : sub s i i = [] := by unfold sub; simp
theorem sub_len (s : ByteArray) (i j : Nat) (h : j ≤ s.size) : (sub s i j).length = j - i := by
  unfold sub
  rw [List.length_map, List.length_take, List.length_drop]
  have : s.data.toList.length = s.size := by simp
  omega
theorem sub_snoc (s : ByteArray) (i k : Nat) (h1 : i ≤ k) (h : k < s.size) : sub s i (k + 1) = sub s i k ++ [(s[k].toNat : Int)] := by
  unfold sub
  rw [show k + 1 - i = (k - i) + 1 by omega, List.take_succ_eq_append_getElem (by simp; omega), List.map_append]
  congr 1
  simp only [List.map_cons, List.map_nil, List.getElem_drop]
  have : i + (k - i) = k := by omega
  simp only [this]
  rfl
theorem sub_str (s : ByteArray) (i j : Nat) : strOfNums (sub s i j) = s.extract i j := by
  unfold strOfNums sub
  apply bytes_ext
  simp only [ByteArray.data_extract, Array.toList_extract, List.extract_eq_take_drop]
  rw [List.map_map]
  have : ((fun n : Int => UInt8.ofNat n.toNat) ∘ fun c : UInt8 => (c.toNat : Int)) = id := by
    funext c
    simp
  rw [this, List.map_id]
theorem whole_no {s : ByteArray} (h : s.size < 2 ∨ s.size < 2 + atB s 1) : wholeR s = false := by unfold wholeR; exact decide_eq_false (by omega)
theorem bad_ok {s : ByteArray} {t : Int} (h1 : 1 < s.size) (h2 : atB s 0 < 128) (h3 : (atB s 0 : Int) ≤ t) (h4 : atB s 1 ≤ 24) : badR s t = 0 := by
  unfold badR
  rw [if_neg (by omega), if_neg (by omega), if_neg (by omega), if_neg (by omega), if_neg (by omega), if_neg (by omega)]
theorem rdP_bad {s : ByteArray} {t k : Int} (h : badR s t = k) (hk : k ≠ 0) : rdP s t = (0, ByteArray.empty, k) := by unfold rdP; rw [h, if_neg hk]
theorem rdP_short {s : ByteArray} {t : Int} (h : badR s t = 0) (hw : wholeR s = false) : rdP s t = (0, ByteArray.empty, 5) := by unfold rdP; rw [h, hw]; rfl
theorem rdP_ok {s : ByteArray} {t : Int} (h : badR s t = 0) (hw : wholeR s = true) : rdP s t = ((atB s 0 : Int), s.extract 2 (2 + atB s 1), 0) := by unfold rdP; rw [h, hw]; rfl
/-- where a reader is behind k bytes -/
def At0 (s : ByteArray) (t : Int) (k : Nat) (w : World) (b : Nat) : Prop := k = 0 ∧ Rdr w b t 0 0 (.slice none 0 0) 0
def At1 (s : ByteArray) (t : Int) (k : Nat) (w : World) (b : Nat) : Prop := k = 1 ∧ 0 < s.size ∧ atB s 0 < 128 ∧ (atB s 0 : Int) ≤ t ∧ Rdr w b t 1 (atB s 0 : Int) (.slice none 0 0) 0
def At2 (s : ByteArray) (t : Int) (k : Nat) (w : World) (b : Nat) : Prop := ∃ v, 2 ≤ k ∧ 1 < s.size ∧ atB s 0 < 128 ∧ (atB s 0 : Int) ≤ t ∧ atB s 1 ≤ 24 ∧ k < 2 + atB s 1 ∧ Rdr w b t 2 (atB s 0 : Int) v (2 + (atB s 1 : Int) - k) ∧ w.ownsRow (b + 1) 5 1 v (sub s 2 k).length ((sub s 2 k).map (Value.int .u8))
def RdAt (s : ByteArray) (t : Int) (k : Nat) (w : World) (b : Nat) : Prop := At0 s t k w b ∨ At1 s t k w b ∨ At2 s t k w b
theorem read_results (tm : Array Value) (W : World) (b : Nat) {y x p n : Value} (h4 : tm.getD 4 undef = .pointer (some ⟨b, 0, none⟩)) (h5 : tm.getD 5 undef = n)
    (X : Box W 23 b #[y, x, p]) : (results Try.f37 tm).run Try.prog W = .ok (.tuple #[.agg #[y, x, p], n]) W := by
  obtain ⟨c0, c1, c2⟩ := X.cell3
  simp only [Array.getD_eq_getD_getElem?] at h4 h5
  simp [results, Try.results37, go_sem, h4, h5, c0, c1, c2]
theorem ret_tk {y y' e e' : Int} {x x' : ByteArray} (h : (y, x, e) = (y', x', e')) : Ending.returned (.tuple #[.agg #[.int .i64 y, .string x, .int .i64 0], .int .i64 e]) = .returned (.tuple #[.agg #[.int .i64 y', .string x', .int .i64 0], .int .i64 e']) := by cases h; rfl
theorem rd_new (w : World) (t : Int) : Hid (Box ((w.alloc (.cells #[.int .i64 0, .string ⟨#[]⟩, .int .i64 0] 23)).alloc (.cells #[.int .i64 t, .int .i64 0, .int .i64 0, .slice none 0 0, .int .i64 0] 78)) 23 w.heap.size #[.int .i64 0, .string ⟨#[]⟩, .int .i64 0]
    ∧ Rdr ((w.alloc (.cells #[.int .i64 0, .string ⟨#[]⟩, .int .i64 0] 23)).alloc (.cells #[.int .i64 t, .int .i64 0, .int .i64 0, .slice none 0 0, .int .i64 0] 78)) (w.heap.size + 1) t 0 0 (.slice none 0 0) 0
    ∧ Below w.heap.size w ((w.alloc (.cells #[.int .i64 0, .string ⟨#[]⟩, .int .i64 0] 23)).alloc (.cells #[.int .i64 t, .int .i64 0, .int .i64 0, .slice none 0 0, .int .i64 0] 78))) :=
  Lib.hid ⟨(Box.new w _ _).alloc _, by
    have := Box.new (w.alloc (.cells #[.int .i64 0, .string ⟨#[]⟩, .int .i64 0] 23)) 78 #[.int .i64 t, .int .i64 0, .int .i64 0, .slice none 0 0, .int .i64 0]
    rwa [show (w.alloc (.cells #[.int .i64 0, .string ⟨#[]⟩, .int .i64 0] 23)).heap.size = w.heap.size + 1 from Array.size_push ..] at this, ((Below.refl _ w).alloc (Nat.le_refl _) _).alloc (by simp) _⟩
set_option maxRecDepth 100000 in
set_option maxHeartbeats 4000000 in
theorem read_any (s : ByteArray) (t : Int) (w : World) (hs : s.size ≤ 9223372036854775806) (y : Int) (x : ByteArray) (er : Int) (H : Hid (rdP s t = (y, x, er))) :
    Calls Try.prog 37 #[.string s, .int .i64 t] w fun e w' => e = .returned (.tuple #[.agg #[.int .i64 y, .string x, .int .i64 0], .int .i64 er]) ∧ Below w.heap.size w w' := by
  have N0 := rd_new w t
  go_enter Try.func37, Try.ntmps37
  go_wp2
  go_loopw [13] (fun i wr => ∃ k : Nat, i = .int .i64 k ∧ k ≤ s.size ∧ Hid (RdAt s t k wr (w.heap.size + 1)) ∧ Hid (Box wr 23 w.heap.size #[.int .i64 0, .string ⟨#[]⟩, .int .i64 0]) ∧ Hid (Below w.heap.size w wr)) (fun i _ => s.size - (intOf i).toNat)
  case atStart => exact ⟨0, rfl, by omega, Lib.hid (.inl ⟨rfl, N0.out.2.1⟩), Lib.hid N0.out.1, Lib.hid N0.out.2.2⟩
  case round =>
    obtain ⟨k, rfl, hk, HR, HX, HB⟩ := hrel
    clear N0
    by_cases hlt : k < s.size
    · have hb := s[k].toNat_lt
      have hb5 : s[k].toNat ≤ 255 := by omega
      have hne : w.heap.size ≠ w.heap.size + 1 := by omega
      have hle : w.heap.size ≤ w.heap.size + 1 := by omega
      rcases HR.out with ⟨rfl, R⟩ | ⟨rfl, p1, p2, p3, R⟩ | ⟨v, p0, p1, p2, p3, p4, p5, R, O⟩
      · clear HR
        have HR := Lib.hid R
        clear R
        obtain ⟨y1, e1, hn⟩ : ∃ y1 e1, numR s[0].toNat t 14 = (y1, e1) := ⟨_, _, rfl⟩
        have HN := Lib.hid hn
        have hat := at_in hlt
        unfold numR at hn
        by_cases q1 : 128 ≤ s[0].toNat
        · rw [if_pos q1] at hn
          have HZ : Hid ((0, ByteArray.empty, 26) = (y, x, er)) := Lib.hid (by rw [← H.out, rdP_bad (badR_1 hlt q1) (by decide)])
          cases hn
          clear hat
          go_wp2_with (go_at_call 49; refine (take0 (w.heap.size + 1) t 0 _ 0 s[0].toNat hb5 _ _ _ HN HR).mono ?_; rintro e w1 ⟨rfl, hR1, hG⟩; have X1 := Lib.hid (GB.box HX.out hG hne); have B1 := Lib.hid (HB.out.trans (hG.below hle HB.out.size)); have R1 := Lib.hid hR1; clear hR1 hG; obtain ⟨d0, d1, d2⟩ := X1.out.cell3; obtain ⟨g0, g1, g2⟩ := X1.out.free3)
          exact bodyPost_ret (read_results _ _ w.heap.size rfl rfl (X1.out.put3 _ _ _)) rfl ⟨ret_tk HZ.out, below_put3 B1.out (Nat.le_refl _) _ _ _⟩
        · rw [if_neg q1] at hn
          by_cases q2 : t < (s[0].toNat : Int)
          · rw [if_pos q2] at hn
            have HZ : Hid ((0, ByteArray.empty, 14) = (y, x, er)) := Lib.hid (by rw [← H.out, rdP_bad (badR_2 hlt q1 q2) (by decide)])
            cases hn
            clear hat
            go_wp2_with (go_at_call 49; refine (take0 (w.heap.size + 1) t 0 _ 0 s[0].toNat hb5 _ _ _ HN HR).mono ?_; rintro e w1 ⟨rfl, hR1, hG⟩; have X1 := Lib.hid (GB.box HX.out hG hne); have B1 := Lib.hid (HB.out.trans (hG.below hle HB.out.size)); have R1 := Lib.hid hR1; clear hR1 hG; obtain ⟨d0, d1, d2⟩ := X1.out.cell3; obtain ⟨g0, g1, g2⟩ := X1.out.free3)
            exact bodyPost_ret (read_results _ _ w.heap.size rfl rfl (X1.out.put3 _ _ _)) rfl ⟨ret_tk HZ.out, below_put3 B1.out (Nat.le_refl _) _ _ _⟩
          · rw [if_neg q2] at hn
            cases hn
            have HQ : Hid (0 < s.size ∧ atB s 0 < 128 ∧ (atB s 0 : Int) ≤ t ∧ (s[0].toNat : Int) = (atB s 0 : Int)) := Lib.hid ⟨hlt, by omega, by omega, by omega⟩
            clear hat
            go_wp2_with (go_at_call 49; refine (take0 (w.heap.size + 1) t 0 _ 0 s[0].toNat hb5 _ _ _ HN HR).mono ?_; rintro e w1 ⟨rfl, hR1, hG⟩; have X1 := Lib.hid (GB.box HX.out hG hne); have B1 := Lib.hid (HB.out.trans (hG.below hle HB.out.size)); have R1 := Lib.hid hR1; clear hR1 hG; obtain ⟨r0, r1, r2, r3, r4⟩ := R1.out.cell5; obtain ⟨d0, d1, d2⟩ := X1.out.cell3; obtain ⟨g0, g1, g2⟩ := X1.out.free3)
            go_roundw
            case rel => exact ⟨0 + 1, by go_num, by omega, Lib.hid (.inr (.inl ⟨rfl, HQ.out.1, HQ.out.2.1, HQ.out.2.2.1, HQ.out.2.2.2 ▸ R1.out⟩)), X1, B1⟩
            case measure => simp [intOf]; omega
      · clear HR
        have HR := Lib.hid R
        clear R
        obtain ⟨y1, e1, hn⟩ : ∃ y1 e1, numR s[1].toNat 24 4 = (y1, e1) := ⟨_, _, rfl⟩
        have HN := Lib.hid hn
        have hat0 := at_in p1
        have hat := at_in hlt
        have h4 := badR_4 (t := t) p1 (by omega) (by omega) hlt
        unfold numR at hn
        by_cases q1 : 128 ≤ s[1].toNat
        · rw [if_pos q1] at hn
          rw [if_pos q1] at h4
          have HZ : Hid ((0, ByteArray.empty, 26) = (y, x, er)) := Lib.hid (by rw [← H.out, rdP_bad h4 (by decide)])
          cases hn
          clear hat hat0 h4 p2 p3
          go_wp2_with (go_at_call 49; refine (take1 (w.heap.size + 1) t _ _ 0 s[1].toNat hb5 _ _ _ HN HR).mono ?_; rintro e w1 ⟨rfl, hR1, hG⟩; have X1 := Lib.hid (GB.box HX.out hG hne); have B1 := Lib.hid (HB.out.trans (hG.below hle HB.out.size)); have R1 := Lib.hid hR1; clear hR1 hG; obtain ⟨d0, d1, d2⟩ := X1.out.cell3; obtain ⟨g0, g1, g2⟩ := X1.out.free3)
          exact bodyPost_ret (read_results _ _ w.heap.size rfl rfl (X1.out.put3 _ _ _)) rfl ⟨ret_tk HZ.out, below_put3 B1.out (Nat.le_refl _) _ _ _⟩
        · rw [if_neg q1] at hn
          rw [if_neg q1] at h4
          by_cases q2 : (24 : Int) < (s[1].toNat : Int)
          · rw [if_pos q2] at hn
            rw [if_pos (by omega)] at h4
            have HZ : Hid ((0, ByteArray.empty, 4) = (y, x, er)) := Lib.hid (by rw [← H.out, rdP_bad h4 (by decide)])
            cases hn
            clear hat hat0 h4 p2 p3
            go_wp2_with (go_at_call 49; refine (take1 (w.heap.size + 1) t _ _ 0 s[1].toNat hb5 _ _ _ HN HR).mono ?_; rintro e w1 ⟨rfl, hR1, hG⟩; have X1 := Lib.hid (GB.box HX.out hG hne); have B1 := Lib.hid (HB.out.trans (hG.below hle HB.out.size)); have R1 := Lib.hid hR1; clear hR1 hG; obtain ⟨d0, d1, d2⟩ := X1.out.cell3; obtain ⟨g0, g1, g2⟩ := X1.out.free3)
            exact bodyPost_ret (read_results _ _ w.heap.size rfl rfl (X1.out.put3 _ _ _)) rfl ⟨ret_tk HZ.out, below_put3 B1.out (Nat.le_refl _) _ _ _⟩
          · rw [if_neg q2] at hn
            rw [if_neg (by omega)] at h4
            cases hn
            by_cases q3 : (s[1].toNat : Int) = 0
            · have HZ : Hid (((atB s 0 : Int), strOfNums [], 0) = (y, x, er)) := Lib.hid (by
                rw [← H.out, rdP_ok h4 (by unfold wholeR; exact decide_eq_true (by omega)), show atB s 1 = 0 by omega, ← sub_str, sub_self])
              rw [q3] at HN
              clear hat hat0 h4 p2 p3 q3 q2 q1
              go_wp2_with (go_at_call 49; refine (take1 (w.heap.size + 1) t _ _ 0 s[1].toNat hb5 _ _ _ HN HR).mono ?_; rintro e w1 ⟨rfl, hR1, hG⟩; have X1 := Lib.hid (GB.box HX.out hG hne); have B1 := Lib.hid (HB.out.trans (hG.below hle HB.out.size)); have R1 := Lib.hid hR1; clear hR1 hG; rw [if_pos rfl] at R1; obtain ⟨r0, r1, r2, r3, r4⟩ := R1.out.cell5; have cv := conv_own w1 (w.heap.size + 2) (.slice none 0 0) [] (World.ownsRow_nil _ _ _ _); obtain ⟨d0, d1, d2⟩ := X1.out.cell3; obtain ⟨g0, g1, g2⟩ := X1.out.free3)
              exact bodyPost_ret (read_results _ _ w.heap.size rfl rfl (X1.out.put3 _ _ _)) rfl ⟨ret_tk HZ.out, below_put3 B1.out (Nat.le_refl _) _ _ _⟩
            · have HQ : Hid (1 < s.size ∧ atB s 0 < 128 ∧ (atB s 0 : Int) ≤ t ∧ atB s 1 ≤ 24 ∧ 2 < 2 + atB s 1 ∧ (s[1].toNat : Int) = (2 + (atB s 1 : Int) - ((1 + 1 : Nat) : Int))) := Lib.hid ⟨hlt, p2, p3, by omega, by omega, by omega⟩
              clear hat hat0 h4 p2 p3
              go_wp2_with (go_at_call 49; refine (take1 (w.heap.size + 1) t _ _ 0 s[1].toNat hb5 _ _ _ HN HR).mono ?_; rintro e w1 ⟨rfl, hR1, hG⟩; have X1 := Lib.hid (GB.box HX.out hG hne); have B1 := Lib.hid (HB.out.trans (hG.below hle HB.out.size)); have R1 := Lib.hid hR1; clear hR1 hG; rw [if_neg q3] at R1; obtain ⟨r0, r1, r2, r3, r4⟩ := R1.out.cell5; obtain ⟨d0, d1, d2⟩ := X1.out.cell3; obtain ⟨g0, g1, g2⟩ := X1.out.free3)
              go_roundw
              case rel => exact ⟨1 + 1, by go_num, by omega, Lib.hid (.inr (.inr ⟨_, by omega, HQ.out.1, HQ.out.2.1, HQ.out.2.2.1, HQ.out.2.2.2.1, HQ.out.2.2.2.2.1, HQ.out.2.2.2.2.2 ▸ R1.out, by rw [sub_self]; exact World.ownsRow_nil _ _ _ _⟩)), X1, B1⟩
              case measure => simp [intOf]; omega
      · clear HR
        have HR := Lib.hid R
        have HO := Lib.hid O
        clear R O
        have hne2 : w.heap.size < w.heap.size + 1 := by omega
        have hle : w.heap.size ≤ w.heap.size + 1 := by omega
        have hln0 := sub_len s 2 k hk
        have hln : (sub s 2 k).length ≤ 1000 := by omega
        have hl1 : 1 ≤ 2 + (atB s 1 : Int) - (k : Int) := by omega
        have hl2 : 2 + (atB s 1 : Int) - (k : Int) ≤ 24 := by omega
        have hsn := Lib.hid (sub_snoc s 2 k p0 hlt)
        by_cases q3 : 2 + (atB s 1 : Int) - (k : Int) = 1
        · have HZ : Hid (((atB s 0 : Int), strOfNums (sub s 2 k ++ [(s[k].toNat : Int)]), 0) = (y, x, er)) := Lib.hid (by
            rw [← H.out, rdP_ok (bad_ok p1 p2 p3 p4) (by unfold wholeR; exact decide_eq_true (by omega)), ← hsn.out, sub_str, show k + 1 = 2 + atB s 1 by omega])
          clear p2 p3 p4 p5 hln0
          generalize hlk : 2 + (atB s 1 : Int) - (k : Int) = lk at HR hl1 hl2 q3
          subst q3
          clear hlk
          generalize hL : sub s 2 k = L at HO hln HZ
          clear hL hsn
          go_wp2_with (go_at_call 49; refine (take2 (w.heap.size + 1) t _ v _ hl1 hl2 s[k].toNat hb5 _ L hln HR HO).mono ?_; rintro e w1 ⟨v1, rfl, hR1, hO1, hB2⟩; have X1 := Lib.hid (HX.out.blk hB2 hne2); have B1 := Lib.hid (HB.out.trans (hB2.mono hle)); have R1 := Lib.hid hR1; have O1 := Lib.hid hO1; clear hR1 hB2 hO1; rw [if_pos rfl] at R1; obtain ⟨a9, k9, rfl⟩ := row_shape O1.out; obtain ⟨r0, r1, r2, r3, r4⟩ := R1.out.cell5; have cv := conv_own w1 (w.heap.size + 1 + 1) _ (L ++ [(s[k].toNat : Int)]) (by rw [List.length_append]; exact O1.out); obtain ⟨d0, d1, d2⟩ := X1.out.cell3; obtain ⟨g0, g1, g2⟩ := X1.out.free3)
          exact bodyPost_ret (read_results _ _ w.heap.size rfl rfl (X1.out.put3 _ _ _)) rfl ⟨ret_tk HZ.out, below_put3 B1.out (Nat.le_refl _) _ _ _⟩
        · have HQ : Hid (2 ≤ k + 1 ∧ 1 < s.size ∧ atB s 0 < 128 ∧ (atB s 0 : Int) ≤ t ∧ atB s 1 ≤ 24 ∧ k + 1 < 2 + atB s 1) := Lib.hid ⟨by omega, p1, p2, p3, p4, by omega⟩
          have hlk9 : Hid (2 + (atB s 1 : Int) - (k : Int) - 1 = 2 + (atB s 1 : Int) - ((k + 1 : Nat) : Int)) := Lib.hid (by omega)
          clear p2 p3 p4 p5 hln0
          generalize hlk : 2 + (atB s 1 : Int) - (k : Int) = lk at HR hl1 hl2 q3 hlk9
          clear hlk
          go_wp2_with (go_at_call 49; refine (take2 (w.heap.size + 1) t _ v _ hl1 hl2 s[k].toNat hb5 _ (sub s 2 k) hln HR HO).mono ?_; rintro e w1 ⟨v1, rfl, hR1, hO1, hB2⟩; have X1 := Lib.hid (HX.out.blk hB2 hne2); have B1 := Lib.hid (HB.out.trans (hB2.mono hle)); have R1 := Lib.hid hR1; have O1 := Lib.hid hO1; clear hR1 hB2 hO1; rw [if_neg q3] at R1; obtain ⟨a9, k9, rfl⟩ := row_shape O1.out; obtain ⟨r0, r1, r2, r3, r4⟩ := R1.out.cell5; obtain ⟨d0, d1, d2⟩ := X1.out.cell3; obtain ⟨g0, g1, g2⟩ := X1.out.free3)
          go_roundw
          case rel => exact ⟨k + 1, by go_num, by omega, Lib.hid (.inr (.inr ⟨_, HQ.out.1, HQ.out.2.1, HQ.out.2.2.1, HQ.out.2.2.2.1, HQ.out.2.2.2.2.1, HQ.out.2.2.2.2.2, hlk9.out ▸ R1.out, by rw [hsn.out, List.length_append]; exact O1.out⟩)), X1, B1⟩
          case measure => simp [intOf]; omega
    · have HZ : Hid ((0, ByteArray.empty, 5) = (y, x, er)) := Lib.hid (by
        rw [← H.out]
        rcases HR.out with ⟨rfl, _⟩ | ⟨rfl, p1, p2, p3, _⟩ | ⟨v, p0, p1, p2, p3, p4, p5, _, _⟩
        · rw [rdP_short (badR_0 (by omega)) (whole_no (by omega))]
        · have := at_in p1
          rw [rdP_short (badR_3 p1 (by omega) (by omega) (by omega)) (whole_no (by omega))]
        · rw [rdP_short (bad_ok p1 p2 p3 p4) (whole_no (by omega))])
      have X1 := HX
      have B1 := HB
      obtain ⟨d0, d1, d2⟩ := X1.out.cell3
      obtain ⟨g0, g1, g2⟩ := X1.out.free3
      clear HR
      go_wp2
      exact bodyPost_ret (read_results _ _ w.heap.size rfl rfl (X1.out.put3 _ _ _)) rfl ⟨ret_tk HZ.out, below_put3 B1.out (Nat.le_refl _) _ _ _⟩
end Go.Proofs.Ytniimoebgajefaa.s07
