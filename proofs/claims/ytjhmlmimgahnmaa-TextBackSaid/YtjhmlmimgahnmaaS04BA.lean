/-
  Layer 4: the law TextBack.
-/
import Derived.Test.YtjhmlmimgahnmaaS04Y
namespace Go.Proofs.Ytjhmlmimgahnmaa.s04
set_option linter.unusedVariables false
set_option linter.unusedSimpArgs false
open Go.RowKit
open kit

theorem text_len (a : Option Addr) (cap m : Nat) (l : List Li) (w : World) (hm : l.length = m) (hl : l.length ≤ 1000) (hz : ∀ x ∈ l, x.2.1.size ≤ 1000) (hr : ReadsL w a l) (s : ByteArray) (c : Nat) (H : Hid (textR l = (s, c))) :
    Calls Try.prog 17 #[.slice a m cap] w fun e w' => e = .returned (.tuple #[.string s, .int .i64 (c : Int)]) ∧ Below w.heap.size w w' := by
  subst hm
  exact text_any a cap l w hl hz hr s c H
theorem ReadsL.drop {w : World} {b : Nat} {off : Nat} {l : List Li} (h : ReadsL w (some ⟨b, off, none⟩) l) (n : Nat) : ReadsL w (some ⟨b, off + n * 3, none⟩) (l.drop n) := fun i hi => by
  rw [List.length_drop] at hi
  obtain ⟨b', o', e, hb, h0, h1, h2⟩ := h (n + i) (by omega)
  cases e
  rw [show off + (n + i) * 3 = off + n * 3 + i * 3 by omega] at h0 h1 h2
  rw [show l[n + i]? = (l.drop n)[i]? by rw [List.getElem?_drop]] at h0 h1 h2
  exact ⟨b, off + n * 3, rfl, hb, h0, h1, h2⟩
theorem reads_drop1 {w : World} {a : Option Addr} {l : List Li} {n c : Nat} (hc : l.length ≤ c) (hn : n ≤ l.length) (e : c = n) : ReadsL w a (l.drop n) := by
  rw [List.drop_of_length_le (by omega)]; exact ReadsL.nil _ _
theorem reads_drop2 {w : World} {a : Option Addr} {l : List Li} {n : Nat} (h : ReadsL w a l) (hn : n ≤ l.length) : ReadsL w (Option.map (fun x => x.add (n * 3)) a) (l.drop n) := by
  by_cases e : n = l.length
  · rw [e, List.drop_length]; exact ReadsL.nil _ _
  · obtain ⟨b, off, rfl, _⟩ := h 0 (by omega)
    show ReadsL w (some ((⟨b, off, none⟩ : Addr).add (n * 3))) _
    rw [Go.WideShapes.add_plain]
    exact h.drop n
theorem reads_set {w : World} {t : TypeId} {b i : Nat} {x y : Int} {u : Value} {a : Option Addr} {l : List Li} (hB : Box w t b #[.int .i64 x, .int .i64 y]) (h : ReadsL w a l) : ReadsL (w.setCell ⟨b, i, none⟩ u) a l := fun k hk => by
  obtain ⟨b', off, e, hb, h0, h1, h2⟩ := h k hk
  have hne : b' ≠ b := by
    rintro rfl
    rw [hB.cell] at h1
    rcases (show off + k * 3 + 1 = 1 ∨ 2 ≤ off + k * 3 + 1 by omega) with h | h
    · rw [h] at h1; cases h1
    · rw [Array.getElem?_eq_none (by simpa using h)] at h1; cases h1
  have hh : (w.setCell ⟨b, i, none⟩ u).heap[b']? = w.heap[b']? := Below.heap_setCell _ _ _ _ hne
  refine ⟨b', off, e, ?_, ?_, ?_, ?_⟩
  · have := (set_grown w b i u).size
    omega
  · unfold World.cell? at *; simp only at *; rw [hh]; exact h0
  · unfold World.cell? at *; simp only at *; rw [hh]; exact h1
  · unfold World.cell? at *; simp only at *; rw [hh]; exact h2
theorem textR_ok {l : List Li} (h : textE l = 0) : textR l = (⟨(textB l).toArray⟩, 0) := by unfold textR; rw [if_pos h]
def gap0 : ByteArray := { data := #[32, 35, 32, 120, 32, 61, 32, 55, 10, 9] }
def gap1 : ByteArray := { data := #[35, 97, 13, 10, 10] }
def gap2 : ByteArray := { data := #[32, 35, 32, 101, 110, 100] }
theorem back_lex {a b : List Li} (ha : okL a) (hb : okL b) (na : (textB a).length ≤ 400) (nb : (textB b).length ≤ 400) :
    ∃ L, lexR ({ data := #[32, 35, 32, 120, 32, 61, 32, 55, 10, 9] } ++ ⟨(textB a).toArray⟩ ++ { data := #[35, 97, 13, 10, 10] } ++ ⟨(textB b).toArray⟩ ++ { data := #[32, 35, 32, 101, 110, 100] }) = (L, 0, 0) ∧ L.map kt = (a ++ b).map kt := by
  refine lex_gaps (a := a) (b := b) (g0 := [32, 35, 32, 120, 32, 61, 32, 55, 10, 9]) (g1 := [35, 97, 13, 10, 10]) (g2 := [32, 35, 32, 101, 110, 100]) ?_ ha hb (by decide) (by decide) (by decide) (fun c r' h => ?_) (by simp) (fun c r' h => ?_) ?_
  · simp only [ByteArray.size_append]
    show 10 + (textB a).toArray.size + 5 + (textB b).toArray.size + 6 ≤ 2000
    simp only [List.size_toArray]
    omega
  · rw [← (List.cons.inj h).1]; rfl
  · rw [← (List.cons.inj h).1]; rfl
  · simp
set_option maxRecDepth 100000 in
set_option maxHeartbeats 800000 in
theorem back_any (a0 : Option Addr) (cap : Nat) (zs : List Int) (n0 : Int) (w : World) (hn : zs.length ≤ 9223372036854775807) (hz : ∀ z ∈ zs, -9223372036854775808 ≤ z ∧ z ≤ 9223372036854775807) (ra : ReadsI w a0 zs) (k1 : -9223372036854775808 ≤ n0) (k2 : n0 ≤ 9223372036854775807) :
    Calls Try.prog 5 #[.slice a0 zs.length cap, .int .i64 n0] w fun e w' => e = .returned (.bool true) ∧ Below w.heap.size w w' := by
  have hm := made_any a0 cap zs w hn hz ra
  have hok := mk_ok (zs.take 40)
  have hsz := mk_size (zs.take 40)
  have hE := mk_E (zs.take 40)
  have hlen : ((zs.take 40).map mkLi).length ≤ 40 := by simp; omega
  obtain ⟨n, hnn⟩ : ∃ n : Nat, n0 % ((((zs.take 40).map mkLi).length : Int) + 1) = (n : Int) := ⟨(n0 % ((((zs.take 40).map mkLi).length : Int) + 1)).toNat, by have := Int.emod_nonneg n0 (show (((zs.take 40).map mkLi).length : Int) + 1 ≠ 0 by omega); omega⟩
  have hnl : n ≤ ((zs.take 40).map mkLi).length := by
    have := Int.emod_lt_of_pos n0 (show 0 < (((zs.take 40).map mkLi).length : Int) + 1 by omega)
    omega
  have hET := mk_E ((zs.take 40).take n)
  have hED := mk_E ((zs.take 40).drop n)
  rw [List.map_take] at hET
  rw [List.map_drop] at hED
  generalize (zs.take 40).map mkLi = l at hm hok hsz hE hlen hET hED hnn hnl
  have hokT : okL (l.take n) := fun x hx => hok x (List.mem_of_mem_take hx)
  have hokD : okL (l.drop n) := fun x hx => hok x (List.mem_of_mem_drop hx)
  have tl : (l.take n).length = n := by rw [List.length_take]; omega
  have dl : (l.drop n).length = l.length - n := List.length_drop
  have b0 := textB_len l 9 hsz
  have bT := textB_len (l.take n) 9 (fun x hx => hsz x (List.mem_of_mem_take hx))
  have bD := textB_len (l.drop n) 9 (fun x hx => hsz x (List.mem_of_mem_drop hx))
  rw [tl] at bT
  rw [dl] at bD
  obtain ⟨L, hL1, hL2⟩ := back_lex hokT hokD (by omega) (by omega)
  rw [List.take_append_drop] at hL2
  have r0 := textR_ok hE
  have rT := textR_ok hET
  have rD := textR_ok hED
  have s0 : (⟨(textB l).toArray⟩ : ByteArray).size ≤ 400 := by show (textB l).toArray.size ≤ _; rw [List.size_toArray]; omega
  have sT : (⟨(textB (l.take n)).toArray⟩ : ByteArray).size ≤ 400 := by show (textB (l.take n)).toArray.size ≤ _; rw [List.size_toArray]; omega
  have sD : (⟨(textB (l.drop n)).toArray⟩ : ByteArray).size ≤ 400 := by show (textB (l.drop n)).toArray.size ≤ _; rw [List.size_toArray]; omega
  obtain ⟨K, hK1, hK2⟩ := lex_text (S := ⟨(textB l).toArray⟩) (by omega) hok (by simp)
  generalize (⟨(textB l).toArray⟩ : ByteArray) = t0 at r0 s0 hK1
  generalize (⟨(textB (l.take n)).toArray⟩ : ByteArray) = tT at rT sT hL1
  generalize (⟨(textB (l.drop n)).toArray⟩ : ByteArray) = tD at rD sD hL1
  have lK := lexR_len hK1
  have lL := lexR_len hL1
  simp only [ByteArray.size_append] at lL
  replace lL : L.length ≤ 10 + tT.size + 5 + tD.size + 6 + 1 := lL
  have nK : K.length ≤ 1000000 := by omega
  have nL : L.length ≤ 1000000 := by omega
  have nl : l.length ≤ 1000000 := by omega
  have nl3 : l.length ≤ 1000 := by omega
  have q1 : ({ data := #[32, 35, 32, 120, 32, 61, 32, 55, 10, 9] } : ByteArray).size + tT.size ≤ 9223372036854775807 := by show 10 + _ ≤ _; omega
  have q2 : ({ data := #[32, 35, 32, 120, 32, 61, 32, 55, 10, 9] } ++ tT : ByteArray).size + ({ data := #[35, 97, 13, 10, 10] } : ByteArray).size ≤ 9223372036854775807 := by rw [ByteArray.size_append]; show 10 + _ + 5 ≤ _; omega
  have q3 : ({ data := #[32, 35, 32, 120, 32, 61, 32, 55, 10, 9] } ++ tT ++ { data := #[35, 97, 13, 10, 10] } : ByteArray).size + tD.size ≤ 9223372036854775807 := by simp only [ByteArray.size_append]; show 10 + _ + 5 + _ ≤ _; omega
  have q4 : ({ data := #[32, 35, 32, 120, 32, 61, 32, 55, 10, 9] } ++ tT ++ { data := #[35, 97, 13, 10, 10] } ++ tD : ByteArray).size + ({ data := #[32, 35, 32, 101, 110, 100] } : ByteArray).size ≤ 9223372036854775807 := by simp only [ByteArray.size_append]; show 10 + _ + 5 + _ + 6 ≤ _; omega
  have v5 : ({ data := #[32, 35, 32, 120, 32, 61, 32, 55, 10, 9] } ++ tT ++ { data := #[35, 97, 13, 10, 10] } ++ tD ++ { data := #[32, 35, 32, 101, 110, 100] } : ByteArray).size ≤ 100000 := by simp only [ByteArray.size_append]; show 10 + _ + 5 + _ + 6 ≤ _; omega
  have t05 : t0.size ≤ 100000 := by omega
  have HM := Lib.hid hm
  have HR0 := Lib.hid r0
  have HRT := Lib.hid rT
  have HRD := Lib.hid rD
  have HSZ : Hid (∀ x ∈ l, x.2.1.size ≤ 1000) := Lib.hid fun x hx => Nat.le_trans (hsz x hx) (by omega)
  have HSZT : Hid (∀ x ∈ l.take n, x.2.1.size ≤ 1000) := Lib.hid fun x hx => Nat.le_trans (hsz x (List.mem_of_mem_take hx)) (by omega)
  have HSZD : Hid (∀ x ∈ l.drop n, x.2.1.size ≤ 1000) := Lib.hid fun x hx => Nat.le_trans (hsz x (List.mem_of_mem_drop hx)) (by omega)
  have HK := Lib.hid hK1
  have HL := Lib.hid hL1
  have HSK : Hid (decide (l.map kt = K.map kt) = true) := Lib.hid (decide_eq_true hK2.symm)
  have HSL : Hid (decide (L.map kt = l.map kt) = true) := Lib.hid (decide_eq_true hL2)
  have HTL := Lib.hid tl
  have HDL := Lib.hid dl
  clear hm hok hsz hE hET hED hokT hokD tl dl b0 bT bD hL1 hL2 r0 rT rD hK1 hK2 lK lL hz hn ra
  go_enter Try.func5, Try.ntmps5
  go_wp2_with (first
    | (go_at_call 16; refine HM.out.mono ?_; rintro e w1 ⟨b1, c1, rfl, hc1, hc1m, R1, B1⟩; have HR1 := Lib.hid R1; have HB1 := Lib.hid B1; clear B1 R1)
    | (go_at_call 17; refine (text_any b1 c1 l _ nl3 HSZ.out HR1.out t0 0 HR0).mono ?_; rintro e w2 ⟨rfl, B2⟩; have HR2 := Lib.hid (HR1.out.below B2); have HB2 := Lib.hid (below_then HB1.out B2); clear B2 HR1 HB1)
    | (go_at_call 8; (with_reducible refine (plex_any t0 _ t05 K 0 0 HK).mono ?_); rintro e w3 ⟨b3, c3, rfl, hc3, R3, B3⟩; have HR3 := Lib.hid ((HR2.out.below B3).alloc (.cells #[.int .i64 (0 : Int), .int .i64 (0 : Int)] 26)); have HK3 := Lib.hid (R3.alloc (.cells #[.int .i64 (0 : Int), .int .i64 (0 : Int)] 26)); have HF3 := Lib.hid (Box.new w3 26 #[.int .i64 (0 : Int), .int .i64 (0 : Int)]); have HB3 := Lib.hid ((below_then HB2.out B3).alloc (below_then HB2.out B3).size (.cells #[.int .i64 (0 : Int), .int .i64 (0 : Int)] 26)); have z3 := (below_then HB2.out B3).size; clear B3 R3 HR2 HB2)
    | (go_at_call 18; refine (same_any b1 b3 c1 c3 l K _ nl nK HR3.out HK3.out true HSK).mono ?_; rintro e w4 ⟨rfl, B4⟩; have HR4 := Lib.hid (HR3.out.below B4); have HF4 := Lib.hid (HF3.out.below B4); have HB4 := Lib.hid (below_then HB3.out B4); clear B4 HR3 HK3 HF3 HB3))
  go_at_call 19
  refine (mod_any n0 ((l.length : Int) + 1) k1 k2 (by omega) (by omega) _).mono ?_
  rintro e w5 ⟨rfl, rfl⟩
  rw [hnn]
  clear hnn
  have hnc : n ≤ c1 := Nat.le_trans hnl hc1
  go_wp2_with (first
    | (go_at_call 17; have RT := ReadsL.left (r := l.drop n) (by rw [List.take_append_drop]; exact HR4.out); (with_reducible refine (text_len b1 c1 n (l.take n) _ HTL.out (by rw [HTL.out]; omega) HSZT.out RT tT 0 HRT).mono ?_); clear RT; rintro e w6 ⟨rfl, B6⟩; have HR6 := Lib.hid (HR4.out.below B6); have HF6 := Lib.hid (HF4.out.below B6); have HB6 := Lib.hid (below_then HB4.out B6); clear B6 HR4 HF4 HB4)
    | (go_at_call 17; have RD2 := reads_drop1 (w := w6) (a := b1) (l := l) (n := n) (c := c1) hc1 hnl (by omega); (with_reducible refine (text_len b1 0 (l.length - n) (l.drop n) _ HDL.out (by rw [HDL.out]; omega) HSZD.out RD2 tD 0 HRD).mono ?_); clear RD2; rintro e w7 ⟨rfl, B7⟩; have HR7 := Lib.hid (HR6.out.below B7); have HF7 := Lib.hid (HF6.out.below B7); have HB7 := Lib.hid (below_then HB6.out B7); clear B7 HR6 HF6 HB6)
    | (go_at_call 17; have RD2 := reads_drop2 HR6.out hnl; (with_reducible refine (text_len _ (c1 - n) (l.length - n) (l.drop n) _ HDL.out (by rw [HDL.out]; omega) HSZD.out RD2 tD 0 HRD).mono ?_); clear RD2; rintro e w7 ⟨rfl, B7⟩; have HR7 := Lib.hid (HR6.out.below B7); have HF7 := Lib.hid (HF6.out.below B7); have HB7 := Lib.hid (below_then HB6.out B7); clear B7 HR6 HF6 HB6)
    | (go_at_call 8; have HZ7 := HF7.out; (with_reducible refine (plex_any ({ data := #[32, 35, 32, 120, 32, 61, 32, 55, 10, 9] } ++ tT ++ { data := #[35, 97, 13, 10, 10] } ++ tD ++ { data := #[32, 35, 32, 101, 110, 100] }) _ v5 L 0 0 HL).mono ?_); clear HZ7; rintro e w8 ⟨b8, c8, rfl, hc8, R8, B8⟩; have HR8 := Lib.hid (HR7.out.below B8); have HK8 := Lib.hid R8; have HF8 := Lib.hid (HF7.out.below B8); have HB8 := Lib.hid (below_then HB7.out B8); clear B8 R8 HR7 HF7 HB7; have l8 := HF8.out.lt; obtain ⟨x0, x1⟩ := HF8.out.cell2; obtain ⟨y0, y1⟩ := HF8.out.free2)
    | (go_at_call 18; have F1 : Box (w8.setCell ⟨w3.heap.size, 0, none⟩ (.int .i64 0)) 26 w3.heap.size #[.int .i64 0, .int .i64 0] := HF8.out.set 0 (by decide) (.int .i64 0); refine (same_any b8 b1 c8 _ L l _ nL nl (reads_set F1 (reads_set HF8.out HK8.out)) (reads_set F1 (reads_set HF8.out HR8.out)) true HSL).mono ?_; clear F1; rintro e w10 ⟨rfl, B10⟩; have HB10 := Lib.hid (below_then ((HB8.out.setCell (p := ⟨w3.heap.size, 0, none⟩) z3 _).setCell (p := ⟨w3.heap.size, 1, none⟩) z3 _) B10); clear B10)
    | (go_at_call 7; refine (awake_any _).mono ?_; rintro e w11 ⟨rfl, B11⟩; have HB11 := Lib.hid (below_then HB10.out B11); clear B11))
  all_goals
    go_ret
    exact ⟨rfl, HB11.out⟩
end Go.Proofs.Ytjhmlmimgahnmaa.s04
