/-
  Layer 6, the program's side: Intern, Add, Find, Name.
-/
import Derived.Test.YtndghjfgjkjbdaaS06R
namespace Go.Proofs.Ytndghjfgjkjbdaa.s06
set_option linter.unusedVariables false
set_option linter.unusedSimpArgs false
open Go.RowKit Go.WideMaps Go.Maps
open kit

def IsV (V0 : Value) (_ : Nat) (V : Value) (_ : World) : Prop := V = V0
theorem isV_stays (V0 : Value) : Stays (IsV V0) := fun _ _ _ _ h _ _ => h
theorem putT_bad {l : List ByteArray} {s : ByteArray} {once : Bool} (h : okT l ≠ 0) : putT l s once = ([], 0, okT l) := if_neg h
theorem atI_in {l : List ByteArray} {s : ByteArray} (h : ix l s < l.length) : atI l s = (ix l s : Int) := if_pos h
theorem atI_out {l : List ByteArray} {s : ByteArray} (h : ¬ ix l s < l.length) : atI l s = -1 := if_neg h
theorem putT_good {l : List ByteArray} {s : ByteArray} {once : Bool} (h : okT l = 0) : putT l s once = ((if (putP l s once).2.2 = 0 then (putP l s once).1 else []), (putP l s once).2.1, (putP l s once).2.2) := by
  unfold putT putP
  rw [if_pos h]
  by_cases h0 : s03.checkR s.data.toList = 0
  · rw [if_pos h0, if_pos h0]
    by_cases h1 : ix l s < l.length
    · rw [if_pos h1, atI_in h1, if_pos (by omega)]
      cases once <;> rfl
    · rw [if_neg h1, atI_out h1, if_neg (by omega)]
      by_cases h2 : l.length = 32
      · rw [if_pos h2, if_pos h2]; rfl
      · rw [if_neg h2, if_neg h2]; rfl
  · rw [if_neg h0, if_neg h0]
    exact (by rw [if_neg h0])
theorem findT_good {l : List ByteArray} {s : ByteArray} (h : okT l = 0) : findT l s = findP l s := by
  unfold findT findP
  rw [if_pos h]
  by_cases h0 : s03.checkR s.data.toList = 0
  · rw [if_pos h0, if_pos h0]
    by_cases h1 : ix l s < l.length
    · rw [if_pos h1, atI_in h1, if_neg (by omega)]
    · rw [if_neg h1, atI_out h1, if_pos (by omega)]
  · rw [if_neg h0, if_neg h0]
theorem nameT_good {l : List ByteArray} {n : Int} (h : okT l = 0) : nameT l n = nameP l n := if_pos h
theorem chkG_fst : ∀ (f k : Nat) (l : List ByteArray), (chkG l f k).1 = 0 → chkG l f k = (0, 0)
  | 0, _, _, _ => rfl
  | f + 1, k, l, h => by
    unfold chkG at h ⊢
    by_cases h0 : badK l k = 0
    · rw [if_pos h0] at h ⊢
      exact chkG_fst f (k + 1) l h
    · rw [if_neg h0] at h
      exact absurd h h0
theorem chkT_ok {l : List ByteArray} (h : okT l = 0) : chkT l = (0, 0) := by
  unfold okT at h
  unfold chkT at h ⊢
  by_cases hb : 32 < l.length
  · rw [if_pos hb] at h
    exact absurd h (by decide)
  · rw [if_neg hb] at h ⊢
    exact chkG_fst _ _ _ h
theorem ok_len {l : List ByteArray} (h : okT l = 0) : l.length ≤ 32 := by
  unfold okT chkT at h
  by_cases hb : 32 < l.length
  · rw [if_pos hb] at h
    exact absurd h (by decide)
  · omega
theorem tab_shape {l : List ByteArray} {B : Nat} {V : Value} {W : World} (h : TabO l B V W) : ∃ a k, V = .agg #[.slice a l.length k] := by
  obtain ⟨v, rfl, hr⟩ := h
  obtain ⟨a, k, rfl⟩ := row_shape hr
  exact ⟨_, _, rfl⟩
theorem tab_below {l : List ByteArray} {B : Nat} {V : Value} {W W1 : World} (h : TabO l B V W) (hB : Below W.heap.size W W1) : TabO l B V W1 := by
  obtain ⟨v, rfl, hr⟩ := h
  exact ⟨v, rfl, row_below hr hB⟩
theorem tab_set {l : List ByteArray} {B b i : Nat} {V : Value} {W : World} (h : TabO l B V W) (hb : b < B) (u : Value) : TabO l B V (W.setCell ⟨b, i, none⟩ u) := by
  obtain ⟨v, rfl, hr⟩ := h
  exact ⟨v, rfl, row_other hr _ _ hb _⟩
set_option maxRecDepth 100000 in
set_option maxHeartbeats 1000000 in
theorem doesN (c : Nat) (l : List ByteArray) (s : ByteArray) (l' : List ByteArray) (n er : Int) (w : World) (hs : s.size ≤ 9223372036854775807) (hn : l.length ≤ 1000) (X : Hid (Box w 9 c #[.string s])) (H : Hid (putP l s false = (l', n, er))) : Does 49 c (IsV (.int .i64 n)) l l' er w := by
  intro W b bm base v hB hW hbase _ _ _
  have c0 := (X.out.below hB).cell 0
  have HW := Lib.hid hW
  clear hW hB
  go_enter Try.func49, Try.ntmps49
  go_wp2_with (go_at_call 50; refine (internp_any b bm base v l 0 s l' n er _ hs HW H hn hbase).mono ?_; rintro e w2 ⟨v2, rfl, hW2, hK2⟩; have W2 := Lib.hid hW2; have K2 := Lib.hid hK2; clear hW2 hK2)
  go_ret2
  exact ⟨_, v2, rfl, rfl, W2.out, K2.out⟩
set_option maxRecDepth 100000 in
set_option maxHeartbeats 1000000 in
theorem doesA (c : Nat) (l : List ByteArray) (s : ByteArray) (l' : List ByteArray) (n er : Int) (w : World) (hs : s.size ≤ 9223372036854775807) (hn : l.length ≤ 1000) (X : Hid (Box w 9 c #[.string s])) (H : Hid (putP l s true = (l', n, er))) : Does 52 c (IsV (.int .i64 n)) l l' er w := by
  intro W b bm base v hB hW hbase _ _ _
  have c0 := (X.out.below hB).cell 0
  have HW := Lib.hid hW
  clear hW hB
  go_enter Try.func52, Try.ntmps52
  go_wp2_with (go_at_call 53; refine (addp_any b bm base v l 0 s l' n er _ hs HW H hn hbase).mono ?_; rintro e w2 ⟨v2, rfl, hW2, hK2⟩; have W2 := Lib.hid hW2; have K2 := Lib.hid hK2; clear hW2 hK2)
  go_ret2
  exact ⟨_, v2, rfl, rfl, W2.out, K2.out⟩
set_option maxRecDepth 100000 in
set_option maxHeartbeats 1000000 in
theorem doesF (c : Nat) (l : List ByteArray) (s : ByteArray) (n er : Int) (w : World) (hs : s.size ≤ 9223372036854775807) (X : Hid (Box w 9 c #[.string s])) (H : Hid (findP l s = (n, er))) : Does 54 c (IsV (.int .i64 n)) l l er w := by
  intro W b bm base v hB hW hbase _ _ _
  have X1 := Lib.hid (X.out.below hB)
  have HW := Lib.hid hW
  clear hW hB
  have lx := X1.out.lt
  have lb := HW.out.box.lt
  have z0 : ∀ p : Later W, p.W.cell? ⟨c, 0, none⟩ = some (.string s) := fun p => p.cell (X1.out.cell 0) lx
  have z1 : ∀ p : Later W, p.W.cell? ⟨b, 1, none⟩ = some (.map (some bm)) := fun p => p.cell (HW.out.box.cell 1) lb
  go_enter Try.func54, Try.ntmps54
  go_wp2
  refine wp_region_later (by kernel_rfl) (by kernel_rfl) ?_
  repeat (go_big_quiet_step ((go_at_call 55; exact calls_later (findp_any bm l s n er _ hs (Lib.hid (HW.out.map.below (Later.h _))) H))))
  refine wpQuiet_nil ?_
  rintro w' ⟨p5, rfl⟩
  have K5 := Lib.hid (KT.of_below (base := base) (b := b) (bm := bm) p5.h)
  have W5 := Lib.hid (HW.out.below p5.h)
  clear z0 z1
  go_wp2
  go_ret2
  exact ⟨_, v, rfl, rfl, W5.out, K5.out⟩
set_option maxRecDepth 100000 in
set_option maxHeartbeats 1000000 in
theorem doesM (c : Nat) (l : List ByteArray) (m : Int) (x : ByteArray) (er : Int) (w : World) (hn : l.length ≤ 1000) (X : Hid (Box w 3 c #[.int .i64 m])) (H : Hid (nameP l m = (x, er))) : Does 57 c (IsV (.string x)) l l er w := by
  intro W b bm base v hB hW hbase _ _ _
  have c0 := (X.out.below hB).cell 0
  have HW := Lib.hid hW
  clear hW hB
  go_enter Try.func57, Try.ntmps57
  go_wp2_with (go_at_call 58; refine (namep_any b bm base v l 0 m x er _ HW H hn).mono ?_; rintro e w2 ⟨rfl, rfl⟩)
  go_ret2
  exact ⟨_, v, rfl, rfl, HW.out, KT.refl _ _ _ _⟩
set_option maxRecDepth 100000 in
set_option maxHeartbeats 1000000 in
theorem pintern_any (a : Option Addr) (cap : Nat) (l : List ByteArray) (s : ByteArray) (lr : List ByteArray) (n er : Int) (w : World) (hn : l.length ≤ 9223372036854775807) (hz : Hid (∀ x ∈ l, x.size ≤ 9223372036854775807)) (hs : s.size ≤ 9223372036854775807) (hr : Hid (ReadsS w a l)) (H : Hid (putT l s false = (lr, n, er))) :
    Calls Try.prog 17 #[.agg #[.slice a l.length cap], .string s] w (PutOf lr n er w) := by
  have P1 := Lib.hid (((Box.new w 24 #[.slice a l.length cap]).alloc (.cells #[.string s] 9)).alloc (.cells #[.slice none 0 0] 24))
  have S1 := Lib.hid ((Box.new2 w (.cells #[.slice a l.length cap] 24) 9 #[.string s]).alloc (.cells #[.slice none 0 0] 24))
  have X1 := Lib.hid (Box.new3 w (.cells #[.slice a l.length cap] 24) (.cells #[.string s] 9) 24 #[.slice none 0 0])
  have B1 := Lib.hid (below3 w (.cells #[.slice a l.length cap] 24) (.cells #[.string s] 9) (.cells #[.slice none 0 0] 24))
  have HR1 := Lib.hid (hr.out.below B1.out)
  have hsz : (((w.alloc (.cells #[.slice a l.length cap] 24)).alloc (.cells #[.string s] 9)).alloc (.cells #[.slice none 0 0] 24)).heap.size = w.heap.size + 3 := by simp
  have HS := Lib.hid hsz
  clear hsz
  by_cases hok : okT l = 0
  · have hT := H.out
    rw [putT_good hok] at hT
    obtain ⟨⟨l', n', er'⟩, hp⟩ : ∃ r, putP l s false = r := ⟨_, rfl⟩
    rw [hp] at hT
    simp only [Prod.mk.injEq] at hT
    obtain ⟨hlr, rfl, rfl⟩ := hT
    have HLR := Lib.hid hlr
    have HP := Lib.hid hp
    have HK := Lib.hid (chkT_ok hok)
    have hl32 : l.length ≤ 1000 := Nat.le_trans (ok_len hok) (by decide)
    clear hlr hp hok H
    go_enter Try.func17, Try.ntmps17
    go_wp2_with (go_at_call 48; refine (work_okN a cap _ l l' lr er' (IsV (.int .i64 n')) (Lib.hid (isV_stays _)) _ hn hz HR1 HK (Lib.hid (doesN _ l s l' n' er' _ hs hl32 S1 HP)) HLR).mono ?_; rintro e w2 ⟨V1, V, B, B2, rfl, hb1, hb2, hT, rfl, hB⟩; obtain ⟨a1, k1, rfl⟩ := tab_shape hT; have T2 := Lib.hid hT; have X2 := Lib.hid (X1.out.below hB); have hb3 : w.heap.size + 3 ≤ B := (by rw [HS.out] at hb1; exact hb1); have B3 := Lib.hid (below_then B1.out hB); clear hT hB hb1 hb2; have c0 := X2.out.cell 0; have f0 := X2.out.free 0; have lx := X2.out.lt)
    have d0 := (X2.out.set 0 (by simp) (.slice a1 lr.length k1)).cell 0
    exact bodyPost_ret (v := .tuple #[.agg #[.slice a1 lr.length k1], .int .i64 n', .int .i64 er']) (by simp [results, Try.results17, go_sem, d0]) rfl ⟨_, B, rfl, by omega, tab_set T2.out (by omega) _, B3.out.setCell (p := ⟨w.heap.size + 1 + 1, 0, none⟩) (by simp; omega) _⟩
  · have hT := H.out
    rw [putT_bad hok] at hT
    simp only [Prod.mk.injEq] at hT
    obtain ⟨rfl, rfl, rfl⟩ := hT
    obtain ⟨⟨er', p⟩, hc⟩ : ∃ r, chkT l = r := ⟨_, rfl⟩
    have he : okT l = er' := by unfold okT; rw [hc]
    rw [he] at hok ⊢
    have HC := Lib.hid hc
    clear hc he H
    go_enter Try.func17, Try.ntmps17
    go_wp2_with (go_at_call 48; refine (work_badI a cap l er' p _ _ hn hz HR1 HC hok).mono ?_; rintro e w2 ⟨rfl, hB⟩; have X2 := Lib.hid (X1.out.below hB); have B3 := Lib.hid (below_then B1.out hB); clear hB; have c0 := X2.out.cell 0; have f0 := X2.out.free 0; have lx := X2.out.lt)
    have d0 := (X2.out.set 0 (by simp) (.slice none 0 0)).cell 0
    exact bodyPost_ret (v := .tuple #[.agg #[.slice none 0 0], .int .i64 0, .int .i64 er']) (by simp [results, Try.results17, go_sem, d0]) rfl ⟨_, w.heap.size, rfl, Nat.le_refl _, tab_nil _ _, B3.out.setCell (p := ⟨w.heap.size + 1 + 1, 0, none⟩) (by simp; omega) _⟩
set_option maxRecDepth 100000 in
set_option maxHeartbeats 1000000 in
theorem padd_any (a : Option Addr) (cap : Nat) (l : List ByteArray) (s : ByteArray) (lr : List ByteArray) (n er : Int) (w : World) (hn : l.length ≤ 9223372036854775807) (hz : Hid (∀ x ∈ l, x.size ≤ 9223372036854775807)) (hs : s.size ≤ 9223372036854775807) (hr : Hid (ReadsS w a l)) (H : Hid (putT l s true = (lr, n, er))) :
    Calls Try.prog 19 #[.agg #[.slice a l.length cap], .string s] w (PutOf lr n er w) := by
  have P1 := Lib.hid (((Box.new w 24 #[.slice a l.length cap]).alloc (.cells #[.string s] 9)).alloc (.cells #[.slice none 0 0] 24))
  have S1 := Lib.hid ((Box.new2 w (.cells #[.slice a l.length cap] 24) 9 #[.string s]).alloc (.cells #[.slice none 0 0] 24))
  have X1 := Lib.hid (Box.new3 w (.cells #[.slice a l.length cap] 24) (.cells #[.string s] 9) 24 #[.slice none 0 0])
  have B1 := Lib.hid (below3 w (.cells #[.slice a l.length cap] 24) (.cells #[.string s] 9) (.cells #[.slice none 0 0] 24))
  have HR1 := Lib.hid (hr.out.below B1.out)
  have hsz : (((w.alloc (.cells #[.slice a l.length cap] 24)).alloc (.cells #[.string s] 9)).alloc (.cells #[.slice none 0 0] 24)).heap.size = w.heap.size + 3 := by simp
  have HS := Lib.hid hsz
  clear hsz
  by_cases hok : okT l = 0
  · have hT := H.out
    rw [putT_good hok] at hT
    obtain ⟨⟨l', n', er'⟩, hp⟩ : ∃ r, putP l s true = r := ⟨_, rfl⟩
    rw [hp] at hT
    simp only [Prod.mk.injEq] at hT
    obtain ⟨hlr, rfl, rfl⟩ := hT
    have HLR := Lib.hid hlr
    have HP := Lib.hid hp
    have HK := Lib.hid (chkT_ok hok)
    have hl32 : l.length ≤ 1000 := Nat.le_trans (ok_len hok) (by decide)
    clear hlr hp hok H
    go_enter Try.func19, Try.ntmps19
    go_wp2_with (go_at_call 48; refine (work_okA a cap _ l l' lr er' (IsV (.int .i64 n')) (Lib.hid (isV_stays _)) _ hn hz HR1 HK (Lib.hid (doesA _ l s l' n' er' _ hs hl32 S1 HP)) HLR).mono ?_; rintro e w2 ⟨V1, V, B, B2, rfl, hb1, hb2, hT, rfl, hB⟩; obtain ⟨a1, k1, rfl⟩ := tab_shape hT; have T2 := Lib.hid hT; have X2 := Lib.hid (X1.out.below hB); have hb3 : w.heap.size + 3 ≤ B := (by rw [HS.out] at hb1; exact hb1); have B3 := Lib.hid (below_then B1.out hB); clear hT hB hb1 hb2; have c0 := X2.out.cell 0; have f0 := X2.out.free 0; have lx := X2.out.lt)
    have d0 := (X2.out.set 0 (by simp) (.slice a1 lr.length k1)).cell 0
    exact bodyPost_ret (v := .tuple #[.agg #[.slice a1 lr.length k1], .int .i64 n', .int .i64 er']) (by simp [results, Try.results19, go_sem, d0]) rfl ⟨_, B, rfl, by omega, tab_set T2.out (by omega) _, B3.out.setCell (p := ⟨w.heap.size + 1 + 1, 0, none⟩) (by simp; omega) _⟩
  · have hT := H.out
    rw [putT_bad hok] at hT
    simp only [Prod.mk.injEq] at hT
    obtain ⟨rfl, rfl, rfl⟩ := hT
    obtain ⟨⟨er', p⟩, hc⟩ : ∃ r, chkT l = r := ⟨_, rfl⟩
    have he : okT l = er' := by unfold okT; rw [hc]
    rw [he] at hok ⊢
    have HC := Lib.hid hc
    clear hc he H
    go_enter Try.func19, Try.ntmps19
    go_wp2_with (go_at_call 48; refine (work_badI a cap l er' p _ _ hn hz HR1 HC hok).mono ?_; rintro e w2 ⟨rfl, hB⟩; have X2 := Lib.hid (X1.out.below hB); have B3 := Lib.hid (below_then B1.out hB); clear hB; have c0 := X2.out.cell 0; have f0 := X2.out.free 0; have lx := X2.out.lt)
    have d0 := (X2.out.set 0 (by simp) (.slice none 0 0)).cell 0
    exact bodyPost_ret (v := .tuple #[.agg #[.slice none 0 0], .int .i64 0, .int .i64 er']) (by simp [results, Try.results19, go_sem, d0]) rfl ⟨_, w.heap.size, rfl, Nat.le_refl _, tab_nil _ _, B3.out.setCell (p := ⟨w.heap.size + 1 + 1, 0, none⟩) (by simp; omega) _⟩
set_option maxRecDepth 100000 in
set_option maxHeartbeats 1000000 in
theorem pfind_any (a : Option Addr) (cap : Nat) (l : List ByteArray) (s : ByteArray) (n er : Int) (w : World) (hn : l.length ≤ 9223372036854775807) (hz : Hid (∀ x ∈ l, x.size ≤ 9223372036854775807)) (hs : s.size ≤ 9223372036854775807) (hr : Hid (ReadsS w a l)) (H : Hid (findT l s = (n, er))) :
    Calls Try.prog 21 #[.agg #[.slice a l.length cap], .string s] w fun e w' => e = .returned (.tuple #[.int .i64 n, .int .i64 er]) ∧ Below w.heap.size w w' := by
  have P1 := Lib.hid ((Box.new w 24 #[.slice a l.length cap]).alloc (.cells #[.string s] 9))
  have S1 := Lib.hid (Box.new2 w (.cells #[.slice a l.length cap] 24) 9 #[.string s])
  have B1 := Lib.hid (below2 w (.cells #[.slice a l.length cap] 24) (.cells #[.string s] 9))
  have HR1 := Lib.hid (hr.out.below B1.out)
  by_cases hok : okT l = 0
  · have hT := H.out
    rw [findT_good hok] at hT
    have HP := Lib.hid hT
    have HK := Lib.hid (chkT_ok hok)
    have hl32 : l.length ≤ 1000 := Nat.le_trans (ok_len hok) (by decide)
    obtain ⟨lr, hlr⟩ : ∃ lr, (if er = 0 then l else []) = lr := ⟨_, rfl⟩
    have HLR := Lib.hid hlr
    clear hT hok H hlr
    go_enter Try.func21, Try.ntmps21
    go_wp2_with (go_at_call 48; refine (work_okF a cap _ l l lr er (IsV (.int .i64 n)) (Lib.hid (isV_stays _)) _ hn hz HR1 HK (Lib.hid (doesF _ l s n er _ hs S1 HP)) HLR).mono ?_; rintro e w2 ⟨V1, V, B, B2, rfl, hb1, hb2, hT, rfl, hB⟩; obtain ⟨a1, k1, rfl⟩ := tab_shape hT; have B3 := Lib.hid (below_then B1.out hB); clear hT hB hb1 hb2)
    go_ret2
    exact ⟨rfl, B3.out.alloc B3.out.size _⟩
  · have hT := H.out
    obtain ⟨⟨er', p⟩, hc⟩ : ∃ r, chkT l = r := ⟨_, rfl⟩
    have he : okT l = er' := by unfold okT; rw [hc]
    unfold findT at hT
    rw [if_neg hok, he] at hT
    rw [he] at hok
    simp only [Prod.mk.injEq] at hT
    obtain ⟨rfl, rfl⟩ := hT
    have HC := Lib.hid hc
    clear hc he H
    go_enter Try.func21, Try.ntmps21
    go_wp2_with (go_at_call 48; refine (work_badI a cap l er' p _ _ hn hz HR1 HC hok).mono ?_; rintro e w2 ⟨rfl, hB⟩; have B3 := Lib.hid (below_then B1.out hB); clear hB)
    go_ret2
    exact ⟨rfl, B3.out.alloc B3.out.size _⟩
set_option maxRecDepth 100000 in
set_option maxHeartbeats 1000000 in
theorem pname_any (a : Option Addr) (cap : Nat) (l : List ByteArray) (m : Int) (n : ByteArray) (er : Int) (w : World) (hn : l.length ≤ 9223372036854775807) (hz : Hid (∀ x ∈ l, x.size ≤ 9223372036854775807))  (hr : Hid (ReadsS w a l)) (H : Hid (nameT l m = (n, er))) :
    Calls Try.prog 23 #[.agg #[.slice a l.length cap], .int .i64 m] w fun e w' => e = .returned (.tuple #[.string n, .int .i64 er]) ∧ Below w.heap.size w w' := by
  have P1 := Lib.hid ((Box.new w 24 #[.slice a l.length cap]).alloc (.cells #[.int .i64 m] 3))
  have S1 := Lib.hid (Box.new2 w (.cells #[.slice a l.length cap] 24) 3 #[.int .i64 m])
  have B1 := Lib.hid (below2 w (.cells #[.slice a l.length cap] 24) (.cells #[.int .i64 m] 3))
  have HR1 := Lib.hid (hr.out.below B1.out)
  by_cases hok : okT l = 0
  · have hT := H.out
    rw [nameT_good hok] at hT
    have HP := Lib.hid hT
    have HK := Lib.hid (chkT_ok hok)
    have hl32 : l.length ≤ 1000 := Nat.le_trans (ok_len hok) (by decide)
    obtain ⟨lr, hlr⟩ : ∃ lr, (if er = 0 then l else []) = lr := ⟨_, rfl⟩
    have HLR := Lib.hid hlr
    clear hT hok H hlr
    go_enter Try.func23, Try.ntmps23
    go_wp2_with (go_at_call 56; refine (work_okM a cap _ l l lr er (IsV (.string n)) (Lib.hid (isV_stays _)) _ hn hz HR1 HK (Lib.hid (doesM _ l m n er _ hl32 S1 HP)) HLR).mono ?_; rintro e w2 ⟨V1, V, B, B2, rfl, hb1, hb2, hT, rfl, hB⟩; obtain ⟨a1, k1, rfl⟩ := tab_shape hT; have B3 := Lib.hid (below_then B1.out hB); clear hT hB hb1 hb2)
    go_ret2
    exact ⟨rfl, B3.out.alloc B3.out.size _⟩
  · have hT := H.out
    obtain ⟨⟨er', p⟩, hc⟩ : ∃ r, chkT l = r := ⟨_, rfl⟩
    have he : okT l = er' := by unfold okT; rw [hc]
    unfold nameT at hT
    rw [if_neg hok, he] at hT
    rw [he] at hok
    simp only [Prod.mk.injEq] at hT
    obtain ⟨rfl, rfl⟩ := hT
    have HC := Lib.hid hc
    clear hc he H
    go_enter Try.func23, Try.ntmps23
    go_wp2_with (go_at_call 56; refine (work_badS a cap l er' p _ _ hn hz HR1 HC hok).mono ?_; rintro e w2 ⟨rfl, hB⟩; have B3 := Lib.hid (below_then B1.out hB); clear hB)
    go_ret2
    exact ⟨rfl, B3.out.alloc B3.out.size _⟩
end Go.Proofs.Ytndghjfgjkjbdaa.s06
