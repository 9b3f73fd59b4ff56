/-
  Layer 6, the reference's side: put whole, Intern, Add, Of.
-/
import Derived.Test.YtndghjfgjkjbdaaS06Y
namespace Go.Proofs.Ytndghjfgjkjbdaa.s06
set_option linter.unusedVariables false
set_option linter.unusedSimpArgs false
open Go.RowKit Go.WideMaps Go.Maps
open kit

/-- a table's names in memory -/
structure Tb (w : World) (l : List ByteArray) (a : Option Addr) (cap : Nat) : Prop where
  reads : ReadsS w a l
  hcap : l.length ≤ cap
  hnil : a = none → cap = 0
  small : ∀ x ∈ l, x.size ≤ 9223372036854775807
theorem Tb.below {w w1 : World} {l : List ByteArray} {a : Option Addr} {cap : Nat} (h : Tb w l a cap) (hB : Below w.heap.size w w1) : Tb w1 l a cap := ⟨h.reads.below hB, h.hcap, h.hnil, h.small⟩
theorem Tb.src {w : World} {l : List ByteArray} {a : Option Addr} {cap : Nat} (h : Tb w l a cap) : Src w a cap (l.map Value.string) := by
  cases a with
  | none =>
    have h1 := h.hnil rfl
    have h2 := h.hcap
    have : l = [] := List.length_eq_zero_iff.mp (by omega)
    subst this
    exact .inl ⟨rfl, rfl, h1⟩
  | some x =>
    refine .inr ⟨x, rfl, fun j u hu => ?_⟩
    have hj : j < l.length := by
      have := (List.getElem?_eq_some_iff.1 hu).1
      simpa using this
    obtain ⟨b, off, e, _, hc⟩ := h.reads j hj
    cases e
    rw [List.getElem?_map, List.getElem?_eq_getElem hj] at hu
    rw [List.getElem?_eq_getElem hj] at hc
    cases hu
    rw [Go.WideShapes.add_plain]
    exact hc
theorem TabO.tb {l : List ByteArray} {B k : Nat} {a : Option Addr} {w : World} (h : TabO l B (.agg #[.slice a l.length k]) w) (hs : ∀ x ∈ l, x.size ≤ 9223372036854775807) : Tb w l a k := by
  obtain ⟨v, e, hr⟩ := h
  simp only [Value.agg.injEq] at e
  have e2 : v = .slice a l.length k := by
    have := congrArg (fun x => x[0]?) e
    simpa using this.symm
  subst e2
  refine ⟨reads_of_row rfl hr, ?_, ?_, hs⟩
  · rcases hr.2 with ⟨h1, h2⟩ | ⟨g, cap, cur, h1, _, _, h2, _⟩
    · simp only [Value.slice.injEq] at h1; omega
    · simp only [Value.slice.injEq] at h1; omega
  · intro ha
    rcases hr.2 with ⟨h1, h2⟩ | ⟨g, cap, cur, h1, _⟩
    · simp only [Value.slice.injEq] at h1; exact h1.2.2
    · simp only [Value.slice.injEq] at h1; rw [ha] at h1; exact absurd h1.1 (by simp)
theorem putT_err {l : List ByteArray} {s : ByteArray} {once : Bool} {lr : List ByteArray} {n er : Int} (h : putT l s once = (lr, n, er)) (he : er ≠ 0) : lr = [] ∧ n = 0 := by
  unfold putT at h
  split at h
  · split at h
    · split at h
      · split at h
        · cases h; exact ⟨rfl, rfl⟩
        · cases h; exact absurd rfl he
      · split at h
        · cases h; exact ⟨rfl, rfl⟩
        · cases h; exact absurd rfl he
    · cases h; exact ⟨rfl, rfl⟩
  · cases h; exact ⟨rfl, rfl⟩
theorem putT_zero {l : List ByteArray} {s : ByteArray} {once : Bool} {lr : List ByteArray} {n : Int} (h : putT l s once = (lr, n, 0)) : okT l = 0 ∧ s03.checkR s.data.toList = 0 ∧ ((0 ≤ atI l s ∧ once = false ∧ lr = l ∧ n = atI l s) ∨ (¬ 0 ≤ atI l s ∧ l.length ≠ 32 ∧ lr = l ++ [s] ∧ n = l.length)) := by
  unfold putT at h
  split at h
  · rename_i h0
    split at h
    · rename_i h1
      split at h
      · rename_i h2
        split at h
        · exact absurd (congrArg (fun x => x.2.2) h) (show ¬ (8 : Int) = 0 by decide)
        · rename_i h3
          cases h
          exact ⟨h0, h1, .inl ⟨h2, by simpa using h3, rfl, rfl⟩⟩
      · rename_i h2
        split at h
        · exact absurd (congrArg (fun x => x.2.2) h) (show ¬ (6 : Int) = 0 by decide)
        · rename_i h3
          cases h
          exact ⟨h0, h1, .inr ⟨h2, h3, rfl, rfl⟩⟩
    · rename_i h1
      exact absurd (congrArg (fun x => x.2.2) h) h1
  · rename_i h0
    exact absurd (congrArg (fun x => x.2.2) h) h0
theorem rput_any (a : Option Addr) (cap : Nat) (l : List ByteArray) (s : ByteArray) (once : Bool) (lr : List ByteArray) (n er : Int) (w : World) (hn : l.length ≤ 9223372036854775807) (hs : s.size ≤ 9223372036854775807) (hT : Hid (Tb w l a cap)) (H : Hid (putT l s once = (lr, n, er))) :
    Calls Try.prog 51 #[.agg #[.slice a l.length cap], .string s, .bool once] w (PutOf lr n er w) := by
  by_cases he : er = 0
  · subst he
    obtain ⟨h0, h1, h2⟩ := putT_zero H.out
    have hl := ok_len h0
    rcases h2 with ⟨h3, rfl, rfl, rfl⟩ | ⟨h3, h4, rfl, rfl⟩
    · exact put6_has a cap lr s _ w hT.out.hcap (by omega) (Lib.hid hT.out.small) hs (Lib.hid hT.out.reads) (Lib.hid hT.out.src) (Lib.hid h0) (Lib.hid h1) (Lib.hid rfl) h3
    · exact put6_new a cap l s once _ w hT.out.hcap (by omega) (Lib.hid hT.out.small) hs (Lib.hid hT.out.reads) (Lib.hid hT.out.src) (Lib.hid h0) (Lib.hid h1) (Lib.hid rfl) h3 (by omega)
  · obtain ⟨rfl, rfl⟩ := putT_err H.out he
    exact put6_err a cap l s once er w hT.out.hcap hn (Lib.hid hT.out.small) hs (Lib.hid hT.out.reads) H he
set_option maxRecDepth 100000 in
set_option maxHeartbeats 1000000 in
theorem rintern_any (a : Option Addr) (cap : Nat) (l : List ByteArray) (s : ByteArray) (lr : List ByteArray) (n er : Int) (w : World) (hn : l.length ≤ 9223372036854775807) (hs : s.size ≤ 9223372036854775807) (hT : Hid (Tb w l a cap)) (H : Hid (putT l s false = (lr, n, er))) :
    Calls Try.prog 18 #[.agg #[.slice a l.length cap], .string s] w (PutOf lr n er w) := by
  have P1 := Lib.hid ((Box.new w 24 #[.slice a l.length cap]).alloc (.cells #[.slice none 0 0] 24))
  have X1 := Lib.hid (Box.new2 w (.cells #[.slice a l.length cap] 24) 24 #[.slice none 0 0])
  have B1 := Lib.hid (below2 w (.cells #[.slice a l.length cap] 24) (.cells #[.slice none 0 0] 24))
  have T1 := Lib.hid (hT.out.below B1.out)
  have hsz : ((w.alloc (.cells #[.slice a l.length cap] 24)).alloc (.cells #[.slice none 0 0] 24)).heap.size = w.heap.size + 2 := by simp
  have HS := Lib.hid hsz
  clear hsz
  go_enter Try.func18, Try.ntmps18
  go_wp2_with (go_at_call 51; refine (rput_any a cap l s false lr n er _ hn hs T1 H).mono ?_; rintro e w2 ⟨V, B, rfl, hb1, hT, hB⟩; obtain ⟨a1, k1, rfl⟩ := tab_shape hT; have T2 := Lib.hid hT; have X2 := Lib.hid (X1.out.below hB); have hb3 : w.heap.size + 2 ≤ B := (by rw [HS.out] at hb1; exact hb1); have B3 := Lib.hid (below_then B1.out hB); clear hT hB hb1; have c0 := X2.out.cell 0; have f0 := X2.out.free 0; have lx := X2.out.lt)
  have d0 := (X2.out.set 0 (by simp) (.slice a1 lr.length k1)).cell 0
  exact bodyPost_ret (v := .tuple #[.agg #[.slice a1 lr.length k1], .int .i64 n, .int .i64 er]) (by simp [results, Try.results18, go_sem, d0]) rfl ⟨_, B, rfl, by omega, tab_set T2.out (by omega) _, B3.out.setCell (p := ⟨w.heap.size + 1, 0, none⟩) (by simp) _⟩
set_option maxRecDepth 100000 in
set_option maxHeartbeats 1000000 in
theorem radd_any (a : Option Addr) (cap : Nat) (l : List ByteArray) (s : ByteArray) (lr : List ByteArray) (n er : Int) (w : World) (hn : l.length ≤ 9223372036854775807) (hs : s.size ≤ 9223372036854775807) (hT : Hid (Tb w l a cap)) (H : Hid (putT l s true = (lr, n, er))) :
    Calls Try.prog 20 #[.agg #[.slice a l.length cap], .string s] w (PutOf lr n er w) := by
  have P1 := Lib.hid ((Box.new w 24 #[.slice a l.length cap]).alloc (.cells #[.slice none 0 0] 24))
  have X1 := Lib.hid (Box.new2 w (.cells #[.slice a l.length cap] 24) 24 #[.slice none 0 0])
  have B1 := Lib.hid (below2 w (.cells #[.slice a l.length cap] 24) (.cells #[.slice none 0 0] 24))
  have T1 := Lib.hid (hT.out.below B1.out)
  have hsz : ((w.alloc (.cells #[.slice a l.length cap] 24)).alloc (.cells #[.slice none 0 0] 24)).heap.size = w.heap.size + 2 := by simp
  have HS := Lib.hid hsz
  clear hsz
  go_enter Try.func20, Try.ntmps20
  go_wp2_with (go_at_call 51; refine (rput_any a cap l s true lr n er _ hn hs T1 H).mono ?_; rintro e w2 ⟨V, B, rfl, hb1, hT, hB⟩; obtain ⟨a1, k1, rfl⟩ := tab_shape hT; have T2 := Lib.hid hT; have X2 := Lib.hid (X1.out.below hB); have hb3 : w.heap.size + 2 ≤ B := (by rw [HS.out] at hb1; exact hb1); have B3 := Lib.hid (below_then B1.out hB); clear hT hB hb1; have c0 := X2.out.cell 0; have f0 := X2.out.free 0; have lx := X2.out.lt)
  have d0 := (X2.out.set 0 (by simp) (.slice a1 lr.length k1)).cell 0
  exact bodyPost_ret (v := .tuple #[.agg #[.slice a1 lr.length k1], .int .i64 n, .int .i64 er]) (by simp [results, Try.results20, go_sem, d0]) rfl ⟨_, B, rfl, by omega, tab_set T2.out (by omega) _, B3.out.setCell (p := ⟨w.heap.size + 1, 0, none⟩) (by simp) _⟩
set_option maxRecDepth 100000 in
set_option maxHeartbeats 1000000 in
theorem rof_any (a : Option Addr) (cap : Nat) (l : List ByteArray) (er : Int) (w : World) (hn : l.length ≤ 100000) (hT : Hid (Tb w l a cap)) (H : Hid (okT l = er)) :
    Calls Try.prog 15 #[.slice a l.length cap] w (TabE (if er = 0 then l else []) er w) := by
  have X1 := Lib.hid (Box.new w 24 #[.slice none 0 0])
  have B1 := Lib.hid ((Below.refl w.heap.size w).alloc (Nat.le_refl _) (.cells #[.slice none 0 0] 24))
  have T1 := Lib.hid (hT.out.below B1.out)
  have S1 := Lib.hid T1.out.src
  have hsm := Lib.hid hT.out.small
  obtain ⟨lr, hlr⟩ : ∃ lr, (if er = 0 then l else []) = lr := ⟨_, rfl⟩
  rw [hlr]
  by_cases he : er = 0
  · subst he
    rw [if_pos rfl] at hlr
    subst hlr
    go_enter Try.func15, Try.ntmps15
    go_wp2_with (first
      | (go_at_call 46; refine (own6_any a cap l _ hn S1).mono ?_; rintro e w2 ⟨V, B, rfl, hb1, hb2, hT2, hB⟩; obtain ⟨a1, k1, rfl⟩ := tab_shape hT2; have K2 := (Below.refl w2.heap.size w2).alloc (Nat.le_refl _) (.cells #[.slice a1 l.length k1] 24); have T2 := Lib.hid (tab_below hT2 K2); have X2 := Lib.hid ((X1.out.below hB).below K2); have Y2 := Lib.hid (Box.new w2 24 #[.slice a1 l.length k1]); have B2 := Lib.hid (below_then (below_then B1.out hB) K2); have hb3 : w.heap.size + 1 ≤ B := (by simp at hb1; omega); have U2 := Lib.hid (T2.out.tb hsm.out); have hr2 := Lib.hid U2.out.reads; have hc2 := U2.out.hcap; clear hT2 hB hb1 hb2 K2)
      | (go_at_call 47; refine (okt_any a1 k1 l 0 _ hc2 (by omega) hsm hr2 H).mono ?_; rintro e w3 ⟨rfl, hB⟩; have X3 := Lib.hid (X2.out.below hB); have Y3 := Lib.hid (Y2.out.below hB); have T3 := Lib.hid (tab_below T2.out hB); have B3 := Lib.hid (below_then B2.out hB); clear hB; have x0 := X3.out.cell 0; have f0 := X3.out.free 0; have lx := X3.out.lt; have y0 := Y3.out.cell 0))
    have d0 := (X3.out.set 0 (by simp) (.slice a1 l.length k1)).cell 0
    exact bodyPost_ret (v := .tuple #[.agg #[.slice a1 l.length k1], .int .i64 0]) (by simp [results, Try.results15, go_sem, d0]) rfl ⟨_, B, rfl, by omega, tab_set T3.out (by omega) _, B3.out.setCell (p := ⟨w.heap.size, 0, none⟩) (by simp) _⟩
  · rw [if_neg he] at hlr
    subst hlr
    go_enter Try.func15, Try.ntmps15
    go_wp2_with (first
      | (go_at_call 46; refine (own6_any a cap l _ hn S1).mono ?_; rintro e w2 ⟨V, B, rfl, hb1, hb2, hT2, hB⟩; obtain ⟨a1, k1, rfl⟩ := tab_shape hT2; have K2 := (Below.refl w2.heap.size w2).alloc (Nat.le_refl _) (.cells #[.slice a1 l.length k1] 24); have T2 := Lib.hid (tab_below hT2 K2); have X2 := Lib.hid ((X1.out.below hB).below K2); have Y2 := Lib.hid (Box.new w2 24 #[.slice a1 l.length k1]); have B2 := Lib.hid (below_then (below_then B1.out hB) K2); have U2 := Lib.hid (T2.out.tb hsm.out); have hr2 := Lib.hid U2.out.reads; have hc2 := U2.out.hcap; clear hT2 hB hb1 hb2 K2)
      | (go_at_call 47; refine (okt_any a1 k1 l er _ hc2 (by omega) hsm hr2 H).mono ?_; rintro e w3 ⟨rfl, hB⟩; have X3 := Lib.hid (X2.out.below hB); have B3 := Lib.hid (below_then B2.out hB); clear hB; have x0 := X3.out.cell 0; have f0 := X3.out.free 0; have lx := X3.out.lt))
    have d0 := (X3.out.set 0 (by simp) (.slice none 0 0)).cell 0
    exact bodyPost_ret (v := .tuple #[.agg #[.slice none 0 0], .int .i64 er]) (by simp [results, Try.results15, go_sem, d0]) rfl ⟨_, w.heap.size, rfl, Nat.le_refl _, tab_nil _ _, B3.out.setCell (p := ⟨w.heap.size, 0, none⟩) (by simp) _⟩
end Go.Proofs.Ytndghjfgjkjbdaa.s06
