/-
  Layer 6, the reference's side: put.
-/
import Derived.Test.YtndghjfgjkjbdaaS06D
namespace Go.Proofs.Ytndghjfgjkjbdaa.s06
set_option linter.unusedVariables false
set_option linter.unusedSimpArgs false
open Go.RowKit
open kit

/-- what put answers: the table's names, the number, the error -/
def putT (l : List ByteArray) (s : ByteArray) (once : Bool) : List ByteArray × Int × Int :=
  if okT l = 0 then (if s03.checkR s.data.toList = 0 then (if 0 ≤ atI l s then (if once = true then ([], 0, 8) else (l, atI l s, 0)) else if l.length = 32 then ([], 0, 6) else (l ++ [s], (l.length : Int), 0)) else ([], 0, s03.checkR s.data.toList)) else ([], 0, okT l)
def PutOf (l' : List ByteArray) (i er : Int) (w : World) (e : Ending) (w' : World) : Prop :=
  ∃ V B, e = .returned (.tuple #[V, .int .i64 i, .int .i64 er]) ∧ w.heap.size ≤ B ∧ TabO l' B V w' ∧ Below w.heap.size w w'
theorem tab_nil (B : Nat) (W : World) : TabO [] B (.agg #[.slice none 0 0]) W := ⟨_, rfl, World.ownsRow_nil _ _ _ _⟩
set_option maxRecDepth 100000 in
set_option maxHeartbeats 1000000 in
theorem put6_err (a : Option Addr) (cap : Nat) (l : List ByteArray) (s : ByteArray) (once : Bool) (er : Int) (w : World) (hcap : l.length ≤ cap) (hn : l.length ≤ 9223372036854775807) (hz : Hid (∀ x ∈ l, x.size ≤ 9223372036854775807)) (hs : s.size ≤ 9223372036854775807) (hr : Hid (ReadsS w a l)) (H : Hid (putT l s once = ([], 0, er))) (he : er ≠ 0) :
    Calls Try.prog 51 #[.agg #[.slice a l.length cap], .string s, .bool once] w (PutOf [] 0 er w) := by
  have P1 : Hid (Box ((w.alloc (.cells #[.slice a l.length cap] 24)).alloc (.cells #[.slice none 0 0] 24)) 24 w.heap.size #[.slice a l.length cap]) := Lib.hid ((Box.new _ _ _).alloc _)
  have X1 : Hid (Box ((w.alloc (.cells #[.slice a l.length cap] 24)).alloc (.cells #[.slice none 0 0] 24)) 24 (w.heap.size + 1) #[.slice none 0 0]) := Lib.hid (by simpa using Box.new (w.alloc (.cells #[.slice a l.length cap] 24)) 24 #[.slice none 0 0])
  have B1 : Hid (Below w.heap.size w ((w.alloc (.cells #[.slice a l.length cap] 24)).alloc (.cells #[.slice none 0 0] 24))) := Lib.hid (by
    have h := (Below.refl w.heap.size w).alloc (Nat.le_refl _) (.cells #[.slice a l.length cap] 24)
    exact h.alloc h.size _)
  have HR1 := Lib.hid ((hr.out.alloc (.cells #[.slice a l.length cap] 24)).alloc (.cells #[.slice none 0 0] 24))
  obtain ⟨o, ho⟩ : ∃ o, okT l = o := ⟨_, rfl⟩
  obtain ⟨c, hc⟩ : ∃ c, s03.checkR s.data.toList = c := ⟨_, rfl⟩
  obtain ⟨r, hat⟩ : ∃ r, atI l s = r := ⟨_, rfl⟩
  have HX := H.out
  unfold putT at HX
  rw [ho, hc, hat] at HX
  have HO := Lib.hid ho
  have HC := Lib.hid hc
  have HAT := Lib.hid hat
  clear ho hc hat hr H
  by_cases h0 : o = 0
  · subst h0
    rw [if_pos rfl] at HX
    by_cases h1 : c = 0
    · subst h1
      rw [if_pos rfl] at HX
      by_cases h2 : 0 ≤ r
      · rw [if_pos h2] at HX
        cases once
        · rw [if_neg (by simp)] at HX
          exact absurd (congrArg (fun x => x.2.2) HX).symm he
        · rw [if_pos rfl] at HX
          have HZ : Hid ((8 : Int) = er) := Lib.hid (congrArg (fun x => x.2.2) HX)
          clear HX
          go_enter Try.func51, Try.ntmps51
          go_wp2_with (first
            | (go_at_call 47; refine (okt_any a cap l 0 _ hcap hn hz HR1 HO).mono ?_; rintro e w2 ⟨rfl, hB⟩; have P2 := Lib.hid (P1.out.below hB); have X2 := Lib.hid (X1.out.below hB); have HR2 := Lib.hid (HR1.out.below hB); have B2 := Lib.hid (below_then B1.out hB); clear hB; have c0 := P2.out.cell 0; have x0 := X2.out.cell 0; have f0 := X2.out.free 0; have lx := X2.out.lt)
            | (go_at_call 43; refine (s03.checkr_any s _ hs).mono ?_; rintro e w9 ⟨rfl, rfl⟩; rw [HC.out])
            | (go_at_call 44; refine (at_any a cap l.length l s r _ rfl hn HR2 HAT).mono ?_; rintro e w9 ⟨rfl, rfl⟩))
          have d0 := (X2.out.set 0 (by simp) (.slice none 0 0)).cell 0
          exact bodyPost_ret (v := .tuple #[.agg #[.slice none 0 0], .int .i64 0, .int .i64 8]) (by simp [results, Try.results51, go_sem, d0]) rfl ⟨_, w.heap.size, by rw [HZ.out], Nat.le_refl _, tab_nil _ _, B2.out.setCell (p := ⟨w.heap.size + 1, 0, none⟩) (by simp) _⟩
      · rw [if_neg h2] at HX
        by_cases h3 : l.length = 32
        · rw [if_pos h3] at HX
          have HZ : Hid ((6 : Int) = er) := Lib.hid (congrArg (fun x => x.2.2) HX)
          clear HX
          have H3 := Lib.hid h3
          clear h3
          go_enter Try.func51, Try.ntmps51
          go_wp2_with (first
            | (go_at_call 47; refine (okt_any a cap l 0 _ hcap hn hz HR1 HO).mono ?_; rintro e w2 ⟨rfl, hB⟩; have P2 := Lib.hid (P1.out.below hB); have X2 := Lib.hid (X1.out.below hB); have HR2 := Lib.hid (HR1.out.below hB); have B2 := Lib.hid (below_then B1.out hB); clear hB; have c0 := P2.out.cell 0; have x0 := X2.out.cell 0; have f0 := X2.out.free 0; have lx := X2.out.lt)
            | (go_at_call 43; refine (s03.checkr_any s _ hs).mono ?_; rintro e w9 ⟨rfl, rfl⟩; rw [HC.out])
            | (go_at_call 44; refine (at_any a cap l.length l s r _ rfl hn HR2 HAT).mono ?_; rintro e w9 ⟨rfl, rfl⟩; have h4 : (l.length : Int) = 32 := by rw [H3.out]; rfl))
          have d0 := (X2.out.set 0 (by simp) (.slice none 0 0)).cell 0
          exact bodyPost_ret (v := .tuple #[.agg #[.slice none 0 0], .int .i64 0, .int .i64 6]) (by simp [results, Try.results51, go_sem, d0]) rfl ⟨_, w.heap.size, by rw [HZ.out], Nat.le_refl _, tab_nil _ _, B2.out.setCell (p := ⟨w.heap.size + 1, 0, none⟩) (by simp) _⟩
        · rw [if_neg h3] at HX
          exact absurd (congrArg (fun x => x.2.2) HX).symm he
    · rw [if_neg h1] at HX
      have HZ : Hid (c = er) := Lib.hid (congrArg (fun x => x.2.2) HX)
      clear HX
      go_enter Try.func51, Try.ntmps51
      go_wp2_with (first
        | (go_at_call 47; refine (okt_any a cap l 0 _ hcap hn hz HR1 HO).mono ?_; rintro e w2 ⟨rfl, hB⟩; have X2 := Lib.hid (X1.out.below hB); have B2 := Lib.hid (below_then B1.out hB); clear hB; have x0 := X2.out.cell 0; have f0 := X2.out.free 0; have lx := X2.out.lt)
        | (go_at_call 43; refine (s03.checkr_any s _ hs).mono ?_; rintro e w9 ⟨rfl, rfl⟩; rw [HC.out]))
      have d0 := (X2.out.set 0 (by simp) (.slice none 0 0)).cell 0
      exact bodyPost_ret (v := .tuple #[.agg #[.slice none 0 0], .int .i64 0, .int .i64 c]) (by simp [results, Try.results51, go_sem, d0]) rfl ⟨_, w.heap.size, by rw [HZ.out], Nat.le_refl _, tab_nil _ _, B2.out.setCell (p := ⟨w.heap.size + 1, 0, none⟩) (by simp) _⟩
  · rw [if_neg h0] at HX
    have HZ : Hid (o = er) := Lib.hid (congrArg (fun x => x.2.2) HX)
    clear HX
    go_enter Try.func51, Try.ntmps51
    go_wp2_with (first
      | (go_at_call 47; refine (okt_any a cap l o _ hcap hn hz HR1 HO).mono ?_; rintro e w2 ⟨rfl, hB⟩; have X2 := Lib.hid (X1.out.below hB); have B2 := Lib.hid (below_then B1.out hB); clear hB; have x0 := X2.out.cell 0; have f0 := X2.out.free 0; have lx := X2.out.lt))
    have d0 := (X2.out.set 0 (by simp) (.slice none 0 0)).cell 0
    exact bodyPost_ret (v := .tuple #[.agg #[.slice none 0 0], .int .i64 0, .int .i64 o]) (by simp [results, Try.results51, go_sem, d0]) rfl ⟨_, w.heap.size, by rw [HZ.out], Nat.le_refl _, tab_nil _ _, B2.out.setCell (p := ⟨w.heap.size + 1, 0, none⟩) (by simp) _⟩
end Go.Proofs.Ytndghjfgjkjbdaa.s06
