/-
  Layer 6, the reference's side: Find, Name.
-/
import Derived.Test.YtndghjfgjkjbdaaS06C
namespace Go.Proofs.Ytndghjfgjkjbdaa.s06
set_option linter.unusedVariables false
set_option linter.unusedSimpArgs false
open Go.RowKit
open kit

/-- what Find answers -/
def findT (l : List ByteArray) (s : ByteArray) : Int × Int :=
  if okT l = 0 then (if s03.checkR s.data.toList = 0 then (if atI l s < 0 then (0, 7) else (atI l s, 0)) else (0, s03.checkR s.data.toList)) else (0, okT l)
/-- what Name answers -/
def nameT (l : List ByteArray) (n : Int) : ByteArray × Int :=
  if okT l = 0 then (if n < 0 ∨ (l.length : Int) ≤ n then (⟨#[]⟩, 2) else (l[n.toNat]?.getD ByteArray.empty, 0)) else (⟨#[]⟩, okT l)
theorem ret_si {a b : ByteArray} {c d : Int} (h : (a, c) = (b, d)) : Ending.returned (.tuple #[.string a, .int .i64 c]) = .returned (.tuple #[.string b, .int .i64 d]) := by cases h; rfl
set_option maxRecDepth 100000 in
set_option maxHeartbeats 1000000 in
theorem find6_any (a : Option Addr) (cap : Nat) (l : List ByteArray) (s : ByteArray) (i er : Int) (w : World) (hcap : l.length ≤ cap) (hn : l.length ≤ 9223372036854775807) (hz : Hid (∀ x ∈ l, x.size ≤ 9223372036854775807)) (hs : s.size ≤ 9223372036854775807) (hr : Hid (ReadsS w a l)) (H : Hid (findT l s = (i, er))) :
    Calls Try.prog 22 #[.agg #[.slice a l.length cap], .string s] w fun e w' => e = .returned (.tuple #[.int .i64 i, .int .i64 er]) ∧ Below w.heap.size w w' := by
  have P1 := Lib.hid (Box.new w 24 #[.slice a l.length cap])
  have B1 := Lib.hid ((Below.refl w.heap.size w).alloc (Nat.le_refl _) (.cells #[.slice a l.length cap] 24))
  have HR1 := Lib.hid (hr.out.alloc (.cells #[.slice a l.length cap] 24))
  obtain ⟨o, ho⟩ : ∃ o, okT l = o := ⟨_, rfl⟩
  obtain ⟨c, hc⟩ : ∃ c, s03.checkR s.data.toList = c := ⟨_, rfl⟩
  obtain ⟨r, hat⟩ : ∃ r, atI l s = r := ⟨_, rfl⟩
  have HX : Hid ((if o = 0 then (if c = 0 then (if r < 0 then (0, 7) else (r, 0)) else (0, c)) else ((0 : Int), o)) = (i, er)) := Lib.hid (by have := H.out; unfold findT at this; rw [ho, hc, hat] at this; exact this)
  have HO := Lib.hid ho
  have HC := Lib.hid hc
  have HAT := Lib.hid hat
  clear ho hc hat hr
  by_cases h0 : o = 0
  · by_cases h1 : c = 0
    · by_cases h2 : r < 0
      all_goals
        subst h0 h1
        have HY := HX.out
        rw [if_pos rfl, if_pos rfl] at HY
        first | rw [if_pos h2] at HY | rw [if_neg h2] at HY
        have HZ := Lib.hid HY
        clear HY HX
        go_enter Try.func22, Try.ntmps22
        go_wp2_with (first
          | (go_at_call 47; refine (okt_any a cap l 0 _ hcap hn hz HR1 HO).mono ?_; rintro e w2 ⟨rfl, hB⟩; have P2 := Lib.hid (P1.out.below hB); have HR2 := Lib.hid (HR1.out.below hB); have B2 := Lib.hid (below_then B1.out hB); clear hB; have c0 := P2.out.cell 0)
          | (go_at_call 43; refine (s03.checkr_any s _ hs).mono ?_; rintro e w9 ⟨rfl, rfl⟩; rw [HC.out])
          | (go_at_call 44; refine (at_any a cap l.length l s r _ rfl hn HR2 HAT).mono ?_; rintro e w9 ⟨rfl, rfl⟩))
        go_ret2
        exact ⟨ret_ii HZ.out, B2.out⟩
    · subst h0
      have HY := HX.out
      rw [if_pos rfl, if_neg h1] at HY
      have HZ := Lib.hid HY
      clear HY HX
      go_enter Try.func22, Try.ntmps22
      go_wp2_with (first
        | (go_at_call 47; refine (okt_any a cap l 0 _ hcap hn hz HR1 HO).mono ?_; rintro e w2 ⟨rfl, hB⟩; have B2 := Lib.hid (below_then B1.out hB); clear hB)
        | (go_at_call 43; refine (s03.checkr_any s _ hs).mono ?_; rintro e w9 ⟨rfl, rfl⟩; rw [HC.out]))
      go_ret2
      exact ⟨ret_ii HZ.out, B2.out⟩
  · have HY := HX.out
    rw [if_neg h0] at HY
    have HZ := Lib.hid HY
    clear HY HX
    go_enter Try.func22, Try.ntmps22
    go_wp2_with (first
      | (go_at_call 47; refine (okt_any a cap l o _ hcap hn hz HR1 HO).mono ?_; rintro e w2 ⟨rfl, hB⟩; have B2 := Lib.hid (below_then B1.out hB); clear hB))
    go_ret2
    exact ⟨ret_ii HZ.out, B2.out⟩
set_option maxRecDepth 100000 in
set_option maxHeartbeats 1000000 in
theorem name6_any (a : Option Addr) (cap : Nat) (l : List ByteArray) (n : Int) (x : ByteArray) (er : Int) (w : World) (hcap : l.length ≤ cap) (hn : l.length ≤ 9223372036854775807) (hz : Hid (∀ x ∈ l, x.size ≤ 9223372036854775807)) (hr : Hid (ReadsS w a l)) (H : Hid (nameT l n = (x, er))) :
    Calls Try.prog 24 #[.agg #[.slice a l.length cap], .int .i64 n] w fun e w' => e = .returned (.tuple #[.string x, .int .i64 er]) ∧ Below w.heap.size w w' := by
  have P1 := Lib.hid (Box.new w 24 #[.slice a l.length cap])
  have B1 := Lib.hid ((Below.refl w.heap.size w).alloc (Nat.le_refl _) (.cells #[.slice a l.length cap] 24))
  have HR1 := Lib.hid (hr.out.alloc (.cells #[.slice a l.length cap] 24))
  obtain ⟨o, ho⟩ : ∃ o, okT l = o := ⟨_, rfl⟩
  have HX : Hid ((if o = 0 then (if n < 0 ∨ (l.length : Int) ≤ n then (⟨#[]⟩, 2) else (l[n.toNat]?.getD ByteArray.empty, 0)) else ((⟨#[]⟩ : ByteArray), o)) = (x, er)) := Lib.hid (by have := H.out; unfold nameT at this; rw [ho] at this; exact this)
  have HO := Lib.hid ho
  clear ho hr
  by_cases h0 : o = 0
  · subst h0
    by_cases h1 : n < 0 ∨ (l.length : Int) ≤ n
    · have HY := HX.out
      rw [if_pos rfl, if_pos h1] at HY
      have HZ := Lib.hid HY
      clear HY HX
      have hc : n < 0 ∨ (¬ n < 0 ∧ (l.length : Int) ≤ n) := by omega
      clear h1
      rcases hc with h1 | ⟨h1, h2⟩
      all_goals
        go_enter Try.func24, Try.ntmps24
        go_wp2_with (first
          | (go_at_call 47; refine (okt_any a cap l 0 _ hcap hn hz HR1 HO).mono ?_; rintro e w2 ⟨rfl, hB⟩; have P2 := Lib.hid (P1.out.below hB); have B2 := Lib.hid (below_then B1.out hB); clear hB; have c0 := P2.out.cell 0))
        go_ret2
        exact ⟨ret_si HZ.out, B2.out⟩
    · have HY := HX.out
      rw [if_pos rfl, if_neg h1] at HY
      obtain ⟨k, rfl⟩ := Int.eq_ofNat_of_zero_le (show 0 ≤ n by omega)
      have hk : k < l.length := by omega
      rw [Int.toNat_natCast] at HY
      have h2 : ¬ ((k : Int) < 0) := by omega
      have h3 : ¬ ((l.length : Int) ≤ k) := by omega
      clear h1
      generalize hy : l[k]?.getD ByteArray.empty = y at HY
      have HYE := Lib.hid hy
      have HZ := Lib.hid HY
      clear HY HX hy
      go_enter Try.func24, Try.ntmps24
      go_wp2_with (first
        | (go_at_call 47; refine (okt_any a cap l 0 _ hcap hn hz HR1 HO).mono ?_; rintro e w2 ⟨rfl, hB⟩; have P2 := Lib.hid (P1.out.below hB); obtain ⟨b, off, rfl, hb, hcl⟩ := HR1.out.below hB k hk; rw [HYE.out] at hcl; have B2 := Lib.hid (below_then B1.out hB); clear hB; have c0 := P2.out.cell 0))
      go_ret2
      exact ⟨ret_si HZ.out, B2.out⟩
  · have HY := HX.out
    rw [if_neg h0] at HY
    have HZ := Lib.hid HY
    clear HY HX
    go_enter Try.func24, Try.ntmps24
    go_wp2_with (first
      | (go_at_call 47; refine (okt_any a cap l o _ hcap hn hz HR1 HO).mono ?_; rintro e w2 ⟨rfl, hB⟩; have B2 := Lib.hid (below_then B1.out hB); clear hB))
    go_ret2
    exact ⟨ret_si HZ.out, B2.out⟩
end Go.Proofs.Ytndghjfgjkjbdaa.s06
