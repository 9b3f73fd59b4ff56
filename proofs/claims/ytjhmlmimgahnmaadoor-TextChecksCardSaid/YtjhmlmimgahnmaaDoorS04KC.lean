/-
  Layer 4: the law TextChecks: all ways.
-/
import Derived.Test.YtjhmlmimgahnmaaDoorS04KB
namespace Go.Proofs.YtjhmlmimgahnmaaDoor.s04
set_option linter.unusedVariables false
set_option linter.unusedSimpArgs false
open Go.RowKit
open kit

set_option maxRecDepth 100000 in
set_option maxHeartbeats 1000000 in
theorem checks_any (kd at' least most : Int) (tx s : ByteArray) (a b : Option Addr) (ca cb : Nat) (l k : List Li) (w : World) (ht : Tab w) (hs : s.size ≤ 9223372036854775807) (htx : tx.size ≤ 9223372036854775807) (hl : l.length ≤ 9223372036854775807) (hk : k.length ≤ 9223372036854775807) (ra : ReadsL w a l) (rb : ReadsL w b k) (hnil : a = none → ca = 0) :
    Calls Tryd.prog 3 #[.agg #[.int .i64 kd, .string tx, .int .i64 at'], .int .i64 least, .int .i64 most, .string s, .slice a l.length ca, .slice b k.length cb] w fun e w' => e = .returned (.bool true) ∧ Below w.heap.size w w' := by
  have ra0 := ra
  have rb0 := rb
  have ht0 := ht
  have hn0 := hnil
  have HB := Lib.hid ((Below.refl w.heap.size w).alloc (Nat.le_refl _) (.cells #[.int .i64 kd, .string tx, .int .i64 at'] 23))
  have HX := Lib.hid (Box.new w 23 #[.int .i64 kd, .string tx, .int .i64 at'])
  have HT := Lib.hid (ht.alloc (.cells #[.int .i64 kd, .string tx, .int .i64 at'] 23))
  have HRA := Lib.hid (ra.alloc (.cells #[.int .i64 kd, .string tx, .int .i64 at'] 23))
  have HRB := Lib.hid (rb.alloc (.cells #[.int .i64 kd, .string tx, .int .i64 at'] 23))
  have HNIL := Lib.hid hnil
  clear ht ra rb hnil
  by_cases h1 : 100 < tx.size
  · go_enter Tryd.func3, Tryd.ntmps3
    go_wp2_with (go_at_call 6; refine (awake_any _).mono ?_; rintro e w9 ⟨rfl, B9⟩)
    go_ret
    exact ⟨rfl, below_then HB.out B9⟩
  by_cases h2 : 100 < s.size
  · go_enter Tryd.func3, Tryd.ntmps3
    go_wp2_with (go_at_call 6; refine (awake_any _).mono ?_; rintro e w9 ⟨rfl, B9⟩)
    go_ret
    exact ⟨rfl, below_then HB.out B9⟩
  cases hla : lightB l
  · have HL := Lib.hid hla
    clear hla
    go_enter Tryd.func3, Tryd.ntmps3
    go_wp2_with (first
      | (go_at_call 5; (with_reducible refine (light_any a ca l _ hl HRA.out false HL).mono ?_); rintro e w1 ⟨rfl, B1⟩; have HB1 := Lib.hid (below_then HB.out B1); clear B1)
      | (go_at_call 6; refine (awake_any _).mono ?_; rintro e w9 ⟨rfl, B9⟩))
    go_ret
    exact ⟨rfl, below_then HB1.out B9⟩
  cases hlb : lightB k
  · have HL := Lib.hid hla
    have HK := Lib.hid hlb
    clear hla hlb
    go_enter Tryd.func3, Tryd.ntmps3
    go_wp2_with (first
      | (go_at_call 5; (with_reducible refine (light_any a ca l _ hl HRA.out true HL).mono ?_); rintro e w1 ⟨rfl, B1⟩; have HB1 := Lib.hid (below_then HB.out B1); have HRB1 := Lib.hid (HRB.out.below B1); clear B1 HRA)
      | (go_at_call 5; (with_reducible refine (light_any b cb k _ hk HRB1.out false HK).mono ?_); rintro e w2 ⟨rfl, B2⟩; have HB2 := Lib.hid (below_then HB1.out B2); clear B2)
      | (go_at_call 6; refine (awake_any _).mono ?_; rintro e w9 ⟨rfl, B9⟩))
    go_ret
    exact ⟨rfl, below_then HB2.out B9⟩
  exact checks_main kd at' least most tx s a b ca cb l k w ht0 hs htx hl hk ra0 rb0 hn0 (by omega) (by omega) hla hlb
end Go.Proofs.YtjhmlmimgahnmaaDoor.s04
