/-
  Layer 6: InternMerges's contract, for whatever comes in.
-/
import Derived.Test.YtndghjfgjkjbdaaS06ZR
namespace Go.Proofs.Ytndghjfgjkjbdaa.s06
set_option linter.unusedVariables false
set_option linter.unusedSimpArgs false
open Go.RowKit Go.WideMaps Go.Maps
open kit

set_option maxRecDepth 100000 in
set_option maxHeartbeats 2000000 in
theorem merges_any (a a2 a3 : Option Addr) (cap cap2 cap3 : Nat) (l m : List ByteArray) (ks : List Int) (w : World) (l9 : l.length ≤ 9223372036854775807) (m9 : m.length ≤ 9223372036854775807) (k9 : ks.length ≤ 9223372036854775807) (hT : Hid (Tb w l a cap)) (hT2 : Hid (Tb w m a2 cap2)) (hI : Hid (Ti w ks a3 cap3)) :
    Calls Try.prog 4 #[.agg #[.slice a l.length cap], .agg #[.slice a2 m.length cap2], .slice a3 ks.length cap3] w fun e w' => e = .returned (.bool true) ∧ Below w.heap.size w w' := by
  have K2 := below2 w (.cells #[.slice a l.length cap] 24) (.cells #[.slice a2 m.length cap2] 24)
  have S0 : Hid (MI w _ a cap l a2 cap2 m a3 cap3 ks) := Lib.hid ⟨(Box.new w 24 #[.slice a l.length cap]).alloc (.cells #[.slice a2 m.length cap2] 24), Box.new2 w (.cells #[.slice a l.length cap] 24) 24 #[.slice a2 m.length cap2], hT.out.below K2, hT2.out.below K2, hI.out.below K2, K2⟩
  have HS1 := Lib.hid hT.out.small
  have HS2 := Lib.hid hT2.out.small
  clear K2
  cases hlt : lightB l
  · have HL := Lib.hid hlt
    clear hlt
    go_enter Try.func4, Try.ntmps4
    go_wp2_with (first
      | (go_at_call 9; (with_reducible refine (light_any a cap l false _ l9 HS1 (Lib.hid S0.out.A.reads) HL).mono ?_); rintro e w1 ⟨rfl, hB⟩; have S1 := Lib.hid (S0.out.below hB); clear hB S0)
      | (go_at_call 10; (refine (awake_any _).mono ?_); rintro e w2 ⟨rfl, hB⟩; have B2 := Lib.hid (below_then S1.out.B hB); clear hB))
    go_ret
    exact ⟨rfl, B2.out⟩
  · have HL := Lib.hid hlt
    cases hmt : lightB m
    · have HM := Lib.hid hmt
      clear hmt hlt
      go_enter Try.func4, Try.ntmps4
      go_wp2_with (first
        | (go_at_call 9; (with_reducible refine (light_any a cap l true _ l9 HS1 (Lib.hid S0.out.A.reads) HL).mono ?_); rintro e w1 ⟨rfl, hB⟩; have S1 := Lib.hid (S0.out.below hB); clear hB S0; have c0 := S1.out.Q.cell 0)
        | (go_at_call 9; (with_reducible refine (light_any a2 cap2 m false _ m9 HS2 (Lib.hid S1.out.M.reads) HM).mono ?_); rintro e w2 ⟨rfl, hB⟩; have S2 := Lib.hid (S1.out.below hB); clear hB S1 c0)
        | (go_at_call 10; (refine (awake_any _).mono ?_); rintro e w3 ⟨rfl, hB⟩; have B2 := Lib.hid (below_then S2.out.B hB); clear hB))
      go_ret
      exact ⟨rfl, B2.out⟩
    · have HM := Lib.hid hmt
      by_cases h40 : ks.length ≤ 40
      · exact merges_main a a2 a3 cap cap2 cap3 l m ks w (light_mem hlt).1 (light_mem hmt).1 h40 hT hT2 hI HL HM
      · clear hmt hlt
        go_enter Try.func4, Try.ntmps4
        go_wp2_with (first
          | (go_at_call 9; (with_reducible refine (light_any a cap l true _ l9 HS1 (Lib.hid S0.out.A.reads) HL).mono ?_); rintro e w1 ⟨rfl, hB⟩; have S1 := Lib.hid (S0.out.below hB); clear hB S0; have c0 := S1.out.Q.cell 0)
          | (go_at_call 9; (with_reducible refine (light_any a2 cap2 m true _ m9 HS2 (Lib.hid S1.out.M.reads) HM).mono ?_); rintro e w2 ⟨rfl, hB⟩; have S2 := Lib.hid (S1.out.below hB); clear hB S1 c0)
          | (go_at_call 10; (refine (awake_any _).mono ?_); rintro e w3 ⟨rfl, hB⟩; have B2 := Lib.hid (below_then S2.out.B hB); clear hB))
        go_ret
        exact ⟨rfl, B2.out⟩
end Go.Proofs.Ytndghjfgjkjbdaa.s06
