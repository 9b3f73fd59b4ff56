/-
  Layer 6, the reference's side: at, Check, ok.
-/
import Derived.Test.YtndghjfgjkjbdaaS06M
import Derived.Test.YtndghjfgjkjbdaaS03A
import Derived.Test.YtndghjfgjkjbdaaKitTexts
import Derived.Test.YtndghjfgjkjbdaaKitQuiet
namespace Go.Proofs.Ytndghjfgjkjbdaa.s06
set_option linter.unusedVariables false
set_option linter.unusedSimpArgs false
open Go.RowKit
open kit

/-- what at answers -/
def atI (l : List ByteArray) (s : ByteArray) : Int := if ix l s < l.length then (ix l s : Int) else -1
theorem ret_i {a b : Int} (h : a = b) : Ending.returned (.int .i64 a) = .returned (.int .i64 b) := by rw [h]
theorem Reads.take {α : Type} {f : α → Value} {d : α} {w : World} {a : Option Addr} {xs : List α} (h : Reads f d w a xs) (k : Nat) : Reads f d w a (xs.take k) := fun i hi => by
  rw [List.length_take] at hi
  obtain ⟨b, off, e, hb, hc⟩ := h i (by omega)
  refine ⟨b, off, e, hb, ?_⟩
  rw [hc, List.getElem?_take_of_lt (by omega)]
set_option maxRecDepth 100000 in
set_option maxHeartbeats 1000000 in
theorem at_any (a : Option Addr) (cap n : Nat) (ss : List ByteArray) (s : ByteArray) (r : Int) (w : World) (hl : ss.length = n) (hn : ss.length ≤ 9223372036854775807) (hr : Hid (ReadsS w a ss)) (H : Hid (atI ss s = r)) :
    Calls Try.prog 44 #[.slice a n cap, .string s] w fun e w' => e = .returned (.int .i64 r) ∧ w = w' := by
  subst hl
  go_enter Try.func44, Try.ntmps44
  go_wp2
  go_loop [5] (fun v => ∃ k : Nat, k ≤ ss.length ∧ v = .int .i64 k ∧ Hid (∀ j, j < k → ss[j]?.getD ByteArray.empty ≠ s)) (fun v => ss.length - (intOf v).toNat)
  case atStart => exact ⟨0, by omega, rfl, Lib.hid fun j hj => by omega⟩
  case round =>
    obtain ⟨k, hk, rfl, HA⟩ := hrel
    by_cases hlt : k < ss.length
    · obtain ⟨b, off, rfl, hb2, hc⟩ := hr.out k hlt
      by_cases he : ss[k]?.getD ByteArray.empty = s
      · have HX : Hid ((k : Int) = r) := Lib.hid (by
          have := H.out
          unfold atI at this
          rw [ix_at s ss k hlt HA.out he, if_pos hlt] at this
          exact this)
        rw [he] at hc
        clear he
        go_wp2
        go_ret
        exact ⟨ret_i HX.out, rfl⟩
      · have te := str_beq_false he
        generalize hx : ss[k]?.getD ByteArray.empty = x at hc te he
        have HE : Hid (ss[k]?.getD ByteArray.empty ≠ s) := Lib.hid (by rw [hx]; exact he)
        clear hx he
        go_wp2
        go_round
        case rel => exact ⟨k + 1, by omega, by go_num, Lib.hid fun j hj => by
          by_cases e : j = k
          · subst e; exact HE.out
          · exact HA.out j (by omega)⟩
        case measure => simp [intOf]; omega
    · have hk2 : k = ss.length := by omega
      have HX : Hid ((-1 : Int) = r) := Lib.hid (by
        have := H.out
        unfold atI at this
        rw [ix_none (fun hm => by
          obtain ⟨j, hj, e⟩ := List.getElem_of_mem hm
          exact HA.out j (by omega) (by rw [List.getElem?_eq_getElem hj]; exact e)), if_neg (by omega)] at this
        exact this)
      clear hk2
      go_wp2
      go_ret
      exact ⟨ret_i HX.out, rfl⟩
end Go.Proofs.Ytndghjfgjkjbdaa.s06
