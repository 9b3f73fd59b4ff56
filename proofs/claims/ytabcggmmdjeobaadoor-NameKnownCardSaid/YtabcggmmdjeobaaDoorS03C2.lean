/-
  Layer 3: the law's count.
-/
import Derived.Test.YtabcggmmdjeobaaDoorS03Q
namespace Go.Proofs.YtabcggmmdjeobaaDoor.s03
set_option linter.unusedVariables false
set_option linter.unusedSimpArgs false
open Go.RowKit
open kit

/-- how often is this string among the first k? -/
def cnt (l : List ByteArray) (s : ByteArray) (k : Nat) : Nat := ((l.take k).filter (fun x => decide (x = s))).length
theorem cnt_step (l : List ByteArray) (s : ByteArray) (k : Nat) (h : k < l.length) : cnt l s (k + 1) = cnt l s k + if l[k]?.getD ByteArray.empty = s then 1 else 0 := by
  unfold cnt
  rw [List.getElem?_eq_getElem h, List.take_succ_eq_append_getElem h, List.filter_append, List.length_append]
  congr 1
  simp only [Option.getD_some]
  by_cases e : l[k] = s
  · rw [if_pos e, List.filter_cons_of_pos (by simpa using e)]; rfl
  · rw [if_neg e, List.filter_cons_of_neg (by simpa using e)]; rfl
theorem cnt_le (l : List ByteArray) (s : ByteArray) (k : Nat) : cnt l s k ≤ k := by
  unfold cnt
  exact Nat.le_trans (List.length_filter_le _ _) (by simp; omega)
theorem cnt_perm {l x : List ByteArray} (h : x.Perm l) (s : ByteArray) : cnt x s x.length = cnt l s l.length := by
  unfold cnt
  rw [List.take_length, List.take_length]
  exact (h.filter _).length_eq
set_option maxRecDepth 100000 in
theorem count_any (a : Option Addr) (cap : Nat) (ss : List ByteArray) (s : ByteArray) (w : World) (hn : ss.length ≤ 9223372036854775807) (hr : ReadsS w a ss) :
    Calls Tryd.prog 37 #[.slice a ss.length cap, .string s] w fun e w' => e = .returned (.int .i64 (cnt ss s ss.length)) ∧ w = w' := by
  go_enter Tryd.func37, Tryd.ntmps37
  go_wp2
  go_loop [5, 6] (fun n v => ∃ k : Nat, k ≤ ss.length ∧ n = .int .i64 (cnt ss s k) ∧ v = .int .i64 k) (fun n v => ss.length - (intOf v).toNat)
  case atStart => exact ⟨0, by omega, rfl, rfl⟩
  case round =>
    obtain ⟨k, hk, rfl, rfl⟩ := hrel
    by_cases hlt : k < ss.length
    · obtain ⟨b, off, rfl, hb2, hc⟩ := hr k hlt
      have HS := Lib.hid (cnt_step ss s k hlt)
      have HL := cnt_le ss s k
      generalize hq : cnt ss s k = q at HS HL
      by_cases he : ss[k]?.getD ByteArray.empty = s
      · have HX := HS.out
        rw [if_pos he] at HX
        have HX := Lib.hid HX
        rw [he] at hc
        clear he HS
        go_wp2
        go_round
        case rel => exact ⟨k + 1, by omega, by rw [HX.out]; go_num, by go_num⟩
        case measure => simp [intOf]; omega
      · have te := str_beq_false he
        have HX := HS.out
        rw [if_neg he] at HX
        have HX := Lib.hid HX
        generalize hx : ss[k]?.getD ByteArray.empty = x at hc te he
        clear hx he HS
        go_wp2
        go_round
        case rel => exact ⟨k + 1, by omega, by rw [HX.out]; go_num, by go_num⟩
        case measure => simp [intOf]; omega
    · have hk2 : k = ss.length := by omega
      subst hk2
      go_wp2
      go_ret
      exact ⟨rfl, rfl⟩
end Go.Proofs.YtabcggmmdjeobaaDoor.s03
