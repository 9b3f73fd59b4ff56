/-
  Layer 4, the program's side: Text and Same.
-/
import Derived.Test.YtjhmlmimgahnmaaDoorS04PC
import Derived.Test.YtjhmlmimgahnmaaDoorS04L
import Derived.Test.YtjhmlmimgahnmaaDoorS04U
import Derived.Test.YtjhmlmimgahnmaaDoorLayJ
namespace Go.Proofs.YtjhmlmimgahnmaaDoor.s04
set_option linter.unusedVariables false
set_option linter.unusedSimpArgs false
open Go.RowKit
open kit

theorem infoStr : (Tryd.prog.info? 9).map (fun i => (i.zero, i.size, i.bytes)) = some (some (.string ⟨#[]⟩), 1, 16) := by kernel_rfl
/-- the error of the first lexeme that has one -/
def textE : List Li → Nat
  | [] => 0
  | x :: r => if checkR x.1 x.2.1 x.2.2 = 0 then textE r else checkR x.1 x.2.1 x.2.2
theorem textE_take (l : List Li) (j : Nat) (h : j < l.length) (hp : textE (l.take j) = 0) : textE l = if checkR l[j].1 l[j].2.1 l[j].2.2 = 0 then textE (l.drop (j + 1)) else checkR l[j].1 l[j].2.1 l[j].2.2 := by
  induction l generalizing j with
  | nil => simp at h
  | cons x r ih =>
    cases j with
    | zero => rfl
    | succ j =>
      rw [List.take_succ_cons] at hp
      have hx : checkR x.1 x.2.1 x.2.2 = 0 := by
        by_cases e : checkR x.1 x.2.1 x.2.2 = 0
        · exact e
        · rw [textE, if_neg e] at hp; exact absurd hp e
      rw [textE, if_pos hx] at hp
      rw [textE, if_pos hx, List.drop_succ_cons]
      exact ih j (by simpa using h) hp
theorem textE_snoc (l : List Li) (j : Nat) (h : j < l.length) (hp : textE (l.take j) = 0) (hc : checkR l[j].1 l[j].2.1 l[j].2.2 = 0) : textE (l.take (j + 1)) = 0 := by
  induction l generalizing j with
  | nil => simp at h
  | cons x r ih =>
    cases j with
    | zero =>
      have hc' : checkR x.1 x.2.1 x.2.2 = 0 := hc
      rw [List.take_succ_cons, List.take_zero, textE, if_pos hc']; rfl
    | succ j =>
      rw [List.take_succ_cons] at hp ⊢
      have hx : checkR x.1 x.2.1 x.2.2 = 0 := by
        by_cases e : checkR x.1 x.2.1 x.2.2 = 0
        · exact e
        · rw [textE, if_neg e] at hp; exact absurd hp e
      rw [textE, if_pos hx] at hp ⊢
      exact ih j (by simpa using h) hp hc
def bytesOf (l : List Li) : List ByteArray := l.map fun x => x.2.1
theorem join_textB (l : List Li) : Lib.join ((bytesOf l).map (·.data.toList)) [32] = textB l := by
  induction l with
  | nil => rfl
  | cons x r ih =>
    cases r with
    | nil => simp [bytesOf, Lib.join, textB]
    | cons y r =>
      have e : Lib.join ((bytesOf (x :: y :: r)).map (·.data.toList)) [32] = x.2.1.data.toList ++ [32] ++ Lib.join ((bytesOf (y :: r)).map (·.data.toList)) [32] := by
        simp [bytesOf, Lib.join]
      rw [e, ih]
      simp [textB]
theorem textB_len (l : List Li) (m : Nat) (h : ∀ x ∈ l, x.2.1.size ≤ m) : (textB l).length ≤ l.length * (m + 1) := by
  induction l with
  | nil => simp [textB]
  | cons x r ih =>
    have h1 := h x (List.mem_cons_self ..)
    have e : x.2.1.data.toList.length = x.2.1.size := by simp
    cases r with
    | nil => simp [textB]; omega
    | cons y r =>
      have h2 := ih fun z hz => h z (List.mem_cons_of_mem _ hz)
      have : textB (x :: y :: r) = x.2.1.data.toList ++ 32 :: textB (y :: r) := rfl
      rw [this, List.length_append, List.length_cons, e]
      have e2 : (x :: y :: r).length * (m + 1) = (y :: r).length * (m + 1) + (m + 1) := by
        rw [List.length_cons, Nat.add_mul, Nat.one_mul]
      rw [e2]
      omega
/-- what Text hands back -/
def textR (l : List Li) : ByteArray × Nat := if textE l = 0 then (⟨(textB l).toArray⟩, 0) else (ByteArray.empty, textE l)
theorem join_any (v : Value) (l : List Li) (base : Nat) (w : World) (hb : base ≤ w.heap.size) (hl : l.length ≤ 1000) (hz : ∀ x ∈ l, x.2.1.size ≤ 1000) (hr : w.ownsRow base 9 1 v l.length ((bytesOf l).map Value.string)) :
    Calls Tryd.prog 25 #[v, .string ⟨#[32]⟩] w fun e w' => e = .returned (.string ⟨(textB l).toArray⟩) ∧ Below w.heap.size w w' := by
  have hlen : (bytesOf l).length = l.length := by unfold bytesOf; simp
  have hj := join_textB l
  have hbl := textB_len l 1000 hz
  have hbl2 : (textB l).length ≤ 1001000 := Nat.le_trans hbl (by omega)
  rcases hr.2 with ⟨rfl, h0⟩ | ⟨g, cap, cur, rfl, hbg, hgb, hcap, hm, hsz, htk⟩
  · have : l = [] := List.length_eq_zero_iff.1 h0
    subst this
    exact (Any.strings_Join_none lay.lay156 lay.layExtra156 none 0 ⟨#[32]⟩ w).mono fun e w' ⟨he, hw⟩ => ⟨he, hw ▸ Below.refl _ _⟩
  · have hlt : g < w.heap.size := (Array.getElem?_eq_some_iff.1 hgb).1
    have hc := Any.strings_Join lay.lay156 lay.layExtra156 g 0 cap (bytesOf l) ⟨#[32]⟩ w (fun j x hx => by
      have hjl : j < l.length := by rw [← hlen]; exact (List.getElem?_eq_some_iff.1 hx).1
      rw [Nat.zero_add, hr.cellAt j (by omega), List.getElem?_map, hx]; rfl) hlt (by omega) (by omega) (by
        rw [show (⟨#[32]⟩ : ByteArray).data.toList = [32] from rfl, hj]; omega)
    rw [hlen] at hc
    refine hc.mono fun e w' ⟨he, hw⟩ => ⟨?_, hw⟩
    rw [he, show (⟨#[32]⟩ : ByteArray).data.toList = [32] from rfl, hj]
set_option maxRecDepth 100000 in
set_option maxHeartbeats 2000000 in
theorem text_any (a : Option Addr) (cap : Nat) (l : List Li) (w : World) (hl : l.length ≤ 1000) (hz : ∀ x ∈ l, x.2.1.size ≤ 1000) (hr : ReadsL w a l) (s : ByteArray) (c : Nat) (H : Hid (textR l = (s, c))) :
    Calls Tryd.prog 13 #[.slice a l.length cap] w fun e w' => e = .returned (.tuple #[.string s, .int .i64 (c : Int)]) ∧ Below w.heap.size w w' := by
  have HR := Lib.hid hr
  have HZ := Lib.hid hz
  have HB0 := Lib.hid (Below.refl w.heap.size w)
  clear hr hz
  go_enter Tryd.func13, Tryd.ntmps13
  go_wp2
  go_loopw [4, 10] (fun v i wr => ∃ j : Nat, i = .int .i64 j ∧ j ≤ l.length ∧ Hid (textE (l.take j) = 0) ∧ Hid (wr.ownsRow w.heap.size 9 1 v (l.take j).length ((bytesOf (l.take j)).map Value.string)) ∧ Hid (Below w.heap.size w wr)) (fun _ i _ => l.length - (intOf i).toNat)
  case atStart => exact ⟨0, rfl, by omega, Lib.hid rfl, Lib.hid (World.ownsRow_nil _ _ _ _), HB0⟩
  case round =>
    obtain ⟨j, rfl, hj, HE, HW, HB⟩ := hrel
    by_cases hlt : j < l.length
    · obtain ⟨b, off, rfl, hb, h0, h1, h2⟩ := (HR.out.below HB.out) j hlt
      have hg : l[j]?.getD noLi = l[j] := by rw [List.getElem?_eq_getElem hlt]; rfl
      have hm := HZ.out _ (List.getElem_mem hlt)
      have ht := textE_take l j hlt HE.out
      have hs := textE_snoc l j hlt HE.out
      have hta : l.take (j + 1) = l.take j ++ [l[j]] := by rw [List.take_succ_eq_append_getElem hlt]
      have hln : (l.take j).length = j := by rw [List.length_take]; omega
      rw [hg] at h0 h1 h2
      generalize l[j] = y at h0 h1 h2 hm ht hs hta
      obtain ⟨kd, tx, pl⟩ := y
      simp only at h0 h1 h2 hm ht hs
      have ht9 : tx.size ≤ 9223372036854775806 := by omega
      obtain ⟨c1, hc1⟩ : ∃ c1, checkR kd tx pl = c1 := ⟨_, rfl⟩
      rw [hc1] at ht hs
      have HC := Lib.hid hc1
      have HTA := Lib.hid hta
      have HLN := Lib.hid hln
      clear hta hc1 hg hln
      have HX := Lib.hid (Box.new wr 23 #[.int .i64 kd, .string tx, .int .i64 pl])
      have HBX := Lib.hid (HB.out.alloc HB.out.size (.cells #[.int .i64 kd, .string tx, .int .i64 pl] 23))
      by_cases hz : c1 = 0
      · have HS := Lib.hid (hs hz)
        have HCZ := Lib.hid hz
        clear ht hs
        subst hz
        go_wp2_with (first
          | (go_at_call 9; (with_reducible refine (check_any kd pl tx _ ht9 0 HC).mono ?_); rintro e w1 ⟨rfl, B1⟩; have HX1 := Lib.hid (HX.out.below B1); have HB1 := Lib.hid (below_then HBX.out B1); have HW1 := Lib.hid (row_below (row_alloc HW.out (.cells #[.int .i64 kd, .string tx, .int .i64 pl] 23)) B1); clear B1; obtain ⟨x0, x1, x2⟩ := HX1.out.cell3)
          | (at_builtin; refine append_in Tryd.underlying50 infoStr rfl (by omega) rfl (.tmp 19) (.tmp 22) rfl w.heap.size _ (l.take j).length ((bytesOf (l.take j)).map Value.string) rfl (row_alloc HW1.out _) (some ⟨w1.heap.size, 0, none⟩) [.string tx] 1 1 rfl rfl (src_one _ _ _) (by simp [Value.oneCell']) (by simp; omega) (by have := HB1.out.size; simp; omega) ?_; intro vA wA hrA hBA))
        have HR2 := Lib.hid hrA
        have HB2 := Lib.hid ((HB1.out.alloc HB1.out.size (.cells #[.string tx] 9)).trans hBA)
        clear hrA hBA
        go_roundw
        case rel => exact ⟨j + 1, by go_num, by omega, HS, Lib.hid (by
          have h := HR2.out
          rw [HTA.out]
          unfold bytesOf at *
          rw [List.length_append, List.map_append, List.map_append]
          exact h), HB2⟩
        case measure => simp [intOf]; omega
      · have tc : ((c1 : Int) != 0) = true := by rw [bne_iff_ne]; omega
        have HT : Hid ((ByteArray.empty, c1) = (s, c)) := Lib.hid (by
          rw [if_neg hz] at ht
          rw [← H.out]; unfold textR; rw [ht, if_neg hz])
        clear ht hs hz
        go_wp2_with (go_at_call 9; (with_reducible refine (check_any kd pl tx _ ht9 c1 HC).mono ?_); rintro e w1 ⟨rfl, B1⟩; have HB1 := Lib.hid (below_then HBX.out B1); clear B1)
        go_ret2
        exact ⟨ret_se (by have := HT.out; simp only [Prod.mk.injEq] at this ⊢; obtain ⟨e1, e2⟩ := this; exact ⟨e1, by rw [e2]⟩), HB1.out⟩
    · have hjl : j = l.length := by omega
      have hta : l.take j = l := by rw [hjl, List.take_length]
      have HT : Hid (((⟨(textB l).toArray⟩ : ByteArray), 0) = (s, c)) := Lib.hid (by
        have he := HE.out
        rw [hta] at he
        rw [← H.out]; unfold textR; rw [if_pos he])
      have HW2 : Hid (wr.ownsRow w.heap.size 9 1 u4 l.length ((bytesOf l).map Value.string)) := Lib.hid (by have h := HW.out; rw [hta] at h; exact h)
      have hbz := HB.out.size
      clear hta hjl
      go_wp2_with (go_at_call 25; refine (join_any _ l w.heap.size _ hbz hl HZ.out HW2.out).mono ?_; rintro e w1 ⟨rfl, B1⟩)
      go_ret2
      exact ⟨ret_se (by have := HT.out; simp only [Prod.mk.injEq] at this ⊢; obtain ⟨e1, e2⟩ := this; exact ⟨e1, by rw [← e2]; rfl⟩), below_then HB.out B1⟩
end Go.Proofs.YtjhmlmimgahnmaaDoor.s04
