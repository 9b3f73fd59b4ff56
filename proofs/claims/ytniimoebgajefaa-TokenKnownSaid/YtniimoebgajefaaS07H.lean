/-
  Layer 7, the program's side: the builder at work, and the frames of tokens.
-/
import Derived.Test.YtniimoebgajefaaS07B
import Derived.Test.YtniimoebgajefaaLayB
import Derived.Shelf.Strings.BuilderK
namespace Go.Proofs.Ytniimoebgajefaa.s07
set_option linter.unusedVariables false
set_option linter.unusedSimpArgs false
open Go.RowKit
open kit

/-- the bytes of frames -/
def fB (x : Li) : List UInt8 := (frm x.1 x.2.1).data.toList
def fL (l : List Li) : List UInt8 := l.flatMap fB
theorem fL_nil : fL [] = [] := rfl
theorem fL_app (l r : List Li) : fL (l ++ r) = fL l ++ fL r := by unfold fL; rw [List.flatMap_append]
theorem fL_one (x : Li) : fL [x] = fB x := by simp [fL]
theorem fB_len (x : Li) : (fB x).length = 2 + x.2.1.size := by unfold fB; rw [show (frm x.1 x.2.1).data.toList.length = (frm x.1 x.2.1).size by simp, frm_size]
/-- what is right of a token, whatever its place -/
def okB (x : Li) : Prop := 0 ≤ x.1 ∧ x.1 ≤ 8 ∧ x.2.1.size ≤ 24
theorem fL_len (l : List Li) (h : ∀ x ∈ l, okB x) : (fL l).length ≤ 26 * l.length := by
  induction l with
  | nil => simp [fL]
  | cons x r ih =>
    have h1 := (h x (by simp)).2.2
    have h2 := ih fun y hy => h y (by simp [hy])
    have := fB_len x
    unfold fL at *
    rw [List.flatMap_cons, List.length_append, List.length_cons]
    omega
theorem take_tok (l : List Li) (k : Nat) (h : k < l.length) : l.take (k + 1) = l.take k ++ [l[k]?.getD noLi] := by
  rw [List.take_succ_eq_append_getElem h, List.getElem?_eq_getElem h]; rfl
theorem mem_tok (l : List Li) (k : Nat) (h : k < l.length) : l[k]?.getD noLi ∈ l := by
  rw [List.getElem?_eq_getElem h]; exact List.getElem_mem h
/-- block b is a builder that holds these bytes -/
def Bld (w : World) (B b : Nat) (l : List UInt8) : Prop := Lib.IsBuilderF 68 5 B b (Lib.byteCells l) w
theorem Bld.new (w : World) : Bld (w.alloc (.cells #[.pointer none, .slice none 0 0] 68)) w.heap.size w.heap.size [] := Lib.IsBuilderF.of (Lib.fresh_isBuilder 68 5 w)
theorem bat_below {B b : Nat} {p : Value} {bs : List Value} {w w1 : World} (h : Lib.BuilderAtF 68 5 B b p bs w) (hB : Below w.heap.size w w1) : Lib.BuilderAtF 68 5 B b p bs w1 := by
  have hlt := h.lt
  obtain ⟨h1, v, hb, hown, hne⟩ := h
  exact ⟨h1, v, (hB.block b hlt).trans hb, hown.kept (row := none) ⟨hB.os, hB.tape, hB.output, hB.size, fun i hi _ => hB.block i hi⟩ (by cases v.ownBlock <;> simp), hne⟩
theorem Bld.below {w w1 : World} {B b : Nat} {l : List UInt8} (h : Bld w B b l) (hB : Below w.heap.size w w1) : Bld w1 B b l := h.elim (fun x => .inl (bat_below x hB)) (fun x => .inr (bat_below x hB))
theorem Bld.alloc {w : World} {B b : Nat} {l : List UInt8} (h : Bld w B b l) (o : Obj) : Bld (w.alloc o) B b l := Lib.IsBuilderF.alloc h o
theorem bytes_cells (l : List UInt8) (s : ByteArray) : Lib.byteCells l ++ Lib.strCells s = Lib.byteCells (l ++ s.data.toList) := by unfold Lib.byteCells Lib.strCells; rw [List.map_append]
theorem cells_len (l : List UInt8) : (Lib.byteCells l).length = l.length := by unfold Lib.byteCells; simp
theorem bld_write (B b : Nat) (l : List UInt8) (s : ByteArray) (w : World) (h : Hid (Bld w B b l)) (hl : l.length + s.size ≤ 140737488355328) (hB : B ≤ w.heap.size) :
    Calls Try.prog 46 #[.pointer (some ⟨b, 0, none⟩), .string s] w fun e w' => e = .returned (.tuple #[.int .i64 s.size, .nilIface]) ∧ Bld w' B b (l ++ s.data.toList) ∧ Below B w w' ∧ Lib.OthersKept 5 (some b) w w' := by
  have := Go.Proofs.Any.Builder_WriteString_k lay.lay166 lay.layExtra166 B b (Lib.byteCells l) s w h.out (by rw [cells_len]; exact hl) hB
  refine Calls.mono this fun e w' ⟨he, hA, hBl, hK⟩ => ⟨he, .inr ?_, hBl, hK⟩
  rw [← bytes_cells]
  exact hA
theorem bld_string (B b : Nat) (l : List UInt8) (w : World) (h : Hid (Bld w B b l)) (hB : B ≤ w.heap.size) :
    Calls Try.prog 48 #[.pointer (some ⟨b, 0, none⟩)] w fun e w' => e = .returned (.string ⟨l.toArray⟩) ∧ Below B w w' := by
  have := Go.Proofs.Any.Builder_String_any_k lay.lay169 lay.layExtra169 B b l w h.out hB
  exact Calls.mono this fun e w' ⟨he, _, hBl, _⟩ => ⟨he, hBl⟩
theorem Box.others {w w1 : World} {t b c : Nat} {xs : Array Value} (h : Box w t c xs) (hK : Lib.OthersKept 5 (some b) w w1) (hne : c ≠ b) (ht : t ≠ 5) : Box w1 t c xs :=
  hK c _ h (fun e => hne (by cases e; rfl)) (fun c' fz e => by cases e; exact ht rfl)
theorem vb (x : Int) (h1 : 0 ≤ x) (h2 : x < 128) (w : World) : Calls Try.prog 47 #[.int .u64 x] w fun e w' => e = .returned (.string (strOfNums [x])) ∧ Below w.heap.size w w' := by
  have := bytes_any x h1 (by omega) w
  rw [digs_last h2] at this
  exact this
theorem strl (xs : List Int) : (strOfNums xs).data.toList.length = xs.length := by unfold strOfNums; simp
theorem ln1 {Lk : List UInt8} {n : Int} (h : Lk.length ≤ 30000) : Lk.length + (strOfNums [n]).size ≤ 140737488355328 := by
  rw [strOfNums_size]; simp only [List.length_cons, List.length_nil]; omega
theorem ln2 {Lk : List UInt8} {n m : Int} (h : Lk.length ≤ 30000) : (Lk ++ (strOfNums [n]).data.toList).length + (strOfNums [m]).size ≤ 140737488355328 := by
  rw [List.length_append, strl, strOfNums_size]; simp only [List.length_cons, List.length_nil]; omega
theorem ln3 {Lk : List UInt8} {n m : Int} {tx : ByteArray} (h : Lk.length ≤ 30000) (h2 : tx.size ≤ 24) : (Lk ++ (strOfNums [n]).data.toList ++ (strOfNums [m]).data.toList).length + tx.size ≤ 140737488355328 := by
  rw [List.length_append, List.length_append, strl, strl]; simp only [List.length_cons, List.length_nil]; omega
theorem fin_bytes {w : World} {B b : Nat} {Lk : List UInt8} {y p : Int} {tx : ByteArray} (h : Bld w B b (Lk ++ (strOfNums [y]).data.toList ++ (strOfNums [(tx.size : Int)]).data.toList ++ tx.data.toList)) : Bld w B b (Lk ++ fB (y, tx, p)) := by
  have : Lk ++ (strOfNums [y]).data.toList ++ (strOfNums [(tx.size : Int)]).data.toList ++ tx.data.toList = Lk ++ fB (y, tx, p) := by
    unfold fB frm
    rw [ByteArray.data_append, Array.toList_append]
    simp [strOfNums, List.append_assoc]
  rw [← this]; exact h
set_option maxRecDepth 100000 in
set_option maxHeartbeats 2000000 in
theorem frames_any (a : Option Addr) (c : Nat) (l : List Li) (w : World) (hn : l.length ≤ 1003) (hz : Hid (∀ x ∈ l, okB x)) (hr : Hid (ReadsL w a l)) :
    Calls Try.prog 35 #[.slice a l.length c] w fun e w' => e = .returned (.string ⟨(fL l).toArray⟩) ∧ Below w.heap.size w w' := by
  have L0 : Hid (Bld (w.alloc (.cells #[.pointer none, .slice none 0 0] 68)) w.heap.size w.heap.size (fL (l.take 0))) := Lib.hid (Bld.new w)
  have B0 := Lib.hid ((Below.refl w.heap.size w).alloc (Nat.le_refl _) (.cells #[.pointer none, .slice none 0 0] 68))
  go_enter Try.func35, Try.ntmps35
  go_wp2
  go_loopw [8] (fun i wr => ∃ k : Nat, i = .int .i64 k ∧ k ≤ l.length ∧ Hid (Bld wr w.heap.size w.heap.size (fL (l.take k))) ∧ Hid (Below w.heap.size w wr)) (fun i _ => l.length - (intOf i).toNat)
  case atStart => exact ⟨0, rfl, by omega, L0, B0⟩
  case round =>
    obtain ⟨k, rfl, hk, HL, HB⟩ := hrel
    clear L0 B0
    by_cases hlt : k < l.length
    · obtain ⟨b, off, rfl, hb, h0, h1, h2⟩ := (hr.out.below HB.out) k hlt
      have hok := hz.out _ (mem_tok l k hlt)
      have htk := Lib.hid (take_tok l k hlt)
      have hln : (fL (l.take k)).length ≤ 30000 := by
        have := fL_len (l.take k) fun y hy => hz.out y (List.mem_of_mem_take hy)
        rw [List.length_take] at this
        omega
      generalize l[k]?.getD noLi = y at h0 h1 h2 hok htk
      obtain ⟨sy, tx, at'⟩ := y
      obtain ⟨k1, k2, k3⟩ := hok
      simp only at k1 k2 k3
      have hwr := HB.out.size
      have hne : wr.heap.size ≠ w.heap.size := by
        rcases HL.out with h | h <;> · have := h.lt; omega
      have hlt2 : b < wr.heap.size := cell_lt h0
      have T1 := Lib.hid (Box.new wr 23 #[.int .i64 sy, .string tx, .int .i64 at'])
      have L1 := Lib.hid (HL.out.alloc (.cells #[.int .i64 sy, .string tx, .int .i64 at'] 23))
      have B1 := Lib.hid (HB.out.alloc hwr (.cells #[.int .i64 sy, .string tx, .int .i64 at'] 23))
      generalize hLk : fL (l.take k) = Lk at HL hln L1
      have HLk := Lib.hid hLk
      clear hLk HL
      go_wp2_with (first
        | (go_at_call 47; (with_reducible refine (vb sy k1 (by omega) _).mono ?_); rintro e w2 ⟨rfl, hB⟩; have L2 := Lib.hid (L1.out.below hB); have B2 := Lib.hid (below_then B1.out hB); have T2 := Lib.hid (T1.out.below hB); clear hB T1 L1 B1)
        | (go_at_call 46; (with_reducible refine (bld_write w.heap.size w.heap.size Lk (strOfNums [sy]) _ L2 (ln1 hln) B2.out.size).mono ?_); rintro e w3 ⟨rfl, hL, hB, hK⟩; have L3 := Lib.hid hL; have B3 := Lib.hid (B2.out.trans hB); have T3 := Lib.hid (T2.out.others hK hne (by decide)); clear hL hB hK T2 L2 B2; obtain ⟨c0, c1, c2⟩ := T3.out.cell3)
        | (go_at_call 47; (with_reducible refine (vb (tx.size : Int) (by omega) (by omega) _).mono ?_); rintro e w4 ⟨rfl, hB⟩; have L4 := Lib.hid (L3.out.below hB); have B4 := Lib.hid (below_then B3.out hB); have T4 := Lib.hid (T3.out.below hB); clear hB T3 L3 B3)
        | (go_at_call 46; (with_reducible refine (bld_write w.heap.size w.heap.size _ (strOfNums [(tx.size : Int)]) _ L4 (ln2 hln) B4.out.size).mono ?_); rintro e w5 ⟨rfl, hL, hB, hK⟩; have L5 := Lib.hid hL; have B5 := Lib.hid (B4.out.trans hB); have T5 := Lib.hid (T4.out.others hK hne (by decide)); clear hL hB hK T4 L4 B4; obtain ⟨d0, d1, d2⟩ := T5.out.cell3)
        | (go_at_call 46; (with_reducible refine (bld_write w.heap.size w.heap.size _ tx _ L5 (ln3 hln k3) B5.out.size).mono ?_); rintro e w6 ⟨rfl, hL, hB, hK⟩; have L6 := Lib.hid hL; have B6 := Lib.hid (B5.out.trans hB); clear hL hB hK T5 L5 B5))
      go_roundw
      case rel => exact ⟨k + 1, by go_num, by omega, Lib.hid (by rw [htk.out, fL_app, fL_one, ← HLk.out.symm]; exact fin_bytes L6.out), B6⟩
      case measure => simp [intOf]; omega
    · have hke : l.take k = l := List.take_of_length_le (by omega)
      rw [hke] at HL
      clear hke
      go_wp2_with (go_at_call 48; refine (bld_string w.heap.size w.heap.size (fL l) _ HL HB.out.size).mono ?_; rintro e w2 ⟨rfl, hB⟩; have B2 := Lib.hid (HB.out.trans hB); clear hB)
      go_ret
      exact ⟨rfl, B2.out⟩
end Go.Proofs.Ytniimoebgajefaa.s07
