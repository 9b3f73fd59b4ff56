/-
  Layer 5: what is written is read back.
-/
import Derived.Test.YtkepnjnindolbaaS05ZG
namespace Go.Proofs.Ytkepnjnindolbaa.s05
set_option linter.unusedVariables false
set_option linter.unusedSimpArgs false
open Go.RowKit
open kit

theorem uz_zg (a : Int) : uz (zg a) = a := by
  unfold uz zg; split <;> split <;> omega
theorem size_len (s : ByteArray) : s.size = s.data.toList.length := by rw [Array.length_toList]; rfl
theorem wide_back {s : ByteArray} {pre post : List UInt8} {n : Int} (h : s.data.toList = pre ++ (bys (digs n) ++ post)) (h0 : 0 ≤ n) (h1 : n ≤ 18446744073709551615) (hs : s.size ≤ 20000) :
    fldR (0 : Int) (fun s a => bnd s a 18446744073709551615) s pre.length 0 0 = ((s, ((pre ++ bys (digs n)).length : Int), 0, 0), n) := by
  have hl := congrArg List.length h
  rw [← size_len, List.length_append] at hl
  have hb : bnd s pre.length 18446744073709551615 = (n, (pre.length : Int) + (digs n).length, 0, 0) := by
    unfold bnd
    rw [rd_mid h h0 h1]
    simp only
    rw [if_pos trivial, if_neg (by omega)]
  unfold fldR
  rw [cnt_of hs (by omega) (by omega)]
  simp only [hb, if_true]
  simp [bys_len]
theorem len_back {s : ByteArray} {pre post : List UInt8} {n m : Int} (h : s.data.toList = pre ++ (bys (digs n) ++ post)) (h0 : 0 ≤ n) (h1 : n ≤ m) (h2 : n ≤ 18446744073709551615) : lenF m s pre.length = (n, (pre.length : Int) + (digs n).length, 0, 0) := by
  unfold lenF
  rw [if_neg (by omega), rd_mid h h0 h2]
  simp only
  rw [if_pos trivial, if_neg (by omega)]
theorem extract_mid {s t : ByteArray} {pre post : List UInt8} (h : s.data.toList = pre ++ (t.data.toList ++ post)) : s.extract pre.length (pre.length + t.size) = t := by
  apply ByteArray.ext
  apply Array.toList_inj.mp
  rw [ByteArray.data_extract, Array.toList_extract, h, List.extract_eq_take_drop, List.drop_left, Nat.add_sub_cancel_left, size_len, List.take_left]
theorem fix_back {s t : ByteArray} {pre post : List UInt8} (h : s.data.toList = pre ++ (t.data.toList ++ post)) : fixF t.size s pre.length = (t, (pre.length : Int) + t.size, 0, 0) := by
  have hl := congrArg List.length h
  rw [← size_len, List.length_append, List.length_append, ← size_len] at hl
  unfold fixF
  rw [if_neg (by omega), if_neg (by omega)]
  have e1 : ((pre.length : Int)).toNat = pre.length := by omega
  have e2 : ((pre.length : Int) + t.size).toNat = pre.length + t.size := by omega
  rw [e1, e2, extract_mid h]
theorem fixed_back {s t : ByteArray} {pre post : List UInt8} (h : s.data.toList = pre ++ (t.data.toList ++ post)) (hs : s.size ≤ 20000) :
    fldR (⟨#[]⟩ : ByteArray) (fixF t.size) s pre.length 0 0 = ((s, ((pre ++ t.data.toList).length : Int), 0, 0), t) := by
  have hl := congrArg List.length h
  rw [← size_len, List.length_append] at hl
  unfold fldR
  rw [cnt_of hs (by omega) (by omega)]
  simp only [fix_back h, if_true]
  simp
theorem str_back {s t : ByteArray} {pre post : List UInt8} {m : Int} (h : s.data.toList = pre ++ (bys (digs t.size) ++ (t.data.toList ++ post))) (hm : (t.size : Int) ≤ m) (hs : s.size ≤ 20000) :
    fldR (⟨#[]⟩ : ByteArray) (sizF m) s pre.length 0 0 = ((s, ((pre ++ (bys (digs t.size) ++ t.data.toList)).length : Int), 0, 0), t) := by
  have hl := congrArg List.length h
  rw [← size_len, List.length_append, List.length_append, List.length_append, ← size_len] at hl
  have hf : fixF t.size s ((pre.length : Int) + (digs t.size).length) = (t, (pre.length : Int) + (digs t.size).length + t.size, 0, 0) := by
    have := fix_back (s := s) (t := t) (pre := pre ++ bys (digs t.size)) (post := post) (by rw [h]; simp)
    rw [List.length_append, bys_len] at this
    simpa using this
  unfold fldR sizF
  rw [cnt_of hs (by omega) (by omega)]
  simp only [len_back h (by omega) hm (by omega), if_true, hf]
  simp [bys_len, Int.add_assoc]
theorem list_back {s : ByteArray} : ∀ (l : List Int) (pre post : List UInt8), (∀ z ∈ l, -9223372036854775808 ≤ z ∧ z ≤ 9223372036854775807) → s.data.toList = pre ++ (bys ((l.map zg).flatMap digs) ++ post) →
    lstG (-9223372036854775808) 9223372036854775807 s l.length pre.length = (l, (pre.length : Int) + ((l.map zg).flatMap digs).length, 0, 0) := by
  intro l
  induction l with
  | nil => intro pre post _ _; simp [lstG]
  | cons x l ih =>
    intro pre post hz h
    have hx := hz x (List.mem_cons_self ..)
    have hg := zg_range hx.1 hx.2
    rw [List.map_cons, List.flatMap_cons, bys_app, List.append_assoc] at h
    have hr := rd_mid h hg.1 hg.2
    have hs : sgnF (-9223372036854775808) 9223372036854775807 s pre.length = (x, (pre.length : Int) + (digs (zg x)).length, 0, 0) := by
      unfold sgnF
      rw [hr]
      simp only [uz_zg]
      rw [if_pos trivial, if_neg (by omega)]
    have hi := ih (pre ++ bys (digs (zg x))) post (fun z hz' => hz z (List.mem_cons_of_mem _ hz')) (by rw [h]; simp)
    rw [List.length_append, bys_len] at hi
    have hi' : lstG (-9223372036854775808) 9223372036854775807 s l.length ((pre.length : Int) + (digs (zg x)).length) = (l, (pre.length : Int) + (digs (zg x)).length + ((l.map zg).flatMap digs).length, 0, 0) := by simpa using hi
    rw [List.length_cons, lstG, hs]
    simp only [if_true, hi']
    simp [Int.add_assoc]
theorem ints_back {s : ByteArray} {pre post : List UInt8} {l : List Int} {m : Int} (h : s.data.toList = pre ++ (encI l ++ post)) (hz : ∀ z ∈ l, -9223372036854775808 ≤ z ∧ z ≤ 9223372036854775807) (hm : (l.length : Int) ≤ m) (hm2 : m ≤ 9223372036854775807) (hs : s.size ≤ 20000) :
    fldR ([] : List Int) (lstF m (-9223372036854775808) 9223372036854775807) s pre.length 0 0 = ((s, ((pre ++ encI l).length : Int), 0, 0), l) := by
  have hl := congrArg List.length h
  rw [← size_len, List.length_append] at hl
  unfold encI at h
  rw [List.append_assoc] at h
  have hg := list_back l (pre ++ bys (digs l.length)) post hz (by rw [h]; simp)
  rw [List.length_append, bys_len] at hg
  have hg' : lstG (-9223372036854775808) 9223372036854775807 s l.length ((pre.length : Int) + (digs l.length).length) = (l, (pre.length : Int) + (digs l.length).length + ((l.map zg).flatMap digs).length, 0, 0) := by simpa using hg
  have hF : lstF m (-9223372036854775808) 9223372036854775807 s pre.length = (l, (pre.length : Int) + (digs l.length).length + ((l.map zg).flatMap digs).length, 0, 0) := by
    unfold lstF
    rw [if_neg (by omega), len_back h (by omega) hm (by omega)]
    simp only
    rw [if_pos trivial]
    simpa using hg'
  unfold fldR
  rw [cnt_of hs (by omega) (by omega)]
  simp only [hF, if_true]
  simp [encI, bys_len, Int.add_assoc]
theorem end_back {s : ByteArray} {p : Int} (h : p = s.size) (hs : s.size ≤ 20000) : endF s p 0 0 = (0, 0) := by
  unfold endF
  rw [cnt_of hs (by omega) (by omega)]
  simp only
  rw [if_neg (by omega)]
theorem ba_append (A t : List UInt8) : (⟨A.toArray⟩ ++ ⟨t.toArray⟩ : ByteArray) = ⟨(A ++ t).toArray⟩ := by
  apply ByteArray.ext
  rw [ByteArray.data_append]
  simp
theorem ba_size (A : List UInt8) : (⟨A.toArray⟩ : ByteArray).size = A.length := by rw [size_len]
theorem cntw_of {s : ByteArray} {m : Int} (h1 : 0 ≤ m) (h2 : m ≤ 20000) (h3 : (s.size : Int) ≤ m) : cntw s m 0 = (s, m, 0) := by
  unfold cntw vldw
  rw [if_pos (by simp; omega)]
theorem add_ok {A t : List UInt8} (h : (A ++ t).length ≤ 20000) : addR ⟨A.toArray⟩ 20000 0 t = (⟨(A ++ t).toArray⟩, 20000, 0) := by
  rw [List.length_append] at h
  have h1 := ba_size A
  unfold addR
  rw [cntw_of (by omega) (by omega) (by rw [h1]; omega)]
  simp only
  rw [if_pos trivial, if_pos (by rw [h1]; omega), ba_append]
theorem done_ok {A : List UInt8} (h : A.length ≤ 20000) : doneW ⟨A.toArray⟩ 20000 0 = (⟨A.toArray⟩, 0) := by
  have h1 := ba_size A
  unfold doneW
  rw [cntw_of (by omega) (by omega) (by rw [h1]; omega)]
  simp only
  rw [if_pos trivial]
/-- the bytes of numbers -/
def encN (ns : List Int) : List UInt8 := ns.flatMap fun n => bys (digs n)
theorem encN_snoc (ns : List Int) (k : Nat) (h : k < ns.length) : encN (ns.take (k + 1)) = encN (ns.take k) ++ bys (digs (ns[k]?.getD 0)) := by
  rw [List.take_succ_eq_append_getElem h, List.getElem?_eq_getElem h]
  unfold encN
  rw [List.flatMap_append]
  simp
theorem encN_mid (ns : List Int) (k : Nat) (h : k < ns.length) : encN ns = encN (ns.take k) ++ (bys (digs (ns[k]?.getD 0)) ++ encN (ns.drop (k + 1))) := by
  conv => lhs; rw [← List.take_append_drop k ns, List.drop_eq_getElem_cons h]
  rw [List.getElem?_eq_getElem h]
  unfold encN
  rw [List.flatMap_append, List.flatMap_cons]
  rfl
theorem encS_app (a b : List ByteArray) : encS (a ++ b) = encS a ++ encS b := by simp [encS, cat, partsOf]
theorem encS_mid (ts : List ByteArray) (k : Nat) (h : k < ts.length) : encS ts = encS (ts.take k) ++ (bys (digs (ts[k]?.getD ByteArray.empty).size) ++ ((ts[k]?.getD ByteArray.empty).data.toList ++ encS (ts.drop (k + 1)))) := by
  conv => lhs; rw [← List.take_append_drop k ts, List.drop_eq_getElem_cons h]
  rw [List.getElem?_eq_getElem h, encS_app, encS_cons]
  rfl
theorem encN_len {ns : List Int} (h : ∀ n ∈ ns, 0 ≤ n ∧ n ≤ 18446744073709551615) : (encN ns).length ≤ 10 * ns.length := by
  induction ns with
  | nil => simp [encN]
  | cons n ns ih =>
    have h1 := h n (List.mem_cons_self ..)
    have h2 := ih (fun x hx => h x (List.mem_cons_of_mem _ hx))
    have h3 : (digs n).length ≤ 10 := digs_len10 (by omega)
    have h4 : encN (n :: ns) = bys (digs n) ++ encN ns := by simp [encN]
    rw [h4, List.length_append, bys_len, List.length_cons]; omega
theorem encI_len {l : List Int} (h : ∀ z ∈ l, -9223372036854775808 ≤ z ∧ z ≤ 9223372036854775807) (hl : l.length ≤ 1000) : (encI l).length ≤ 10 * l.length + 10 := by
  have key : ∀ l : List Int, (∀ z ∈ l, -9223372036854775808 ≤ z ∧ z ≤ 9223372036854775807) → ((l.map zg).flatMap digs).length ≤ 10 * l.length := by
    intro l
    induction l with
    | nil => intro _; simp
    | cons x l ih =>
      intro h
      have h1 := h x (List.mem_cons_self ..)
      have h2 := ih (fun y hy => h y (List.mem_cons_of_mem _ hy))
      have hg := zg_range h1.1 h1.2
      have h3 : (digs (zg x)).length ≤ 10 := digs_len10 (by omega)
      rw [List.map_cons, List.flatMap_cons, List.length_append, List.length_cons]; omega
  have h1 := key l h
  have h3 : (digs (l.length : Int)).length ≤ 10 := digs_len10 (by omega)
  unfold encI
  rw [List.length_append, bys_len, bys_len]; omega
end Go.Proofs.Ytkepnjnindolbaa.s05
