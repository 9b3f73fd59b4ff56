/-
  Layer 13: the program's Check at every look; checkAll. Layer 13: copy into a look's places; boxes that were just made. Layer 13: the reference's Check, both. Layer 13: the program's Of. Layer 13: the program's Cut and List. stenotypekit over lists of numbers: OwnInts, SameInts. Layer 13: the reference's Of and List. Layer 13: the program's List (slices.Clone). Layer 13: the program's Join. Layer 13: what the functions say, of looks by their cells.
-/
import Derived.Test.YtdahaajfkjmflaaG02
import Derived.Laws.IdiomCopy
import Derived.Test.YtdahaajfkjmflaaG01
import Derived.BigRegion
namespace Go.Proofs.Ytdahaajfkjmflaa.s13
set_option linter.unusedVariables false
set_option linter.unusedSimpArgs false
open Go.RowKit
open kit

theorem pl_lt {a b c d t : Int} {N : Nat} (h : ∀ i, i < N → 0 ≤ pl a b c d i ∧ pl a b c d i < t) : (0 < N → 0 ≤ a ∧ a < t) ∧ (1 < N → 0 ≤ b ∧ b < t) ∧ (2 < N → 0 ≤ c ∧ c < t) ∧ (3 < N → 0 ≤ d ∧ d < t) :=
  ⟨fun k => h 0 k, fun k => h 1 k, fun k => h 2 k, fun k => h 3 k⟩
theorem pcheck_any (n a b c d t r : Int) (w : World) (H : Hid (chkP n a b c d t = r)) : Calls Try.prog 41 #[.agg #[.int .i64 n, .int .i64 a, .int .i64 b, .int .i64 c, .int .i64 d], .int .i64 t] w fun e w' => e = .returned (.int .i64 r) ∧ Below w.heap.size w w' := by
  have h := H.out
  unfold chkP at h
  by_cases ht : t < 1 ∨ 8 < t
  · rw [if_pos ht] at h; subst h
    exact check_terms n a b c d t w ht
  · rw [if_neg ht] at h
    by_cases hn : n < 0 ∨ 4 < n
    · rw [if_pos hn] at h; subst h
      exact check_length n a b c d t w (by omega) (by omega) hn
    · rw [if_neg hn] at h
      obtain ⟨N, rfl⟩ : ∃ N : Nat, n = N := ⟨n.toNat, by omega⟩
      by_cases hf : ((N : Int) ≤ 0 ∧ a ≠ 0) ∨ ((N : Int) ≤ 1 ∧ b ≠ 0) ∨ ((N : Int) ≤ 2 ∧ c ≠ 0) ∨ ((N : Int) ≤ 3 ∧ d ≠ 0)
      · rw [if_pos hf] at h; subst h
        obtain ⟨a', b', c', d', e, e1, e2, e3, e4⟩ := cutP_self N a b c d
        refine check_form N a b c d a' b' c' d' t w (by omega) (by omega) (by omega) (Lib.hid e) ?_
        rintro ⟨f1, f2, f3, f4⟩
        subst f1 f2 f3 f4
        rcases hf with ⟨k, hk⟩ | ⟨k, hk⟩ | ⟨k, hk⟩ | ⟨k, hk⟩
        · rw [if_neg (by omega)] at e1; exact hk e1
        · rw [if_neg (by omega)] at e2; exact hk e2
        · rw [if_neg (by omega)] at e3; exact hk e3
        · rw [if_neg (by omega)] at e4; exact hk e4
      · rw [if_neg hf] at h
        have e : cutP N N a b c d = (N, a, b, c, d) := by
          obtain ⟨a', b', c', d', e, e1, e2, e3, e4⟩ := cutP_self N a b c d
          rw [e]
          have g1 : a' = a := by by_cases k : 0 < N <;> simp [k] at e1 <;> omega
          have g2 : b' = b := by by_cases k : 1 < N <;> simp [k] at e2 <;> omega
          have g3 : c' = c := by by_cases k : 2 < N <;> simp [k] at e3 <;> omega
          have g4 : d' = d := by by_cases k : 3 < N <;> simp [k] at e4 <;> omega
          rw [g1, g2, g3, g4]
        refine check_places N a b c d t r w (by omega) (by omega) (by omega) (Lib.hid e) (Lib.hid fun i hi hb => ?_) (Lib.hid fun hk => ?_)
        · rw [← h]
          refine if_pos ?_
          have hm : i = 0 ∨ i = 1 ∨ i = 2 ∨ i = 3 := by omega
          rcases hm with rfl | rfl | rfl | rfl
          · exact .inl ⟨by omega, hb⟩
          · exact .inr (.inl ⟨by omega, hb⟩)
          · exact .inr (.inr (.inl ⟨by omega, hb⟩))
          · exact .inr (.inr (.inr ⟨by omega, hb⟩))
        · obtain ⟨k1, k2, k3, k4⟩ := pl_lt hk
          rw [← h]
          exact if_neg (by omega)
/-- what checkAll says: the first error -/
def chkAll : List V5 → Int
  | [] => 0
  | x :: l => if chkP x.1 x.2.1 x.2.2.1 x.2.2.2.1 x.2.2.2.2 8 = 0 then chkAll l else chkP x.1 x.2.1 x.2.2.1 x.2.2.2.1 x.2.2.2.2 8
set_option maxRecDepth 100000 in
set_option maxHeartbeats 2000000 in
theorem checkall_any (a : Option Addr) (cp : Nat) (l : List V5) (w : World) (hl : l.length ≤ 1000) (r : Int) (hr : Hid (Reads5 w a l)) (H : Hid (chkAll l = r)) : Calls Try.prog 81 #[.slice a l.length cp] w fun e w' => e = .returned (.int .i64 r) ∧ Below w.heap.size w w' := by
  go_enter Try.func81, Try.ntmps81
  go_wp2
  go_loopw [8] (fun i wr => ∃ k : Nat, i = .int .i64 k ∧ k ≤ l.length ∧ Hid (chkAll (l.drop k) = r) ∧ Hid (Below w.heap.size w wr)) (fun i _ => l.length - (intOf i).toNat)
  case atStart => exact ⟨0, rfl, by omega, H, Lib.hid (Below.refl _ _)⟩
  case round =>
    obtain ⟨k, rfl, hk, HK, HB⟩ := hrel
    by_cases hlt : k < l.length
    · obtain ⟨b, off, rfl, hb, c0, c1, c2, c3, c4⟩ := (hr.out.below HB.out) k hlt
      have hd : l.drop k = (l[k]?.getD no5) :: l.drop (k + 1) := by rw [List.getElem?_eq_getElem hlt]; exact List.drop_eq_getElem_cons hlt
      have HD := HK.out
      rw [hd] at HD
      have HBs := HB.out.size
      generalize l[k]?.getD no5 = x at c0 c1 c2 c3 c4 HD
      obtain ⟨n, x0, x1, x2, x3⟩ := x
      simp only at c0 c1 c2 c3 c4
      unfold chkAll at HD
      simp only at HD
      clear hd
      by_cases hz : chkP n x0 x1 x2 x3 8 = 0
      · rw [if_pos hz] at HD
        have HZ := Lib.hid hz
        have HD2 := Lib.hid HD
        clear hz HD
        go_wp2_with (go_at_call 41; refine (pcheck_any n x0 x1 x2 x3 8 0 _ HZ).mono ?_; rintro e w1 ⟨rfl, hB⟩; have B1 := Lib.hid (below_on (HB.out.alloc HBs (.cells #[.int .i64 n, .int .i64 x0, .int .i64 x1, .int .i64 x2, .int .i64 x3] 25)) (Nat.le_refl _) hB); clear hB)
        go_roundw
        case rel => exact ⟨k + 1, by go_num, by omega, HD2, B1⟩
        case measure => simp [intOf]; omega
      · rw [if_neg hz] at HD
        have hz2 : (r != 0) = true := by rw [HD] at hz; simpa using hz
        have HZ := Lib.hid HD
        clear hz HD
        go_wp2_with (go_at_call 41; refine (pcheck_any n x0 x1 x2 x3 8 r _ HZ).mono ?_; rintro e w1 ⟨rfl, hB⟩; have B1 := Lib.hid (below_on (HB.out.alloc HBs (.cells #[.int .i64 n, .int .i64 x0, .int .i64 x1, .int .i64 x2, .int .i64 x3] 25)) (Nat.le_refl _) hB); clear hB)
        go_ret
        exact ⟨rfl, B1.out⟩
    · obtain rfl : k = l.length := by omega
      have h0 := HK.out
      rw [List.drop_length] at h0
      have H0 := Lib.hid h0
      clear h0
      go_wp2
      go_ret
      exact ⟨ret_int H0.out, HB.out⟩
/-- one look, in a row of its own -/
theorem checkall_one (n a b c d r : Int) (g : Nat) (w : World) (X : Box w 25 g #[.int .i64 n, .int .i64 a, .int .i64 b, .int .i64 c, .int .i64 d]) (H : Hid (chkP n a b c d 8 = r)) : Calls Try.prog 81 #[.slice (some ⟨g, 0, none⟩) 1 1] w fun e w' => e = .returned (.int .i64 r) ∧ Below w.heap.size w w' :=
  checkall_any _ 1 [(n, a, b, c, d)] w (by simp) r (Lib.hid (reads5_block X rfl)) (Lib.hid (by
    unfold chkAll
    by_cases h : chkP n a b c d 8 = 0
    · rw [if_pos h]; unfold chkAll; rw [← H.out, h]
    · rw [if_neg h]; exact H.out))
/-- two looks -/
theorem checkall_two (n a b c d n' a' b' c' d' r : Int) (g : Nat) (w : World) (X : w.heap[g]? = some (.cells #[.int .i64 n, .int .i64 a, .int .i64 b, .int .i64 c, .int .i64 d, .int .i64 n', .int .i64 a', .int .i64 b', .int .i64 c', .int .i64 d'] 25 (0, 0)))
    (H : Hid ((if chkP n a b c d 8 = 0 then chkP n' a' b' c' d' 8 else chkP n a b c d 8) = r)) : Calls Try.prog 81 #[.slice (some ⟨g, 0, none⟩) 2 2] w fun e w' => e = .returned (.int .i64 r) ∧ Below w.heap.size w w' :=
  checkall_any _ 2 [(n, a, b, c, d), (n', a', b', c', d')] w (by simp) r (Lib.hid (reads5_block X rfl)) (Lib.hid (by
    have h9 := H.out
    unfold chkAll
    by_cases h : chkP n a b c d 8 = 0
    · rw [if_pos h] at h9 ⊢
      unfold chkAll
      by_cases k : chkP n' a' b' c' d' 8 = 0
      · rw [if_pos k]; unfold chkAll; rw [← h9, k]
      · rw [if_neg k]; exact h9
    · rw [if_neg h] at h9 ⊢; exact h9))
end Go.Proofs.Ytdahaajfkjmflaa.s13

namespace Go.Proofs.Ytdahaajfkjmflaa.s13
set_option linter.unusedVariables false
set_option linter.unusedSimpArgs false
open Go.RowKit
open kit

/-- places with one set -/
def upd (f : Nat → Int) (i : Nat) (v : Int) : Nat → Int := fun j => if j = i then v else f j
theorem b5_set {w : World} {t : TypeId} {g : Nat} {x : Value} {f : Nat → Int} (X : Box w t g #[x, .int .i64 (f 0), .int .i64 (f 1), .int .i64 (f 2), .int .i64 (f 3)]) (i : Nat) (hi : i < 4) (v : Int) :
    Box (w.setCell ⟨g, 1 + i, none⟩ (.int .i64 v)) t g #[x, .int .i64 (upd f i v 0), .int .i64 (upd f i v 1), .int .i64 (upd f i v 2), .int .i64 (upd f i v 3)] := by
  have hm : i = 0 ∨ i = 1 ∨ i = 2 ∨ i = 3 := by omega
  rcases hm with rfl | rfl | rfl | rfl
  · exact X.set 1 (by simp) _
  · exact X.set 2 (by simp) _
  · exact X.set 3 (by simp) _
  · exact X.set 4 (by simp) _
/-- a row of numbers laid over places, from m on -/
def over (f : Nat → Int) (m : Nat) (zs : List Int) : Nat → Int := fun j => if m ≤ j ∧ j < m + zs.length then zs[j - m]?.getD 0 else f j
theorem over_cons (f : Nat → Int) (m : Nat) (z : Int) (zs : List Int) : over f m (z :: zs) = over (upd f m z) (m + 1) zs := by
  funext j
  unfold over upd
  by_cases e : j = m
  · subst e; simp; intro h; omega
  · by_cases h : m ≤ j ∧ j < m + (z :: zs).length
    · simp only [List.length_cons] at h
      rw [if_pos (by simpa using h), if_pos (by omega)]
      rw [show j - m = (j - (m + 1)) + 1 by omega, List.getElem?_cons_succ]
    · simp only [List.length_cons] at h
      rw [if_neg (by simpa using h), if_neg (by omega), if_neg e]
theorem over_nil (f : Nat → Int) (m : Nat) : over f m [] = f := by
  funext j; unfold over; rw [if_neg (by simp only [List.length_nil]; omega)]
theorem b5_over {t : TypeId} {g : Nat} {x : Value} : ∀ (zs : List Int) (m : Nat) (f : Nat → Int) (w : World), m + zs.length ≤ 4 → Box w t g #[x, .int .i64 (f 0), .int .i64 (f 1), .int .i64 (f 2), .int .i64 (f 3)] →
    Box (w.setCells g (1 + m) (zs.map (Value.int .i64))) t g #[x, .int .i64 (over f m zs 0), .int .i64 (over f m zs 1), .int .i64 (over f m zs 2), .int .i64 (over f m zs 3)]
  | [], m, f, w, _, X => by rw [over_nil]; exact X
  | z :: zs, m, f, w, h, X => by
    simp only [List.length_cons] at h
    have := b5_over (t := t) (g := g) (x := x) zs (m + 1) (upd f m z) (w.setCell ⟨g, 1 + m, none⟩ (.int .i64 z)) (by omega) (b5_set X m (by omega) z)
    rw [over_cons]
    simpa [World.setCells, Nat.add_assoc] using this
theorem cells_other {t : TypeId} {g g' : Nat} {xs : Array Value} (hne : g' ≠ g) : ∀ (vs : List Value) (o : Nat) (w : World), Box w t g' xs → Box (w.setCells g o vs) t g' xs
  | [], _, _, h => h
  | v :: r, o, w, h => cells_other hne r (o + 1) _ (h.other hne v)
theorem cells_below {B g : Nat} {w0 : World} (hB : B ≤ g) : ∀ (vs : List Value) (o : Nat) (w : World), Below B w0 w → Below B w0 (w.setCells g o vs)
  | [], _, _, h => h
  | v :: r, o, w, h => cells_below hB r (o + 1) _ (h.setCell (p := ⟨g, o, none⟩) hB v)
theorem cells_size {g : Nat} : ∀ (vs : List Value) (o : Nat) (w : World), (w.setCells g o vs).heap.size = w.heap.size
  | [], _, _ => rfl
  | v :: r, o, w => (cells_size r (o + 1) _).trans (by simp)
/-- copy into a look, from place m on: zs are the numbers that go over -/
theorem copy_box {w : World} {g : Nat} {x : Value} {f : Nat → Int} (X : Box w 25 g #[x, .int .i64 (f 0), .int .i64 (f 1), .int .i64 (f 2), .int .i64 (f 3)]) (m dLen dCap : Nat) (dst src : Option Addr) (sLen sCap : Nat) (zs : List Int)
    (hn : zs.length = Nat.min sLen dLen) (hm : m + zs.length ≤ 4) (hr : Reads (Value.int .i64) 0 w src zs) (hdst : dLen = 0 ∨ dst = some ⟨g, 1 + m, none⟩) :
    ∃ W, (∀ ty, (Builtin.copy_ #[47, 47] ty #[.slice dst dLen dCap, .slice src sLen sCap]).run Try.prog w = .ok (.int .i64 zs.length) W) ∧
      Box W 25 g #[x, .int .i64 (over f m zs 0), .int .i64 (over f m zs 1), .int .i64 (over f m zs 2), .int .i64 (over f m zs 3)] ∧
      (∀ t' g' xs, g' ≠ g → Box w t' g' xs → Box W t' g' xs) ∧ (∀ B w0, B ≤ g → Below B w0 w → Below B w0 W) ∧ W.heap.size = w.heap.size := by
  have hs : (Try.prog.info? 3).map (·.size) = some 1 := by kernel_rfl
  rcases Nat.eq_zero_or_pos zs.length with h0 | hpos
  · have hz : zs = [] := List.length_eq_zero_iff.1 h0
    subst hz
    refine ⟨w, fun ty => ?_, by rw [over_nil]; exact X, fun _ _ _ _ h => h, fun _ _ _ h => h, rfl⟩
    exact run_copy_none w 47 47 ty 3 dst src dLen dCap sLen sCap Try.underlying47 hs (by simpa using hn.symm)
  · obtain ⟨b, off, rfl, hb, _⟩ := hr 0 hpos
    obtain rfl : dst = some ⟨g, 1 + m, none⟩ := by
      rcases hdst with h | h
      · rw [h] at hn
        have h0 : zs.length = 0 := hn.trans (Nat.min_eq_right (Nat.zero_le _))
        omega
      · exact h
    refine ⟨w.setCells g (1 + m) (zs.map (Value.int .i64)), fun ty => ?_, b5_over zs m f w hm X, fun t' g' xs hne h => cells_other hne _ _ _ h, fun B w0 hB h => cells_below hB _ _ _ h, cells_size _ _ _⟩
    have h := run_copy_cells (P := Try.prog) w 47 47 ty 3 g (1 + m) dLen dCap ⟨b, off, none⟩ sLen sCap (zs.map (Value.int .i64)) Try.underlying47 hs (by simpa using hn)
      (fun j v hj => by
        rw [List.getElem?_map] at hj
        have hjl : j < zs.length := by
          rcases Nat.lt_or_ge j zs.length with h | h
          · exact h
          · rw [List.getElem?_eq_none h] at hj; cases hj
        obtain ⟨b', off', e, _, hc⟩ := hr j hjl
        cases e
        rw [Go.WideShapes.add_plain, hc]
        rw [List.getElem?_eq_getElem hjl] at hj ⊢
        simpa using hj)
      (fun j hj => by
        rw [List.length_map] at hj
        rw [show 1 + m + j = 1 + (m + j) by omega]
        have := X.cell (1 + (m + j))
        have hm4 : m + j = 0 ∨ m + j = 1 ∨ m + j = 2 ∨ m + j = 3 := by omega
        rcases hm4 with e | e | e | e <;> rw [e] at this ⊢ <;> rw [this] <;> rfl)
      (fun j hj => X.free _)
      (fun v hv => by obtain ⟨z, _, rfl⟩ := List.mem_map.1 hv; rfl)
    rw [List.length_map] at h
    exact h
theorem size1 (w : World) (o : Obj) : (w.alloc o).heap.size = w.heap.size + 1 := Array.size_push ..
theorem new2 (w : World) (o : Obj) (t : TypeId) (xs : Array Value) : Box ((w.alloc o).alloc (.cells xs t)) t (w.heap.size + 1) xs := by
  have := Box.new (w.alloc o) t xs; rwa [size1] at this
theorem new3 (w : World) (o o' : Obj) (t : TypeId) (xs : Array Value) : Box (((w.alloc o).alloc o').alloc (.cells xs t)) t (w.heap.size + 1 + 1) xs := by
  have := new2 (w.alloc o) o' t xs; rwa [size1] at this
theorem new4 (w : World) (o o' o'' : Obj) (t : TypeId) (xs : Array Value) : Box ((((w.alloc o).alloc o').alloc o'').alloc (.cells xs t)) t (w.heap.size + 1 + 1 + 1) xs := by
  have := new3 (w.alloc o) o' o'' t xs; rwa [size1] at this
/-- what a block that was made before a call holds behind it -/
theorem made1 {w w1 : World} {t : TypeId} {xs : Array Value} (hB : Below (w.alloc (.cells xs t)).heap.size (w.alloc (.cells xs t)) w1) : Box w1 t w.heap.size xs ∧ Below w.heap.size w w1 :=
  ⟨(Box.new w t xs).below hB, below_on ((Below.refl w.heap.size w).alloc (Nat.le_refl _) _) (Nat.le_refl _) hB⟩
theorem made2 {w w1 : World} {t t' : TypeId} {xs ys : Array Value} (hB : Below ((w.alloc (.cells xs t)).alloc (.cells ys t')).heap.size ((w.alloc (.cells xs t)).alloc (.cells ys t')) w1) : Box w1 t w.heap.size xs ∧ Box w1 t' (w.heap.size + 1) ys ∧ Below w.heap.size w w1 := by
  have Y := Box.new (w.alloc (.cells xs t)) t' ys
  rw [show (w.alloc (.cells xs t)).heap.size = w.heap.size + 1 from Array.size_push ..] at Y
  exact ⟨((Box.new w t xs).alloc _).below hB, Y.below hB, below_on (((Below.refl w.heap.size w).alloc (Nat.le_refl _) _).alloc (by simp) _) (Nat.le_refl _) hB⟩
theorem made3 {w w1 : World} {t t' t'' : TypeId} {xs ys zs : Array Value} (hB : Below (((w.alloc (.cells xs t)).alloc (.cells ys t')).alloc (.cells zs t'')).heap.size (((w.alloc (.cells xs t)).alloc (.cells ys t')).alloc (.cells zs t'')) w1) :
    Box w1 t w.heap.size xs ∧ Box w1 t' (w.heap.size + 1) ys ∧ Box w1 t'' (w.heap.size + 1 + 1) zs ∧ Below w.heap.size w w1 := by
  have Y := Box.new (w.alloc (.cells xs t)) t' ys
  rw [show (w.alloc (.cells xs t)).heap.size = w.heap.size + 1 from Array.size_push ..] at Y
  have Z := Box.new ((w.alloc (.cells xs t)).alloc (.cells ys t')) t'' zs
  rw [show ((w.alloc (.cells xs t)).alloc (.cells ys t')).heap.size = w.heap.size + 1 + 1 by rw [show ((w.alloc (.cells xs t)).alloc (.cells ys t')).heap.size = (w.alloc (.cells xs t)).heap.size + 1 from Array.size_push ..]; rw [show (w.alloc (.cells xs t)).heap.size = w.heap.size + 1 from Array.size_push ..]] at Z
  exact ⟨(((Box.new w t xs).alloc _).alloc _).below hB, (Y.alloc _).below hB, Z.below hB, below_on ((((Below.refl w.heap.size w).alloc (Nat.le_refl _) _).alloc (by simp) _).alloc (by simp; omega) _) (Nat.le_refl _) hB⟩
/-- a list's length and places -/
def pad5 (l : List Int) : V5 := ((l.length : Int), l[0]?.getD 0, l[1]?.getD 0, l[2]?.getD 0, l[3]?.getD 0)
theorem pad5_of {l : List Int} {N : Nat} {a b c d : Int} (h : pad5 l = ((N : Int), a, b, c, d)) : pad l = (N, a, b, c, d) := by
  simp only [pad5, pad, Prod.mk.injEq] at h ⊢
  refine ⟨by omega, h.2⟩
theorem pad5_inj {l m : List Int} (hl : l.length ≤ 4) (h : pad5 l = pad5 m) : l = m := pad_inj hl (by
  simp only [pad5, pad, Prod.mk.injEq] at h ⊢
  exact ⟨by omega, h.2⟩)
theorem pad5_look {n a b c d t : Int} (h : chkP n a b c d t = 0) : ∃ l, okL t l ∧ pad5 l = (n, a, b, c, d) := by
  obtain ⟨l, h1, h2, h3⟩ := chkP_look h
  refine ⟨l, h1, ?_⟩
  simp only [pad5, pad, Prod.mk.injEq] at h2 ⊢
  exact ⟨by omega, h2.2⟩
theorem pad5_chk {t : Int} {l : List Int} {n a b c d : Int} (h : okL t l) (t1 : 1 ≤ t) (t2 : t ≤ 8) (hp : pad5 l = (n, a, b, c, d)) : chkP n a b c d t = 0 := by
  simp only [pad5, Prod.mk.injEq] at hp
  obtain ⟨rfl, rfl, rfl, rfl, rfl⟩ := hp
  exact okL_chk h t1 t2 rfl
theorem pad5_pl {l : List Int} {n a b c d : Int} (hl : l.length ≤ 4) (hp : pad5 l = (n, a, b, c, d)) (i : Nat) : pl a b c d i = l[i]?.getD 0 := by
  simp only [pad5, Prod.mk.injEq] at hp
  obtain ⟨_, rfl, rfl, rfl, rfl⟩ := hp
  unfold pl
  split
  · next h => subst h; rfl
  · split
    · next h => subst h; rfl
    · split
      · next h => subst h; rfl
      · split
        · next h => subst h; rfl
        · rw [List.getElem?_eq_none (by omega)]; rfl
/-- places by number give a list's -/
theorem pad5_over {l : List Int} (hl : l.length ≤ 4) {f : Nat → Int} (h : ∀ i, i < 4 → f i = l[i]?.getD 0) : pad5 l = ((l.length : Int), f 0, f 1, f 2, f 3) := by
  unfold pad5; rw [h 0 (by omega), h 1 (by omega), h 2 (by omega), h 3 (by omega)]
theorem made4 {w w1 : World} {t t' t'' t3 : TypeId} {xs ys zs us : Array Value} (hB : Below ((((w.alloc (.cells xs t)).alloc (.cells ys t')).alloc (.cells zs t'')).alloc (.cells us t3)).heap.size ((((w.alloc (.cells xs t)).alloc (.cells ys t')).alloc (.cells zs t'')).alloc (.cells us t3)) w1) :
    Box w1 t w.heap.size xs ∧ Box w1 t' (w.heap.size + 1) ys ∧ Box w1 t'' (w.heap.size + 1 + 1) zs ∧ Below w.heap.size w w1 :=
  ⟨((((Box.new w t xs).alloc _).alloc _).alloc _).below hB, (((new2 w _ t' ys).alloc _).alloc _).below hB, ((new3 w _ _ t'' zs).alloc _).below hB, below_on (((((Below.refl w.heap.size w).alloc (Nat.le_refl _) _).alloc (by simp) _).alloc (by simp; omega) _).alloc (by simp; omega) _) (Nat.le_refl _) hB⟩
end Go.Proofs.Ytdahaajfkjmflaa.s13

namespace Go.Proofs.Ytdahaajfkjmflaa.s13
set_option linter.unusedVariables false
set_option linter.unusedSimpArgs false
open Go.RowKit
open kit

theorem chkP_form {N : Nat} {a b c d t : Int} (t1 : 1 ≤ t) (t2 : t ≤ 8) (hN : N ≤ 4) (i : Nat) (h1 : N ≤ i) (h2 : i < 4) (h : pl a b c d i ≠ 0) : chkP N a b c d t = 3 := by
  unfold chkP
  rw [if_neg (by omega), if_neg (by omega)]
  refine if_pos ?_
  have hm : i = 0 ∨ i = 1 ∨ i = 2 ∨ i = 3 := by omega
  rcases hm with rfl | rfl | rfl | rfl
  · exact .inl ⟨by omega, h⟩
  · exact .inr (.inl ⟨by omega, h⟩)
  · exact .inr (.inr (.inl ⟨by omega, h⟩))
  · exact .inr (.inr (.inr ⟨by omega, h⟩))
theorem pl_zero {N : Nat} {a b c d : Int} (h : ∀ i, N ≤ i → i < 4 → pl a b c d i = 0) : (N ≤ 0 → a = 0) ∧ (N ≤ 1 → b = 0) ∧ (N ≤ 2 → c = 0) ∧ (N ≤ 3 → d = 0) :=
  ⟨fun k => h 0 k (by omega), fun k => h 1 k (by omega), fun k => h 2 k (by omega), fun k => h 3 k (by omega)⟩
theorem chkP_sym {N : Nat} {a b c d t : Int} (t1 : 1 ≤ t) (t2 : t ≤ 8) (hN : N ≤ 4) (hz : ∀ i, N ≤ i → i < 4 → pl a b c d i = 0) (i : Nat) (h1 : i < N) (h : pl a b c d i < 0 ∨ t ≤ pl a b c d i) : chkP N a b c d t = 14 := by
  obtain ⟨z0, z1, z2, z3⟩ := pl_zero hz
  unfold chkP
  rw [if_neg (by omega), if_neg (by omega), if_neg (by omega)]
  refine if_pos ?_
  have hm : i = 0 ∨ i = 1 ∨ i = 2 ∨ i = 3 := by omega
  rcases hm with rfl | rfl | rfl | rfl
  · exact .inl ⟨by omega, h⟩
  · exact .inr (.inl ⟨by omega, h⟩)
  · exact .inr (.inr (.inl ⟨by omega, h⟩))
  · exact .inr (.inr (.inr ⟨by omega, h⟩))
theorem chkP_fine {N : Nat} {a b c d t : Int} (t1 : 1 ≤ t) (t2 : t ≤ 8) (hN : N ≤ 4) (hz : ∀ i, N ≤ i → i < 4 → pl a b c d i = 0) (h : ∀ i, i < N → 0 ≤ pl a b c d i ∧ pl a b c d i < t) : chkP N a b c d t = 0 := by
  obtain ⟨z0, z1, z2, z3⟩ := pl_zero hz
  obtain ⟨k1, k2, k3, k4⟩ := pl_lt h
  unfold chkP
  rw [if_neg (by omega), if_neg (by omega), if_neg (by omega), if_neg (by omega)]
set_option maxRecDepth 100000 in
set_option maxHeartbeats 2000000 in
theorem rcheck_any (n a b c d t r : Int) (w : World) (H : Hid (chkP n a b c d t = r)) : Calls Try.prog 44 #[.agg #[.int .i64 n, .int .i64 a, .int .i64 b, .int .i64 c, .int .i64 d], .int .i64 t] w fun e w' => e = .returned (.int .i64 r) ∧ Below w.heap.size w w' := by
  have h := H.out
  unfold chkP at h
  have B := Lib.hid ((Below.refl w.heap.size w).alloc (Nat.le_refl _) (.cells #[.int .i64 n, .int .i64 a, .int .i64 b, .int .i64 c, .int .i64 d] 25))
  by_cases ht : t < 1 ∨ 8 < t
  · rw [if_pos ht] at h; subst h
    by_cases h1 : t < 1
    · clear ht
      go_enter Try.func44, Try.ntmps44
      go_wp2
      go_ret
      exact ⟨rfl, B.out⟩
    · have h2 : 8 < t := by omega
      have h3 : decide (t < 1) = false := decide_eq_false h1
      clear ht h1
      go_enter Try.func44, Try.ntmps44
      go_wp2
      go_ret
      exact ⟨rfl, B.out⟩
  · rw [if_neg ht] at h
    have t1 : 1 ≤ t := by omega
    have t2 : t ≤ 8 := by omega
    have t3 : decide (t < 1) = false := decide_eq_false (by omega)
    have t4 : decide (8 < t) = false := decide_eq_false (by omega)
    clear ht
    by_cases hn : n < 0 ∨ 4 < n
    · rw [if_pos hn] at h; subst h
      by_cases h1 : n < 0
      · clear hn
        go_enter Try.func44, Try.ntmps44
        go_wp2
        go_ret
        exact ⟨rfl, B.out⟩
      · have h2 : 4 < n := by omega
        have h3 : decide (n < 0) = false := decide_eq_false h1
        clear hn h1
        go_enter Try.func44, Try.ntmps44
        go_wp2
        go_ret
        exact ⟨rfl, B.out⟩
    · rw [if_neg hn] at h
      obtain ⟨N, rfl⟩ : ∃ N : Nat, n = N := ⟨n.toNat, by omega⟩
      have hN : N ≤ 4 := by omega
      have n1 : (0 : Int) ≤ N := by omega
      have n2 : (N : Int) ≤ 4 := by omega
      have n3 : decide ((N : Int) < 0) = false := decide_eq_false (by omega)
      have n4 : decide (4 < (N : Int)) = false := decide_eq_false (by omega)
      clear hn
      have X := Box.new w 25 #[.int .i64 N, .int .i64 a, .int .i64 b, .int .i64 c, .int .i64 d]
      have YP := Lib.hid X.place
      clear h
      generalize hW : w.alloc (.cells #[.int .i64 N, .int .i64 a, .int .i64 b, .int .i64 c, .int .i64 d] 25) = W at X YP B
      have HW := Lib.hid hW
      have HX := Lib.hid X
      clear X hW
      go_enter Try.func44, Try.ntmps44
      go_wp2
      rw [HW.out]
      clear HW
      have c0 := HX.out.cell 0
      simp at c0
      go_loop [5] (fun i => ∃ k : Nat, i = .int .i64 k ∧ N ≤ k ∧ k ≤ 4 ∧ Hid (∀ j, N ≤ j → j < k → pl a b c d j = 0)) (fun i => 4 - (intOf i).toNat)
      case atStart => exact ⟨N, rfl, by omega, hN, Lib.hid (fun j h1 h2 => by omega)⟩
      case round =>
        obtain ⟨k, rfl, hk1, hk2, HK⟩ := hrel
        by_cases hlt : k < 4
        · have hc := YP.out k hlt
          have hf := Lib.hid (fun h => chkP_form (a := a) (b := b) (c := c) (d := d) t1 t2 hN k hk1 hlt h)
          have hs := Lib.hid (fun h : pl a b c d k = 0 => (fun j (h1 : N ≤ j) (h2 : j < k + 1) => if e : j = k then e ▸ h else HK.out j h1 (by omega) : ∀ j, N ≤ j → j < k + 1 → pl a b c d j = 0))
          generalize pl a b c d k = x at hc hf hs
          by_cases hx : x = 0
          · have HXX := Lib.hid (hs.out hx)
            subst hx
            go_wp2
            go_round
            case rel => exact ⟨k + 1, by go_num, by omega, by omega, HXX⟩
            case measure => simp [intOf]; omega
          · have HF := Lib.hid ((H.out.symm.trans (hf.out hx)).symm)
            have hx2 : (x != 0) = true := by simpa using hx
            clear hx
            go_wp2
            go_ret
            exact ⟨ret_int HF.out, B.out⟩
        · obtain rfl : k = 4 := by omega
          have HZ : Hid (∀ j, N ≤ j → j < 4 → pl a b c d j = 0) := HK
          clear HK hlt
          go_wp2
          go_loop [6] (fun i => ∃ k : Nat, i = .int .i64 k ∧ k ≤ N ∧ Hid (∀ j, j < k → 0 ≤ pl a b c d j ∧ pl a b c d j < t)) (fun i => N - (intOf i).toNat)
          case atStart => exact ⟨0, rfl, by omega, Lib.hid (fun j hj => by omega)⟩
          case round =>
            obtain ⟨k, rfl, hk, HK⟩ := hrel
            by_cases hlt : k < N
            · have hk4 : k < 4 := by omega
              have hc := YP.out k hk4
              have hbk := Lib.hid (fun h => H.out.symm.trans (chkP_sym (a := a) (b := b) (c := c) (d := d) t1 t2 hN HZ.out k hlt h))
              have hs := Lib.hid (fun h : 0 ≤ pl a b c d k ∧ pl a b c d k < t => (fun j (hj : j < k + 1) => if e : j = k then e ▸ h else HK.out j (by omega) : ∀ j, j < k + 1 → 0 ≤ pl a b c d j ∧ pl a b c d j < t))
              generalize pl a b c d k = x at hc hbk hs
              by_cases hx : x < 0
              · go_wp2
                go_ret
                exact ⟨ret_int (hbk.out (.inl hx)).symm, B.out⟩
              · have hx0 : decide (x < 0) = false := decide_eq_false hx
                have hxx : 0 ≤ x := by omega
                clear hx
                by_cases hx : t ≤ x
                · go_wp2
                  go_ret
                  exact ⟨ret_int (hbk.out (.inr hx)).symm, B.out⟩
                · have hx1 : x < t := by omega
                  have hx2 : decide (t ≤ x) = false := decide_eq_false hx
                  clear hx
                  go_wp2
                  go_round
                  case rel => exact ⟨k + 1, by go_num, by omega, Lib.hid (hs.out ⟨hxx, hx1⟩)⟩
                  case measure => simp [intOf]; omega
            · obtain rfl : k = N := by omega
              have HF := Lib.hid ((H.out.symm.trans (chkP_fine t1 t2 hN HZ.out HK.out)).symm)
              go_wp2
              go_ret
              exact ⟨ret_int HF.out, B.out⟩
/-- the error of two looks -/
def bothP (n a b c d n' a' b' c' d' : Int) : Int := if chkP n a b c d 8 = 0 then chkP n' a' b' c' d' 8 else chkP n a b c d 8
set_option maxRecDepth 100000 in
set_option maxHeartbeats 2000000 in
theorem rboth_any (n a b c d n' a' b' c' d' r : Int) (w : World) (H : Hid (bothP n a b c d n' a' b' c' d' = r)) : Calls Try.prog 85 #[.agg #[.int .i64 n, .int .i64 a, .int .i64 b, .int .i64 c, .int .i64 d], .agg #[.int .i64 n', .int .i64 a', .int .i64 b', .int .i64 c', .int .i64 d']] w fun e w' => e = .returned (.int .i64 r) ∧ Below w.heap.size w w' := by
  have h := H.out
  unfold bothP at h
  have X := (Box.new w 25 #[.int .i64 n, .int .i64 a, .int .i64 b, .int .i64 c, .int .i64 d]).alloc (.cells #[.int .i64 n', .int .i64 a', .int .i64 b', .int .i64 c', .int .i64 d'] 25)
  have Y := Box.new (w.alloc (.cells #[.int .i64 n, .int .i64 a, .int .i64 b, .int .i64 c, .int .i64 d] 25)) 25 #[.int .i64 n', .int .i64 a', .int .i64 b', .int .i64 c', .int .i64 d']
  rw [show (w.alloc (.cells #[.int .i64 n, .int .i64 a, .int .i64 b, .int .i64 c, .int .i64 d] 25)).heap.size = w.heap.size + 1 from Array.size_push ..] at Y
  have B := Lib.hid (((Below.refl w.heap.size w).alloc (Nat.le_refl _) (.cells #[.int .i64 n, .int .i64 a, .int .i64 b, .int .i64 c, .int .i64 d] 25)).alloc (by simp) (.cells #[.int .i64 n', .int .i64 a', .int .i64 b', .int .i64 c', .int .i64 d'] 25))
  generalize hW : (w.alloc (.cells #[.int .i64 n, .int .i64 a, .int .i64 b, .int .i64 c, .int .i64 d] 25)).alloc (.cells #[.int .i64 n', .int .i64 a', .int .i64 b', .int .i64 c', .int .i64 d'] 25) = W at X Y B
  have HW := Lib.hid hW
  have HY := Lib.hid Y
  obtain ⟨x0, x1, x2, x3, x4⟩ := X.cell5
  clear X Y hW
  by_cases hz : chkP n a b c d 8 = 0
  · rw [if_pos hz] at h
    have HZ := Lib.hid hz
    have HR := Lib.hid h
    clear hz h
    go_enter Try.func85, Try.ntmps85
    go_wp2_with (first
      | (go_at_call 44; rw [HW.out]; refine (rcheck_any n a b c d 8 0 _ HZ).mono ?_; rintro e w1 ⟨rfl, hB⟩; have B1 := Lib.hid (below_on B.out (Nat.le_refl _) hB); obtain ⟨y0, y1, y2, y3, y4⟩ := (HY.out.below hB).cell5; clear hB HW HZ x0 x1 x2 x3 x4)
      | (go_at_call 44; refine (rcheck_any n' a' b' c' d' 8 r _ HR).mono ?_; rintro e w2 ⟨rfl, hB⟩; have B2 := Lib.hid (below_on B1.out (Nat.le_refl _) hB); clear hB))
    go_ret
    exact ⟨rfl, B2.out⟩
  · rw [if_neg hz] at h
    have HR := Lib.hid h
    have hr0 : (r == 0) = false := by rw [h] at hz; simpa using hz
    clear hz h
    go_enter Try.func85, Try.ntmps85
    go_wp2_with (go_at_call 44; rw [HW.out]; refine (rcheck_any n a b c d 8 r _ HR).mono ?_; rintro e w1 ⟨rfl, hB⟩; have B1 := Lib.hid (below_on B.out (Nat.le_refl _) hB); clear hB HW x0 x1 x2 x3 x4)
    go_ret
    exact ⟨rfl, B1.out⟩
end Go.Proofs.Ytdahaajfkjmflaa.s13

namespace Go.Proofs.Ytdahaajfkjmflaa.s13
set_option linter.unusedVariables false
set_option linter.unusedSimpArgs false
open Go.RowKit
open kit

/-- what Of says -/
def ofP (l : List Int) : V5 × Int := if 4 < l.length then (no5, 6) else if (∀ x ∈ l, 0 ≤ x ∧ x < 8) then (pad5 l, 0) else (no5, 14)
/-- a result: a look and an error -/
abbrev LE (x : V5) (e : Int) : Value := .tuple #[.agg #[.int .i64 x.1, .int .i64 x.2.1, .int .i64 x.2.2.1, .int .i64 x.2.2.2.1, .int .i64 x.2.2.2.2], .int .i64 e]
theorem chkP_pad {l : List Int} (hl : l.length ≤ 4) : chkP l.length (l[0]?.getD 0) (l[1]?.getD 0) (l[2]?.getD 0) (l[3]?.getD 0) 8 = if (∀ x ∈ l, 0 ≤ x ∧ x < 8) then 0 else 14 := by
  by_cases h : ∀ x ∈ l, 0 ≤ x ∧ x < 8
  · rw [if_pos h]
    exact pad5_chk (l := l) (t := 8) ⟨hl, h⟩ (by omega) (by omega) rfl
  · rw [if_neg h]
    have hex : ∃ i, ∃ hi : i < l.length, ¬ (0 ≤ l[i] ∧ l[i] < 8) := by
      refine Classical.byContradiction fun hno => h fun x hx => ?_
      obtain ⟨i, hi, rfl⟩ := List.mem_iff_getElem.1 hx
      exact Classical.byContradiction fun hc => hno ⟨i, hi, hc⟩
    obtain ⟨i, hi, hbad⟩ := hex
    have hp := fun j => pad5_pl (l := l) hl (n := l.length) (a := l[0]?.getD 0) (b := l[1]?.getD 0) (c := l[2]?.getD 0) (d := l[3]?.getD 0) rfl j
    refine chkP_sym (by omega) (by omega) hl (fun j h1 h2 => ?_) i hi ?_
    · rw [hp j, List.getElem?_eq_none h1]; rfl
    · rw [hp i, List.getElem?_eq_getElem hi]
      simp only [Option.getD_some]
      omega
end Go.Proofs.Ytdahaajfkjmflaa.s13

namespace Go.Proofs.Ytdahaajfkjmflaa.s13
set_option linter.unusedVariables false
set_option linter.unusedSimpArgs false
open Go.RowKit
open kit

set_option maxRecDepth 100000 in
set_option maxHeartbeats 2000000 in
theorem pcut_bad (n a b c d k r : Int) (w : World) (HR : Hid (chkP n a b c d 8 = r)) (hr : (r != 0) = true) : Calls Try.prog 78 #[.agg #[.int .i64 n, .int .i64 a, .int .i64 b, .int .i64 c, .int .i64 d], .int .i64 k] w fun e w' => e = .returned (LE no5 r) ∧ Below w.heap.size w w' := by
  go_enter Try.func78, Try.ntmps78
  go_wp2_with (go_at_call 81; refine (checkall_one n a b c d r _ _ (new3 _ _ _ _ _) HR).mono ?_; rintro e w1 ⟨rfl, hB⟩; obtain ⟨X1, Y1, _, hB1⟩ := made3 hB; have B1 := Lib.hid hB1; have Y1 := Lib.hid Y1; clear hB hB1 X1; obtain ⟨v0, v1, v2, v3, v4⟩ := Y1.out.cell5; obtain ⟨g0, g1, g2, g3, g4⟩ := Y1.out.free5)
  obtain ⟨z0, z1, z2, z3, z4⟩ := (Y1.out.put5 (.int .i64 0) (.int .i64 0) (.int .i64 0) (.int .i64 0) (.int .i64 0)).cell5
  exact bodyPost_ret (v := .tuple #[.agg #[.int .i64 0, .int .i64 0, .int .i64 0, .int .i64 0, .int .i64 0], .int .i64 r]) (by simp [results, Try.results78, go_sem, z0, z1, z2, z3, z4]) rfl ⟨rfl, below_put5 B1.out (by omega) _ _ _ _ _⟩
set_option maxRecDepth 100000 in
set_option maxHeartbeats 2000000 in
theorem pcut_range (n a b c d k : Int) (w : World) (HR : Hid (chkP n a b c d 8 = 0)) (hk : k < 0 ∨ 4 < k) : Calls Try.prog 78 #[.agg #[.int .i64 n, .int .i64 a, .int .i64 b, .int .i64 c, .int .i64 d], .int .i64 k] w fun e w' => e = .returned (LE no5 2) ∧ Below w.heap.size w w' := by
  have HK := Lib.hid hk
  clear hk
  go_enter Try.func78, Try.ntmps78
  go_wp2_with (first
    | (go_at_call 81; refine (checkall_one n a b c d 0 _ _ (new3 _ _ _ _ _) HR).mono ?_; rintro e w1 ⟨rfl, hB⟩; obtain ⟨X1, Y1, _, hB1⟩ := made3 hB; have B1 := Lib.hid hB1; have Y1 := Lib.hid Y1; clear hB hB1 X1; obtain ⟨v0, v1, v2, v3, v4⟩ := Y1.out.cell5; obtain ⟨g0, g1, g2, g3, g4⟩ := Y1.out.free5)
    | (go_at_call 68; refine (islen_no k _ HK.out).mono ?_; rintro e w2 ⟨rfl, rfl⟩))
  obtain ⟨z0, z1, z2, z3, z4⟩ := (Y1.out.put5 (.int .i64 0) (.int .i64 0) (.int .i64 0) (.int .i64 0) (.int .i64 0)).cell5
  exact bodyPost_ret (v := .tuple #[.agg #[.int .i64 0, .int .i64 0, .int .i64 0, .int .i64 0, .int .i64 0], .int .i64 2]) (by simp [results, Try.results78, go_sem, z0, z1, z2, z3, z4]) rfl ⟨rfl, below_put5 B1.out (by omega) _ _ _ _ _⟩
set_option maxRecDepth 100000 in
set_option maxHeartbeats 2000000 in
theorem pcut_ok (N k : Nat) (a b c d : Int) (w : World) (HR : Hid (chkP N a b c d 8 = 0)) (hN : N ≤ 4) (hk : k ≤ 4) (m : Nat) (a' b' c' d' : Int) (H : Hid (cutP N k a b c d = (m, a', b', c', d'))) :
    Calls Try.prog 78 #[.agg #[.int .i64 N, .int .i64 a, .int .i64 b, .int .i64 c, .int .i64 d], .int .i64 k] w fun e w' => e = .returned (LE (m, a', b', c', d') 0) ∧ Below w.heap.size w w' := by
  have k1 : (0 : Int) ≤ k := by omega
  have k2 : (k : Int) ≤ 4 := by omega
  go_enter Try.func78, Try.ntmps78
  go_wp2_with (first
    | (go_at_call 81; refine (checkall_one N a b c d 0 _ _ (new3 _ _ _ _ _) HR).mono ?_; rintro e w1 ⟨rfl, hB⟩; obtain ⟨X1, Y1, _, hB1⟩ := made3 hB; have B1 := Lib.hid hB1; have Y1 := Lib.hid Y1; clear hB hB1; obtain ⟨x0, x1, x2, x3, x4⟩ := X1.cell5; clear X1)
    | (go_at_call 68; refine (islen_yes k _ k1 k2).mono ?_; rintro e w2 ⟨rfl, rfl⟩)
    | (go_at_call 69; refine (cut_any N k a b c d _ (by omega) m a' b' c' d' H).mono ?_; rintro e w3 ⟨rfl, hB⟩; have B3 := Lib.hid (below_on B1.out (Nat.le_refl _) hB); have Y3 := Lib.hid (Y1.out.below hB); clear hB; obtain ⟨v0, v1, v2, v3, v4⟩ := Y3.out.cell5; obtain ⟨g0, g1, g2, g3, g4⟩ := Y3.out.free5))
  obtain ⟨z0, z1, z2, z3, z4⟩ := (Y3.out.put5 (.int .i64 m) (.int .i64 a') (.int .i64 b') (.int .i64 c') (.int .i64 d')).cell5
  exact bodyPost_ret (v := .tuple #[.agg #[.int .i64 m, .int .i64 a', .int .i64 b', .int .i64 c', .int .i64 d'], .int .i64 0]) (by simp [results, Try.results78, go_sem, z0, z1, z2, z3, z4]) rfl ⟨rfl, below_put5 B3.out (by omega) _ _ _ _ _⟩
end Go.Proofs.Ytdahaajfkjmflaa.s13

namespace Go.Proofs.Ytdahaajfkjmflaa.kit
set_option linter.unusedVariables false
set_option linter.unusedSimpArgs false
open Go.RowKit

theorem info3 : (Try.prog.info? 3).map (fun i => (i.zero, i.size, i.bytes)) = some (some (.int .i64 0), 1, 8) := by kernel_rfl
end Go.Proofs.Ytdahaajfkjmflaa.kit

namespace Go.Proofs.Ytdahaajfkjmflaa.s13
set_option linter.unusedVariables false
set_option linter.unusedSimpArgs false
open Go.RowKit
open kit

theorem Box.under {w w1 : World} {t : TypeId} {b B : Nat} {xs : Array Value} (h : Box w t b xs) (hb : b < B) (hB : Below B w w1) : Box w1 t b xs := (hB.block b hb).trans h
end Go.Proofs.Ytdahaajfkjmflaa.s13

namespace Go.Proofs.Ytdahaajfkjmflaa.s13
set_option linter.unusedVariables false
set_option linter.unusedSimpArgs false
open Go.RowKit
open kit

theorem reads_places {w : World} {g : Nat} {x : Value} {a b c d : Int} {l : List Int} {n : Int} (X : Box w 25 g #[x, .int .i64 a, .int .i64 b, .int .i64 c, .int .i64 d]) (hl : l.length ≤ 4) (hp : pad5 l = (n, a, b, c, d)) : ReadsI w (some ⟨g, 1, none⟩) l := fun i hi =>
  ⟨g, 1, rfl, X.lt, by rw [X.place i (by omega), pad5_pl hl hp]⟩
end Go.Proofs.Ytdahaajfkjmflaa.s13

namespace Go.Proofs.Ytdahaajfkjmflaa.s13
set_option linter.unusedVariables false
set_option linter.unusedSimpArgs false
open Go.RowKit
open kit

theorem chkTwo (n a b c d n' a' b' c' d' : Int) : (if chkP n a b c d 8 = 0 then chkP n' a' b' c' d' 8 else chkP n a b c d 8) = bothP n a b c d n' a' b' c' d' := rfl
set_option maxRecDepth 100000 in
set_option maxHeartbeats 2000000 in
theorem pjoin_bad (k n a b c d n' a' b' c' d' r : Int) (w : World) (HR : Hid (bothP n a b c d n' a' b' c' d' = r)) (hr : (r != 0) = true) : Calls Try.prog 63 #[.int .i64 k, .agg #[.int .i64 n, .int .i64 a, .int .i64 b, .int .i64 c, .int .i64 d], .agg #[.int .i64 n', .int .i64 a', .int .i64 b', .int .i64 c', .int .i64 d']] w fun e w' => e = .returned (LE no5 r) ∧ Below w.heap.size w w' := by
  go_enter Try.func63, Try.ntmps63
  go_wp2_with (go_at_call 81; refine (checkall_two n a b c d n' a' b' c' d' r _ _ (new4 _ _ _ _ _ _) HR).mono ?_; rintro e w1 ⟨rfl, hB⟩; obtain ⟨X1, Y1, Z1, hB1⟩ := made4 hB; have B1 := Lib.hid hB1; have Z1 := Lib.hid Z1; clear hB hB1 X1 Y1; obtain ⟨v0, v1, v2, v3, v4⟩ := Z1.out.cell5; obtain ⟨g0, g1, g2, g3, g4⟩ := Z1.out.free5)
  obtain ⟨z0, z1, z2, z3, z4⟩ := (Z1.out.put5 (.int .i64 0) (.int .i64 0) (.int .i64 0) (.int .i64 0) (.int .i64 0)).cell5
  exact bodyPost_ret (v := .tuple #[.agg #[.int .i64 0, .int .i64 0, .int .i64 0, .int .i64 0, .int .i64 0], .int .i64 r]) (by simp [results, Try.results63, go_sem, z0, z1, z2, z3, z4]) rfl ⟨rfl, below_put5 B1.out (by omega) _ _ _ _ _⟩
set_option maxRecDepth 100000 in
set_option maxHeartbeats 2000000 in
theorem pjoin_range (k n a b c d n' a' b' c' d' : Int) (w : World) (HR : Hid (bothP n a b c d n' a' b' c' d' = 0)) (hk : k < 1 ∨ 4 < k) : Calls Try.prog 63 #[.int .i64 k, .agg #[.int .i64 n, .int .i64 a, .int .i64 b, .int .i64 c, .int .i64 d], .agg #[.int .i64 n', .int .i64 a', .int .i64 b', .int .i64 c', .int .i64 d']] w fun e w' => e = .returned (LE no5 2) ∧ Below w.heap.size w w' := by
  by_cases h1 : k < 1
  · clear hk
    go_enter Try.func63, Try.ntmps63
    go_wp2_with (go_at_call 81; refine (checkall_two n a b c d n' a' b' c' d' 0 _ _ (new4 _ _ _ _ _ _) HR).mono ?_; rintro e w1 ⟨rfl, hB⟩; obtain ⟨X1, Y1, Z1, hB1⟩ := made4 hB; have B1 := Lib.hid hB1; have Z1 := Lib.hid Z1; clear hB hB1 X1 Y1; obtain ⟨v0, v1, v2, v3, v4⟩ := Z1.out.cell5; obtain ⟨g0, g1, g2, g3, g4⟩ := Z1.out.free5)
    obtain ⟨z0, z1, z2, z3, z4⟩ := (Z1.out.put5 (.int .i64 0) (.int .i64 0) (.int .i64 0) (.int .i64 0) (.int .i64 0)).cell5
    exact bodyPost_ret (v := .tuple #[.agg #[.int .i64 0, .int .i64 0, .int .i64 0, .int .i64 0, .int .i64 0], .int .i64 2]) (by simp [results, Try.results63, go_sem, z0, z1, z2, z3, z4]) rfl ⟨rfl, below_put5 B1.out (by omega) _ _ _ _ _⟩
  · have h2 : 4 < k := by omega
    have h3 : decide (k < 1) = false := decide_eq_false h1
    clear hk h1
    go_enter Try.func63, Try.ntmps63
    go_wp2_with (go_at_call 81; refine (checkall_two n a b c d n' a' b' c' d' 0 _ _ (new4 _ _ _ _ _ _) HR).mono ?_; rintro e w1 ⟨rfl, hB⟩; obtain ⟨X1, Y1, Z1, hB1⟩ := made4 hB; have B1 := Lib.hid hB1; have Z1 := Lib.hid Z1; clear hB hB1 X1 Y1; obtain ⟨v0, v1, v2, v3, v4⟩ := Z1.out.cell5; obtain ⟨g0, g1, g2, g3, g4⟩ := Z1.out.free5)
    obtain ⟨z0, z1, z2, z3, z4⟩ := (Z1.out.put5 (.int .i64 0) (.int .i64 0) (.int .i64 0) (.int .i64 0) (.int .i64 0)).cell5
    exact bodyPost_ret (v := .tuple #[.agg #[.int .i64 0, .int .i64 0, .int .i64 0, .int .i64 0, .int .i64 0], .int .i64 2]) (by simp [results, Try.results63, go_sem, z0, z1, z2, z3, z4]) rfl ⟨rfl, below_put5 B1.out (by omega) _ _ _ _ _⟩
/-- two looks, the second one laid behind the first, up to k -/
theorem join_places {l m : List Int} {k : Nat} (hk : k ≤ 4) {f : Nat → Int} (hf : ∀ i, f i = (l.take k)[i]?.getD 0) (zs : List Int) (hz : zs = m.take (k - min l.length k)) : ∀ i, over f (min l.length k) zs i = ((l ++ m).take k)[i]?.getD 0 := by
  intro i
  subst hz
  unfold over
  rw [hf]
  have h1 : ∀ (q : List Int) j, q[j]?.getD 0 = if h : j < q.length then q[j] else 0 := fun q j => by
    by_cases h : j < q.length
    · rw [dif_pos h, List.getElem?_eq_getElem h]; rfl
    · rw [dif_neg h, List.getElem?_eq_none (by omega)]; rfl
  by_cases hlk : l.length ≤ k
  · rw [Nat.min_eq_left hlk]
    by_cases hi : l.length ≤ i ∧ i < l.length + (m.take (k - l.length)).length
    · rw [if_pos hi]
      rw [List.length_take] at hi
      rw [List.getElem?_take, if_pos (by omega), List.getElem?_take, if_pos (by omega), List.getElem?_append_right (by omega)]
    · rw [if_neg hi]
      rw [List.length_take] at hi
      rw [List.getElem?_take, List.getElem?_take]
      by_cases hik : i < k
      · rw [if_pos hik, if_pos hik]
        by_cases h2 : i < l.length
        · rw [List.getElem?_append_left h2]
        · rw [List.getElem?_append_right (by omega), List.getElem?_eq_none (by omega), List.getElem?_eq_none (by omega)]
      · rw [if_neg hik, if_neg hik]
  · rw [Nat.min_eq_right (by omega), Nat.sub_self, List.take_zero, if_neg (by simp only [List.length_nil]; omega)]
    rw [List.getElem?_take, List.getElem?_take]
    by_cases hik : i < k
    · rw [if_pos hik, if_pos hik, List.getElem?_append_left (by omega)]
    · rw [if_neg hik, if_neg hik]
set_option maxRecDepth 100000 in
set_option maxHeartbeats 2000000 in
theorem pjoin_ok (l m : List Int) (k N M : Nat) (a b c d a' b' c' d' : Int) (w : World) (HR : Hid (bothP N a b c d M a' b' c' d' = 0)) (k1 : 1 ≤ k) (k2 : k ≤ 4) (hN : N ≤ 4) (hM : M ≤ 4) (HL : Hid (l.length = N)) (HM : Hid (m.length = M)) (HP : Hid (pad5 l = ((N : Int), a, b, c, d))) (HQ : Hid (pad5 m = ((M : Int), a', b', c', d')))
    (y0 y1 y2 y3 y4 : Int) (HY : Hid (pad5 ((l ++ m).take k) = (y0, y1, y2, y3, y4))) :
    Calls Try.prog 63 #[.int .i64 k, .agg #[.int .i64 N, .int .i64 a, .int .i64 b, .int .i64 c, .int .i64 d], .agg #[.int .i64 M, .int .i64 a', .int .i64 b', .int .i64 c', .int .i64 d']] w fun e w' => e = .returned (LE (y0, y1, y2, y3, y4) 0) ∧ Below w.heap.size w w' := by
  have i1 : (1 : Int) ≤ k := by omega
  have i2 : (k : Int) ≤ 4 := by omega
  have i3 : decide ((k : Int) < 1) = false := decide_eq_false (by omega)
  have i4 : decide (4 < (k : Int)) = false := decide_eq_false (by omega)
  have hcut := cutP_look (l := l) (by have := HL.out; omega) (pad5_of HP.out) k
  obtain ⟨⟨q, c0, c1, c2, c3⟩, hq⟩ : ∃ u, cutP N k a b c d = u := ⟨_, rfl⟩
  have HC := Lib.hid hq
  rw [hq] at hcut
  have hq' : q = min N k := by have := congrArg Prod.fst hq; simpa [cutP] using this.symm
  have hqk : q ≤ k := by omega
  have HCut := Lib.hid hcut
  have HQ1 := Lib.hid hq'
  clear hcut hq hq'
  go_enter Try.func63, Try.ntmps63
  go_wp2_with (first
    | (go_at_call 81; refine (checkall_two N a b c d M a' b' c' d' 0 _ _ (new4 _ _ _ _ _ _) HR).mono ?_; rintro e w1 ⟨rfl, hB⟩; obtain ⟨X1, Y1, Z1, hB1⟩ := made4 hB; have B1 := Lib.hid hB1; have Y1 := Lib.hid Y1; have Z1 := Lib.hid Z1; obtain ⟨x0, x1, x2, x3, x4⟩ := X1.cell5; clear hB hB1 X1)
    | (go_at_call 69; refine (cut_any N k a b c d _ (by omega) q c0 c1 c2 c3 HC).mono ?_; rintro e w2 ⟨rfl, hB⟩; have B2 := Lib.hid (below_on B1.out (Nat.le_refl _) hB); have Y2 := Lib.hid (Y1.out.below hB); have Z2 := Lib.hid (Z1.out.below hB); clear hB x0 x1 x2 x3 x4))
  have G0 := (Box.new w2 25 #[.int .i64 q, .int .i64 c0, .int .i64 c1, .int .i64 c2, .int .i64 c3]).drew
  have RY : ReadsI (w2.alloc (.cells #[.int .i64 q, .int .i64 c0, .int .i64 c1, .int .i64 c2, .int .i64 c3] 25)).drew (some ⟨w.heap.size + 1, 1, none⟩) (m.take (k - q)) := fun i hi => by
    have hY := (Y2.out.alloc (.cells #[.int .i64 q, .int .i64 c0, .int .i64 c1, .int .i64 c2, .int .i64 c3] 25)).drew
    rw [List.length_take] at hi
    have hml := HM.out
    refine ⟨w.heap.size + 1, 1, rfl, hY.lt, ?_⟩
    rw [hY.place i (by omega), pad5_pl (by omega) HQ.out, List.getElem?_take, if_pos (by omega)]
  have hzl : (m.take (k - q)).length = min (k - q) M := by rw [List.length_take, HM.out]
  obtain ⟨W, hcl, GW, hO, hBW, hsz⟩ := copy_box (f := pl c0 c1 c2 c3) G0 q (k - q) (4 - q) (some (if 4 = q then ⟨w2.heap.size, 1, none⟩ else ⟨w2.heap.size, 1 + q, none⟩)) (some ⟨w.heap.size + 1, 1, none⟩) M 4 (m.take (k - q)) (by rw [hzl]; exact Nat.min_comm _ _) (by rw [hzl]; omega) RY (by
    by_cases h4 : 4 = q
    · exact .inl (by omega)
    · rw [if_neg h4]; exact .inr rfl)
  have hg : w.heap.size + 1 + 1 < w2.heap.size := Z2.out.lt
  have ZW := Lib.hid (hO _ _ _ (by omega) ((Z2.out.alloc (.cells #[.int .i64 q, .int .i64 c0, .int .i64 c1, .int .i64 c2, .int .i64 c3] 25)).drew))
  have YW := Lib.hid (hO _ _ _ (by omega) ((Y2.out.alloc (.cells #[.int .i64 q, .int .i64 c0, .int .i64 c1, .int .i64 c2, .int .i64 c3] 25)).drew))
  have BW := Lib.hid (hBW w.heap.size w (by omega) (B2.out.alloc B2.out.size (.cells #[.int .i64 q, .int .i64 c0, .int .i64 c1, .int .i64 c2, .int .i64 c3] 25)).drew)
  obtain ⟨L, hL⟩ : ∃ L, (m.take (k - q)).length = L := ⟨_, rfl⟩
  rw [hL] at hcl hzl
  have HZL := Lib.hid hzl
  have hL4 : L ≤ 4 := by omega
  have GH := Lib.hid GW
  have jq0 : (0 : Int) ≤ q := by omega
  have jq1 : (q : Int) ≤ k := by omega
  have jM0 : (0 : Int) ≤ M := by omega
  have jM4 : (M : Int) ≤ 4 := by omega
  have jL : (L : Int) ≤ 4 := by omega
  have e0 : (w2.alloc (.cells #[.int .i64 q, .int .i64 c0, .int .i64 c1, .int .i64 c2, .int .i64 c3] 25)).drew.cell? ⟨w2.heap.size, 0, none⟩ = some (.int .i64 q) := G0.cell 0
  have e1 : (w2.alloc (.cells #[.int .i64 q, .int .i64 c0, .int .i64 c1, .int .i64 c2, .int .i64 c3] 25)).drew.cell? ⟨w.heap.size + 1, 0, none⟩ = some (.int .i64 M) := ((Y2.out.alloc (.cells #[.int .i64 q, .int .i64 c0, .int .i64 c1, .int .i64 c2, .int .i64 c3] 25)).drew).cell 0
  have e2 : W.cell? ⟨w2.heap.size, 0, none⟩ = some (.int .i64 q) := GW.cell 0
  have e3 : W.cell? ⟨w.heap.size + 1, 0, none⟩ = some (.int .i64 M) := YW.out.cell 0
  have e4 : W.frozen? ⟨w2.heap.size, 0, none⟩ = false := GW.free 0
  clear G0 RY hO hBW hsz GW hL hzl Y1 Z1 Y2 Z2 B1 B2
  generalize hW0 : w2.alloc (.cells #[.int .i64 q, .int .i64 c0, .int .i64 c1, .int .i64 c2, .int .i64 c3] 25) = W0 at hcl e0 e1 ⊢
  clear hW0
  go_region
  have hj := join_places (l := l) (m := m) k2 (f := pl c0 c1 c2 c3) (fun i => by
    have hlt : (l.take k).length ≤ 4 := by rw [List.length_take]; omega
    have e := HCut.out
    simp only [pad, Prod.mk.injEq] at e
    obtain ⟨e0, e1, e2, e3, e4⟩ := e
    exact pad5_pl (l := l.take k) (n := ((l.take k).length : Int)) hlt (by simp only [pad5]; rw [e1, e2, e3, e4]) i) (m.take (k - q)) (by rw [HL.out, HQ1.out])
  rw [HL.out, ← HQ1.out] at hj
  have hy := HY.out
  simp only [pad5, Prod.mk.injEq] at hy
  obtain ⟨t0, t1, t2, t3, t4⟩ := hy
  have GN := GH.out
  rw [hj 0, hj 1, hj 2, hj 3, t1, t2, t3, t4] at GN
  have t5 : (q : Int) + L = y0 := by
    rw [← t0, List.length_take, List.length_append, HL.out, HM.out]
    have := HZL.out
    have := HQ1.out
    omega
  have HT := Lib.hid t5
  have G2 := GN.set 0 (by simp) (.int .i64 (q + L))
  have Z3 := Lib.hid (ZW.out.other (b' := w2.heap.size) (i := 0) (by omega) (.int .i64 (q + L)))
  have B3 := Lib.hid (BW.out.setCell (p := ⟨w2.heap.size, 0, none⟩) (show w.heap.size ≤ w2.heap.size by omega) (.int .i64 (q + L)))
  clear hj t0 t1 t2 t3 t4 t5 GN GH ZW YW BW e0 e1 e2 e3 e4 hcl
  generalize W.setCell ⟨w2.heap.size, 0, none⟩ (.int .i64 (q + L)) = W5 at G2 Z3 B3 ⊢
  obtain ⟨x0, x1, x2, x3, x4⟩ := G2.cell5
  obtain ⟨v0, v1, v2, v3, v4⟩ := Z3.out.cell5
  obtain ⟨g0, g1, g2, g3, g4⟩ := Z3.out.free5
  clear G2
  generalize (if 4 = q then (⟨w2.heap.size, 1, none⟩ : Addr) else ⟨w2.heap.size, 1 + q, none⟩) = ad
  go_wp2
  obtain ⟨z0, z1, z2, z3, z4⟩ := (Z3.out.put5 (.int .i64 (q + L)) (.int .i64 y1) (.int .i64 y2) (.int .i64 y3) (.int .i64 y4)).cell5
  exact bodyPost_ret (v := .tuple #[.agg #[.int .i64 (q + L), .int .i64 y1, .int .i64 y2, .int .i64 y3, .int .i64 y4], .int .i64 0]) (by simp [results, Try.results63, go_sem, z0, z1, z2, z3, z4]) rfl ⟨by rw [HT.out], below_put5 B3.out (by omega) _ _ _ _ _⟩
end Go.Proofs.Ytdahaajfkjmflaa.s13

namespace Go.Proofs.Ytdahaajfkjmflaa.s13
set_option linter.unusedVariables false
set_option linter.unusedSimpArgs false
open Go.RowKit
open kit

/-- a look's terminals -/
def lst (x : V5) : List Int := [x.2.1, x.2.2.1, x.2.2.2.1, x.2.2.2.2].take x.1.toNat
theorem lst_pad {l : List Int} (hl : l.length ≤ 4) : lst (pad5 l) = l := by
  match l, hl with
  | [], _ => rfl
  | [a], _ => rfl
  | [a, b], _ => rfl
  | [a, b, c], _ => rfl
  | [a, b, c, d], _ => rfl
theorem lst_ok {n a b c d t : Int} (h : chkP n a b c d t = 0) : okL t (lst (n, a, b, c, d)) ∧ pad5 (lst (n, a, b, c, d)) = (n, a, b, c, d) ∧ ((lst (n, a, b, c, d)).length : Int) = n := by
  obtain ⟨l, h1, h2⟩ := pad5_look h
  rw [← h2, lst_pad h1.1]
  refine ⟨h1, rfl, ?_⟩
  simp only [pad5, Prod.mk.injEq] at h2
  exact h2.1
theorem lst_nat {n a b c d : Int} (h : chkP n a b c d 8 = 0) : ∃ N : Nat, n = N ∧ N ≤ 4 ∧ (lst (n, a, b, c, d)).length = N ∧ pad5 (lst (n, a, b, c, d)) = ((N : Int), a, b, c, d) := by
  obtain ⟨h1, h2, h3⟩ := lst_ok h
  have := h1.1
  exact ⟨(lst (n, a, b, c, d)).length, h3.symm, this, rfl, by rw [h3]; exact h2⟩
def cutE (x : V5) (k : Int) : V5 × Int := if chkP x.1 x.2.1 x.2.2.1 x.2.2.2.1 x.2.2.2.2 8 ≠ 0 then (no5, chkP x.1 x.2.1 x.2.2.1 x.2.2.2.1 x.2.2.2.2 8) else if k < 0 ∨ 4 < k then (no5, 2) else (pad5 ((lst x).take k.toNat), 0)
theorem pcut_any (n a b c d k : Int) (w : World) (y : V5) (r : Int) (H : Hid (cutE (n, a, b, c, d) k = (y, r))) : Calls Try.prog 78 #[.agg #[.int .i64 n, .int .i64 a, .int .i64 b, .int .i64 c, .int .i64 d], .int .i64 k] w fun e w' => e = .returned (LE y r) ∧ Below w.heap.size w w' := by
  have h := H.out
  unfold cutE at h
  simp only at h
  by_cases hc : chkP n a b c d 8 = 0
  · rw [if_neg (by simpa using hc)] at h
    by_cases hk : k < 0 ∨ 4 < k
    · rw [if_pos hk] at h; cases h
      exact pcut_range n a b c d k w (Lib.hid hc) hk
    · rw [if_neg hk] at h; cases h
      obtain ⟨N, hN, hN4, hl, hp⟩ := lst_nat hc
      obtain ⟨K, rfl⟩ : ∃ K : Nat, k = K := ⟨k.toNat, by omega⟩
      have e := cutP_look (l := lst (n, a, b, c, d)) (by omega) (pad5_of hp) K
      rw [Int.toNat_natCast]
      have hq : pad5 ((lst (n, a, b, c, d)).take K) = (((cutP N K a b c d).1 : Int), (cutP N K a b c d).2) := by rw [e]; rfl
      rw [hq]
      subst hN
      exact pcut_ok N K a b c d w (Lib.hid hc) hN4 (by omega) _ _ _ _ _ (Lib.hid rfl)
  · rw [if_pos hc] at h; cases h
    exact pcut_bad n a b c d k _ w (Lib.hid rfl) (by simpa using hc)
def joinE (k : Int) (x y : V5) : V5 × Int := if bothP x.1 x.2.1 x.2.2.1 x.2.2.2.1 x.2.2.2.2 y.1 y.2.1 y.2.2.1 y.2.2.2.1 y.2.2.2.2 ≠ 0 then (no5, bothP x.1 x.2.1 x.2.2.1 x.2.2.2.1 x.2.2.2.2 y.1 y.2.1 y.2.2.1 y.2.2.2.1 y.2.2.2.2) else if k < 1 ∨ 4 < k then (no5, 2) else (pad5 ((lst x ++ lst y).take k.toNat), 0)
theorem both_yes {n a b c d n' a' b' c' d' : Int} (h : bothP n a b c d n' a' b' c' d' = 0) : chkP n a b c d 8 = 0 ∧ chkP n' a' b' c' d' 8 = 0 := by
  unfold bothP at h
  by_cases h1 : chkP n a b c d 8 = 0
  · rw [if_pos h1] at h; exact ⟨h1, h⟩
  · rw [if_neg h1] at h; exact absurd h h1
theorem pjoin_any (k n a b c d n' a' b' c' d' : Int) (w : World) (y : V5) (r : Int) (H : Hid (joinE k (n, a, b, c, d) (n', a', b', c', d') = (y, r))) : Calls Try.prog 63 #[.int .i64 k, .agg #[.int .i64 n, .int .i64 a, .int .i64 b, .int .i64 c, .int .i64 d], .agg #[.int .i64 n', .int .i64 a', .int .i64 b', .int .i64 c', .int .i64 d']] w fun e w' => e = .returned (LE y r) ∧ Below w.heap.size w w' := by
  have h := H.out
  unfold joinE at h
  simp only at h
  by_cases hc : bothP n a b c d n' a' b' c' d' = 0
  · rw [if_neg (by simpa using hc)] at h
    by_cases hk : k < 1 ∨ 4 < k
    · rw [if_pos hk] at h; cases h
      exact pjoin_range k n a b c d n' a' b' c' d' w (Lib.hid hc) hk
    · rw [if_neg hk] at h; cases h
      obtain ⟨h1, h2⟩ := both_yes hc
      obtain ⟨N, hN, hN4, hl, hp⟩ := lst_nat h1
      obtain ⟨M, hM, hM4, hm, hq⟩ := lst_nat h2
      obtain ⟨K, rfl⟩ : ∃ K : Nat, k = K := ⟨k.toNat, by omega⟩
      rw [Int.toNat_natCast]
      subst hN hM
      exact pjoin_ok _ _ K N M a b c d a' b' c' d' w (Lib.hid hc) (by omega) (by omega) hN4 hM4 (Lib.hid hl) (Lib.hid hm) (Lib.hid hp) (Lib.hid hq) _ _ _ _ _ (Lib.hid rfl)
  · rw [if_pos hc] at h; cases h
    exact pjoin_bad k n a b c d n' a' b' c' d' _ w (Lib.hid rfl) (by simpa using hc)
end Go.Proofs.Ytdahaajfkjmflaa.s13
