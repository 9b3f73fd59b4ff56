/-
  Layer 7, the program's side: List, place.
-/
import Derived.Test.YtniimoebgajefaaS07I
namespace Go.Proofs.Ytniimoebgajefaa.s07
set_option linter.unusedVariables false
set_option linter.unusedSimpArgs false
open Go.RowKit
open kit

/-- List's answer -/
def listR (l : List Li) (t : Int) : ByteArray × Int := if allR (chkL t) l = 0 then (⟨(fL l).toArray⟩, 0) else (⟨#[]⟩, allR (chkL t) l)
theorem allR_ok {f : Li → Int} {l : List Li} (h : allR f l = 0) : l.length ≤ 1000 ∧ ∀ x ∈ l, f x = 0 := by
  unfold allR at h
  split at h
  · cases h
  · rename_i h1; exact ⟨by omega, firstE_ok h⟩
theorem chkL_okB {t : Int} {x : Li} (h : chkL t x = 0) : okB x := by
  obtain ⟨h1, _, _⟩ := chkR_ok h
  obtain ⟨g1, g2, g3, g4, g5⟩ := chkP_ok h1
  exact ⟨g3, by omega, g5⟩
theorem chkLP_okB {t : Int} {x : Li} (h : chkLP t x = 0) : okB x := by
  obtain ⟨g1, g2, g3, g4, g5⟩ := chkP_ok h
  exact ⟨g3, by omega, g5⟩
set_option maxRecDepth 100000 in
set_option maxHeartbeats 1000000 in
theorem list_any (a : Option Addr) (c : Nat) (l : List Li) (t : Int) (w : World) (hn : l.length ≤ 9223372036854775807) (hr : Hid (ReadsL w a l)) (b : ByteArray) (er : Int) (H : Hid (listR l t = (b, er))) :
    Calls Try.prog 16 #[.slice a l.length c, .int .i64 t] w fun e w' => e = .returned (.tuple #[.string b, .int .i64 er]) ∧ Below w.heap.size w w' := by
  obtain ⟨k, hk⟩ : ∃ k, allR (chkL t) l = k := ⟨_, rfl⟩
  have HK := Lib.hid hk
  have hc := H.out
  unfold listR at hc
  rw [hk] at hc
  clear H
  by_cases hk0 : k = 0
  · rw [if_pos hk0] at hc
    subst hk0
    obtain ⟨q1, q2⟩ := allR_ok hk
    have hok : Hid (∀ z ∈ l, okB z) := Lib.hid fun z hz => chkL_okB (q2 z hz)
    have HC := Lib.hid hc
    have hn2 : l.length ≤ 1003 := by omega
    clear hc hk q2
    go_enter Try.func16, Try.ntmps16
    go_wp2_with (first
      | (go_at_call 40; refine (all_check a c l t _ hn hr 0 HK).mono ?_; rintro e w1 ⟨rfl, hB⟩; have B1 := Lib.hid hB; have R1 := Lib.hid (hr.out.below hB); clear hB)
      | (go_at_call 35; refine (frames_any a c l _ hn2 hok R1).mono ?_; rintro e w2 ⟨rfl, hB⟩; have B2 := Lib.hid (below_then B1.out hB); clear hB))
    go_ret2
    exact ⟨ret_se HC.out, B2.out⟩
  · rw [if_neg hk0] at hc
    have HC := Lib.hid hc
    have t0 : (k != 0) = true := by rw [bne_iff_ne]; exact hk0
    clear hc hk0 hk
    go_enter Try.func16, Try.ntmps16
    go_wp2_with (go_at_call 40; refine (all_check a c l t _ hn hr k HK).mono ?_; rintro e w1 ⟨rfl, hB⟩)
    go_ret2
    exact ⟨ret_se HC.out, hB⟩
/-- tokens, placed from an offset on, and where the last frame ends -/
def placeL : Int → List Li → List Li
  | _, [] => []
  | p, x :: r => (x.1, x.2.1, p) :: placeL (p + (2 + (x.2.1.size : Int))) r
def endL : Int → List Li → Int
  | p, [] => p
  | p, x :: r => endL (p + (2 + (x.2.1.size : Int))) r
theorem placeL_len (l : List Li) : ∀ p, (placeL p l).length = l.length := by
  induction l with
  | nil => intro p; rfl
  | cons x r ih => intro p; simp [placeL, ih]
theorem placeL_app (l r : List Li) : ∀ p, placeL p (l ++ r) = placeL p l ++ placeL (endL p l) r := by
  induction l with
  | nil => intro p; rfl
  | cons x l ih => intro p; simp [placeL, endL, ih]
theorem endL_app (l r : List Li) : ∀ p, endL p (l ++ r) = endL (endL p l) r := by
  induction l with
  | nil => intro p; rfl
  | cons x l ih => intro p; simp [endL, ih]
theorem endL_ge (l : List Li) : ∀ p, p ≤ endL p l := by
  induction l with
  | nil => intro p; exact Int.le_refl _
  | cons x l ih => intro p; have := ih (p + (2 + (x.2.1.size : Int))); simp only [endL]; omega
theorem endL_le (l : List Li) (h : ∀ x ∈ l, okB x) : ∀ p, endL p l ≤ p + 26 * l.length := by
  induction l with
  | nil => intro p; simp [endL]
  | cons x l ih =>
    intro p
    have h1 := (h x (by simp)).2.2
    have := ih (fun y hy => h y (by simp [hy])) (p + (2 + (x.2.1.size : Int)))
    simp only [endL, List.length_cons]
    omega
theorem src_new1 (w : World) (o : Obj) (E : TypeId) (x : Li) : ∀ j u, (flatL [x])[j]? = some u → ((w.alloc o).alloc (.cells #[.int .i64 x.1, .string x.2.1, .int .i64 x.2.2] E)).cell? ((⟨w.heap.size + 1, 0, none⟩ : Addr).add j) = some u := by
  have h := src_new (w.alloc o) E x
  rw [show (w.alloc o).heap.size = w.heap.size + 1 from Array.size_push ..] at h
  intro j u hu
  exact h j u (by rw [flatL_one] at hu; exact hu)
/-- a row of tokens is handed back -/
theorem toks_row {w' : World} {base n : Nat} {L : List Li} {v : Value} (hn : L.length = n) (hr : w'.ownsRow base 23 3 v n (flatL L)) : ∃ a c, v = .slice a n c ∧ n ≤ c ∧ ReadsL w' a L ∧ (a = none → c = 0) := by
  have hv : ∃ a c, v = .slice a n c ∧ n ≤ c ∧ (a = none → c = 0) := by
    rcases hr.2 with ⟨rfl, h0⟩ | ⟨g, cap, _, rfl, _, _, hcap, _⟩
    · exact ⟨none, 0, by rw [h0], by omega, fun _ => rfl⟩
    · exact ⟨_, _, rfl, hcap, fun h => by cases h⟩
  obtain ⟨a, c, rfl, hc, hz⟩ := hv
  exact ⟨a, c, rfl, hc, readsL_of_row hn hr, hz⟩
set_option maxRecDepth 100000 in
set_option maxHeartbeats 2000000 in
theorem place_any (a : Option Addr) (c : Nat) (l : List Li) (p : Int) (w : World) (hn : l.length ≤ 1000) (hz : Hid (∀ x ∈ l, okB x)) (h1 : 0 ≤ p) (h2 : p ≤ 1099511627776) (hr : Hid (ReadsL w a l)) :
    Calls Try.prog 41 #[.slice a l.length c, .int .i64 p] w fun e w' => ∃ a' c', e = .returned (.tuple #[.slice a' l.length c', .int .i64 (endL p l)]) ∧ ReadsL w' a' (placeL p l) ∧ (a' = none → c' = 0) ∧ Below w.heap.size w w' := by
  go_enter Try.func41, Try.ntmps41
  go_wp2
  go_loopw [10, 1, 4] (fun i q v wr => ∃ (k : Nat) (e1 : Int), i = .int .i64 k ∧ k ≤ l.length ∧ q = .int .i64 e1 ∧ 0 ≤ e1 ∧ e1 ≤ 1099511627776 + 26 * k ∧ Hid (e1 = endL p (l.take k)) ∧ Hid (wr.ownsRow w.heap.size 23 3 v k (flatL (placeL p (l.take k)))) ∧ Hid (Below w.heap.size w wr)) (fun i _ _ _ => l.length - (intOf i).toNat)
  case atStart => exact ⟨0, p, rfl, by omega, rfl, h1, by omega, Lib.hid rfl, Lib.hid (World.ownsRow_nil _ _ _ _), Lib.hid (Below.refl _ _)⟩
  case round =>
    obtain ⟨k, e1, rfl, hk, rfl, g1, g2, HE, HR, HB⟩ := hrel
    by_cases hlt : k < l.length
    · obtain ⟨b, off, rfl, hb, c0, c1, c2⟩ := (hr.out.below HB.out) k hlt
      have hok := hz.out _ (mem_tok l k hlt)
      have htk := Lib.hid (take_tok l k hlt)
      generalize l[k]?.getD noLi = y at c0 c1 c2 hok htk
      obtain ⟨sy, tx, at'⟩ := y
      obtain ⟨k1, k2, k3⟩ := hok
      simp only at k1 k2 k3
      have hwr := HB.out.size
      have hlt2 : b < wr.heap.size := cell_lt c0
      have B1 := Lib.hid (HB.out.alloc hwr (.cells #[.int .i64 sy, .string tx, .int .i64 e1] 23))
      have X1 := Lib.hid (Box.new wr 23 #[.int .i64 sy, .string tx, .int .i64 e1])
      have R1 := Lib.hid (HR.out.alloc (.cells #[.int .i64 sy, .string tx, .int .i64 e1] 23))
      have hpl : (placeL p (l.take k)).length = k := by rw [placeL_len, List.length_take]; omega
      have hne : u4.ownBlock ≠ some wr.heap.size := fun e => by have := (HR.out.lt _ e).2; omega
      have hk6 : k + 1 ≤ 1000000 := by omega
      have hx8 : tx.size ≤ 9223372036854775805 := by omega
      go_wp2_with (first
        | (at_builtin; refine append_tok Try.underlying34 rfl (.tmp 16) (.tmp 18) rfl w.heap.size _ k (placeL p (l.take k)) rfl (R1.out.alloc _) ⟨wr.heap.size + 1, 0, none⟩ [(sy, tx, e1)] 1 1 rfl rfl (src_new1 _ _ _ (sy, tx, e1)) hk6 (by simp; omega) ?_; intro vA wA hrA hgA; have XA := Lib.hid ((X1.out.alloc (.cells #[.int .i64 sy, .string tx, .int .i64 e1] 23)).grown hgA hne); have BA := Lib.hid ((B1.out.alloc (by simp; omega) (.cells #[.int .i64 sy, .string tx, .int .i64 e1] 23)).grown hgA (by simp; omega) (fun j ej => (HR.out.lt j ej).1)); have RA := Lib.hid hrA; clear hrA hgA; obtain ⟨d0, d1, d2⟩ := XA.out.cell3)
        | (go_at_call 11; refine (size_any sy e1 tx hx8 _).mono ?_; rintro e w2 ⟨rfl, hB⟩; have R2 := Lib.hid (row_below RA.out hB); have B2 := Lib.hid (below_on BA.out (Nat.le_refl _) hB); clear hB))
      go_roundw
      case rel => exact ⟨k + 1, e1 + (2 + (tx.size : Int)), by go_num, by omega, rfl, by omega, by push_cast; omega, Lib.hid (by rw [htk.out, endL_app, ← HE.out]; rfl), Lib.hid (by rw [htk.out, placeL_app, ← HE.out]; exact R2.out), B2⟩
      case measure => simp [intOf]; omega
    · have hke : l.take k = l := List.take_of_length_le (by omega)
      have hkl : k = l.length := by omega
      subst hkl
      rw [hke] at HR HE
      obtain ⟨a', c', rfl, hc, hL, hz⟩ := toks_row (placeL_len l p) HR.out
      have hret : Ending.returned (.tuple #[.slice a' l.length c', .int .i64 e1]) = .returned (.tuple #[.slice a' l.length c', .int .i64 (endL p l)]) := by rw [← HE.out]
      go_wp2
      go_ret2
      exact ⟨a', c', hret, hL, hz, HB.out⟩
end Go.Proofs.Ytniimoebgajefaa.s07
