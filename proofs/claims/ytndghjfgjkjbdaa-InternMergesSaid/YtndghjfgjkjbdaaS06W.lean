/-
  Layer 6, the program's side: part and Keep; Same.
-/
import Derived.Test.YtndghjfgjkjbdaaS06V
import Derived.Test.YtndghjfgjkjbdaaS06S
namespace Go.Proofs.Ytndghjfgjkjbdaa.s06
set_option linter.unusedVariables false
set_option linter.unusedSimpArgs false
open Go.RowKit Go.WideMaps Go.Maps
open kit

def EmptyQ (w : World) (e : Ending) (w' : World) : Prop :=
  ∃ b bm base, e = .returned (.pointer (some ⟨b, 0, none⟩)) ∧ Wk w' b bm base (.slice none 0 0) [] 0 ∧ w.heap.size ≤ b ∧ w.heap.size ≤ bm ∧ w.heap.size ≤ base ∧ base ≤ w'.heap.size ∧ Below w.heap.size w w'
theorem emptyq_any (w : World) : Calls Try.prog 68 #[] w (EmptyQ w) :=
  (empty_any w).mono fun e w' ⟨h1, h2, h3, h4⟩ => ⟨_, _, _, h1, h2, by omega, by omega, by omega, by omega, h4⟩
theorem putP_len2 (l : List ByteArray) (s : ByteArray) (o : Bool) (h : l.length ≤ 32) : (putP l s o).1.length ≤ 32 := by
  unfold putP
  split
  · split
    · split <;> exact h
    · split
      · exact h
      · simp; omega
  · exact h
theorem tab_mono {l : List ByteArray} {B B' : Nat} {V : Value} {W : World} (h : TabO l B V W) (hB : B' ≤ B) : TabO l B' V W := by
  obtain ⟨v, rfl, hr⟩ := h
  refine ⟨v, rfl, hr.1, ?_⟩
  rcases hr.2 with h | ⟨g, cap, cur, rfl, hb, rest⟩
  · exact .inl h
  · exact .inr ⟨g, cap, cur, rfl, by omega, rest⟩
/-- are these numbers of names? -/
def inR (l : List ByteArray) (ks : List Int) : Prop := ∀ j, j < ks.length → 0 ≤ ks[j]?.getD 0 ∧ ks[j]?.getD 0 < (l.length : Int)
instance (l : List ByteArray) (ks : List Int) : Decidable (inR l ks) := by unfold inR; infer_instance
def prtG (l : List ByteArray) : List ByteArray → List Int → List ByteArray × Int
  | cur, [] => (cur, 0)
  | cur, k :: rest => if (putP cur (l[k.toNat]?.getD ByteArray.empty) true).2.2 = 0 then prtG l (putP cur (l[k.toNat]?.getD ByteArray.empty) true).1 rest else ([], (putP cur (l[k.toNat]?.getD ByteArray.empty) true).2.2)
/-- what part gives -/
def partP (l : List ByteArray) (ks : List Int) : List ByteArray × Int := if inR l ks then prtG l [] ks else ([], 2)
theorem drop_consI (m : List Int) (k : Nat) (h : k < m.length) : m.drop k = (m[k]?.getD 0) :: m.drop (k + 1) := by
  rw [List.drop_eq_getElem_cons h, List.getElem?_eq_getElem h]; rfl
set_option maxRecDepth 100000 in
set_option maxHeartbeats 2000000 in
theorem partp_any (b bm base B1 : Nat) (v : Value) (l : List ByteArray) (a2 : Option Addr) (cap2 : Nat) (ks : List Int) (lk : List ByteArray) (er : Int) (w : World) (hm : ks.length ≤ 9223372036854775807) (hl : l.length ≤ 32) (hz : Hid (∀ x ∈ l, x.size ≤ 9223372036854775807)) (hW : Hid (Wk w b bm base v l 0)) (hr : Hid (∀ W', Below B1 w W' → ReadsI W' a2 ks)) (hb1 : B1 ≤ w.heap.size) (H : Hid (partP l ks = (lk, er))) :
    Calls Try.prog 64 #[.pointer (some ⟨b, 0, none⟩), .slice a2 ks.length cap2] w (GivesK (TabR lk) b bm base l er w) := by
  have X1 := Lib.hid (Box.new w 24 #[.slice none 0 0])
  have BB1 := Lib.hid ((Below.refl w.heap.size w).alloc (Nat.le_refl _) (.cells #[.slice none 0 0] 24))
  have W1 := Lib.hid (hW.out.below BB1.out)
  have HR1 := Lib.hid (hr.out _ (BB1.out.mono hb1))
  have lb0 := hW.out.box.lt
  have hs0 : (w.alloc (.cells #[.slice none 0 0] 24)).heap.size = w.heap.size + 1 := by simp
  have HS0 := Lib.hid hs0
  clear hs0
  have HBAD : Hid (∀ j, j < ks.length → ¬ (0 ≤ ks[j]?.getD 0 ∧ ks[j]?.getD 0 < (l.length : Int)) → (([] : List ByteArray), (2 : Int)) = (lk, er)) := Lib.hid fun j hj hnot => by
    have := H.out
    unfold partP at this
    rw [if_neg (fun h => hnot (h j hj))] at this
    exact this
  have HGOOD : Hid ((∀ j, j < ks.length → 0 ≤ ks[j]?.getD 0 ∧ ks[j]?.getD 0 < (l.length : Int)) → prtG l [] ks = (lk, er)) := Lib.hid fun h => by
    have := H.out
    unfold partP at this
    rw [if_pos (show inR l ks from h)] at this
    exact this
  clear H
  go_enter Try.func64, Try.ntmps64
  go_wp2
  go_loop [17] (fun i => ∃ k : Nat, k ≤ ks.length ∧ i = .int .i64 k ∧ Hid (∀ j, j < k → 0 ≤ ks[j]?.getD 0 ∧ ks[j]?.getD 0 < (l.length : Int))) (fun i => ks.length - (intOf i).toNat)
  case atStart => exact ⟨0, by omega, rfl, Lib.hid fun j hj => by omega⟩
  case round =>
    obtain ⟨k, hk, rfl, HA⟩ := hrel
    by_cases hkl : k < ks.length
    · obtain ⟨bq, off, rfl, hb, hcl⟩ := HR1.out k hkl
      by_cases hin : 0 ≤ ks[k]?.getD 0 ∧ ks[k]?.getD 0 < (l.length : Int)
      · have HN : Hid (∀ j, j < k + 1 → 0 ≤ ks[j]?.getD 0 ∧ ks[j]?.getD 0 < (l.length : Int)) := Lib.hid fun j hj => by
          by_cases e : j = k
          · rw [e]; exact hin
          · exact HA.out j (by omega)
        generalize ks[k]?.getD 0 = x at hcl hin
        have hp : ∃ y, nameP l x = (y, 0) := ⟨_, if_neg (by omega)⟩
        obtain ⟨y, hp⟩ := hp
        have HP := Lib.hid hp
        clear hp hin
        go_wp2_with (go_at_call 58; refine (namep_any b bm base v l 0 x y 0 _ W1 HP (by omega)).mono ?_; rintro e w2 ⟨rfl, rfl⟩)
        go_round
        case rel => exact ⟨k + 1, by omega, by go_num, HN⟩
        case measure => simp [intOf]; omega
      · have HX := Lib.hid (HBAD.out k hkl hin)
        generalize ks[k]?.getD 0 = x at hcl hin
        have hp : nameP l x = (⟨#[]⟩, 2) := if_pos (by omega)
        have HP := Lib.hid hp
        clear hp hin
        have c0 := X1.out.cell 0
        have f0 := X1.out.free 0
        have lx := X1.out.lt
        go_wp2_with (go_at_call 58; refine (namep_any b bm base v l 0 x _ 2 _ W1 HP (by omega)).mono ?_; rintro e w2 ⟨rfl, rfl⟩)
        have hh := HX.out
        simp only [Prod.mk.injEq] at hh
        obtain ⟨rfl, rfl⟩ := hh
        exact bodyPost_ret (v := .tuple #[.agg #[.slice none 0 0], .int .i64 2]) (by simp [results, Try.results64, go_sem, c0]) rfl ⟨_, v, rfl, tab_nil _ _, W1.out, KT.of_below BB1.out⟩
    · have hk2 : k = ks.length := by omega
      subst hk2
      have HG := Lib.hid (HGOOD.out HA.out)
      clear HBAD HGOOD
      go_wp2_with (go_at_call 68; refine (emptyq_any _).mono ?_; rintro e W2 ⟨b2, bm2, base2, rfl, hWK, h1, h2, h3, h4, hB⟩; have K2 := Lib.hid hWK; have B2 := Lib.hid hB; have g1 : w.heap.size + 1 ≤ b2 := (by rw [HS0.out] at h1; exact h1); have g2 : w.heap.size + 1 ≤ bm2 := (by rw [HS0.out] at h2; exact h2); have g3 : w.heap.size + 1 ≤ base2 := (by rw [HS0.out] at h3; exact h3); clear hWK h1 h2 h3 hB)
      have BB2 := Lib.hid ((BB1.out.trans (B2.out.mono (by simp))) : Below w.heap.size w W2)
      have X2 := Lib.hid (X1.out.below B2.out)
      have hsz2 := BB2.out.size
      have hs3 : w.heap.size + 1 ≤ W2.heap.size := by have := B2.out.size; rw [HS0.out] at this; exact this
      go_loopw [35] (fun i wr => ∃ (k : Nat) (v2 : Value) (cur : List ByteArray), k ≤ ks.length ∧ i = .int .i64 k ∧ cur.length ≤ 32 ∧ Hid (Wk wr b2 bm2 base2 v2 cur 0) ∧ Hid (KT base2 b2 bm2 W2 wr) ∧ Hid (prtG l cur (ks.drop k) = (lk, er))) (fun i _ => ks.length - (intOf i).toNat)
      case atStart => exact ⟨0, _, [], by omega, rfl, by simp, K2, Lib.hid (KT.refl _ _ _ _), Lib.hid (by simpa using HG.out)⟩
      case round =>
        obtain ⟨k, v2, cur, hk, rfl, hcur, WK, KK, HK⟩ := hrel
        have hs4 := KK.out.size
        have BB := Lib.hid (BB2.out.trans (KK.out.below (B := w.heap.size) (by omega) (by omega) (by omega) (by omega)))
        have X3 := Lib.hid (KK.out.keep X2.out K2.out (by decide) (by decide))
        have W3 := Lib.hid (hW.out.below BB.out)
        obtain ⟨va, vk, rfl⟩ := W3.out.shape
        have c0 := W3.out.box.cell 0
        by_cases hkl : k < ks.length
        · obtain ⟨bq, off, rfl, hb, hcl⟩ := hr.out _ (BB.out.mono hb1) k hkl
          have hin := HA.out k hkl
          have hS := HK.out
          rw [drop_consI ks k hkl] at hS
          generalize ks[k]?.getD 0 = x at hcl hin hS
          obtain ⟨j, rfl⟩ := Int.eq_ofNat_of_zero_le hin.1
          have hj : j < l.length := by omega
          unfold prtG at hS
          rw [Int.toNat_natCast] at hS
          have hx := hz.out _ (mem_getS l j hj)
          obtain ⟨bs, offs, rfl, hbs, hcs⟩ := W3.out.reads j hj
          generalize l[j]?.getD ByteArray.empty = y at hS hx hcs
          have hlen := putP_len2 cur y true hcur
          obtain ⟨⟨l2, n2, e2⟩, hp⟩ : ∃ r, putP cur y true = r := ⟨_, rfl⟩
          rw [hp] at hS hlen
          simp only at hS hlen
          have HP := Lib.hid hp
          clear hp HK hin
          by_cases he2 : e2 = 0
          · subst he2
            rw [if_pos rfl] at hS
            have HN := Lib.hid hS
            clear hS
            go_wp2_with (go_at_call 53; (with_reducible refine (addp_any b2 bm2 base2 v2 cur 0 y l2 n2 0 _ hx WK HP (by omega) (by omega)).mono ?_); rintro e w2 ⟨v3, rfl, hW2, hK2⟩; have W4 := Lib.hid hW2; have K4 := Lib.hid (KK.out.trans hK2); clear hW2 hK2)
            go_roundw
            case rel => exact ⟨k + 1, v3, l2, by omega, by go_num, hlen, W4, K4, HN⟩
            case measure => simp [intOf]; omega
          · rw [if_neg he2] at hS
            have HN := Lib.hid hS
            clear hS
            go_wp2_with (go_at_call 53; (with_reducible refine (addp_any b2 bm2 base2 v2 cur 0 y l2 n2 e2 _ hx WK HP (by omega) (by omega)).mono ?_); rintro e w2 ⟨v3, rfl, hW2, hK2⟩; have K4 := Lib.hid (KK.out.trans hK2); have B4 := Lib.hid (BB2.out.trans (K4.out.below (B := w.heap.size) (by omega) (by omega) (by omega) (by omega))); have X4 := Lib.hid (K4.out.keep X2.out K2.out (by decide) (by decide)); clear hW2 hK2; have x0 := X4.out.cell 0; have f0 := X4.out.free 0; have lx := X4.out.lt)
            have d0 := (X4.out.set 0 (by simp) (.slice none 0 0)).cell 0
            have hh := HN.out
            simp only [Prod.mk.injEq] at hh
            obtain ⟨rfl, rfl⟩ := hh
            have BE : Below w.heap.size w (w2.setCell ⟨w.heap.size, 0, none⟩ (.slice none 0 0)) := B4.out.setCell (p := ⟨w.heap.size, 0, none⟩) (by simp) _
            exact bodyPost_ret (v := .tuple #[.agg #[.slice none 0 0], .int .i64 e2]) (by simp [results, Try.results64, go_sem, d0]) rfl ⟨_, _, rfl, tab_nil _ _, hW.out.below BE, KT.of_below BE⟩
        · have hk2 : k = ks.length := by omega
          subst hk2
          have hS := HK.out
          rw [List.drop_length] at hS
          unfold prtG at hS
          simp only [Prod.mk.injEq] at hS
          obtain ⟨rfl, rfl⟩ := hS
          clear HK
          obtain ⟨ca, ck, rfl⟩ := WK.out.shape
          have k0 := WK.out.box.cell 0
          have x0 := X3.out.cell 0
          have f0 := X3.out.free 0
          have lx := X3.out.lt
          go_wp2
          have d0 := (X3.out.set 0 (by simp) (.slice ca cur.length ck)).cell 0
          have BE : Below w.heap.size w (wr.setCell ⟨w.heap.size, 0, none⟩ (.slice ca cur.length ck)) := BB.out.setCell (p := ⟨w.heap.size, 0, none⟩) (by simp) _
          have hT : TabO cur base2 (.agg #[.slice ca cur.length ck]) wr := ⟨_, rfl, WK.out.row⟩
          exact bodyPost_ret (v := .tuple #[.agg #[.slice ca cur.length ck], .int .i64 0]) (by simp [results, Try.results64, go_sem, d0]) rfl ⟨_, _, rfl, tab_mono (tab_set hT (by omega) _) (by omega), hW.out.below BE, KT.of_below BE⟩
end Go.Proofs.Ytndghjfgjkjbdaa.s06
