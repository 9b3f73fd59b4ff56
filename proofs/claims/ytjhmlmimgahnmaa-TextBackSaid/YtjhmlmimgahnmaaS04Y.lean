/-
  Layer 4: the law's Made: lexemes made of numbers. (Made by a script.)
-/
import Derived.Test.YtjhmlmimgahnmaaS04W
import Derived.Test.YtjhmlmimgahnmaaS04R
import Derived.Test.YtjhmlmimgahnmaaKitMod
namespace Go.Proofs.Ytjhmlmimgahnmaa.s04
set_option linter.unusedVariables false
set_option linter.unusedSimpArgs false
open Go.RowKit
open kit

def wordT : Nat → ByteArray
  | 0 => ⟨#[97]⟩
  | 1 => ⟨#[90, 57]⟩
  | 2 => ⟨#[116, 111, 107, 101, 110]⟩
  | 3 => ⟨#[120, 95, 49]⟩
  | _ => ⟨#[108, 111, 111, 107, 97, 104, 101, 97, 100]⟩
def numT : Nat → ByteArray
  | 0 => ⟨#[48]⟩
  | 1 => ⟨#[55]⟩
  | 2 => ⟨#[49, 48]⟩
  | _ => ⟨#[50, 48, 48, 48]⟩
def signT : Nat → ByteArray
  | 0 => ⟨#[61]⟩
  | 1 => ⟨#[124]⟩
  | 2 => ⟨#[59]⟩
  | _ => ⟨#[44]⟩
/-- the lexeme made of a number -/
def mkN (k : Nat) : Li := if k % 3 = 0 then (1, wordT (k / 3 % 5), (k : Int)) else if k % 3 = 1 then (2, numT (k / 3 % 4), (k : Int)) else (3, signT (k / 3 % 4), (k : Int))
def mkLi (z : Int) : Li := mkN (z % 1048576).toNat
theorem words_ok : ∀ i, i < 5 → formB 1 (wordT i) = true ∧ (wordT i).size ≤ 9 := by decide +kernel
theorem nums_ok : ∀ i, i < 4 → formB 2 (numT i) = true ∧ (numT i).size ≤ 9 := by decide +kernel
theorem signs_ok : ∀ i, i < 4 → formB 3 (signT i) = true ∧ (signT i).size ≤ 9 := by decide +kernel
theorem mkN_ok (k : Nat) : 1 ≤ (mkN k).1 ∧ (mkN k).1 ≤ 3 ∧ formB (mkN k).1 (mkN k).2.1 = true ∧ (mkN k).2.1.size ≤ 9 ∧ 0 ≤ (mkN k).2.2 := by
  unfold mkN
  split
  · have := words_ok (k / 3 % 5) (by omega)
    exact ⟨(by show (1 : Int) ≤ 1; omega), (by show (1 : Int) ≤ 3; omega), this.1, this.2, Int.natCast_nonneg _⟩
  · split
    · have := nums_ok (k / 3 % 4) (by omega)
      exact ⟨(by show (1 : Int) ≤ 2; omega), (by show (2 : Int) ≤ 3; omega), this.1, this.2, Int.natCast_nonneg _⟩
    · have := signs_ok (k / 3 % 4) (by omega)
      exact ⟨(by show (1 : Int) ≤ 3; omega), (by show (3 : Int) ≤ 3; omega), this.1, this.2, Int.natCast_nonneg _⟩
theorem mk_ok (zs : List Int) : okL (zs.map mkLi) := fun x hx => by
  obtain ⟨z, _, rfl⟩ := List.mem_map.1 hx
  exact ⟨(mkN_ok _).1, (mkN_ok _).2.2.1⟩
theorem mk_size (zs : List Int) : ∀ x ∈ zs.map mkLi, x.2.1.size ≤ 9 := fun x hx => by
  obtain ⟨z, _, rfl⟩ := List.mem_map.1 hx
  exact (mkN_ok _).2.2.2.1
theorem mk_E (l : List Int) : textE (l.map mkLi) = 0 := by
  induction l with
  | nil => rfl
  | cons z l ih =>
    obtain ⟨h1, h2, h3, h4, h5⟩ := mkN_ok (z % 1048576).toNat
    have hc : checkR (mkLi z).1 (mkLi z).2.1 (mkLi z).2.2 = 0 := by
      unfold checkR mkLi
      rw [if_neg (by omega), if_neg (by rw [h3]; decide), if_neg (by omega)]
    rw [List.map_cons, textE, if_pos hc]
    exact ih
theorem below_own {B E z k : Nat} {w w1 w2 : World} {v : Value} {xs : List Value} (h : Below B w w1) (hr : w1.ownsRow B E z v k xs) (hg : w1.grownBy w2 v.ownBlock) (hB : B ≤ w1.heap.size) : Below B w w2 := h.grown hg hB fun j ej => (hr.lt j ej).1
theorem row_owned {B E z k : Nat} {w w2 : World} {v : Value} {xs : List Value} (h : w.ownsRow B E z v k xs) (o : Obj) : (w.alloc o).ownsRow B E z v k xs := h.alloc o
theorem mk_snoc {zs : List Int} {j : Nat} {y : Int} {x : Li} (h : j < zs.length) (hy : zs[j]?.getD 0 = y) (hx : mkLi y = x) : (zs.take j).map mkLi ++ [x] = (zs.take (j + 1)).map mkLi := by
  rw [List.take_succ_eq_append_getElem h, List.map_append]
  rw [List.getElem?_eq_getElem h] at hy
  have hy : zs[j] = y := hy
  rw [hy]
  simp [hx]
set_option maxRecDepth 100000 in
set_option maxHeartbeats 8000000 in
theorem made_any (a : Option Addr) (cap : Nat) (zs : List Int) (w : World) (hn : zs.length ≤ 9223372036854775807) (hz : ∀ z ∈ zs, -9223372036854775808 ≤ z ∧ z ≤ 9223372036854775807) (ra : ReadsI w a zs) :
    Calls Try.prog 16 #[.slice a zs.length cap] w fun e w' => ∃ b c, e = .returned (.slice b ((zs.take 40).map mkLi).length c) ∧ ((zs.take 40).map mkLi).length ≤ c ∧ c ≤ 9223372036854775807 ∧ ReadsL w' b ((zs.take 40).map mkLi) ∧ Below w.heap.size w w' := by
  have HRA := Lib.hid ra
  have HZ := Lib.hid hz
  have HB0 := Lib.hid (Below.refl w.heap.size w)
  clear ra hz
  go_enter Try.func16, Try.ntmps16
  go_wp2
  go_loopw [3, 4] (fun v i wr => ∃ j : Nat, i = .int .i64 j ∧ j ≤ zs.length ∧ j ≤ 40 ∧ Hid (wr.ownsRow w.heap.size 31 3 v j (flatL ((zs.take j).map mkLi))) ∧ Hid (Below w.heap.size w wr)) (fun _ i _ => 40 - (intOf i).toNat)
  case atStart => exact ⟨0, rfl, by omega, by omega, Lib.hid (World.ownsRow_nil _ _ _ _), HB0⟩
  case round =>
    obtain ⟨j, rfl, hj, hj40, HW, HB⟩ := hrel
    by_cases hlt : j < zs.length ∧ j < 40
    · obtain ⟨hlt, hlt40⟩ := hlt
      obtain ⟨b, off, rfl, hb, hc⟩ := (HRA.out.below HB.out) j hlt
      have hyz := HZ.out _ (mem_getD zs j hlt)
      obtain ⟨y, hy⟩ : ∃ y, zs[j]?.getD 0 = y := ⟨_, rfl⟩
      have hsn := fun x hx => mk_snoc (x := x) hlt hy hx
      rw [hy] at hc hyz
      clear hy
      obtain ⟨kk, hkk⟩ : ∃ kk : Nat, y % 1048576 = (kk : Int) := ⟨(y % 1048576).toNat, by omega⟩
      have hmk : mkLi y = mkN kk := by unfold mkLi; rw [hkk]; rfl
      have hk0 : kk < 1048576 := by omega
      obtain ⟨q, hq⟩ : ∃ q, kk / 3 = q := ⟨_, rfl⟩
      have e2 : (kk : Int).tdiv 3 = (q : Int) := by rw [Int.tdiv_eq_ediv_of_nonneg (by omega)]; omega
      have e5 : IntKind.i64.wrap (q : Int) = q := IntWalk.i64_in _ (by omega)
      have HWS := HW.out
      have hbz := HB.out.size
      obtain ⟨hy1, hy2⟩ := hyz
      rcases (show kk % 3 = 0 ∨ kk % 3 = 1 ∨ kk % 3 = 2 by omega) with h3 | h3 | h3
      · have e1 : (kk : Int).tmod 3 = 0 := by rw [Int.tmod_eq_emod_of_nonneg (by omega)]; omega
        have hmq : mkN kk = (1, wordT (q % 5), (kk : Int)) := by unfold mkN; rw [hq, if_pos h3]
        rcases (show q % 5 = 0 ∨ q % 5 = 1 ∨ q % 5 = 2 ∨ q % 5 = 3 ∨ q % 5 = 4 by omega) with h5 | h5 | h5 | h5 | h5
        · have e3 : (q : Int).tmod 5 = 0 := by rw [Int.tmod_eq_emod_of_nonneg (by omega)]; omega
          have HS := Lib.hid (hsn (1, ⟨#[97]⟩, (kk : Int)) (by rw [hmk, hmq, h5]; rfl))
          clear hmk hmq hsn h5 h3 hq
          go_wp2_with (first
            | (go_at_call 19; refine (mod_any y 1048576 hy1 hy2 (by omega) (by omega) _).mono ?_; rintro e w1 ⟨rfl, rfl⟩)
            | (go_at_call 20; refine (lexeme_any _ _ _ _).mono ?_; rintro e w2 ⟨rfl, B2⟩; have HB2 := Lib.hid ((below_alloc_then HB.out B2)); have HR2 := Lib.hid (row_below (row_owned (w2 := w) HWS _) B2); clear B2)
            | (at_builtin; refine append_lex Try.underlying23 rfl (.tmp 38) (.tmp 47) rfl w.heap.size _ j ((zs.take j).map mkLi) rfl (row_owned (w2 := w) HR2.out _) ⟨w2.heap.size, 0, none⟩ [(1, ⟨#[97]⟩, (kk : Int))] 1 1 rfl rfl (src_new1 _ _ (1, ⟨#[97]⟩, (kk : Int))) (by omega) (by have := HB2.out.size; simp; omega) ?_; intro vA wA hrA hgA))
          have HA := Lib.hid (below_own (HB2.out.alloc HB2.out.size _) (row_owned (w2 := w) HR2.out _) hgA (by have := HB2.out.size; simp; omega))
          have HR3 := Lib.hid hrA
          clear hrA hgA
          go_roundw
          case rel => exact ⟨j + 1, by go_num, by omega, by omega, Lib.hid (by rw [← HS.out]; exact HR3.out), HA⟩
          case measure => simp [intOf]; omega
        · have e3 : (q : Int).tmod 5 = 1 := by rw [Int.tmod_eq_emod_of_nonneg (by omega)]; omega
          have HS := Lib.hid (hsn (1, ⟨#[90, 57]⟩, (kk : Int)) (by rw [hmk, hmq, h5]; rfl))
          clear hmk hmq hsn h5 h3 hq
          go_wp2_with (first
            | (go_at_call 19; refine (mod_any y 1048576 hy1 hy2 (by omega) (by omega) _).mono ?_; rintro e w1 ⟨rfl, rfl⟩)
            | (go_at_call 20; refine (lexeme_any _ _ _ _).mono ?_; rintro e w2 ⟨rfl, B2⟩; have HB2 := Lib.hid ((below_alloc_then HB.out B2)); have HR2 := Lib.hid (row_below (row_owned (w2 := w) HWS _) B2); clear B2)
            | (at_builtin; refine append_lex Try.underlying23 rfl (.tmp 38) (.tmp 47) rfl w.heap.size _ j ((zs.take j).map mkLi) rfl (row_owned (w2 := w) HR2.out _) ⟨w2.heap.size, 0, none⟩ [(1, ⟨#[90, 57]⟩, (kk : Int))] 1 1 rfl rfl (src_new1 _ _ (1, ⟨#[90, 57]⟩, (kk : Int))) (by omega) (by have := HB2.out.size; simp; omega) ?_; intro vA wA hrA hgA))
          have HA := Lib.hid (below_own (HB2.out.alloc HB2.out.size _) (row_owned (w2 := w) HR2.out _) hgA (by have := HB2.out.size; simp; omega))
          have HR3 := Lib.hid hrA
          clear hrA hgA
          go_roundw
          case rel => exact ⟨j + 1, by go_num, by omega, by omega, Lib.hid (by rw [← HS.out]; exact HR3.out), HA⟩
          case measure => simp [intOf]; omega
        · have e3 : (q : Int).tmod 5 = 2 := by rw [Int.tmod_eq_emod_of_nonneg (by omega)]; omega
          have HS := Lib.hid (hsn (1, ⟨#[116, 111, 107, 101, 110]⟩, (kk : Int)) (by rw [hmk, hmq, h5]; rfl))
          clear hmk hmq hsn h5 h3 hq
          go_wp2_with (first
            | (go_at_call 19; refine (mod_any y 1048576 hy1 hy2 (by omega) (by omega) _).mono ?_; rintro e w1 ⟨rfl, rfl⟩)
            | (go_at_call 20; refine (lexeme_any _ _ _ _).mono ?_; rintro e w2 ⟨rfl, B2⟩; have HB2 := Lib.hid ((below_alloc_then HB.out B2)); have HR2 := Lib.hid (row_below (row_owned (w2 := w) HWS _) B2); clear B2)
            | (at_builtin; refine append_lex Try.underlying23 rfl (.tmp 38) (.tmp 47) rfl w.heap.size _ j ((zs.take j).map mkLi) rfl (row_owned (w2 := w) HR2.out _) ⟨w2.heap.size, 0, none⟩ [(1, ⟨#[116, 111, 107, 101, 110]⟩, (kk : Int))] 1 1 rfl rfl (src_new1 _ _ (1, ⟨#[116, 111, 107, 101, 110]⟩, (kk : Int))) (by omega) (by have := HB2.out.size; simp; omega) ?_; intro vA wA hrA hgA))
          have HA := Lib.hid (below_own (HB2.out.alloc HB2.out.size _) (row_owned (w2 := w) HR2.out _) hgA (by have := HB2.out.size; simp; omega))
          have HR3 := Lib.hid hrA
          clear hrA hgA
          go_roundw
          case rel => exact ⟨j + 1, by go_num, by omega, by omega, Lib.hid (by rw [← HS.out]; exact HR3.out), HA⟩
          case measure => simp [intOf]; omega
        · have e3 : (q : Int).tmod 5 = 3 := by rw [Int.tmod_eq_emod_of_nonneg (by omega)]; omega
          have HS := Lib.hid (hsn (1, ⟨#[120, 95, 49]⟩, (kk : Int)) (by rw [hmk, hmq, h5]; rfl))
          clear hmk hmq hsn h5 h3 hq
          go_wp2_with (first
            | (go_at_call 19; refine (mod_any y 1048576 hy1 hy2 (by omega) (by omega) _).mono ?_; rintro e w1 ⟨rfl, rfl⟩)
            | (go_at_call 20; refine (lexeme_any _ _ _ _).mono ?_; rintro e w2 ⟨rfl, B2⟩; have HB2 := Lib.hid ((below_alloc_then HB.out B2)); have HR2 := Lib.hid (row_below (row_owned (w2 := w) HWS _) B2); clear B2)
            | (at_builtin; refine append_lex Try.underlying23 rfl (.tmp 38) (.tmp 47) rfl w.heap.size _ j ((zs.take j).map mkLi) rfl (row_owned (w2 := w) HR2.out _) ⟨w2.heap.size, 0, none⟩ [(1, ⟨#[120, 95, 49]⟩, (kk : Int))] 1 1 rfl rfl (src_new1 _ _ (1, ⟨#[120, 95, 49]⟩, (kk : Int))) (by omega) (by have := HB2.out.size; simp; omega) ?_; intro vA wA hrA hgA))
          have HA := Lib.hid (below_own (HB2.out.alloc HB2.out.size _) (row_owned (w2 := w) HR2.out _) hgA (by have := HB2.out.size; simp; omega))
          have HR3 := Lib.hid hrA
          clear hrA hgA
          go_roundw
          case rel => exact ⟨j + 1, by go_num, by omega, by omega, Lib.hid (by rw [← HS.out]; exact HR3.out), HA⟩
          case measure => simp [intOf]; omega
        · have e3 : (q : Int).tmod 5 = 4 := by rw [Int.tmod_eq_emod_of_nonneg (by omega)]; omega
          have HS := Lib.hid (hsn (1, ⟨#[108, 111, 111, 107, 97, 104, 101, 97, 100]⟩, (kk : Int)) (by rw [hmk, hmq, h5]; rfl))
          clear hmk hmq hsn h5 h3 hq
          go_wp2_with (first
            | (go_at_call 19; refine (mod_any y 1048576 hy1 hy2 (by omega) (by omega) _).mono ?_; rintro e w1 ⟨rfl, rfl⟩)
            | (go_at_call 20; refine (lexeme_any _ _ _ _).mono ?_; rintro e w2 ⟨rfl, B2⟩; have HB2 := Lib.hid ((below_alloc_then HB.out B2)); have HR2 := Lib.hid (row_below (row_owned (w2 := w) HWS _) B2); clear B2)
            | (at_builtin; refine append_lex Try.underlying23 rfl (.tmp 38) (.tmp 47) rfl w.heap.size _ j ((zs.take j).map mkLi) rfl (row_owned (w2 := w) HR2.out _) ⟨w2.heap.size, 0, none⟩ [(1, ⟨#[108, 111, 111, 107, 97, 104, 101, 97, 100]⟩, (kk : Int))] 1 1 rfl rfl (src_new1 _ _ (1, ⟨#[108, 111, 111, 107, 97, 104, 101, 97, 100]⟩, (kk : Int))) (by omega) (by have := HB2.out.size; simp; omega) ?_; intro vA wA hrA hgA))
          have HA := Lib.hid (below_own (HB2.out.alloc HB2.out.size _) (row_owned (w2 := w) HR2.out _) hgA (by have := HB2.out.size; simp; omega))
          have HR3 := Lib.hid hrA
          clear hrA hgA
          go_roundw
          case rel => exact ⟨j + 1, by go_num, by omega, by omega, Lib.hid (by rw [← HS.out]; exact HR3.out), HA⟩
          case measure => simp [intOf]; omega
      · have e1 : (kk : Int).tmod 3 = 1 := by rw [Int.tmod_eq_emod_of_nonneg (by omega)]; omega
        have hmq : mkN kk = (2, numT (q % 4), (kk : Int)) := by unfold mkN; rw [hq, if_neg (by omega), if_pos h3]
        rcases (show q % 4 = 0 ∨ q % 4 = 1 ∨ q % 4 = 2 ∨ q % 4 = 3 by omega) with h5 | h5 | h5 | h5
        · have e3 : (q : Int).tmod 4 = 0 := by rw [Int.tmod_eq_emod_of_nonneg (by omega)]; omega
          have HS := Lib.hid (hsn (2, ⟨#[48]⟩, (kk : Int)) (by rw [hmk, hmq, h5]; rfl))
          clear hmk hmq hsn h5 h3 hq
          go_wp2_with (first
            | (go_at_call 19; refine (mod_any y 1048576 hy1 hy2 (by omega) (by omega) _).mono ?_; rintro e w1 ⟨rfl, rfl⟩)
            | (go_at_call 20; refine (lexeme_any _ _ _ _).mono ?_; rintro e w2 ⟨rfl, B2⟩; have HB2 := Lib.hid ((below_alloc_then HB.out B2)); have HR2 := Lib.hid (row_below (row_owned (w2 := w) HWS _) B2); clear B2)
            | (at_builtin; refine append_lex Try.underlying23 rfl (.tmp 51) (.tmp 60) rfl w.heap.size _ j ((zs.take j).map mkLi) rfl (row_owned (w2 := w) HR2.out _) ⟨w2.heap.size, 0, none⟩ [(2, ⟨#[48]⟩, (kk : Int))] 1 1 rfl rfl (src_new1 _ _ (2, ⟨#[48]⟩, (kk : Int))) (by omega) (by have := HB2.out.size; simp; omega) ?_; intro vA wA hrA hgA))
          have HA := Lib.hid (below_own (HB2.out.alloc HB2.out.size _) (row_owned (w2 := w) HR2.out _) hgA (by have := HB2.out.size; simp; omega))
          have HR3 := Lib.hid hrA
          clear hrA hgA
          go_roundw
          case rel => exact ⟨j + 1, by go_num, by omega, by omega, Lib.hid (by rw [← HS.out]; exact HR3.out), HA⟩
          case measure => simp [intOf]; omega
        · have e3 : (q : Int).tmod 4 = 1 := by rw [Int.tmod_eq_emod_of_nonneg (by omega)]; omega
          have HS := Lib.hid (hsn (2, ⟨#[55]⟩, (kk : Int)) (by rw [hmk, hmq, h5]; rfl))
          clear hmk hmq hsn h5 h3 hq
          go_wp2_with (first
            | (go_at_call 19; refine (mod_any y 1048576 hy1 hy2 (by omega) (by omega) _).mono ?_; rintro e w1 ⟨rfl, rfl⟩)
            | (go_at_call 20; refine (lexeme_any _ _ _ _).mono ?_; rintro e w2 ⟨rfl, B2⟩; have HB2 := Lib.hid ((below_alloc_then HB.out B2)); have HR2 := Lib.hid (row_below (row_owned (w2 := w) HWS _) B2); clear B2)
            | (at_builtin; refine append_lex Try.underlying23 rfl (.tmp 51) (.tmp 60) rfl w.heap.size _ j ((zs.take j).map mkLi) rfl (row_owned (w2 := w) HR2.out _) ⟨w2.heap.size, 0, none⟩ [(2, ⟨#[55]⟩, (kk : Int))] 1 1 rfl rfl (src_new1 _ _ (2, ⟨#[55]⟩, (kk : Int))) (by omega) (by have := HB2.out.size; simp; omega) ?_; intro vA wA hrA hgA))
          have HA := Lib.hid (below_own (HB2.out.alloc HB2.out.size _) (row_owned (w2 := w) HR2.out _) hgA (by have := HB2.out.size; simp; omega))
          have HR3 := Lib.hid hrA
          clear hrA hgA
          go_roundw
          case rel => exact ⟨j + 1, by go_num, by omega, by omega, Lib.hid (by rw [← HS.out]; exact HR3.out), HA⟩
          case measure => simp [intOf]; omega
        · have e3 : (q : Int).tmod 4 = 2 := by rw [Int.tmod_eq_emod_of_nonneg (by omega)]; omega
          have HS := Lib.hid (hsn (2, ⟨#[49, 48]⟩, (kk : Int)) (by rw [hmk, hmq, h5]; rfl))
          clear hmk hmq hsn h5 h3 hq
          go_wp2_with (first
            | (go_at_call 19; refine (mod_any y 1048576 hy1 hy2 (by omega) (by omega) _).mono ?_; rintro e w1 ⟨rfl, rfl⟩)
            | (go_at_call 20; refine (lexeme_any _ _ _ _).mono ?_; rintro e w2 ⟨rfl, B2⟩; have HB2 := Lib.hid ((below_alloc_then HB.out B2)); have HR2 := Lib.hid (row_below (row_owned (w2 := w) HWS _) B2); clear B2)
            | (at_builtin; refine append_lex Try.underlying23 rfl (.tmp 51) (.tmp 60) rfl w.heap.size _ j ((zs.take j).map mkLi) rfl (row_owned (w2 := w) HR2.out _) ⟨w2.heap.size, 0, none⟩ [(2, ⟨#[49, 48]⟩, (kk : Int))] 1 1 rfl rfl (src_new1 _ _ (2, ⟨#[49, 48]⟩, (kk : Int))) (by omega) (by have := HB2.out.size; simp; omega) ?_; intro vA wA hrA hgA))
          have HA := Lib.hid (below_own (HB2.out.alloc HB2.out.size _) (row_owned (w2 := w) HR2.out _) hgA (by have := HB2.out.size; simp; omega))
          have HR3 := Lib.hid hrA
          clear hrA hgA
          go_roundw
          case rel => exact ⟨j + 1, by go_num, by omega, by omega, Lib.hid (by rw [← HS.out]; exact HR3.out), HA⟩
          case measure => simp [intOf]; omega
        · have e3 : (q : Int).tmod 4 = 3 := by rw [Int.tmod_eq_emod_of_nonneg (by omega)]; omega
          have HS := Lib.hid (hsn (2, ⟨#[50, 48, 48, 48]⟩, (kk : Int)) (by rw [hmk, hmq, h5]; rfl))
          clear hmk hmq hsn h5 h3 hq
          go_wp2_with (first
            | (go_at_call 19; refine (mod_any y 1048576 hy1 hy2 (by omega) (by omega) _).mono ?_; rintro e w1 ⟨rfl, rfl⟩)
            | (go_at_call 20; refine (lexeme_any _ _ _ _).mono ?_; rintro e w2 ⟨rfl, B2⟩; have HB2 := Lib.hid ((below_alloc_then HB.out B2)); have HR2 := Lib.hid (row_below (row_owned (w2 := w) HWS _) B2); clear B2)
            | (at_builtin; refine append_lex Try.underlying23 rfl (.tmp 51) (.tmp 60) rfl w.heap.size _ j ((zs.take j).map mkLi) rfl (row_owned (w2 := w) HR2.out _) ⟨w2.heap.size, 0, none⟩ [(2, ⟨#[50, 48, 48, 48]⟩, (kk : Int))] 1 1 rfl rfl (src_new1 _ _ (2, ⟨#[50, 48, 48, 48]⟩, (kk : Int))) (by omega) (by have := HB2.out.size; simp; omega) ?_; intro vA wA hrA hgA))
          have HA := Lib.hid (below_own (HB2.out.alloc HB2.out.size _) (row_owned (w2 := w) HR2.out _) hgA (by have := HB2.out.size; simp; omega))
          have HR3 := Lib.hid hrA
          clear hrA hgA
          go_roundw
          case rel => exact ⟨j + 1, by go_num, by omega, by omega, Lib.hid (by rw [← HS.out]; exact HR3.out), HA⟩
          case measure => simp [intOf]; omega
      · have e1 : (kk : Int).tmod 3 = 2 := by rw [Int.tmod_eq_emod_of_nonneg (by omega)]; omega
        have hmq : mkN kk = (3, signT (q % 4), (kk : Int)) := by unfold mkN; rw [hq, if_neg (by omega), if_neg (by omega)]
        rcases (show q % 4 = 0 ∨ q % 4 = 1 ∨ q % 4 = 2 ∨ q % 4 = 3 by omega) with h5 | h5 | h5 | h5
        · have e3 : (q : Int).tmod 4 = 0 := by rw [Int.tmod_eq_emod_of_nonneg (by omega)]; omega
          have HS := Lib.hid (hsn (3, ⟨#[61]⟩, (kk : Int)) (by rw [hmk, hmq, h5]; rfl))
          have e9 : (⟨#[61, 124, 59, 44]⟩ : ByteArray).extract 0 1 = ⟨#[61]⟩ := by decide +kernel
          clear hmk hmq hsn h5 h3 hq
          go_wp2_with (first
            | (go_at_call 19; refine (mod_any y 1048576 hy1 hy2 (by omega) (by omega) _).mono ?_; rintro e w1 ⟨rfl, rfl⟩)
            | (go_at_call 20; refine (lexeme_any _ _ _ _).mono ?_; rintro e w2 ⟨rfl, B2⟩; have HB2 := Lib.hid ((below_then HB.out B2)); have HR2 := Lib.hid (row_below HWS B2); clear B2)
            | (at_builtin; refine append_lex Try.underlying23 rfl (.tmp 23) (.tmp 34) rfl w.heap.size _ j ((zs.take j).map mkLi) rfl (row_owned (w2 := w) HR2.out _) ⟨w2.heap.size, 0, none⟩ [(3, ⟨#[61]⟩, (kk : Int))] 1 1 rfl rfl (src_new1 _ _ (3, ⟨#[61]⟩, (kk : Int))) (by omega) (by have := HB2.out.size; simp; omega) ?_; intro vA wA hrA hgA))
          have HA := Lib.hid (below_own (HB2.out.alloc HB2.out.size _) (row_owned (w2 := w) HR2.out _) hgA (by have := HB2.out.size; simp; omega))
          have HR3 := Lib.hid hrA
          clear hrA hgA
          go_roundw
          case rel => exact ⟨j + 1, by go_num, by omega, by omega, Lib.hid (by rw [← HS.out]; exact HR3.out), HA⟩
          case measure => simp [intOf]; omega
        · have e3 : (q : Int).tmod 4 = 1 := by rw [Int.tmod_eq_emod_of_nonneg (by omega)]; omega
          have HS := Lib.hid (hsn (3, ⟨#[124]⟩, (kk : Int)) (by rw [hmk, hmq, h5]; rfl))
          have e9 : (⟨#[61, 124, 59, 44]⟩ : ByteArray).extract 1 2 = ⟨#[124]⟩ := by decide +kernel
          clear hmk hmq hsn h5 h3 hq
          go_wp2_with (first
            | (go_at_call 19; refine (mod_any y 1048576 hy1 hy2 (by omega) (by omega) _).mono ?_; rintro e w1 ⟨rfl, rfl⟩)
            | (go_at_call 20; refine (lexeme_any _ _ _ _).mono ?_; rintro e w2 ⟨rfl, B2⟩; have HB2 := Lib.hid ((below_then HB.out B2)); have HR2 := Lib.hid (row_below HWS B2); clear B2)
            | (at_builtin; refine append_lex Try.underlying23 rfl (.tmp 23) (.tmp 34) rfl w.heap.size _ j ((zs.take j).map mkLi) rfl (row_owned (w2 := w) HR2.out _) ⟨w2.heap.size, 0, none⟩ [(3, ⟨#[124]⟩, (kk : Int))] 1 1 rfl rfl (src_new1 _ _ (3, ⟨#[124]⟩, (kk : Int))) (by omega) (by have := HB2.out.size; simp; omega) ?_; intro vA wA hrA hgA))
          have HA := Lib.hid (below_own (HB2.out.alloc HB2.out.size _) (row_owned (w2 := w) HR2.out _) hgA (by have := HB2.out.size; simp; omega))
          have HR3 := Lib.hid hrA
          clear hrA hgA
          go_roundw
          case rel => exact ⟨j + 1, by go_num, by omega, by omega, Lib.hid (by rw [← HS.out]; exact HR3.out), HA⟩
          case measure => simp [intOf]; omega
        · have e3 : (q : Int).tmod 4 = 2 := by rw [Int.tmod_eq_emod_of_nonneg (by omega)]; omega
          have HS := Lib.hid (hsn (3, ⟨#[59]⟩, (kk : Int)) (by rw [hmk, hmq, h5]; rfl))
          have e9 : (⟨#[61, 124, 59, 44]⟩ : ByteArray).extract 2 3 = ⟨#[59]⟩ := by decide +kernel
          clear hmk hmq hsn h5 h3 hq
          go_wp2_with (first
            | (go_at_call 19; refine (mod_any y 1048576 hy1 hy2 (by omega) (by omega) _).mono ?_; rintro e w1 ⟨rfl, rfl⟩)
            | (go_at_call 20; refine (lexeme_any _ _ _ _).mono ?_; rintro e w2 ⟨rfl, B2⟩; have HB2 := Lib.hid ((below_then HB.out B2)); have HR2 := Lib.hid (row_below HWS B2); clear B2)
            | (at_builtin; refine append_lex Try.underlying23 rfl (.tmp 23) (.tmp 34) rfl w.heap.size _ j ((zs.take j).map mkLi) rfl (row_owned (w2 := w) HR2.out _) ⟨w2.heap.size, 0, none⟩ [(3, ⟨#[59]⟩, (kk : Int))] 1 1 rfl rfl (src_new1 _ _ (3, ⟨#[59]⟩, (kk : Int))) (by omega) (by have := HB2.out.size; simp; omega) ?_; intro vA wA hrA hgA))
          have HA := Lib.hid (below_own (HB2.out.alloc HB2.out.size _) (row_owned (w2 := w) HR2.out _) hgA (by have := HB2.out.size; simp; omega))
          have HR3 := Lib.hid hrA
          clear hrA hgA
          go_roundw
          case rel => exact ⟨j + 1, by go_num, by omega, by omega, Lib.hid (by rw [← HS.out]; exact HR3.out), HA⟩
          case measure => simp [intOf]; omega
        · have e3 : (q : Int).tmod 4 = 3 := by rw [Int.tmod_eq_emod_of_nonneg (by omega)]; omega
          have HS := Lib.hid (hsn (3, ⟨#[44]⟩, (kk : Int)) (by rw [hmk, hmq, h5]; rfl))
          have e9 : (⟨#[61, 124, 59, 44]⟩ : ByteArray).extract 3 4 = ⟨#[44]⟩ := by decide +kernel
          clear hmk hmq hsn h5 h3 hq
          go_wp2_with (first
            | (go_at_call 19; refine (mod_any y 1048576 hy1 hy2 (by omega) (by omega) _).mono ?_; rintro e w1 ⟨rfl, rfl⟩)
            | (go_at_call 20; refine (lexeme_any _ _ _ _).mono ?_; rintro e w2 ⟨rfl, B2⟩; have HB2 := Lib.hid ((below_then HB.out B2)); have HR2 := Lib.hid (row_below HWS B2); clear B2)
            | (at_builtin; refine append_lex Try.underlying23 rfl (.tmp 23) (.tmp 34) rfl w.heap.size _ j ((zs.take j).map mkLi) rfl (row_owned (w2 := w) HR2.out _) ⟨w2.heap.size, 0, none⟩ [(3, ⟨#[44]⟩, (kk : Int))] 1 1 rfl rfl (src_new1 _ _ (3, ⟨#[44]⟩, (kk : Int))) (by omega) (by have := HB2.out.size; simp; omega) ?_; intro vA wA hrA hgA))
          have HA := Lib.hid (below_own (HB2.out.alloc HB2.out.size _) (row_owned (w2 := w) HR2.out _) hgA (by have := HB2.out.size; simp; omega))
          have HR3 := Lib.hid hrA
          clear hrA hgA
          go_roundw
          case rel => exact ⟨j + 1, by go_num, by omega, by omega, Lib.hid (by rw [← HS.out]; exact HR3.out), HA⟩
          case measure => simp [intOf]; omega
    · have hend : (zs.take j).map mkLi = (zs.take 40).map mkLi := by
        congr 1
        rcases (show j = 40 ∨ j = zs.length by omega) with h | h
        · rw [h]
        · rw [h, List.take_length, List.take_of_length_le (by omega)]
      have hlj : ((zs.take 40).map mkLi).length = j := by rw [← hend]; simp; omega
      have HF : Hid (∃ b c, u3 = .slice b ((zs.take 40).map mkLi).length c ∧ ((zs.take 40).map mkLi).length ≤ c ∧ c ≤ 9223372036854775807 ∧ ReadsL wr b ((zs.take 40).map mkLi)) := Lib.hid (by
        have h := HW.out
        rw [hend] at h
        rcases h.2 with ⟨rfl, h0⟩ | ⟨g, c, _, rfl, _, _, hcap, hcm, _⟩
        · exact ⟨none, 0, by rw [hlj, h0], by omega, by omega, fun i hi => by rw [hlj, h0] at hi; omega⟩
        · exact ⟨_, c, by rw [hlj], by omega, by unfold maxLen at hcm; omega, readsL_of_row hlj h⟩)
      clear hend hlj
      rcases (show ¬ j < zs.length ∨ (j < zs.length ∧ ¬ j < 40) by omega) with hx | ⟨hx, hx2⟩
      all_goals
        clear hlt
        go_wp2
        obtain ⟨b, c, rfl, h1, h2, h3⟩ := HF.out
        go_ret
        exact ⟨b, c, rfl, h1, h2, h3, HB.out⟩
end Go.Proofs.Ytjhmlmimgahnmaa.s04
