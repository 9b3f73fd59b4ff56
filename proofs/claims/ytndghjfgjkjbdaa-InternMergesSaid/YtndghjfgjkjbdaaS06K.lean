/-
  Layer 6, the program's side: name; plain; made.
-/
import Derived.Test.YtndghjfgjkjbdaaS06J
namespace Go.Proofs.Ytndghjfgjkjbdaa.s06
set_option linter.unusedVariables false
set_option linter.unusedSimpArgs false
open Go.RowKit Go.WideMaps Go.Maps
open kit

/-- what name answers -/
def nameP (l : List ByteArray) (n : Int) : ByteArray × Int := if n < 0 ∨ (l.length : Int) ≤ n then (⟨#[]⟩, 2) else (l[n.toNat]?.getD ByteArray.empty, 0)
set_option maxRecDepth 100000 in
set_option maxHeartbeats 1000000 in
theorem namep_any (b bm base : Nat) (v : Value) (l : List ByteArray) (e0 n : Int) (x : ByteArray) (er : Int) (w : World) (hW : Hid (Wk w b bm base v l e0)) (H : Hid (nameP l n = (x, er))) (hn : l.length ≤ 1000) :
    Calls Try.prog 58 #[.pointer (some ⟨b, 0, none⟩), .int .i64 n] w fun e w' => e = .returned (.tuple #[.string x, .int .i64 er]) ∧ w = w' := by
  obtain ⟨a, k, rfl⟩ := hW.out.shape
  have HR := Lib.hid hW.out.reads
  have c0 := hW.out.box.cell 0
  have HX := H.out
  unfold nameP at HX
  clear H
  by_cases h1 : n < 0 ∨ (l.length : Int) ≤ n
  · rw [if_pos h1] at HX
    have HZ := Lib.hid HX
    have hc : n < 0 ∨ (¬ n < 0 ∧ (l.length : Int) ≤ n) := by omega
    clear h1 HX
    rcases hc with h1 | ⟨h1, h2⟩
    all_goals
      go_enter Try.func58, Try.ntmps58
      go_wp2
      go_ret2
      exact ⟨ret_si HZ.out, rfl⟩
  · rw [if_neg h1] at HX
    obtain ⟨j, rfl⟩ := Int.eq_ofNat_of_zero_le (show 0 ≤ n by omega)
    have hk : j < l.length := by omega
    rw [Int.toNat_natCast] at HX
    have h2 : ¬ ((j : Int) < 0) := by omega
    have h3 : ¬ ((l.length : Int) ≤ j) := by omega
    clear h1
    obtain ⟨b1, off, rfl, hb, hcl⟩ := HR.out j hk
    generalize hy : l[j]?.getD ByteArray.empty = y at HX hcl
    have HZ := Lib.hid HX
    clear HX hy
    go_enter Try.func58, Try.ntmps58
    go_wp2
    go_ret2
    exact ⟨ret_si HZ.out, rfl⟩
/-- the names, if there is no error -/
def plainV (v : Value) (er : Int) : Value := if er = 0 then v else .slice none 0 0
set_option maxRecDepth 100000 in
set_option maxHeartbeats 1000000 in
theorem plainp_any (b bm base : Nat) (v : Value) (l : List ByteArray) (er : Int) (w : World) (hW : Hid (Wk w b bm base v l er)) :
    Calls Try.prog 45 #[.pointer (some ⟨b, 0, none⟩)] w fun e w' => e = .returned (.agg #[plainV v er]) ∧ Below w.heap.size w w' := by
  obtain ⟨a, k, rfl⟩ := hW.out.shape
  have X1 := Lib.hid (Box.new w 24 #[.slice none 0 0])
  have B1 := Lib.hid ((Below.refl w.heap.size w).alloc (Nat.le_refl _) (.cells #[.slice none 0 0] 24))
  have T1 := Lib.hid (hW.out.box.below B1.out)
  have c0 := T1.out.cell 0
  have c2 := T1.out.cell 2
  have d0 := X1.out.cell 0
  have f0 := X1.out.free 0
  have lx := X1.out.lt
  have lb := hW.out.box.lt
  by_cases h0 : er = 0
  · subst h0
    have HP : Hid (plainV (.slice a l.length k) 0 = .slice a l.length k) := Lib.hid (if_pos rfl)
    go_enter Try.func45, Try.ntmps45
    go_wp2
    have g0 := (X1.out.set 0 (by simp) (.slice a l.length k)).cell 0
    exact bodyPost_ret (v := .agg #[.slice a l.length k]) (by simp [results, Try.results45, go_sem, g0]) rfl ⟨by rw [HP.out], (Below.refl w.heap.size w).alloc (Nat.le_refl _) _⟩
  · have HP : Hid (plainV (.slice a l.length k) er = .slice none 0 0) := Lib.hid (if_neg h0)
    go_enter Try.func45, Try.ntmps45
    go_wp2
    have g0 := (X1.out.set 0 (by simp) (.slice none 0 0)).cell 0
    exact bodyPost_ret (v := .agg #[.slice none 0 0]) (by simp [results, Try.results45, go_sem, g0]) rfl ⟨by rw [HP.out], (Below.refl w.heap.size w).alloc (Nat.le_refl _) _⟩
theorem take_snocS (l : List ByteArray) (k : Nat) (h : k < l.length) : l.take (k + 1) = l.take k ++ [l[k]?.getD ByteArray.empty] := by
  rw [List.take_add_one, List.getElem?_eq_getElem h]; rfl
/-- one round of made -/
theorem made_step (l : List ByteArray) (k : Nat) (hk : k < l.length) (h32 : l.length ≤ 32) : ∃ l' n, putP (l.take k) (l[k]?.getD ByteArray.empty) true = (l', n, badK l k) ∧ (badK l k = 0 → l' = l.take (k + 1)) ∧ l'.length ≤ 32 := by
  have hlen : (l.take k).length = k := by rw [List.length_take]; omega
  unfold putP badK
  rw [hlen]
  by_cases h0 : s03.checkR (l[k]?.getD ByteArray.empty).data.toList = 0
  · rw [if_pos h0, if_pos h0]
    by_cases h1 : ix (l.take k) (l[k]?.getD ByteArray.empty) < k
    · rw [if_pos h1, if_pos rfl, if_pos h1]
      exact ⟨_, _, rfl, fun h => absurd h (by decide), by omega⟩
    · rw [if_neg h1, if_neg h1, if_neg (by omega)]
      exact ⟨_, _, rfl, fun _ => (take_snocS l k hk).symm, by rw [List.length_append, hlen, List.length_singleton]; omega⟩
  · rw [if_neg h0, if_neg h0]
    exact ⟨_, _, rfl, fun h => absurd h h0, by omega⟩
def MadeP (names : List ByteArray) (er p : Int) (w : World) (e : Ending) (w' : World) : Prop :=
  ∃ v l', e = .returned (.tuple #[.pointer (some ⟨w.heap.size + 1, 0, none⟩), .int .i64 p]) ∧ Wk w' (w.heap.size + 1) w.heap.size (w.heap.size + 2) v l' er ∧ (er = 0 → l' = names) ∧ l'.length ≤ 32 ∧ w.heap.size + 2 ≤ w'.heap.size ∧ Below w.heap.size w w'
end Go.Proofs.Ytndghjfgjkjbdaa.s06
