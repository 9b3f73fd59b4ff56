/-
  Layer 6, the program's side: intern and add by one specification; name; plain; made.
-/
import Derived.Test.YtndghjfgjkjbdaaS06I
namespace Go.Proofs.Ytndghjfgjkjbdaa.s06
set_option linter.unusedVariables false
set_option linter.unusedSimpArgs false
open Go.RowKit Go.WideMaps Go.Maps
open kit

/-- what putting a name into a valid table gives: the names, the number, the error -/
def putP (l : List ByteArray) (s : ByteArray) (once : Bool) : List ByteArray × Int × Int :=
  if s03.checkR s.data.toList = 0 then (if ix l s < l.length then (if once = true then (l, 0, 8) else (l, (ix l s : Int), 0)) else if l.length = 32 then (l, 0, 6) else (l ++ [s], (l.length : Int), 0)) else (l, 0, s03.checkR s.data.toList)
theorem wordR_not7 (x : List UInt8) : s03.wordR x ≠ 7 := by
  unfold s03.wordR
  split
  · decide
  · split
    · decide
    · split <;> decide
theorem checkR_not7 (x : List UInt8) : s03.checkR x ≠ 7 := by
  unfold s03.checkR
  split
  · decide
  · exact wordR_not7 x
/-- what intern and add leave -/
def PutOk (b bm base : Nat) (l' : List ByteArray) (n er e0 : Int) (w : World) (e : Ending) (w' : World) : Prop :=
  ∃ v', e = .returned (.tuple #[.int .i64 n, .int .i64 er]) ∧ Wk w' b bm base v' l' e0 ∧ KT base b bm w w'
theorem putOk_below {b bm base : Nat} {v : Value} {l : List ByteArray} {n er e0 : Int} {w w' : World} {e : Ending} (hW : Wk w b bm base v l e0) (h1 : e = .returned (.tuple #[.int .i64 n, .int .i64 er])) (h2 : Below w.heap.size w w') : PutOk b bm base l n er e0 w e w' :=
  ⟨v, h1, hW.below h2, .of_below h2⟩
theorem internp_any (b bm base : Nat) (v : Value) (l : List ByteArray) (e0 : Int) (s : ByteArray) (l' : List ByteArray) (n er : Int) (w : World) (hs : s.size ≤ 9223372036854775807) (hW : Hid (Wk w b bm base v l e0)) (H : Hid (putP l s false = (l', n, er))) (hn : l.length ≤ 1000) (hbase : base ≤ w.heap.size) :
    Calls Try.prog 50 #[.pointer (some ⟨b, 0, none⟩), .string s] w (PutOk b bm base l' n er e0 w) := by
  have HX := H.out
  unfold putP at HX
  by_cases h0 : s03.checkR s.data.toList = 0
  · rw [if_pos h0] at HX
    by_cases h1 : ix l s < l.length
    · rw [if_pos h1, if_neg (by simp)] at HX
      have hf : findP l s = ((ix l s : Int), 0) := by unfold findP; rw [if_pos h0, if_pos h1]
      cases HX
      exact (intern_old b bm base v l e0 s _ 0 w hs hW (Lib.hid hf) (by decide)).mono fun e w' h => putOk_below hW.out h.1 h.2
    · rw [if_neg h1] at HX
      have hf : findP l s = (0, 7) := by unfold findP; rw [if_pos h0, if_neg h1]
      by_cases h2 : l.length = 32
      · rw [if_pos h2] at HX
        cases HX
        exact (intern_full b bm base v l e0 s 0 w hs hW (Lib.hid hf) h2).mono fun e w' h => putOk_below hW.out h.1 h.2
      · rw [if_neg h2] at HX
        cases HX
        exact (intern_new b bm base v l e0 s 0 w hs hW (Lib.hid hf) (by omega) hn hbase (Lib.hid fun hm => h1 (ix_mem.mpr hm))).mono fun e w' h => h
  · rw [if_neg h0] at HX
    have hf : findP l s = (0, s03.checkR s.data.toList) := by unfold findP; rw [if_neg h0]
    cases HX
    exact (intern_old b bm base v l e0 s 0 _ w hs hW (Lib.hid hf) (checkR_not7 _)).mono fun e w' h => putOk_below hW.out h.1 h.2
set_option maxRecDepth 100000 in
set_option maxHeartbeats 1000000 in
theorem addp_any (b bm base : Nat) (v : Value) (l : List ByteArray) (e0 : Int) (s : ByteArray) (l' : List ByteArray) (n er : Int) (w : World) (hs : s.size ≤ 9223372036854775807) (hW : Hid (Wk w b bm base v l e0)) (H : Hid (putP l s true = (l', n, er))) (hn : l.length ≤ 1000) (hbase : base ≤ w.heap.size) :
    Calls Try.prog 53 #[.pointer (some ⟨b, 0, none⟩), .string s] w (PutOk b bm base l' n er e0 w) := by
  have c1 := hW.out.box.cell 1
  have HM := Lib.hid hW.out.map
  by_cases hh : findP l s = ((ix l s : Int), 0)
  · have HF := Lib.hid hh
    have HX := H.out
    unfold findP at hh
    by_cases h0 : s03.checkR s.data.toList = 0
    · rw [if_pos h0] at hh
      by_cases h1 : ix l s < l.length
      · unfold putP at HX
        rw [if_pos h0, if_pos h1, if_pos rfl] at HX
        cases HX
        clear hh h0 h1
        generalize hi : (ix l s : Int) = i at HF
        clear hi
        go_enter Try.func53, Try.ntmps53
        go_wp2_with (first
          | (go_at_call 55; refine (findp_any bm l s i 0 _ hs HM HF).mono ?_; rintro e w2 ⟨rfl, hB⟩; have B2 := Lib.hid hB; clear hB))
        go_ret2
        exact putOk_below hW.out rfl B2.out
      · rw [if_neg h1] at hh
        exact absurd (congrArg Prod.snd hh) (by simp)
    · rw [if_neg h0] at hh
      exact absurd (congrArg Prod.snd hh) h0
  · have H2 : putP l s false = (l', n, er) := by
      have HX := H.out
      unfold findP at hh
      unfold putP at HX ⊢
      by_cases h0 : s03.checkR s.data.toList = 0
      · rw [if_pos h0] at HX hh ⊢
        by_cases h1 : ix l s < l.length
        · rw [if_pos h1] at hh
          exact absurd rfl hh
        · rw [if_neg h1] at HX ⊢
          exact HX
      · rw [if_neg h0] at HX ⊢
        exact HX
    have hf : ∃ i q, findP l s = (i, q) ∧ q ≠ 0 := by
      unfold findP at hh ⊢
      by_cases h0 : s03.checkR s.data.toList = 0
      · rw [if_pos h0] at hh ⊢
        by_cases h1 : ix l s < l.length
        · rw [if_pos h1] at hh
          exact absurd rfl hh
        · rw [if_neg h1]
          exact ⟨_, _, rfl, by decide⟩
      · rw [if_neg h0]
        exact ⟨_, _, rfl, h0⟩
    obtain ⟨i, q, hf, hq⟩ := hf
    have HF := Lib.hid hf
    have HP := Lib.hid H2
    clear hf H2 hh H
    go_enter Try.func53, Try.ntmps53
    go_wp2_with (first
      | (go_at_call 55; refine (findp_any bm l s i q _ hs HM HF).mono ?_; rintro e w2 ⟨rfl, hB⟩; have B2 := Lib.hid hB; have W2 := Lib.hid (hW.out.below hB); clear hB)
      | (go_at_call 50; refine (internp_any b bm base v l e0 s l' n er _ hs W2 HP hn (Nat.le_trans hbase B2.out.size)).mono ?_; rintro e w3 ⟨v', rfl, hW3, hK3⟩; have W3 := Lib.hid hW3; have K3 := Lib.hid ((KT.of_below B2.out).trans hK3); clear hW3 hK3))
    go_ret2
    exact ⟨_, rfl, W3.out, K3.out⟩
end Go.Proofs.Ytndghjfgjkjbdaa.s06
