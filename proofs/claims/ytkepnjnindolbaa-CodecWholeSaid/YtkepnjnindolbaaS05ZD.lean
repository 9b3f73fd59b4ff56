/-
  Layer 5: what the laws' walks want besides.
-/
import Derived.Test.YtkepnjnindolbaaS05ZB
import Derived.Test.YtkepnjnindolbaaS05Y
import Derived.Test.YtkepnjnindolbaaS05ZA
namespace Go.Proofs.Ytkepnjnindolbaa.s05
set_option linter.unusedVariables false
set_option linter.unusedSimpArgs false
open Go.RowKit
open kit

theorem calls_drew {P : Program} {f : FuncId} {args : Array Value} {w : World} {p : Later w} {v : Value}
    (h : Calls P f args p.W fun e w' => e = .returned v ∧ ∃ n, w' = p.W.drewN n) : Calls P f args p.W fun e w'' => e = .returned v ∧ ∃ q : Later w, w'' = q.W :=
  h.mono fun _ W' ⟨he, n, hB⟩ => ⟨he, ⟨⟨p.W.drewN n, below_drewN p.h n⟩, hB⟩⟩
theorem RelL.below {l : List Int} {B : Nat} {V : Value} {W W' : World} (h : RelL l B V W) (hB : Below W.heap.size W W') : RelL l B V W' :=
  RelL.stays l B V W W' h hB.size (fun k _ hk => hB.block k hk)
theorem RelL.set4 {l : List Int} {B : Nat} {V : Value} {W : World} (h : RelL l B V W) (b : Nat) (hb : b < B) (y0 y1 y2 y3 : Value) : RelL l B V ((((W.setCell ⟨b, 0, none⟩ y0).setCell ⟨b, 1, none⟩ y1).setCell ⟨b, 2, none⟩ y2).setCell ⟨b, 3, none⟩ y3) := by
  have K := (KS.refl [b] W).set4 b (by simp) y0 y1 y2 y3
  exact RelL.stays l B V W _ h K.size (fun k hk hk2 => K.block k hk2 (by simp; omega))
theorem lstG_len {least greatest : Int} {s : ByteArray} : ∀ (k : Nat) (a : Int), 0 ≤ a → a ≤ s.size → ((lstG least greatest s k a).1.length : Int) ≤ s.size - a := by
  intro k
  induction k with
  | zero => intro a h0 h1; unfold lstG; simp; omega
  | succ k ih =>
    intro a h0 h1
    unfold lstG
    split
    · rename_i h
      obtain ⟨x, nx, er, p, hs⟩ : ∃ x nx er p, sgnF least greatest s a = (x, nx, er, p) := ⟨_, _, _, _, rfl⟩
      have hb := sgnF_bounds hs h0 h1
      rw [hs] at h ⊢
      simp only at h ⊢
      obtain ⟨_, _, _, _, h2, h3, _⟩ := hb.1 h
      have := ih nx (by omega) h3
      split
      · simp only [List.length_cons]; omega
      · omega
    · simp; omega
theorem lstF_lenle {most least greatest : Int} {s : ByteArray} {a : Int} (h0 : 0 ≤ a) (h1 : a ≤ s.size) : ((lstF most least greatest s a).1.length : Int) ≤ s.size := by
  unfold lstF
  split
  · simp
  · split
    · rename_i h
      obtain ⟨n, nx, er, p, hs⟩ : ∃ n nx er p, lenF most s a = (n, nx, er, p) := ⟨_, _, _, _, rfl⟩
      have hb := lenF_bounds hs h0 h1
      rw [hs] at h ⊢
      simp only at h ⊢
      obtain ⟨_, _, h2, h3, _⟩ := hb.1 h
      have := lstG_len (least := least) (greatest := greatest) (s := s) n.toNat nx (by omega) h3
      omega
    · simp
theorem fldL_len {most least greatest : Int} {s : ByteArray} {p e o : Int} {r : ByteArray × Int × Int × Int} {l : List Int} (h : fldR ([] : List Int) (lstF most least greatest) s p e o = (r, l)) : l.length ≤ 20000 := by
  obtain ⟨s0, p0, e0, o0, hc⟩ : ∃ s0 p0 e0 o0, cnt s p e o = (s0, p0, e0, o0) := ⟨_, _, _, _, rfl⟩
  obtain ⟨r1, r2, r3, r4, r5, r6, r7⟩ := cnt_ok hc
  have hl := lstF_lenle (most := most) (least := least) (greatest := greatest) (s := s0) (a := p0) r2 r3
  unfold fldR at h
  rw [hc] at h
  simp only at h
  split at h
  · split at h
    · have := congrArg Prod.snd h; simp only at this; rw [← this]; omega
    · have := congrArg Prod.snd h; simp only at this; rw [← this]; omega
  · have := congrArg Prod.snd h; simp only at this; rw [← this]; simp
end Go.Proofs.Ytkepnjnindolbaa.s05
