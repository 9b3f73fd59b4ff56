/-
  Layer 6: InternMerges: four tables of the law's own.
-/
import Derived.Test.YtndghjfgjkjbdaaS06ZQ
namespace Go.Proofs.Ytndghjfgjkjbdaa.s06
set_option linter.unusedVariables false
set_option linter.unusedSimpArgs false
open Go.RowKit Go.WideMaps Go.Maps
open kit

/-- and two more, with what the two packages gave -/
structure MX (w W : World) (bh bk : Nat) (a : Option Addr) (cap : Nat) (l : List ByteArray) (a2 : Option Addr) (cap2 : Nat) (m : List ByteArray) (a3 : Option Addr) (cap3 : Nat) (ks : List Int) (a1 : Option Addr) (k1 : Nat) (a4 : Option Addr) (k4 : Nat) (a5 : Option Addr) (bx bY : Nat) (xa : Option Addr) (xk : Nat) (xl : List ByteArray) (ya : Option Addr) (yk : Nat) (yl : List ByteArray) : Prop where
  S : MS w W bh bk a cap l a2 cap2 m a3 cap3 ks a1 k1 a4 k4 a5
  X : Box W 24 bx #[.slice xa xl.length xk]
  Y : Box W 24 bY #[.slice ya yl.length yk]
  RX : ReadsS W xa xl
  RY : ReadsS W ya yl
  h1 : bh < bx
  h2 : bk < bx
  h3 : bx < bY
theorem MX.below {w W : World} {bh bk : Nat} {a : Option Addr} {cap : Nat} {l : List ByteArray} {a2 : Option Addr} {cap2 : Nat} {m : List ByteArray} {a3 : Option Addr} {cap3 : Nat} {ks : List Int} {a1 : Option Addr} {k1 : Nat} {a4 : Option Addr} {k4 : Nat} {a5 : Option Addr} {W1 : World} {bx bY : Nat} {xa : Option Addr} {xk : Nat} {xl : List ByteArray} {ya : Option Addr} {yk : Nat} {yl : List ByteArray} (h : MX w W bh bk a cap l a2 cap2 m a3 cap3 ks a1 k1 a4 k4 a5 bx bY xa xk xl ya yk yl) (hB : Below W.heap.size W W1) : MX w W1 bh bk a cap l a2 cap2 m a3 cap3 ks a1 k1 a4 k4 a5 bx bY xa xk xl ya yk yl :=
  ⟨h.S.below hB, h.X.below hB, h.Y.below hB, h.RX.below hB, h.RY.below hB, h.h1, h.h2, h.h3⟩
theorem MX.setX {w W : World} {bh bk : Nat} {a : Option Addr} {cap : Nat} {l : List ByteArray} {a2 : Option Addr} {cap2 : Nat} {m : List ByteArray} {a3 : Option Addr} {cap3 : Nat} {ks : List Int} {a1 : Option Addr} {k1 : Nat} {a4 : Option Addr} {k4 : Nat} {a5 : Option Addr} {bx bY : Nat} {xa : Option Addr} {xk : Nat} {xl : List ByteArray} {ya : Option Addr} {yk : Nat} {yl : List ByteArray} (h : MX w W bh bk a cap l a2 cap2 m a3 cap3 ks a1 k1 a4 k4 a5 bx bY xa xk xl ya yk yl) {za : Option Addr} {zk : Nat} {zl : List ByteArray} (hR : ReadsS W za zl) : MX w (W.setCell ⟨bx, 0, none⟩ (.slice za zl.length zk)) bh bk a cap l a2 cap2 m a3 cap3 ks a1 k1 a4 k4 a5 bx bY za zk zl ya yk yl := by
  have h1 := h.h1
  have h2 := h.h2
  have h3 := h.h3
  have h4 := h.S.h1
  exact ⟨h.S.set h.X (by omega) h1 h2 _, h.X.set 0 (by simp) _, h.Y.other (by omega) _, reads_box_set hR h.X _, reads_box_set h.RY h.X _, h1, h2, h3⟩
theorem MX.setY {w W : World} {bh bk : Nat} {a : Option Addr} {cap : Nat} {l : List ByteArray} {a2 : Option Addr} {cap2 : Nat} {m : List ByteArray} {a3 : Option Addr} {cap3 : Nat} {ks : List Int} {a1 : Option Addr} {k1 : Nat} {a4 : Option Addr} {k4 : Nat} {a5 : Option Addr} {bx bY : Nat} {xa : Option Addr} {xk : Nat} {xl : List ByteArray} {ya : Option Addr} {yk : Nat} {yl : List ByteArray} (h : MX w W bh bk a cap l a2 cap2 m a3 cap3 ks a1 k1 a4 k4 a5 bx bY xa xk xl ya yk yl) {za : Option Addr} {zk : Nat} {zl : List ByteArray} (hR : ReadsS W za zl) : MX w (W.setCell ⟨bY, 0, none⟩ (.slice za zl.length zk)) bh bk a cap l a2 cap2 m a3 cap3 ks a1 k1 a4 k4 a5 bx bY xa xk xl za zk zl := by
  have h1 := h.h1
  have h2 := h.h2
  have h3 := h.h3
  have h4 := h.S.h1
  exact ⟨h.S.set h.Y (by omega) (by omega) (by omega) _, h.X.other (by omega) _, h.Y.set 0 (by simp) _, reads_box_set h.RX h.Y _, reads_box_set hR h.Y _, h1, h2, h3⟩
theorem row_max {w : World} {B E k : Nat} {v : Value} {xs : List Value} (h : w.ownsRow B E 1 v k xs) : k ≤ 9223372036854775807 := by
  rcases h.2 with ⟨_, h1⟩ | ⟨g, cap, cur, _, _, _, h2, h3, _⟩
  · omega
  · unfold maxLen at h3; omega
theorem TabO.max {l : List ByteArray} {B : Nat} {V : Value} {W : World} (h : TabO l B V W) : l.length ≤ 9223372036854775807 := by
  obtain ⟨v, _, hr⟩ := h
  exact row_max hr
theorem same_intsB (a b : Option Addr) (ca cb : Nat) (zs : List Int) (w : World) (hn : zs.length ≤ 9223372036854775807) (ra : Hid (ReadsI w a zs)) (rb : Hid (ReadsI w b zs)) :
    Calls Try.prog 28 #[.slice a zs.length ca, .slice b zs.length cb] w fun e w' => e = .returned (.bool true) ∧ Below w.heap.size w w' :=
  (same_ints a b ca cb zs w hn ra.out rb.out).mono fun e w' h => ⟨h.1, by obtain ⟨k, hk⟩ := h.2; subst hk; exact below_drewN (Below.refl _ _) k⟩
end Go.Proofs.Ytndghjfgjkjbdaa.s06
