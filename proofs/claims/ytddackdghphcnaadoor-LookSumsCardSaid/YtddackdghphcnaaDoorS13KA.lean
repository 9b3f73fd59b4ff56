/-
  Layer 13: reading from a list of looks, by specifications.
-/
import Derived.Test.YtddackdghphcnaaDoorS13L
import Derived.Test.YtddackdghphcnaaDoorKitFrame
import Derived.Test.YtddackdghphcnaaDoorS13AW
namespace Go.Proofs.YtddackdghphcnaaDoor.s13
set_option linter.unusedVariables false
set_option linter.unusedSimpArgs false
open Go.RowKit
open kit

theorem at5_of {w : World} {b o : Nat} {l : List V5} (h : Reads5 w (some ⟨b, o, none⟩) l) (i : Nat) (hi : i < l.length) {x : V5} (hx : l[i]?.getD no5 = x) : At5 w b (o + i * 5) x := by
  obtain ⟨b', o', e, _, h5⟩ := h i hi
  cases e
  rw [hx] at h5
  exact h5
theorem load_at5 {w : World} {b o : Nat} {n x y z u : Int} (h : At5 w b o (n, x, y, z, u)) : (Instr.loadAt 25 (.pointer (some ⟨b, o, none⟩))).run Tryd.prog w = .ok (.agg #[.int .i64 n, .int .i64 x, .int .i64 y, .int .i64 z, .int .i64 u]) w := by
  obtain ⟨z0, z1, z2, z3, z4⟩ := h
  simp only at z0 z1 z2 z3 z4
  simp [go_sem, z0, z1, z2, z3, z4]
theorem idx5_0 (b o c : Nat) (w : World) : (Instr.indexAt 48 (.slice (some ⟨b, o, none⟩) 3 c) (.int .i64 0)).run Tryd.prog w = .ok (.pointer (some ⟨b, o + 0 * 5, none⟩)) w := by simp [go_sem]
theorem idx5_1 (b o c : Nat) (w : World) : (Instr.indexAt 48 (.slice (some ⟨b, o, none⟩) 3 c) (.int .i64 1)).run Tryd.prog w = .ok (.pointer (some ⟨b, o + 1 * 5, none⟩)) w := by simp [go_sem]
theorem idx5_2 (b o c : Nat) (w : World) : (Instr.indexAt 48 (.slice (some ⟨b, o, none⟩) 3 c) (.int .i64 2)).run Tryd.prog w = .ok (.pointer (some ⟨b, o + 2 * 5, none⟩)) w := by simp [go_sem]
theorem spS_keeps {l : List Sp} (h : ∀ s ∈ l, (∃ c, s = .con c) ∨ ∃ xs, s = SlI xs) : ∀ s ∈ l, s.Keeps := by
  intro s hs
  rcases h s hs with ⟨c, rfl⟩ | ⟨xs, rfl⟩
  · exact con_keeps c
  · exact SlI.keeps xs
end Go.Proofs.YtddackdghphcnaaDoor.s13
