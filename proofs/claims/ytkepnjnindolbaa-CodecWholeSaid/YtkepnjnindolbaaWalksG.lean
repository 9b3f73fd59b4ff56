/-
  The contracts of Parse and Bounded, of the program and of the reference.
-/
import Derived.Test.YtkepnjnindolbaaWalksF
import Derived.RegionTactic
import Derived.RangeFuncRecord
namespace Go.Proofs.Ytkepnjnindolbaa
set_option linter.unusedVariables false
open Go.RowKit

theorem bcell {W w1 : World} (hb : Below W.heap.size W w1) : (∀ b o, b < W.heap.size → w1.cell? ⟨b, o, none⟩ = W.cell? ⟨b, o, none⟩) ∧ (∀ b o, b < W.heap.size → w1.frozen? ⟨b, o, none⟩ = W.frozen? ⟨b, o, none⟩) :=
  ⟨fun b o h => hb.cell (p := ⟨b, o, none⟩) h, fun b o h => hb.frozen (p := ⟨b, o, none⟩) h⟩

theorem box2 {w w1 : World} {x y : Value} {t : TypeId} (hb : Below (w.alloc (.cells #[x, y] t)).heap.size (w.alloc (.cells #[x, y] t)) w1) :
    (w1.cell? ⟨w.heap.size, 0, none⟩ = some x ∧ w1.cell? ⟨w.heap.size, 1, none⟩ = some y) ∧ (w1.frozen? ⟨w.heap.size, 0, none⟩ = false ∧ w1.frozen? ⟨w.heap.size, 1, none⟩ = false) ∧ w.heap.size < w1.heap.size := by
  have hs : w.heap.size < (w.alloc (.cells #[x, y] t)).heap.size := by simp
  obtain ⟨hc, hf⟩ := bcell hb
  have hk : (w.alloc (.cells #[x, y] t)).heap[w.heap.size]? = some (.cells #[x, y] t) := World.alloc_heap_new w _
  refine ⟨⟨?_, ?_⟩, ⟨?_, ?_⟩, Nat.lt_of_lt_of_le hs hb.size⟩
  · rw [hc _ _ hs]; unfold World.cell?; rw [hk]; rfl
  · rw [hc _ _ hs]; unfold World.cell?; rw [hk]; rfl
  · rw [hf _ _ hs]; unfold World.frozen?; rw [hk]; rfl
  · rw [hf _ _ hs]; unfold World.frozen?; rw [hk]; rfl


/-- what Parse answers: number, error, its offset -/
def prs (s : ByteArray) : Int × Int × Int :=
  if (rd s 0).2.2.1 = 0 then (if (rd s 0).2.1 < s.size then (0, 4, (rd s 0).2.1) else ((rd s 0).1, 0, 0)) else (0, (rd s 0).2.2.1, (rd s 0).2.2.2)
end Go.Proofs.Ytkepnjnindolbaa
