/- The model's l8Letter, l8Digit, l8Plain, l8Marks, l8Token. -/
import Derived.Test.YtiglkhkfbgjjoaaDoorProg
import Derived.Test.YtiglkhkfbgjjoaaDoorBLxA
namespace Go.Proofs.YtiglkhkfbgjjoaaDoor
set_option maxRecDepth 20000
open Go.RowKit Go.PlainAid
set_option linter.unusedSimpArgs false
set_option linter.unusedVariables false

theorem tok_cells {w W : World} {A B : Array Value} {t : TypeId} (hB : Below ((w.alloc (.cells A t)).alloc (.cells B t)).heap.size ((w.alloc (.cells A t)).alloc (.cells B t)) W) :
    (∀ i, W.cell? ⟨w.heap.size, i, none⟩ = A[i]?) ∧ (∀ i, W.cell? ⟨w.heap.size + 1, i, none⟩ = B[i]?) ∧ w.heap.size + 1 < W.heap.size ∧ Below w.heap.size w W ∧ (∀ i, W.frozen? ⟨w.heap.size, i, none⟩ = false) ∧ (∀ i, W.frozen? ⟨w.heap.size + 1, i, none⟩ = false) := by
  refine ⟨fun i => ?_, fun i => ?_, ?_, ?_, fun i => ?_, fun i => ?_⟩
  · rw [hB.cell (p := ⟨w.heap.size, i, none⟩) (by simp; omega)]; simp [go_sem]
  · rw [hB.cell (p := ⟨w.heap.size + 1, i, none⟩) (by simp)]; simp [go_sem]
  · have := hB.size
    simp at this
    omega
  · exact below_next (((Below.refl w.heap.size w).alloc (Nat.le_refl _) _).alloc (by simp) _) hB
  · rw [hB.frozen (p := ⟨w.heap.size, i, none⟩) (by simp; omega)]; simp [go_sem]
  · rw [hB.frozen (p := ⟨w.heap.size + 1, i, none⟩) (by simp)]; simp [go_sem]
end Go.Proofs.YtiglkhkfbgjjoaaDoor
