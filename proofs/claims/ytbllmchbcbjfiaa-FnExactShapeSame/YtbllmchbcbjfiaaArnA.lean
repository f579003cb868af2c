/- The laws' own helpers over arenas: eqArena of two alike, markArena, heldArena. -/
import Derived.Test.YtbllmchbcbjfiaaProg
import Derived.Test.YtbllmchbcbjfiaaValsA
namespace Go.Proofs.Ytbllmchbcbjfiaa
set_option maxRecDepth 20000
open Go.RowKit
set_option linter.unusedSimpArgs false
set_option linter.unusedVariables false

theorem two_cells {w w' : World} {A B : Array Value} {t : TypeId} (hB : Below ((w.alloc (.cells A t)).alloc (.cells B t)).heap.size ((w.alloc (.cells A t)).alloc (.cells B t)) w') :
    (∀ i, w'.cell? ⟨w.heap.size, i, none⟩ = A[i]?) ∧ (∀ i, w'.cell? ⟨w.heap.size + 1, i, none⟩ = B[i]?) := by
  refine ⟨fun i => ?_, fun i => ?_⟩
  · rw [hB.cell (p := ⟨w.heap.size, i, none⟩) (by simp; omega)]; simp [go_sem]
  · rw [hB.cell (p := ⟨w.heap.size + 1, i, none⟩) (by simp)]; simp [go_sem]

theorem one_cells {w w' : World} {A : Array Value} {t : TypeId} {C : Nat} (hB : Below C (w.alloc (.cells A t)) w') (hC : w.heap.size < C) : ∀ i, w'.cell? ⟨w.heap.size, i, none⟩ = A[i]? := by
  intro i
  rw [hB.cell (p := ⟨w.heap.size, i, none⟩) hC]; simp [go_sem]
theorem one_apart {w w' : World} {A : Array Value} {t : TypeId} {B T : Nat} (hB : Apart B T (w.alloc (.cells A t)) w') (hT : T ≤ w.heap.size) : ∀ i, w'.cell? ⟨w.heap.size, i, none⟩ = A[i]? := by
  intro i
  rw [World.cell?_of_block (w := w.alloc (.cells A t)) (hB.block w.heap.size (by simp) (.inr hT))]; simp [go_sem]

theorem has_below {w w' : World} {C b : Nat} {A : Array Value} (h : ∀ i, w.cell? ⟨b, i, none⟩ = A[i]?) (hb : Below C w w') (hC : b < C) : ∀ i, w'.cell? ⟨b, i, none⟩ = A[i]? := fun i => by
  rw [hb.cell (p := ⟨b, i, none⟩) hC]; exact h i
theorem has_apart {w w' : World} {B T b : Nat} {A : Array Value} (h : ∀ i, w.cell? ⟨b, i, none⟩ = A[i]?) (hb : Apart B T w w') (h1 : b < w.heap.size) (h2 : b < B ∨ T ≤ b) : ∀ i, w'.cell? ⟨b, i, none⟩ = A[i]? := fun i => by
  rw [World.cell?_of_block (w := w) (hb.block b h1 h2)]; exact h i

end Go.Proofs.Ytbllmchbcbjfiaa
