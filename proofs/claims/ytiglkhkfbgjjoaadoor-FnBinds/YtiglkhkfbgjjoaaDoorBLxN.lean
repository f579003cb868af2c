/- The model's l8Token: digits. -/
import Derived.Test.YtiglkhkfbgjjoaaDoorProg
import Derived.Test.YtiglkhkfbgjjoaaDoorBLxM
import Derived.Deep.RegionHeld3
import Derived.BigQuiet
namespace Go.Proofs.YtiglkhkfbgjjoaaDoor
set_option maxRecDepth 20000
open Go.RowKit Go.PlainAid
set_option linter.unusedSimpArgs false
set_option linter.unusedVariables false

/-- The result's box and the token's, in a world. -/
structure TkB (w W : World) (B : Array Value) : Prop where
  c1 : ∀ i, W.cell? ⟨w.heap.size, i, none⟩ = (#[.int .i64 0, .int .i64 0, .string ⟨#[]⟩, .int .i64 0] : Array Value)[i]?
  c2 : ∀ i, W.cell? ⟨w.heap.size + 1, i, none⟩ = B[i]?
  z : w.heap.size + 1 < W.heap.size
  b : Below w.heap.size w W
  f1 : ∀ i, W.frozen? ⟨w.heap.size, i, none⟩ = false
  f2 : ∀ i, W.frozen? ⟨w.heap.size + 1, i, none⟩ = false
theorem TkB.of {w W : World} {B : Array Value} {t : TypeId} (hB : Below ((w.alloc (.cells #[.int .i64 0, .int .i64 0, .string ⟨#[]⟩, .int .i64 0] t)).alloc (.cells B t)).heap.size ((w.alloc (.cells #[.int .i64 0, .int .i64 0, .string ⟨#[]⟩, .int .i64 0] t)).alloc (.cells B t)) W) : TkB w W B := by
  obtain ⟨h1, h2, h3, h4, h5, h6⟩ := tok_cells hB
  exact ⟨h1, h2, h3, h4, h5, h6⟩
theorem TkB.drew {w W : World} {B : Array Value} (h : TkB w W B) : TkB w W.drew B := ⟨h.c1, h.c2, h.z, h.b.drew, h.f1, h.f2⟩
theorem TkB.keep {w W V : World} {B : Array Value} (h : TkB w W B) (hb : Below W.heap.size W V) : TkB w V B := by
  have hz := h.z
  refine ⟨fun i => ?_, fun i => ?_, Nat.lt_of_lt_of_le hz hb.size, below_next h.b hb, fun i => ?_, fun i => ?_⟩
  · rw [hb.cell (p := ⟨w.heap.size, i, none⟩) (by dsimp only; omega)]; exact h.c1 i
  · rw [hb.cell (p := ⟨w.heap.size + 1, i, none⟩) (by dsimp only; omega)]; exact h.c2 i
  · rw [hb.frozen (p := ⟨w.heap.size, i, none⟩) (by dsimp only; omega)]; exact h.f1 i
  · rw [hb.frozen (p := ⟨w.heap.size + 1, i, none⟩) (by dsimp only; omega)]; exact h.f2 i
end Go.Proofs.YtiglkhkfbgjjoaaDoor
