/- The laws' eqTokenS, markTokenS, heldTokenS. -/
import Derived.Test.YtiglkhkfbgjjoaaDoorProg
import Derived.Test.YtiglkhkfbgjjoaaDoorXLxE
import Derived.Deep.RegionHeld3
namespace Go.Proofs.YtiglkhkfbgjjoaaDoor
set_option maxRecDepth 20000
open Go.RowKit Go.PlainAid
set_option linter.unusedSimpArgs false
set_option linter.unusedVariables false

/-- The cells of a row of tokens. -/
def tkF (X : List TokD) (i : Nat) : Value := ((tokCells X)[i]?).getD undef
theorem tkF_at {X : List TokD} {j : Nat} (h : j < X.length) : tkF X (j * 4) = .int .i64 X[j].k ∧ tkF X (j * 4 + 1) = .int .i64 (X[j].at_ : Int) ∧ tkF X (j * 4 + 2) = .string X[j].tx ∧ tkF X (j * 4 + 3) = .int .i64 X[j].n := by
  obtain ⟨a, b, c, d⟩ := tokCells_at h
  unfold tkF
  rw [a, b, c, d]
  exact ⟨rfl, rfl, rfl, rfl⟩
end Go.Proofs.YtiglkhkfbgjjoaaDoor
