/- What heads are, as plain propositions on whole numbers: the walks of both packages' HeadOk end in 'hOk', of PackHead in 'pack', of ReadHead in its inverse. No Go here. -/
import Derived.WalkKit
import Derived.Test.YtiglkhkfbgjjoaaDoorProg
import Derived.WalkSpells
import Derived.WalkLawsBesides
import Derived.Below
import Derived.Outline
import Derived.Deep.Light
namespace Go.Proofs.YtiglkhkfbgjjoaaDoor
set_option maxRecDepth 20000

end Go.Proofs.YtiglkhkfbgjjoaaDoor

/- The model's HeadOk answers 'hOk'. -/
namespace Go.Proofs.YtiglkhkfbgjjoaaDoor
set_option maxRecDepth 20000

open Go.RowKit
set_option linter.unusedSimpArgs false

theorem bcell {W w1 : World} {B : Nat} (hb : Below B W w1) : (∀ b o, b < B → w1.cell? ⟨b, o, none⟩ = W.cell? ⟨b, o, none⟩) ∧ (∀ b o, b < B → w1.frozen? ⟨b, o, none⟩ = W.frozen? ⟨b, o, none⟩) :=
  ⟨fun b o h => hb.cell (p := ⟨b, o, none⟩) h, fun b o h => hb.frozen (p := ⟨b, o, none⟩) h⟩
theorem below_first {w w' : World} {o : Obj} (hb : Below (w.alloc o).heap.size (w.alloc o) w') : Below w.heap.size w w' :=
  ((Below.refl _ _).alloc (Nat.le_refl _) _).trans (hb.mono (by simp))
theorem below_next {w w1 w2 : World} (hB : Below w.heap.size w w1) (hb : Below w1.heap.size w1 w2) : Below w.heap.size w w2 :=
  hB.trans (hb.mono hB.size)

end Go.Proofs.YtiglkhkfbgjjoaaDoor
