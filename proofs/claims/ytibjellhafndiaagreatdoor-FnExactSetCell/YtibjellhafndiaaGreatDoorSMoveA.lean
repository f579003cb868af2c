/- Roots: l2Root, hasRoot; MoveRoot of both packages. -/
import Derived.Test.YtibjellhafndiaaGreatDoorProg
import Derived.Test.YtibjellhafndiaaGreatDoorSLawD
import Derived.Test.YtibjellhafndiaaGreatDoorSLookS
namespace Go.Proofs.YtibjellhafndiaaGreatDoor
set_option maxRecDepth 20000
open Go.RowKit
set_option linter.unusedSimpArgs false
set_option linter.unusedVariables false

/-- A Root that is set. -/
def putY (y : Nat → Int) (r : Nat) (t n : Int) : Nat → Int := fun i => if i = 2 * r then t else if i = 2 * r + 1 then n else y i
theorem OwnF.drew {B T : Nat} {t : TypeId} {w : World} {v : Value} {n m : Nat} {f : Nat → Value} (h : OwnF B T t w v n m f) : OwnF B T t w.drew v n m f := h.block fun _ _ _ => rfl
end Go.Proofs.YtibjellhafndiaaGreatDoor
