/- - -/
import Derived.Test.YtiglkhkfbgjjoaaGreatDoorPRowF
import Derived.Deep.QuietTactic
import Derived.BigQuiet
namespace Go.Proofs.YtiglkhkfbgjjoaaGreatDoor
set_option maxRecDepth 20000
open Go.RowKit
set_option linter.unusedSimpArgs false
set_option linter.unusedVariables false
end Go.Proofs.YtiglkhkfbgjjoaaGreatDoor
