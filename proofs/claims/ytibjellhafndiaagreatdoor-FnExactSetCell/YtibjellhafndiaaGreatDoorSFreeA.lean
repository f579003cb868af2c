/- The model's l2Free. -/
import Derived.Test.YtibjellhafndiaaGreatDoorProg
import Derived.Test.YtibjellhafndiaaGreatDoorSLawC
namespace Go.Proofs.YtibjellhafndiaaGreatDoor
set_option maxRecDepth 20000
open Go.RowKit
set_option linter.unusedSimpArgs false
set_option linter.unusedVariables false

end Go.Proofs.YtibjellhafndiaaGreatDoor

/- Free of both packages, at every arena. -/
namespace Go.Proofs.YtibjellhafndiaaGreatDoor
set_option maxRecDepth 20000
open Go.RowKit
set_option linter.unusedSimpArgs false
set_option linter.unusedVariables false

end Go.Proofs.YtibjellhafndiaaGreatDoor
