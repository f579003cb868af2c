/- - -/
import Derived.Test.YtpipechepfipjaaGreatDoorPRowF
import Derived.Deep.QuietTactic
import Derived.BigQuiet
namespace Go.Proofs.YtpipechepfipjaaGreatDoor
set_option maxRecDepth 20000
open Go.RowKit
set_option linter.unusedSimpArgs false
set_option linter.unusedVariables false
end Go.Proofs.YtpipechepfipjaaGreatDoor
