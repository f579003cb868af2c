/- - -/
import Derived.Test.YtaapiedminakcaaGreatFHeadL
namespace Go.Proofs.YtaapiedminakcaaGreat
set_option maxRecDepth 20000
open Go.RowKit
set_option linter.unusedSimpArgs false
set_option linter.unusedVariables false
end Go.Proofs.YtaapiedminakcaaGreat
