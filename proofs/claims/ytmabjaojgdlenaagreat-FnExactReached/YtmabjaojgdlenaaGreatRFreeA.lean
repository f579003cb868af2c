/- - -/
import Derived.Test.YtmabjaojgdlenaaGreatRLawC
namespace Go.Proofs.YtmabjaojgdlenaaGreat
set_option maxRecDepth 20000
open Go.RowKit
set_option linter.unusedSimpArgs false
set_option linter.unusedVariables false
end Go.Proofs.YtmabjaojgdlenaaGreat
