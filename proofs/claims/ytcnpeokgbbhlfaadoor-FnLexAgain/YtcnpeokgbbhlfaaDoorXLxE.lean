/- The laws' markText. -/
import Derived.Test.YtcnpeokgbbhlfaaDoorProg
import Derived.Test.YtcnpeokgbbhlfaaDoorXLxT
namespace Go.Proofs.YtcnpeokgbbhlfaaDoor
set_option maxRecDepth 20000
open Go.RowKit Go.PlainAid
set_option linter.unusedSimpArgs false
set_option linter.unusedVariables false

end Go.Proofs.YtcnpeokgbbhlfaaDoor
