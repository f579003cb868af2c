/- - -/
import Derived.Test.YtblcfbhlmdhnpaaGreatBArenaA
import Derived.Test.YtblcfbhlmdhnpaaGreatBGetA
import Derived.Deep.RegionHeld3
import Derived.Deep.CutRange
namespace Go.Proofs.YtblcfbhlmdhnpaaGreat
set_option maxRecDepth 20000
open Go.RowKit
set_option linter.unusedSimpArgs false
set_option linter.unusedVariables false
end Go.Proofs.YtblcfbhlmdhnpaaGreat
