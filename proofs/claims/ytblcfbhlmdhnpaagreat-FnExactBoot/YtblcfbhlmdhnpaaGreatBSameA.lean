/- - -/
import Derived.Test.YtblcfbhlmdhnpaaGreatBReadsB
import Derived.Laws.IdiomStrings
import Derived.Test.YtblcfbhlmdhnpaaGreatBArnA
import Derived.Deep.CutBlock
namespace Go.Proofs.YtblcfbhlmdhnpaaGreat
set_option maxRecDepth 20000
open Go.RowKit
set_option linter.unusedSimpArgs false
set_option linter.unusedVariables false
end Go.Proofs.YtblcfbhlmdhnpaaGreat
