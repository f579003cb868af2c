/- - -/
import Derived.Test.YtmckcnmlhgpnhaaGreatWIsA
import Derived.Test.YtmckcnmlhgpnhaaGreatWKwM
namespace Go.Proofs.YtmckcnmlhgpnhaaGreat
set_option maxRecDepth 20000
open Go.RowKit Go.Maps
set_option linter.unusedSimpArgs false
set_option linter.unusedVariables false
end Go.Proofs.YtmckcnmlhgpnhaaGreat
