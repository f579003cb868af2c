/- Is there such a Root: l2Root, hasRoot. -/
import Derived.Test.YtdcniiihanjjnaaGreatProg
import Derived.Test.YtdcniiihanjjnaaGreatKLawC
import Derived.Test.YtdcniiihanjjnaaGreatKHeadL
namespace Go.Proofs.YtdcniiihanjjnaaGreat
set_option maxRecDepth 20000
open Go.RowKit
set_option linter.unusedSimpArgs false
set_option linter.unusedVariables false

end Go.Proofs.YtdcniiihanjjnaaGreat

/- What a Root of a right arena is. No Go here. -/
namespace Go.Proofs.YtdcniiihanjjnaaGreat
set_option maxRecDepth 20000
open Go.RowKit
set_option linter.unusedSimpArgs false
set_option linter.unusedVariables false

end Go.Proofs.YtdcniiihanjjnaaGreat
