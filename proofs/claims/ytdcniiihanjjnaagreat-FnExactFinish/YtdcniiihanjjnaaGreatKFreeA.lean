/- The model's l2Free. -/
import Derived.Test.YtdcniiihanjjnaaGreatProg
import Derived.Test.YtdcniiihanjjnaaGreatKLawC
namespace Go.Proofs.YtdcniiihanjjnaaGreat
set_option maxRecDepth 20000
open Go.RowKit
set_option linter.unusedSimpArgs false
set_option linter.unusedVariables false

end Go.Proofs.YtdcniiihanjjnaaGreat

/- Free of both packages, at every arena. -/
namespace Go.Proofs.YtdcniiihanjjnaaGreat
set_option maxRecDepth 20000
open Go.RowKit
set_option linter.unusedSimpArgs false
set_option linter.unusedVariables false

end Go.Proofs.YtdcniiihanjjnaaGreat
