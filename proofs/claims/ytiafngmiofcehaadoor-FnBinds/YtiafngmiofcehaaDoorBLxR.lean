/- The model's l8Token, all ways, and Lex. -/
import Derived.Test.YtiafngmiofcehaaDoorProg
import Derived.Test.YtiafngmiofcehaaDoorBLxT
import Derived.Test.YtiafngmiofcehaaDoorBLxO
import Derived.Test.YtiafngmiofcehaaDoorBLxQ
namespace Go.Proofs.YtiafngmiofcehaaDoor
set_option maxRecDepth 20000
open Go.RowKit Go.PlainAid
set_option linter.unusedSimpArgs false
set_option linter.unusedVariables false

end Go.Proofs.YtiafngmiofcehaaDoor
