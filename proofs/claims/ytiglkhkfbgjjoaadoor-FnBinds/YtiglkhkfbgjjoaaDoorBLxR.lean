/- The model's l8Token, all ways, and Lex. -/
import Derived.Test.YtiglkhkfbgjjoaaDoorProg
import Derived.Test.YtiglkhkfbgjjoaaDoorBLxT
import Derived.Test.YtiglkhkfbgjjoaaDoorBLxO
import Derived.Test.YtiglkhkfbgjjoaaDoorBLxQ
namespace Go.Proofs.YtiglkhkfbgjjoaaDoor
set_option maxRecDepth 20000
open Go.RowKit Go.PlainAid
set_option linter.unusedSimpArgs false
set_option linter.unusedVariables false

end Go.Proofs.YtiglkhkfbgjjoaaDoor
