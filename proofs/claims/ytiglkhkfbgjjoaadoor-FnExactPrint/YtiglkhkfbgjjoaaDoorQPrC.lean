/- - -/
import Derived.Test.YtiglkhkfbgjjoaaDoorQPrQ
import Derived.Test.YtiglkhkfbgjjoaaDoorQRowS
import Derived.Test.YtiglkhkfbgjjoaaDoorQTrB
import Derived.Deep.RegionHeld3
namespace Go.Proofs.YtiglkhkfbgjjoaaDoor
set_option maxRecDepth 20000
open Go.RowKit Go.PlainAid Go.Maps
set_option linter.unusedSimpArgs false
set_option linter.unusedVariables false
def zc (w : World) (xs : List ByteArray) (e : Ending) (w' : World) : Prop := ∃ v, e = .returned v /\ SR w.heap.size w' v xs /\ Below w.heap.size w w'
end Go.Proofs.YtiglkhkfbgjjoaaDoor
