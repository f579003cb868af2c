/- - -/
import Derived.Test.YtiglkhkfbgjjoaaDoorQLxW
import Derived.PlainAid
import Derived.Lib.Strings
namespace Go.Proofs.YtiglkhkfbgjjoaaDoor
set_option maxRecDepth 20000
open Go.RowKit Go.PlainAid
set_option linter.unusedSimpArgs false
set_option linter.unusedVariables false
def ltB (r : Int) : Bool := decide ((97 <= r /\ r <= 122) \/ (65 <= r /\ r <= 90))
def plB (r : Int) : Bool := decide (32 <= r /\ r <= 126 /\ r ≠ 34)
theorem zfs (t : ByteArray) : t.size = t.data.toList.length := by rw [Array.length_toList]; rfl
end Go.Proofs.YtiglkhkfbgjjoaaDoor
