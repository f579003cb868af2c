/- Words: IsWord of both packages. -/
import Derived.Test.YtpjliclgjplebaaDoorProg
import Derived.Test.YtpjliclgjplebaaDoorKRowF
import Derived.WalkKit
import Derived.WalkSpells
import Derived.WalkLawsBesides
import Derived.Below
import Derived.Outline
import Derived.Deep.Light
namespace Go.Proofs.YtpjliclgjplebaaDoor
set_option maxRecDepth 20000
open Go.RowKit
set_option linter.unusedSimpArgs false
set_option linter.unusedVariables false

/-- The i-th of a list of texts. -/
def txAt (xs : List ByteArray) (i : Nat) : ByteArray := xs.getD i ⟨#[]⟩

end Go.Proofs.YtpjliclgjplebaaDoor
