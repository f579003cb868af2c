/- Heads read: both packages' ReadHead give the same plain answer. -/
import Derived.Test.YthoncomjemknnaaProg
import Derived.Test.YthoncomjemknnaaPackA
import Derived.WalkKit
import Derived.WalkSpells
import Derived.WalkLawsBesides
import Derived.Below
import Derived.Outline
import Derived.Deep.Light
namespace Go.Proofs.Ythoncomjemknnaa
set_option maxRecDepth 20000
open Go.RowKit
set_option linter.unusedSimpArgs false

end Go.Proofs.Ythoncomjemknnaa
