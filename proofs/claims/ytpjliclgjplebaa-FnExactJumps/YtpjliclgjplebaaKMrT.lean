/- The laws' markText, of numbers up to 9,000,000. -/
import Derived.Test.YtpjliclgjplebaaProg
import Derived.Test.YtpjliclgjplebaaKRowF
import Derived.Test.YtpjliclgjplebaaKSliceA
import Derived.WalkKit
import Derived.WalkSpells
import Derived.WalkLawsBesides
import Derived.Below
import Derived.Outline
import Derived.Deep.Light
import Derived.PlainAid
namespace Go.Proofs.Ytpjliclgjplebaa
set_option maxRecDepth 20000
open Go.RowKit Go.PlainAid
set_option linter.unusedSimpArgs false
set_option linter.unusedVariables false

end Go.Proofs.Ytpjliclgjplebaa
