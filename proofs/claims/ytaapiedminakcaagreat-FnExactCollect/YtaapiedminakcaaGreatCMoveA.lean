/- - -/
import Derived.Test.YtaapiedminakcaaGreatCLawD
import Derived.Test.YtaapiedminakcaaGreatCLookS
namespace Go.Proofs.YtaapiedminakcaaGreat
set_option maxRecDepth 20000
open Go.RowKit
set_option linter.unusedSimpArgs false
set_option linter.unusedVariables false
def ze8 (y : Nat -> Int) (r : Nat) (t n : Int) : Nat -> Int := fun i => if i = 2 * r then t else if i = 2 * r + 1 then n else y i
theorem zae.drew {B T : Nat} {t : TypeId} {w : World} {v : Value} {n m : Nat} {f : Nat -> Value} (h : zae B T t w v n m f) : zae B T t w.drew v n m f := h.block fun _ _ _ => rfl
end Go.Proofs.YtaapiedminakcaaGreat
