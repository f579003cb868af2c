/- - -/
import Derived.Test.YtaapiedminakcaaGreatFLawD
import Derived.Test.YtaapiedminakcaaGreatFLookS
namespace Go.Proofs.YtaapiedminakcaaGreat
set_option maxRecDepth 20000
open Go.RowKit
set_option linter.unusedSimpArgs false
set_option linter.unusedVariables false
def zh1 (y : Nat -> Int) (r : Nat) (t n : Int) : Nat -> Int := fun i => if i = 2 * r then t else if i = 2 * r + 1 then n else y i
theorem zaa.drew {B T : Nat} {t : TypeId} {w : World} {v : Value} {n m : Nat} {f : Nat -> Value} (h : zaa B T t w v n m f) : zaa B T t w.drew v n m f := h.block fun _ _ _ => rfl
end Go.Proofs.YtaapiedminakcaaGreat
