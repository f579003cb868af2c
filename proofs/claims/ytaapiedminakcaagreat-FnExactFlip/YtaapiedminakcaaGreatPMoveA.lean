/- - -/
import Derived.Test.YtaapiedminakcaaGreatPLawD
import Derived.Test.YtaapiedminakcaaGreatPLookS
namespace Go.Proofs.YtaapiedminakcaaGreat
set_option maxRecDepth 20000
open Go.RowKit
set_option linter.unusedSimpArgs false
set_option linter.unusedVariables false
def zey (y : Nat -> Int) (r : Nat) (t n : Int) : Nat -> Int := fun i => if i = 2 * r then t else if i = 2 * r + 1 then n else y i
theorem zad.drew {B T : Nat} {t : TypeId} {w : World} {v : Value} {n m : Nat} {f : Nat -> Value} (h : zad B T t w v n m f) : zad B T t w.drew v n m f := h.block fun _ _ _ => rfl
end Go.Proofs.YtaapiedminakcaaGreat
