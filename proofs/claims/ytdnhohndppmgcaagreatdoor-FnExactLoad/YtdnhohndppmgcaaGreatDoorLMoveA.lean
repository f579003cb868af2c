/- - -/
import Derived.Test.YtdnhohndppmgcaaGreatDoorLLawD
import Derived.Test.YtdnhohndppmgcaaGreatDoorLLookS
namespace Go.Proofs.YtdnhohndppmgcaaGreatDoor
set_option maxRecDepth 20000
open Go.RowKit
set_option linter.unusedSimpArgs false
set_option linter.unusedVariables false
def zh9 (y : Nat -> Int) (r : Nat) (t n : Int) : Nat -> Int := fun i => if i = 2 * r then t else if i = 2 * r + 1 then n else y i
theorem zab.drew {B T : Nat} {t : TypeId} {w : World} {v : Value} {n m : Nat} {f : Nat -> Value} (h : zab B T t w v n m f) : zab B T t w.drew v n m f := h.block fun _ _ _ => rfl
end Go.Proofs.YtdnhohndppmgcaaGreatDoor
