/- - -/
import Derived.Test.YtblcfbhlmdhnpaaGreatBSliceA
import Derived.RegionTactic
import Derived.BigRegion
namespace Go.Proofs.YtblcfbhlmdhnpaaGreat
set_option maxRecDepth 20000
open Go.RowKit
set_option linter.unusedSimpArgs false
set_option linter.unusedVariables false
theorem zc6.at {zs : List Int} (h : zc6 zs) (i : Nat) : 0 <= zs.getD i 0 /\ zs.getD i 0 < 18446744073709551616 := by
 by_cases hi : i < zs.length
 · simp only [List.getD_eq_getElem?_getD, List.getElem?_eq_getElem hi, Option.getD_some]
   exact h _ (List.getElem_mem hi)
 · simp [List.getElem?_eq_none (Nat.le_of_not_lt hi)]
end Go.Proofs.YtblcfbhlmdhnpaaGreat
