/- The program's survey of an arena: what it hands out at a right one, and at one that is not. -/
import Derived.Test.YtibjellhafndiaaGreatDoorProg
import Derived.Test.YtibjellhafndiaaGreatDoorSFreeA
namespace Go.Proofs.YtibjellhafndiaaGreatDoor
set_option maxRecDepth 20000
open Go.RowKit
set_option linter.unusedSimpArgs false
set_option linter.unusedVariables false

/-- A right arena's numbers, as a tiling's. -/
theorem ar_laid {ws : List Int} {semi toh top : Int} {cyc : Bool} {scan old copied serial : Int} {y : Nat → Int} {rl S T F : Nat} {L O : List Nat} (hok : ArOk ws semi toh top cyc scan old copied serial y rl) (hS : toh * semi + 1 = S) (hT : top = T) (hF : (1 - toh) * semi + 1 = F) (ht : Tiling ws serial S T cyc F old copied scan L O) : Laid ws serial S T cyc F old copied scan L O := by
  obtain ⟨s0, s1, hl, t0, t1, hrl, h1, h2, hold⟩ := num_facts hok.1
  obtain ⟨g1, g2, g3, g4, g5⟩ := num_halves s0 s1 hl t0 t1 h1 h2
  refine ⟨ht, fun hc => ?_, by omega, by omega, by omega, fun hc => ?_⟩
  · obtain ⟨a, b⟩ := hold hc
    have := g5 old a b
    omega
  · obtain ⟨a, b⟩ := hold hc
    exact (g5 old a b).1
end Go.Proofs.YtibjellhafndiaaGreatDoor
