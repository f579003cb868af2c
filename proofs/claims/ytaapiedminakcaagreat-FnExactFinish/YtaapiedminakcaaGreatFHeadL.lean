/- - -/
import Derived.Test.YtaapiedminakcaaGreatFFreeA
namespace Go.Proofs.YtaapiedminakcaaGreat
set_option maxRecDepth 20000
open Go.RowKit
set_option linter.unusedSimpArgs false
set_option linter.unusedVariables false
theorem zvl {ws : List Int} {sm toh top : Int} {cyc : Bool} {sn old cp sr : Int} {y : Nat -> Int} {rl S T F : Nat} {L O : List Nat} (hok : zc9 ws sm toh top cyc sn old cp sr y rl) (hS : toh * sm + 1 = S) (hT : top = T) (hF : (1 - toh) * sm + 1 = F) (ht : zax ws sr S T cyc F old cp sn L O) : zao ws sr S T cyc F old cp sn L O := by
 obtain ⟨s0, s1, hl, t0, t1, hrl, h1, h2, hold⟩ := zen hok.1
 obtain ⟨g1, g2, g3, g4, g5⟩ := zd9 s0 s1 hl t0 t1 h1 h2
 refine ⟨ht, fun hc => ?_, by omega, by omega, by omega, fun hc => ?_⟩
 · obtain ⟨a, b⟩ := hold hc
   have := g5 old a b
   omega
 · obtain ⟨a, b⟩ := hold hc
   exact (g5 old a b).1
end Go.Proofs.YtaapiedminakcaaGreat
