/- - -/
import Derived.Test.YtmckcnmlhgpnhaaGreatWHeadS
namespace Go.Proofs.YtmckcnmlhgpnhaaGreat
set_option maxRecDepth 20000
open Go.RowKit
set_option linter.unusedSimpArgs false
set_option linter.unusedVariables false
theorem zp5 {ws : List Int} {smz toh top : Int} {cyc : Bool} {sn old cpz sr : Int} {y : Nat -> Int} {rl S T F : Nat} {L O : List Nat} (hok : zdc ws smz toh top cyc sn old cpz sr y rl) (hS : toh * smz + 1 = S) (hT : top = T) (hF : (1 - toh) * smz + 1 = F) (ht : za1 ws sr S T cyc F old cpz sn L O) : zar ws sr S T cyc F old cpz sn L O := by
 obtain ⟨s0, s1, hl, t0, t1, hrl, h1, h2, hold⟩ := zdi hok.1
 obtain ⟨g1, g2, g3, g4, g5⟩ := zd7 s0 s1 hl t0 t1 h1 h2
 refine ⟨ht, fun hc => ?_, by omega, by omega, by omega, fun hc => ?_⟩
 · obtain ⟨a, b⟩ := hold hc
   have := g5 old a b
   omega
 · obtain ⟨a, b⟩ := hold hc
   exact (g5 old a b).1
end Go.Proofs.YtmckcnmlhgpnhaaGreat
