/- The model's l2Free. -/
import Derived.Test.YtmckcnmlhgpnhaaGreatProg
import Derived.Test.YtmckcnmlhgpnhaaGreatKLawC
namespace Go.Proofs.YtmckcnmlhgpnhaaGreat
set_option maxRecDepth 20000
open Go.RowKit
set_option linter.unusedSimpArgs false
set_option linter.unusedVariables false

end Go.Proofs.YtmckcnmlhgpnhaaGreat

/- Free of both packages, at every arena. -/
namespace Go.Proofs.YtmckcnmlhgpnhaaGreat
set_option maxRecDepth 20000
open Go.RowKit
set_option linter.unusedSimpArgs false
set_option linter.unusedVariables false

/-- How many words of a right arena are free. -/
def freeOf (semi toh top : Int) (cyc : Bool) (old copied : Int) : Int := if cyc = true then (toh + 1) * semi - top - (old - ((1 - toh) * semi + 1) - copied) else (toh + 1) * semi - top
/-- What a right arena's numbers are at the most. -/
theorem ar_bounds {ws : List Int} {semi toh top : Int} {cyc : Bool} {scan old copied serial : Int} {y : Nat → Int} {rl : Nat} (h : ArOk ws semi toh top cyc scan old copied serial y rl) :
    256 ≤ semi ∧ semi ≤ 4000 ∧ 0 ≤ toh ∧ toh ≤ 1 ∧ 0 ≤ top ∧ top ≤ 8000 ∧ (cyc = true → 0 ≤ old ∧ old ≤ 8000 ∧ 0 ≤ copied ∧ copied ≤ 8000) := by
  have hnum := h.1
  obtain ⟨s0, s1, hl, t0, t1, hrl, h1, h2, hold⟩ := num_facts hnum
  obtain ⟨g1, g2, g3, g4, g5⟩ := num_halves s0 s1 hl t0 t1 h1 h2
  refine ⟨s0, s1, t0, t1, g3, by omega, fun hc => ?_⟩
  obtain ⟨a, b⟩ := hold hc
  have h5 := (g5 old a b).1
  have h6 : num3 semi toh top old copied = true := by
    unfold numOk at hnum
    rw [hc] at hnum
    simp only [if_true, Bool.and_eq_true] at hnum
    exact hnum.2
  have h7 := of_decide_eq_true h6
  unfold firstOf at h7
  omega
end Go.Proofs.YtmckcnmlhgpnhaaGreat
