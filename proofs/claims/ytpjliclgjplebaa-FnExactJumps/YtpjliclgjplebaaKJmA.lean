/- Where the jumps of some code lead to, in order. No Go here. -/
import Derived.Test.YtpjliclgjplebaaKIsA
namespace Go.Proofs.Ytpjliclgjplebaa
set_option maxRecDepth 20000
open Go.RowKit Go.Maps
set_option linter.unusedSimpArgs false
set_option linter.unusedVariables false

/-- One instruction more. -/
def jmP (out : List Int) (op a : Int) : List Int := if op < 18 ∨ 21 < op then out else if lowN out a < out.length ∧ out.getD (lowN out a) 0 = a then out else insS out a
/-- The first k instructions. -/
def jmN (y : Nat → Int) : Nat → List Int
  | 0 => []
  | k + 1 => jmP (jmN y k) (y (2 * k)) (y (2 * k + 1))
theorem jmP_len (out : List Int) (op a : Int) : (jmP out op a).length ≤ out.length + 1 := by
  unfold jmP
  split
  · omega
  · split
    · omega
    · rw [insS_len]; omega
theorem jmN_len (y : Nat → Int) : ∀ k, (jmN y k).length ≤ k
  | 0 => Nat.le_refl _
  | k + 1 => by have := jmN_len y k; have := jmP_len (jmN y k) (y (2 * k)) (y (2 * k + 1)); show (jmP _ _ _).length ≤ k + 1; omega
end Go.Proofs.Ytpjliclgjplebaa
