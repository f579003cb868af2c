/- The model's l3Forward. -/
import Derived.Test.YtibjellhafndiaaGreatDoorProg
import Derived.Test.YtibjellhafndiaaGreatDoorSCpC
import Derived.Test.YtibjellhafndiaaGreatDoorSChainA
import Derived.Test.YtibjellhafndiaaGreatDoorSImpC
namespace Go.Proofs.YtibjellhafndiaaGreatDoor
set_option maxRecDepth 20000
open Go.RowKit
set_option linter.unusedSimpArgs false
set_option linter.unusedVariables false

theorem row_upto {W : World} {b : Nat} {t : TypeId} {A : Array Value} {n : Nat} (h : W.rowIs b t n (fun i => A.getD i (.bool false))) (hA : A.size = n) (hc : ∀ i, n ≤ i → W.cell? ⟨b, i, none⟩ = none) : ∀ i, W.cell? ⟨b, i, none⟩ = A[i]? := fun i => by
  by_cases hi : i < n
  · rw [h.cell hi]; simp [Array.getD, show i < A.size by omega]
  · rw [hc i (by omega)]; simp; omega
theorem row_all {W : World} {b : Nat} {t : TypeId} {A : Array Value} {n : Nat} (h : W.rowIs b t n (fun i => A.getD i (.bool false))) (hA : A.size = n) : ∀ i, W.cell? ⟨b, i, none⟩ = A[i]? := by
  refine row_upto h hA fun i hi => ?_
  obtain ⟨c, hb, hn, _⟩ := h
  simp [World.cell?, hb]
  omega
end Go.Proofs.YtibjellhafndiaaGreatDoor

/- The model's l3Forward, in one form. -/
namespace Go.Proofs.YtibjellhafndiaaGreatDoor
set_option maxRecDepth 20000
open Go.RowKit
set_option linter.unusedSimpArgs false
set_option linter.unusedVariables false

/-- In which half a place lies. -/
theorem half_of {semi p k : Int} (hs : 0 < semi) (hp : 0 ≤ p) (h1 : k * semi ≤ p) (h2 : p < (k + 1) * semi) : p.tdiv semi = k := by
  rw [Int.tdiv_eq_ediv_of_nonneg hp]
  exact Int.le_antisymm (Int.lt_add_one_iff.1 (Int.ediv_lt_of_lt_mul hs h2)) (Int.le_ediv_of_mul_le hs h1)
/-- Where the halves of an arena lie that is copied. -/
structure Halves (semi toh : Int) (S E F Od : Nat) : Prop where
  s0 : 256 ≤ semi
  s1 : semi ≤ 4000
  t0 : 0 ≤ toh
  t1 : toh ≤ 1
  hS : toh * semi + 1 = S
  hE : (toh + 1) * semi = E
  hF : (1 - toh) * semi + 1 = F
  hO : (Od : Int) ≤ (2 - toh) * semi
theorem Halves.use {semi toh : Int} {S E F Od : Nat} (h : Halves semi toh S E F Od) {p : Nat} (h1 : S ≤ p) (h2 : p < E) : (p : Int).tdiv semi = toh := by
  have a := h.s0
  have b := h.hS
  have c := h.hE
  exact half_of (by omega) (by omega) (by omega) (by omega)
theorem Halves.other {semi toh : Int} {S E F Od : Nat} (h : Halves semi toh S E F Od) {p : Nat} (h1 : F ≤ p) (h2 : p < Od) : (p : Int).tdiv semi = 1 - toh := by
  have a := h.s0
  have b := h.hF
  have c := h.hO
  refine half_of (by omega) (by omega) (by omega) ?_
  have e : 1 - toh + 1 = 2 - toh := by omega
  rw [e]
  omega
end Go.Proofs.YtibjellhafndiaaGreatDoor

/- The program's move and forward. -/
namespace Go.Proofs.YtibjellhafndiaaGreatDoor
set_option maxRecDepth 20000
open Go.RowKit
set_option linter.unusedSimpArgs false
set_option linter.unusedVariables false

end Go.Proofs.YtibjellhafndiaaGreatDoor

/- The program's forward, in one form. -/
namespace Go.Proofs.YtibjellhafndiaaGreatDoor
set_option maxRecDepth 20000
open Go.RowKit
set_option linter.unusedSimpArgs false
set_option linter.unusedVariables false

end Go.Proofs.YtibjellhafndiaaGreatDoor
