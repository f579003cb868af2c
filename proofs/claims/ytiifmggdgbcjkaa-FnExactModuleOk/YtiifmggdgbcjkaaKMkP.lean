/- What a right module is. -/
import Derived.Test.YtiifmggdgbcjkaaKMdA
namespace Go.Proofs.Ytiifmggdgbcjkaa
set_option maxRecDepth 20000
open Go.RowKit
set_option linter.unusedSimpArgs false
set_option linter.unusedVariables false

/-- Its rows are no longer than a machine's numbers; the numbers of its instructions are in their bounds. -/
def PLr (x : PtD) : Prop := PLe x 9223372036854775807 ∧ ∀ k, k < x.cn → -9223372036854775808 ≤ x.ca k ∧ x.ca k ≤ 9223372036854775807
/-- The least and the greatest A of an instruction. -/
def limF (L n : Nat) (sl : Int) (un cn : Nat) (op : Int) : Int × Int :=
  if op = 1 ∨ op = 13 ∨ op = 14 ∨ op = 15 ∨ op = 22 ∨ op = 24 ∨ op = 25 ∨ op = 26 then (0, 0)
  else if op = 2 then (0, 1)
  else if op = 3 then (-9223372036854775808, 9223372036854775807)
  else if op = 4 then (0, (n : Int) - 1)
  else if op = 5 ∨ op = 6 ∨ op = 8 ∨ op = 9 ∨ op = 11 then (0, sl - 1)
  else if op = 7 ∨ op = 10 then (0, (un : Int) - 1)
  else if op = 12 then (0, (L : Int) - 1)
  else if op = 16 then (1, 10)
  else if op = 17 then (1, 3)
  else if op = 18 ∨ op = 19 ∨ op = 20 ∨ op = 21 then (0, (cn : Int) - 1)
  else if op = 23 then (0, 40)
  else if op = 27 then (1, 11)
  else (0, -1)
/-- Up k of a function can be given by a Proto with that many slots and Ups. -/
def upOk (sl : Int) (un : Nat) (ub : Nat → Bool) (ui : Nat → Int) (k : Nat) : Prop := 0 ≤ ui k ∧ ui k < (if ub k = true then sl else (un : Int))
def UpsOk (sl : Int) (un : Nat) (y : PtD) : Prop := ∀ k, k < y.un → upOk sl un y.ub y.ui k
/-- An instruction is right. -/
def InsOk (L n : Nat) (X : Nat → PtD) (sl : Int) (un cn : Nat) (op a : Int) : Prop :=
  (limF L n sl un cn op).1 ≤ a ∧ a ≤ (limF L n sl un cn op).2 ∧ (op = 12 → UpsOk sl un (X a.toNat))
/-- A Proto's measures are right. -/
def MsOk (x : PtD) : Prop := 0 ≤ x.pa ∧ x.pa ≤ x.sl ∧ x.sl ≤ 20 ∧ x.un ≤ 12 ∧ 1 ≤ x.cn ∧ x.cn ≤ 4000 ∧ x.co (x.cn - 1) = 24
def CdOk (L n : Nat) (X : Nat → PtD) (x : PtD) : Prop := ∀ k, k < x.cn → InsOk L n X x.sl x.un x.cn (x.co k) (x.ca k)
/-- A module is right. -/
def TxOk (n : Nat) (s : Nat → ByteArray) : Prop := n ≤ 255 ∧ ∀ j, j < n → (s j).size ≤ 160
def PsOk (L : Nat) (X : Nat → PtD) : Prop := 1 ≤ L ∧ L ≤ 100 ∧ (∀ i, i < L → MsOk (X i)) ∧ (X 0).pa = 0 ∧ (X 0).un = 0
def MOk (L : Nat) (X : Nat → PtD) (n : Nat) (s : Nat → ByteArray) : Prop := TxOk n s ∧ PsOk L X ∧ ∀ i, i < L → CdOk L n X (X i)
/-- Whether that holds is answered. -/
def AnsB (P : Prop) (w : World) (e : Ending) (w' : World) : Prop := ∃ q : Bool, e = .returned (.bool q) ∧ (q = true ↔ P) ∧ Below w.heap.size w w'
theorem has_below_mk {w w' : World} {C b : Nat} {A : Array Value} (h : ∀ i, w.cell? ⟨b, i, none⟩ = A[i]?) (hb : Below C w w') (hC : b < C) : ∀ i, w'.cell? ⟨b, i, none⟩ = A[i]? := fun i => by
  rw [hb.cell (p := ⟨b, i, none⟩) hC]; exact h i
theorem forall_on {P : Nat → Prop} {j : Nat} (h : ∀ p, p < j → P p) (hj : P j) : ∀ p, p < j + 1 → P p := fun p hp => by
  by_cases e : p = j
  · subst e; exact hj
  · exact h p (by omega)
end Go.Proofs.Ytiifmggdgbcjkaa
