/- Nodes of a tree by their cells: rows of four cells, the last of which leads to a row of numbers. No Go here but the laws' helpers that measure. -/
import Derived.Test.YtiglkhkfbgjjoaaDoorProg
import Derived.Test.YtiglkhkfbgjjoaaDoorBRowF
import Derived.Test.YtiglkhkfbgjjoaaDoorBSliceA
import Derived.WalkKit
import Derived.WalkSpells
import Derived.WalkLawsBesides
import Derived.Below
import Derived.Outline
import Derived.Deep.Light
namespace Go.Proofs.YtiglkhkfbgjjoaaDoor
set_option maxRecDepth 20000
open Go.RowKit
set_option linter.unusedSimpArgs false
set_option linter.unusedVariables false

/-- A node of a tree: its kind, its text, its number, how many Kids it has and which. -/
structure KnD where
  k : Int
  t : ByteArray
  i : Int
  len : Nat
  y : Nat → Int
/-- The node x stands in the four cells from o on. -/
def KnAt (T : Nat) (w : World) (b o : Nat) (x : KnD) : Prop :=
  ∃ a c, w.cell? ⟨b, o, none⟩ = some (.int .i64 x.k) ∧ w.cell? ⟨b, o + 1, none⟩ = some (.string x.t) ∧ w.cell? ⟨b, o + 2, none⟩ = some (.int .i64 x.i) ∧ w.cell? ⟨b, o + 3, none⟩ = some (.slice a x.len c) ∧ SlF T w (.slice a x.len c) x.len x.len (fun i => .int .i64 (x.y i))
/-- A slice of L nodes that can be read. -/
def KnF (T : Nat) (w : World) (v : Value) (L : Nat) (X : Nat → KnD) : Prop :=
  ∃ a cap, v = .slice a L cap ∧ (L = 0 ∨ ∃ b off, a = some ⟨b, off, none⟩ ∧ b < T ∧ b < w.heap.size ∧ ∀ i, i < L → KnAt T w b (off + i * 4) (X i))
theorem KnAt.below {T C : Nat} {w w' : World} {b o : Nat} {x : KnD} (h : KnAt T w b o x) (hb : Below C w w') (hT : T ≤ C) (hl : b < T) : KnAt T w' b o x := by
  obtain ⟨a, c, h0, h1, h2, h3, h4⟩ := h
  have e := fun i => hb.cell (p := ⟨b, i, none⟩) (Nat.lt_of_lt_of_le hl hT)
  exact ⟨a, c, by rw [e]; exact h0, by rw [e]; exact h1, by rw [e]; exact h2, by rw [e]; exact h3, h4.below hb hT⟩
theorem KnF.below {T C : Nat} {w w' : World} {v : Value} {L : Nat} {X : Nat → KnD} (h : KnF T w v L X) (hb : Below C w w') (hT : T ≤ C) : KnF T w' v L X := by
  obtain ⟨a, cap, rfl, h⟩ := h
  refine ⟨a, cap, rfl, ?_⟩
  rcases h with h | ⟨b, off, rfl, hl, hz, hc⟩
  · exact .inl h
  · exact .inr ⟨b, off, rfl, hl, Nat.lt_of_lt_of_le hz hb.size, fun i hi => (hc i hi).below hb hT hl⟩
theorem KnF.mono {T T' : Nat} {w : World} {v : Value} {L : Nat} {X : Nat → KnD} (h : KnF T w v L X) (hT : T ≤ T') : KnF T' w v L X := by
  obtain ⟨a, cap, rfl, h⟩ := h
  refine ⟨a, cap, rfl, ?_⟩
  rcases h with h | ⟨b, off, rfl, hl, hz, hc⟩
  · exact .inl h
  · refine .inr ⟨b, off, rfl, Nat.lt_of_lt_of_le hl hT, hz, fun i hi => ?_⟩
    obtain ⟨a, c, h0, h1, h2, h3, h4⟩ := hc i hi
    exact ⟨a, c, h0, h1, h2, h3, h4.mono hT⟩
theorem KnF.at_ {T : Nat} {w : World} {a : Option Addr} {cap L : Nat} {X : Nat → KnD} (h : KnF T w (.slice a L cap) L X) {j : Nat} (hj : j < L) : ∃ b off, a = some ⟨b, off, none⟩ ∧ b < T ∧ b < w.heap.size ∧ ∀ i, i < L → KnAt T w b (off + i * 4) (X i) := by
  obtain ⟨a', cap', he, h⟩ := h
  simp only [Value.slice.injEq] at he
  obtain ⟨rfl, _, _⟩ := he
  rcases h with h | h
  · omega
  · exact h

/-- Two rows of numbers are alike. -/
def IEq (n1 n2 : Nat) (y1 y2 : Nat → Int) : Prop := n1 = n2 ∧ ∀ i, i < n1 → y1 i = y2 i
/-- Two nodes are alike. -/
def KEq (x y : KnD) : Prop := x.k = y.k ∧ (x.t.toList == y.t.toList) = true ∧ x.i = y.i ∧ IEq x.len y.len x.y y.y

end Go.Proofs.YtiglkhkfbgjjoaaDoor
