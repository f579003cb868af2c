/- Rows of texts of a call's own, that grow; the model's l9Around. -/
import Derived.Test.YtiglkhkfbgjjoaaDoorProg
import Derived.Test.YtiglkhkfbgjjoaaDoorBRowF
import Derived.Deep.OwnRows
import Derived.Maps.AppendAt
import Derived.OwnWalk
import Derived.Laws.OwnMore
import Derived.Laws.AppendOwnNone
namespace Go.Proofs.YtiglkhkfbgjjoaaDoor
set_option maxRecDepth 20000
open Go.RowKit Go.Maps
set_option linter.unusedSimpArgs false
set_option linter.unusedVariables false

def scl (xs : List ByteArray) : List Value := xs.map Value.string
theorem scl_len (xs : List ByteArray) : (scl xs).length = xs.length := by simp [scl]
/-- A row of texts in a block of its own, from block B on, that is no nil. -/
def SR (B : Nat) (w : World) (v : Value) (xs : List ByteArray) : Prop := w.ownsRow B 9 1 v xs.length (scl xs) ∧ v ≠ .slice none 0 0
theorem SR.form {B : Nat} {w : World} {v : Value} {xs : List ByteArray} (h : SR B w v xs) : ∃ g c, v = .slice (some ⟨g, 0, none⟩) xs.length c ∧ B ≤ g ∧ g < w.heap.size := by
  obtain ⟨⟨_, ⟨h1, _⟩ | ⟨g, cap, cur, h1, h2, h3, _⟩⟩, h4⟩ := h
  · exact absurd h1 h4
  · refine ⟨g, cap, h1, h2, ?_⟩
    rcases Nat.lt_or_ge g w.heap.size with h | h
    · exact h
    · rw [Array.getElem?_eq_none h] at h3; cases h3
theorem SR.cells {B : Nat} {w : World} {g c : Nat} {xs : List ByteArray} (h : SR B w (.slice (some ⟨g, 0, none⟩) xs.length c) xs) : ∀ j u, (scl xs)[j]? = some u → w.cell? ((⟨g, 0, none⟩ : Addr).add j) = some u := fun j u hj => by
  have hl : j < xs.length := by
    rcases Nat.lt_or_ge j xs.length with h | h
    · exact h
    · rw [List.getElem?_eq_none (by rw [scl_len]; exact h)] at hj; cases hj
  rw [Addr.add_lit, Nat.zero_add, h.1.cellAt j (by omega)]
  exact hj
theorem SR.alloc {B : Nat} {w : World} {v : Value} {xs : List ByteArray} (h : SR B w v xs) (o : Obj) : SR B (w.alloc o) v xs := ⟨World.ownsRow.alloc h.1 o, h.2⟩
theorem SR.below {B : Nat} {w w' : World} {v : Value} {xs : List ByteArray} (h : SR B w v xs) (hb : Below w.heap.size w w') : SR B w' v xs :=
  ⟨World.ownsRow.kept h.1 (row := none) ⟨hb.os, hb.tape, hb.output, hb.size, fun k hk _ => hb.block k hk⟩ (by cases v.ownBlock <;> simp), h.2⟩
theorem SR.mono {B C : Nat} {w : World} {v : Value} {xs : List ByteArray} (h : SR B w v xs) (hC : C ≤ B) : SR C w v xs := by
  obtain ⟨⟨h1, h2⟩, h3⟩ := h
  refine ⟨⟨h1, ?_⟩, h3⟩
  rcases h2 with h2 | ⟨g, cap, cur, hv, hg, r⟩
  · exact .inl h2
  · exact .inr ⟨g, cap, cur, hv, Nat.le_trans hC hg, r⟩
theorem SR.new {B : Nat} {w : World} (xs : List ByteArray) (hB : B ≤ w.heap.size) (hl : xs.length ≤ 1048576) (A : Array Value) (hA : A = (scl xs).toArray) : SR B (w.alloc (.cells A 9)) (.slice (some ⟨w.heap.size, 0, none⟩) xs.length xs.length) xs := by
  subst hA
  refine ⟨?_, by simp⟩
  have := World.ownsRow_lit (base := B) (e := 9) (size := 1) w (scl xs).toArray xs.length hB (by unfold maxLen; omega) (by simp [scl_len])
  simpa using this
/-- What can be read as a row of texts: nil, or a row. -/
def RdS (w : World) (v : Value) (xs : List ByteArray) : Prop := (v = .slice none 0 0 ∧ xs = []) ∨ ∃ g c, v = .slice (some ⟨g, 0, none⟩) xs.length c ∧ g < w.heap.size ∧ ∀ j u, (scl xs)[j]? = some u → w.cell? ((⟨g, 0, none⟩ : Addr).add j) = some u
theorem SR.rd {B : Nat} {w : World} {v : Value} {xs : List ByteArray} (h : SR B w v xs) : RdS w v xs := by
  obtain ⟨g, c, rfl, _, h2⟩ := h.form
  exact .inr ⟨g, c, rfl, h2, h.cells⟩
theorem RdS.below {w w' : World} {v : Value} {xs : List ByteArray} (h : RdS w v xs) (hb : Below w.heap.size w w') : RdS w' v xs := by
  rcases h with h | ⟨g, c, rfl, h2, h3⟩
  · exact .inl h
  · refine .inr ⟨g, c, rfl, Nat.lt_of_lt_of_le h2 hb.size, fun j u hj => ?_⟩
    rw [hb.cell (p := (⟨g, 0, none⟩ : Addr).add j) (by rw [Addr.add_lit]; exact h2)]
    exact h3 j u hj
end Go.Proofs.YtiglkhkfbgjjoaaDoor
