/- The laws' copies of rows of numbers, of nodes and of trees: what was handed in, in memory of its own. -/
import Derived.Test.YtiglkhkfbgjjoaaDoorProg
import Derived.Test.YtiglkhkfbgjjoaaDoorBTrA
import Derived.Test.YtiglkhkfbgjjoaaDoorBSlotsB
import Derived.Laws.MakeOwn
import Derived.Deep.CutRange
import Derived.Deep.RegionWith
namespace Go.Proofs.YtiglkhkfbgjjoaaDoor
set_option maxRecDepth 20000
open Go.RowKit
set_option linter.unusedSimpArgs false
set_option linter.unusedVariables false

theorem slFS_set {W : World} {b n c m : Nat} {f : Nat → Value} (h : SlF W.heap.size W (.slice (some ⟨b, 0, none⟩) n c) n m f) {k i : Nat} (hne : k ≠ b) (v : Value) : SlF (W.setCell ⟨k, i, none⟩ v).heap.size (W.setCell ⟨k, i, none⟩ v) (.slice (some ⟨b, 0, none⟩) n c) n m f := by
  obtain ⟨a, cap, he, h⟩ := h
  refine ⟨a, cap, he, ?_⟩
  simp only [Value.slice.injEq] at he
  obtain ⟨rfl, _, _⟩ := he
  rcases h with h | ⟨b', off, ha, hb, hb2, hc⟩
  · exact .inl h
  · simp only [Option.some.injEq, Addr.mk.injEq] at ha
    obtain ⟨rfl, rfl, _⟩ := ha
    refine .inr ⟨_, _, rfl, by simpa using hb, by simpa using hb2, fun j hj => ?_⟩
    rw [World.cell?_setCell_other _ _ _ _ (fun e => hne (congrArg Addr.block e))]
    exact hc j hj
/-- A slice of L nodes in blocks from B on. -/
def KnO (B : Nat) (w : World) (v : Value) (L : Nat) (X : Nat → KnD) : Prop :=
  ∃ K cap, v = .slice (some ⟨K, 0, none⟩) L cap ∧ B ≤ K ∧ K < w.heap.size ∧ ∀ i, i < L → ∃ b c, B ≤ b ∧ w.cell? ⟨K, i * 4, none⟩ = some (.int .i64 (X i).k) ∧ w.cell? ⟨K, i * 4 + 1, none⟩ = some (.string (X i).t) ∧ w.cell? ⟨K, i * 4 + 2, none⟩ = some (.int .i64 (X i).i) ∧ w.cell? ⟨K, i * 4 + 3, none⟩ = some (.slice (some ⟨b, 0, none⟩) (X i).len c) ∧ SlF w.heap.size w (.slice (some ⟨b, 0, none⟩) (X i).len c) (X i).len (X i).len (fun j => .int .i64 ((X i).y j))
theorem KnO.knF {B : Nat} {w : World} {v : Value} {L : Nat} {X : Nat → KnD} (h : KnO B w v L X) : KnF w.heap.size w v L X := by
  obtain ⟨K, cap, rfl, hB, hK, h⟩ := h
  refine ⟨_, _, rfl, .inr ⟨K, 0, rfl, hK, hK, fun i hi => ?_⟩⟩
  obtain ⟨b, c, _, h0, h1, h2, h3, h4⟩ := h i hi
  rw [Nat.zero_add]
  exact ⟨_, _, h0, h1, h2, h3, h4⟩
theorem KnO.set {B : Nat} {w : World} {v : Value} {L : Nat} {X : Nat → KnD} (h : KnO B w v L X) {k j : Nat} (hk : k < B) (u : Value) : KnO B (w.setCell ⟨k, j, none⟩ u) v L X := by
  obtain ⟨K, cap, rfl, hB, hK, h⟩ := h
  refine ⟨K, cap, rfl, hB, by simpa using hK, fun i hi => ?_⟩
  obtain ⟨b, c, hb, h0, h1, h2, h3, h4⟩ := h i hi
  have e : ∀ o, (w.setCell ⟨k, j, none⟩ u).cell? ⟨K, o, none⟩ = w.cell? ⟨K, o, none⟩ := fun o => World.cell?_setCell_other _ _ _ _ (fun e => by have := congrArg Addr.block e; simp at this; omega)
  exact ⟨b, c, hb, by rw [e]; exact h0, by rw [e]; exact h1, by rw [e]; exact h2, by rw [e]; exact h3, slFS_set h4 (by omega) _⟩
end Go.Proofs.YtiglkhkfbgjjoaaDoor
