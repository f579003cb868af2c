/- What a write into a range of blocks leaves alone. No Go here. -/
import Derived.WalkKit
import Derived.Below
import Derived.Deep.OwnRows
import Derived.Test.YtiglkhkfbgjjoaaDoorProg
import Derived.Test.YtiglkhkfbgjjoaaDoorBSliceA
import Derived.WalkSpells
import Derived.WalkLawsBesides
namespace Go.Proofs.YtiglkhkfbgjjoaaDoor
set_option maxRecDepth 20000
open Go.RowKit

/-- Outside the blocks from B on and below T all is as it was. -/
structure Outside (B T : Nat) (w w' : World) : Prop where
  os : w'.os = w.os
  tape : w'.tape = w.tape
  output : w'.output = w.output
  size : w.heap.size ≤ w'.heap.size
  block : ∀ k, k < B ∨ T ≤ k → w'.heap[k]? = w.heap[k]?
theorem Outside.refl (B T : Nat) (w : World) : Outside B T w w := ⟨rfl, rfl, rfl, Nat.le_refl _, fun _ _ => rfl⟩
theorem Outside.setCell {B T : Nat} {a w : World} (h : Outside B T a w) {p : Addr} (h1 : B ≤ p.block) (h2 : p.block < T) (u : Value) : Outside B T a (w.setCell p u) :=
  ⟨h.os, h.tape, h.output, by simpa using h.size, fun k hk => by rw [Go.Deep.blk_setCell_other _ _ _ _ (by omega)]; exact h.block k hk⟩
theorem Outside.below {B T C : Nat} {w w' : World} (h : Outside B T w w') (hC : C ≤ B) : Below C w w' := ⟨h.os, h.tape, h.output, h.size, fun k hk => h.block k (.inl (Nat.lt_of_lt_of_le hk hC))⟩
end Go.Proofs.YtiglkhkfbgjjoaaDoor

/- Slices by their cells: 'SlF' (can be read), 'OwnF' (in a block of the call's own), whatever the elements are; what a write into a range of blocks leaves alone. No Go here. -/
namespace Go.Proofs.YtiglkhkfbgjjoaaDoor
set_option maxRecDepth 20000
open Go.RowKit
set_option linter.unusedSimpArgs false
set_option linter.unusedVariables false

/-- A slice value of n elements, m cells in all, that can be read: cell i is f i; its block is below T. -/
def SlF (T : Nat) (w : World) (v : Value) (n m : Nat) (f : Nat → Value) : Prop :=
  ∃ a cap, v = .slice a n cap ∧ (m = 0 ∨ ∃ b off, a = some ⟨b, off, none⟩ ∧ b < T ∧ b < w.heap.size ∧ ∀ i, i < m → w.cell? ⟨b, off + i, none⟩ = some (f i))
/-- As 'SlF', in a block of the call's own, from number B on and below T, of elements of the type t. -/
def OwnF (B T : Nat) (t : TypeId) (w : World) (v : Value) (n m : Nat) (f : Nat → Value) : Prop :=
  ∃ a cap, v = .slice a n cap ∧ (m = 0 ∨ ∃ b M g, a = some ⟨b, 0, none⟩ ∧ B ≤ b ∧ b < T ∧ m ≤ M ∧ w.rowIs b t M g ∧ ∀ i, i < m → g i = f i)

theorem OwnF.sl {B T : Nat} {t : TypeId} {w : World} {v : Value} {n m : Nat} {f : Nat → Value} (h : OwnF B T t w v n m f) : SlF T w v n m f := by
  obtain ⟨a, cap, rfl, h⟩ := h
  refine ⟨a, cap, rfl, ?_⟩
  rcases h with h | ⟨b, M, g, rfl, hB, hT, hm, hr, hf⟩
  · exact .inl h
  · exact .inr ⟨b, 0, rfl, hT, hr.lt, fun i hi => by rw [Nat.zero_add, hr.cell (by omega), hf i hi]⟩
theorem SlF.mono {T T' : Nat} {w : World} {v : Value} {n m : Nat} {f : Nat → Value} (h : SlF T w v n m f) (hT : T ≤ T') : SlF T' w v n m f := by
  obtain ⟨a, cap, rfl, h⟩ := h
  refine ⟨a, cap, rfl, ?_⟩
  rcases h with h | ⟨b, off, rfl, hl, r⟩
  · exact .inl h
  · exact .inr ⟨b, off, rfl, Nat.lt_of_lt_of_le hl hT, r⟩
theorem SlF.congr {T : Nat} {w : World} {v : Value} {n m : Nat} {f g : Nat → Value} (h : SlF T w v n m f) (hf : ∀ i, i < m → f i = g i) : SlF T w v n m g := by
  obtain ⟨a, cap, rfl, h⟩ := h
  refine ⟨a, cap, rfl, ?_⟩
  rcases h with h | ⟨b, off, rfl, hl, hz, hc⟩
  · exact .inl h
  · exact .inr ⟨b, off, rfl, hl, hz, fun i hi => by rw [hc i hi, hf i hi]⟩
theorem SlF.below {T C : Nat} {w w' : World} {v : Value} {n m : Nat} {f : Nat → Value} (h : SlF T w v n m f) (hb : Below C w w') (hT : T ≤ C) : SlF T w' v n m f := by
  obtain ⟨a, cap, rfl, h⟩ := h
  refine ⟨a, cap, rfl, ?_⟩
  rcases h with h | ⟨b, off, rfl, hl, hz, hc⟩
  · exact .inl h
  · exact .inr ⟨b, off, rfl, hl, Nat.lt_of_lt_of_le hz hb.size, fun i hi => by rw [hb.cell (p := ⟨b, off + i, none⟩) (Nat.lt_of_lt_of_le hl hT)]; exact hc i hi⟩
/-- The block below the heap's size. -/
theorem SlF.here {T : Nat} {w : World} {v : Value} {n m : Nat} {f : Nat → Value} (h : SlF T w v n m f) : SlF w.heap.size w v n m f := by
  obtain ⟨a, cap, rfl, h⟩ := h
  refine ⟨a, cap, rfl, ?_⟩
  rcases h with h | ⟨b, off, rfl, hl, hz, hc⟩
  · exact .inl h
  · exact .inr ⟨b, off, rfl, hz, hz, hc⟩
theorem SlF.head {T : Nat} {w : World} {v : Value} {n m : Nat} {f : Nat → Value} (h : SlF T w v n m f) : ∃ a cap, v = .slice a n cap := by
  obtain ⟨a, cap, rfl, _⟩ := h
  exact ⟨a, cap, rfl⟩
theorem SlF.parts {T : Nat} {w : World} {v : Value} {n m : Nat} {f : Nat → Value} (h : SlF T w v n m f) {k : Nat} (hk : k < m) :
    ∃ b off cap, v = .slice (some ⟨b, off, none⟩) n cap ∧ b < T ∧ b < w.heap.size ∧ ∀ i, i < m → w.cell? ⟨b, off + i, none⟩ = some (f i) := by
  obtain ⟨a, cap, rfl, h⟩ := h
  rcases h with h | ⟨b, off, rfl, hl, hz, hc⟩
  · omega
  · exact ⟨b, off, cap, rfl, hl, hz, hc⟩
theorem OwnF.block {B T : Nat} {t : TypeId} {w w' : World} {v : Value} {n m : Nat} {f : Nat → Value} (h : OwnF B T t w v n m f) (hb : ∀ k, B ≤ k → k < T → w'.heap[k]? = w.heap[k]?) : OwnF B T t w' v n m f := by
  obtain ⟨a, cap, rfl, h⟩ := h
  refine ⟨a, cap, rfl, ?_⟩
  rcases h with h | ⟨b, M, g, rfl, hB, hT, hm, hr, hf⟩
  · exact .inl h
  · exact .inr ⟨b, M, g, rfl, hB, hT, hm, hr.of_block (hb b hB hT), hf⟩
theorem OwnF.below {B T C : Nat} {t : TypeId} {w w' : World} {v : Value} {n m : Nat} {f : Nat → Value} (h : OwnF B T t w v n m f) (hb : Below C w w') (hT : T ≤ C) : OwnF B T t w' v n m f :=
  h.block fun k _ hk => hb.block k (Nat.lt_of_lt_of_le hk hT)
theorem OwnF.outside {B T C U : Nat} {t : TypeId} {w w' : World} {v : Value} {n m : Nat} {f : Nat → Value} (h : OwnF B T t w v n m f) (hb : Outside C U w w') (hU : U ≤ B ∨ T ≤ C) : OwnF B T t w' v n m f :=
  h.block fun k hk hk' => hb.block k (by omega)
theorem OwnF.mono {B T B' T' : Nat} {t : TypeId} {w : World} {v : Value} {n m : Nat} {f : Nat → Value} (h : OwnF B T t w v n m f) (hB : B' ≤ B) (hT : T ≤ T') : OwnF B' T' t w v n m f := by
  obtain ⟨a, cap, rfl, h⟩ := h
  refine ⟨a, cap, rfl, ?_⟩
  rcases h with h | ⟨b, M, g, rfl, h1, h2, r⟩
  · exact .inl h
  · exact .inr ⟨b, M, g, rfl, Nat.le_trans hB h1, Nat.lt_of_lt_of_le h2 hT, r⟩
theorem OwnF.congr {B T : Nat} {t : TypeId} {w : World} {v : Value} {n m : Nat} {f g : Nat → Value} (h : OwnF B T t w v n m f) (hf : ∀ i, i < m → f i = g i) : OwnF B T t w v n m g := by
  obtain ⟨a, cap, rfl, h⟩ := h
  refine ⟨a, cap, rfl, ?_⟩
  rcases h with h | ⟨b, M, g', rfl, h1, h2, h3, h4, h5⟩
  · exact .inl h
  · exact .inr ⟨b, M, g', rfl, h1, h2, h3, h4, fun i hi => by rw [h5 i hi, hf i hi]⟩
/-- The block below the heap's size. -/
theorem OwnF.here {B T : Nat} {t : TypeId} {w : World} {v : Value} {n m : Nat} {f : Nat → Value} (h : OwnF B T t w v n m f) : OwnF B w.heap.size t w v n m f := by
  obtain ⟨a, cap, rfl, h⟩ := h
  refine ⟨a, cap, rfl, ?_⟩
  rcases h with h | ⟨b, M, g, rfl, h1, h2, h3, h4, h5⟩
  · exact .inl h
  · exact .inr ⟨b, M, g, rfl, h1, h4.lt, h3, h4, h5⟩

/-- Of the blocks that were there, those outside the range from B on and below T are as they were. -/
structure Apart (B T : Nat) (w w' : World) : Prop where
  os : w'.os = w.os
  tape : w'.tape = w.tape
  output : w'.output = w.output
  size : w.heap.size ≤ w'.heap.size
  block : ∀ k, k < w.heap.size → k < B ∨ T ≤ k → w'.heap[k]? = w.heap[k]?
theorem Apart.refl (B T : Nat) (w : World) : Apart B T w w := ⟨rfl, rfl, rfl, Nat.le_refl _, fun _ _ _ => rfl⟩
theorem Apart.trans {B T : Nat} {a b c : World} (h : Apart B T a b) (k : Apart B T b c) : Apart B T a c :=
  ⟨k.os.trans h.os, k.tape.trans h.tape, k.output.trans h.output, Nat.le_trans h.size k.size, fun i hi hr => (k.block i (Nat.lt_of_lt_of_le hi h.size) hr).trans (h.block i hi hr)⟩
theorem Outside.apart {B T : Nat} {w w' : World} (h : Outside B T w w') {B' T' : Nat} (hB : B' ≤ B) (hT : T ≤ T') : Apart B' T' w w' := ⟨h.os, h.tape, h.output, h.size, fun k _ hr => h.block k (by omega)⟩
theorem Apart.below {B T C : Nat} {w w' : World} (h : Apart B T w w') (hC : C ≤ B) (hw : C ≤ w.heap.size) : Below C w w' := ⟨h.os, h.tape, h.output, h.size, fun k hk => h.block k (by omega) (by omega)⟩
theorem OwnF.apart {B T C U : Nat} {t : TypeId} {w w' : World} {v : Value} {n m : Nat} {f : Nat → Value} (h : OwnF B T t w v n m f) (hb : Apart C U w w') (hU : U ≤ B ∨ T ≤ C) : OwnF B T t w' v n m f := by
  obtain ⟨a, cap, rfl, h⟩ := h
  refine ⟨a, cap, rfl, ?_⟩
  rcases h with h | ⟨b, M, g, rfl, hB, hT, hm, hr, hf⟩
  · exact .inl h
  · exact .inr ⟨b, M, g, rfl, hB, hT, hm, hr.of_block (hb.block b hr.lt (by omega)), hf⟩
theorem SlF.apart {T C U : Nat} {w w' : World} {v : Value} {n m : Nat} {f : Nat → Value} (h : SlF T w v n m f) (hb : Apart C U w w') (hU : T ≤ C) : SlF T w' v n m f := by
  obtain ⟨a, cap, rfl, h⟩ := h
  refine ⟨a, cap, rfl, ?_⟩
  rcases h with h | ⟨b, off, rfl, hl, hz, hc⟩
  · exact .inl h
  · exact .inr ⟨b, off, rfl, hl, Nat.lt_of_lt_of_le hz hb.size, fun i hi => by rw [World.cell?_of_block (w := w) (hb.block b hz (by omega))]; exact hc i hi⟩
end Go.Proofs.YtiglkhkfbgjjoaaDoor
