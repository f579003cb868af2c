/- What a write into a range of blocks leaves alone. No Go here. -/
import Derived.WalkKit
import Derived.Below
import Derived.Deep.OwnRows
namespace Go.Proofs.Ytdkicakkfmmilaa
set_option maxRecDepth 20000
open Go.RowKit

/-- Outside the blocks from B on and below T all is as it was. -/
structure Outside (B T : Nat) (w w' : World) : Prop where
  os : w'.os = w.os
  tape : w'.tape = w.tape
  output : w'.output = w.output
  size : w.heap.size ≤ w'.heap.size
  block : ∀ k, k < B ∨ T ≤ k → w'.heap[k]? = w.heap[k]?
theorem Outside.refl (B T : Nat) (w : World) : Outside B T w w := ⟨rfl, rfl, rfl, Nat.le_refl _, fun _ _ => rfl⟩
theorem Outside.setCell {B T : Nat} {a w : World} (h : Outside B T a w) {p : Addr} (h1 : B ≤ p.block) (h2 : p.block < T) (u : Value) : Outside B T a (w.setCell p u) :=
  ⟨h.os, h.tape, h.output, by simpa using h.size, fun k hk => by rw [Go.Deep.blk_setCell_other _ _ _ _ (by omega)]; exact h.block k hk⟩
theorem Outside.below {B T C : Nat} {w w' : World} (h : Outside B T w w') (hC : C ≤ B) : Below C w w' := ⟨h.os, h.tape, h.output, h.size, fun k hk => h.block k (.inl (Nat.lt_of_lt_of_le hk hC))⟩
end Go.Proofs.Ytdkicakkfmmilaa
