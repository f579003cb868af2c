/- Boxes that are known cell by cell. -/
import Derived.Test.YtmckcnmlhgpnhaaGreatProg
import Derived.Test.YtmckcnmlhgpnhaaGreatKRowF
import Derived.Test.YtmckcnmlhgpnhaaGreatKSliceA
namespace Go.Proofs.YtmckcnmlhgpnhaaGreat
set_option maxRecDepth 20000
open Go.RowKit
set_option linter.unusedSimpArgs false
set_option linter.unusedVariables false

/-- The block b has just these cells, none of them frozen. -/
def BoxIs (w : World) (b : Nat) (t : TypeId) (A : Array Value) : Prop := w.heap[b]? = some (.cells A t (0, 0))
theorem BoxIs.cell {w : World} {b : Nat} {t : TypeId} {A : Array Value} (h : BoxIs w b t A) : ∀ i, w.cell? ⟨b, i, none⟩ = A[i]? := fun i => by
  unfold BoxIs at h
  simp [World.cell?, h]
theorem BoxIs.frozen {w : World} {b : Nat} {t : TypeId} {A : Array Value} (h : BoxIs w b t A) : ∀ i, w.frozen? ⟨b, i, none⟩ = false := fun i => by
  unfold BoxIs at h
  simp [World.frozen?, h]
theorem BoxIs.lt {w : World} {b : Nat} {t : TypeId} {A : Array Value} (h : BoxIs w b t A) : b < w.heap.size := (Array.getElem?_eq_some_iff.1 h).1
theorem BoxIs.new (w : World) (t : TypeId) (A : Array Value) : BoxIs (w.alloc (.cells A t)) w.heap.size t A := Go.Deep.blk_alloc_new _ _
theorem BoxIs.alloc {w : World} {b : Nat} {t : TypeId} {A : Array Value} (h : BoxIs w b t A) (o : Obj) : BoxIs (w.alloc o) b t A := (Go.Deep.blk_alloc_lt _ _ _ h.lt).trans h
theorem BoxIs.below {w w' : World} {b C : Nat} {t : TypeId} {A : Array Value} (h : BoxIs w b t A) (hb : Below C w w') (hC : b < C) : BoxIs w' b t A := (hb.block b hC).trans h
theorem BoxIs.set {w : World} {b : Nat} {t : TypeId} {A : Array Value} (h : BoxIs w b t A) (i : Nat) (v : Value) : BoxIs (w.setCell ⟨b, i, none⟩ v) b t (A.setIfInBounds i v) := by
  unfold BoxIs at h ⊢
  simp [World.setCell, Array.getElem?_modify, h]
theorem BoxIs.other {w : World} {b : Nat} {t : TypeId} {A : Array Value} (h : BoxIs w b t A) {k : Nat} (hk : b ≠ k) (i : Nat) (v : Value) : BoxIs (w.setCell ⟨k, i, none⟩ v) b t A := (Below.heap_setCell _ _ _ _ hk).trans h
end Go.Proofs.YtmckcnmlhgpnhaaGreat
