/- - -/
import Derived.Test.YtblcfbhlmdhnpaaGreatBRowF
namespace Go.Proofs.YtblcfbhlmdhnpaaGreat
set_option maxRecDepth 20000
open Go.RowKit
set_option linter.unusedSimpArgs false
set_option linter.unusedVariables false
def za (w : World) (b : Nat) (t : TypeId) (A : Array Value) : Prop := w.heap[b]? = some (.cells A t (0, 0))
theorem za.cell {w : World} {b : Nat} {t : TypeId} {A : Array Value} (h : za w b t A) : ∀ i, w.cell? ⟨b, i, none⟩ = A[i]? := fun i => by
 unfold za at h
 simp [World.cell?, h]
theorem za.frozen {w : World} {b : Nat} {t : TypeId} {A : Array Value} (h : za w b t A) : ∀ i, w.frozen? ⟨b, i, none⟩ = false := fun i => by
 unfold za at h
 simp [World.frozen?, h]
theorem za.lt {w : World} {b : Nat} {t : TypeId} {A : Array Value} (h : za w b t A) : b < w.heap.size := (Array.getElem?_eq_some_iff.1 h).1
theorem za.new (w : World) (t : TypeId) (A : Array Value) : za (w.alloc (.cells A t)) w.heap.size t A := Go.Deep.blk_alloc_new _ _
theorem za.alloc {w : World} {b : Nat} {t : TypeId} {A : Array Value} (h : za w b t A) (o : Obj) : za (w.alloc o) b t A := (Go.Deep.blk_alloc_lt _ _ _ h.lt).trans h
theorem za.below {w w' : World} {b C : Nat} {t : TypeId} {A : Array Value} (h : za w b t A) (hb : Below C w w') (hC : b < C) : za w' b t A := (hb.block b hC).trans h
theorem za.set {w : World} {b : Nat} {t : TypeId} {A : Array Value} (h : za w b t A) (i : Nat) (v : Value) : za (w.setCell ⟨b, i, none⟩ v) b t (A.setIfInBounds i v) := by
 unfold za at h ⊢
 simp [World.setCell, Array.getElem?_modify, h]
theorem za.other {w : World} {b : Nat} {t : TypeId} {A : Array Value} (h : za w b t A) {k : Nat} (hk : b ≠ k) (i : Nat) (v : Value) : za (w.setCell ⟨k, i, none⟩ v) b t A := (Below.heap_setCell _ _ _ _ hk).trans h
end Go.Proofs.YtblcfbhlmdhnpaaGreat
