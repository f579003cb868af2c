/- The model's l3Over and l3Flip. -/
import Derived.Test.YtibjellhafndiaaGreatDoorProg
import Derived.Test.YtibjellhafndiaaGreatDoorSFwJ
namespace Go.Proofs.YtibjellhafndiaaGreatDoor
set_option maxRecDepth 20000
open Go.RowKit
set_option linter.unusedSimpArgs false
set_option linter.unusedVariables false

theorem kp_ten {W w : World} {X : List Nat} {k : Nat} {c0 c1 c2 c3 c4 c5 c6 c7 c8 c9 : Value} (h : Kp X w W) (hk : w.heap.size ≤ k) :
    Kp X w ((((((((((W.setCell ⟨k, 0, none⟩ c0).setCell ⟨k, 1, none⟩ c1).setCell ⟨k, 2, none⟩ c2).setCell ⟨k, 3, none⟩ c3).setCell ⟨k, 4, none⟩ c4).setCell ⟨k, 5, none⟩ c5).setCell ⟨k, 6, none⟩ c6).setCell ⟨k, 7, none⟩ c7).setCell ⟨k, 8, none⟩ c8).setCell ⟨k, 9, none⟩ c9) :=
  (((((((((h.setCell (p := ⟨k, 0, none⟩) (.inr hk) _).setCell (p := ⟨k, 1, none⟩) (.inr hk) _).setCell (p := ⟨k, 2, none⟩) (.inr hk) _).setCell (p := ⟨k, 3, none⟩) (.inr hk) _).setCell (p := ⟨k, 4, none⟩) (.inr hk) _).setCell (p := ⟨k, 5, none⟩) (.inr hk) _).setCell (p := ⟨k, 6, none⟩) (.inr hk) _).setCell (p := ⟨k, 7, none⟩) (.inr hk) _).setCell (p := ⟨k, 8, none⟩) (.inr hk) _).setCell (p := ⟨k, 9, none⟩) (.inr hk) _
theorem ten_block {W : World} {k x : Nat} {c0 c1 c2 c3 c4 c5 c6 c7 c8 c9 : Value} (hk : x ≠ k) :
    ((((((((((W.setCell ⟨k, 0, none⟩ c0).setCell ⟨k, 1, none⟩ c1).setCell ⟨k, 2, none⟩ c2).setCell ⟨k, 3, none⟩ c3).setCell ⟨k, 4, none⟩ c4).setCell ⟨k, 5, none⟩ c5).setCell ⟨k, 6, none⟩ c6).setCell ⟨k, 7, none⟩ c7).setCell ⟨k, 8, none⟩ c8).setCell ⟨k, 9, none⟩ c9).heap[x]? = W.heap[x]? :=
  (Below.heap_setCell _ _ _ x hk).trans ((Below.heap_setCell _ _ _ x hk).trans ((Below.heap_setCell _ _ _ x hk).trans ((Below.heap_setCell _ _ _ x hk).trans ((Below.heap_setCell _ _ _ x hk).trans ((Below.heap_setCell _ _ _ x hk).trans ((Below.heap_setCell _ _ _ x hk).trans ((Below.heap_setCell _ _ _ x hk).trans ((Below.heap_setCell _ _ _ x hk).trans (Below.heap_setCell _ _ _ x hk)))))))))
/-- The Roots of an arena of one's own, in block br, if there are any. -/
def OwnR (w : World) (ar : Option Addr) (br n : Nat) (y : Nat → Int) : Prop := n = 0 ∨ (ar = some ⟨br, 0, none⟩ ∧ RwR w br n y)
end Go.Proofs.YtibjellhafndiaaGreatDoor

/- The program's endCycle and flip. -/
namespace Go.Proofs.YtibjellhafndiaaGreatDoor
set_option maxRecDepth 20000
open Go.RowKit
set_option linter.unusedSimpArgs false
set_option linter.unusedVariables false

end Go.Proofs.YtibjellhafndiaaGreatDoor
