/- The laws' markText. -/
import Derived.Test.YtiglkhkfbgjjoaaDoorProg
import Derived.Test.YtiglkhkfbgjjoaaDoorPLxT
import Derived.Deep.RegionHeld3
namespace Go.Proofs.YtiglkhkfbgjjoaaDoor
set_option maxRecDepth 20000
open Go.RowKit Go.PlainAid
set_option linter.unusedSimpArgs false
set_option linter.unusedVariables false

/-- A text of one byte. -/
def one1 (z : Int) : ByteArray := ByteArray.empty.push (UInt8.ofNat z.toNat)
theorem one1_size (z : Int) : (one1 z).size = 1 := rfl
/-- The digits of k ahead of a text, n of them at most. -/
def dgs : Nat → Nat → ByteArray → ByteArray
  | 0, _, o => o
  | n + 1, k, o => if 0 < k then dgs n (k / 10) (one1 (48 + ((k % 10 : Nat) : Int)) ++ o) else o
theorem conv_one (W : World) (g : Nat) (z : Int) (h : W.cell? ⟨g, 0, none⟩ = some (.int .u8 z)) : (convert 28 9 (.slice (some ⟨g, 0, none⟩) 1 1)).run Tryd.prog W = .ok (.string (one1 z)) W := by
  have hl : (loadCells ⟨g, 0, none⟩ 1).run Tryd.prog W = .ok ([z].map (Value.int .u8)).toArray W := by
    have := run_loadCells (P := Tryd.prog) W ⟨g, 0, none⟩ 1 (fun _ => Value.int .u8 z) (fun j hj => by
      obtain rfl : j = 0 := by omega
      rw [Addr.add_lit]
      exact h)
    rw [this]
    rfl
  rw [run_convert_bytes_string W _ _ _ _ _ _ Tryd.underlying28 Tryd.underlying5 Tryd.underlying9, run_bytesToString W _ _ _ [z] hl]
  rfl
end Go.Proofs.YtiglkhkfbgjjoaaDoor

/- The laws' eqTokenS, markTokenS, heldTokenS. -/
namespace Go.Proofs.YtiglkhkfbgjjoaaDoor
set_option maxRecDepth 20000
open Go.RowKit Go.PlainAid
set_option linter.unusedSimpArgs false
set_option linter.unusedVariables false

end Go.Proofs.YtiglkhkfbgjjoaaDoor
