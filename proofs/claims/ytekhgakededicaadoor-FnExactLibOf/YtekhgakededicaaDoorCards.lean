/-
  DERIVED. GIVEN WITH THE SEED: THE CARDS: each row of YtekhgakededicaaDoorRows.lean that lists a variable, with what it lists TIED to the program's text (the seventh form; the later family's looks); each row that meets fmt, with fmt's text TOLD by the authors' own Lean function (tested against real Go, not proved from fmt's source: count such statements apart). THE CARD IS WHAT COUNTS. Prove the row's statement (the work); the ties are given (YtekhgakededicaaDoorTie.lean); close each card by the builder's one call (the guide's Derived/Test/ToyasCard.lean, 'card_holds'). Laid BY PROGRAM, IN A SANDBOX (cutbox-door.mjs). By AI agents, Wed Nov 11 2026. No macro, syntax, notation, axiom, sorry.
-/
import Derived.Test.YtekhgakededicaaDoorRows
import GoSem.ClaimSeven
namespace Go.Proofs.YtekhgakededicaaDoor
namespace Rows

/-- THE TIED CARD OF 'laws.FnExactLibOf'. -/
def fnExactLibOfCard : Claim7 := { stood := { row := fnExactLibOfRow, standIns := [], harness := (true, "713536f4e8f0ec4f39865de13b755e5ff03f26a8e67ca7a18e923f44133793af"), looks := false }, kinds := [], alts := [], laidByText := true, laidKinds := [.data], laidTests := true, laidLooks := .later }
def FnExactLibOfCardSaid : Prop := Claim7.holds Tryd.pinned (.plain (OpenSpec.ofChange fnExactLibOfSpec)) fnExactLibOfCard

/-- THE SECOND FORM's CARD OF 'laws.FnExactLibOf'. -/
def fnExactLibOfUptoCard : Claim7 := { stood := { row := fnExactLibOfUptoRow, standIns := [], harness := (true, "713536f4e8f0ec4f39865de13b755e5ff03f26a8e67ca7a18e923f44133793af"), looks := false }, kinds := [], alts := [], laidByText := true, laidKinds := [.data], laidTests := true, laidLooks := .later }
def FnExactLibOfUptoCardSaid : Prop := Claim7.holds Tryd.pinned (.plain (OpenSpec.upto fnExactLibOfSpec)) fnExactLibOfUptoCard
end Rows
end Go.Proofs.YtekhgakededicaaDoor
