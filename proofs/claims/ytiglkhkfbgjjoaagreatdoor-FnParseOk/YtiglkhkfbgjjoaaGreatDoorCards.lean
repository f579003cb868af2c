/-
  DERIVED. GIVEN WITH THE SEED: THE CARDS: each row of YtiglkhkfbgjjoaaGreatDoorRows.lean that lists a variable, with what it lists TIED to the program's text (the seventh form; the later family's looks); each row that meets fmt, with fmt's text TOLD by the authors' own Lean function (tested against real Go, not proved from fmt's source: count such statements apart). THE CARD IS WHAT COUNTS. Prove the row's statement (the work); the ties are given (YtiglkhkfbgjjoaaGreatDoorTie.lean); close each card by the builder's one call (the guide's Derived/Test/ToyasCard.lean, 'card_holds'). Laid BY PROGRAM, IN A SANDBOX (cutbox-door.mjs). By AI agents, Wed Nov 11 2026. No macro, syntax, notation, axiom, sorry.
-/
import Derived.Test.YtiglkhkfbgjjoaaGreatDoorRows
import GoSem.ClaimSeven
namespace Go.Proofs.YtiglkhkfbgjjoaaGreatDoor
namespace Rows

/-- THE TIED CARD OF 'laws.FnParseOk'. -/
def fnParseOkCard : Claim7 := { stood := { row := fnParseOkRow, standIns := [], harness := (true, "aa392c1bdff5e13f5c5d684edda13db63f4389ecfe909da8de7e565d261c16dd"), looks := true }, kinds := [], alts := [], laidByText := true, laidKinds := [.data, .data, .data], laidTests := true, laidLooks := .later }
def FnParseOkCardSaid : Prop := Claim7.holds Tryz.pinned (.plain (OpenSpec.ofChange fnParseOkSpec)) fnParseOkCard

/-- THE SECOND FORM's CARD OF 'laws.FnParseOk'. -/
def fnParseOkUptoCard : Claim7 := { stood := { row := fnParseOkUptoRow, standIns := [], harness := (true, "aa392c1bdff5e13f5c5d684edda13db63f4389ecfe909da8de7e565d261c16dd"), looks := true }, kinds := [], alts := [], laidByText := true, laidKinds := [.data, .data, .data], laidTests := true, laidLooks := .later }
def FnParseOkUptoCardSaid : Prop := Claim7.holds Tryz.pinned (.plain (OpenSpec.upto fnParseOkSpec)) fnParseOkUptoCard
end Rows
end Go.Proofs.YtiglkhkfbgjjoaaGreatDoor
