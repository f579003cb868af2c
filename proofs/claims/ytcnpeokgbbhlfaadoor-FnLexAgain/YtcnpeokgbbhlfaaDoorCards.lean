/-
  DERIVED. GIVEN WITH THE SEED: THE CARDS: each row of YtcnpeokgbbhlfaaDoorRows.lean that lists a variable, with what it lists TIED to the program's text (the seventh form; the later family's looks); each row that meets fmt, with fmt's text TOLD by the authors' own Lean function (tested against real Go, not proved from fmt's source: count such statements apart). THE CARD IS WHAT COUNTS. Prove the row's statement (the work); the ties are given (YtcnpeokgbbhlfaaDoorTie.lean); close each card by the builder's one call (the guide's Derived/Test/ToyasCard.lean, 'card_holds'). Laid BY PROGRAM, IN A SANDBOX (cutbox-door.mjs). By AI agents, Wed Nov 11 2026. No macro, syntax, notation, axiom, sorry.
-/
import Derived.Test.YtcnpeokgbbhlfaaDoorRows
import GoSem.ClaimSeven
namespace Go.Proofs.YtcnpeokgbbhlfaaDoor
namespace Rows

/-- THE TIED CARD OF 'laws.FnLexAgain'. -/
def fnLexAgainCard : Claim7 := { stood := { row := fnLexAgainRow, standIns := [], harness := (true, "14b843d7c2e2d6b3cc8617e1bf58715f31eb70c2c867089e95404b3414c12087"), looks := false }, kinds := [], alts := [], laidByText := true, laidKinds := [.data], laidTests := true, laidLooks := .later }
def FnLexAgainCardSaid : Prop := Claim7.holds Tryd.pinned (.plain (OpenSpec.ofChange fnLexAgainSpec)) fnLexAgainCard

/-- THE TIED CARD OF 'laws.FnExactLex'. -/
def fnExactLexCard : Claim7 := { stood := { row := fnExactLexRow, standIns := [], harness := (true, "14b843d7c2e2d6b3cc8617e1bf58715f31eb70c2c867089e95404b3414c12087"), looks := false }, kinds := [], alts := [], laidByText := true, laidKinds := [.data], laidTests := true, laidLooks := .later }
def FnExactLexCardSaid : Prop := Claim7.holds Tryd.pinned (.plain (OpenSpec.ofChange fnExactLexSpec)) fnExactLexCard

/-- THE SECOND FORM's CARD OF 'laws.FnLexAgain'. -/
def fnLexAgainUptoCard : Claim7 := { stood := { row := fnLexAgainUptoRow, standIns := [], harness := (true, "14b843d7c2e2d6b3cc8617e1bf58715f31eb70c2c867089e95404b3414c12087"), looks := false }, kinds := [], alts := [], laidByText := true, laidKinds := [.data], laidTests := true, laidLooks := .later }
def FnLexAgainUptoCardSaid : Prop := Claim7.holds Tryd.pinned (.plain (OpenSpec.upto fnLexAgainSpec)) fnLexAgainUptoCard

/-- THE SECOND FORM's CARD OF 'laws.FnExactLex'. -/
def fnExactLexUptoCard : Claim7 := { stood := { row := fnExactLexUptoRow, standIns := [], harness := (true, "14b843d7c2e2d6b3cc8617e1bf58715f31eb70c2c867089e95404b3414c12087"), looks := false }, kinds := [], alts := [], laidByText := true, laidKinds := [.data], laidTests := true, laidLooks := .later }
def FnExactLexUptoCardSaid : Prop := Claim7.holds Tryd.pinned (.plain (OpenSpec.upto fnExactLexSpec)) fnExactLexUptoCard
end Rows
end Go.Proofs.YtcnpeokgbbhlfaaDoor
