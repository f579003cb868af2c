/-
  DERIVED. GIVEN WITH THE SEED: THE CARDS: each row of YtiafngmiofcehaaDoorRows.lean that lists a variable, with what it lists TIED to the program's text (the seventh form; the later family's looks); each row that meets fmt, with fmt's text TOLD by the authors' own Lean function (tested against real Go, not proved from fmt's source: count such statements apart). THE CARD IS WHAT COUNTS. Prove the row's statement (the work); the ties are given (YtiafngmiofcehaaDoorTie.lean); close each card by the builder's one call (the guide's Derived/Test/ToyasCard.lean, 'card_holds'). Laid BY PROGRAM, IN A SANDBOX (cutbox-door.mjs). By AI agents, Wed Nov 11 2026. No macro, syntax, notation, axiom, sorry.
-/
import Derived.Test.YtiafngmiofcehaaDoorRows
import GoSem.ClaimSeven
namespace Go.Proofs.YtiafngmiofcehaaDoor
namespace Rows

/-- THE TIED CARD OF 'laws.FnBinds'. -/
def fnBindsCard : Claim7 := { stood := { row := fnBindsRow, standIns := [], harness := (true, "84bda160752fd0d7b11cbd6ba1b07f32e1e837c0aaa81f8e9bc70b502b12aecb"), looks := true }, kinds := [], alts := [], laidByText := true, laidKinds := [.data, .data, .data], laidTests := true, laidLooks := .later }
def FnBindsCardSaid : Prop := Claim7.holds Tryd.pinned (.plain (OpenSpec.ofChange fnBindsSpec)) fnBindsCard

/-- THE TIED CARD OF 'laws.FnExactParse'. -/
def fnExactParseCard : Claim7 := { stood := { row := fnExactParseRow, standIns := [], harness := (true, "84bda160752fd0d7b11cbd6ba1b07f32e1e837c0aaa81f8e9bc70b502b12aecb"), looks := true }, kinds := [], alts := [], laidByText := true, laidKinds := [.data, .data, .data], laidTests := true, laidLooks := .later }
def FnExactParseCardSaid : Prop := Claim7.holds Tryd.pinned (.plain (OpenSpec.ofChange fnExactParseSpec)) fnExactParseCard

/-- THE SECOND FORM's CARD OF 'laws.FnBinds'. -/
def fnBindsUptoCard : Claim7 := { stood := { row := fnBindsUptoRow, standIns := [], harness := (true, "84bda160752fd0d7b11cbd6ba1b07f32e1e837c0aaa81f8e9bc70b502b12aecb"), looks := true }, kinds := [], alts := [], laidByText := true, laidKinds := [.data, .data, .data], laidTests := true, laidLooks := .later }
def FnBindsUptoCardSaid : Prop := Claim7.holds Tryd.pinned (.plain (OpenSpec.upto fnBindsSpec)) fnBindsUptoCard

/-- THE SECOND FORM's CARD OF 'laws.FnExactParse'. -/
def fnExactParseUptoCard : Claim7 := { stood := { row := fnExactParseUptoRow, standIns := [], harness := (true, "84bda160752fd0d7b11cbd6ba1b07f32e1e837c0aaa81f8e9bc70b502b12aecb"), looks := true }, kinds := [], alts := [], laidByText := true, laidKinds := [.data, .data, .data], laidTests := true, laidLooks := .later }
def FnExactParseUptoCardSaid : Prop := Claim7.holds Tryd.pinned (.plain (OpenSpec.upto fnExactParseSpec)) fnExactParseUptoCard
end Rows
end Go.Proofs.YtiafngmiofcehaaDoor
