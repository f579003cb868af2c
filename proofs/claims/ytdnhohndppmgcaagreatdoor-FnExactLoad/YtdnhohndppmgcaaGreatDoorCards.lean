/-
  DERIVED. GIVEN WITH THE SEED: THE CARDS: each row of YtdnhohndppmgcaaGreatDoorRows.lean that lists a variable, with what it lists TIED to the program's text (the seventh form; the later family's looks); each row that meets fmt, with fmt's text TOLD by the authors' own Lean function (tested against real Go, not proved from fmt's source: count such statements apart). THE CARD IS WHAT COUNTS. Prove the row's statement (the work); the ties are given (YtdnhohndppmgcaaGreatDoorTie.lean); close each card by the builder's one call (the guide's Derived/Test/ToyasCard.lean, 'card_holds'). Laid BY PROGRAM, IN A SANDBOX (cutbox-door.mjs). By AI agents, Wed Nov 11 2026. No macro, syntax, notation, axiom, sorry.
-/
import Derived.Test.YtdnhohndppmgcaaGreatDoorRows
import GoSem.ClaimSeven
namespace Go.Proofs.YtdnhohndppmgcaaGreatDoor
namespace Rows

/-- THE TIED CARD OF 'laws.FnExactLoad'. -/
def fnExactLoadCard : Claim7 := { stood := { row := fnExactLoadRow, standIns := [], harness := (true, "ffd60f6e48874668e4113b9c2f1ad66d1f478f245b6d5ab7c64d1b35431ac4db"), looks := true }, kinds := [], alts := [], laidByText := true, laidKinds := [.handle], laidTests := true, laidLooks := .later }
def FnExactLoadCardSaid : Prop := Claim7.holds Tryz.pinned (.plain (OpenSpec.ofChange fnExactLoadSpec)) fnExactLoadCard

/-- THE TIED CARD OF 'laws.FnExactNewCell'. -/
def fnExactNewCellCard : Claim7 := { stood := { row := fnExactNewCellRow, standIns := [], harness := (true, "ffd60f6e48874668e4113b9c2f1ad66d1f478f245b6d5ab7c64d1b35431ac4db"), looks := true }, kinds := [], alts := [], laidByText := true, laidKinds := [.handle], laidTests := true, laidLooks := .later }
def FnExactNewCellCardSaid : Prop := Claim7.holds Tryz.pinned (.plain (OpenSpec.ofChange fnExactNewCellSpec)) fnExactNewCellCard

/-- THE TIED CARD OF 'laws.FnExactNewFun'. -/
def fnExactNewFunCard : Claim7 := { stood := { row := fnExactNewFunRow, standIns := [], harness := (true, "ffd60f6e48874668e4113b9c2f1ad66d1f478f245b6d5ab7c64d1b35431ac4db"), looks := true }, kinds := [], alts := [], laidByText := true, laidKinds := [.handle], laidTests := true, laidLooks := .later }
def FnExactNewFunCardSaid : Prop := Claim7.holds Tryz.pinned (.plain (OpenSpec.ofChange fnExactNewFunSpec)) fnExactNewFunCard

/-- THE TIED CARD OF 'laws.FnExactPutText'. -/
def fnExactPutTextCard : Claim7 := { stood := { row := fnExactPutTextRow, standIns := [], harness := (true, "ffd60f6e48874668e4113b9c2f1ad66d1f478f245b6d5ab7c64d1b35431ac4db"), looks := true }, kinds := [], alts := [], laidByText := true, laidKinds := [.handle], laidTests := true, laidLooks := .later }
def FnExactPutTextCardSaid : Prop := Claim7.holds Tryz.pinned (.plain (OpenSpec.ofChange fnExactPutTextSpec)) fnExactPutTextCard

/-- THE TIED CARD OF 'laws.FnExactJoinText'. -/
def fnExactJoinTextCard : Claim7 := { stood := { row := fnExactJoinTextRow, standIns := [], harness := (true, "ffd60f6e48874668e4113b9c2f1ad66d1f478f245b6d5ab7c64d1b35431ac4db"), looks := true }, kinds := [], alts := [], laidByText := true, laidKinds := [.handle], laidTests := true, laidLooks := .later }
def FnExactJoinTextCardSaid : Prop := Claim7.holds Tryz.pinned (.plain (OpenSpec.ofChange fnExactJoinTextSpec)) fnExactJoinTextCard

/-- THE TIED CARD OF 'laws.FnExactNewTab'. -/
def fnExactNewTabCard : Claim7 := { stood := { row := fnExactNewTabRow, standIns := [], harness := (true, "ffd60f6e48874668e4113b9c2f1ad66d1f478f245b6d5ab7c64d1b35431ac4db"), looks := true }, kinds := [], alts := [], laidByText := true, laidKinds := [.handle], laidTests := true, laidLooks := .later }
def FnExactNewTabCardSaid : Prop := Claim7.holds Tryz.pinned (.plain (OpenSpec.ofChange fnExactNewTabSpec)) fnExactNewTabCard

/-- THE TIED CARD OF 'laws.FnExactGetKey'. -/
def fnExactGetKeyCard : Claim7 := { stood := { row := fnExactGetKeyRow, standIns := [], harness := (true, "ffd60f6e48874668e4113b9c2f1ad66d1f478f245b6d5ab7c64d1b35431ac4db"), looks := true }, kinds := [], alts := [], laidByText := true, laidKinds := [.handle], laidTests := true, laidLooks := .later }
def FnExactGetKeyCardSaid : Prop := Claim7.holds Tryz.pinned (.plain (OpenSpec.ofChange fnExactGetKeySpec)) fnExactGetKeyCard

/-- THE TIED CARD OF 'laws.FnExactSetKey'. -/
def fnExactSetKeyCard : Claim7 := { stood := { row := fnExactSetKeyRow, standIns := [], harness := (true, "ffd60f6e48874668e4113b9c2f1ad66d1f478f245b6d5ab7c64d1b35431ac4db"), looks := true }, kinds := [], alts := [], laidByText := true, laidKinds := [.handle], laidTests := true, laidLooks := .later }
def FnExactSetKeyCardSaid : Prop := Claim7.holds Tryz.pinned (.plain (OpenSpec.ofChange fnExactSetKeySpec)) fnExactSetKeyCard

/-- THE SECOND FORM's CARD OF 'laws.FnExactLoad'. -/
def fnExactLoadUptoCard : Claim7 := { stood := { row := fnExactLoadUptoRow, standIns := [], harness := (true, "ffd60f6e48874668e4113b9c2f1ad66d1f478f245b6d5ab7c64d1b35431ac4db"), looks := true }, kinds := [], alts := [], laidByText := true, laidKinds := [.handle], laidTests := true, laidLooks := .later }
def FnExactLoadUptoCardSaid : Prop := Claim7.holds Tryz.pinned (.plain (OpenSpec.upto fnExactLoadSpec)) fnExactLoadUptoCard

/-- THE SECOND FORM's CARD OF 'laws.FnExactNewCell'. -/
def fnExactNewCellUptoCard : Claim7 := { stood := { row := fnExactNewCellUptoRow, standIns := [], harness := (true, "ffd60f6e48874668e4113b9c2f1ad66d1f478f245b6d5ab7c64d1b35431ac4db"), looks := true }, kinds := [], alts := [], laidByText := true, laidKinds := [.handle], laidTests := true, laidLooks := .later }
def FnExactNewCellUptoCardSaid : Prop := Claim7.holds Tryz.pinned (.plain (OpenSpec.upto fnExactNewCellSpec)) fnExactNewCellUptoCard

/-- THE SECOND FORM's CARD OF 'laws.FnExactNewFun'. -/
def fnExactNewFunUptoCard : Claim7 := { stood := { row := fnExactNewFunUptoRow, standIns := [], harness := (true, "ffd60f6e48874668e4113b9c2f1ad66d1f478f245b6d5ab7c64d1b35431ac4db"), looks := true }, kinds := [], alts := [], laidByText := true, laidKinds := [.handle], laidTests := true, laidLooks := .later }
def FnExactNewFunUptoCardSaid : Prop := Claim7.holds Tryz.pinned (.plain (OpenSpec.upto fnExactNewFunSpec)) fnExactNewFunUptoCard

/-- THE SECOND FORM's CARD OF 'laws.FnExactPutText'. -/
def fnExactPutTextUptoCard : Claim7 := { stood := { row := fnExactPutTextUptoRow, standIns := [], harness := (true, "ffd60f6e48874668e4113b9c2f1ad66d1f478f245b6d5ab7c64d1b35431ac4db"), looks := true }, kinds := [], alts := [], laidByText := true, laidKinds := [.handle], laidTests := true, laidLooks := .later }
def FnExactPutTextUptoCardSaid : Prop := Claim7.holds Tryz.pinned (.plain (OpenSpec.upto fnExactPutTextSpec)) fnExactPutTextUptoCard

/-- THE SECOND FORM's CARD OF 'laws.FnExactJoinText'. -/
def fnExactJoinTextUptoCard : Claim7 := { stood := { row := fnExactJoinTextUptoRow, standIns := [], harness := (true, "ffd60f6e48874668e4113b9c2f1ad66d1f478f245b6d5ab7c64d1b35431ac4db"), looks := true }, kinds := [], alts := [], laidByText := true, laidKinds := [.handle], laidTests := true, laidLooks := .later }
def FnExactJoinTextUptoCardSaid : Prop := Claim7.holds Tryz.pinned (.plain (OpenSpec.upto fnExactJoinTextSpec)) fnExactJoinTextUptoCard

/-- THE SECOND FORM's CARD OF 'laws.FnExactNewTab'. -/
def fnExactNewTabUptoCard : Claim7 := { stood := { row := fnExactNewTabUptoRow, standIns := [], harness := (true, "ffd60f6e48874668e4113b9c2f1ad66d1f478f245b6d5ab7c64d1b35431ac4db"), looks := true }, kinds := [], alts := [], laidByText := true, laidKinds := [.handle], laidTests := true, laidLooks := .later }
def FnExactNewTabUptoCardSaid : Prop := Claim7.holds Tryz.pinned (.plain (OpenSpec.upto fnExactNewTabSpec)) fnExactNewTabUptoCard

/-- THE SECOND FORM's CARD OF 'laws.FnExactGetKey'. -/
def fnExactGetKeyUptoCard : Claim7 := { stood := { row := fnExactGetKeyUptoRow, standIns := [], harness := (true, "ffd60f6e48874668e4113b9c2f1ad66d1f478f245b6d5ab7c64d1b35431ac4db"), looks := true }, kinds := [], alts := [], laidByText := true, laidKinds := [.handle], laidTests := true, laidLooks := .later }
def FnExactGetKeyUptoCardSaid : Prop := Claim7.holds Tryz.pinned (.plain (OpenSpec.upto fnExactGetKeySpec)) fnExactGetKeyUptoCard

/-- THE SECOND FORM's CARD OF 'laws.FnExactSetKey'. -/
def fnExactSetKeyUptoCard : Claim7 := { stood := { row := fnExactSetKeyUptoRow, standIns := [], harness := (true, "ffd60f6e48874668e4113b9c2f1ad66d1f478f245b6d5ab7c64d1b35431ac4db"), looks := true }, kinds := [], alts := [], laidByText := true, laidKinds := [.handle], laidTests := true, laidLooks := .later }
def FnExactSetKeyUptoCardSaid : Prop := Claim7.holds Tryz.pinned (.plain (OpenSpec.upto fnExactSetKeySpec)) fnExactSetKeyUptoCard
end Rows
end Go.Proofs.YtdnhohndppmgcaaGreatDoor
