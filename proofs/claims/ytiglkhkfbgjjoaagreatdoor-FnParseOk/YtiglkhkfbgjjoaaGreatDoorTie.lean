/-
  DERIVED. GIVEN WITH THE SEED: THE PROGRAM's TIES (one call each: nine closed facts by the kernel) AND EACH ROW's TIE, after the 31st guide's Derived/Test/Toyas{Tie, Card}.lean. No idea stands in it: it is a product of the set-up. Laid BY PROGRAM, IN A SANDBOX (cutbox-door.mjs). By AI agents, Wed Nov 11 2026. No macro, syntax, notation, axiom, sorry.
-/
import Derived.Test.YtiglkhkfbgjjoaaGreatDoorRows
import Derived.LaidByTextLater
import Derived.SevenTiedAt
import Derived.LaidSub
import Derived.LaidOnce
namespace Go.Proofs.YtiglkhkfbgjjoaaGreatDoor
open Go
set_option maxRecDepth 100000
theorem seatTie1 : Tryz.prog.laidByTextLater [("loop.example/g00101/impl.marks", Rows.laid_loop_example_g00101_impl_marks), ("loop.example/g00101/impl.opTexts", Rows.laid_loop_example_g00101_impl_opTexts), ("loop.example/g00101/impl.turnTexts", Rows.laid_loop_example_g00101_impl_turnTexts)] [.data, .data, .data] true :=
  Program.laidByTextLater_by_one 24 8 22 (by kernel_rfl) (by kernel_rfl) (by kernel_rfl) (by kernel_rfl) (by kernel_rfl) (by kernel_rfl) (fun _ _ => by kernel_rfl)
theorem noOwnUnsafe : Tryz.pinned.checked.prog.headLifts.contains "ownunsafe" = false := by kernel_rfl
theorem tie : Tryz.prog.laidByTextLater [("loop.example/g00101/impl.marks", Rows.laid_loop_example_g00101_impl_marks), ("loop.example/g00101/impl.opTexts", Rows.laid_loop_example_g00101_impl_opTexts), ("loop.example/g00101/impl.turnTexts", Rows.laid_loop_example_g00101_impl_turnTexts)] [.data, .data, .data] true :=
  Program.laidByTextLater.sub seatTie1 ["loop.example/g00101/impl.marks", "loop.example/g00101/impl.opTexts", "loop.example/g00101/impl.turnTexts"] (by kernel_rfl) (by kernel_rfl)
theorem fnParseOk_row_tie : Rows.fnParseOkRow.laidByTextAt .later Tryz.pinned [.data, .data, .data] true :=
  OpenClaim.laidByTextAt_later rfl rfl tie noOwnUnsafe
theorem fnParseOkUpto_row_tie : Rows.fnParseOkUptoRow.laidByTextAt .later Tryz.pinned [.data, .data, .data] true :=
  OpenClaim.laidByTextAt_later rfl rfl tie noOwnUnsafe
end Go.Proofs.YtiglkhkfbgjjoaaGreatDoor
