/-
  NARROWER THAN 'FOR EVERY INPUT', by the rows' own cells (each row's printed sentence says how): FnParseOk: laid.
  DERIVED. THE GIVEN ROWS OF THIS SEAT. 1 by the template 'for every input the law returns true; each argument reads behind the call as it read before'; 0 by the template 'total and deterministic' (their statements: YtiglkhkfbgjjoaaGreatDoorTotals.lean).
  GIVEN WITH THE SEED: the statements are not yours to turn. If you find one false, say at which input.
  Laid BY PROGRAM, IN A SANDBOX (cutbox-rows.mjs): the forced cells as the released guide's own fill.sh prints them over the translation d27a52b6c60346c7… (all of the seat's roots in one cut). By AI agents, Wed Nov 11 2026. No macro, syntax, notation, axiom, sorry.
-/
import Derived.Test.YtiglkhkfbgjjoaaGreatDoorChecked
import GoSem.Claim
import GoSem.ClaimJoined
import GoSem.ClaimMapViews
import Derived.JoinedTies
import Derived.KernelRfl
namespace Go.Proofs.YtiglkhkfbgjjoaaGreatDoor
/- THE CELL 'sum', in the pinned program and in every row, IS THE sha256 OF THE DUMP (.gsa) THAT YtiglkhkfbgjjoaaGreatDoorProg.lean LOADS. Nothing in Lean hashes anything: it is a label: what it is worth is what the hold of that sum in a sandbox is worth. -/
noncomputable def Tryz.pinned : Pinned := { name := "ytiglkhkfbgjjoaagreatdoor", sum := "d27a52b6c60346c7f9d98b0de1be1122db6801303f093e48c1e580607db93e82", checked := Tryz.checked }
namespace Rows
def none {H : Type} : Left H := { results := [], args := [] }

/- WHAT THE LISTED PACKAGE-LEVEL VARIABLES READ AS WHEN THE CALL BEGINS. Each datum BY PROGRAM (the guide's laid-datum.mjs) off the statement by which the dump's own 'gosem.cut.vars' lays the variable. In a bare row this is a premise. The card (YtiglkhkfbgjjoaaGreatDoorCards.lean) ties it to the program's text. -/
def laid_loop_example_g00101_impl_marks {H : Type} : DataW H := .agg [.lit (.string [46, 46]), .lit (.string [61, 61]), .lit (.string [126, 61]), .lit (.string [60, 61]), .lit (.string [123]), .lit (.string [125]), .lit (.string [40]), .lit (.string [41]), .lit (.string [91]), .lit (.string [93]), .lit (.string [59]), .lit (.string [44]), .lit (.string [46]), .lit (.string [61]), .lit (.string [60]), .lit (.string [43]), .lit (.string [45]), .lit (.string [42]), .lit (.string [47]), .lit (.string [37]), .lit (.string [35])]
def laid_loop_example_g00101_impl_opTexts {H : Type} : DataW H := .agg [.lit (.string []), .lit (.string [43]), .lit (.string [45]), .lit (.string [42]), .lit (.string [47]), .lit (.string [37]), .lit (.string [46, 46]), .lit (.string [61, 61]), .lit (.string [126, 61]), .lit (.string [60]), .lit (.string [60, 61])]
def laid_loop_example_g00101_impl_turnTexts {H : Type} : DataW H := .agg [.lit (.string []), .lit (.string [45]), .lit (.string [110, 111, 116]), .lit (.string [35])]

/-- 'laws.FnParseOk': WHATEVER THE INPUT: true; the input reads as it did. -/
def fnParseOkSpec : ChangeSpec := { name := "fnParseOk", vars := ["loop.example/g00101/impl.marks", "loop.example/g00101/impl.turnTexts", "loop.example/g00101/impl.opTexts"], fn := fun _ => fun
  | [d, g1, g2, g3] => { results := [.lit (.bool true)], args := [d], vars := [g1, g2, g3] }
  | _ => none }
def fnParseOkRow : OpenClaim := { program := "ytiglkhkfbgjjoaagreatdoor", sum := "d27a52b6c60346c7f9d98b0de1be1122db6801303f093e48c1e580607db93e82", func := "loop.example/g00101/laws.FnParseOk", spec := "fnParseOk", unfollowed := true, recurses := true, named := ["loop.example/g00101/impl.marks", "loop.example/g00101/impl.turnTexts", "loop.example/g00101/impl.opTexts"], apart := false, laid := [("loop.example/g00101/impl.marks", laid_loop_example_g00101_impl_marks), ("loop.example/g00101/impl.opTexts", laid_loop_example_g00101_impl_opTexts), ("loop.example/g00101/impl.turnTexts", laid_loop_example_g00101_impl_turnTexts)] }
def FnParseOkSaid : Prop := fnParseOkRow.holds Tryz.pinned (OpenSpec.ofChange fnParseOkSpec)

/-- ITS FALSE NEIGHBOUR: 'it returns false'. Refute it at one input. -/
def fnParseOkWrong : ChangeSpec := { name := "fnParseOk", vars := ["loop.example/g00101/impl.marks", "loop.example/g00101/impl.turnTexts", "loop.example/g00101/impl.opTexts"], fn := fun _ => fun
  | [d, g1, g2, g3] => { results := [.lit (.bool false)], args := [d], vars := [g1, g2, g3] }
  | _ => none }
def FnParseOkWrongFalsely : Prop := fnParseOkRow.holds Tryz.pinned (OpenSpec.ofChange fnParseOkWrong)

/- THE SECOND FORM. 'bulk': how many values and letters a reading holds, each counted each time it is reached (what is shared counts as often as it is met; a slice's spare places count too). A statement '..UptoSaid' is the law's where the arguments, and the package variables that the reading takes, are together of bulk at most 1048576: NARROWER than '..Said'. Prove '..Said' where nothing that the law and all that it calls make is longer than what came in: it says more and counts as full. Else prove '..UptoSaid'. A law counts once. -/
mutual
def uptoBulk {H : Type} : DataW H → Nat
  | .lit (.string bytes) => bytes.length + 1
  | .lit _ => 1
  | .nil => 1
  | .ptr d => uptoBulk d + 1
  | .slice elems spare => uptoBulkAll elems + uptoBulkAll spare + 1
  | .agg parts => uptoBulkAll parts + 1
  | .iface _ d => uptoBulk d + 1
  | .map entries => uptoBulkEntries entries + 1
  | .held _ => 1
def uptoBulkAll {H : Type} : List (DataW H) → Nat
  | [] => 0
  | d :: r => uptoBulk d + uptoBulkAll r
def uptoBulkEntries {H : Type} : List (Lit × DataW H) → Nat
  | [] => 0
  | x :: r => uptoBulkEntry x + uptoBulkEntries r
def uptoBulkEntry {H : Type} : Lit × DataW H → Nat
  | (.string bytes, d) => bytes.length + uptoBulk d + 1
  | (_, d) => uptoBulk d + 1
 end
def uptoSmall : (H : Type) → List (DataW H) → Bool := fun _ ds => decide (uptoBulkAll ds ≤ 1048576)
def OpenSpec.upto (s : _root_.Go.ChangeSpec) : _root_.Go.OpenSpec := { _root_.Go.OpenSpec.ofChange s with cond := some uptoSmall }

/-- 'laws.FnParseOk', WHERE WHAT IT READS IS OF BULK AT MOST 1048576: true; the input reads as it did. -/
def fnParseOkUptoRow : OpenClaim := { program := "ytiglkhkfbgjjoaagreatdoor", sum := "d27a52b6c60346c7f9d98b0de1be1122db6801303f093e48c1e580607db93e82", func := "loop.example/g00101/laws.FnParseOk", spec := "fnParseOk", unfollowed := true, recurses := true, named := ["loop.example/g00101/impl.marks", "loop.example/g00101/impl.turnTexts", "loop.example/g00101/impl.opTexts"], apart := false, laid := [("loop.example/g00101/impl.marks", laid_loop_example_g00101_impl_marks), ("loop.example/g00101/impl.opTexts", laid_loop_example_g00101_impl_opTexts), ("loop.example/g00101/impl.turnTexts", laid_loop_example_g00101_impl_turnTexts)], narrowed := true }
def FnParseOkUptoSaid : Prop := fnParseOkUptoRow.holds Tryz.pinned (OpenSpec.upto fnParseOkSpec)

end Rows
end Go.Proofs.YtiglkhkfbgjjoaaGreatDoor
