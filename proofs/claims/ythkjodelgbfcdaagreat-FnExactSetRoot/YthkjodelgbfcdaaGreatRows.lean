/-
  No cell of these rows narrows 'for every input' (looked for: loops, veiled, ifaces, maps, wideKeys, modest, calm, conditions, laid).
  DERIVED. THE GIVEN ROWS OF THIS SEAT. 6 by the template 'for every input the law returns true; each argument reads behind the call as it read before'; 0 by the template 'total and deterministic' (their statements: YthkjodelgbfcdaaGreatTotals.lean).
  GIVEN WITH THE SEED: the statements are not yours to turn. If you find one false, say at which input.
  Laid BY PROGRAM, IN A SANDBOX (cutbox-rows.mjs): the forced cells as the released guide's own fill.sh prints them over the translation e45e102182a35a7b… (all of the seat's roots in one cut). By AI agents, Wed Nov 11 2026. No macro, syntax, notation, axiom, sorry.
-/
import Derived.Test.YthkjodelgbfcdaaGreatChecked
import GoSem.Claim
import GoSem.ClaimJoined
import GoSem.ClaimMapViews
import Derived.JoinedTies
import Derived.KernelRfl
namespace Go.Proofs.YthkjodelgbfcdaaGreat
/- THE CELL 'sum', in the pinned program and in every row, IS THE sha256 OF THE DUMP (.gsa) THAT YthkjodelgbfcdaaGreatProg.lean LOADS. Nothing in Lean hashes anything: it is a label: what it is worth is what the hold of that sum in a sandbox is worth. -/
noncomputable def Tryz.pinned : Pinned := { name := "ythkjodelgbfcdaagreat", sum := "e45e102182a35a7b6cbeecc258c084de47d50b58c9c099ade1bab6f56fb57959", checked := Tryz.checked }
namespace Rows
def none {H : Type} : Left H := { results := [], args := [] }

/-- 'laws.FnExactArenaOk': WHATEVER THE INPUT: true; the input reads as it did. -/
def fnExactArenaOkSpec : ChangeSpec := { name := "fnExactArenaOk", fn := fun _ => fun
  | [d] => { results := [.lit (.bool true)], args := [d] }
  | _ => none }
def fnExactArenaOkRow : OpenClaim := { program := "ythkjodelgbfcdaagreat", sum := "e45e102182a35a7b6cbeecc258c084de47d50b58c9c099ade1bab6f56fb57959", func := "loop.example/g00101/laws.FnExactArenaOk", spec := "fnExactArenaOk", unfollowed := true, recurses := true, apart := false }
def FnExactArenaOkSaid : Prop := fnExactArenaOkRow.holds Tryz.pinned (OpenSpec.ofChange fnExactArenaOkSpec)

/-- ITS FALSE NEIGHBOUR: 'it returns false'. Refute it at one input. -/
def fnExactArenaOkWrong : ChangeSpec := { name := "fnExactArenaOk", fn := fun _ => fun
  | [d] => { results := [.lit (.bool false)], args := [d] }
  | _ => none }
def FnExactArenaOkWrongFalsely : Prop := fnExactArenaOkRow.holds Tryz.pinned (OpenSpec.ofChange fnExactArenaOkWrong)

/-- 'laws.FnExactObjects': WHATEVER THE INPUT: true; the input reads as it did. -/
def fnExactObjectsSpec : ChangeSpec := { name := "fnExactObjects", fn := fun _ => fun
  | [d] => { results := [.lit (.bool true)], args := [d] }
  | _ => none }
def fnExactObjectsRow : OpenClaim := { program := "ythkjodelgbfcdaagreat", sum := "e45e102182a35a7b6cbeecc258c084de47d50b58c9c099ade1bab6f56fb57959", func := "loop.example/g00101/laws.FnExactObjects", spec := "fnExactObjects", unfollowed := true, recurses := true, apart := false }
def FnExactObjectsSaid : Prop := fnExactObjectsRow.holds Tryz.pinned (OpenSpec.ofChange fnExactObjectsSpec)

/-- ITS FALSE NEIGHBOUR: 'it returns false'. Refute it at one input. -/
def fnExactObjectsWrong : ChangeSpec := { name := "fnExactObjects", fn := fun _ => fun
  | [d] => { results := [.lit (.bool false)], args := [d] }
  | _ => none }
def FnExactObjectsWrongFalsely : Prop := fnExactObjectsRow.holds Tryz.pinned (OpenSpec.ofChange fnExactObjectsWrong)

/-- 'laws.FnExactHeadAt': WHATEVER THE INPUT: true; the input reads as it did. -/
def fnExactHeadAtSpec : ChangeSpec := { name := "fnExactHeadAt", fn := fun _ => fun
  | [d1, d2] => { results := [.lit (.bool true)], args := [d1, d2] }
  | _ => none }
def fnExactHeadAtRow : OpenClaim := { program := "ythkjodelgbfcdaagreat", sum := "e45e102182a35a7b6cbeecc258c084de47d50b58c9c099ade1bab6f56fb57959", func := "loop.example/g00101/laws.FnExactHeadAt", spec := "fnExactHeadAt", unfollowed := true, recurses := true, apart := false }
def FnExactHeadAtSaid : Prop := fnExactHeadAtRow.holds Tryz.pinned (OpenSpec.ofChange fnExactHeadAtSpec)

/-- ITS FALSE NEIGHBOUR: 'it returns false'. Refute it at one input. -/
def fnExactHeadAtWrong : ChangeSpec := { name := "fnExactHeadAt", fn := fun _ => fun
  | [d1, d2] => { results := [.lit (.bool false)], args := [d1, d2] }
  | _ => none }
def FnExactHeadAtWrongFalsely : Prop := fnExactHeadAtRow.holds Tryz.pinned (OpenSpec.ofChange fnExactHeadAtWrong)

/-- 'laws.FnExactFree': WHATEVER THE INPUT: true; the input reads as it did. -/
def fnExactFreeSpec : ChangeSpec := { name := "fnExactFree", fn := fun _ => fun
  | [d] => { results := [.lit (.bool true)], args := [d] }
  | _ => none }
def fnExactFreeRow : OpenClaim := { program := "ythkjodelgbfcdaagreat", sum := "e45e102182a35a7b6cbeecc258c084de47d50b58c9c099ade1bab6f56fb57959", func := "loop.example/g00101/laws.FnExactFree", spec := "fnExactFree", unfollowed := true, recurses := true, apart := false }
def FnExactFreeSaid : Prop := fnExactFreeRow.holds Tryz.pinned (OpenSpec.ofChange fnExactFreeSpec)

/-- ITS FALSE NEIGHBOUR: 'it returns false'. Refute it at one input. -/
def fnExactFreeWrong : ChangeSpec := { name := "fnExactFree", fn := fun _ => fun
  | [d] => { results := [.lit (.bool false)], args := [d] }
  | _ => none }
def FnExactFreeWrongFalsely : Prop := fnExactFreeRow.holds Tryz.pinned (OpenSpec.ofChange fnExactFreeWrong)

/-- 'laws.FnExactSetRoot': WHATEVER THE INPUT: true; the input reads as it did. -/
def fnExactSetRootSpec : ChangeSpec := { name := "fnExactSetRoot", fn := fun _ => fun
  | [d1, d2, d3] => { results := [.lit (.bool true)], args := [d1, d2, d3] }
  | _ => none }
def fnExactSetRootRow : OpenClaim := { program := "ythkjodelgbfcdaagreat", sum := "e45e102182a35a7b6cbeecc258c084de47d50b58c9c099ade1bab6f56fb57959", func := "loop.example/g00101/laws.FnExactSetRoot", spec := "fnExactSetRoot", unfollowed := true, recurses := true, apart := false }
def FnExactSetRootSaid : Prop := fnExactSetRootRow.holds Tryz.pinned (OpenSpec.ofChange fnExactSetRootSpec)

/-- ITS FALSE NEIGHBOUR: 'it returns false'. Refute it at one input. -/
def fnExactSetRootWrong : ChangeSpec := { name := "fnExactSetRoot", fn := fun _ => fun
  | [d1, d2, d3] => { results := [.lit (.bool false)], args := [d1, d2, d3] }
  | _ => none }
def FnExactSetRootWrongFalsely : Prop := fnExactSetRootRow.holds Tryz.pinned (OpenSpec.ofChange fnExactSetRootWrong)

/-- 'laws.FnExactMoveRoot': WHATEVER THE INPUT: true; the input reads as it did. -/
def fnExactMoveRootSpec : ChangeSpec := { name := "fnExactMoveRoot", fn := fun _ => fun
  | [d1, d2, d3] => { results := [.lit (.bool true)], args := [d1, d2, d3] }
  | _ => none }
def fnExactMoveRootRow : OpenClaim := { program := "ythkjodelgbfcdaagreat", sum := "e45e102182a35a7b6cbeecc258c084de47d50b58c9c099ade1bab6f56fb57959", func := "loop.example/g00101/laws.FnExactMoveRoot", spec := "fnExactMoveRoot", unfollowed := true, recurses := true, apart := false }
def FnExactMoveRootSaid : Prop := fnExactMoveRootRow.holds Tryz.pinned (OpenSpec.ofChange fnExactMoveRootSpec)

/-- ITS FALSE NEIGHBOUR: 'it returns false'. Refute it at one input. -/
def fnExactMoveRootWrong : ChangeSpec := { name := "fnExactMoveRoot", fn := fun _ => fun
  | [d1, d2, d3] => { results := [.lit (.bool false)], args := [d1, d2, d3] }
  | _ => none }
def FnExactMoveRootWrongFalsely : Prop := fnExactMoveRootRow.holds Tryz.pinned (OpenSpec.ofChange fnExactMoveRootWrong)

/- THE SECOND FORM. 'bulk': how many values and letters a reading holds, each counted each time it is reached (what is shared counts as often as it is met; a slice's spare places count too). A statement '..UptoSaid' is the law's where the arguments, and the package variables that the reading takes, are together of bulk at most 1048576: NARROWER than '..Said'. Prove '..Said' where nothing that the law and all that it calls make is longer than what came in: it says more and counts as full. Else prove '..UptoSaid'. A law counts once. -/
mutual
def uptoBulk {H : Type} : DataW H → Nat
  | .lit (.string bytes) => bytes.length + 1
  | .lit _ => 1
  | .nil => 1
  | .ptr d => uptoBulk d + 1
  | .slice elems spare => uptoBulkAll elems + uptoBulkAll spare + 1
  | .agg parts => uptoBulkAll parts + 1
  | .iface _ d => uptoBulk d + 1
  | .map entries => uptoBulkEntries entries + 1
  | .held _ => 1
def uptoBulkAll {H : Type} : List (DataW H) → Nat
  | [] => 0
  | d :: r => uptoBulk d + uptoBulkAll r
def uptoBulkEntries {H : Type} : List (Lit × DataW H) → Nat
  | [] => 0
  | x :: r => uptoBulkEntry x + uptoBulkEntries r
def uptoBulkEntry {H : Type} : Lit × DataW H → Nat
  | (.string bytes, d) => bytes.length + uptoBulk d + 1
  | (_, d) => uptoBulk d + 1
 end
def uptoSmall : (H : Type) → List (DataW H) → Bool := fun _ ds => decide (uptoBulkAll ds ≤ 1048576)
def OpenSpec.upto (s : _root_.Go.ChangeSpec) : _root_.Go.OpenSpec := { _root_.Go.OpenSpec.ofChange s with cond := some uptoSmall }

/-- 'laws.FnExactArenaOk', WHERE WHAT IT READS IS OF BULK AT MOST 1048576: true; the input reads as it did. -/
def fnExactArenaOkUptoRow : OpenClaim := { program := "ythkjodelgbfcdaagreat", sum := "e45e102182a35a7b6cbeecc258c084de47d50b58c9c099ade1bab6f56fb57959", func := "loop.example/g00101/laws.FnExactArenaOk", spec := "fnExactArenaOk", unfollowed := true, recurses := true, apart := false, narrowed := true }
def FnExactArenaOkUptoSaid : Prop := fnExactArenaOkUptoRow.holds Tryz.pinned (OpenSpec.upto fnExactArenaOkSpec)

/-- 'laws.FnExactObjects', WHERE WHAT IT READS IS OF BULK AT MOST 1048576: true; the input reads as it did. -/
def fnExactObjectsUptoRow : OpenClaim := { program := "ythkjodelgbfcdaagreat", sum := "e45e102182a35a7b6cbeecc258c084de47d50b58c9c099ade1bab6f56fb57959", func := "loop.example/g00101/laws.FnExactObjects", spec := "fnExactObjects", unfollowed := true, recurses := true, apart := false, narrowed := true }
def FnExactObjectsUptoSaid : Prop := fnExactObjectsUptoRow.holds Tryz.pinned (OpenSpec.upto fnExactObjectsSpec)

/-- 'laws.FnExactHeadAt', WHERE WHAT IT READS IS OF BULK AT MOST 1048576: true; the input reads as it did. -/
def fnExactHeadAtUptoRow : OpenClaim := { program := "ythkjodelgbfcdaagreat", sum := "e45e102182a35a7b6cbeecc258c084de47d50b58c9c099ade1bab6f56fb57959", func := "loop.example/g00101/laws.FnExactHeadAt", spec := "fnExactHeadAt", unfollowed := true, recurses := true, apart := false, narrowed := true }
def FnExactHeadAtUptoSaid : Prop := fnExactHeadAtUptoRow.holds Tryz.pinned (OpenSpec.upto fnExactHeadAtSpec)

/-- 'laws.FnExactFree', WHERE WHAT IT READS IS OF BULK AT MOST 1048576: true; the input reads as it did. -/
def fnExactFreeUptoRow : OpenClaim := { program := "ythkjodelgbfcdaagreat", sum := "e45e102182a35a7b6cbeecc258c084de47d50b58c9c099ade1bab6f56fb57959", func := "loop.example/g00101/laws.FnExactFree", spec := "fnExactFree", unfollowed := true, recurses := true, apart := false, narrowed := true }
def FnExactFreeUptoSaid : Prop := fnExactFreeUptoRow.holds Tryz.pinned (OpenSpec.upto fnExactFreeSpec)

/-- 'laws.FnExactSetRoot', WHERE WHAT IT READS IS OF BULK AT MOST 1048576: true; the input reads as it did. -/
def fnExactSetRootUptoRow : OpenClaim := { program := "ythkjodelgbfcdaagreat", sum := "e45e102182a35a7b6cbeecc258c084de47d50b58c9c099ade1bab6f56fb57959", func := "loop.example/g00101/laws.FnExactSetRoot", spec := "fnExactSetRoot", unfollowed := true, recurses := true, apart := false, narrowed := true }
def FnExactSetRootUptoSaid : Prop := fnExactSetRootUptoRow.holds Tryz.pinned (OpenSpec.upto fnExactSetRootSpec)

/-- 'laws.FnExactMoveRoot', WHERE WHAT IT READS IS OF BULK AT MOST 1048576: true; the input reads as it did. -/
def fnExactMoveRootUptoRow : OpenClaim := { program := "ythkjodelgbfcdaagreat", sum := "e45e102182a35a7b6cbeecc258c084de47d50b58c9c099ade1bab6f56fb57959", func := "loop.example/g00101/laws.FnExactMoveRoot", spec := "fnExactMoveRoot", unfollowed := true, recurses := true, apart := false, narrowed := true }
def FnExactMoveRootUptoSaid : Prop := fnExactMoveRootUptoRow.holds Tryz.pinned (OpenSpec.upto fnExactMoveRootSpec)

end Rows
end Go.Proofs.YthkjodelgbfcdaaGreat
