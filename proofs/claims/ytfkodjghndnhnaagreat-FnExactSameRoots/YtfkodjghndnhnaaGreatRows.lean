/-
  No cell of these rows narrows 'for every input' (looked for: loops, veiled, ifaces, maps, wideKeys, modest, calm, conditions, laid).
  DERIVED. THE GIVEN ROWS OF THIS SEAT. 3 by the template 'for every input the law returns true; each argument reads behind the call as it read before'; 0 by the template 'total and deterministic' (their statements: YtfkodjghndnhnaaGreatTotals.lean).
  GIVEN WITH THE SEED: the statements are not yours to turn. If you find one false, say at which input.
  Laid BY PROGRAM, IN A SANDBOX (cutbox-rows.mjs): the forced cells as the released guide's own fill.sh prints them over the translation f00106aff675971e… (all of the seat's roots in one cut). By AI agents, Wed Nov 11 2026. No macro, syntax, notation, axiom, sorry.
-/
import Derived.Test.YtfkodjghndnhnaaGreatChecked
import GoSem.Claim
import GoSem.ClaimJoined
import GoSem.ClaimMapViews
import Derived.JoinedTies
import Derived.KernelRfl
namespace Go.Proofs.YtfkodjghndnhnaaGreat
/- THE CELL 'sum', in the pinned program and in every row, IS THE sha256 OF THE DUMP (.gsa) THAT YtfkodjghndnhnaaGreatProg.lean LOADS. Nothing in Lean hashes anything: it is a label: what it is worth is what the hold of that sum in a sandbox is worth. -/
noncomputable def Tryz.pinned : Pinned := { name := "ytfkodjghndnhnaagreat", sum := "f00106aff675971e9b33a200bcfa638fb8e594b44d1e3fd20d5448b6a65a2618", checked := Tryz.checked }
namespace Rows
def none {H : Type} : Left H := { results := [], args := [] }

/-- 'laws.FnExactProtoOf': WHATEVER THE INPUT: true; the input reads as it did. -/
def fnExactProtoOfSpec : ChangeSpec := { name := "fnExactProtoOf", fn := fun _ => fun
  | [d1, d2] => { results := [.lit (.bool true)], args := [d1, d2] }
  | _ => none }
def fnExactProtoOfRow : OpenClaim := { program := "ytfkodjghndnhnaagreat", sum := "f00106aff675971e9b33a200bcfa638fb8e594b44d1e3fd20d5448b6a65a2618", func := "loop.example/g00101/laws.FnExactProtoOf", spec := "fnExactProtoOf", unfollowed := true, recurses := true, apart := false }
def FnExactProtoOfSaid : Prop := fnExactProtoOfRow.holds Tryz.pinned (OpenSpec.ofChange fnExactProtoOfSpec)

/-- ITS FALSE NEIGHBOUR: 'it returns false'. Refute it at one input. -/
def fnExactProtoOfWrong : ChangeSpec := { name := "fnExactProtoOf", fn := fun _ => fun
  | [d1, d2] => { results := [.lit (.bool false)], args := [d1, d2] }
  | _ => none }
def FnExactProtoOfWrongFalsely : Prop := fnExactProtoOfRow.holds Tryz.pinned (OpenSpec.ofChange fnExactProtoOfWrong)

/-- 'laws.FnExactSerialOf': WHATEVER THE INPUT: true; the input reads as it did. -/
def fnExactSerialOfSpec : ChangeSpec := { name := "fnExactSerialOf", fn := fun _ => fun
  | [d1, d2] => { results := [.lit (.bool true)], args := [d1, d2] }
  | _ => none }
def fnExactSerialOfRow : OpenClaim := { program := "ytfkodjghndnhnaagreat", sum := "f00106aff675971e9b33a200bcfa638fb8e594b44d1e3fd20d5448b6a65a2618", func := "loop.example/g00101/laws.FnExactSerialOf", spec := "fnExactSerialOf", unfollowed := true, recurses := true, apart := false }
def FnExactSerialOfSaid : Prop := fnExactSerialOfRow.holds Tryz.pinned (OpenSpec.ofChange fnExactSerialOfSpec)

/-- ITS FALSE NEIGHBOUR: 'it returns false'. Refute it at one input. -/
def fnExactSerialOfWrong : ChangeSpec := { name := "fnExactSerialOf", fn := fun _ => fun
  | [d1, d2] => { results := [.lit (.bool false)], args := [d1, d2] }
  | _ => none }
def FnExactSerialOfWrongFalsely : Prop := fnExactSerialOfRow.holds Tryz.pinned (OpenSpec.ofChange fnExactSerialOfWrong)

/-- 'laws.FnExactSameRoots': WHATEVER THE INPUT: true; the input reads as it did. -/
def fnExactSameRootsSpec : ChangeSpec := { name := "fnExactSameRoots", fn := fun _ => fun
  | [d1, d2, d3] => { results := [.lit (.bool true)], args := [d1, d2, d3] }
  | _ => none }
def fnExactSameRootsRow : OpenClaim := { program := "ytfkodjghndnhnaagreat", sum := "f00106aff675971e9b33a200bcfa638fb8e594b44d1e3fd20d5448b6a65a2618", func := "loop.example/g00101/laws.FnExactSameRoots", spec := "fnExactSameRoots", unfollowed := true, recurses := true, apart := false }
def FnExactSameRootsSaid : Prop := fnExactSameRootsRow.holds Tryz.pinned (OpenSpec.ofChange fnExactSameRootsSpec)

/-- ITS FALSE NEIGHBOUR: 'it returns false'. Refute it at one input. -/
def fnExactSameRootsWrong : ChangeSpec := { name := "fnExactSameRoots", fn := fun _ => fun
  | [d1, d2, d3] => { results := [.lit (.bool false)], args := [d1, d2, d3] }
  | _ => none }
def FnExactSameRootsWrongFalsely : Prop := fnExactSameRootsRow.holds Tryz.pinned (OpenSpec.ofChange fnExactSameRootsWrong)

/- THE SECOND FORM. 'bulk': how many values and letters a reading holds, each counted each time it is reached (what is shared counts as often as it is met; a slice's spare places count too). A statement '..UptoSaid' is the law's where the arguments, and the package variables that the reading takes, are together of bulk at most 1048576: NARROWER than '..Said'. Prove '..Said' where nothing that the law and all that it calls make is longer than what came in: it says more and counts as full. Else prove '..UptoSaid'. A law counts once. -/
mutual
def uptoBulk {H : Type} : DataW H → Nat
  | .lit (.string bytes) => bytes.length + 1
  | .lit _ => 1
  | .nil => 1
  | .ptr d => uptoBulk d + 1
  | .slice elems spare => uptoBulkAll elems + uptoBulkAll spare + 1
  | .agg parts => uptoBulkAll parts + 1
  | .iface _ d => uptoBulk d + 1
  | .map entries => uptoBulkEntries entries + 1
  | .held _ => 1
def uptoBulkAll {H : Type} : List (DataW H) → Nat
  | [] => 0
  | d :: r => uptoBulk d + uptoBulkAll r
def uptoBulkEntries {H : Type} : List (Lit × DataW H) → Nat
  | [] => 0
  | x :: r => uptoBulkEntry x + uptoBulkEntries r
def uptoBulkEntry {H : Type} : Lit × DataW H → Nat
  | (.string bytes, d) => bytes.length + uptoBulk d + 1
  | (_, d) => uptoBulk d + 1
 end
def uptoSmall : (H : Type) → List (DataW H) → Bool := fun _ ds => decide (uptoBulkAll ds ≤ 1048576)
def OpenSpec.upto (s : _root_.Go.ChangeSpec) : _root_.Go.OpenSpec := { _root_.Go.OpenSpec.ofChange s with cond := some uptoSmall }

/-- 'laws.FnExactProtoOf', WHERE WHAT IT READS IS OF BULK AT MOST 1048576: true; the input reads as it did. -/
def fnExactProtoOfUptoRow : OpenClaim := { program := "ytfkodjghndnhnaagreat", sum := "f00106aff675971e9b33a200bcfa638fb8e594b44d1e3fd20d5448b6a65a2618", func := "loop.example/g00101/laws.FnExactProtoOf", spec := "fnExactProtoOf", unfollowed := true, recurses := true, apart := false, narrowed := true }
def FnExactProtoOfUptoSaid : Prop := fnExactProtoOfUptoRow.holds Tryz.pinned (OpenSpec.upto fnExactProtoOfSpec)

/-- 'laws.FnExactSerialOf', WHERE WHAT IT READS IS OF BULK AT MOST 1048576: true; the input reads as it did. -/
def fnExactSerialOfUptoRow : OpenClaim := { program := "ytfkodjghndnhnaagreat", sum := "f00106aff675971e9b33a200bcfa638fb8e594b44d1e3fd20d5448b6a65a2618", func := "loop.example/g00101/laws.FnExactSerialOf", spec := "fnExactSerialOf", unfollowed := true, recurses := true, apart := false, narrowed := true }
def FnExactSerialOfUptoSaid : Prop := fnExactSerialOfUptoRow.holds Tryz.pinned (OpenSpec.upto fnExactSerialOfSpec)

/-- 'laws.FnExactSameRoots', WHERE WHAT IT READS IS OF BULK AT MOST 1048576: true; the input reads as it did. -/
def fnExactSameRootsUptoRow : OpenClaim := { program := "ytfkodjghndnhnaagreat", sum := "f00106aff675971e9b33a200bcfa638fb8e594b44d1e3fd20d5448b6a65a2618", func := "loop.example/g00101/laws.FnExactSameRoots", spec := "fnExactSameRoots", unfollowed := true, recurses := true, apart := false, narrowed := true }
def FnExactSameRootsUptoSaid : Prop := fnExactSameRootsUptoRow.holds Tryz.pinned (OpenSpec.upto fnExactSameRootsSpec)

end Rows
end Go.Proofs.YtfkodjghndnhnaaGreat
