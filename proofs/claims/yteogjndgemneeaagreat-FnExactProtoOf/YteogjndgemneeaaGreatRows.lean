/-
  No cell of these rows narrows 'for every input' (looked for: loops, veiled, ifaces, maps, wideKeys, modest, calm, conditions, laid).
  DERIVED. THE GIVEN ROWS OF THIS SEAT. 11 by the template 'for every input the law returns true; each argument reads behind the call as it read before'; 0 by the template 'total and deterministic' (their statements: YteogjndgemneeaaGreatTotals.lean).
  GIVEN WITH THE SEED: the statements are not yours to turn. If you find one false, say at which input.
  Laid BY PROGRAM, IN A SANDBOX (cutbox-rows.mjs): the forced cells as the released guide's own fill.sh prints them over the translation aa3ae612f2e66b55… (all of the seat's roots in one cut). By AI agents, Wed Nov 11 2026. No macro, syntax, notation, axiom, sorry.
-/
import Derived.Test.YteogjndgemneeaaGreatChecked
import GoSem.Claim
import GoSem.ClaimJoined
import GoSem.ClaimMapViews
import Derived.JoinedTies
import Derived.KernelRfl
namespace Go.Proofs.YteogjndgemneeaaGreat
/- THE CELL 'sum', in the pinned program and in every row, IS THE sha256 OF THE DUMP (.gsa) THAT YteogjndgemneeaaGreatProg.lean LOADS. Nothing in Lean hashes anything: it is a label: what it is worth is what the hold of that sum in a sandbox is worth. -/
noncomputable def Tryz.pinned : Pinned := { name := "yteogjndgemneeaagreat", sum := "aa3ae612f2e66b55fdc7586c49be1eb36e5c20181fbdd899e5120fe523d0f02e", checked := Tryz.checked }
namespace Rows
def none {H : Type} : Left H := { results := [], args := [] }

/-- 'laws.FnExactArenaOk': WHATEVER THE INPUT: true; the input reads as it did. -/
def fnExactArenaOkSpec : ChangeSpec := { name := "fnExactArenaOk", fn := fun _ => fun
  | [d] => { results := [.lit (.bool true)], args := [d] }
  | _ => none }
def fnExactArenaOkRow : OpenClaim := { program := "yteogjndgemneeaagreat", sum := "aa3ae612f2e66b55fdc7586c49be1eb36e5c20181fbdd899e5120fe523d0f02e", func := "loop.example/g00101/laws.FnExactArenaOk", spec := "fnExactArenaOk", inPlace := ["internal/abi.NoEscape", "internal/bytealg.MakeNoZero"], unfollowed := true, recurses := true, apart := false }
def FnExactArenaOkSaid : Prop := fnExactArenaOkRow.holds Tryz.pinned (OpenSpec.ofChange fnExactArenaOkSpec)

/-- ITS FALSE NEIGHBOUR: 'it returns false'. Refute it at one input. -/
def fnExactArenaOkWrong : ChangeSpec := { name := "fnExactArenaOk", fn := fun _ => fun
  | [d] => { results := [.lit (.bool false)], args := [d] }
  | _ => none }
def FnExactArenaOkWrongFalsely : Prop := fnExactArenaOkRow.holds Tryz.pinned (OpenSpec.ofChange fnExactArenaOkWrong)

/-- 'laws.FnExactObjects': WHATEVER THE INPUT: true; the input reads as it did. -/
def fnExactObjectsSpec : ChangeSpec := { name := "fnExactObjects", fn := fun _ => fun
  | [d] => { results := [.lit (.bool true)], args := [d] }
  | _ => none }
def fnExactObjectsRow : OpenClaim := { program := "yteogjndgemneeaagreat", sum := "aa3ae612f2e66b55fdc7586c49be1eb36e5c20181fbdd899e5120fe523d0f02e", func := "loop.example/g00101/laws.FnExactObjects", spec := "fnExactObjects", inPlace := ["internal/abi.NoEscape", "internal/bytealg.MakeNoZero"], unfollowed := true, recurses := true, apart := false }
def FnExactObjectsSaid : Prop := fnExactObjectsRow.holds Tryz.pinned (OpenSpec.ofChange fnExactObjectsSpec)

/-- ITS FALSE NEIGHBOUR: 'it returns false'. Refute it at one input. -/
def fnExactObjectsWrong : ChangeSpec := { name := "fnExactObjects", fn := fun _ => fun
  | [d] => { results := [.lit (.bool false)], args := [d] }
  | _ => none }
def FnExactObjectsWrongFalsely : Prop := fnExactObjectsRow.holds Tryz.pinned (OpenSpec.ofChange fnExactObjectsWrong)

/-- 'laws.FnExactHeadAt': WHATEVER THE INPUT: true; the input reads as it did. -/
def fnExactHeadAtSpec : ChangeSpec := { name := "fnExactHeadAt", fn := fun _ => fun
  | [d1, d2] => { results := [.lit (.bool true)], args := [d1, d2] }
  | _ => none }
def fnExactHeadAtRow : OpenClaim := { program := "yteogjndgemneeaagreat", sum := "aa3ae612f2e66b55fdc7586c49be1eb36e5c20181fbdd899e5120fe523d0f02e", func := "loop.example/g00101/laws.FnExactHeadAt", spec := "fnExactHeadAt", inPlace := ["internal/abi.NoEscape", "internal/bytealg.MakeNoZero"], unfollowed := true, recurses := true, apart := false }
def FnExactHeadAtSaid : Prop := fnExactHeadAtRow.holds Tryz.pinned (OpenSpec.ofChange fnExactHeadAtSpec)

/-- ITS FALSE NEIGHBOUR: 'it returns false'. Refute it at one input. -/
def fnExactHeadAtWrong : ChangeSpec := { name := "fnExactHeadAt", fn := fun _ => fun
  | [d1, d2] => { results := [.lit (.bool false)], args := [d1, d2] }
  | _ => none }
def FnExactHeadAtWrongFalsely : Prop := fnExactHeadAtRow.holds Tryz.pinned (OpenSpec.ofChange fnExactHeadAtWrong)

/-- 'laws.FnExactFree': WHATEVER THE INPUT: true; the input reads as it did. -/
def fnExactFreeSpec : ChangeSpec := { name := "fnExactFree", fn := fun _ => fun
  | [d] => { results := [.lit (.bool true)], args := [d] }
  | _ => none }
def fnExactFreeRow : OpenClaim := { program := "yteogjndgemneeaagreat", sum := "aa3ae612f2e66b55fdc7586c49be1eb36e5c20181fbdd899e5120fe523d0f02e", func := "loop.example/g00101/laws.FnExactFree", spec := "fnExactFree", inPlace := ["internal/abi.NoEscape", "internal/bytealg.MakeNoZero"], unfollowed := true, recurses := true, apart := false }
def FnExactFreeSaid : Prop := fnExactFreeRow.holds Tryz.pinned (OpenSpec.ofChange fnExactFreeSpec)

/-- ITS FALSE NEIGHBOUR: 'it returns false'. Refute it at one input. -/
def fnExactFreeWrong : ChangeSpec := { name := "fnExactFree", fn := fun _ => fun
  | [d] => { results := [.lit (.bool false)], args := [d] }
  | _ => none }
def FnExactFreeWrongFalsely : Prop := fnExactFreeRow.holds Tryz.pinned (OpenSpec.ofChange fnExactFreeWrong)

/-- 'laws.FnExactSetRoot': WHATEVER THE INPUT: true; the input reads as it did. -/
def fnExactSetRootSpec : ChangeSpec := { name := "fnExactSetRoot", fn := fun _ => fun
  | [d1, d2, d3] => { results := [.lit (.bool true)], args := [d1, d2, d3] }
  | _ => none }
def fnExactSetRootRow : OpenClaim := { program := "yteogjndgemneeaagreat", sum := "aa3ae612f2e66b55fdc7586c49be1eb36e5c20181fbdd899e5120fe523d0f02e", func := "loop.example/g00101/laws.FnExactSetRoot", spec := "fnExactSetRoot", inPlace := ["internal/abi.NoEscape", "internal/bytealg.MakeNoZero"], unfollowed := true, recurses := true, apart := false }
def FnExactSetRootSaid : Prop := fnExactSetRootRow.holds Tryz.pinned (OpenSpec.ofChange fnExactSetRootSpec)

/-- ITS FALSE NEIGHBOUR: 'it returns false'. Refute it at one input. -/
def fnExactSetRootWrong : ChangeSpec := { name := "fnExactSetRoot", fn := fun _ => fun
  | [d1, d2, d3] => { results := [.lit (.bool false)], args := [d1, d2, d3] }
  | _ => none }
def FnExactSetRootWrongFalsely : Prop := fnExactSetRootRow.holds Tryz.pinned (OpenSpec.ofChange fnExactSetRootWrong)

/-- 'laws.FnExactMoveRoot': WHATEVER THE INPUT: true; the input reads as it did. -/
def fnExactMoveRootSpec : ChangeSpec := { name := "fnExactMoveRoot", fn := fun _ => fun
  | [d1, d2, d3] => { results := [.lit (.bool true)], args := [d1, d2, d3] }
  | _ => none }
def fnExactMoveRootRow : OpenClaim := { program := "yteogjndgemneeaagreat", sum := "aa3ae612f2e66b55fdc7586c49be1eb36e5c20181fbdd899e5120fe523d0f02e", func := "loop.example/g00101/laws.FnExactMoveRoot", spec := "fnExactMoveRoot", inPlace := ["internal/abi.NoEscape", "internal/bytealg.MakeNoZero"], unfollowed := true, recurses := true, apart := false }
def FnExactMoveRootSaid : Prop := fnExactMoveRootRow.holds Tryz.pinned (OpenSpec.ofChange fnExactMoveRootSpec)

/-- ITS FALSE NEIGHBOUR: 'it returns false'. Refute it at one input. -/
def fnExactMoveRootWrong : ChangeSpec := { name := "fnExactMoveRoot", fn := fun _ => fun
  | [d1, d2, d3] => { results := [.lit (.bool false)], args := [d1, d2, d3] }
  | _ => none }
def FnExactMoveRootWrongFalsely : Prop := fnExactMoveRootRow.holds Tryz.pinned (OpenSpec.ofChange fnExactMoveRootWrong)

/-- 'laws.FnExactProtoOf': WHATEVER THE INPUT: true; the input reads as it did. -/
def fnExactProtoOfSpec : ChangeSpec := { name := "fnExactProtoOf", fn := fun _ => fun
  | [d1, d2] => { results := [.lit (.bool true)], args := [d1, d2] }
  | _ => none }
def fnExactProtoOfRow : OpenClaim := { program := "yteogjndgemneeaagreat", sum := "aa3ae612f2e66b55fdc7586c49be1eb36e5c20181fbdd899e5120fe523d0f02e", func := "loop.example/g00101/laws.FnExactProtoOf", spec := "fnExactProtoOf", inPlace := ["internal/abi.NoEscape", "internal/bytealg.MakeNoZero"], unfollowed := true, recurses := true, apart := false }
def FnExactProtoOfSaid : Prop := fnExactProtoOfRow.holds Tryz.pinned (OpenSpec.ofChange fnExactProtoOfSpec)

/-- ITS FALSE NEIGHBOUR: 'it returns false'. Refute it at one input. -/
def fnExactProtoOfWrong : ChangeSpec := { name := "fnExactProtoOf", fn := fun _ => fun
  | [d1, d2] => { results := [.lit (.bool false)], args := [d1, d2] }
  | _ => none }
def FnExactProtoOfWrongFalsely : Prop := fnExactProtoOfRow.holds Tryz.pinned (OpenSpec.ofChange fnExactProtoOfWrong)

/-- 'laws.FnExactSerialOf': WHATEVER THE INPUT: true; the input reads as it did. -/
def fnExactSerialOfSpec : ChangeSpec := { name := "fnExactSerialOf", fn := fun _ => fun
  | [d1, d2] => { results := [.lit (.bool true)], args := [d1, d2] }
  | _ => none }
def fnExactSerialOfRow : OpenClaim := { program := "yteogjndgemneeaagreat", sum := "aa3ae612f2e66b55fdc7586c49be1eb36e5c20181fbdd899e5120fe523d0f02e", func := "loop.example/g00101/laws.FnExactSerialOf", spec := "fnExactSerialOf", inPlace := ["internal/abi.NoEscape", "internal/bytealg.MakeNoZero"], unfollowed := true, recurses := true, apart := false }
def FnExactSerialOfSaid : Prop := fnExactSerialOfRow.holds Tryz.pinned (OpenSpec.ofChange fnExactSerialOfSpec)

/-- ITS FALSE NEIGHBOUR: 'it returns false'. Refute it at one input. -/
def fnExactSerialOfWrong : ChangeSpec := { name := "fnExactSerialOf", fn := fun _ => fun
  | [d1, d2] => { results := [.lit (.bool false)], args := [d1, d2] }
  | _ => none }
def FnExactSerialOfWrongFalsely : Prop := fnExactSerialOfRow.holds Tryz.pinned (OpenSpec.ofChange fnExactSerialOfWrong)

/-- 'laws.FnExactSameRoots': WHATEVER THE INPUT: true; the input reads as it did. -/
def fnExactSameRootsSpec : ChangeSpec := { name := "fnExactSameRoots", fn := fun _ => fun
  | [d1, d2, d3] => { results := [.lit (.bool true)], args := [d1, d2, d3] }
  | _ => none }
def fnExactSameRootsRow : OpenClaim := { program := "yteogjndgemneeaagreat", sum := "aa3ae612f2e66b55fdc7586c49be1eb36e5c20181fbdd899e5120fe523d0f02e", func := "loop.example/g00101/laws.FnExactSameRoots", spec := "fnExactSameRoots", inPlace := ["internal/abi.NoEscape", "internal/bytealg.MakeNoZero"], unfollowed := true, recurses := true, apart := false }
def FnExactSameRootsSaid : Prop := fnExactSameRootsRow.holds Tryz.pinned (OpenSpec.ofChange fnExactSameRootsSpec)

/-- ITS FALSE NEIGHBOUR: 'it returns false'. Refute it at one input. -/
def fnExactSameRootsWrong : ChangeSpec := { name := "fnExactSameRoots", fn := fun _ => fun
  | [d1, d2, d3] => { results := [.lit (.bool false)], args := [d1, d2, d3] }
  | _ => none }
def FnExactSameRootsWrongFalsely : Prop := fnExactSameRootsRow.holds Tryz.pinned (OpenSpec.ofChange fnExactSameRootsWrong)

/-- 'laws.FnExactTextOf': WHATEVER THE INPUT: true; the input reads as it did. -/
def fnExactTextOfSpec : ChangeSpec := { name := "fnExactTextOf", fn := fun _ => fun
  | [d1, d2] => { results := [.lit (.bool true)], args := [d1, d2] }
  | _ => none }
def fnExactTextOfRow : OpenClaim := { program := "yteogjndgemneeaagreat", sum := "aa3ae612f2e66b55fdc7586c49be1eb36e5c20181fbdd899e5120fe523d0f02e", func := "loop.example/g00101/laws.FnExactTextOf", spec := "fnExactTextOf", inPlace := ["internal/abi.NoEscape", "internal/bytealg.MakeNoZero"], unfollowed := true, recurses := true, apart := false }
def FnExactTextOfSaid : Prop := fnExactTextOfRow.holds Tryz.pinned (OpenSpec.ofChange fnExactTextOfSpec)

/-- ITS FALSE NEIGHBOUR: 'it returns false'. Refute it at one input. -/
def fnExactTextOfWrong : ChangeSpec := { name := "fnExactTextOf", fn := fun _ => fun
  | [d1, d2] => { results := [.lit (.bool false)], args := [d1, d2] }
  | _ => none }
def FnExactTextOfWrongFalsely : Prop := fnExactTextOfRow.holds Tryz.pinned (OpenSpec.ofChange fnExactTextOfWrong)

/-- 'laws.FnExactCompareText': WHATEVER THE INPUT: true; the input reads as it did. -/
def fnExactCompareTextSpec : ChangeSpec := { name := "fnExactCompareText", fn := fun _ => fun
  | [d1, d2, d3] => { results := [.lit (.bool true)], args := [d1, d2, d3] }
  | _ => none }
def fnExactCompareTextRow : OpenClaim := { program := "yteogjndgemneeaagreat", sum := "aa3ae612f2e66b55fdc7586c49be1eb36e5c20181fbdd899e5120fe523d0f02e", func := "loop.example/g00101/laws.FnExactCompareText", spec := "fnExactCompareText", inPlace := ["internal/abi.NoEscape", "internal/bytealg.MakeNoZero", "internal/bytealg.abigen_runtime_cmpstring"], unfollowed := true, recurses := true, apart := false }
def FnExactCompareTextSaid : Prop := fnExactCompareTextRow.holds Tryz.pinned (OpenSpec.ofChange fnExactCompareTextSpec)

/-- ITS FALSE NEIGHBOUR: 'it returns false'. Refute it at one input. -/
def fnExactCompareTextWrong : ChangeSpec := { name := "fnExactCompareText", fn := fun _ => fun
  | [d1, d2, d3] => { results := [.lit (.bool false)], args := [d1, d2, d3] }
  | _ => none }
def FnExactCompareTextWrongFalsely : Prop := fnExactCompareTextRow.holds Tryz.pinned (OpenSpec.ofChange fnExactCompareTextWrong)

/- THE SECOND FORM. 'bulk': how many values and letters a reading holds, each counted each time it is reached (what is shared counts as often as it is met; a slice's spare places count too). A statement '..UptoSaid' is the law's where the arguments, and the package variables that the reading takes, are together of bulk at most 1048576: NARROWER than '..Said'. Prove '..Said' where nothing that the law and all that it calls make is longer than what came in: it says more and counts as full. Else prove '..UptoSaid'. A law counts once. -/
mutual
def uptoBulk {H : Type} : DataW H → Nat
  | .lit (.string bytes) => bytes.length + 1
  | .lit _ => 1
  | .nil => 1
  | .ptr d => uptoBulk d + 1
  | .slice elems spare => uptoBulkAll elems + uptoBulkAll spare + 1
  | .agg parts => uptoBulkAll parts + 1
  | .iface _ d => uptoBulk d + 1
  | .map entries => uptoBulkEntries entries + 1
  | .held _ => 1
def uptoBulkAll {H : Type} : List (DataW H) → Nat
  | [] => 0
  | d :: r => uptoBulk d + uptoBulkAll r
def uptoBulkEntries {H : Type} : List (Lit × DataW H) → Nat
  | [] => 0
  | x :: r => uptoBulkEntry x + uptoBulkEntries r
def uptoBulkEntry {H : Type} : Lit × DataW H → Nat
  | (.string bytes, d) => bytes.length + uptoBulk d + 1
  | (_, d) => uptoBulk d + 1
 end
def uptoSmall : (H : Type) → List (DataW H) → Bool := fun _ ds => decide (uptoBulkAll ds ≤ 1048576)
def OpenSpec.upto (s : _root_.Go.ChangeSpec) : _root_.Go.OpenSpec := { _root_.Go.OpenSpec.ofChange s with cond := some uptoSmall }

/-- 'laws.FnExactArenaOk', WHERE WHAT IT READS IS OF BULK AT MOST 1048576: true; the input reads as it did. -/
def fnExactArenaOkUptoRow : OpenClaim := { program := "yteogjndgemneeaagreat", sum := "aa3ae612f2e66b55fdc7586c49be1eb36e5c20181fbdd899e5120fe523d0f02e", func := "loop.example/g00101/laws.FnExactArenaOk", spec := "fnExactArenaOk", inPlace := ["internal/abi.NoEscape", "internal/bytealg.MakeNoZero"], unfollowed := true, recurses := true, apart := false, narrowed := true }
def FnExactArenaOkUptoSaid : Prop := fnExactArenaOkUptoRow.holds Tryz.pinned (OpenSpec.upto fnExactArenaOkSpec)

/-- 'laws.FnExactObjects', WHERE WHAT IT READS IS OF BULK AT MOST 1048576: true; the input reads as it did. -/
def fnExactObjectsUptoRow : OpenClaim := { program := "yteogjndgemneeaagreat", sum := "aa3ae612f2e66b55fdc7586c49be1eb36e5c20181fbdd899e5120fe523d0f02e", func := "loop.example/g00101/laws.FnExactObjects", spec := "fnExactObjects", inPlace := ["internal/abi.NoEscape", "internal/bytealg.MakeNoZero"], unfollowed := true, recurses := true, apart := false, narrowed := true }
def FnExactObjectsUptoSaid : Prop := fnExactObjectsUptoRow.holds Tryz.pinned (OpenSpec.upto fnExactObjectsSpec)

/-- 'laws.FnExactHeadAt', WHERE WHAT IT READS IS OF BULK AT MOST 1048576: true; the input reads as it did. -/
def fnExactHeadAtUptoRow : OpenClaim := { program := "yteogjndgemneeaagreat", sum := "aa3ae612f2e66b55fdc7586c49be1eb36e5c20181fbdd899e5120fe523d0f02e", func := "loop.example/g00101/laws.FnExactHeadAt", spec := "fnExactHeadAt", inPlace := ["internal/abi.NoEscape", "internal/bytealg.MakeNoZero"], unfollowed := true, recurses := true, apart := false, narrowed := true }
def FnExactHeadAtUptoSaid : Prop := fnExactHeadAtUptoRow.holds Tryz.pinned (OpenSpec.upto fnExactHeadAtSpec)

/-- 'laws.FnExactFree', WHERE WHAT IT READS IS OF BULK AT MOST 1048576: true; the input reads as it did. -/
def fnExactFreeUptoRow : OpenClaim := { program := "yteogjndgemneeaagreat", sum := "aa3ae612f2e66b55fdc7586c49be1eb36e5c20181fbdd899e5120fe523d0f02e", func := "loop.example/g00101/laws.FnExactFree", spec := "fnExactFree", inPlace := ["internal/abi.NoEscape", "internal/bytealg.MakeNoZero"], unfollowed := true, recurses := true, apart := false, narrowed := true }
def FnExactFreeUptoSaid : Prop := fnExactFreeUptoRow.holds Tryz.pinned (OpenSpec.upto fnExactFreeSpec)

/-- 'laws.FnExactSetRoot', WHERE WHAT IT READS IS OF BULK AT MOST 1048576: true; the input reads as it did. -/
def fnExactSetRootUptoRow : OpenClaim := { program := "yteogjndgemneeaagreat", sum := "aa3ae612f2e66b55fdc7586c49be1eb36e5c20181fbdd899e5120fe523d0f02e", func := "loop.example/g00101/laws.FnExactSetRoot", spec := "fnExactSetRoot", inPlace := ["internal/abi.NoEscape", "internal/bytealg.MakeNoZero"], unfollowed := true, recurses := true, apart := false, narrowed := true }
def FnExactSetRootUptoSaid : Prop := fnExactSetRootUptoRow.holds Tryz.pinned (OpenSpec.upto fnExactSetRootSpec)

/-- 'laws.FnExactMoveRoot', WHERE WHAT IT READS IS OF BULK AT MOST 1048576: true; the input reads as it did. -/
def fnExactMoveRootUptoRow : OpenClaim := { program := "yteogjndgemneeaagreat", sum := "aa3ae612f2e66b55fdc7586c49be1eb36e5c20181fbdd899e5120fe523d0f02e", func := "loop.example/g00101/laws.FnExactMoveRoot", spec := "fnExactMoveRoot", inPlace := ["internal/abi.NoEscape", "internal/bytealg.MakeNoZero"], unfollowed := true, recurses := true, apart := false, narrowed := true }
def FnExactMoveRootUptoSaid : Prop := fnExactMoveRootUptoRow.holds Tryz.pinned (OpenSpec.upto fnExactMoveRootSpec)

/-- 'laws.FnExactProtoOf', WHERE WHAT IT READS IS OF BULK AT MOST 1048576: true; the input reads as it did. -/
def fnExactProtoOfUptoRow : OpenClaim := { program := "yteogjndgemneeaagreat", sum := "aa3ae612f2e66b55fdc7586c49be1eb36e5c20181fbdd899e5120fe523d0f02e", func := "loop.example/g00101/laws.FnExactProtoOf", spec := "fnExactProtoOf", inPlace := ["internal/abi.NoEscape", "internal/bytealg.MakeNoZero"], unfollowed := true, recurses := true, apart := false, narrowed := true }
def FnExactProtoOfUptoSaid : Prop := fnExactProtoOfUptoRow.holds Tryz.pinned (OpenSpec.upto fnExactProtoOfSpec)

/-- 'laws.FnExactSerialOf', WHERE WHAT IT READS IS OF BULK AT MOST 1048576: true; the input reads as it did. -/
def fnExactSerialOfUptoRow : OpenClaim := { program := "yteogjndgemneeaagreat", sum := "aa3ae612f2e66b55fdc7586c49be1eb36e5c20181fbdd899e5120fe523d0f02e", func := "loop.example/g00101/laws.FnExactSerialOf", spec := "fnExactSerialOf", inPlace := ["internal/abi.NoEscape", "internal/bytealg.MakeNoZero"], unfollowed := true, recurses := true, apart := false, narrowed := true }
def FnExactSerialOfUptoSaid : Prop := fnExactSerialOfUptoRow.holds Tryz.pinned (OpenSpec.upto fnExactSerialOfSpec)

/-- 'laws.FnExactSameRoots', WHERE WHAT IT READS IS OF BULK AT MOST 1048576: true; the input reads as it did. -/
def fnExactSameRootsUptoRow : OpenClaim := { program := "yteogjndgemneeaagreat", sum := "aa3ae612f2e66b55fdc7586c49be1eb36e5c20181fbdd899e5120fe523d0f02e", func := "loop.example/g00101/laws.FnExactSameRoots", spec := "fnExactSameRoots", inPlace := ["internal/abi.NoEscape", "internal/bytealg.MakeNoZero"], unfollowed := true, recurses := true, apart := false, narrowed := true }
def FnExactSameRootsUptoSaid : Prop := fnExactSameRootsUptoRow.holds Tryz.pinned (OpenSpec.upto fnExactSameRootsSpec)

/-- 'laws.FnExactTextOf', WHERE WHAT IT READS IS OF BULK AT MOST 1048576: true; the input reads as it did. -/
def fnExactTextOfUptoRow : OpenClaim := { program := "yteogjndgemneeaagreat", sum := "aa3ae612f2e66b55fdc7586c49be1eb36e5c20181fbdd899e5120fe523d0f02e", func := "loop.example/g00101/laws.FnExactTextOf", spec := "fnExactTextOf", inPlace := ["internal/abi.NoEscape", "internal/bytealg.MakeNoZero"], unfollowed := true, recurses := true, apart := false, narrowed := true }
def FnExactTextOfUptoSaid : Prop := fnExactTextOfUptoRow.holds Tryz.pinned (OpenSpec.upto fnExactTextOfSpec)

/-- 'laws.FnExactCompareText', WHERE WHAT IT READS IS OF BULK AT MOST 1048576: true; the input reads as it did. -/
def fnExactCompareTextUptoRow : OpenClaim := { program := "yteogjndgemneeaagreat", sum := "aa3ae612f2e66b55fdc7586c49be1eb36e5c20181fbdd899e5120fe523d0f02e", func := "loop.example/g00101/laws.FnExactCompareText", spec := "fnExactCompareText", inPlace := ["internal/abi.NoEscape", "internal/bytealg.MakeNoZero", "internal/bytealg.abigen_runtime_cmpstring"], unfollowed := true, recurses := true, apart := false, narrowed := true }
def FnExactCompareTextUptoSaid : Prop := fnExactCompareTextUptoRow.holds Tryz.pinned (OpenSpec.upto fnExactCompareTextSpec)

end Rows
end Go.Proofs.YteogjndgemneeaaGreat
