/-
  No cell of these rows narrows 'for every input' (looked for: loops, veiled, ifaces, maps, wideKeys, modest, calm, conditions, laid).
  DERIVED. THE GIVEN ROWS OF THIS SEAT. 17 by the template 'for every input the law returns true; each argument reads behind the call as it read before'; 0 by the template 'total and deterministic' (their statements: YtaapiedminakcaaGreatTotals.lean).
  GIVEN WITH THE SEED: the statements are not yours to turn. If you find one false, say at which input.
  Laid BY PROGRAM, IN A SANDBOX (cutbox-rows.mjs): the forced cells as the released guide's own fill.sh prints them over the translation 644fd3894fba6b97… (all of the seat's roots in one cut). By AI agents, Wed Nov 11 2026. No macro, syntax, notation, axiom, sorry.
-/
import Derived.Test.YtaapiedminakcaaGreatChecked
import GoSem.Claim
import GoSem.ClaimJoined
import GoSem.ClaimMapViews
import Derived.JoinedTies
import Derived.KernelRfl
namespace Go.Proofs.YtaapiedminakcaaGreat
/- THE CELL 'sum', in the pinned program and in every row, IS THE sha256 OF THE DUMP (.gsa) THAT YtaapiedminakcaaGreatProg.lean LOADS. Nothing in Lean hashes anything: it is a label: what it is worth is what the hold of that sum in a sandbox is worth. -/
noncomputable def Tryz.pinned : Pinned := { name := "ytaapiedminakcaagreat", sum := "644fd3894fba6b97ba90b9c49611e5ab3093117ec34f0efeaeab01c66c7595b7", checked := Tryz.checked }
namespace Rows
def none {H : Type} : Left H := { results := [], args := [] }

/-- 'laws.FnExactArenaOk': WHATEVER THE INPUT: true; the input reads as it did. -/
def fnExactArenaOkSpec : ChangeSpec := { name := "fnExactArenaOk", fn := fun _ => fun
  | [d] => { results := [.lit (.bool true)], args := [d] }
  | _ => none }
def fnExactArenaOkRow : OpenClaim := { program := "ytaapiedminakcaagreat", sum := "644fd3894fba6b97ba90b9c49611e5ab3093117ec34f0efeaeab01c66c7595b7", func := "loop.example/g00101/laws.FnExactArenaOk", spec := "fnExactArenaOk", inPlace := ["internal/abi.NoEscape", "internal/bytealg.MakeNoZero"], unfollowed := true, recurses := true, apart := false }
def FnExactArenaOkSaid : Prop := fnExactArenaOkRow.holds Tryz.pinned (OpenSpec.ofChange fnExactArenaOkSpec)

/-- ITS FALSE NEIGHBOUR: 'it returns false'. Refute it at one input. -/
def fnExactArenaOkWrong : ChangeSpec := { name := "fnExactArenaOk", fn := fun _ => fun
  | [d] => { results := [.lit (.bool false)], args := [d] }
  | _ => none }
def FnExactArenaOkWrongFalsely : Prop := fnExactArenaOkRow.holds Tryz.pinned (OpenSpec.ofChange fnExactArenaOkWrong)

/-- 'laws.FnExactObjects': WHATEVER THE INPUT: true; the input reads as it did. -/
def fnExactObjectsSpec : ChangeSpec := { name := "fnExactObjects", fn := fun _ => fun
  | [d] => { results := [.lit (.bool true)], args := [d] }
  | _ => none }
def fnExactObjectsRow : OpenClaim := { program := "ytaapiedminakcaagreat", sum := "644fd3894fba6b97ba90b9c49611e5ab3093117ec34f0efeaeab01c66c7595b7", func := "loop.example/g00101/laws.FnExactObjects", spec := "fnExactObjects", inPlace := ["internal/abi.NoEscape", "internal/bytealg.MakeNoZero"], unfollowed := true, recurses := true, apart := false }
def FnExactObjectsSaid : Prop := fnExactObjectsRow.holds Tryz.pinned (OpenSpec.ofChange fnExactObjectsSpec)

/-- ITS FALSE NEIGHBOUR: 'it returns false'. Refute it at one input. -/
def fnExactObjectsWrong : ChangeSpec := { name := "fnExactObjects", fn := fun _ => fun
  | [d] => { results := [.lit (.bool false)], args := [d] }
  | _ => none }
def FnExactObjectsWrongFalsely : Prop := fnExactObjectsRow.holds Tryz.pinned (OpenSpec.ofChange fnExactObjectsWrong)

/-- 'laws.FnExactHeadAt': WHATEVER THE INPUT: true; the input reads as it did. -/
def fnExactHeadAtSpec : ChangeSpec := { name := "fnExactHeadAt", fn := fun _ => fun
  | [d1, d2] => { results := [.lit (.bool true)], args := [d1, d2] }
  | _ => none }
def fnExactHeadAtRow : OpenClaim := { program := "ytaapiedminakcaagreat", sum := "644fd3894fba6b97ba90b9c49611e5ab3093117ec34f0efeaeab01c66c7595b7", func := "loop.example/g00101/laws.FnExactHeadAt", spec := "fnExactHeadAt", inPlace := ["internal/abi.NoEscape", "internal/bytealg.MakeNoZero"], unfollowed := true, recurses := true, apart := false }
def FnExactHeadAtSaid : Prop := fnExactHeadAtRow.holds Tryz.pinned (OpenSpec.ofChange fnExactHeadAtSpec)

/-- ITS FALSE NEIGHBOUR: 'it returns false'. Refute it at one input. -/
def fnExactHeadAtWrong : ChangeSpec := { name := "fnExactHeadAt", fn := fun _ => fun
  | [d1, d2] => { results := [.lit (.bool false)], args := [d1, d2] }
  | _ => none }
def FnExactHeadAtWrongFalsely : Prop := fnExactHeadAtRow.holds Tryz.pinned (OpenSpec.ofChange fnExactHeadAtWrong)

/-- 'laws.FnExactFree': WHATEVER THE INPUT: true; the input reads as it did. -/
def fnExactFreeSpec : ChangeSpec := { name := "fnExactFree", fn := fun _ => fun
  | [d] => { results := [.lit (.bool true)], args := [d] }
  | _ => none }
def fnExactFreeRow : OpenClaim := { program := "ytaapiedminakcaagreat", sum := "644fd3894fba6b97ba90b9c49611e5ab3093117ec34f0efeaeab01c66c7595b7", func := "loop.example/g00101/laws.FnExactFree", spec := "fnExactFree", inPlace := ["internal/abi.NoEscape", "internal/bytealg.MakeNoZero"], unfollowed := true, recurses := true, apart := false }
def FnExactFreeSaid : Prop := fnExactFreeRow.holds Tryz.pinned (OpenSpec.ofChange fnExactFreeSpec)

/-- ITS FALSE NEIGHBOUR: 'it returns false'. Refute it at one input. -/
def fnExactFreeWrong : ChangeSpec := { name := "fnExactFree", fn := fun _ => fun
  | [d] => { results := [.lit (.bool false)], args := [d] }
  | _ => none }
def FnExactFreeWrongFalsely : Prop := fnExactFreeRow.holds Tryz.pinned (OpenSpec.ofChange fnExactFreeWrong)

/-- 'laws.FnExactSetRoot': WHATEVER THE INPUT: true; the input reads as it did. -/
def fnExactSetRootSpec : ChangeSpec := { name := "fnExactSetRoot", fn := fun _ => fun
  | [d1, d2, d3] => { results := [.lit (.bool true)], args := [d1, d2, d3] }
  | _ => none }
def fnExactSetRootRow : OpenClaim := { program := "ytaapiedminakcaagreat", sum := "644fd3894fba6b97ba90b9c49611e5ab3093117ec34f0efeaeab01c66c7595b7", func := "loop.example/g00101/laws.FnExactSetRoot", spec := "fnExactSetRoot", inPlace := ["internal/abi.NoEscape", "internal/bytealg.MakeNoZero"], unfollowed := true, recurses := true, apart := false }
def FnExactSetRootSaid : Prop := fnExactSetRootRow.holds Tryz.pinned (OpenSpec.ofChange fnExactSetRootSpec)

/-- ITS FALSE NEIGHBOUR: 'it returns false'. Refute it at one input. -/
def fnExactSetRootWrong : ChangeSpec := { name := "fnExactSetRoot", fn := fun _ => fun
  | [d1, d2, d3] => { results := [.lit (.bool false)], args := [d1, d2, d3] }
  | _ => none }
def FnExactSetRootWrongFalsely : Prop := fnExactSetRootRow.holds Tryz.pinned (OpenSpec.ofChange fnExactSetRootWrong)

/-- 'laws.FnExactMoveRoot': WHATEVER THE INPUT: true; the input reads as it did. -/
def fnExactMoveRootSpec : ChangeSpec := { name := "fnExactMoveRoot", fn := fun _ => fun
  | [d1, d2, d3] => { results := [.lit (.bool true)], args := [d1, d2, d3] }
  | _ => none }
def fnExactMoveRootRow : OpenClaim := { program := "ytaapiedminakcaagreat", sum := "644fd3894fba6b97ba90b9c49611e5ab3093117ec34f0efeaeab01c66c7595b7", func := "loop.example/g00101/laws.FnExactMoveRoot", spec := "fnExactMoveRoot", inPlace := ["internal/abi.NoEscape", "internal/bytealg.MakeNoZero"], unfollowed := true, recurses := true, apart := false }
def FnExactMoveRootSaid : Prop := fnExactMoveRootRow.holds Tryz.pinned (OpenSpec.ofChange fnExactMoveRootSpec)

/-- ITS FALSE NEIGHBOUR: 'it returns false'. Refute it at one input. -/
def fnExactMoveRootWrong : ChangeSpec := { name := "fnExactMoveRoot", fn := fun _ => fun
  | [d1, d2, d3] => { results := [.lit (.bool false)], args := [d1, d2, d3] }
  | _ => none }
def FnExactMoveRootWrongFalsely : Prop := fnExactMoveRootRow.holds Tryz.pinned (OpenSpec.ofChange fnExactMoveRootWrong)

/-- 'laws.FnExactProtoOf': WHATEVER THE INPUT: true; the input reads as it did. -/
def fnExactProtoOfSpec : ChangeSpec := { name := "fnExactProtoOf", fn := fun _ => fun
  | [d1, d2] => { results := [.lit (.bool true)], args := [d1, d2] }
  | _ => none }
def fnExactProtoOfRow : OpenClaim := { program := "ytaapiedminakcaagreat", sum := "644fd3894fba6b97ba90b9c49611e5ab3093117ec34f0efeaeab01c66c7595b7", func := "loop.example/g00101/laws.FnExactProtoOf", spec := "fnExactProtoOf", inPlace := ["internal/abi.NoEscape", "internal/bytealg.MakeNoZero"], unfollowed := true, recurses := true, apart := false }
def FnExactProtoOfSaid : Prop := fnExactProtoOfRow.holds Tryz.pinned (OpenSpec.ofChange fnExactProtoOfSpec)

/-- ITS FALSE NEIGHBOUR: 'it returns false'. Refute it at one input. -/
def fnExactProtoOfWrong : ChangeSpec := { name := "fnExactProtoOf", fn := fun _ => fun
  | [d1, d2] => { results := [.lit (.bool false)], args := [d1, d2] }
  | _ => none }
def FnExactProtoOfWrongFalsely : Prop := fnExactProtoOfRow.holds Tryz.pinned (OpenSpec.ofChange fnExactProtoOfWrong)

/-- 'laws.FnExactSerialOf': WHATEVER THE INPUT: true; the input reads as it did. -/
def fnExactSerialOfSpec : ChangeSpec := { name := "fnExactSerialOf", fn := fun _ => fun
  | [d1, d2] => { results := [.lit (.bool true)], args := [d1, d2] }
  | _ => none }
def fnExactSerialOfRow : OpenClaim := { program := "ytaapiedminakcaagreat", sum := "644fd3894fba6b97ba90b9c49611e5ab3093117ec34f0efeaeab01c66c7595b7", func := "loop.example/g00101/laws.FnExactSerialOf", spec := "fnExactSerialOf", inPlace := ["internal/abi.NoEscape", "internal/bytealg.MakeNoZero"], unfollowed := true, recurses := true, apart := false }
def FnExactSerialOfSaid : Prop := fnExactSerialOfRow.holds Tryz.pinned (OpenSpec.ofChange fnExactSerialOfSpec)

/-- ITS FALSE NEIGHBOUR: 'it returns false'. Refute it at one input. -/
def fnExactSerialOfWrong : ChangeSpec := { name := "fnExactSerialOf", fn := fun _ => fun
  | [d1, d2] => { results := [.lit (.bool false)], args := [d1, d2] }
  | _ => none }
def FnExactSerialOfWrongFalsely : Prop := fnExactSerialOfRow.holds Tryz.pinned (OpenSpec.ofChange fnExactSerialOfWrong)

/-- 'laws.FnExactSameRoots': WHATEVER THE INPUT: true; the input reads as it did. -/
def fnExactSameRootsSpec : ChangeSpec := { name := "fnExactSameRoots", fn := fun _ => fun
  | [d1, d2, d3] => { results := [.lit (.bool true)], args := [d1, d2, d3] }
  | _ => none }
def fnExactSameRootsRow : OpenClaim := { program := "ytaapiedminakcaagreat", sum := "644fd3894fba6b97ba90b9c49611e5ab3093117ec34f0efeaeab01c66c7595b7", func := "loop.example/g00101/laws.FnExactSameRoots", spec := "fnExactSameRoots", inPlace := ["internal/abi.NoEscape", "internal/bytealg.MakeNoZero"], unfollowed := true, recurses := true, apart := false }
def FnExactSameRootsSaid : Prop := fnExactSameRootsRow.holds Tryz.pinned (OpenSpec.ofChange fnExactSameRootsSpec)

/-- ITS FALSE NEIGHBOUR: 'it returns false'. Refute it at one input. -/
def fnExactSameRootsWrong : ChangeSpec := { name := "fnExactSameRoots", fn := fun _ => fun
  | [d1, d2, d3] => { results := [.lit (.bool false)], args := [d1, d2, d3] }
  | _ => none }
def FnExactSameRootsWrongFalsely : Prop := fnExactSameRootsRow.holds Tryz.pinned (OpenSpec.ofChange fnExactSameRootsWrong)

/-- 'laws.FnExactTextOf': WHATEVER THE INPUT: true; the input reads as it did. -/
def fnExactTextOfSpec : ChangeSpec := { name := "fnExactTextOf", fn := fun _ => fun
  | [d1, d2] => { results := [.lit (.bool true)], args := [d1, d2] }
  | _ => none }
def fnExactTextOfRow : OpenClaim := { program := "ytaapiedminakcaagreat", sum := "644fd3894fba6b97ba90b9c49611e5ab3093117ec34f0efeaeab01c66c7595b7", func := "loop.example/g00101/laws.FnExactTextOf", spec := "fnExactTextOf", inPlace := ["internal/abi.NoEscape", "internal/bytealg.MakeNoZero"], unfollowed := true, recurses := true, apart := false }
def FnExactTextOfSaid : Prop := fnExactTextOfRow.holds Tryz.pinned (OpenSpec.ofChange fnExactTextOfSpec)

/-- ITS FALSE NEIGHBOUR: 'it returns false'. Refute it at one input. -/
def fnExactTextOfWrong : ChangeSpec := { name := "fnExactTextOf", fn := fun _ => fun
  | [d1, d2] => { results := [.lit (.bool false)], args := [d1, d2] }
  | _ => none }
def FnExactTextOfWrongFalsely : Prop := fnExactTextOfRow.holds Tryz.pinned (OpenSpec.ofChange fnExactTextOfWrong)

/-- 'laws.FnExactCompareText': WHATEVER THE INPUT: true; the input reads as it did. -/
def fnExactCompareTextSpec : ChangeSpec := { name := "fnExactCompareText", fn := fun _ => fun
  | [d1, d2, d3] => { results := [.lit (.bool true)], args := [d1, d2, d3] }
  | _ => none }
def fnExactCompareTextRow : OpenClaim := { program := "ytaapiedminakcaagreat", sum := "644fd3894fba6b97ba90b9c49611e5ab3093117ec34f0efeaeab01c66c7595b7", func := "loop.example/g00101/laws.FnExactCompareText", spec := "fnExactCompareText", inPlace := ["internal/abi.NoEscape", "internal/bytealg.MakeNoZero", "internal/bytealg.abigen_runtime_cmpstring"], unfollowed := true, recurses := true, apart := false }
def FnExactCompareTextSaid : Prop := fnExactCompareTextRow.holds Tryz.pinned (OpenSpec.ofChange fnExactCompareTextSpec)

/-- ITS FALSE NEIGHBOUR: 'it returns false'. Refute it at one input. -/
def fnExactCompareTextWrong : ChangeSpec := { name := "fnExactCompareText", fn := fun _ => fun
  | [d1, d2, d3] => { results := [.lit (.bool false)], args := [d1, d2, d3] }
  | _ => none }
def FnExactCompareTextWrongFalsely : Prop := fnExactCompareTextRow.holds Tryz.pinned (OpenSpec.ofChange fnExactCompareTextWrong)

/-- 'laws.FnExactFlip': WHATEVER THE INPUT: true; the input reads as it did. -/
def fnExactFlipSpec : ChangeSpec := { name := "fnExactFlip", fn := fun _ => fun
  | [d] => { results := [.lit (.bool true)], args := [d] }
  | _ => none }
def fnExactFlipRow : OpenClaim := { program := "ytaapiedminakcaagreat", sum := "644fd3894fba6b97ba90b9c49611e5ab3093117ec34f0efeaeab01c66c7595b7", func := "loop.example/g00101/laws.FnExactFlip", spec := "fnExactFlip", inPlace := ["internal/abi.NoEscape", "internal/bytealg.MakeNoZero"], unfollowed := true, recurses := true, apart := false }
def FnExactFlipSaid : Prop := fnExactFlipRow.holds Tryz.pinned (OpenSpec.ofChange fnExactFlipSpec)

/-- ITS FALSE NEIGHBOUR: 'it returns false'. Refute it at one input. -/
def fnExactFlipWrong : ChangeSpec := { name := "fnExactFlip", fn := fun _ => fun
  | [d] => { results := [.lit (.bool false)], args := [d] }
  | _ => none }
def FnExactFlipWrongFalsely : Prop := fnExactFlipRow.holds Tryz.pinned (OpenSpec.ofChange fnExactFlipWrong)

/-- 'laws.FnExactFinish': WHATEVER THE INPUT: true; the input reads as it did. -/
def fnExactFinishSpec : ChangeSpec := { name := "fnExactFinish", fn := fun _ => fun
  | [d] => { results := [.lit (.bool true)], args := [d] }
  | _ => none }
def fnExactFinishRow : OpenClaim := { program := "ytaapiedminakcaagreat", sum := "644fd3894fba6b97ba90b9c49611e5ab3093117ec34f0efeaeab01c66c7595b7", func := "loop.example/g00101/laws.FnExactFinish", spec := "fnExactFinish", inPlace := ["internal/abi.NoEscape", "internal/bytealg.MakeNoZero"], unfollowed := true, recurses := true, apart := false }
def FnExactFinishSaid : Prop := fnExactFinishRow.holds Tryz.pinned (OpenSpec.ofChange fnExactFinishSpec)

/-- ITS FALSE NEIGHBOUR: 'it returns false'. Refute it at one input. -/
def fnExactFinishWrong : ChangeSpec := { name := "fnExactFinish", fn := fun _ => fun
  | [d] => { results := [.lit (.bool false)], args := [d] }
  | _ => none }
def FnExactFinishWrongFalsely : Prop := fnExactFinishRow.holds Tryz.pinned (OpenSpec.ofChange fnExactFinishWrong)

/-- 'laws.FnExactCollect': WHATEVER THE INPUT: true; the input reads as it did. -/
def fnExactCollectSpec : ChangeSpec := { name := "fnExactCollect", fn := fun _ => fun
  | [d] => { results := [.lit (.bool true)], args := [d] }
  | _ => none }
def fnExactCollectRow : OpenClaim := { program := "ytaapiedminakcaagreat", sum := "644fd3894fba6b97ba90b9c49611e5ab3093117ec34f0efeaeab01c66c7595b7", func := "loop.example/g00101/laws.FnExactCollect", spec := "fnExactCollect", inPlace := ["internal/abi.NoEscape", "internal/bytealg.MakeNoZero"], unfollowed := true, recurses := true, apart := false }
def FnExactCollectSaid : Prop := fnExactCollectRow.holds Tryz.pinned (OpenSpec.ofChange fnExactCollectSpec)

/-- ITS FALSE NEIGHBOUR: 'it returns false'. Refute it at one input. -/
def fnExactCollectWrong : ChangeSpec := { name := "fnExactCollect", fn := fun _ => fun
  | [d] => { results := [.lit (.bool false)], args := [d] }
  | _ => none }
def FnExactCollectWrongFalsely : Prop := fnExactCollectRow.holds Tryz.pinned (OpenSpec.ofChange fnExactCollectWrong)

/-- 'laws.FnExactReached': WHATEVER THE INPUT: true; the input reads as it did. -/
def fnExactReachedSpec : ChangeSpec := { name := "fnExactReached", fn := fun _ => fun
  | [d] => { results := [.lit (.bool true)], args := [d] }
  | _ => none }
def fnExactReachedRow : OpenClaim := { program := "ytaapiedminakcaagreat", sum := "644fd3894fba6b97ba90b9c49611e5ab3093117ec34f0efeaeab01c66c7595b7", func := "loop.example/g00101/laws.FnExactReached", spec := "fnExactReached", inPlace := ["internal/abi.NoEscape", "internal/bytealg.MakeNoZero"], unfollowed := true, recurses := true, apart := false }
def FnExactReachedSaid : Prop := fnExactReachedRow.holds Tryz.pinned (OpenSpec.ofChange fnExactReachedSpec)

/-- ITS FALSE NEIGHBOUR: 'it returns false'. Refute it at one input. -/
def fnExactReachedWrong : ChangeSpec := { name := "fnExactReached", fn := fun _ => fun
  | [d] => { results := [.lit (.bool false)], args := [d] }
  | _ => none }
def FnExactReachedWrongFalsely : Prop := fnExactReachedRow.holds Tryz.pinned (OpenSpec.ofChange fnExactReachedWrong)

/-- 'laws.FnExactBorder': WHATEVER THE INPUT: true; the input reads as it did. -/
def fnExactBorderSpec : ChangeSpec := { name := "fnExactBorder", fn := fun _ => fun
  | [d1, d2] => { results := [.lit (.bool true)], args := [d1, d2] }
  | _ => none }
def fnExactBorderRow : OpenClaim := { program := "ytaapiedminakcaagreat", sum := "644fd3894fba6b97ba90b9c49611e5ab3093117ec34f0efeaeab01c66c7595b7", func := "loop.example/g00101/laws.FnExactBorder", spec := "fnExactBorder", inPlace := ["internal/abi.NoEscape", "internal/bytealg.MakeNoZero"], unfollowed := true, recurses := true, apart := false }
def FnExactBorderSaid : Prop := fnExactBorderRow.holds Tryz.pinned (OpenSpec.ofChange fnExactBorderSpec)

/-- ITS FALSE NEIGHBOUR: 'it returns false'. Refute it at one input. -/
def fnExactBorderWrong : ChangeSpec := { name := "fnExactBorder", fn := fun _ => fun
  | [d1, d2] => { results := [.lit (.bool false)], args := [d1, d2] }
  | _ => none }
def FnExactBorderWrongFalsely : Prop := fnExactBorderRow.holds Tryz.pinned (OpenSpec.ofChange fnExactBorderWrong)

/-- 'laws.FnExactCapacity': WHATEVER THE INPUT: true; the input reads as it did. -/
def fnExactCapacitySpec : ChangeSpec := { name := "fnExactCapacity", fn := fun _ => fun
  | [d1, d2] => { results := [.lit (.bool true)], args := [d1, d2] }
  | _ => none }
def fnExactCapacityRow : OpenClaim := { program := "ytaapiedminakcaagreat", sum := "644fd3894fba6b97ba90b9c49611e5ab3093117ec34f0efeaeab01c66c7595b7", func := "loop.example/g00101/laws.FnExactCapacity", spec := "fnExactCapacity", inPlace := ["internal/abi.NoEscape", "internal/bytealg.MakeNoZero"], unfollowed := true, recurses := true, apart := false }
def FnExactCapacitySaid : Prop := fnExactCapacityRow.holds Tryz.pinned (OpenSpec.ofChange fnExactCapacitySpec)

/-- ITS FALSE NEIGHBOUR: 'it returns false'. Refute it at one input. -/
def fnExactCapacityWrong : ChangeSpec := { name := "fnExactCapacity", fn := fun _ => fun
  | [d1, d2] => { results := [.lit (.bool false)], args := [d1, d2] }
  | _ => none }
def FnExactCapacityWrongFalsely : Prop := fnExactCapacityRow.holds Tryz.pinned (OpenSpec.ofChange fnExactCapacityWrong)

/- THE SECOND FORM. 'bulk': how many values and letters a reading holds, each counted each time it is reached (what is shared counts as often as it is met; a slice's spare places count too). A statement '..UptoSaid' is the law's where the arguments, and the package variables that the reading takes, are together of bulk at most 1048576: NARROWER than '..Said'. Prove '..Said' where nothing that the law and all that it calls make is longer than what came in: it says more and counts as full. Else prove '..UptoSaid'. A law counts once. -/
mutual
def uptoBulk {H : Type} : DataW H → Nat
  | .lit (.string bytes) => bytes.length + 1
  | .lit _ => 1
  | .nil => 1
  | .ptr d => uptoBulk d + 1
  | .slice elems spare => uptoBulkAll elems + uptoBulkAll spare + 1
  | .agg parts => uptoBulkAll parts + 1
  | .iface _ d => uptoBulk d + 1
  | .map entries => uptoBulkEntries entries + 1
  | .held _ => 1
def uptoBulkAll {H : Type} : List (DataW H) → Nat
  | [] => 0
  | d :: r => uptoBulk d + uptoBulkAll r
def uptoBulkEntries {H : Type} : List (Lit × DataW H) → Nat
  | [] => 0
  | x :: r => uptoBulkEntry x + uptoBulkEntries r
def uptoBulkEntry {H : Type} : Lit × DataW H → Nat
  | (.string bytes, d) => bytes.length + uptoBulk d + 1
  | (_, d) => uptoBulk d + 1
 end
def uptoSmall : (H : Type) → List (DataW H) → Bool := fun _ ds => decide (uptoBulkAll ds ≤ 1048576)
def OpenSpec.upto (s : _root_.Go.ChangeSpec) : _root_.Go.OpenSpec := { _root_.Go.OpenSpec.ofChange s with cond := some uptoSmall }

/-- 'laws.FnExactArenaOk', WHERE WHAT IT READS IS OF BULK AT MOST 1048576: true; the input reads as it did. -/
def fnExactArenaOkUptoRow : OpenClaim := { program := "ytaapiedminakcaagreat", sum := "644fd3894fba6b97ba90b9c49611e5ab3093117ec34f0efeaeab01c66c7595b7", func := "loop.example/g00101/laws.FnExactArenaOk", spec := "fnExactArenaOk", inPlace := ["internal/abi.NoEscape", "internal/bytealg.MakeNoZero"], unfollowed := true, recurses := true, apart := false, narrowed := true }
def FnExactArenaOkUptoSaid : Prop := fnExactArenaOkUptoRow.holds Tryz.pinned (OpenSpec.upto fnExactArenaOkSpec)

/-- 'laws.FnExactObjects', WHERE WHAT IT READS IS OF BULK AT MOST 1048576: true; the input reads as it did. -/
def fnExactObjectsUptoRow : OpenClaim := { program := "ytaapiedminakcaagreat", sum := "644fd3894fba6b97ba90b9c49611e5ab3093117ec34f0efeaeab01c66c7595b7", func := "loop.example/g00101/laws.FnExactObjects", spec := "fnExactObjects", inPlace := ["internal/abi.NoEscape", "internal/bytealg.MakeNoZero"], unfollowed := true, recurses := true, apart := false, narrowed := true }
def FnExactObjectsUptoSaid : Prop := fnExactObjectsUptoRow.holds Tryz.pinned (OpenSpec.upto fnExactObjectsSpec)

/-- 'laws.FnExactHeadAt', WHERE WHAT IT READS IS OF BULK AT MOST 1048576: true; the input reads as it did. -/
def fnExactHeadAtUptoRow : OpenClaim := { program := "ytaapiedminakcaagreat", sum := "644fd3894fba6b97ba90b9c49611e5ab3093117ec34f0efeaeab01c66c7595b7", func := "loop.example/g00101/laws.FnExactHeadAt", spec := "fnExactHeadAt", inPlace := ["internal/abi.NoEscape", "internal/bytealg.MakeNoZero"], unfollowed := true, recurses := true, apart := false, narrowed := true }
def FnExactHeadAtUptoSaid : Prop := fnExactHeadAtUptoRow.holds Tryz.pinned (OpenSpec.upto fnExactHeadAtSpec)

/-- 'laws.FnExactFree', WHERE WHAT IT READS IS OF BULK AT MOST 1048576: true; the input reads as it did. -/
def fnExactFreeUptoRow : OpenClaim := { program := "ytaapiedminakcaagreat", sum := "644fd3894fba6b97ba90b9c49611e5ab3093117ec34f0efeaeab01c66c7595b7", func := "loop.example/g00101/laws.FnExactFree", spec := "fnExactFree", inPlace := ["internal/abi.NoEscape", "internal/bytealg.MakeNoZero"], unfollowed := true, recurses := true, apart := false, narrowed := true }
def FnExactFreeUptoSaid : Prop := fnExactFreeUptoRow.holds Tryz.pinned (OpenSpec.upto fnExactFreeSpec)

/-- 'laws.FnExactSetRoot', WHERE WHAT IT READS IS OF BULK AT MOST 1048576: true; the input reads as it did. -/
def fnExactSetRootUptoRow : OpenClaim := { program := "ytaapiedminakcaagreat", sum := "644fd3894fba6b97ba90b9c49611e5ab3093117ec34f0efeaeab01c66c7595b7", func := "loop.example/g00101/laws.FnExactSetRoot", spec := "fnExactSetRoot", inPlace := ["internal/abi.NoEscape", "internal/bytealg.MakeNoZero"], unfollowed := true, recurses := true, apart := false, narrowed := true }
def FnExactSetRootUptoSaid : Prop := fnExactSetRootUptoRow.holds Tryz.pinned (OpenSpec.upto fnExactSetRootSpec)

/-- 'laws.FnExactMoveRoot', WHERE WHAT IT READS IS OF BULK AT MOST 1048576: true; the input reads as it did. -/
def fnExactMoveRootUptoRow : OpenClaim := { program := "ytaapiedminakcaagreat", sum := "644fd3894fba6b97ba90b9c49611e5ab3093117ec34f0efeaeab01c66c7595b7", func := "loop.example/g00101/laws.FnExactMoveRoot", spec := "fnExactMoveRoot", inPlace := ["internal/abi.NoEscape", "internal/bytealg.MakeNoZero"], unfollowed := true, recurses := true, apart := false, narrowed := true }
def FnExactMoveRootUptoSaid : Prop := fnExactMoveRootUptoRow.holds Tryz.pinned (OpenSpec.upto fnExactMoveRootSpec)

/-- 'laws.FnExactProtoOf', WHERE WHAT IT READS IS OF BULK AT MOST 1048576: true; the input reads as it did. -/
def fnExactProtoOfUptoRow : OpenClaim := { program := "ytaapiedminakcaagreat", sum := "644fd3894fba6b97ba90b9c49611e5ab3093117ec34f0efeaeab01c66c7595b7", func := "loop.example/g00101/laws.FnExactProtoOf", spec := "fnExactProtoOf", inPlace := ["internal/abi.NoEscape", "internal/bytealg.MakeNoZero"], unfollowed := true, recurses := true, apart := false, narrowed := true }
def FnExactProtoOfUptoSaid : Prop := fnExactProtoOfUptoRow.holds Tryz.pinned (OpenSpec.upto fnExactProtoOfSpec)

/-- 'laws.FnExactSerialOf', WHERE WHAT IT READS IS OF BULK AT MOST 1048576: true; the input reads as it did. -/
def fnExactSerialOfUptoRow : OpenClaim := { program := "ytaapiedminakcaagreat", sum := "644fd3894fba6b97ba90b9c49611e5ab3093117ec34f0efeaeab01c66c7595b7", func := "loop.example/g00101/laws.FnExactSerialOf", spec := "fnExactSerialOf", inPlace := ["internal/abi.NoEscape", "internal/bytealg.MakeNoZero"], unfollowed := true, recurses := true, apart := false, narrowed := true }
def FnExactSerialOfUptoSaid : Prop := fnExactSerialOfUptoRow.holds Tryz.pinned (OpenSpec.upto fnExactSerialOfSpec)

/-- 'laws.FnExactSameRoots', WHERE WHAT IT READS IS OF BULK AT MOST 1048576: true; the input reads as it did. -/
def fnExactSameRootsUptoRow : OpenClaim := { program := "ytaapiedminakcaagreat", sum := "644fd3894fba6b97ba90b9c49611e5ab3093117ec34f0efeaeab01c66c7595b7", func := "loop.example/g00101/laws.FnExactSameRoots", spec := "fnExactSameRoots", inPlace := ["internal/abi.NoEscape", "internal/bytealg.MakeNoZero"], unfollowed := true, recurses := true, apart := false, narrowed := true }
def FnExactSameRootsUptoSaid : Prop := fnExactSameRootsUptoRow.holds Tryz.pinned (OpenSpec.upto fnExactSameRootsSpec)

/-- 'laws.FnExactTextOf', WHERE WHAT IT READS IS OF BULK AT MOST 1048576: true; the input reads as it did. -/
def fnExactTextOfUptoRow : OpenClaim := { program := "ytaapiedminakcaagreat", sum := "644fd3894fba6b97ba90b9c49611e5ab3093117ec34f0efeaeab01c66c7595b7", func := "loop.example/g00101/laws.FnExactTextOf", spec := "fnExactTextOf", inPlace := ["internal/abi.NoEscape", "internal/bytealg.MakeNoZero"], unfollowed := true, recurses := true, apart := false, narrowed := true }
def FnExactTextOfUptoSaid : Prop := fnExactTextOfUptoRow.holds Tryz.pinned (OpenSpec.upto fnExactTextOfSpec)

/-- 'laws.FnExactCompareText', WHERE WHAT IT READS IS OF BULK AT MOST 1048576: true; the input reads as it did. -/
def fnExactCompareTextUptoRow : OpenClaim := { program := "ytaapiedminakcaagreat", sum := "644fd3894fba6b97ba90b9c49611e5ab3093117ec34f0efeaeab01c66c7595b7", func := "loop.example/g00101/laws.FnExactCompareText", spec := "fnExactCompareText", inPlace := ["internal/abi.NoEscape", "internal/bytealg.MakeNoZero", "internal/bytealg.abigen_runtime_cmpstring"], unfollowed := true, recurses := true, apart := false, narrowed := true }
def FnExactCompareTextUptoSaid : Prop := fnExactCompareTextUptoRow.holds Tryz.pinned (OpenSpec.upto fnExactCompareTextSpec)

/-- 'laws.FnExactFlip', WHERE WHAT IT READS IS OF BULK AT MOST 1048576: true; the input reads as it did. -/
def fnExactFlipUptoRow : OpenClaim := { program := "ytaapiedminakcaagreat", sum := "644fd3894fba6b97ba90b9c49611e5ab3093117ec34f0efeaeab01c66c7595b7", func := "loop.example/g00101/laws.FnExactFlip", spec := "fnExactFlip", inPlace := ["internal/abi.NoEscape", "internal/bytealg.MakeNoZero"], unfollowed := true, recurses := true, apart := false, narrowed := true }
def FnExactFlipUptoSaid : Prop := fnExactFlipUptoRow.holds Tryz.pinned (OpenSpec.upto fnExactFlipSpec)

/-- 'laws.FnExactFinish', WHERE WHAT IT READS IS OF BULK AT MOST 1048576: true; the input reads as it did. -/
def fnExactFinishUptoRow : OpenClaim := { program := "ytaapiedminakcaagreat", sum := "644fd3894fba6b97ba90b9c49611e5ab3093117ec34f0efeaeab01c66c7595b7", func := "loop.example/g00101/laws.FnExactFinish", spec := "fnExactFinish", inPlace := ["internal/abi.NoEscape", "internal/bytealg.MakeNoZero"], unfollowed := true, recurses := true, apart := false, narrowed := true }
def FnExactFinishUptoSaid : Prop := fnExactFinishUptoRow.holds Tryz.pinned (OpenSpec.upto fnExactFinishSpec)

/-- 'laws.FnExactCollect', WHERE WHAT IT READS IS OF BULK AT MOST 1048576: true; the input reads as it did. -/
def fnExactCollectUptoRow : OpenClaim := { program := "ytaapiedminakcaagreat", sum := "644fd3894fba6b97ba90b9c49611e5ab3093117ec34f0efeaeab01c66c7595b7", func := "loop.example/g00101/laws.FnExactCollect", spec := "fnExactCollect", inPlace := ["internal/abi.NoEscape", "internal/bytealg.MakeNoZero"], unfollowed := true, recurses := true, apart := false, narrowed := true }
def FnExactCollectUptoSaid : Prop := fnExactCollectUptoRow.holds Tryz.pinned (OpenSpec.upto fnExactCollectSpec)

/-- 'laws.FnExactReached', WHERE WHAT IT READS IS OF BULK AT MOST 1048576: true; the input reads as it did. -/
def fnExactReachedUptoRow : OpenClaim := { program := "ytaapiedminakcaagreat", sum := "644fd3894fba6b97ba90b9c49611e5ab3093117ec34f0efeaeab01c66c7595b7", func := "loop.example/g00101/laws.FnExactReached", spec := "fnExactReached", inPlace := ["internal/abi.NoEscape", "internal/bytealg.MakeNoZero"], unfollowed := true, recurses := true, apart := false, narrowed := true }
def FnExactReachedUptoSaid : Prop := fnExactReachedUptoRow.holds Tryz.pinned (OpenSpec.upto fnExactReachedSpec)

/-- 'laws.FnExactBorder', WHERE WHAT IT READS IS OF BULK AT MOST 1048576: true; the input reads as it did. -/
def fnExactBorderUptoRow : OpenClaim := { program := "ytaapiedminakcaagreat", sum := "644fd3894fba6b97ba90b9c49611e5ab3093117ec34f0efeaeab01c66c7595b7", func := "loop.example/g00101/laws.FnExactBorder", spec := "fnExactBorder", inPlace := ["internal/abi.NoEscape", "internal/bytealg.MakeNoZero"], unfollowed := true, recurses := true, apart := false, narrowed := true }
def FnExactBorderUptoSaid : Prop := fnExactBorderUptoRow.holds Tryz.pinned (OpenSpec.upto fnExactBorderSpec)

/-- 'laws.FnExactCapacity', WHERE WHAT IT READS IS OF BULK AT MOST 1048576: true; the input reads as it did. -/
def fnExactCapacityUptoRow : OpenClaim := { program := "ytaapiedminakcaagreat", sum := "644fd3894fba6b97ba90b9c49611e5ab3093117ec34f0efeaeab01c66c7595b7", func := "loop.example/g00101/laws.FnExactCapacity", spec := "fnExactCapacity", inPlace := ["internal/abi.NoEscape", "internal/bytealg.MakeNoZero"], unfollowed := true, recurses := true, apart := false, narrowed := true }
def FnExactCapacityUptoSaid : Prop := fnExactCapacityUptoRow.holds Tryz.pinned (OpenSpec.upto fnExactCapacitySpec)

end Rows
end Go.Proofs.YtaapiedminakcaaGreat
