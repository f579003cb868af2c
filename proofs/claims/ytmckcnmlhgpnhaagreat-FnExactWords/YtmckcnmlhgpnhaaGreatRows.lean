/-
  No cell of these rows narrows 'for every input' (looked for: loops, veiled, ifaces, maps, wideKeys, modest, calm, conditions, laid).
  DERIVED. THE GIVEN ROWS OF THIS SEAT. 7 by the template 'for every input the law returns true; each argument reads behind the call as it read before'; 0 by the template 'total and deterministic' (their statements: YtmckcnmlhgpnhaaGreatTotals.lean).
  GIVEN WITH THE SEED: the statements are not yours to turn. If you find one false, say at which input.
  Laid BY PROGRAM, IN A SANDBOX (cutbox-rows.mjs): the forced cells as the released guide's own fill.sh prints them over the translation cd9dff49214e3d7e… (all of the seat's roots in one cut). By AI agents, Wed Nov 11 2026. No macro, syntax, notation, axiom, sorry.
-/
import Derived.Test.YtmckcnmlhgpnhaaGreatChecked
import GoSem.Claim
import GoSem.ClaimJoined
import GoSem.ClaimMapViews
import Derived.JoinedTies
import Derived.KernelRfl
namespace Go.Proofs.YtmckcnmlhgpnhaaGreat
/- THE CELL 'sum', in the pinned program and in every row, IS THE sha256 OF THE DUMP (.gsa) THAT YtmckcnmlhgpnhaaGreatProg.lean LOADS. Nothing in Lean hashes anything: it is a label: what it is worth is what the hold of that sum in a sandbox is worth. -/
noncomputable def Tryz.pinned : Pinned := { name := "ytmckcnmlhgpnhaagreat", sum := "cd9dff49214e3d7ebc98b22beeb0c8eea77663576586feeaea6068c9e18ead10", checked := Tryz.checked }
namespace Rows
def none {H : Type} : Left H := { results := [], args := [] }

/-- 'laws.FnExactReached': WHATEVER THE INPUT: true; the input reads as it did. -/
def fnExactReachedSpec : ChangeSpec := { name := "fnExactReached", fn := fun _ => fun
  | [d] => { results := [.lit (.bool true)], args := [d] }
  | _ => none }
def fnExactReachedRow : OpenClaim := { program := "ytmckcnmlhgpnhaagreat", sum := "cd9dff49214e3d7ebc98b22beeb0c8eea77663576586feeaea6068c9e18ead10", func := "loop.example/g00101/laws.FnExactReached", spec := "fnExactReached", inPlace := ["internal/abi.NoEscape", "internal/bytealg.MakeNoZero"], unfollowed := true, recurses := true, apart := false }
def FnExactReachedSaid : Prop := fnExactReachedRow.holds Tryz.pinned (OpenSpec.ofChange fnExactReachedSpec)

/-- ITS FALSE NEIGHBOUR: 'it returns false'. Refute it at one input. -/
def fnExactReachedWrong : ChangeSpec := { name := "fnExactReached", fn := fun _ => fun
  | [d] => { results := [.lit (.bool false)], args := [d] }
  | _ => none }
def FnExactReachedWrongFalsely : Prop := fnExactReachedRow.holds Tryz.pinned (OpenSpec.ofChange fnExactReachedWrong)

/-- 'laws.FnExactWords': WHATEVER THE INPUT: true; the input reads as it did. -/
def fnExactWordsSpec : ChangeSpec := { name := "fnExactWords", fn := fun _ => fun
  | [d] => { results := [.lit (.bool true)], args := [d] }
  | _ => none }
def fnExactWordsRow : OpenClaim := { program := "ytmckcnmlhgpnhaagreat", sum := "cd9dff49214e3d7ebc98b22beeb0c8eea77663576586feeaea6068c9e18ead10", func := "loop.example/g00101/laws.FnExactWords", spec := "fnExactWords", inPlace := ["internal/abi.NoEscape", "internal/bytealg.MakeNoZero"], unfollowed := true, recurses := true, apart := false }
def FnExactWordsSaid : Prop := fnExactWordsRow.holds Tryz.pinned (OpenSpec.ofChange fnExactWordsSpec)

/-- ITS FALSE NEIGHBOUR: 'it returns false'. Refute it at one input. -/
def fnExactWordsWrong : ChangeSpec := { name := "fnExactWords", fn := fun _ => fun
  | [d] => { results := [.lit (.bool false)], args := [d] }
  | _ => none }
def FnExactWordsWrongFalsely : Prop := fnExactWordsRow.holds Tryz.pinned (OpenSpec.ofChange fnExactWordsWrong)

/-- 'laws.FnExactImage': WHATEVER THE INPUT: true; the input reads as it did. -/
def fnExactImageSpec : ChangeSpec := { name := "fnExactImage", fn := fun _ => fun
  | [d] => { results := [.lit (.bool true)], args := [d] }
  | _ => none }
def fnExactImageRow : OpenClaim := { program := "ytmckcnmlhgpnhaagreat", sum := "cd9dff49214e3d7ebc98b22beeb0c8eea77663576586feeaea6068c9e18ead10", func := "loop.example/g00101/laws.FnExactImage", spec := "fnExactImage", inPlace := ["internal/abi.NoEscape", "internal/bytealg.MakeNoZero"], unfollowed := true, recurses := true, apart := false }
def FnExactImageSaid : Prop := fnExactImageRow.holds Tryz.pinned (OpenSpec.ofChange fnExactImageSpec)

/-- ITS FALSE NEIGHBOUR: 'it returns false'. Refute it at one input. -/
def fnExactImageWrong : ChangeSpec := { name := "fnExactImage", fn := fun _ => fun
  | [d] => { results := [.lit (.bool false)], args := [d] }
  | _ => none }
def FnExactImageWrongFalsely : Prop := fnExactImageRow.holds Tryz.pinned (OpenSpec.ofChange fnExactImageWrong)

/-- 'laws.FnExactRestore': WHATEVER THE INPUT: true; the input reads as it did. -/
def fnExactRestoreSpec : ChangeSpec := { name := "fnExactRestore", fn := fun _ => fun
  | [d] => { results := [.lit (.bool true)], args := [d] }
  | _ => none }
def fnExactRestoreRow : OpenClaim := { program := "ytmckcnmlhgpnhaagreat", sum := "cd9dff49214e3d7ebc98b22beeb0c8eea77663576586feeaea6068c9e18ead10", func := "loop.example/g00101/laws.FnExactRestore", spec := "fnExactRestore", inPlace := ["internal/abi.NoEscape", "internal/bytealg.MakeNoZero"], unfollowed := true, recurses := true, apart := false }
def FnExactRestoreSaid : Prop := fnExactRestoreRow.holds Tryz.pinned (OpenSpec.ofChange fnExactRestoreSpec)

/-- ITS FALSE NEIGHBOUR: 'it returns false'. Refute it at one input. -/
def fnExactRestoreWrong : ChangeSpec := { name := "fnExactRestore", fn := fun _ => fun
  | [d] => { results := [.lit (.bool false)], args := [d] }
  | _ => none }
def FnExactRestoreWrongFalsely : Prop := fnExactRestoreRow.holds Tryz.pinned (OpenSpec.ofChange fnExactRestoreWrong)

/-- 'laws.FnExactCensus': WHATEVER THE INPUT: true; the input reads as it did. -/
def fnExactCensusSpec : ChangeSpec := { name := "fnExactCensus", fn := fun _ => fun
  | [d] => { results := [.lit (.bool true)], args := [d] }
  | _ => none }
def fnExactCensusRow : OpenClaim := { program := "ytmckcnmlhgpnhaagreat", sum := "cd9dff49214e3d7ebc98b22beeb0c8eea77663576586feeaea6068c9e18ead10", func := "loop.example/g00101/laws.FnExactCensus", spec := "fnExactCensus", inPlace := ["internal/abi.NoEscape", "internal/bytealg.MakeNoZero"], unfollowed := true, recurses := true, apart := false }
def FnExactCensusSaid : Prop := fnExactCensusRow.holds Tryz.pinned (OpenSpec.ofChange fnExactCensusSpec)

/-- ITS FALSE NEIGHBOUR: 'it returns false'. Refute it at one input. -/
def fnExactCensusWrong : ChangeSpec := { name := "fnExactCensus", fn := fun _ => fun
  | [d] => { results := [.lit (.bool false)], args := [d] }
  | _ => none }
def FnExactCensusWrongFalsely : Prop := fnExactCensusRow.holds Tryz.pinned (OpenSpec.ofChange fnExactCensusWrong)

/-- 'laws.FnExactKin': WHATEVER THE INPUT: true; the input reads as it did. -/
def fnExactKinSpec : ChangeSpec := { name := "fnExactKin", fn := fun _ => fun
  | [d1, d2] => { results := [.lit (.bool true)], args := [d1, d2] }
  | _ => none }
def fnExactKinRow : OpenClaim := { program := "ytmckcnmlhgpnhaagreat", sum := "cd9dff49214e3d7ebc98b22beeb0c8eea77663576586feeaea6068c9e18ead10", func := "loop.example/g00101/laws.FnExactKin", spec := "fnExactKin", inPlace := ["internal/abi.NoEscape", "internal/bytealg.MakeNoZero"], unfollowed := true, recurses := true, apart := false }
def FnExactKinSaid : Prop := fnExactKinRow.holds Tryz.pinned (OpenSpec.ofChange fnExactKinSpec)

/-- ITS FALSE NEIGHBOUR: 'it returns false'. Refute it at one input. -/
def fnExactKinWrong : ChangeSpec := { name := "fnExactKin", fn := fun _ => fun
  | [d1, d2] => { results := [.lit (.bool false)], args := [d1, d2] }
  | _ => none }
def FnExactKinWrongFalsely : Prop := fnExactKinRow.holds Tryz.pinned (OpenSpec.ofChange fnExactKinWrong)

/-- 'laws.FnExactWay': WHATEVER THE INPUT: true; the input reads as it did. -/
def fnExactWaySpec : ChangeSpec := { name := "fnExactWay", fn := fun _ => fun
  | [d1, d2] => { results := [.lit (.bool true)], args := [d1, d2] }
  | _ => none }
def fnExactWayRow : OpenClaim := { program := "ytmckcnmlhgpnhaagreat", sum := "cd9dff49214e3d7ebc98b22beeb0c8eea77663576586feeaea6068c9e18ead10", func := "loop.example/g00101/laws.FnExactWay", spec := "fnExactWay", inPlace := ["internal/abi.NoEscape", "internal/bytealg.MakeNoZero"], unfollowed := true, recurses := true, apart := false }
def FnExactWaySaid : Prop := fnExactWayRow.holds Tryz.pinned (OpenSpec.ofChange fnExactWaySpec)

/-- ITS FALSE NEIGHBOUR: 'it returns false'. Refute it at one input. -/
def fnExactWayWrong : ChangeSpec := { name := "fnExactWay", fn := fun _ => fun
  | [d1, d2] => { results := [.lit (.bool false)], args := [d1, d2] }
  | _ => none }
def FnExactWayWrongFalsely : Prop := fnExactWayRow.holds Tryz.pinned (OpenSpec.ofChange fnExactWayWrong)

/- THE SECOND FORM. 'bulk': how many values and letters a reading holds, each counted each time it is reached (what is shared counts as often as it is met; a slice's spare places count too). A statement '..UptoSaid' is the law's where the arguments, and the package variables that the reading takes, are together of bulk at most 1048576: NARROWER than '..Said'. Prove '..Said' where nothing that the law and all that it calls make is longer than what came in: it says more and counts as full. Else prove '..UptoSaid'. A law counts once. -/
mutual
def uptoBulk {H : Type} : DataW H → Nat
  | .lit (.string bytes) => bytes.length + 1
  | .lit _ => 1
  | .nil => 1
  | .ptr d => uptoBulk d + 1
  | .slice elems spare => uptoBulkAll elems + uptoBulkAll spare + 1
  | .agg parts => uptoBulkAll parts + 1
  | .iface _ d => uptoBulk d + 1
  | .map entries => uptoBulkEntries entries + 1
  | .held _ => 1
def uptoBulkAll {H : Type} : List (DataW H) → Nat
  | [] => 0
  | d :: r => uptoBulk d + uptoBulkAll r
def uptoBulkEntries {H : Type} : List (Lit × DataW H) → Nat
  | [] => 0
  | x :: r => uptoBulkEntry x + uptoBulkEntries r
def uptoBulkEntry {H : Type} : Lit × DataW H → Nat
  | (.string bytes, d) => bytes.length + uptoBulk d + 1
  | (_, d) => uptoBulk d + 1
 end
def uptoSmall : (H : Type) → List (DataW H) → Bool := fun _ ds => decide (uptoBulkAll ds ≤ 1048576)
def OpenSpec.upto (s : _root_.Go.ChangeSpec) : _root_.Go.OpenSpec := { _root_.Go.OpenSpec.ofChange s with cond := some uptoSmall }

/-- 'laws.FnExactReached', WHERE WHAT IT READS IS OF BULK AT MOST 1048576: true; the input reads as it did. -/
def fnExactReachedUptoRow : OpenClaim := { program := "ytmckcnmlhgpnhaagreat", sum := "cd9dff49214e3d7ebc98b22beeb0c8eea77663576586feeaea6068c9e18ead10", func := "loop.example/g00101/laws.FnExactReached", spec := "fnExactReached", inPlace := ["internal/abi.NoEscape", "internal/bytealg.MakeNoZero"], unfollowed := true, recurses := true, apart := false, narrowed := true }
def FnExactReachedUptoSaid : Prop := fnExactReachedUptoRow.holds Tryz.pinned (OpenSpec.upto fnExactReachedSpec)

/-- 'laws.FnExactWords', WHERE WHAT IT READS IS OF BULK AT MOST 1048576: true; the input reads as it did. -/
def fnExactWordsUptoRow : OpenClaim := { program := "ytmckcnmlhgpnhaagreat", sum := "cd9dff49214e3d7ebc98b22beeb0c8eea77663576586feeaea6068c9e18ead10", func := "loop.example/g00101/laws.FnExactWords", spec := "fnExactWords", inPlace := ["internal/abi.NoEscape", "internal/bytealg.MakeNoZero"], unfollowed := true, recurses := true, apart := false, narrowed := true }
def FnExactWordsUptoSaid : Prop := fnExactWordsUptoRow.holds Tryz.pinned (OpenSpec.upto fnExactWordsSpec)

/-- 'laws.FnExactImage', WHERE WHAT IT READS IS OF BULK AT MOST 1048576: true; the input reads as it did. -/
def fnExactImageUptoRow : OpenClaim := { program := "ytmckcnmlhgpnhaagreat", sum := "cd9dff49214e3d7ebc98b22beeb0c8eea77663576586feeaea6068c9e18ead10", func := "loop.example/g00101/laws.FnExactImage", spec := "fnExactImage", inPlace := ["internal/abi.NoEscape", "internal/bytealg.MakeNoZero"], unfollowed := true, recurses := true, apart := false, narrowed := true }
def FnExactImageUptoSaid : Prop := fnExactImageUptoRow.holds Tryz.pinned (OpenSpec.upto fnExactImageSpec)

/-- 'laws.FnExactRestore', WHERE WHAT IT READS IS OF BULK AT MOST 1048576: true; the input reads as it did. -/
def fnExactRestoreUptoRow : OpenClaim := { program := "ytmckcnmlhgpnhaagreat", sum := "cd9dff49214e3d7ebc98b22beeb0c8eea77663576586feeaea6068c9e18ead10", func := "loop.example/g00101/laws.FnExactRestore", spec := "fnExactRestore", inPlace := ["internal/abi.NoEscape", "internal/bytealg.MakeNoZero"], unfollowed := true, recurses := true, apart := false, narrowed := true }
def FnExactRestoreUptoSaid : Prop := fnExactRestoreUptoRow.holds Tryz.pinned (OpenSpec.upto fnExactRestoreSpec)

/-- 'laws.FnExactCensus', WHERE WHAT IT READS IS OF BULK AT MOST 1048576: true; the input reads as it did. -/
def fnExactCensusUptoRow : OpenClaim := { program := "ytmckcnmlhgpnhaagreat", sum := "cd9dff49214e3d7ebc98b22beeb0c8eea77663576586feeaea6068c9e18ead10", func := "loop.example/g00101/laws.FnExactCensus", spec := "fnExactCensus", inPlace := ["internal/abi.NoEscape", "internal/bytealg.MakeNoZero"], unfollowed := true, recurses := true, apart := false, narrowed := true }
def FnExactCensusUptoSaid : Prop := fnExactCensusUptoRow.holds Tryz.pinned (OpenSpec.upto fnExactCensusSpec)

/-- 'laws.FnExactKin', WHERE WHAT IT READS IS OF BULK AT MOST 1048576: true; the input reads as it did. -/
def fnExactKinUptoRow : OpenClaim := { program := "ytmckcnmlhgpnhaagreat", sum := "cd9dff49214e3d7ebc98b22beeb0c8eea77663576586feeaea6068c9e18ead10", func := "loop.example/g00101/laws.FnExactKin", spec := "fnExactKin", inPlace := ["internal/abi.NoEscape", "internal/bytealg.MakeNoZero"], unfollowed := true, recurses := true, apart := false, narrowed := true }
def FnExactKinUptoSaid : Prop := fnExactKinUptoRow.holds Tryz.pinned (OpenSpec.upto fnExactKinSpec)

/-- 'laws.FnExactWay', WHERE WHAT IT READS IS OF BULK AT MOST 1048576: true; the input reads as it did. -/
def fnExactWayUptoRow : OpenClaim := { program := "ytmckcnmlhgpnhaagreat", sum := "cd9dff49214e3d7ebc98b22beeb0c8eea77663576586feeaea6068c9e18ead10", func := "loop.example/g00101/laws.FnExactWay", spec := "fnExactWay", inPlace := ["internal/abi.NoEscape", "internal/bytealg.MakeNoZero"], unfollowed := true, recurses := true, apart := false, narrowed := true }
def FnExactWayUptoSaid : Prop := fnExactWayUptoRow.holds Tryz.pinned (OpenSpec.upto fnExactWaySpec)

end Rows
end Go.Proofs.YtmckcnmlhgpnhaaGreat
