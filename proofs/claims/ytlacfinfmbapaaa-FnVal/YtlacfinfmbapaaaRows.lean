/-
  No cell of these rows narrows 'for every input' (looked for: loops, veiled, ifaces, maps, wideKeys, modest, calm, conditions, laid).
  DERIVED. THE GIVEN ROWS OF THIS SEAT. 10 by the template 'for every input the law returns true; each argument reads behind the call as it read before'; 0 by the template 'total and deterministic' (their statements: YtlacfinfmbapaaaTotals.lean).
  GIVEN WITH THE SEED: the statements are not yours to turn. If you find one false, say at which input.
  Laid BY PROGRAM, IN A SANDBOX (cutbox-rows.mjs): the forced cells as the released guide's own fill.sh prints them over the translation e1ffc54e9af6fa0f… (all of the seat's roots in one cut). By AI agents, Wed Nov 11 2026. No macro, syntax, notation, axiom, sorry.
-/
import Derived.Test.YtlacfinfmbapaaaChecked
import GoSem.Claim
import GoSem.ClaimJoined
import GoSem.ClaimMapViews
import Derived.JoinedTies
import Derived.KernelRfl
namespace Go.Proofs.Ytlacfinfmbapaaa
/- THE CELL 'sum', in the pinned program and in every row, IS THE sha256 OF THE DUMP (.gsa) THAT YtlacfinfmbapaaaProg.lean LOADS. Nothing in Lean hashes anything: it is a label: what it is worth is what the hold of that sum in a sandbox is worth. -/
noncomputable def Try.pinned : Pinned := { name := "ytlacfinfmbapaaa", sum := "e1ffc54e9af6fa0f74cda78d8a82d42dbcae897565e76ae34cc13a54f3abbcdb", checked := Try.checked }
namespace Rows
def none {H : Type} : Left H := { results := [], args := [] }

/-- 'laws.FnWord': WHATEVER THE INPUT: true; the input reads as it did. -/
def fnWordSpec : ChangeSpec := { name := "fnWord", fn := fun _ => fun
  | [d] => { results := [.lit (.bool true)], args := [d] }
  | _ => none }
def fnWordRow : OpenClaim := { program := "ytlacfinfmbapaaa", sum := "e1ffc54e9af6fa0f74cda78d8a82d42dbcae897565e76ae34cc13a54f3abbcdb", func := "loop.example/g00101/laws.FnWord", spec := "fnWord", apart := false }
def FnWordSaid : Prop := fnWordRow.holds Try.pinned (OpenSpec.ofChange fnWordSpec)

/-- ITS FALSE NEIGHBOUR: 'it returns false'. Refute it at one input. -/
def fnWordWrong : ChangeSpec := { name := "fnWord", fn := fun _ => fun
  | [d] => { results := [.lit (.bool false)], args := [d] }
  | _ => none }
def FnWordWrongFalsely : Prop := fnWordRow.holds Try.pinned (OpenSpec.ofChange fnWordWrong)

/-- 'laws.FnVal': WHATEVER THE INPUT: true; the input reads as it did. -/
def fnValSpec : ChangeSpec := { name := "fnVal", fn := fun _ => fun
  | [d] => { results := [.lit (.bool true)], args := [d] }
  | _ => none }
def fnValRow : OpenClaim := { program := "ytlacfinfmbapaaa", sum := "e1ffc54e9af6fa0f74cda78d8a82d42dbcae897565e76ae34cc13a54f3abbcdb", func := "loop.example/g00101/laws.FnVal", spec := "fnVal", apart := false }
def FnValSaid : Prop := fnValRow.holds Try.pinned (OpenSpec.ofChange fnValSpec)

/-- ITS FALSE NEIGHBOUR: 'it returns false'. Refute it at one input. -/
def fnValWrong : ChangeSpec := { name := "fnVal", fn := fun _ => fun
  | [d] => { results := [.lit (.bool false)], args := [d] }
  | _ => none }
def FnValWrongFalsely : Prop := fnValRow.holds Try.pinned (OpenSpec.ofChange fnValWrong)

/-- 'laws.FnExactHeadOk': WHATEVER THE INPUT: true; the input reads as it did. -/
def fnExactHeadOkSpec : ChangeSpec := { name := "fnExactHeadOk", fn := fun _ => fun
  | [d] => { results := [.lit (.bool true)], args := [d] }
  | _ => none }
def fnExactHeadOkRow : OpenClaim := { program := "ytlacfinfmbapaaa", sum := "e1ffc54e9af6fa0f74cda78d8a82d42dbcae897565e76ae34cc13a54f3abbcdb", func := "loop.example/g00101/laws.FnExactHeadOk", spec := "fnExactHeadOk", apart := false }
def FnExactHeadOkSaid : Prop := fnExactHeadOkRow.holds Try.pinned (OpenSpec.ofChange fnExactHeadOkSpec)

/-- ITS FALSE NEIGHBOUR: 'it returns false'. Refute it at one input. -/
def fnExactHeadOkWrong : ChangeSpec := { name := "fnExactHeadOk", fn := fun _ => fun
  | [d] => { results := [.lit (.bool false)], args := [d] }
  | _ => none }
def FnExactHeadOkWrongFalsely : Prop := fnExactHeadOkRow.holds Try.pinned (OpenSpec.ofChange fnExactHeadOkWrong)

/-- 'laws.FnExactPackHead': WHATEVER THE INPUT: true; the input reads as it did. -/
def fnExactPackHeadSpec : ChangeSpec := { name := "fnExactPackHead", fn := fun _ => fun
  | [d] => { results := [.lit (.bool true)], args := [d] }
  | _ => none }
def fnExactPackHeadRow : OpenClaim := { program := "ytlacfinfmbapaaa", sum := "e1ffc54e9af6fa0f74cda78d8a82d42dbcae897565e76ae34cc13a54f3abbcdb", func := "loop.example/g00101/laws.FnExactPackHead", spec := "fnExactPackHead", apart := false }
def FnExactPackHeadSaid : Prop := fnExactPackHeadRow.holds Try.pinned (OpenSpec.ofChange fnExactPackHeadSpec)

/-- ITS FALSE NEIGHBOUR: 'it returns false'. Refute it at one input. -/
def fnExactPackHeadWrong : ChangeSpec := { name := "fnExactPackHead", fn := fun _ => fun
  | [d] => { results := [.lit (.bool false)], args := [d] }
  | _ => none }
def FnExactPackHeadWrongFalsely : Prop := fnExactPackHeadRow.holds Try.pinned (OpenSpec.ofChange fnExactPackHeadWrong)

/-- 'laws.FnExactReadHead': WHATEVER THE INPUT: true; the input reads as it did. -/
def fnExactReadHeadSpec : ChangeSpec := { name := "fnExactReadHead", fn := fun _ => fun
  | [d] => { results := [.lit (.bool true)], args := [d] }
  | _ => none }
def fnExactReadHeadRow : OpenClaim := { program := "ytlacfinfmbapaaa", sum := "e1ffc54e9af6fa0f74cda78d8a82d42dbcae897565e76ae34cc13a54f3abbcdb", func := "loop.example/g00101/laws.FnExactReadHead", spec := "fnExactReadHead", apart := false }
def FnExactReadHeadSaid : Prop := fnExactReadHeadRow.holds Try.pinned (OpenSpec.ofChange fnExactReadHeadSpec)

/-- ITS FALSE NEIGHBOUR: 'it returns false'. Refute it at one input. -/
def fnExactReadHeadWrong : ChangeSpec := { name := "fnExactReadHead", fn := fun _ => fun
  | [d] => { results := [.lit (.bool false)], args := [d] }
  | _ => none }
def FnExactReadHeadWrongFalsely : Prop := fnExactReadHeadRow.holds Try.pinned (OpenSpec.ofChange fnExactReadHeadWrong)

/-- 'laws.FnExactForwarded': WHATEVER THE INPUT: true; the input reads as it did. -/
def fnExactForwardedSpec : ChangeSpec := { name := "fnExactForwarded", fn := fun _ => fun
  | [d] => { results := [.lit (.bool true)], args := [d] }
  | _ => none }
def fnExactForwardedRow : OpenClaim := { program := "ytlacfinfmbapaaa", sum := "e1ffc54e9af6fa0f74cda78d8a82d42dbcae897565e76ae34cc13a54f3abbcdb", func := "loop.example/g00101/laws.FnExactForwarded", spec := "fnExactForwarded", apart := false }
def FnExactForwardedSaid : Prop := fnExactForwardedRow.holds Try.pinned (OpenSpec.ofChange fnExactForwardedSpec)

/-- ITS FALSE NEIGHBOUR: 'it returns false'. Refute it at one input. -/
def fnExactForwardedWrong : ChangeSpec := { name := "fnExactForwarded", fn := fun _ => fun
  | [d] => { results := [.lit (.bool false)], args := [d] }
  | _ => none }
def FnExactForwardedWrongFalsely : Prop := fnExactForwardedRow.holds Try.pinned (OpenSpec.ofChange fnExactForwardedWrong)

/-- 'laws.FnExactValOk': WHATEVER THE INPUT: true; the input reads as it did. -/
def fnExactValOkSpec : ChangeSpec := { name := "fnExactValOk", fn := fun _ => fun
  | [d] => { results := [.lit (.bool true)], args := [d] }
  | _ => none }
def fnExactValOkRow : OpenClaim := { program := "ytlacfinfmbapaaa", sum := "e1ffc54e9af6fa0f74cda78d8a82d42dbcae897565e76ae34cc13a54f3abbcdb", func := "loop.example/g00101/laws.FnExactValOk", spec := "fnExactValOk", apart := false }
def FnExactValOkSaid : Prop := fnExactValOkRow.holds Try.pinned (OpenSpec.ofChange fnExactValOkSpec)

/-- ITS FALSE NEIGHBOUR: 'it returns false'. Refute it at one input. -/
def fnExactValOkWrong : ChangeSpec := { name := "fnExactValOk", fn := fun _ => fun
  | [d] => { results := [.lit (.bool false)], args := [d] }
  | _ => none }
def FnExactValOkWrongFalsely : Prop := fnExactValOkRow.holds Try.pinned (OpenSpec.ofChange fnExactValOkWrong)

/-- 'laws.FnExactIsRef': WHATEVER THE INPUT: true; the input reads as it did. -/
def fnExactIsRefSpec : ChangeSpec := { name := "fnExactIsRef", fn := fun _ => fun
  | [d] => { results := [.lit (.bool true)], args := [d] }
  | _ => none }
def fnExactIsRefRow : OpenClaim := { program := "ytlacfinfmbapaaa", sum := "e1ffc54e9af6fa0f74cda78d8a82d42dbcae897565e76ae34cc13a54f3abbcdb", func := "loop.example/g00101/laws.FnExactIsRef", spec := "fnExactIsRef", apart := false }
def FnExactIsRefSaid : Prop := fnExactIsRefRow.holds Try.pinned (OpenSpec.ofChange fnExactIsRefSpec)

/-- ITS FALSE NEIGHBOUR: 'it returns false'. Refute it at one input. -/
def fnExactIsRefWrong : ChangeSpec := { name := "fnExactIsRef", fn := fun _ => fun
  | [d] => { results := [.lit (.bool false)], args := [d] }
  | _ => none }
def FnExactIsRefWrongFalsely : Prop := fnExactIsRefRow.holds Try.pinned (OpenSpec.ofChange fnExactIsRefWrong)

/-- 'laws.FnExactPutVal': WHATEVER THE INPUT: true; the input reads as it did. -/
def fnExactPutValSpec : ChangeSpec := { name := "fnExactPutVal", fn := fun _ => fun
  | [d1, d2, d3] => { results := [.lit (.bool true)], args := [d1, d2, d3] }
  | _ => none }
def fnExactPutValRow : OpenClaim := { program := "ytlacfinfmbapaaa", sum := "e1ffc54e9af6fa0f74cda78d8a82d42dbcae897565e76ae34cc13a54f3abbcdb", func := "loop.example/g00101/laws.FnExactPutVal", spec := "fnExactPutVal", apart := false }
def FnExactPutValSaid : Prop := fnExactPutValRow.holds Try.pinned (OpenSpec.ofChange fnExactPutValSpec)

/-- ITS FALSE NEIGHBOUR: 'it returns false'. Refute it at one input. -/
def fnExactPutValWrong : ChangeSpec := { name := "fnExactPutVal", fn := fun _ => fun
  | [d1, d2, d3] => { results := [.lit (.bool false)], args := [d1, d2, d3] }
  | _ => none }
def FnExactPutValWrongFalsely : Prop := fnExactPutValRow.holds Try.pinned (OpenSpec.ofChange fnExactPutValWrong)

/-- 'laws.FnExactGetVal': WHATEVER THE INPUT: true; the input reads as it did. -/
def fnExactGetValSpec : ChangeSpec := { name := "fnExactGetVal", fn := fun _ => fun
  | [d1, d2] => { results := [.lit (.bool true)], args := [d1, d2] }
  | _ => none }
def fnExactGetValRow : OpenClaim := { program := "ytlacfinfmbapaaa", sum := "e1ffc54e9af6fa0f74cda78d8a82d42dbcae897565e76ae34cc13a54f3abbcdb", func := "loop.example/g00101/laws.FnExactGetVal", spec := "fnExactGetVal", apart := false }
def FnExactGetValSaid : Prop := fnExactGetValRow.holds Try.pinned (OpenSpec.ofChange fnExactGetValSpec)

/-- ITS FALSE NEIGHBOUR: 'it returns false'. Refute it at one input. -/
def fnExactGetValWrong : ChangeSpec := { name := "fnExactGetVal", fn := fun _ => fun
  | [d1, d2] => { results := [.lit (.bool false)], args := [d1, d2] }
  | _ => none }
def FnExactGetValWrongFalsely : Prop := fnExactGetValRow.holds Try.pinned (OpenSpec.ofChange fnExactGetValWrong)

/- THE SECOND FORM. 'bulk': how many values and letters a reading holds, each counted each time it is reached (what is shared counts as often as it is met; a slice's spare places count too). A statement '..UptoSaid' is the law's where the arguments, and the package variables that the reading takes, are together of bulk at most 1048576: NARROWER than '..Said'. Prove '..Said' where nothing that the law and all that it calls make is longer than what came in: it says more and counts as full. Else prove '..UptoSaid'. A law counts once. -/
mutual
def uptoBulk {H : Type} : DataW H → Nat
  | .lit (.string bytes) => bytes.length + 1
  | .lit _ => 1
  | .nil => 1
  | .ptr d => uptoBulk d + 1
  | .slice elems spare => uptoBulkAll elems + uptoBulkAll spare + 1
  | .agg parts => uptoBulkAll parts + 1
  | .iface _ d => uptoBulk d + 1
  | .map entries => uptoBulkEntries entries + 1
  | .held _ => 1
def uptoBulkAll {H : Type} : List (DataW H) → Nat
  | [] => 0
  | d :: r => uptoBulk d + uptoBulkAll r
def uptoBulkEntries {H : Type} : List (Lit × DataW H) → Nat
  | [] => 0
  | x :: r => uptoBulkEntry x + uptoBulkEntries r
def uptoBulkEntry {H : Type} : Lit × DataW H → Nat
  | (.string bytes, d) => bytes.length + uptoBulk d + 1
  | (_, d) => uptoBulk d + 1
 end
def uptoSmall : (H : Type) → List (DataW H) → Bool := fun _ ds => decide (uptoBulkAll ds ≤ 1048576)
def OpenSpec.upto (s : _root_.Go.ChangeSpec) : _root_.Go.OpenSpec := { _root_.Go.OpenSpec.ofChange s with cond := some uptoSmall }

/-- 'laws.FnWord', WHERE WHAT IT READS IS OF BULK AT MOST 1048576: true; the input reads as it did. -/
def fnWordUptoRow : OpenClaim := { program := "ytlacfinfmbapaaa", sum := "e1ffc54e9af6fa0f74cda78d8a82d42dbcae897565e76ae34cc13a54f3abbcdb", func := "loop.example/g00101/laws.FnWord", spec := "fnWord", apart := false, narrowed := true }
def FnWordUptoSaid : Prop := fnWordUptoRow.holds Try.pinned (OpenSpec.upto fnWordSpec)

/-- 'laws.FnVal', WHERE WHAT IT READS IS OF BULK AT MOST 1048576: true; the input reads as it did. -/
def fnValUptoRow : OpenClaim := { program := "ytlacfinfmbapaaa", sum := "e1ffc54e9af6fa0f74cda78d8a82d42dbcae897565e76ae34cc13a54f3abbcdb", func := "loop.example/g00101/laws.FnVal", spec := "fnVal", apart := false, narrowed := true }
def FnValUptoSaid : Prop := fnValUptoRow.holds Try.pinned (OpenSpec.upto fnValSpec)

/-- 'laws.FnExactHeadOk', WHERE WHAT IT READS IS OF BULK AT MOST 1048576: true; the input reads as it did. -/
def fnExactHeadOkUptoRow : OpenClaim := { program := "ytlacfinfmbapaaa", sum := "e1ffc54e9af6fa0f74cda78d8a82d42dbcae897565e76ae34cc13a54f3abbcdb", func := "loop.example/g00101/laws.FnExactHeadOk", spec := "fnExactHeadOk", apart := false, narrowed := true }
def FnExactHeadOkUptoSaid : Prop := fnExactHeadOkUptoRow.holds Try.pinned (OpenSpec.upto fnExactHeadOkSpec)

/-- 'laws.FnExactPackHead', WHERE WHAT IT READS IS OF BULK AT MOST 1048576: true; the input reads as it did. -/
def fnExactPackHeadUptoRow : OpenClaim := { program := "ytlacfinfmbapaaa", sum := "e1ffc54e9af6fa0f74cda78d8a82d42dbcae897565e76ae34cc13a54f3abbcdb", func := "loop.example/g00101/laws.FnExactPackHead", spec := "fnExactPackHead", apart := false, narrowed := true }
def FnExactPackHeadUptoSaid : Prop := fnExactPackHeadUptoRow.holds Try.pinned (OpenSpec.upto fnExactPackHeadSpec)

/-- 'laws.FnExactReadHead', WHERE WHAT IT READS IS OF BULK AT MOST 1048576: true; the input reads as it did. -/
def fnExactReadHeadUptoRow : OpenClaim := { program := "ytlacfinfmbapaaa", sum := "e1ffc54e9af6fa0f74cda78d8a82d42dbcae897565e76ae34cc13a54f3abbcdb", func := "loop.example/g00101/laws.FnExactReadHead", spec := "fnExactReadHead", apart := false, narrowed := true }
def FnExactReadHeadUptoSaid : Prop := fnExactReadHeadUptoRow.holds Try.pinned (OpenSpec.upto fnExactReadHeadSpec)

/-- 'laws.FnExactForwarded', WHERE WHAT IT READS IS OF BULK AT MOST 1048576: true; the input reads as it did. -/
def fnExactForwardedUptoRow : OpenClaim := { program := "ytlacfinfmbapaaa", sum := "e1ffc54e9af6fa0f74cda78d8a82d42dbcae897565e76ae34cc13a54f3abbcdb", func := "loop.example/g00101/laws.FnExactForwarded", spec := "fnExactForwarded", apart := false, narrowed := true }
def FnExactForwardedUptoSaid : Prop := fnExactForwardedUptoRow.holds Try.pinned (OpenSpec.upto fnExactForwardedSpec)

/-- 'laws.FnExactValOk', WHERE WHAT IT READS IS OF BULK AT MOST 1048576: true; the input reads as it did. -/
def fnExactValOkUptoRow : OpenClaim := { program := "ytlacfinfmbapaaa", sum := "e1ffc54e9af6fa0f74cda78d8a82d42dbcae897565e76ae34cc13a54f3abbcdb", func := "loop.example/g00101/laws.FnExactValOk", spec := "fnExactValOk", apart := false, narrowed := true }
def FnExactValOkUptoSaid : Prop := fnExactValOkUptoRow.holds Try.pinned (OpenSpec.upto fnExactValOkSpec)

/-- 'laws.FnExactIsRef', WHERE WHAT IT READS IS OF BULK AT MOST 1048576: true; the input reads as it did. -/
def fnExactIsRefUptoRow : OpenClaim := { program := "ytlacfinfmbapaaa", sum := "e1ffc54e9af6fa0f74cda78d8a82d42dbcae897565e76ae34cc13a54f3abbcdb", func := "loop.example/g00101/laws.FnExactIsRef", spec := "fnExactIsRef", apart := false, narrowed := true }
def FnExactIsRefUptoSaid : Prop := fnExactIsRefUptoRow.holds Try.pinned (OpenSpec.upto fnExactIsRefSpec)

/-- 'laws.FnExactPutVal', WHERE WHAT IT READS IS OF BULK AT MOST 1048576: true; the input reads as it did. -/
def fnExactPutValUptoRow : OpenClaim := { program := "ytlacfinfmbapaaa", sum := "e1ffc54e9af6fa0f74cda78d8a82d42dbcae897565e76ae34cc13a54f3abbcdb", func := "loop.example/g00101/laws.FnExactPutVal", spec := "fnExactPutVal", apart := false, narrowed := true }
def FnExactPutValUptoSaid : Prop := fnExactPutValUptoRow.holds Try.pinned (OpenSpec.upto fnExactPutValSpec)

/-- 'laws.FnExactGetVal', WHERE WHAT IT READS IS OF BULK AT MOST 1048576: true; the input reads as it did. -/
def fnExactGetValUptoRow : OpenClaim := { program := "ytlacfinfmbapaaa", sum := "e1ffc54e9af6fa0f74cda78d8a82d42dbcae897565e76ae34cc13a54f3abbcdb", func := "loop.example/g00101/laws.FnExactGetVal", spec := "fnExactGetVal", apart := false, narrowed := true }
def FnExactGetValUptoSaid : Prop := fnExactGetValUptoRow.holds Try.pinned (OpenSpec.upto fnExactGetValSpec)

end Rows
end Go.Proofs.Ytlacfinfmbapaaa
