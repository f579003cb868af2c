/- errors.As at a target of the type of refusals: Go's own text, walked. -/
import Derived.Test.YtibjellhafndiaaGreatDoorProg
import Derived.WalkKit
import Derived.LaidEql
import Derived.Stop.Asserts
import Derived.RowKitTokens
import Derived.Test.YtibjellhafndiaaGreatDoorSRowF
import Derived.Test.YtibjellhafndiaaGreatDoorSLawD
import Derived.Test.YtibjellhafndiaaGreatDoorSCpC
import Derived.Test.YtibjellhafndiaaGreatDoorSLookS
import Derived.Test.YtibjellhafndiaaGreatDoorSFinishL
import Derived.Test.YtibjellhafndiaaGreatDoorSAllA
import Derived.Deep.RegionHeld3
import Derived.Test.YtibjellhafndiaaGreatDoorSFnJ
import Derived.Test.YtibjellhafndiaaGreatDoorSMoveA
namespace Go.Proofs.YtibjellhafndiaaGreatDoor
set_option maxRecDepth 20000
open Go.RowKit Go.Extern.Stop Go.Stop Go.Extern
set_option linter.unusedSimpArgs false
set_option linter.unusedVariables false

theorem as_nil (t : Value) (w : World) : Calls Tryz.prog 86 #[.nilIface, t] w fun e w' => e = .returned (.bool false) ∧ w = w' := by
  go_enter Tryz.func86, Tryz.ntmps86
  go_wp2
  go_ret
  exact ⟨rfl, rfl⟩
theorem valueOfP (t : Addr) (w : World) : (ReflectliteValue.unpack (.iface 106 (.pointer (some t)))).run Tryz.prog w = .ok (.agg #[.pointer (some ⟨2, 106, none⟩), .pointer (some ⟨w.heap.size, 0, none⟩), .int .u64 150]) (w.alloc (.cells #[.pointer (some t)] 106)) := by kernel_rfl
theorem typeP (a : Addr) (w : World) : (ReflectliteValue.methodAny (ReflectliteValue.valueError "reflectlite.Value.Type" 0) (fun t _ _ _ => ReflectliteType.toType t) #[.agg #[.pointer (some ⟨2, 106, none⟩), .pointer (some a), .int .u64 150]]).run Tryz.prog w = .ok (.iface 147 (.agg #[.pointer (some ⟨2, 106, none⟩)])) w := by kernel_rfl
theorem methodKind (h : Value) (w : World) : (Go.method 348 147 (.agg #[h]) "Kind").run Tryz.prog w = .ok (245, h) w := by kernel_rfl
theorem kindP (w : World) : ((ReflectliteType.abiMethod fun t => (fun a : Nat => Value.int IntKind.u8 (a : Int)) <$> Rtype.kind t) #[.pointer (some ⟨2, 106, none⟩)]).run Tryz.prog w = .ok (.int .u8 22) w := by kernel_rfl
theorem kindF (w : World) : ((ReflectliteType.abiMethod fun t => (fun a : Nat => Value.int IntKind.u8 (a : Int)) <$> Rtype.kind t) #[.pointer (some ⟨2, 99, none⟩)]).run Tryz.prog w = .ok (.int .u8 25) w := by kernel_rfl
theorem rlm (z : Sem Value) (f : TypeId → Addr → Nat → Nat → Sem Value) (v : Value) :
    ReflectliteValue.method z f #[v] = (do match ← ReflectliteValue.parts v with | none => z | some (t, a, fl) => f t a fl (fl % 32)) := rfl
theorem partsP (a : Addr) (w : World) : (ReflectliteValue.parts (.agg #[.pointer (some ⟨2, 106, none⟩), .pointer (some a), .int .u64 150])).run Tryz.prog w = .ok (some (106, a, 150)) w := by kernel_rfl
theorem isNilP (a p : Addr) (W : World) (ha : W.cell? a = some (.pointer (some p))) :
    (ReflectliteValue.method (ReflectliteValue.valueError "reflectlite.Value.IsNil" 0) ReflectliteValue.isNil #[.agg #[.pointer (some ⟨2, 106, none⟩), .pointer (some a), .int .u64 150]]).run Tryz.prog W = .ok (.bool false) W := by
  rw [rlm]
  simp only [Sem.run_bind, partsP, Result.andThen]
  simp [ReflectliteValue.isNil, loadVar, isAgg, underlying, Tryz.underlying106, ha, Result.andThen]
theorem methodElem (h : Value) (w : World) : (Go.method 348 147 (.agg #[h]) "Elem").run Tryz.prog w = .ok (255, .agg #[h]) w := by kernel_rfl
theorem methodImplements (h : Value) (w : World) : (Go.method 348 147 (.agg #[h]) "Implements").run Tryz.prog w = .ok (256, .agg #[h]) w := by kernel_rfl
theorem methodAssignableTo (h : Value) (w : World) : (Go.method 348 147 (.agg #[h]) "AssignableTo").run Tryz.prog w = .ok (253, .agg #[h]) w := by kernel_rfl
theorem elemP (w : World) : (ReflectliteType.method ReflectliteType.elem #[.agg #[.pointer (some ⟨2, 106, none⟩)]]).run Tryz.prog w = .ok (.iface 147 (.agg #[.pointer (some ⟨2, 99, none⟩)])) w := by kernel_rfl
theorem implementsF (w : World) : (ReflectliteType.relation "Implements" ReflectliteType.implements_ #[.agg #[.pointer (some ⟨2, 99, none⟩)], .iface 147 (.agg #[.pointer (some ⟨2, 102, none⟩)])]).run Tryz.prog w = .ok (.bool true) w := by kernel_rfl
theorem typeOfF (v : Value) (w : World) : (ReflectliteType.typeOf #[.iface 99 v]).run Tryz.prog w = .ok (.iface 147 (.agg #[.pointer (some ⟨2, 99, none⟩)])) w := by kernel_rfl
theorem assignableF (w : World) : (ReflectliteType.relation "AssignableTo" ReflectliteType.assignableTo #[.agg #[.pointer (some ⟨2, 99, none⟩)], .iface 147 (.agg #[.pointer (some ⟨2, 99, none⟩)])]).run Tryz.prog w = .ok (.bool true) w := by kernel_rfl
theorem valueOfF (c : Int) (x : ByteArray) (w : World) : (ReflectliteValue.unpack (.iface 99 (.agg #[.int .i64 c, .string x]))).run Tryz.prog w = .ok (.agg #[.pointer (some ⟨2, 99, none⟩), .pointer (some ⟨w.heap.size, 0, none⟩), .int .u64 153]) (w.alloc (.cells #[.int .i64 c, .string x] 99)) := by kernel_rfl
theorem elemOfP (w : World) : (Rtype.elem? 106).run Tryz.prog w = .ok (some 99) w := by kernel_rfl
theorem mkF (p : Addr) (w : World) : (ReflectliteValue.mk 99 p ReflectliteValue.flagAddr).run Tryz.prog w = .ok (.agg #[.pointer (some ⟨2, 99, none⟩), .pointer (some p), .int .u64 409]) w := by kernel_rfl
theorem elemVP (a p : Addr) (W : World) (ha : W.cell? a = some (.pointer (some p))) :
    (ReflectliteValue.method (ReflectliteValue.valueError "reflectlite.Value.Elem" 0) ReflectliteValue.elem #[.agg #[.pointer (some ⟨2, 106, none⟩), .pointer (some a), .int .u64 150]]).run Tryz.prog W = .ok (.agg #[.pointer (some ⟨2, 99, none⟩), .pointer (some p), .int .u64 409]) W := by
  rw [rlm]
  simp only [Sem.run_bind, partsP, Result.andThen]
  simp [ReflectliteValue.elem, loadVar, isAgg, underlying, Tryz.underlying106, ha, Result.andThen, elemOfP, mkF]
theorem rls (v x : Value) : ReflectliteValue.set #[v, x] = (do
    let (some (dst, a, fl), some (src, b, _)) := (← ReflectliteValue.parts v, ← ReflectliteValue.parts x)
      | unsupported (.noEntry "extern/(internal/reflectlite.Value).Set.zeroValue")
    if fl / ReflectliteValue.flagAddr % 2 == 0 then unsupported (.noEntry "extern/(internal/reflectlite.Value).Set.unaddressable")
    let val ← loadVar src b
    if ← Rtype.directlyAssignable dst src then storeVar dst a val
    else if ← Rtype.implements dst src then
      if (← Rtype.kind src) == 20 then
        match val with
        | .nilIface => unsupported (.noEntry "extern/reflectlite: a nil value of one interface type handed on as a value of another")
        | _ => storeVar dst a val
      else storeVar dst a (.iface src val)
    else panicString ("reflectlite.Set: value of type " ++ (← Rtype.spelt src) ++ " is not assignable to type " ++ (← Rtype.spelt dst))
    pure (.tuple #[])) := rfl
theorem partsFa (a : Addr) (w : World) : (ReflectliteValue.parts (.agg #[.pointer (some ⟨2, 99, none⟩), .pointer (some a), .int .u64 409])).run Tryz.prog w = .ok (some (99, a, 409)) w := by kernel_rfl
theorem partsF (a : Addr) (w : World) : (ReflectliteValue.parts (.agg #[.pointer (some ⟨2, 99, none⟩), .pointer (some a), .int .u64 153])).run Tryz.prog w = .ok (some (99, a, 153)) w := by kernel_rfl
theorem directF (w : World) : (Rtype.directlyAssignable 99 99).run Tryz.prog w = .ok true w := by kernel_rfl
theorem setF (nb b : Nat) (c : Int) (x : ByteArray) (o0 o1 : Value) (W : World) (hb0 : W.cell? ⟨b, 0, none⟩ = some (.int .i64 c)) (hb1 : W.cell? ⟨b, 1, none⟩ = some (.string x)) (h0 : W.cell? ⟨nb, 0, none⟩ = some o0) (h1 : W.cell? ⟨nb, 1, none⟩ = some o1) (hf : ∀ i, W.frozen? ⟨nb, i, none⟩ = false) :
    (ReflectliteValue.set #[.agg #[.pointer (some ⟨2, 99, none⟩), .pointer (some ⟨nb, 0, none⟩), .int .u64 409], .agg #[.pointer (some ⟨2, 99, none⟩), .pointer (some ⟨b, 0, none⟩), .int .u64 153]]).run Tryz.prog W = .ok (.tuple #[]) ((W.setCell ⟨nb, 0, none⟩ (.int .i64 c)).setCell ⟨nb, 1, none⟩ (.string x)) := by
  rw [rls]
  simp only [Sem.run_bind, partsFa, partsF, Result.andThen]
  simp [ReflectliteValue.flagAddr, loadVar, isAgg, underlying, Tryz.underlying99, hb0, hb1, Result.andThen, directF, storeVar, Value.cells, storeCells, Addr.add]
  have hl : (loadCells ⟨b, 0, none⟩ 2).run Tryz.prog W = .ok #[.int .i64 c, .string x] W := run_loadCells_list (P := Tryz.prog) W ⟨b, 0, none⟩ [.int .i64 c, .string x] (fun j v hv => by
    match j with
    | 0 => simp at hv; subst hv; simpa [Addr.add] using hb0
    | 1 => simp at hv; subst hv; simpa [Addr.add] using hb1
    | j + 2 => simp at hv)
  rw [hl]
  simp [storeCells, Addr.add]
  rw [run_store Tryz.prog W ⟨nb, 0, none⟩ _ _ (by rfl)]
  simp [h0, hf 0, Result.andThen]
  rw [run_store Tryz.prog _ ⟨nb, 1, none⟩ _ _ (by rfl)]
  have h1' : (W.setCell ⟨nb, 0, none⟩ (.int .i64 c)).cell? ⟨nb, 1, none⟩ = some o1 := by rw [World.cell?_setCell_other _ _ _ _ (by simp)]; exact h1
  simp [h1', hf 0, hf 1, Result.andThen]
set_option maxHeartbeats 4000000 in
theorem as_hit (nb : Nat) (c : Int) (x : ByteArray) (o0 o1 : Value) (w : World) (hg : w.cell? ⟨0, 0, none⟩ = some (.iface 147 (.agg #[.pointer (some ⟨2, 102, none⟩)]))) (h0 : w.cell? ⟨nb, 0, none⟩ = some o0) (h1 : w.cell? ⟨nb, 1, none⟩ = some o1) (hf : ∀ i, w.frozen? ⟨nb, i, none⟩ = false) :
    Calls Tryz.prog 86 #[.iface 99 (.agg #[.int .i64 c, .string x]), .iface 106 (.pointer (some ⟨nb, 0, none⟩))] w fun ev w' => ev = .returned (.bool true) ∧ w' = (((((w.alloc (.cells #[.pointer (some ⟨nb, 0, none⟩)] 106)).alloc (.cells #[.pointer (some ⟨2, 106, none⟩), .pointer (some ⟨w.heap.size, 0, none⟩), .int .u64 150] 129)).alloc (.cells #[.pointer (some ⟨2, 106, none⟩), .pointer (some ⟨w.heap.size, 0, none⟩), .int .u64 150] 129)).alloc (.cells #[.int .i64 c, .string x] 99)).setCell ⟨nb, 0, none⟩ (.int .i64 c)).setCell ⟨nb, 1, none⟩ (.string x) := by
  have h6 := @run_callFunc_extern Tryz.prog 111 _ (fun args => ReflectliteValue.unpack (args.getD 0 (.tuple #[]))) Tryz.func111 (by kernel_rfl) (by kernel_rfl) (by kernel_rfl) (by kernel_rfl)
  have h7 := @run_callFunc_extern Tryz.prog 112 _ (ReflectliteValue.methodAny (ReflectliteValue.valueError "reflectlite.Value.Type" 0) (fun t _ _ _ => ReflectliteType.toType t)) Tryz.func112 (by kernel_rfl) (by kernel_rfl) (by kernel_rfl) (by kernel_rfl)
  have h8 := @run_callFunc_extern Tryz.prog 113 _ (ReflectliteValue.method (ReflectliteValue.valueError "reflectlite.Value.IsNil" 0) ReflectliteValue.isNil) Tryz.func113 (by kernel_rfl) (by kernel_rfl) (by kernel_rfl) (by kernel_rfl)
  have h27 := @run_callFunc_extern Tryz.prog 245 _ (ReflectliteType.abiMethod fun t => do pure (.int .u8 (← Rtype.kind t))) Tryz.func245 (by kernel_rfl) (by kernel_rfl) (by kernel_rfl) (by kernel_rfl)
  have h37 := @run_callFunc_extern Tryz.prog 255 _ (ReflectliteType.method ReflectliteType.elem) Tryz.func255 (by kernel_rfl) (by kernel_rfl) (by kernel_rfl) (by kernel_rfl)
  have h38 := @run_callFunc_extern Tryz.prog 256 _ (ReflectliteType.relation "Implements" ReflectliteType.implements_) Tryz.func256 (by kernel_rfl) (by kernel_rfl) (by kernel_rfl) (by kernel_rfl)
  have h10 := @run_callFunc_extern Tryz.prog 135 _ (ReflectliteType.typeOf) Tryz.func135 (by kernel_rfl) (by kernel_rfl) (by kernel_rfl) (by kernel_rfl)
  have h35 := @run_callFunc_extern Tryz.prog 253 _ (ReflectliteType.relation "AssignableTo" ReflectliteType.assignableTo) Tryz.func253 (by kernel_rfl) (by kernel_rfl) (by kernel_rfl) (by kernel_rfl)
  have h11 := @run_callFunc_extern Tryz.prog 136 _ (ReflectliteValue.method (ReflectliteValue.valueError "reflectlite.Value.Elem" 0) ReflectliteValue.elem) Tryz.func136 (by kernel_rfl) (by kernel_rfl) (by kernel_rfl) (by kernel_rfl)
  have h12 := @run_callFunc_extern Tryz.prog 137 _ (ReflectliteValue.set) Tryz.func137 (by kernel_rfl) (by kernel_rfl) (by kernel_rfl) (by kernel_rfl)
  have tO := typeOfF
  have mA := methodAssignableTo
  have a25 := assignableF
  have v25 := valueOfF
  have f6 := valueOfP
  have f7 := typeP
  have mK := methodKind
  have mE := methodElem
  have mI := methodImplements
  have k27 := kindP
  have k25 := kindF
  have e27 := elemP
  have i25 := implementsF
  have n8 := isNilP ⟨w.heap.size, 0, none⟩ ⟨nb, 0, none⟩ ((w.alloc (.cells #[.pointer (some ⟨nb, 0, none⟩)] 106)).alloc (.cells #[.pointer (some ⟨2, 106, none⟩), .pointer (some ⟨w.heap.size, 0, none⟩), .int .u64 150] 129)) (by simp)
  have hlt : 0 < w.heap.size := World.block_lt_of_cell? _ ⟨0, 0, none⟩ hg
  have htl : nb < w.heap.size := World.block_lt_of_cell? _ ⟨nb, 0, none⟩ h0
  have hg2 : ((w.alloc (.cells #[.pointer (some ⟨nb, 0, none⟩)] 106)).alloc (.cells #[.pointer (some ⟨2, 106, none⟩), .pointer (some ⟨w.heap.size, 0, none⟩), .int .u64 150] 129)).cell? ⟨0, 0, none⟩ = some (.iface 147 (.agg #[.pointer (some ⟨2, 102, none⟩)])) := by
    rw [World.cell?_alloc_lt _ _ ⟨0, 0, none⟩ (by simp), World.cell?_alloc_lt _ _ ⟨0, 0, none⟩ hlt]; exact hg
  have el := elemVP ⟨w.heap.size, 0, none⟩ ⟨nb, 0, none⟩ (((w.alloc (.cells #[.pointer (some ⟨nb, 0, none⟩)] 106)).alloc (.cells #[.pointer (some ⟨2, 106, none⟩), .pointer (some ⟨w.heap.size, 0, none⟩), .int .u64 150] 129)).alloc (.cells #[.pointer (some ⟨2, 106, none⟩), .pointer (some ⟨w.heap.size, 0, none⟩), .int .u64 150] 129)) (by rw [World.cell?_alloc_lt _ _ ⟨w.heap.size, 0, none⟩ (by simp; omega)]; simp)
  have up : ∀ i o, w.cell? ⟨nb, i, none⟩ = some o → ((((w.alloc (.cells #[.pointer (some ⟨nb, 0, none⟩)] 106)).alloc (.cells #[.pointer (some ⟨2, 106, none⟩), .pointer (some ⟨w.heap.size, 0, none⟩), .int .u64 150] 129)).alloc (.cells #[.pointer (some ⟨2, 106, none⟩), .pointer (some ⟨w.heap.size, 0, none⟩), .int .u64 150] 129)).alloc (.cells #[.int .i64 c, .string x] 99)).cell? ⟨nb, i, none⟩ = some o := fun i o h => by
    rw [World.cell?_alloc_lt _ _ ⟨nb, i, none⟩ (by simp; omega), World.cell?_alloc_lt _ _ ⟨nb, i, none⟩ (by simp; omega), World.cell?_alloc_lt _ _ ⟨nb, i, none⟩ (by simp; omega), World.cell?_alloc_lt _ _ ⟨nb, i, none⟩ htl]; exact h
  have st := setF nb (w.heap.size + 1 + 1 + 1) c x o0 o1 ((((w.alloc (.cells #[.pointer (some ⟨nb, 0, none⟩)] 106)).alloc (.cells #[.pointer (some ⟨2, 106, none⟩), .pointer (some ⟨w.heap.size, 0, none⟩), .int .u64 150] 129)).alloc (.cells #[.pointer (some ⟨2, 106, none⟩), .pointer (some ⟨w.heap.size, 0, none⟩), .int .u64 150] 129)).alloc (.cells #[.int .i64 c, .string x] 99)) (by rw [World.cell?_alloc_at _ _ _ _ (by simp)]; rfl) (by rw [World.cell?_alloc_at _ _ _ _ (by simp)]; rfl) (up 0 o0 h0) (up 1 o1 h1)
    (fun i => by rw [World.frozen?_alloc_old _ _ ⟨nb, i, none⟩ (by simp; omega), World.frozen?_alloc_old _ _ ⟨nb, i, none⟩ (by simp; omega), World.frozen?_alloc_old _ _ ⟨nb, i, none⟩ (by simp; omega), World.frozen?_alloc_old _ _ ⟨nb, i, none⟩ (Nat.ne_of_lt htl)]; exact hf i)
  clear up
  go_enter Tryz.func86, Tryz.ntmps86
  go_wp2
  refine wp_loop_rounds 1 ?_
  rw [rounds_succ]
  go_wp2
  go_ret
  exact ⟨rfl, rfl⟩
end Go.Proofs.YtibjellhafndiaaGreatDoor

/- The table of the doors, refusals, and Roots that are wanted. -/
namespace Go.Proofs.YtibjellhafndiaaGreatDoor
set_option maxRecDepth 20000
open Go.RowKit
set_option linter.unusedSimpArgs false
set_option linter.unusedVariables false

/-- The table of the doors of a visitor. -/
def doorsOf (vb : Nat) : Array Value := #[Value.func (Fn.func 115) #[.pointer (some ⟨vb, 0, none⟩)] #[], Value.func (Fn.func 116) #[.pointer (some ⟨vb, 0, none⟩)] #[], Value.func (Fn.func 117) #[.pointer (some ⟨vb, 0, none⟩)] #[], Value.func (Fn.func 118) #[.pointer (some ⟨vb, 0, none⟩)] #[], Value.func (Fn.func 119) #[.pointer (some ⟨vb, 0, none⟩)] #[], Value.func (Fn.func 120) #[.pointer (some ⟨vb, 0, none⟩)] #[], Value.func (Fn.func 121) #[.pointer (some ⟨vb, 0, none⟩)] #[], Value.func (Fn.func 122) #[.pointer (some ⟨vb, 0, none⟩)] #[], Value.func (Fn.func 123) #[.pointer (some ⟨vb, 0, none⟩)] #[], Value.func (Fn.func 124) #[.pointer (some ⟨vb, 0, none⟩)] #[]]
theorem doors_at (vb : Nat) (w : World) : Calls Tryz.prog 87 #[.pointer (some ⟨vb, 0, none⟩)] w fun e w' => e = .returned (.slice (some ⟨w.heap.size, 0, none⟩) 10 10) ∧ (∀ i, w'.cell? ⟨w.heap.size, i, none⟩ = (doorsOf vb)[i]?) ∧ Below w.heap.size w w' := by
  go_enter Tryz.func87, Tryz.ntmps87
  go_wp2
  go_ret
  exact ⟨rfl, fun i => by unfold doorsOf; simp [go_sem], (Below.refl _ _).alloc (Nat.le_refl _) _⟩
theorem bad_at (x : ByteArray) (w : World) : Calls Tryz.prog 140 #[.string x] w fun e w' => e = .returned (.iface 99 (.agg #[.int .i64 1, .string x])) ∧ w = w' := by
  go_enter Tryz.func140, Tryz.ntmps140
  go_wp2
  go_ret
  exact ⟨rfl, rfl⟩
/-- errors.As at a refusal. -/
theorem as_no (nb : Nat) (c : Int) (x : ByteArray) (o0 o1 : Value) (w : World) (hg : w.cell? ⟨0, 0, none⟩ = some (.iface 147 (.agg #[.pointer (some ⟨2, 102, none⟩)]))) (h0 : w.cell? ⟨nb, 0, none⟩ = some o0) (h1 : w.cell? ⟨nb, 1, none⟩ = some o1) (hf : ∀ i, w.frozen? ⟨nb, i, none⟩ = false) :
    Calls Tryz.prog 86 #[.iface 99 (.agg #[.int .i64 c, .string x]), .iface 106 (.pointer (some ⟨nb, 0, none⟩))] w fun ev w' => ev = .returned (.bool true) ∧ w'.cell? ⟨nb, 0, none⟩ = some (.int .i64 c) ∧ w'.cell? ⟨nb, 1, none⟩ = some (.string x) ∧ Kp [nb] w w' := by
  have hl : nb < w.heap.size := World.block_lt_of_cell? _ ⟨nb, 0, none⟩ h0
  refine (as_hit nb c x o0 o1 w hg h0 h1 hf).mono ?_
  rintro e w' ⟨rfl, rfl⟩
  have up : ∀ i o, w.cell? ⟨nb, i, none⟩ = some o → ∀ o1 o2 o3 o4, ((((w.alloc o1).alloc o2).alloc o3).alloc o4).cell? ⟨nb, i, none⟩ = some o := fun i o h o1 o2 o3 o4 => by
    rw [World.cell?_alloc_lt _ _ ⟨nb, i, none⟩ (by simp; omega), World.cell?_alloc_lt _ _ ⟨nb, i, none⟩ (by simp; omega), World.cell?_alloc_lt _ _ ⟨nb, i, none⟩ (by simp; omega), World.cell?_alloc_lt _ _ ⟨nb, i, none⟩ hl]; exact h
  refine ⟨rfl, ?_, ?_, ?_⟩
  · rw [World.cell?_setCell_other _ _ _ _ (by simp)]
    simp [go_sem, up 0 o0 h0]
  · have : ∀ W : World, (W.cell? ⟨nb, 1, none⟩).isSome = true → (W.setCell ⟨nb, 1, none⟩ (.string x)).cell? ⟨nb, 1, none⟩ = some (.string x) := fun W h => by simp [go_sem, h]
    refine this _ ?_
    rw [World.cell?_setCell_other _ _ _ _ (by simp), up 1 o1 h1]; rfl
  · exact ((((((Kp.refl [nb] w).alloc _).alloc _).alloc _).alloc _).setCell (p := ⟨nb, 0, none⟩) (.inl (by simp)) _).setCell (p := ⟨nb, 1, none⟩) (.inl (by simp)) _
/-- Roots that are wanted. -/
theorem wantRoots_at (aw : Option Addr) (cw : Nat) (ws : List Int) (semi toh top : Int) (cyc : Bool) (scan old copied serial : Int) (ar : Option Addr) (cr : Nat) (rs : List (Int × Int)) (vb ob lb n cl : Nat) (V : Array Value) (L : Nat → Int) (w : World) (hV0 : V[0]? = some (.pointer (some ⟨ob, 0, none⟩))) (hv : ∀ i, w.cell? ⟨vb, i, none⟩ = V[i]?) (lv : vb < w.heap.size) (ho : ∀ i, w.cell? ⟨ob, i, none⟩ = (#[.slice aw ws.length cw, .int .i64 semi, .int .i64 toh, .int .i64 top, .bool cyc, .int .i64 scan, .int .i64 old, .int .i64 copied, .int .i64 serial, .slice ar rs.length cr] : Array Value)[i]?) (lo : ob < w.heap.size) (hl : ∀ i, i < n → w.cell? ⟨lb, i, none⟩ = some (.int .i64 (L i))) (ll : lb < w.heap.size) (hn : n ≤ 64) (hn2 : rs.length ≤ 1048576) :
    Calls Tryz.prog 138 #[.pointer (some ⟨vb, 0, none⟩), .slice (some ⟨lb, 0, none⟩) n cl] w fun e w' => ((∀ i, i < n → hasR (L i) rs.length = true) ∧ e = .returned .nilIface ∨ (¬ ∀ i, i < n → hasR (L i) rs.length = true) ∧ ∃ x, e = .returned (.iface 99 (.agg #[.int .i64 1, .string x]))) ∧ Below w.heap.size w w' := by
  have hv0 : w.cell? ⟨vb, 0, none⟩ = some (.pointer (some ⟨ob, 0, none⟩)) := (hv 0).trans hV0
  have n1 : (n : Int) ≤ 64 := by omega
  have HL : Hid (∀ i, i < n → w.cell? ⟨lb, i, none⟩ = some (.int .i64 (L i))) := hl
  have HO : Hid (∀ i, w.cell? ⟨ob, i, none⟩ = (#[.slice aw ws.length cw, .int .i64 semi, .int .i64 toh, .int .i64 top, .bool cyc, .int .i64 scan, .int .i64 old, .int .i64 copied, .int .i64 serial, .slice ar rs.length cr] : Array Value)[i]?) := ho
  clear hv hV0 hl ho
  go_enter Tryz.func138, Tryz.ntmps138
  go_wp2
  go_loopw [9] (fun u9 wr => ∃ k : Nat, k ≤ n ∧ u9 = .int .i64 k ∧ Hid (∀ i, i < k → hasR (L i) rs.length = true) ∧ Below w.heap.size w wr) (fun u9 _ => n - (intOf u9).toNat)
  case atStart => exact ⟨0, Nat.zero_le _, rfl, fun i hi => absurd hi (Nat.not_lt_zero i), Below.refl _ _⟩
  case round =>
    obtain ⟨k, hk, rfl, HK, hB⟩ := hrel
    by_cases hlt : k < n
    · have hlt' : (k : Int) < (n : Int) := by omega
      have c1 : wr.cell? ⟨lb, k, none⟩ = some (.int .i64 (L k)) := by rw [hB.cell (p := ⟨lb, k, none⟩) ll]; exact HL.out k hlt
      have c2 : wr.cell? ⟨vb, 0, none⟩ = some (.pointer (some ⟨ob, 0, none⟩)) := by rw [hB.cell (p := ⟨vb, 0, none⟩) lv]; exact hv0
      have c3 := has_below HO.out hB lo
      cases hr : hasR (L k) rs.length with
      | true =>
        have HK' : Hid (∀ i, i < k + 1 → hasR (L i) rs.length = true) := fun i hi => by
          by_cases e : i = k
          · rw [e]; exact hr
          · exact HK.out i (by omega)
        go_wp2_with (go_at_call 177; refine (hasRoot_any _ _ _ _ _ _ _ _ _ _ _ _ _ _ _ _ hn2).mono ?_; rw [hr]; rintro e w2 ⟨rfl, b2⟩)
        exact ⟨⟨k + 1, hlt, by go_num, HK', below_next hB b2⟩, by simp [intOf]; omega⟩
      | false =>
        have HNO : Hid (¬ ∀ i, i < n → hasR (L i) rs.length = true) := fun g => by have := g k hlt; rw [hr] at this; simp at this
        go_wp2_with (first | (go_at_call 177; refine (hasRoot_any _ _ _ _ _ _ _ _ _ _ _ _ _ _ _ _ hn2).mono ?_; rw [hr]; rintro e w2 ⟨rfl, b2⟩) | (go_at_call 140; refine (bad_at _ _).mono ?_; rintro e w3 ⟨rfl, rfl⟩))
        go_ret
        exact ⟨.inr ⟨HNO.out, _, rfl⟩, below_next hB b2⟩
    · have hkn : k = n := by omega
      have HA : Hid (∀ i, i < n → hasR (L i) rs.length = true) := by rw [← hkn]; exact HK
      have hge : (n : Int) ≤ (k : Int) := by omega
      clear hkn
      go_wp2
      go_ret
      exact ⟨.inl ⟨HA.out, rfl⟩, hB⟩
end Go.Proofs.YtibjellhafndiaaGreatDoor

/- enter, by the contract of the door that is gone through. -/
namespace Go.Proofs.YtibjellhafndiaaGreatDoor
set_option maxRecDepth 20000
open Go.RowKit
set_option linter.unusedSimpArgs false
set_option linter.unusedVariables false

theorem ownR_kp {w w' : World} {ar : Option Addr} {br n : Nat} {y : Nat → Int} {X : List Nat} (h : OwnR w ar br n y) (k : Kp X w w') (hn : 0 < n → br ∉ X) : OwnR w' ar br n y := by
  rcases h with h | ⟨h, h'⟩
  · exact .inl h
  · by_cases hm : 0 < n
    · exact .inr ⟨h, Rw.kp h' k (hn hm)⟩
    · exact .inl (by omega)
theorem ownR_block {w w' : World} {ar : Option Addr} {br n : Nat} {y : Nat → Int} (h : OwnR w ar br n y) (k : 0 < n → w'.heap[br]? = w.heap[br]?) : OwnR w' ar br n y := by
  rcases h with h | ⟨h, h'⟩
  · exact .inl h
  · by_cases hm : 0 < n
    · exact .inr ⟨h, Rw.of_block h' (k hm)⟩
    · exact .inl (by omega)
theorem set_first {W : World} {K : Nat} {a0 u : Value} {L : List Value} (h : ∀ i, W.cell? ⟨K, i, none⟩ = (a0 :: L).toArray[i]?) : ∀ i, (W.setCell ⟨K, 0, none⟩ u).cell? ⟨K, i, none⟩ = (u :: L).toArray[i]? := fun i => by
  have p0 : (W.cell? ⟨K, 0, none⟩).isSome = true := by rw [h 0]; rfl
  match i with
  | 0 => simp [go_sem, p0]
  | i + 1 => rw [World.cell?_setCell_other _ _ _ _ (by simp), h]; simp
set_option maxHeartbeats 4000000 in
theorem enter_not (aw : Option Addr) (cw : Nat) (ws : List Int) (semi toh top : Int) (cyc : Bool) (scan old copied serial : Int) (ar : Option Addr) (cr : Nat) (rs : List (Int × Int)) (d : Nat) (fD : Nat) (vr vs vk vf vi vv vl vp : Int) (ca : Option Addr) (cl cc : Nat) (tx : ByteArray)  (y : Nat → Int) (Tr : Nat) (w : World) (hs : Sl w (.slice aw ws.length cw) ws) (hcw : ws.length ≤ cw) (hn : ws.length ≤ 1048576) (hw : Words64 ws) (hrt : SlF Tr w (.slice ar rs.length cr) rs.length (2 * rs.length) (fun i => .int .i64 (y i))) (hn2 : rs.length ≤ 1048576) (hok : ¬ ArOk ws semi toh top cyc scan old copied serial y rs.length) :
    Calls Tryz.prog 53 #[.agg #[.slice aw ws.length cw, .int .i64 semi, .int .i64 toh, .int .i64 top, .bool cyc, .int .i64 scan, .int .i64 old, .int .i64 copied, .int .i64 serial, .slice ar rs.length cr], .int .i64 (d : Int), .agg #[.pointer none, .int .i64 vr, .int .i64 vs, .int .i64 vk, .int .i64 vf, .int .i64 vi, .int .i64 vv, .int .i64 vl, .int .i64 vp, .slice ca cl cc, .string tx]] w fun e w' => ∃ vw vr', e = .returned (.tuple #[.agg #[vw, .int .i64 semi, .int .i64 toh, .int .i64 top, .bool cyc, .int .i64 scan, .int .i64 old, .int .i64 copied, .int .i64 serial, vr'], .int .i64 1]) ∧ OwnAr w.heap.size w'.heap.size w' vw vr' ws.length rs.length (wordAt ws) y ∧ Below w.heap.size w w' := by
  have HS : Hid (Sl w (.slice aw ws.length cw) ws) := hs
  have HR : Hid (SlF w.heap.size w (.slice ar rs.length cr) rs.length (2 * rs.length) (fun i => .int .i64 (y i))) := hrt.here
  have HQ : Hid (¬ ArOk ws semi toh top cyc scan old copied serial y rs.length) := hok
  clear hs hrt hok
  go_enter Tryz.func53, Tryz.ntmps53
  go_wp2_with fail
  have B0 : Below w.heap.size w (((w.alloc (.cells #[.slice aw ws.length cw, .int .i64 semi, .int .i64 toh, .int .i64 top, .bool cyc, .int .i64 scan, .int .i64 old, .int .i64 copied, .int .i64 serial, .slice ar rs.length cr] 29)).alloc (.cells #[.pointer none, .int .i64 vr, .int .i64 vs, .int .i64 vk, .int .i64 vf, .int .i64 vi, .int .i64 vv, .int .i64 vl, .int .i64 vp, .slice ca cl cc, .string tx] 73)).alloc (.cells #[.slice none 0 0, .int .i64 0, .int .i64 0, .int .i64 0, .bool false, .int .i64 0, .int .i64 0, .int .i64 0, .int .i64 0, .slice none 0 0] 29)) := (below_second (Below.refl _ _)).alloc (by simp; omega) _
  refine (clone_full _ _ _ _ _ _ _ _ _ _ _ _ _ _ y w.heap.size _ (HS.out.below B0) hn (HR.out.below B0 (Nat.le_refl _)) hn2).mono ?_
  rintro e w1 ⟨vw, vr1, rfl, ⟨a1, rfl⟩, o1, b1⟩
  simp only [World.size_alloc] at o1
  obtain ⟨a2, c2, rfl⟩ := o1.sl.2.head
  have B1 : Below w.heap.size w w1 := below_next B0 b1
  have l1 : w.heap.size + 2 < w1.heap.size := by have := b1.size; simp at this; omega
  have l0 : w.heap.size < w1.heap.size := by omega
  have l01 : w.heap.size + 1 < w1.heap.size := by omega
  have k1 : ∀ i, w1.cell? ⟨w.heap.size, i, none⟩ = (#[.slice aw ws.length cw, .int .i64 semi, .int .i64 toh, .int .i64 top, .bool cyc, .int .i64 scan, .int .i64 old, .int .i64 copied, .int .i64 serial, .slice ar rs.length cr] : Array Value)[i]? := fun i => by rw [b1.cell (p := ⟨w.heap.size, i, none⟩) (by simp <;> omega)]; simp [go_sem]
  have v1 : ∀ i, w1.cell? ⟨w.heap.size + 1, i, none⟩ = (#[.pointer none, .int .i64 vr, .int .i64 vs, .int .i64 vk, .int .i64 vf, .int .i64 vi, .int .i64 vv, .int .i64 vl, .int .i64 vp, .slice ca cl cc, .string tx] : Array Value)[i]? := fun i => by rw [b1.cell (p := ⟨w.heap.size + 1, i, none⟩) (by simp <;> omega)]; simp [go_sem]
  have f1 : ∀ i, w1.frozen? ⟨w.heap.size + 1, i, none⟩ = false := fun i => by rw [(bcell b1).2 _ _ (by simp <;> omega)]; simp [go_sem]
  have HZ1 : Hid (w1.rowIs (w.heap.size + 1 + 1) 29 10 (fun i => (#[.slice none 0 0, .int .i64 0, .int .i64 0, .int .i64 0, .bool false, .int .i64 0, .int .i64 0, .int .i64 0, .int .i64 0, .slice none 0 0] : Array Value).getD i (.bool false))) := ⟨#[.slice none 0 0, .int .i64 0, .int .i64 0, .int .i64 0, .bool false, .int .i64 0, .int .i64 0, .int .i64 0, .int .i64 0, .slice none 0 0], (b1.block _ (by simp)).trans (alloc_at (by simp)), rfl, fun i hi => by simp [Array.getD, hi]⟩
  clear b1 B0
  go_wp2_with fail
  refine (implArenaOk_at _ _ _ _ _ _ _ _ _ _ _ _ _ _ y w.heap.size _ (HS.out.below (below_box B1)) hcw hn hw (HR.out.below (below_box B1) (Nat.le_refl _)) hn2).mono ?_
  rintro e w2 ⟨q, rfl, hq, b2⟩
  obtain rfl : q = false := by
    cases q with
    | false => rfl
    | true => exact absurd (hq.1 rfl) HQ.out
  have b2f := below_first b2
  have p2 := one_cells b2 (by simp)
  have HP2 : Hid (w2.rowIs w1.heap.size 29 10 (fun i => (#[.slice a1 ws.length ws.length, .int .i64 semi, .int .i64 toh, .int .i64 top, .bool cyc, .int .i64 scan, .int .i64 old, .int .i64 copied, .int .i64 serial, .slice a2 rs.length c2] : Array Value).getD i (.bool false))) := box_row b2 (by simp) rfl
  have z2 : w1.heap.size < w2.heap.size := size_first b2
  have B2 := below_next B1 b2f
  have k2 := has_below k1 b2f (by omega)
  have v2 := has_below v1 b2f (by omega)
  have f2 : ∀ i, w2.frozen? ⟨w.heap.size + 1, i, none⟩ = false := fun i => by rw [(bcell b2f).2 _ _ (by omega)]; exact f1 i
  have o2 := o1.below b2f (by omega)
  have HZ2 : Hid (w2.rowIs (w.heap.size + 1 + 1) 29 10 (fun i => (#[.slice none 0 0, .int .i64 0, .int .i64 0, .int .i64 0, .bool false, .int .i64 0, .int .i64 0, .int .i64 0, .int .i64 0, .slice none 0 0] : Array Value).getD i (.bool false))) := World.rowIs.of_block HZ1.out (b2f.block _ (by omega))
  clear k1 v1 f1 b2 b2f o1 HZ1 hq B1
  obtain ⟨d0, d1, d2, d3, d4, d5, d6, d7, d8, d9⟩ := row10 HZ2.out rfl rfl rfl rfl rfl rfl rfl rfl rfl rfl
  simp at d0 d1 d2 d3 d4 d5 d6 d7 d8 d9
  have ef := World.rowIs.frozen HZ2.out
  have HO : Hid (OwnAr (w.heap.size + 1 + 1 + 1) w1.heap.size w2 (.slice a1 ws.length ws.length) (.slice a2 rs.length c2) ws.length rs.length (wordAt ws) y) := o2
  have HB : Hid (Below w.heap.size w w2) := B2
  clear o2 B2 HZ2 HP2
  go_wp2
  have q0 : (w2.cell? ⟨w.heap.size + 1 + 1, 0, none⟩).isSome = true := by rw [d0]; rfl
  have q1 : (w2.cell? ⟨w.heap.size + 1 + 1, 1, none⟩).isSome = true := by rw [d1]; rfl
  have q2 : (w2.cell? ⟨w.heap.size + 1 + 1, 2, none⟩).isSome = true := by rw [d2]; rfl
  have q3 : (w2.cell? ⟨w.heap.size + 1 + 1, 3, none⟩).isSome = true := by rw [d3]; rfl
  have q4 : (w2.cell? ⟨w.heap.size + 1 + 1, 4, none⟩).isSome = true := by rw [d4]; rfl
  have q5 : (w2.cell? ⟨w.heap.size + 1 + 1, 5, none⟩).isSome = true := by rw [d5]; rfl
  have q6 : (w2.cell? ⟨w.heap.size + 1 + 1, 6, none⟩).isSome = true := by rw [d6]; rfl
  have q7 : (w2.cell? ⟨w.heap.size + 1 + 1, 7, none⟩).isSome = true := by rw [d7]; rfl
  have q8 : (w2.cell? ⟨w.heap.size + 1 + 1, 8, none⟩).isSome = true := by rw [d8]; rfl
  have q9 : (w2.cell? ⟨w.heap.size + 1 + 1, 9, none⟩).isSome = true := by rw [d9]; rfl
  refine bodyPost_ret (v := .tuple #[.agg #[.slice a1 ws.length ws.length, .int .i64 semi, .int .i64 toh, .int .i64 top, .bool cyc, .int .i64 scan, .int .i64 old, .int .i64 copied, .int .i64 serial, .slice a2 rs.length c2], .int .i64 1]) (by simp [results, Tryz.results53, go_sem, q0, q1, q2, q3, q4, q5, q6, q7, q8, q9]) rfl ⟨_, _, rfl, ?_, ?_⟩
  · obtain ⟨u1, t1, u2, t2, h1, h2, h3, h4, h5, h6, h7⟩ := HO.out
    exact ⟨u1, t1, u2, t2, by omega, by simp; omega, by omega, by simp; omega, h5, own_ten h6 (by omega), own_ten h7 (by omega)⟩
  · exact below_ten HB.out (by omega)
end Go.Proofs.YtibjellhafndiaaGreatDoor

/- The door of SetCell. -/
namespace Go.Proofs.YtibjellhafndiaaGreatDoor
set_option maxRecDepth 20000
open Go.RowKit
set_option linter.unusedSimpArgs false
set_option linter.unusedVariables false

/-- Two words that a value is put into. -/
def putW (ws : List Int) (x : Nat) (t m : Int) : List Int := (ws.set x (IntKind.u64.wrap t)).set (x + 1) (IntKind.u64.wrap m)
theorem putW_len (ws : List Int) (x : Nat) (t m : Int) : (putW ws x t m).length = ws.length := by simp [putW]
theorem layVal_row (bw cw x : Nat) (ws : List Int) (a t m : Int) (w : World) (ha : a = x) (hW : RwW w bw ws) (hx : x + 1 < ws.length) (hn : ws.length ≤ 1048576) :
    Calls Tryz.prog 144 #[.slice (some ⟨bw, 0, none⟩) ws.length cw, .int .i64 a, .agg #[.int .i64 t, .int .i64 m]] w fun e w' => e = .returned (.tuple #[]) ∧ RwW w' bw (putW ws x t m) ∧ Kp [bw] w w' := by
  subst ha
  obtain ⟨M, g, hM, hr, hg⟩ := hW
  refine (layVal_any bw M cw x ws.length g t m w hr (by omega) (by omega) (by omega)).mono ?_
  rintro e w' ⟨rfl, rfl⟩
  have h2 : RwW ((w.setCell ⟨bw, x, none⟩ (.int .u64 (IntKind.u64.wrap t))).setCell ⟨bw, x + 1, none⟩ (.int .u64 (IntKind.u64.wrap m))) bw (putW ws x t m) := by
    have h1 := RwW.set (w := w) (b := bw) (ws := ws) ⟨M, g, hM, hr, hg⟩ (i := x) (IntKind.u64.wrap t) (by omega)
    exact RwW.set h1 (i := x + 1) (IntKind.u64.wrap m) (by simp; omega)
  exact ⟨rfl, Rw.below h2 ((Below.refl _ _).alloc (Nat.le_refl _) _), (((Kp.refl [bw] w).setCell (p := ⟨bw, x, none⟩) (.inl (by simp)) _).setCell (p := ⟨bw, x + 1, none⟩) (.inl (by simp)) _).alloc _⟩
theorem setCell_roots (bw cw : Nat) (ws : List Int) (semi toh top : Int) (cyc : Bool) (scan old copied serial : Int) (ar : Option Addr) (cr : Nat) (rs : List (Int × Int)) (br : Nat) (y : Nat → Int) (vb ob : Nat) (V : Array Value) (r f : Int) (w : World) (hV0 : V[0]? = some (.pointer (some ⟨ob, 0, none⟩))) (hv : ∀ i, w.cell? ⟨vb, i, none⟩ = V[i]?) (lv : vb < w.heap.size) (ho : ∀ i, w.cell? ⟨ob, i, none⟩ = (#[.slice (some ⟨bw, 0, none⟩) ws.length cw, .int .i64 semi, .int .i64 toh, .int .i64 top, .bool cyc, .int .i64 scan, .int .i64 old, .int .i64 copied, .int .i64 serial, .slice ar rs.length cr] : Array Value)[i]?) (lo : ob < w.heap.size) (hn2 : rs.length ≤ 1048576) (hV1 : V[1]? = some (.int .i64 r)) (hV4 : V[4]? = some (.int .i64 f)) (hr : ¬ (hasR r rs.length = true ∧ hasR f rs.length = true)) :
    Calls Tryz.prog 117 #[.pointer (some ⟨vb, 0, none⟩)] w fun e w' => (∃ x, e = .returned (.iface 99 (.agg #[.int .i64 1, .string x]))) ∧ Below w.heap.size w w' := by
  have h1 : w.cell? ⟨vb, 1, none⟩ = some (.int .i64 r) := (hv 1).trans hV1
  have h4 : w.cell? ⟨vb, 4, none⟩ = some (.int .i64 f) := (hv 4).trans hV4
  have KP : ∀ W, Below w.heap.size w W → (Below w.heap.size w W ∧ W.cell? ⟨vb, 1, none⟩ = some (.int .i64 r) ∧ W.cell? ⟨vb, 4, none⟩ = some (.int .i64 f)) := fun W hW => ⟨hW, by rw [hW.cell (p := ⟨vb, 1, none⟩) lv]; exact h1, by rw [hW.cell (p := ⟨vb, 4, none⟩) lv]; exact h4⟩
  have HV : Hid (∀ i, w.cell? ⟨vb, i, none⟩ = V[i]?) := hv
  have HO : Hid (∀ i, w.cell? ⟨ob, i, none⟩ = (#[.slice (some ⟨bw, 0, none⟩) ws.length cw, .int .i64 semi, .int .i64 toh, .int .i64 top, .bool cyc, .int .i64 scan, .int .i64 old, .int .i64 copied, .int .i64 serial, .slice ar rs.length cr] : Array Value)[i]?) := ho
  have HWR : Hid (∀ (W : World) (lb cl : Nat), Below w.heap.size w W → W.cell? ⟨lb, 0, none⟩ = some (.int .i64 r) → W.cell? ⟨lb, 1, none⟩ = some (.int .i64 f) → Calls Tryz.prog 138 #[.pointer (some ⟨vb, 0, none⟩), .slice (some ⟨lb, 0, none⟩) 2 cl] W fun e w' => (∃ x, e = .returned (.iface 99 (.agg #[.int .i64 1, .string x]))) ∧ Below w.heap.size w w') := fun W lb cl hW c0 c1 => by
    refine (wantRoots_at (some ⟨bw, 0, none⟩) cw ws semi toh top cyc scan old copied serial ar cr rs vb ob lb 2 cl V (fun i => if i = 0 then r else f) W hV0 (has_below HV.out hW lv) (Nat.lt_of_lt_of_le lv hW.size) (has_below HO.out hW lo) (Nat.lt_of_lt_of_le lo hW.size) (fun i hi => ?_) (World.block_lt_of_cell? _ ⟨lb, 0, none⟩ c0) (by omega) hn2).mono ?_
    · match i with
      | 0 => exact c0
      | 1 => exact c1
    · rintro e w' ⟨h | h, b⟩
      · exact absurd ⟨by simpa using h.1 0 (by omega), by simpa using h.1 1 (by omega)⟩ hr
      · exact ⟨h.2, below_next hW b⟩
  have b0' := (Below.refl w.heap.size w).drew
  clear hv ho hV0 h1 h4
  go_enter Tryz.func117, Tryz.ntmps117
  go_upto_region 1 with fail
  go_region_held3 (fun W => Below w.heap.size w W ∧ W.cell? ⟨vb, 1, none⟩ = some (.int .i64 r) ∧ W.cell? ⟨vb, 4, none⟩ = some (.int .i64 f)) (first | assumption | exact KP _ b0' | exact KP _ (by assumption) | exact KP _ (alloc_own (And.left (by assumption)) _)) (first | (go_at_call 138; refine (HWR.out _ _ _ (by first | exact alloc_own (And.left (by assumption)) _ | exact And.left (by assumption)) (by simp [go_sem]) (by simp [go_sem])).mono ?_; rintro e w2 ⟨⟨x, rfl⟩, b2⟩))
  all_goals
    go_wp2
    go_ret
    exact ⟨⟨_, rfl⟩, b2⟩
set_option maxHeartbeats 2000000 in
theorem setCell_tag (bw cw : Nat) (ws : List Int) (semi toh top : Int) (cyc : Bool) (scan old copied serial : Int) (ar : Option Addr) (cr : Nat) (rs : List (Int × Int)) (br : Nat) (y : Nat → Int) (vb ob : Nat) (V : Array Value) (w : World) (hV0 : V[0]? = some (.pointer (some ⟨ob, 0, none⟩))) (hv : ∀ i, w.cell? ⟨vb, i, none⟩ = V[i]?) (lv : vb < w.heap.size) (ho : ∀ i, w.cell? ⟨ob, i, none⟩ = (#[.slice (some ⟨bw, 0, none⟩) ws.length cw, .int .i64 semi, .int .i64 toh, .int .i64 top, .bool cyc, .int .i64 scan, .int .i64 old, .int .i64 copied, .int .i64 serial, .slice ar rs.length cr] : Array Value)[i]?) (lo : ob < w.heap.size) (hn2 : rs.length ≤ 1048576) (hR : OwnR w ar br rs.length y) (k j : Nat) (hk : k < rs.length) (hj : j < rs.length) (hV1 : V[1]? = some (.int .i64 (k : Int))) (hV4 : V[4]? = some (.int .i64 (j : Int))) (h9 : y (2 * k) ≠ 9) :
    Calls Tryz.prog 117 #[.pointer (some ⟨vb, 0, none⟩)] w fun e w' => (∃ x, e = .returned (.iface 99 (.agg #[.int .i64 1, .string x]))) ∧ Below w.heap.size w w' := by
  have HV : Hid (∀ i, w.cell? ⟨vb, i, none⟩ = V[i]?) := hv
  have HO : Hid (∀ i, w.cell? ⟨ob, i, none⟩ = (#[.slice (some ⟨bw, 0, none⟩) ws.length cw, .int .i64 semi, .int .i64 toh, .int .i64 top, .bool cyc, .int .i64 scan, .int .i64 old, .int .i64 copied, .int .i64 serial, .slice ar rs.length cr] : Array Value)[i]?) := ho
  obtain ⟨rfl, hR'⟩ : ar = some ⟨br, 0, none⟩ ∧ RwR w br rs.length y := by
    rcases hR with h | h
    · omega
    · exact h
  have lr := hR'.lt
  have q0 : w.cell? ⟨br, k * 2, none⟩ = some (.int .i64 (y (2 * k))) := by rw [Nat.mul_comm]; exact hR'.cell (by omega)
  have q1 : w.cell? ⟨br, k * 2 + 1, none⟩ = some (.int .i64 (y (2 * k + 1))) := by rw [Nat.mul_comm]; exact hR'.cell (by omega)
  have q2 : w.cell? ⟨br, j * 2, none⟩ = some (.int .i64 (y (2 * j))) := by rw [Nat.mul_comm]; exact hR'.cell (by omega)
  have q3 : w.cell? ⟨br, j * 2 + 1, none⟩ = some (.int .i64 (y (2 * j + 1))) := by rw [Nat.mul_comm]; exact hR'.cell (by omega)
  have h0 : w.cell? ⟨vb, 0, none⟩ = some (.pointer (some ⟨ob, 0, none⟩)) := (hv 0).trans hV0
  have h1 : w.cell? ⟨vb, 1, none⟩ = some (.int .i64 (k : Int)) := (hv 1).trans hV1
  have h4 : w.cell? ⟨vb, 4, none⟩ = some (.int .i64 (j : Int)) := (hv 4).trans hV4
  have o0 : w.cell? ⟨ob, 0, none⟩ = some (.slice (some ⟨bw, 0, none⟩) ws.length cw) := ho 0
  have o9 : w.cell? ⟨ob, 9, none⟩ = some (.slice (some ⟨br, 0, none⟩) rs.length cr) := ho 9
  have hk' : (k : Int) < (rs.length : Int) := by omega
  have hj' : (j : Int) < (rs.length : Int) := by omega
  have KC : ∀ W, Below w.heap.size w W → (Below w.heap.size w W ∧ W.cell? ⟨vb, 0, none⟩ = some (.pointer (some ⟨ob, 0, none⟩)) ∧ W.cell? ⟨vb, 1, none⟩ = some (.int .i64 (k : Int)) ∧ W.cell? ⟨vb, 4, none⟩ = some (.int .i64 (j : Int)) ∧ W.cell? ⟨ob, 0, none⟩ = some (.slice (some ⟨bw, 0, none⟩) ws.length cw) ∧ W.cell? ⟨ob, 9, none⟩ = some (.slice (some ⟨br, 0, none⟩) rs.length cr) ∧ W.cell? ⟨br, k * 2, none⟩ = some (.int .i64 (y (2 * k))) ∧ W.cell? ⟨br, k * 2 + 1, none⟩ = some (.int .i64 (y (2 * k + 1))) ∧ W.cell? ⟨br, j * 2, none⟩ = some (.int .i64 (y (2 * j))) ∧ W.cell? ⟨br, j * 2 + 1, none⟩ = some (.int .i64 (y (2 * j + 1)))) := fun W hW => ⟨hW, by rw [hW.cell (p := ⟨vb, 0, none⟩) lv]; exact h0, by rw [hW.cell (p := ⟨vb, 1, none⟩) lv]; exact h1, by rw [hW.cell (p := ⟨vb, 4, none⟩) lv]; exact h4, by rw [hW.cell (p := ⟨ob, 0, none⟩) lo]; exact o0, by rw [hW.cell (p := ⟨ob, 9, none⟩) lo]; exact o9, by rw [hW.cell (p := ⟨br, k * 2, none⟩) lr]; exact q0, by rw [hW.cell (p := ⟨br, k * 2 + 1, none⟩) lr]; exact q1, by rw [hW.cell (p := ⟨br, j * 2, none⟩) lr]; exact q2, by rw [hW.cell (p := ⟨br, j * 2 + 1, none⟩) lr]; exact q3⟩
  have HWR : Hid (∀ (W : World) (lb cl : Nat), Below w.heap.size w W → W.cell? ⟨lb, 0, none⟩ = some (.int .i64 (k : Int)) → W.cell? ⟨lb, 1, none⟩ = some (.int .i64 (j : Int)) → Calls Tryz.prog 138 #[.pointer (some ⟨vb, 0, none⟩), .slice (some ⟨lb, 0, none⟩) 2 cl] W fun e w' => e = .returned .nilIface ∧ Below w.heap.size w w') := fun W lb cl hW c0 c1 => by
    refine (wantRoots_at (some ⟨bw, 0, none⟩) cw ws semi toh top cyc scan old copied serial _ cr rs vb ob lb 2 cl V (fun i => if i = 0 then (k : Int) else (j : Int)) W hV0 (has_below HV.out hW lv) (Nat.lt_of_lt_of_le lv hW.size) (has_below HO.out hW lo) (Nat.lt_of_lt_of_le lo hW.size) (fun i hi => ?_) (World.block_lt_of_cell? _ ⟨lb, 0, none⟩ c0) (by omega) hn2).mono ?_
    · match i with
      | 0 => exact c0
      | 1 => exact c1
    · rintro e w' ⟨h | h, b⟩
      · exact ⟨h.2, below_next hW b⟩
      · refine absurd (fun i hi => ?_) h.1
        match i with
        | 0 => simp [hasR]; omega
        | 1 => simp [hasR]; omega
  have b0' := (Below.refl w.heap.size w).drew
  clear hv ho hV0 hR' hR h0 h1 h4 o0 o9 q0 q1 q2 q3
  obtain ⟨t, ht⟩ : ∃ t, t = y (2 * k) := ⟨_, rfl⟩
  obtain ⟨m, hm⟩ : ∃ m, m = y (2 * k + 1) := ⟨_, rfl⟩
  obtain ⟨t2, ht2⟩ : ∃ t, t = y (2 * j) := ⟨_, rfl⟩
  obtain ⟨m2, hm2⟩ : ∃ m, m = y (2 * j + 1) := ⟨_, rfl⟩
  rw [← ht, ← hm, ← ht2, ← hm2] at KC
  clear hV1 hV4
  rw [← ht] at h9
  have e9 : (t != 9) = true := by simpa using h9
  clear ht hm ht2 hm2 h9
  go_enter Tryz.func117, Tryz.ntmps117
  go_upto_region 1 with fail
  go_cut [3] from 5 to 15 (fun s3 wc => s3 = .nilIface ∧ Below w.heap.size w wc)
  case first =>
    go_region_held3 (fun W => (Below w.heap.size w W ∧ W.cell? ⟨vb, 0, none⟩ = some (.pointer (some ⟨ob, 0, none⟩)) ∧ W.cell? ⟨vb, 1, none⟩ = some (.int .i64 (k : Int)) ∧ W.cell? ⟨vb, 4, none⟩ = some (.int .i64 (j : Int)) ∧ W.cell? ⟨ob, 0, none⟩ = some (.slice (some ⟨bw, 0, none⟩) ws.length cw) ∧ W.cell? ⟨ob, 9, none⟩ = some (.slice (some ⟨br, 0, none⟩) rs.length cr) ∧ W.cell? ⟨br, k * 2, none⟩ = some (.int .i64 t) ∧ W.cell? ⟨br, k * 2 + 1, none⟩ = some (.int .i64 m) ∧ W.cell? ⟨br, j * 2, none⟩ = some (.int .i64 t2) ∧ W.cell? ⟨br, j * 2 + 1, none⟩ = some (.int .i64 m2))) (first | assumption | exact KC _ b0' | exact KC _ (by assumption) | exact KC _ (alloc_own (And.left (by assumption)) _)) (first | (go_at_call 138; refine (HWR.out _ _ _ (by first | exact alloc_own (And.left (by assumption)) _ | exact And.left (by assumption)) (by simp [go_sem]) (by simp [go_sem])).mono ?_; rintro e w2 ⟨rfl, b2⟩))
    all_goals
      go_wp2_with fail
      go_meet
      exact ⟨rfl, b2⟩
  case rest =>
    obtain ⟨rfl, hBc⟩ := hcut
    have KD := KC _ hBc
    obtain ⟨_, c0, c1, c4, a0, a9, q0, q1, q2, q3⟩ := KD
    have lvc : vb < wc.heap.size := Nat.lt_of_lt_of_le lv hBc.size
    have loc : ob < wc.heap.size := Nat.lt_of_lt_of_le lo hBc.size
    have lrc : br < wc.heap.size := Nat.lt_of_lt_of_le lr hBc.size
    go_upto_region 4 with fail
    go_region
    all_goals
      go_wp2_with (go_at_call 140; refine (bad_at _ _).mono ?_; rintro e w3 ⟨rfl, rfl⟩)
      go_ret
      exact ⟨⟨_, rfl⟩, (alloc_own hBc _).drew⟩
set_option maxHeartbeats 2000000 in
theorem setCell_ok (bw cw : Nat) (ws : List Int) (semi toh top : Int) (cyc : Bool) (scan old copied serial : Int) (ar : Option Addr) (cr : Nat) (rs : List (Int × Int)) (br : Nat) (y : Nat → Int) (vb ob : Nat) (V : Array Value) (w : World) (hV0 : V[0]? = some (.pointer (some ⟨ob, 0, none⟩))) (hv : ∀ i, w.cell? ⟨vb, i, none⟩ = V[i]?) (lv : vb < w.heap.size) (ho : ∀ i, w.cell? ⟨ob, i, none⟩ = (#[.slice (some ⟨bw, 0, none⟩) ws.length cw, .int .i64 semi, .int .i64 toh, .int .i64 top, .bool cyc, .int .i64 scan, .int .i64 old, .int .i64 copied, .int .i64 serial, .slice ar rs.length cr] : Array Value)[i]?) (lo : ob < w.heap.size) (hn2 : rs.length ≤ 1048576) (hR : OwnR w ar br rs.length y) (k j : Nat) (hk : k < rs.length) (hj : j < rs.length) (hV1 : V[1]? = some (.int .i64 (k : Int))) (hV4 : V[4]? = some (.int .i64 (j : Int))) (h9 : y (2 * k) = 9) (p : Nat) (hp : y (2 * k + 1) = (p : Int)) (hp2 : p + 2 < ws.length) (hn : ws.length ≤ 1048576) (hW : RwW w bw ws) (hvw : vb ≠ bw) (how : ob ≠ bw) (hrw : br ≠ bw) :
    Calls Tryz.prog 117 #[.pointer (some ⟨vb, 0, none⟩)] w fun e w' => e = .returned .nilIface ∧ RwW w' bw (putW ws (p + 1) (y (2 * j)) (y (2 * j + 1))) ∧ Kp [bw] w w' := by
  have HW : Hid (RwW w bw ws) := hW
  clear hW
  have HV : Hid (∀ i, w.cell? ⟨vb, i, none⟩ = V[i]?) := hv
  have HO : Hid (∀ i, w.cell? ⟨ob, i, none⟩ = (#[.slice (some ⟨bw, 0, none⟩) ws.length cw, .int .i64 semi, .int .i64 toh, .int .i64 top, .bool cyc, .int .i64 scan, .int .i64 old, .int .i64 copied, .int .i64 serial, .slice ar rs.length cr] : Array Value)[i]?) := ho
  obtain ⟨rfl, hR'⟩ : ar = some ⟨br, 0, none⟩ ∧ RwR w br rs.length y := by
    rcases hR with h | h
    · omega
    · exact h
  have lr := hR'.lt
  have q0 : w.cell? ⟨br, k * 2, none⟩ = some (.int .i64 (y (2 * k))) := by rw [Nat.mul_comm]; exact hR'.cell (by omega)
  have q1 : w.cell? ⟨br, k * 2 + 1, none⟩ = some (.int .i64 (y (2 * k + 1))) := by rw [Nat.mul_comm]; exact hR'.cell (by omega)
  have q2 : w.cell? ⟨br, j * 2, none⟩ = some (.int .i64 (y (2 * j))) := by rw [Nat.mul_comm]; exact hR'.cell (by omega)
  have q3 : w.cell? ⟨br, j * 2 + 1, none⟩ = some (.int .i64 (y (2 * j + 1))) := by rw [Nat.mul_comm]; exact hR'.cell (by omega)
  have h0 : w.cell? ⟨vb, 0, none⟩ = some (.pointer (some ⟨ob, 0, none⟩)) := (hv 0).trans hV0
  have h1 : w.cell? ⟨vb, 1, none⟩ = some (.int .i64 (k : Int)) := (hv 1).trans hV1
  have h4 : w.cell? ⟨vb, 4, none⟩ = some (.int .i64 (j : Int)) := (hv 4).trans hV4
  have o0 : w.cell? ⟨ob, 0, none⟩ = some (.slice (some ⟨bw, 0, none⟩) ws.length cw) := ho 0
  have o9 : w.cell? ⟨ob, 9, none⟩ = some (.slice (some ⟨br, 0, none⟩) rs.length cr) := ho 9
  have hk' : (k : Int) < (rs.length : Int) := by omega
  have hj' : (j : Int) < (rs.length : Int) := by omega
  have KC : ∀ W, Below w.heap.size w W → (Below w.heap.size w W ∧ W.cell? ⟨vb, 0, none⟩ = some (.pointer (some ⟨ob, 0, none⟩)) ∧ W.cell? ⟨vb, 1, none⟩ = some (.int .i64 (k : Int)) ∧ W.cell? ⟨vb, 4, none⟩ = some (.int .i64 (j : Int)) ∧ W.cell? ⟨ob, 0, none⟩ = some (.slice (some ⟨bw, 0, none⟩) ws.length cw) ∧ W.cell? ⟨ob, 9, none⟩ = some (.slice (some ⟨br, 0, none⟩) rs.length cr) ∧ W.cell? ⟨br, k * 2, none⟩ = some (.int .i64 (y (2 * k))) ∧ W.cell? ⟨br, k * 2 + 1, none⟩ = some (.int .i64 (y (2 * k + 1))) ∧ W.cell? ⟨br, j * 2, none⟩ = some (.int .i64 (y (2 * j))) ∧ W.cell? ⟨br, j * 2 + 1, none⟩ = some (.int .i64 (y (2 * j + 1)))) := fun W hW => ⟨hW, by rw [hW.cell (p := ⟨vb, 0, none⟩) lv]; exact h0, by rw [hW.cell (p := ⟨vb, 1, none⟩) lv]; exact h1, by rw [hW.cell (p := ⟨vb, 4, none⟩) lv]; exact h4, by rw [hW.cell (p := ⟨ob, 0, none⟩) lo]; exact o0, by rw [hW.cell (p := ⟨ob, 9, none⟩) lo]; exact o9, by rw [hW.cell (p := ⟨br, k * 2, none⟩) lr]; exact q0, by rw [hW.cell (p := ⟨br, k * 2 + 1, none⟩) lr]; exact q1, by rw [hW.cell (p := ⟨br, j * 2, none⟩) lr]; exact q2, by rw [hW.cell (p := ⟨br, j * 2 + 1, none⟩) lr]; exact q3⟩
  have HWR : Hid (∀ (W : World) (lb cl : Nat), Below w.heap.size w W → W.cell? ⟨lb, 0, none⟩ = some (.int .i64 (k : Int)) → W.cell? ⟨lb, 1, none⟩ = some (.int .i64 (j : Int)) → Calls Tryz.prog 138 #[.pointer (some ⟨vb, 0, none⟩), .slice (some ⟨lb, 0, none⟩) 2 cl] W fun e w' => e = .returned .nilIface ∧ Below w.heap.size w w') := fun W lb cl hW c0 c1 => by
    refine (wantRoots_at (some ⟨bw, 0, none⟩) cw ws semi toh top cyc scan old copied serial _ cr rs vb ob lb 2 cl V (fun i => if i = 0 then (k : Int) else (j : Int)) W hV0 (has_below HV.out hW lv) (Nat.lt_of_lt_of_le lv hW.size) (has_below HO.out hW lo) (Nat.lt_of_lt_of_le lo hW.size) (fun i hi => ?_) (World.block_lt_of_cell? _ ⟨lb, 0, none⟩ c0) (by omega) hn2).mono ?_
    · match i with
      | 0 => exact c0
      | 1 => exact c1
    · rintro e w' ⟨h | h, b⟩
      · exact ⟨h.2, below_next hW b⟩
      · refine absurd (fun i hi => ?_) h.1
        match i with
        | 0 => simp [hasR]; omega
        | 1 => simp [hasR]; omega
  have b0' := (Below.refl w.heap.size w).drew
  clear hv ho hV0 hR' hR h0 h1 h4 o0 o9 q0 q1 q2 q3
  obtain ⟨t, ht⟩ : ∃ t, t = y (2 * k) := ⟨_, rfl⟩
  obtain ⟨m, hm⟩ : ∃ m, m = y (2 * k + 1) := ⟨_, rfl⟩
  obtain ⟨t2, ht2⟩ : ∃ t, t = y (2 * j) := ⟨_, rfl⟩
  obtain ⟨m2, hm2⟩ : ∃ m, m = y (2 * j + 1) := ⟨_, rfl⟩
  rw [← ht, ← hm, ← ht2, ← hm2] at KC
  clear hV1 hV4
  rw [← ht] at h9
  rw [← hm] at hp
  rw [← ht2, ← hm2]
  subst h9 hp
  have HLV : Hid (∀ (W : World) (a : Int), a = ((p + 1 : Nat) : Int) → Below w.heap.size w W → Calls Tryz.prog 144 #[.slice (some ⟨bw, 0, none⟩) ws.length cw, .int .i64 a, .agg #[.int .i64 t2, .int .i64 m2]] W fun e w' => e = .returned (.tuple #[]) ∧ RwW w' bw (putW ws (p + 1) t2 m2) ∧ Kp [bw] w w') := fun W a ha hB => (layVal_row bw cw (p + 1) ws a t2 m2 W ha (Rw.of_block HW.out (hB.block _ HW.out.lt)) (by omega) hn).mono (fun e w' ⟨h1, h2, h3⟩ => ⟨h1, h2, (Kp.of_below hB).trans h3⟩)
  have HPW : Hid (IntKind.i64.wrap ((p : Int) + 1) = ((p + 1 : Nat) : Int)) := by show _ = _; rw [IntKind.wrap_i64]; omega
  clear ht hm ht2 hm2
  go_enter Tryz.func117, Tryz.ntmps117
  go_upto_region 1 with fail
  go_cut [3] from 5 to 15 (fun s3 wc => s3 = .nilIface ∧ Below w.heap.size w wc)
  case first =>
    go_region_held3 (fun W => (Below w.heap.size w W ∧ W.cell? ⟨vb, 0, none⟩ = some (.pointer (some ⟨ob, 0, none⟩)) ∧ W.cell? ⟨vb, 1, none⟩ = some (.int .i64 (k : Int)) ∧ W.cell? ⟨vb, 4, none⟩ = some (.int .i64 (j : Int)) ∧ W.cell? ⟨ob, 0, none⟩ = some (.slice (some ⟨bw, 0, none⟩) ws.length cw) ∧ W.cell? ⟨ob, 9, none⟩ = some (.slice (some ⟨br, 0, none⟩) rs.length cr) ∧ W.cell? ⟨br, k * 2, none⟩ = some (.int .i64 9) ∧ W.cell? ⟨br, k * 2 + 1, none⟩ = some (.int .i64 (p : Int)) ∧ W.cell? ⟨br, j * 2, none⟩ = some (.int .i64 t2) ∧ W.cell? ⟨br, j * 2 + 1, none⟩ = some (.int .i64 m2))) (first | assumption | exact KC _ b0' | exact KC _ (by assumption) | exact KC _ (alloc_own (And.left (by assumption)) _)) (first | (go_at_call 138; refine (HWR.out _ _ _ (by first | exact alloc_own (And.left (by assumption)) _ | exact And.left (by assumption)) (by simp [go_sem]) (by simp [go_sem])).mono ?_; rintro e w2 ⟨rfl, b2⟩))
    all_goals
      go_wp2_with fail
      go_meet
      exact ⟨rfl, b2⟩
  case rest =>
    obtain ⟨rfl, hBc⟩ := hcut
    have KD := KC _ hBc
    obtain ⟨_, c0, c1, c4, a0, a9, q0, q1, q2, q3⟩ := KD
    have lvc : vb < wc.heap.size := Nat.lt_of_lt_of_le lv hBc.size
    have loc : ob < wc.heap.size := Nat.lt_of_lt_of_le lo hBc.size
    have lrc : br < wc.heap.size := Nat.lt_of_lt_of_le lr hBc.size
    go_upto_region 4 with fail
    go_region
    go_upto_region 7 with fail
    have hB5 : Below w.heap.size w (wc.alloc (.cells #[.int .i64 9, .int .i64 (p : Int)] 60)).drew := (alloc_own hBc _).drew
    obtain ⟨w5, hw5⟩ : ∃ V, V = (wc.alloc (.cells #[.int .i64 9, .int .i64 (p : Int)] 60)).drew := ⟨_, rfl⟩
    have cb : w5.cell? ⟨wc.heap.size, 1, none⟩ = some (.int .i64 (p : Int)) := by rw [hw5]; simp [go_sem]
    have lb5 : wc.heap.size < w5.heap.size := by rw [hw5]; simp
    rw [← hw5] at hB5 ⊢
    obtain ⟨_, e0, e1, e4, f0, f9, g0, g1, g2, g3⟩ := KC w5 hB5
    have z5 := hB5.size
    have KP : ∀ W, Kp [bw] w5 W → (Kp [bw] w5 W ∧ (W.cell? ⟨vb, 0, none⟩ = some (.pointer (some ⟨ob, 0, none⟩)) ∧ W.cell? ⟨vb, 1, none⟩ = some (.int .i64 (k : Int)) ∧ W.cell? ⟨vb, 4, none⟩ = some (.int .i64 (j : Int)) ∧ W.cell? ⟨ob, 0, none⟩ = some (.slice (some ⟨bw, 0, none⟩) ws.length cw) ∧ W.cell? ⟨ob, 9, none⟩ = some (.slice (some ⟨br, 0, none⟩) rs.length cr) ∧ W.cell? ⟨br, k * 2, none⟩ = some (.int .i64 9) ∧ W.cell? ⟨br, k * 2 + 1, none⟩ = some (.int .i64 (p : Int)) ∧ W.cell? ⟨br, j * 2, none⟩ = some (.int .i64 t2) ∧ W.cell? ⟨br, j * 2 + 1, none⟩ = some (.int .i64 m2)) ∧ W.cell? ⟨wc.heap.size, 1, none⟩ = some (.int .i64 (p : Int))) := fun W hW => ⟨hW, ⟨by rw [hW.cell (p := ⟨vb, 0, none⟩) (show vb < w5.heap.size by omega) (by simp [hvw])]; exact e0, by rw [hW.cell (p := ⟨vb, 1, none⟩) (show vb < w5.heap.size by omega) (by simp [hvw])]; exact e1, by rw [hW.cell (p := ⟨vb, 4, none⟩) (show vb < w5.heap.size by omega) (by simp [hvw])]; exact e4, by rw [hW.cell (p := ⟨ob, 0, none⟩) (show ob < w5.heap.size by omega) (by simp [how])]; exact f0, by rw [hW.cell (p := ⟨ob, 9, none⟩) (show ob < w5.heap.size by omega) (by simp [how])]; exact f9, by rw [hW.cell (p := ⟨br, k * 2, none⟩) (show br < w5.heap.size by omega) (by simp [hrw])]; exact g0, by rw [hW.cell (p := ⟨br, k * 2 + 1, none⟩) (show br < w5.heap.size by omega) (by simp [hrw])]; exact g1, by rw [hW.cell (p := ⟨br, j * 2, none⟩) (show br < w5.heap.size by omega) (by simp [hrw])]; exact g2, by rw [hW.cell (p := ⟨br, j * 2 + 1, none⟩) (show br < w5.heap.size by omega) (by simp [hrw])]; exact g3⟩, by rw [hW.cell (p := ⟨wc.heap.size, 1, none⟩) lb5 (by have := HW.out.lt; have := hBc.size; simp; omega)]; exact cb⟩
    have b5' := (Below.refl w5.heap.size w5).drew
    have k5' : Kp [bw] w5 w5.drew := Kp.of_below b5'
    have HL5 : Hid (∀ a : Int, a = ((p + 1 : Nat) : Int) → Calls Tryz.prog 144 #[.slice (some ⟨bw, 0, none⟩) ws.length cw, .int .i64 a, .agg #[.int .i64 t2, .int .i64 m2]] w5.drew fun e w' => e = .returned (.tuple #[]) ∧ RwW w' bw (putW ws (p + 1) t2 m2) ∧ Kp [bw] w w' ∧ Kp [bw] w5 w') := fun a ha => (layVal_row bw cw (p + 1) ws a t2 m2 w5.drew ha (Rw.of_block HW.out ((below_next hB5 b5').block _ HW.out.lt)) (by omega) hn).mono (fun e w' ⟨h1, h2, h3⟩ => ⟨h1, h2, (Kp.of_below (below_next hB5 b5')).trans h3, k5'.trans h3⟩)
    clear hw5 cb c0 c1 c4 a0 a9 q0 q1 q2 q3 KC e0 e1 e4 f0 f9 g0 g1 g2 g3
    go_region_held3 (fun W => Kp [bw] w5 W ∧ (W.cell? ⟨vb, 0, none⟩ = some (.pointer (some ⟨ob, 0, none⟩)) ∧ W.cell? ⟨vb, 1, none⟩ = some (.int .i64 (k : Int)) ∧ W.cell? ⟨vb, 4, none⟩ = some (.int .i64 (j : Int)) ∧ W.cell? ⟨ob, 0, none⟩ = some (.slice (some ⟨bw, 0, none⟩) ws.length cw) ∧ W.cell? ⟨ob, 9, none⟩ = some (.slice (some ⟨br, 0, none⟩) rs.length cr) ∧ W.cell? ⟨br, k * 2, none⟩ = some (.int .i64 9) ∧ W.cell? ⟨br, k * 2 + 1, none⟩ = some (.int .i64 (p : Int)) ∧ W.cell? ⟨br, j * 2, none⟩ = some (.int .i64 t2) ∧ W.cell? ⟨br, j * 2 + 1, none⟩ = some (.int .i64 m2)) ∧ W.cell? ⟨wc.heap.size, 1, none⟩ = some (.int .i64 (p : Int))) (first | assumption | exact KP _ k5' | exact KP _ (by assumption)) (first | (go_at_call 144; refine (HL5.out _ (by first | exact HPW.out | rfl)).mono ?_; rintro e w6 ⟨rfl, hW6, hK6, hK56⟩))
    all_goals
      go_wp2
      go_ret
      exact ⟨rfl, hW6, hK6⟩
end Go.Proofs.YtibjellhafndiaaGreatDoor

/- enter, through the door setCell. -/
namespace Go.Proofs.YtibjellhafndiaaGreatDoor
set_option maxRecDepth 20000
open Go.RowKit
set_option linter.unusedSimpArgs false
set_option linter.unusedVariables false

set_option maxHeartbeats 4000000 in
theorem enter_ok_setCell (aw : Option Addr) (cw : Nat) (ws : List Int) (semi toh top : Int) (cyc : Bool) (scan old copied serial : Int) (ar : Option Addr) (cr : Nat) (rs : List (Int × Int)) (vr vs vk vf vi vv vl vp : Int) (ca : Option Addr) (cl cc : Nat) (tx : ByteArray) (semj tohj topj : Int) (cycj : Bool) (scanj oldj copiedj serialj : Int) (wsj : List Int) (yj : Nat → Int) (y : Nat → Int) (Tr : Nat) (w : World) (hs : Sl w (.slice aw ws.length cw) ws) (hcw : ws.length ≤ cw) (hn : ws.length ≤ 1048576) (hw : Words64 ws) (hrt : SlF Tr w (.slice ar rs.length cr) rs.length (2 * rs.length) (fun i => .int .i64 (y i))) (hn2 : rs.length ≤ 1048576) (hok : ArOk ws semi toh top cyc scan old copied serial y rs.length) (hD : ∀ (bw br vb ob cw' cr' : Nat) (ar' : Option Addr) (W : World), (∀ i, W.cell? ⟨vb, i, none⟩ = (#[.pointer (some ⟨ob, 0, none⟩), .int .i64 vr, .int .i64 vs, .int .i64 vk, .int .i64 vf, .int .i64 vi, .int .i64 vv, .int .i64 vl, .int .i64 vp, .slice ca cl cc, .string tx] : Array Value)[i]?) → vb < W.heap.size → (∀ i, W.cell? ⟨ob, i, none⟩ = (#[.slice (some ⟨bw, 0, none⟩) ws.length cw', .int .i64 semi, .int .i64 toh, .int .i64 top, .bool cyc, .int .i64 scan, .int .i64 old, .int .i64 copied, .int .i64 serial, .slice ar' rs.length cr'] : Array Value)[i]?) → W.rowIs ob 29 10 (fun i => (#[.slice (some ⟨bw, 0, none⟩) ws.length cw', .int .i64 semi, .int .i64 toh, .int .i64 top, .bool cyc, .int .i64 scan, .int .i64 old, .int .i64 copied, .int .i64 serial, .slice ar' rs.length cr'] : Array Value).getD i (.bool false)) → RwW W bw ws → OwnR W ar' br rs.length y → vb ≠ bw → ob ≠ bw → vb ≠ br → ob ≠ br → vb ≠ ob → br < W.heap.size → (0 < rs.length → bw ≠ br) → ws.length ≤ cw' → Calls Tryz.prog 117 #[.pointer (some ⟨vb, 0, none⟩)] W fun e w' => e = .returned .nilIface ∧ w'.rowIs ob 29 10 (fun i => (#[.slice (some ⟨bw, 0, none⟩) ws.length cw', .int .i64 semj, .int .i64 tohj, .int .i64 topj, .bool cycj, .int .i64 scanj, .int .i64 oldj, .int .i64 copiedj, .int .i64 serialj, .slice ar' rs.length cr'] : Array Value).getD i (.bool false)) ∧ RwW w' bw wsj ∧ OwnR w' ar' br rs.length yj ∧ Kp [bw, br, ob] W w') (hlj : wsj.length = ws.length) :
    Calls Tryz.prog 53 #[.agg #[.slice aw ws.length cw, .int .i64 semi, .int .i64 toh, .int .i64 top, .bool cyc, .int .i64 scan, .int .i64 old, .int .i64 copied, .int .i64 serial, .slice ar rs.length cr], .int .i64 2, .agg #[.pointer none, .int .i64 vr, .int .i64 vs, .int .i64 vk, .int .i64 vf, .int .i64 vi, .int .i64 vv, .int .i64 vl, .int .i64 vp, .slice ca cl cc, .string tx]] w fun e w' => ∃ vw vr', e = .returned (.tuple #[.agg #[vw, .int .i64 semj, .int .i64 tohj, .int .i64 topj, .bool cycj, .int .i64 scanj, .int .i64 oldj, .int .i64 copiedj, .int .i64 serialj, vr'], .int .i64 0]) ∧ OwnAr w.heap.size w'.heap.size w' vw vr' ws.length rs.length (wordAt wsj) yj ∧ Below w.heap.size w w' := by
  have HS : Hid (Sl w (.slice aw ws.length cw) ws) := hs
  have HR : Hid (SlF w.heap.size w (.slice ar rs.length cr) rs.length (2 * rs.length) (fun i => .int .i64 (y i))) := hrt.here
  have HQ : Hid (ArOk ws semi toh top cyc scan old copied serial y rs.length) := hok
  have HD : Hid (∀ (bw br vb ob cw' cr' : Nat) (ar' : Option Addr) (W : World), (∀ i, W.cell? ⟨vb, i, none⟩ = (#[.pointer (some ⟨ob, 0, none⟩), .int .i64 vr, .int .i64 vs, .int .i64 vk, .int .i64 vf, .int .i64 vi, .int .i64 vv, .int .i64 vl, .int .i64 vp, .slice ca cl cc, .string tx] : Array Value)[i]?) → vb < W.heap.size → (∀ i, W.cell? ⟨ob, i, none⟩ = (#[.slice (some ⟨bw, 0, none⟩) ws.length cw', .int .i64 semi, .int .i64 toh, .int .i64 top, .bool cyc, .int .i64 scan, .int .i64 old, .int .i64 copied, .int .i64 serial, .slice ar' rs.length cr'] : Array Value)[i]?) → W.rowIs ob 29 10 (fun i => (#[.slice (some ⟨bw, 0, none⟩) ws.length cw', .int .i64 semi, .int .i64 toh, .int .i64 top, .bool cyc, .int .i64 scan, .int .i64 old, .int .i64 copied, .int .i64 serial, .slice ar' rs.length cr'] : Array Value).getD i (.bool false)) → RwW W bw ws → OwnR W ar' br rs.length y → vb ≠ bw → ob ≠ bw → vb ≠ br → ob ≠ br → vb ≠ ob → br < W.heap.size → (0 < rs.length → bw ≠ br) → ws.length ≤ cw' → Calls Tryz.prog 117 #[.pointer (some ⟨vb, 0, none⟩)] W fun e w' => e = .returned .nilIface ∧ w'.rowIs ob 29 10 (fun i => (#[.slice (some ⟨bw, 0, none⟩) ws.length cw', .int .i64 semj, .int .i64 tohj, .int .i64 topj, .bool cycj, .int .i64 scanj, .int .i64 oldj, .int .i64 copiedj, .int .i64 serialj, .slice ar' rs.length cr'] : Array Value).getD i (.bool false)) ∧ RwW w' bw wsj ∧ OwnR w' ar' br rs.length yj ∧ Kp [bw, br, ob] W w') := hD
  clear hD
  clear hs hrt hok
  go_enter Tryz.func53, Tryz.ntmps53
  go_wp2_with fail
  have B0 : Below w.heap.size w (((w.alloc (.cells #[.slice aw ws.length cw, .int .i64 semi, .int .i64 toh, .int .i64 top, .bool cyc, .int .i64 scan, .int .i64 old, .int .i64 copied, .int .i64 serial, .slice ar rs.length cr] 29)).alloc (.cells #[.pointer none, .int .i64 vr, .int .i64 vs, .int .i64 vk, .int .i64 vf, .int .i64 vi, .int .i64 vv, .int .i64 vl, .int .i64 vp, .slice ca cl cc, .string tx] 73)).alloc (.cells #[.slice none 0 0, .int .i64 0, .int .i64 0, .int .i64 0, .bool false, .int .i64 0, .int .i64 0, .int .i64 0, .int .i64 0, .slice none 0 0] 29)) := (below_second (Below.refl _ _)).alloc (by simp; omega) _
  refine (clone_full _ _ _ _ _ _ _ _ _ _ _ _ _ _ y w.heap.size _ (HS.out.below B0) hn (HR.out.below B0 (Nat.le_refl _)) hn2).mono ?_
  rintro e w1 ⟨vw, vr1, rfl, ⟨a1, rfl⟩, o1, b1⟩
  simp only [World.size_alloc] at o1
  obtain ⟨a2, c2, rfl⟩ := o1.sl.2.head
  have B1 : Below w.heap.size w w1 := below_next B0 b1
  have l1 : w.heap.size + 2 < w1.heap.size := by have := b1.size; simp at this; omega
  have l0 : w.heap.size < w1.heap.size := by omega
  have l01 : w.heap.size + 1 < w1.heap.size := by omega
  have k1 : ∀ i, w1.cell? ⟨w.heap.size, i, none⟩ = (#[.slice aw ws.length cw, .int .i64 semi, .int .i64 toh, .int .i64 top, .bool cyc, .int .i64 scan, .int .i64 old, .int .i64 copied, .int .i64 serial, .slice ar rs.length cr] : Array Value)[i]? := fun i => by rw [b1.cell (p := ⟨w.heap.size, i, none⟩) (by simp <;> omega)]; simp [go_sem]
  have v1 : ∀ i, w1.cell? ⟨w.heap.size + 1, i, none⟩ = (#[.pointer none, .int .i64 vr, .int .i64 vs, .int .i64 vk, .int .i64 vf, .int .i64 vi, .int .i64 vv, .int .i64 vl, .int .i64 vp, .slice ca cl cc, .string tx] : Array Value)[i]? := fun i => by rw [b1.cell (p := ⟨w.heap.size + 1, i, none⟩) (by simp <;> omega)]; simp [go_sem]
  have f1 : ∀ i, w1.frozen? ⟨w.heap.size + 1, i, none⟩ = false := fun i => by rw [(bcell b1).2 _ _ (by simp <;> omega)]; simp [go_sem]
  have HZ1 : Hid (w1.rowIs (w.heap.size + 1 + 1) 29 10 (fun i => (#[.slice none 0 0, .int .i64 0, .int .i64 0, .int .i64 0, .bool false, .int .i64 0, .int .i64 0, .int .i64 0, .int .i64 0, .slice none 0 0] : Array Value).getD i (.bool false))) := ⟨#[.slice none 0 0, .int .i64 0, .int .i64 0, .int .i64 0, .bool false, .int .i64 0, .int .i64 0, .int .i64 0, .int .i64 0, .slice none 0 0], (b1.block _ (by simp)).trans (alloc_at (by simp)), rfl, fun i hi => by simp [Array.getD, hi]⟩
  clear b1 B0
  go_wp2_with fail
  refine (implArenaOk_at _ _ _ _ _ _ _ _ _ _ _ _ _ _ y w.heap.size _ (HS.out.below (below_box B1)) hcw hn hw (HR.out.below (below_box B1) (Nat.le_refl _)) hn2).mono ?_
  rintro e w2 ⟨q, rfl, hq, b2⟩
  obtain rfl := hq.2 HQ.out
  have b2f := below_first b2
  have p2 := one_cells b2 (by simp)
  have HP2 : Hid (w2.rowIs w1.heap.size 29 10 (fun i => (#[.slice a1 ws.length ws.length, .int .i64 semi, .int .i64 toh, .int .i64 top, .bool cyc, .int .i64 scan, .int .i64 old, .int .i64 copied, .int .i64 serial, .slice a2 rs.length c2] : Array Value).getD i (.bool false))) := box_row b2 (by simp) rfl
  have z2 : w1.heap.size < w2.heap.size := size_first b2
  have B2 := below_next B1 b2f
  have k2 := has_below k1 b2f (by omega)
  have v2 := has_below v1 b2f (by omega)
  have f2 : ∀ i, w2.frozen? ⟨w.heap.size + 1, i, none⟩ = false := fun i => by rw [(bcell b2f).2 _ _ (by omega)]; exact f1 i
  have o2 := o1.below b2f (by omega)
  have HZ2 : Hid (w2.rowIs (w.heap.size + 1 + 1) 29 10 (fun i => (#[.slice none 0 0, .int .i64 0, .int .i64 0, .int .i64 0, .bool false, .int .i64 0, .int .i64 0, .int .i64 0, .int .i64 0, .slice none 0 0] : Array Value).getD i (.bool false))) := World.rowIs.of_block HZ1.out (b2f.block _ (by omega))
  clear k1 v1 f1 b2 b2f o1 HZ1 hq B1
  obtain ⟨s0, s1, hl, t0, t1, hrl, _, _, _⟩ := num_facts HQ.out.1
  have g6 : 0 < ws.length := by omega
  clear s0 s1 hl t0 t1 hrl
  obtain ⟨bw, br, rfl, hW, hR, hne, b1', b2', b3', b4'⟩ := ownAr_rows rfl g6 o2
  have f20 := f2 0
  have v20 := v2 0
  clear o2
  go_wp2_with fail
  refine (doors_at (w.heap.size + 1) _).mono ?_
  rintro e w3 ⟨rfl, hd3, b3⟩
  have K3 : Kp [w.heap.size + 1] w2 w3 := (((Kp.refl [w.heap.size + 1] w2).setCell (p := ⟨w.heap.size + 1, 0, none⟩) (.inl (by simp)) (.pointer (some ⟨w1.heap.size, 0, none⟩))).alloc (.cells #[.int .i64 0, .string ⟨#[]⟩] 99)).next b3
  have B3 : Below w.heap.size w w3 := B2.trans (K3.below (fun x hx => by simp at hx; omega) (by omega))
  have z3 : w2.heap.size + 1 < w3.heap.size := by have := World.block_lt_of_cell? w3 ⟨_, 0, none⟩ (hd3 0); simp at this; exact this
  have k3 := Kp.has k2 K3 (by omega) (by simp)
  have v3 : ∀ i, w3.cell? ⟨w.heap.size + 1, i, none⟩ = (#[.pointer (some ⟨w1.heap.size, 0, none⟩), .int .i64 vr, .int .i64 vs, .int .i64 vk, .int .i64 vf, .int .i64 vi, .int .i64 vv, .int .i64 vl, .int .i64 vp, .slice ca cl cc, .string tx] : Array Value)[i]? := fun i => by
    have h1 := set_first (u := .pointer (some ⟨w1.heap.size, 0, none⟩)) v2 i
    rw [b3.cell (p := ⟨w.heap.size + 1, i, none⟩) (by simp; omega), World.cell?_alloc_lt _ _ ⟨w.heap.size + 1, i, none⟩ (by simp; omega)]
    exact h1
  have HP3 : Hid (w3.rowIs w1.heap.size 29 10 (fun i => (#[.slice (some ⟨bw, 0, none⟩) ws.length ws.length, .int .i64 semi, .int .i64 toh, .int .i64 top, .bool cyc, .int .i64 scan, .int .i64 old, .int .i64 copied, .int .i64 serial, .slice a2 rs.length c2] : Array Value).getD i (.bool false))) := World.rowIs.of_block HP2.out (K3.block _ z2 (by simp; omega))
  have HZ3 : Hid (w3.rowIs (w.heap.size + 1 + 1) 29 10 (fun i => (#[.slice none 0 0, .int .i64 0, .int .i64 0, .int .i64 0, .bool false, .int .i64 0, .int .i64 0, .int .i64 0, .int .i64 0, .slice none 0 0] : Array Value).getD i (.bool false))) := World.rowIs.of_block HZ2.out (K3.block _ (by omega) (by simp))
  have n3 : ∀ i, w3.cell? ⟨w2.heap.size, i, none⟩ = (#[.int .i64 0, .string ⟨#[]⟩] : Array Value)[i]? := fun i => by
    rw [b3.cell (p := ⟨w2.heap.size, i, none⟩) (by simp)]; simp [go_sem]
  have fn3 : ∀ i, w3.frozen? ⟨w2.heap.size, i, none⟩ = false := fun i => by
    rw [(bcell b3).2 _ _ (by simp)]; simp [go_sem]
  have HNR : Hid (w3.rowIs w2.heap.size 99 2 (fun i => (#[.int .i64 0, .string ⟨#[]⟩] : Array Value).getD i (.bool false))) := ⟨#[.int .i64 0, .string ⟨#[]⟩], (b3.block _ (by simp)).trans (alloc_at (by simp)), rfl, fun i hi => by simp [Array.getD, hi]⟩
  have hW3 : RwW w3 bw ws := Rw.kp hW K3 (by simp; omega)
  have hR3 : OwnR w3 a2 br rs.length y := ownR_kp hR K3 (fun _ => by simp; omega)
  have p3 := row_all HP3.out rfl
  have HDC : Hid (Calls Tryz.prog 117 #[.pointer (some ⟨w.heap.size + 1, 0, none⟩)] w3 fun e w' => e = .returned .nilIface ∧ w'.rowIs w1.heap.size 29 10 (fun i => (#[.slice (some ⟨bw, 0, none⟩) ws.length ws.length, .int .i64 semj, .int .i64 tohj, .int .i64 topj, .bool cycj, .int .i64 scanj, .int .i64 oldj, .int .i64 copiedj, .int .i64 serialj, .slice a2 rs.length c2] : Array Value).getD i (.bool false)) ∧ RwW w' bw wsj ∧ OwnR w' a2 br rs.length yj ∧ Kp [bw, br, w1.heap.size] w3 w') := HD.out bw br (w.heap.size + 1) w1.heap.size ws.length c2 a2 w3 v3 (by omega) p3 HP3.out hW3 hR3 (by omega) (by omega) (by omega) (by omega) (by omega) (by omega) hne (Nat.le_refl _)
  have dd : w3.cell? ⟨w2.heap.size + 1, 2, none⟩ = some (.func (Fn.func 117) #[.pointer (some ⟨w.heap.size + 1, 0, none⟩)] #[]) := by have := hd3 2; simpa [doorsOf] using this
  have HB3 : Hid (Below w.heap.size w w3) := B3
  have HN3 : Hid (∀ i, w3.cell? ⟨w2.heap.size, i, none⟩ = (#[.int .i64 0, .string ⟨#[]⟩] : Array Value)[i]?) := n3
  have HK3 : Hid (∀ i, w3.cell? ⟨w.heap.size, i, none⟩ = (#[.slice aw ws.length cw, .int .i64 semi, .int .i64 toh, .int .i64 top, .bool cyc, .int .i64 scan, .int .i64 old, .int .i64 copied, .int .i64 serial, .slice ar rs.length cr] : Array Value)[i]?) := k3
  have HFN : Hid (∀ i, w3.frozen? ⟨w2.heap.size, i, none⟩ = false) := fn3
  clear hd3 b3 K3 B3 k2 v2 f2 v3 HP2 HZ2 hW hR hW3 hR3 p3 n3 k3 fn3 f20 v20 B2 p2 HD
  go_wp2_with fail
  refine (HDC.out).mono ?_
  rintro e w4 ⟨rfl, hA4, hW4, hR4, hK4⟩
  have z4 : w2.heap.size + 1 < w4.heap.size := Nat.lt_of_lt_of_le z3 hK4.size
  have HZ4 : Hid (w4.rowIs (w.heap.size + 1 + 1) 29 10 (fun i => (#[.slice none 0 0, .int .i64 0, .int .i64 0, .int .i64 0, .bool false, .int .i64 0, .int .i64 0, .int .i64 0, .int .i64 0, .slice none 0 0] : Array Value).getD i (.bool false))) := World.rowIs.of_block HZ3.out (hK4.block _ (by omega) (by simp; omega))
  have HB4 : Hid (Below w.heap.size w w4) := HB3.out.trans (hK4.below (fun x hx => by simp at hx; omega) (by omega))
  have KA4 := row_all hA4 rfl
  have HW4 : Hid (RwW w4 bw wsj) := hW4
  have HR4 : Hid (OwnR w4 a2 br rs.length yj) := hR4
  obtain ⟨d0, d1, d2, d3, d4, d5, d6, d7, d8, d9⟩ := row10 HZ4.out rfl rfl rfl rfl rfl rfl rfl rfl rfl rfl
  simp at d0 d1 d2 d3 d4 d5 d6 d7 d8 d9
  have ef := World.rowIs.frozen HZ4.out
  clear hA4 hW4 hR4 hK4 HZ3 HZ4 HP3 HN3 HK3 HFN HB3 HDC dd
  go_wp2_with (go_at_call 86; refine (as_nil _ _).mono ?_; rintro e w5 ⟨rfl, rfl⟩)
  have q0 : (w4.cell? ⟨w.heap.size + 1 + 1, 0, none⟩).isSome = true := by rw [d0]; rfl
  have q1 : (w4.cell? ⟨w.heap.size + 1 + 1, 1, none⟩).isSome = true := by rw [d1]; rfl
  have q2 : (w4.cell? ⟨w.heap.size + 1 + 1, 2, none⟩).isSome = true := by rw [d2]; rfl
  have q3 : (w4.cell? ⟨w.heap.size + 1 + 1, 3, none⟩).isSome = true := by rw [d3]; rfl
  have q4 : (w4.cell? ⟨w.heap.size + 1 + 1, 4, none⟩).isSome = true := by rw [d4]; rfl
  have q5 : (w4.cell? ⟨w.heap.size + 1 + 1, 5, none⟩).isSome = true := by rw [d5]; rfl
  have q6 : (w4.cell? ⟨w.heap.size + 1 + 1, 6, none⟩).isSome = true := by rw [d6]; rfl
  have q7 : (w4.cell? ⟨w.heap.size + 1 + 1, 7, none⟩).isSome = true := by rw [d7]; rfl
  have q8 : (w4.cell? ⟨w.heap.size + 1 + 1, 8, none⟩).isSome = true := by rw [d8]; rfl
  have q9 : (w4.cell? ⟨w.heap.size + 1 + 1, 9, none⟩).isSome = true := by rw [d9]; rfl
  refine bodyPost_ret (v := .tuple #[.agg #[.slice (some ⟨bw, 0, none⟩) ws.length ws.length, .int .i64 semj, .int .i64 tohj, .int .i64 topj, .bool cycj, .int .i64 scanj, .int .i64 oldj, .int .i64 copiedj, .int .i64 serialj, .slice a2 rs.length c2], .int .i64 0]) (by simp [results, Tryz.results53, go_sem, q0, q1, q2, q3, q4, q5, q6, q7, q8, q9]) rfl ⟨_, _, rfl, ?_, ?_⟩
  · exact ownAr_of hlj (Rw.of_block HW4.out (ten_block (by omega))) (ownR_block HR4.out (fun _ => ten_block (by omega))) hne (by omega) (by simp; omega) (by omega) (by simp; omega)
  · exact below_ten HB4.out (by omega)
set_option maxHeartbeats 4000000 in
theorem enter_bad_setCell (aw : Option Addr) (cw : Nat) (ws : List Int) (semi toh top : Int) (cyc : Bool) (scan old copied serial : Int) (ar : Option Addr) (cr : Nat) (rs : List (Int × Int)) (vr vs vk vf vi vv vl vp : Int) (ca : Option Addr) (cl cc : Nat) (tx : ByteArray)  (y : Nat → Int) (Tr : Nat) (w : World) (hs : Sl w (.slice aw ws.length cw) ws) (hcw : ws.length ≤ cw) (hn : ws.length ≤ 1048576) (hw : Words64 ws) (hrt : SlF Tr w (.slice ar rs.length cr) rs.length (2 * rs.length) (fun i => .int .i64 (y i))) (hn2 : rs.length ≤ 1048576) (hok : ArOk ws semi toh top cyc scan old copied serial y rs.length) (hg : w.cell? ⟨0, 0, none⟩ = some (.iface 147 (.agg #[.pointer (some ⟨2, 102, none⟩)]))) (hD : ∀ (bw br vb ob cw' cr' : Nat) (ar' : Option Addr) (W : World), (∀ i, W.cell? ⟨vb, i, none⟩ = (#[.pointer (some ⟨ob, 0, none⟩), .int .i64 vr, .int .i64 vs, .int .i64 vk, .int .i64 vf, .int .i64 vi, .int .i64 vv, .int .i64 vl, .int .i64 vp, .slice ca cl cc, .string tx] : Array Value)[i]?) → vb < W.heap.size → (∀ i, W.cell? ⟨ob, i, none⟩ = (#[.slice (some ⟨bw, 0, none⟩) ws.length cw', .int .i64 semi, .int .i64 toh, .int .i64 top, .bool cyc, .int .i64 scan, .int .i64 old, .int .i64 copied, .int .i64 serial, .slice ar' rs.length cr'] : Array Value)[i]?) → W.rowIs ob 29 10 (fun i => (#[.slice (some ⟨bw, 0, none⟩) ws.length cw', .int .i64 semi, .int .i64 toh, .int .i64 top, .bool cyc, .int .i64 scan, .int .i64 old, .int .i64 copied, .int .i64 serial, .slice ar' rs.length cr'] : Array Value).getD i (.bool false)) → RwW W bw ws → OwnR W ar' br rs.length y → vb ≠ bw → ob ≠ bw → vb ≠ br → ob ≠ br → vb ≠ ob → br < W.heap.size → (0 < rs.length → bw ≠ br) → ws.length ≤ cw' → Calls Tryz.prog 117 #[.pointer (some ⟨vb, 0, none⟩)] W fun e w' => (∃ x, e = .returned (.iface 99 (.agg #[.int .i64 1, .string x]))) ∧ Kp [bw, br, ob] W w') :
    Calls Tryz.prog 53 #[.agg #[.slice aw ws.length cw, .int .i64 semi, .int .i64 toh, .int .i64 top, .bool cyc, .int .i64 scan, .int .i64 old, .int .i64 copied, .int .i64 serial, .slice ar rs.length cr], .int .i64 2, .agg #[.pointer none, .int .i64 vr, .int .i64 vs, .int .i64 vk, .int .i64 vf, .int .i64 vi, .int .i64 vv, .int .i64 vl, .int .i64 vp, .slice ca cl cc, .string tx]] w fun e w' => ∃ vw vr', e = .returned (.tuple #[.agg #[vw, .int .i64 semi, .int .i64 toh, .int .i64 top, .bool cyc, .int .i64 scan, .int .i64 old, .int .i64 copied, .int .i64 serial, vr'], .int .i64 1]) ∧ OwnAr w.heap.size w'.heap.size w' vw vr' ws.length rs.length (wordAt ws) y ∧ Below w.heap.size w w' := by
  have HS : Hid (Sl w (.slice aw ws.length cw) ws) := hs
  have HR : Hid (SlF w.heap.size w (.slice ar rs.length cr) rs.length (2 * rs.length) (fun i => .int .i64 (y i))) := hrt.here
  have HQ : Hid (ArOk ws semi toh top cyc scan old copied serial y rs.length) := hok
  have HD : Hid (∀ (bw br vb ob cw' cr' : Nat) (ar' : Option Addr) (W : World), (∀ i, W.cell? ⟨vb, i, none⟩ = (#[.pointer (some ⟨ob, 0, none⟩), .int .i64 vr, .int .i64 vs, .int .i64 vk, .int .i64 vf, .int .i64 vi, .int .i64 vv, .int .i64 vl, .int .i64 vp, .slice ca cl cc, .string tx] : Array Value)[i]?) → vb < W.heap.size → (∀ i, W.cell? ⟨ob, i, none⟩ = (#[.slice (some ⟨bw, 0, none⟩) ws.length cw', .int .i64 semi, .int .i64 toh, .int .i64 top, .bool cyc, .int .i64 scan, .int .i64 old, .int .i64 copied, .int .i64 serial, .slice ar' rs.length cr'] : Array Value)[i]?) → W.rowIs ob 29 10 (fun i => (#[.slice (some ⟨bw, 0, none⟩) ws.length cw', .int .i64 semi, .int .i64 toh, .int .i64 top, .bool cyc, .int .i64 scan, .int .i64 old, .int .i64 copied, .int .i64 serial, .slice ar' rs.length cr'] : Array Value).getD i (.bool false)) → RwW W bw ws → OwnR W ar' br rs.length y → vb ≠ bw → ob ≠ bw → vb ≠ br → ob ≠ br → vb ≠ ob → br < W.heap.size → (0 < rs.length → bw ≠ br) → ws.length ≤ cw' → Calls Tryz.prog 117 #[.pointer (some ⟨vb, 0, none⟩)] W fun e w' => (∃ x, e = .returned (.iface 99 (.agg #[.int .i64 1, .string x]))) ∧ Kp [bw, br, ob] W w') := hD
  have HG : Hid (w.cell? ⟨0, 0, none⟩ = some (.iface 147 (.agg #[.pointer (some ⟨2, 102, none⟩)]))) := hg
  clear hD hg
  clear hs hrt hok
  go_enter Tryz.func53, Tryz.ntmps53
  go_wp2_with fail
  have B0 : Below w.heap.size w (((w.alloc (.cells #[.slice aw ws.length cw, .int .i64 semi, .int .i64 toh, .int .i64 top, .bool cyc, .int .i64 scan, .int .i64 old, .int .i64 copied, .int .i64 serial, .slice ar rs.length cr] 29)).alloc (.cells #[.pointer none, .int .i64 vr, .int .i64 vs, .int .i64 vk, .int .i64 vf, .int .i64 vi, .int .i64 vv, .int .i64 vl, .int .i64 vp, .slice ca cl cc, .string tx] 73)).alloc (.cells #[.slice none 0 0, .int .i64 0, .int .i64 0, .int .i64 0, .bool false, .int .i64 0, .int .i64 0, .int .i64 0, .int .i64 0, .slice none 0 0] 29)) := (below_second (Below.refl _ _)).alloc (by simp; omega) _
  refine (clone_full _ _ _ _ _ _ _ _ _ _ _ _ _ _ y w.heap.size _ (HS.out.below B0) hn (HR.out.below B0 (Nat.le_refl _)) hn2).mono ?_
  rintro e w1 ⟨vw, vr1, rfl, ⟨a1, rfl⟩, o1, b1⟩
  simp only [World.size_alloc] at o1
  obtain ⟨a2, c2, rfl⟩ := o1.sl.2.head
  have B1 : Below w.heap.size w w1 := below_next B0 b1
  have l1 : w.heap.size + 2 < w1.heap.size := by have := b1.size; simp at this; omega
  have l0 : w.heap.size < w1.heap.size := by omega
  have l01 : w.heap.size + 1 < w1.heap.size := by omega
  have k1 : ∀ i, w1.cell? ⟨w.heap.size, i, none⟩ = (#[.slice aw ws.length cw, .int .i64 semi, .int .i64 toh, .int .i64 top, .bool cyc, .int .i64 scan, .int .i64 old, .int .i64 copied, .int .i64 serial, .slice ar rs.length cr] : Array Value)[i]? := fun i => by rw [b1.cell (p := ⟨w.heap.size, i, none⟩) (by simp <;> omega)]; simp [go_sem]
  have v1 : ∀ i, w1.cell? ⟨w.heap.size + 1, i, none⟩ = (#[.pointer none, .int .i64 vr, .int .i64 vs, .int .i64 vk, .int .i64 vf, .int .i64 vi, .int .i64 vv, .int .i64 vl, .int .i64 vp, .slice ca cl cc, .string tx] : Array Value)[i]? := fun i => by rw [b1.cell (p := ⟨w.heap.size + 1, i, none⟩) (by simp <;> omega)]; simp [go_sem]
  have f1 : ∀ i, w1.frozen? ⟨w.heap.size + 1, i, none⟩ = false := fun i => by rw [(bcell b1).2 _ _ (by simp <;> omega)]; simp [go_sem]
  have HZ1 : Hid (w1.rowIs (w.heap.size + 1 + 1) 29 10 (fun i => (#[.slice none 0 0, .int .i64 0, .int .i64 0, .int .i64 0, .bool false, .int .i64 0, .int .i64 0, .int .i64 0, .int .i64 0, .slice none 0 0] : Array Value).getD i (.bool false))) := ⟨#[.slice none 0 0, .int .i64 0, .int .i64 0, .int .i64 0, .bool false, .int .i64 0, .int .i64 0, .int .i64 0, .int .i64 0, .slice none 0 0], (b1.block _ (by simp)).trans (alloc_at (by simp)), rfl, fun i hi => by simp [Array.getD, hi]⟩
  clear b1 B0
  go_wp2_with fail
  refine (implArenaOk_at _ _ _ _ _ _ _ _ _ _ _ _ _ _ y w.heap.size _ (HS.out.below (below_box B1)) hcw hn hw (HR.out.below (below_box B1) (Nat.le_refl _)) hn2).mono ?_
  rintro e w2 ⟨q, rfl, hq, b2⟩
  obtain rfl := hq.2 HQ.out
  have b2f := below_first b2
  have p2 := one_cells b2 (by simp)
  have HP2 : Hid (w2.rowIs w1.heap.size 29 10 (fun i => (#[.slice a1 ws.length ws.length, .int .i64 semi, .int .i64 toh, .int .i64 top, .bool cyc, .int .i64 scan, .int .i64 old, .int .i64 copied, .int .i64 serial, .slice a2 rs.length c2] : Array Value).getD i (.bool false))) := box_row b2 (by simp) rfl
  have z2 : w1.heap.size < w2.heap.size := size_first b2
  have B2 := below_next B1 b2f
  have k2 := has_below k1 b2f (by omega)
  have v2 := has_below v1 b2f (by omega)
  have f2 : ∀ i, w2.frozen? ⟨w.heap.size + 1, i, none⟩ = false := fun i => by rw [(bcell b2f).2 _ _ (by omega)]; exact f1 i
  have o2 := o1.below b2f (by omega)
  have HZ2 : Hid (w2.rowIs (w.heap.size + 1 + 1) 29 10 (fun i => (#[.slice none 0 0, .int .i64 0, .int .i64 0, .int .i64 0, .bool false, .int .i64 0, .int .i64 0, .int .i64 0, .int .i64 0, .slice none 0 0] : Array Value).getD i (.bool false))) := World.rowIs.of_block HZ1.out (b2f.block _ (by omega))
  clear k1 v1 f1 b2 b2f o1 HZ1 hq B1
  obtain ⟨s0, s1, hl, t0, t1, hrl, _, _, _⟩ := num_facts HQ.out.1
  have g6 : 0 < ws.length := by omega
  clear s0 s1 hl t0 t1 hrl
  obtain ⟨bw, br, rfl, hW, hR, hne, b1', b2', b3', b4'⟩ := ownAr_rows rfl g6 o2
  have f20 := f2 0
  have v20 := v2 0
  clear o2
  go_wp2_with fail
  refine (doors_at (w.heap.size + 1) _).mono ?_
  rintro e w3 ⟨rfl, hd3, b3⟩
  have K3 : Kp [w.heap.size + 1] w2 w3 := (((Kp.refl [w.heap.size + 1] w2).setCell (p := ⟨w.heap.size + 1, 0, none⟩) (.inl (by simp)) (.pointer (some ⟨w1.heap.size, 0, none⟩))).alloc (.cells #[.int .i64 0, .string ⟨#[]⟩] 99)).next b3
  have B3 : Below w.heap.size w w3 := B2.trans (K3.below (fun x hx => by simp at hx; omega) (by omega))
  have z3 : w2.heap.size + 1 < w3.heap.size := by have := World.block_lt_of_cell? w3 ⟨_, 0, none⟩ (hd3 0); simp at this; exact this
  have k3 := Kp.has k2 K3 (by omega) (by simp)
  have v3 : ∀ i, w3.cell? ⟨w.heap.size + 1, i, none⟩ = (#[.pointer (some ⟨w1.heap.size, 0, none⟩), .int .i64 vr, .int .i64 vs, .int .i64 vk, .int .i64 vf, .int .i64 vi, .int .i64 vv, .int .i64 vl, .int .i64 vp, .slice ca cl cc, .string tx] : Array Value)[i]? := fun i => by
    have h1 := set_first (u := .pointer (some ⟨w1.heap.size, 0, none⟩)) v2 i
    rw [b3.cell (p := ⟨w.heap.size + 1, i, none⟩) (by simp; omega), World.cell?_alloc_lt _ _ ⟨w.heap.size + 1, i, none⟩ (by simp; omega)]
    exact h1
  have HP3 : Hid (w3.rowIs w1.heap.size 29 10 (fun i => (#[.slice (some ⟨bw, 0, none⟩) ws.length ws.length, .int .i64 semi, .int .i64 toh, .int .i64 top, .bool cyc, .int .i64 scan, .int .i64 old, .int .i64 copied, .int .i64 serial, .slice a2 rs.length c2] : Array Value).getD i (.bool false))) := World.rowIs.of_block HP2.out (K3.block _ z2 (by simp; omega))
  have HZ3 : Hid (w3.rowIs (w.heap.size + 1 + 1) 29 10 (fun i => (#[.slice none 0 0, .int .i64 0, .int .i64 0, .int .i64 0, .bool false, .int .i64 0, .int .i64 0, .int .i64 0, .int .i64 0, .slice none 0 0] : Array Value).getD i (.bool false))) := World.rowIs.of_block HZ2.out (K3.block _ (by omega) (by simp))
  have n3 : ∀ i, w3.cell? ⟨w2.heap.size, i, none⟩ = (#[.int .i64 0, .string ⟨#[]⟩] : Array Value)[i]? := fun i => by
    rw [b3.cell (p := ⟨w2.heap.size, i, none⟩) (by simp)]; simp [go_sem]
  have fn3 : ∀ i, w3.frozen? ⟨w2.heap.size, i, none⟩ = false := fun i => by
    rw [(bcell b3).2 _ _ (by simp)]; simp [go_sem]
  have HNR : Hid (w3.rowIs w2.heap.size 99 2 (fun i => (#[.int .i64 0, .string ⟨#[]⟩] : Array Value).getD i (.bool false))) := ⟨#[.int .i64 0, .string ⟨#[]⟩], (b3.block _ (by simp)).trans (alloc_at (by simp)), rfl, fun i hi => by simp [Array.getD, hi]⟩
  have hW3 : RwW w3 bw ws := Rw.kp hW K3 (by simp; omega)
  have hR3 : OwnR w3 a2 br rs.length y := ownR_kp hR K3 (fun _ => by simp; omega)
  have p3 := row_all HP3.out rfl
  have HDC : Hid (Calls Tryz.prog 117 #[.pointer (some ⟨w.heap.size + 1, 0, none⟩)] w3 fun e w' => (∃ x, e = .returned (.iface 99 (.agg #[.int .i64 1, .string x]))) ∧ Kp [bw, br, w1.heap.size] w3 w') := HD.out bw br (w.heap.size + 1) w1.heap.size ws.length c2 a2 w3 v3 (by omega) p3 HP3.out hW3 hR3 (by omega) (by omega) (by omega) (by omega) (by omega) (by omega) hne (Nat.le_refl _)
  have dd : w3.cell? ⟨w2.heap.size + 1, 2, none⟩ = some (.func (Fn.func 117) #[.pointer (some ⟨w.heap.size + 1, 0, none⟩)] #[]) := by have := hd3 2; simpa [doorsOf] using this
  have HB3 : Hid (Below w.heap.size w w3) := B3
  have HN3 : Hid (∀ i, w3.cell? ⟨w2.heap.size, i, none⟩ = (#[.int .i64 0, .string ⟨#[]⟩] : Array Value)[i]?) := n3
  have HK3 : Hid (∀ i, w3.cell? ⟨w.heap.size, i, none⟩ = (#[.slice aw ws.length cw, .int .i64 semi, .int .i64 toh, .int .i64 top, .bool cyc, .int .i64 scan, .int .i64 old, .int .i64 copied, .int .i64 serial, .slice ar rs.length cr] : Array Value)[i]?) := k3
  have HFN : Hid (∀ i, w3.frozen? ⟨w2.heap.size, i, none⟩ = false) := fn3
  clear hd3 b3 K3 B3 k2 v2 f2 v3 HP2 HZ2 hW hR hW3 hR3 p3 n3 k3 fn3 f20 v20 B2 p2 HD
  go_wp2_with fail
  refine (HDC.out).mono ?_
  rintro e w4 ⟨⟨x, rfl⟩, hK4⟩
  have z4 : w2.heap.size + 1 < w4.heap.size := Nat.lt_of_lt_of_le z3 hK4.size
  have HZ4 : Hid (w4.rowIs (w.heap.size + 1 + 1) 29 10 (fun i => (#[.slice none 0 0, .int .i64 0, .int .i64 0, .int .i64 0, .bool false, .int .i64 0, .int .i64 0, .int .i64 0, .int .i64 0, .slice none 0 0] : Array Value).getD i (.bool false))) := World.rowIs.of_block HZ3.out (hK4.block _ (by omega) (by simp; omega))
  have HB4 : Hid (Below w.heap.size w w4) := HB3.out.trans (hK4.below (fun x hx => by simp at hx; omega) (by omega))
  have HN4 : Hid (w4.rowIs w2.heap.size 99 2 (fun i => (#[.int .i64 0, .string ⟨#[]⟩] : Array Value).getD i (.bool false))) := World.rowIs.of_block HNR.out (hK4.block _ (by omega) (by simp; omega))
  have HK4 : Hid (∀ i, w4.cell? ⟨w.heap.size, i, none⟩ = (#[.slice aw ws.length cw, .int .i64 semi, .int .i64 toh, .int .i64 top, .bool cyc, .int .i64 scan, .int .i64 old, .int .i64 copied, .int .i64 serial, .slice ar rs.length cr] : Array Value)[i]?) := Kp.has HK3.out hK4 (by omega) (by simp; omega)
  have hg0 : 0 < w.heap.size := World.block_lt_of_cell? _ ⟨0, 0, none⟩ HG.out
  have HG4 : Hid (w4.cell? ⟨0, 0, none⟩ = some (.iface 147 (.agg #[.pointer (some ⟨2, 102, none⟩)]))) := by show _ = _; rw [HB4.out.cell (p := ⟨0, 0, none⟩) hg0]; exact HG.out
  clear hK4 HZ3 HP3 HN3 HK3 HFN HB3 HDC dd HNR HG
  go_wp2_with fail
  refine (as_no w2.heap.size 1 x (.int .i64 0) (.string ⟨#[]⟩) _ HG4.out (HN4.out.cell (i := 0) (by omega)) (HN4.out.cell (i := 1) (by omega)) (fun i => HN4.out.frozen i)).mono ?_
  rintro e w5 ⟨rfl, cn0, cn1, hK5⟩
  have z5 : w2.heap.size + 1 < w5.heap.size := Nat.lt_of_lt_of_le z4 hK5.size
  have HZ5 : Hid (w5.rowIs (w.heap.size + 1 + 1) 29 10 (fun i => (#[.slice none 0 0, .int .i64 0, .int .i64 0, .int .i64 0, .bool false, .int .i64 0, .int .i64 0, .int .i64 0, .int .i64 0, .slice none 0 0] : Array Value).getD i (.bool false))) := World.rowIs.of_block HZ4.out (hK5.block _ (by omega) (by simp; omega))
  have B5 : Below w.heap.size w w5 := HB4.out.trans (hK5.below (fun x hx => by simp at hx; omega) (by omega))
  have k5 : ∀ i, w5.cell? ⟨w.heap.size, i, none⟩ = (#[.slice aw ws.length cw, .int .i64 semi, .int .i64 toh, .int .i64 top, .bool cyc, .int .i64 scan, .int .i64 old, .int .i64 copied, .int .i64 serial, .slice ar rs.length cr] : Array Value)[i]? := Kp.has HK4.out hK5 (by omega) (by simp; omega)
  have l5 : w.heap.size < w5.heap.size := by omega
  have ln5 : w2.heap.size < w5.heap.size := by omega
  have HB5 : Hid (Below w.heap.size w w5.drew) := B5.drew
  clear hK5 HZ4 HB4 HN4 HK4 HG4 cn1
  go_upto_region 10 with fail
  go_region_with (go_at_call 84; refine (clone_full _ _ _ _ _ _ _ _ _ _ _ _ _ _ y w.heap.size _ (HS.out.below HB5.out) hn (HR.out.below HB5.out (Nat.le_refl _)) hn2).mono ?_; rintro e w6 ⟨vw6, vr6, rfl, ⟨a6, rfl⟩, o6, b6⟩; obtain ⟨a7, c7, rfl⟩ := o6.sl.2.head; have cn6 : w6.cell? ⟨w2.heap.size, 0, none⟩ = some (.int .i64 1) := (by rw [b6.cell (p := ⟨w2.heap.size, 0, none⟩) ln5]; exact cn0); have RZ6 := World.rowIs.of_block HZ5.out (b6.block (w.heap.size + 1 + 1) (show w.heap.size + 1 + 1 < w5.heap.size by omega)); obtain ⟨d0, d1, d2, d3, d4, d5, d6, d7, d8, d9⟩ := row10 RZ6 rfl rfl rfl rfl rfl rfl rfl rfl rfl rfl; simp at d0 d1 d2 d3 d4 d5 d6 d7 d8 d9; have ef := World.rowIs.frozen RZ6; have HO6 : Hid (OwnAr w5.heap.size w6.heap.size w6 (.slice a6 ws.length ws.length) (.slice a7 rs.length c7) ws.length rs.length (wordAt ws) y) := o6; have HB6 : Hid (Below w.heap.size w w6) := below_next HB5.out b6; have z6 : w5.heap.size ≤ w6.heap.size := b6.size; clear o6 b6 RZ6)
  all_goals
    try go_wp2
  all_goals
    have q0 : (w6.cell? ⟨w.heap.size + 1 + 1, 0, none⟩).isSome = true := by rw [d0]; rfl
    have q1 : (w6.cell? ⟨w.heap.size + 1 + 1, 1, none⟩).isSome = true := by rw [d1]; rfl
    have q2 : (w6.cell? ⟨w.heap.size + 1 + 1, 2, none⟩).isSome = true := by rw [d2]; rfl
    have q3 : (w6.cell? ⟨w.heap.size + 1 + 1, 3, none⟩).isSome = true := by rw [d3]; rfl
    have q4 : (w6.cell? ⟨w.heap.size + 1 + 1, 4, none⟩).isSome = true := by rw [d4]; rfl
    have q5 : (w6.cell? ⟨w.heap.size + 1 + 1, 5, none⟩).isSome = true := by rw [d5]; rfl
    have q6 : (w6.cell? ⟨w.heap.size + 1 + 1, 6, none⟩).isSome = true := by rw [d6]; rfl
    have q7 : (w6.cell? ⟨w.heap.size + 1 + 1, 7, none⟩).isSome = true := by rw [d7]; rfl
    have q8 : (w6.cell? ⟨w.heap.size + 1 + 1, 8, none⟩).isSome = true := by rw [d8]; rfl
    have q9 : (w6.cell? ⟨w.heap.size + 1 + 1, 9, none⟩).isSome = true := by rw [d9]; rfl
    refine bodyPost_ret (v := .tuple #[.agg #[.slice a6 ws.length ws.length, .int .i64 semi, .int .i64 toh, .int .i64 top, .bool cyc, .int .i64 scan, .int .i64 old, .int .i64 copied, .int .i64 serial, .slice a7 rs.length c7], .int .i64 1]) (by simp [results, Tryz.results53, go_sem, q0, q1, q2, q3, q4, q5, q6, q7, q8, q9]) rfl ⟨_, _, rfl, ?_, ?_⟩
    · obtain ⟨u1, t1, u2, t2, h1, h2, h3, h4, h5, h6, h7⟩ := HO6.out
      exact ⟨u1, t1, u2, t2, by omega, by simp; omega, by omega, by simp; omega, h5, own_ten h6 (by omega), own_ten h7 (by omega)⟩
    · exact below_ten HB6.out (by omega)
end Go.Proofs.YtibjellhafndiaaGreatDoor

/- The model's SetCell. -/
namespace Go.Proofs.YtibjellhafndiaaGreatDoor
set_option maxRecDepth 20000
open Go.RowKit
set_option linter.unusedSimpArgs false
set_option linter.unusedVariables false

set_option maxHeartbeats 1000000 in
theorem l4Put_at (bw cw : Nat) (ws : List Int) (semi toh top : Int) (cyc : Bool) (scan old copied serial : Int) (ar : Option Addr) (cr : Nat) (rs : List (Int × Int)) (x : Nat) (a t m : Int) (w : World) (ha : a = x) (hW : RwW w bw ws) (hx : x + 1 < ws.length) (hn : ws.length ≤ 1048576) :
    Calls Tryz.prog 61 #[.agg #[.slice (some ⟨bw, 0, none⟩) ws.length cw, .int .i64 semi, .int .i64 toh, .int .i64 top, .bool cyc, .int .i64 scan, .int .i64 old, .int .i64 copied, .int .i64 serial, .slice ar rs.length cr], .int .i64 a, .agg #[.int .i64 t, .int .i64 m]] w fun e w' => e = .returned (.agg #[.slice (some ⟨bw, 0, none⟩) ws.length cw, .int .i64 semi, .int .i64 toh, .int .i64 top, .bool cyc, .int .i64 scan, .int .i64 old, .int .i64 copied, .int .i64 serial, .slice ar rs.length cr]) ∧ RwW w' bw (putW ws x t m) ∧ Kp [bw] w w' := by
  subst ha
  have c0 := hW.cell (i := x) (by omega)
  have c1 := hW.cell (i := x + 1) (by omega)
  have f0 := hW.frozen x
  have f1 := hW.frozen (x + 1)
  have lb := hW.lt
  have ne0 : bw ≠ w.heap.size := by omega
  have ne1 : bw ≠ w.heap.size + 1 := by omega
  have ne2 : bw ≠ w.heap.size + 1 + 1 := by omega
  have c0' : ∀ o1 o2 o3, (((w.alloc o1).alloc o2).alloc o3).cell? ⟨bw, x, none⟩ = some (.int .u64 (wordAt ws x)) := fun o1 o2 o3 => by rw [World.cell?_alloc_lt _ _ ⟨bw, x, none⟩ (by simp; omega), World.cell?_alloc_lt _ _ ⟨bw, x, none⟩ (by simp; omega), World.cell?_alloc_lt _ _ ⟨bw, x, none⟩ lb]; exact c0
  have f0' : ∀ o1 o2 o3, (((w.alloc o1).alloc o2).alloc o3).frozen? ⟨bw, x, none⟩ = false := fun o1 o2 o3 => by rw [World.frozen?_alloc_old _ _ ⟨bw, x, none⟩ (by simp; omega), World.frozen?_alloc_old _ _ ⟨bw, x, none⟩ (by simp; omega), World.frozen?_alloc_old _ _ ⟨bw, x, none⟩ ne0]; exact f0
  have x0 : (x : Int) < (ws.length : Int) := by omega
  have x1 : (x : Int) + 1 < (ws.length : Int) := by omega
  have x2 : ((x : Int) + 1).toNat = x + 1 := by omega
  have n1 : (ws.length : Int) ≤ 1048576 := by omega
  have HW : Hid (RwW w bw ws) := hW
  clear hW c0 f0 c1 f1
  go_enter Tryz.func61, Tryz.ntmps61
  go_upto_region 2 with fail
  obtain ⟨w2, hw2⟩ : ∃ V, V = (((w.alloc (.cells #[.slice (some ⟨bw, 0, none⟩) ws.length cw, .int .i64 semi, .int .i64 toh, .int .i64 top, .bool cyc, .int .i64 scan, .int .i64 old, .int .i64 copied, .int .i64 serial, .slice ar rs.length cr] 29)).alloc (.cells #[.int .i64 t, .int .i64 m] 60)).alloc (.cells #[.slice none 0 0, .int .i64 0, .int .i64 0, .int .i64 0, .bool false, .int .i64 0, .int .i64 0, .int .i64 0, .int .i64 0, .slice none 0 0] 29)).setCell ⟨bw, x, none⟩ (.int .u64 (IntKind.u64.wrap t)) := ⟨_, rfl⟩
  rw [← hw2]
  have B0 : Below w.heap.size w (((w.alloc (.cells #[.slice (some ⟨bw, 0, none⟩) ws.length cw, .int .i64 semi, .int .i64 toh, .int .i64 top, .bool cyc, .int .i64 scan, .int .i64 old, .int .i64 copied, .int .i64 serial, .slice ar rs.length cr] 29)).alloc (.cells #[.int .i64 t, .int .i64 m] 60)).alloc (.cells #[.slice none 0 0, .int .i64 0, .int .i64 0, .int .i64 0, .bool false, .int .i64 0, .int .i64 0, .int .i64 0, .int .i64 0, .slice none 0 0] 29)) := (below_second (Below.refl _ _)).alloc (by simp; omega) _
  have K2 : Kp [bw] w w2 := by rw [hw2]; exact (Kp.of_below B0).setCell (p := ⟨bw, x, none⟩) (.inl (by simp)) _
  have R2 : RwW w2 bw (ws.set x (IntKind.u64.wrap t)) := by rw [hw2]; exact RwW.set (Rw.below HW.out B0) (IntKind.u64.wrap t) (by omega)
  have k2 : ∀ i, w2.cell? ⟨w.heap.size, i, none⟩ = (#[.slice (some ⟨bw, 0, none⟩) ws.length cw, .int .i64 semi, .int .i64 toh, .int .i64 top, .bool cyc, .int .i64 scan, .int .i64 old, .int .i64 copied, .int .i64 serial, .slice ar rs.length cr] : Array Value)[i]? := fun i => by rw [hw2, World.cell?_setCell_other _ _ _ _ (by first | (simp; done) | (simp; omega))]; simp [go_sem]
  have v2 : ∀ i, w2.cell? ⟨w.heap.size + 1, i, none⟩ = (#[.int .i64 t, .int .i64 m] : Array Value)[i]? := fun i => by rw [hw2, World.cell?_setCell_other _ _ _ _ (by first | (simp; done) | (simp; omega))]; simp [go_sem]
  have Z2 : w2.rowIs (w.heap.size + 1 + 1) 29 10 (fun i => (#[.slice none 0 0, .int .i64 0, .int .i64 0, .int .i64 0, .bool false, .int .i64 0, .int .i64 0, .int .i64 0, .int .i64 0, .slice none 0 0] : Array Value).getD i (.bool false)) := by rw [hw2]; exact ⟨#[.slice none 0 0, .int .i64 0, .int .i64 0, .int .i64 0, .bool false, .int .i64 0, .int .i64 0, .int .i64 0, .int .i64 0, .slice none 0 0], (Below.heap_setCell _ _ _ _ (by simp; omega)).trans (alloc_at (by simp)), rfl, fun i hi => by simp [Array.getD, hi]⟩
  have l2 : w.heap.size + 1 + 1 < w2.heap.size := Z2.lt
  have c2 := R2.cell (i := x + 1) (by simp; omega)
  have f2 := R2.frozen (x + 1)
  have HR2 : Hid (RwW w2 bw (ws.set x (IntKind.u64.wrap t))) := R2
  have HZ2 : Hid (w2.rowIs (w.heap.size + 1 + 1) 29 10 (fun i => (#[.slice none 0 0, .int .i64 0, .int .i64 0, .int .i64 0, .bool false, .int .i64 0, .int .i64 0, .int .i64 0, .int .i64 0, .slice none 0 0] : Array Value).getD i (.bool false))) := Z2
  have HK2 : Hid (Kp [bw] w w2) := K2
  clear hw2 B0 K2 R2 Z2 c0' f0'
  go_upto_region 3 with fail
  obtain ⟨w3, hw3⟩ : ∃ V, V = w2.setCell ⟨bw, x + 1, none⟩ (.int .u64 (IntKind.u64.wrap m)) := ⟨_, rfl⟩
  rw [← hw3]
  have HR3 : Hid (RwW w3 bw (putW ws x t m)) := by show RwW w3 bw (putW ws x t m); rw [hw3]; exact RwW.set HR2.out (IntKind.u64.wrap m) (by simp; omega)
  have HK3 : Hid (Kp [bw] w w3) := by show Kp [bw] w w3; rw [hw3]; exact HK2.out.setCell (p := ⟨bw, x + 1, none⟩) (.inl (by simp)) _
  have k3 : ∀ i, w3.cell? ⟨w.heap.size, i, none⟩ = (#[.slice (some ⟨bw, 0, none⟩) ws.length cw, .int .i64 semi, .int .i64 toh, .int .i64 top, .bool cyc, .int .i64 scan, .int .i64 old, .int .i64 copied, .int .i64 serial, .slice ar rs.length cr] : Array Value)[i]? := fun i => by rw [hw3, World.cell?_setCell_other _ _ _ _ (by first | (simp; done) | (simp; omega))]; exact k2 i
  have Z3 : w3.rowIs (w.heap.size + 1 + 1) 29 10 (fun i => (#[.slice none 0 0, .int .i64 0, .int .i64 0, .int .i64 0, .bool false, .int .i64 0, .int .i64 0, .int .i64 0, .int .i64 0, .slice none 0 0] : Array Value).getD i (.bool false)) := by rw [hw3]; exact World.rowIs.of_block HZ2.out (Below.heap_setCell _ _ _ _ (by simp; omega))
  have l3 : w.heap.size + 1 + 1 < w3.heap.size := Z3.lt
  obtain ⟨d0, d1, d2, d3, d4, d5, d6, d7, d8, d9⟩ := row10 Z3 rfl rfl rfl rfl rfl rfl rfl rfl rfl rfl
  simp at d0 d1 d2 d3 d4 d5 d6 d7 d8 d9
  have ef := World.rowIs.frozen Z3
  clear hw3 k2 v2 HZ2 HR2 HK2 Z3 c2 f2
  go_wp2
  have q0 : (w3.cell? ⟨w.heap.size + 1 + 1, 0, none⟩).isSome = true := by rw [d0]; rfl
  have q1 : (w3.cell? ⟨w.heap.size + 1 + 1, 1, none⟩).isSome = true := by rw [d1]; rfl
  have q2 : (w3.cell? ⟨w.heap.size + 1 + 1, 2, none⟩).isSome = true := by rw [d2]; rfl
  have q3 : (w3.cell? ⟨w.heap.size + 1 + 1, 3, none⟩).isSome = true := by rw [d3]; rfl
  have q4 : (w3.cell? ⟨w.heap.size + 1 + 1, 4, none⟩).isSome = true := by rw [d4]; rfl
  have q5 : (w3.cell? ⟨w.heap.size + 1 + 1, 5, none⟩).isSome = true := by rw [d5]; rfl
  have q6 : (w3.cell? ⟨w.heap.size + 1 + 1, 6, none⟩).isSome = true := by rw [d6]; rfl
  have q7 : (w3.cell? ⟨w.heap.size + 1 + 1, 7, none⟩).isSome = true := by rw [d7]; rfl
  have q8 : (w3.cell? ⟨w.heap.size + 1 + 1, 8, none⟩).isSome = true := by rw [d8]; rfl
  have q9 : (w3.cell? ⟨w.heap.size + 1 + 1, 9, none⟩).isSome = true := by rw [d9]; rfl
  refine bodyPost_ret (v := .agg #[.slice (some ⟨bw, 0, none⟩) ws.length cw, .int .i64 semi, .int .i64 toh, .int .i64 top, .bool cyc, .int .i64 scan, .int .i64 old, .int .i64 copied, .int .i64 serial, .slice ar rs.length cr]) (by simp [results, Tryz.results61, go_sem, q0, q1, q2, q3, q4, q5, q6, q7, q8, q9]) rfl ⟨rfl, ?_, ?_⟩
  · exact Rw.of_block HR3.out (ten_block (by omega))
  · exact kp_ten HK3.out (by omega)
set_option maxHeartbeats 2000000 in
theorem specSetCell_no0 (aw : Option Addr) (cw : Nat) (ws : List Int) (semi toh top : Int) (cyc : Bool) (scan old copied serial : Int) (ar : Option Addr) (cr : Nat) (rs : List (Int × Int)) (r f : Int) (y : Nat → Int) (Tr : Nat) (w : World) (hs : Sl w (.slice aw ws.length cw) ws) (hn : ws.length ≤ 1048576) (hw : Words64 ws) (hrt : SlF Tr w (.slice ar rs.length cr) rs.length (2 * rs.length) (fun i => .int .i64 (y i))) (hn2 : rs.length ≤ 1048576) (hok : ¬ ArOk ws semi toh top cyc scan old copied serial y rs.length) :
    Calls Tryz.prog 22 #[.agg #[.slice aw ws.length cw, .int .i64 semi, .int .i64 toh, .int .i64 top, .bool cyc, .int .i64 scan, .int .i64 old, .int .i64 copied, .int .i64 serial, .slice ar rs.length cr], .int .i64 r, .int .i64 f] w fun e w' => ∃ vw vr, e = .returned (.tuple #[.agg #[vw, .int .i64 semi, .int .i64 toh, .int .i64 top, .bool cyc, .int .i64 scan, .int .i64 old, .int .i64 copied, .int .i64 serial, vr], .bool false]) ∧ OwnAr w.heap.size w'.heap.size w' vw vr ws.length rs.length (wordAt ws) (y) ∧ Below w.heap.size w w' := by
  have HS : Hid (Sl w (.slice aw ws.length cw) ws) := hs
  have HR : Hid (SlF w.heap.size w (.slice ar rs.length cr) rs.length (2 * rs.length) (fun i => .int .i64 (y i))) := hrt.here
  have HQ : Hid (¬ ArOk ws semi toh top cyc scan old copied serial y rs.length) := hok
  clear hs hrt hok
  go_enter Tryz.func22, Tryz.ntmps22
  go_wp2_with fail
  refine (l2Copy_at _ _ _ _ _ _ _ _ _ _ _ _ _ _ y w.heap.size _ (HS.out.below (below_second (Below.refl _ _))) hn (HR.out.below (below_second (Below.refl _ _)) (Nat.le_refl _)) hn2).mono ?_
  rintro e w1 ⟨vw, vr, rfl, o1, b1⟩
  simp only [World.size_alloc] at o1
  obtain ⟨a1, c1, rfl⟩ := o1.sl.1.head
  obtain ⟨a2, c2, rfl⟩ := o1.sl.2.head
  have B1 := below_second b1
  have l1 : w.heap.size + 1 < w1.heap.size := by have := b1.size; simp at this; omega
  have l0 : w.heap.size < w1.heap.size := by omega
  have k1 : ∀ i, w1.cell? ⟨w.heap.size, i, none⟩ = (#[.slice aw ws.length cw, .int .i64 semi, .int .i64 toh, .int .i64 top, .bool cyc, .int .i64 scan, .int .i64 old, .int .i64 copied, .int .i64 serial, .slice ar rs.length cr] : Array Value)[i]? := fun i => by rw [b1.cell (p := ⟨w.heap.size, i, none⟩) (by simp <;> omega)]; simp [go_sem]
  obtain ⟨_, hres⟩ := box_row2 (n := 10) b1 (by simp) rfl rfl
  have Z1 : w1.rowIs (w.heap.size + 1) 29 10 (fun i => (#[.slice none 0 0, .int .i64 0, .int .i64 0, .int .i64 0, .bool false, .int .i64 0, .int .i64 0, .int .i64 0, .int .i64 0, .slice none 0 0] : Array Value).getD i (.bool false)) := hres
  have HZ1 : Hid _ := Z1
  clear b1 hres Z1
  go_wp2_with fail
  refine (specArenaOk_at _ _ _ _ _ _ _ _ _ _ _ _ _ _ y w.heap.size _ (HS.out.below (below_box B1)) hn hw (HR.out.below (below_box B1) (Nat.le_refl _)) hn2).mono ?_
  rintro e w2 ⟨q, rfl, hq, b2⟩
  obtain rfl : q = false := by
    cases q with
    | false => rfl
    | true => exact absurd (hq.1 rfl) HQ.out
  have b2f := below_first b2
  have p2 := one_cells b2 (by simp)
  have z2 : w1.heap.size < w2.heap.size := size_first b2
  have B2 := below_next B1 b2f
  have k2 := has_below k1 b2f (by omega)
  have o2 := o1.below b2f (by omega)
  have HZ2 : Hid (w2.rowIs (w.heap.size + 1) 29 10 (fun i => (#[.slice none 0 0, .int .i64 0, .int .i64 0, .int .i64 0, .bool false, .int .i64 0, .int .i64 0, .int .i64 0, .int .i64 0, .slice none 0 0] : Array Value).getD i (.bool false))) := World.rowIs.of_block HZ1.out (b2f.block _ (by omega))
  clear k1 b2 b2f o1 HZ1 hq B1
  obtain ⟨d0, d1, d2, d3, d4, d5, d6, d7, d8, d9⟩ := row10 HZ2.out rfl rfl rfl rfl rfl rfl rfl rfl rfl rfl
  simp at d0 d1 d2 d3 d4 d5 d6 d7 d8 d9
  have ef := World.rowIs.frozen HZ2.out
  have HO : Hid (OwnAr (w.heap.size + 1 + 1) w1.heap.size w2 (.slice a1 ws.length c1) (.slice a2 rs.length c2) ws.length rs.length (wordAt ws) y) := o2
  have HB : Hid (Below w.heap.size w w2) := B2
  clear o2 B2 HZ2
  go_wp2
  have q0 : (w2.cell? ⟨w.heap.size + 1, 0, none⟩).isSome = true := by rw [d0]; rfl
  have q1 : (w2.cell? ⟨w.heap.size + 1, 1, none⟩).isSome = true := by rw [d1]; rfl
  have q2 : (w2.cell? ⟨w.heap.size + 1, 2, none⟩).isSome = true := by rw [d2]; rfl
  have q3 : (w2.cell? ⟨w.heap.size + 1, 3, none⟩).isSome = true := by rw [d3]; rfl
  have q4 : (w2.cell? ⟨w.heap.size + 1, 4, none⟩).isSome = true := by rw [d4]; rfl
  have q5 : (w2.cell? ⟨w.heap.size + 1, 5, none⟩).isSome = true := by rw [d5]; rfl
  have q6 : (w2.cell? ⟨w.heap.size + 1, 6, none⟩).isSome = true := by rw [d6]; rfl
  have q7 : (w2.cell? ⟨w.heap.size + 1, 7, none⟩).isSome = true := by rw [d7]; rfl
  have q8 : (w2.cell? ⟨w.heap.size + 1, 8, none⟩).isSome = true := by rw [d8]; rfl
  have q9 : (w2.cell? ⟨w.heap.size + 1, 9, none⟩).isSome = true := by rw [d9]; rfl
  refine bodyPost_ret (v := .tuple #[.agg #[.slice a1 ws.length c1, .int .i64 semi, .int .i64 toh, .int .i64 top, .bool cyc, .int .i64 scan, .int .i64 old, .int .i64 copied, .int .i64 serial, .slice a2 rs.length c2], .bool false]) (by simp [results, Tryz.results22, go_sem, q0, q1, q2, q3, q4, q5, q6, q7, q8, q9]) rfl ⟨_, _, rfl, ?_, ?_⟩
  · obtain ⟨u1, t1, u2, t2, h1, h2, h3, h4, h5, h6, h7⟩ := HO.out
    exact ⟨u1, t1, u2, t2, by omega, by simp; omega, by omega, by simp; omega, h5, own_ten h6 (by omega), own_ten h7 (by omega)⟩
  · exact below_ten HB.out (by omega)
set_option maxHeartbeats 2000000 in
theorem specSetCell_no1 (aw : Option Addr) (cw : Nat) (ws : List Int) (semi toh top : Int) (cyc : Bool) (scan old copied serial : Int) (ar : Option Addr) (cr : Nat) (rs : List (Int × Int)) (r f : Int) (y : Nat → Int) (Tr : Nat) (w : World) (hs : Sl w (.slice aw ws.length cw) ws) (hn : ws.length ≤ 1048576) (hw : Words64 ws) (hrt : SlF Tr w (.slice ar rs.length cr) rs.length (2 * rs.length) (fun i => .int .i64 (y i))) (hn2 : rs.length ≤ 1048576) (hok : ArOk ws semi toh top cyc scan old copied serial y rs.length) (hr : hasR r rs.length = false) :
    Calls Tryz.prog 22 #[.agg #[.slice aw ws.length cw, .int .i64 semi, .int .i64 toh, .int .i64 top, .bool cyc, .int .i64 scan, .int .i64 old, .int .i64 copied, .int .i64 serial, .slice ar rs.length cr], .int .i64 r, .int .i64 f] w fun e w' => ∃ vw vr, e = .returned (.tuple #[.agg #[vw, .int .i64 semi, .int .i64 toh, .int .i64 top, .bool cyc, .int .i64 scan, .int .i64 old, .int .i64 copied, .int .i64 serial, vr], .bool false]) ∧ OwnAr w.heap.size w'.heap.size w' vw vr ws.length rs.length (wordAt ws) (y) ∧ Below w.heap.size w w' := by
  have HS : Hid (Sl w (.slice aw ws.length cw) ws) := hs
  have HR : Hid (SlF w.heap.size w (.slice ar rs.length cr) rs.length (2 * rs.length) (fun i => .int .i64 (y i))) := hrt.here
  have HQ : Hid (ArOk ws semi toh top cyc scan old copied serial y rs.length) := hok
  clear hs hrt hok
  go_enter Tryz.func22, Tryz.ntmps22
  go_wp2_with fail
  refine (l2Copy_at _ _ _ _ _ _ _ _ _ _ _ _ _ _ y w.heap.size _ (HS.out.below (below_second (Below.refl _ _))) hn (HR.out.below (below_second (Below.refl _ _)) (Nat.le_refl _)) hn2).mono ?_
  rintro e w1 ⟨vw, vr, rfl, o1, b1⟩
  simp only [World.size_alloc] at o1
  obtain ⟨a1, c1, rfl⟩ := o1.sl.1.head
  obtain ⟨a2, c2, rfl⟩ := o1.sl.2.head
  have B1 := below_second b1
  have l1 : w.heap.size + 1 < w1.heap.size := by have := b1.size; simp at this; omega
  have l0 : w.heap.size < w1.heap.size := by omega
  have k1 : ∀ i, w1.cell? ⟨w.heap.size, i, none⟩ = (#[.slice aw ws.length cw, .int .i64 semi, .int .i64 toh, .int .i64 top, .bool cyc, .int .i64 scan, .int .i64 old, .int .i64 copied, .int .i64 serial, .slice ar rs.length cr] : Array Value)[i]? := fun i => by rw [b1.cell (p := ⟨w.heap.size, i, none⟩) (by simp <;> omega)]; simp [go_sem]
  obtain ⟨_, hres⟩ := box_row2 (n := 10) b1 (by simp) rfl rfl
  have Z1 : w1.rowIs (w.heap.size + 1) 29 10 (fun i => (#[.slice none 0 0, .int .i64 0, .int .i64 0, .int .i64 0, .bool false, .int .i64 0, .int .i64 0, .int .i64 0, .int .i64 0, .slice none 0 0] : Array Value).getD i (.bool false)) := hres
  have HZ1 : Hid _ := Z1
  clear b1 hres Z1
  go_wp2_with fail
  refine (specArenaOk_at _ _ _ _ _ _ _ _ _ _ _ _ _ _ y w.heap.size _ (HS.out.below (below_box B1)) hn hw (HR.out.below (below_box B1) (Nat.le_refl _)) hn2).mono ?_
  rintro e w2 ⟨q, rfl, hq, b2⟩
  obtain rfl := hq.2 HQ.out
  have b2f := below_first b2
  have p2 := one_cells b2 (by simp)
  have z2 : w1.heap.size < w2.heap.size := size_first b2
  have B2 := below_next B1 b2f
  have k2 := has_below k1 b2f (by omega)
  have o2 := o1.below b2f (by omega)
  have HZ2 : Hid (w2.rowIs (w.heap.size + 1) 29 10 (fun i => (#[.slice none 0 0, .int .i64 0, .int .i64 0, .int .i64 0, .bool false, .int .i64 0, .int .i64 0, .int .i64 0, .int .i64 0, .slice none 0 0] : Array Value).getD i (.bool false))) := World.rowIs.of_block HZ1.out (b2f.block _ (by omega))
  clear k1 b2 b2f o1 HZ1 hq B1
  go_wp2_with fail
  refine (l2Root_any _ _ _ _ _ _ _ _ _ _ _ _ _ _ _ _ hn2).mono ?_
  rintro e w3 ⟨rfl, b3⟩
  rw [show hasR r rs.length = false from hr]
  have z3 : w1.heap.size < w3.heap.size := Nat.lt_of_lt_of_le z2 b3.size
  have B3 := below_next B2 b3
  have k3 := has_below k2 b3 (by omega)
  have p3 := has_below p2 b3 (by omega)
  have o3 := o2.below b3 (by omega)
  have HZ3 : Hid (w3.rowIs (w.heap.size + 1) 29 10 (fun i => (#[.slice none 0 0, .int .i64 0, .int .i64 0, .int .i64 0, .bool false, .int .i64 0, .int .i64 0, .int .i64 0, .int .i64 0, .slice none 0 0] : Array Value).getD i (.bool false))) := World.rowIs.of_block HZ2.out (b3.block _ (by omega))
  clear k2 p2 b3 o2 HZ2 B2
  obtain ⟨d0, d1, d2, d3, d4, d5, d6, d7, d8, d9⟩ := row10 HZ3.out rfl rfl rfl rfl rfl rfl rfl rfl rfl rfl
  simp at d0 d1 d2 d3 d4 d5 d6 d7 d8 d9
  have ef := World.rowIs.frozen HZ3.out
  have HO : Hid (OwnAr (w.heap.size + 1 + 1) w1.heap.size w3 (.slice a1 ws.length c1) (.slice a2 rs.length c2) ws.length rs.length (wordAt ws) y) := o3
  have HB : Hid (Below w.heap.size w w3) := B3
  clear o3 B3 HZ3
  go_wp2
  have q0 : (w3.cell? ⟨w.heap.size + 1, 0, none⟩).isSome = true := by rw [d0]; rfl
  have q1 : (w3.cell? ⟨w.heap.size + 1, 1, none⟩).isSome = true := by rw [d1]; rfl
  have q2 : (w3.cell? ⟨w.heap.size + 1, 2, none⟩).isSome = true := by rw [d2]; rfl
  have q3 : (w3.cell? ⟨w.heap.size + 1, 3, none⟩).isSome = true := by rw [d3]; rfl
  have q4 : (w3.cell? ⟨w.heap.size + 1, 4, none⟩).isSome = true := by rw [d4]; rfl
  have q5 : (w3.cell? ⟨w.heap.size + 1, 5, none⟩).isSome = true := by rw [d5]; rfl
  have q6 : (w3.cell? ⟨w.heap.size + 1, 6, none⟩).isSome = true := by rw [d6]; rfl
  have q7 : (w3.cell? ⟨w.heap.size + 1, 7, none⟩).isSome = true := by rw [d7]; rfl
  have q8 : (w3.cell? ⟨w.heap.size + 1, 8, none⟩).isSome = true := by rw [d8]; rfl
  have q9 : (w3.cell? ⟨w.heap.size + 1, 9, none⟩).isSome = true := by rw [d9]; rfl
  refine bodyPost_ret (v := .tuple #[.agg #[.slice a1 ws.length c1, .int .i64 semi, .int .i64 toh, .int .i64 top, .bool cyc, .int .i64 scan, .int .i64 old, .int .i64 copied, .int .i64 serial, .slice a2 rs.length c2], .bool false]) (by simp [results, Tryz.results22, go_sem, q0, q1, q2, q3, q4, q5, q6, q7, q8, q9]) rfl ⟨_, _, rfl, ?_, ?_⟩
  · obtain ⟨u1, t1, u2, t2, h1, h2, h3, h4, h5, h6, h7⟩ := HO.out
    exact ⟨u1, t1, u2, t2, by omega, by simp; omega, by omega, by simp; omega, h5, own_ten h6 (by omega), own_ten h7 (by omega)⟩
  · exact below_ten HB.out (by omega)
set_option maxHeartbeats 2000000 in
theorem specSetCell_no2 (aw : Option Addr) (cw : Nat) (ws : List Int) (semi toh top : Int) (cyc : Bool) (scan old copied serial : Int) (ar : Option Addr) (cr : Nat) (rs : List (Int × Int)) (r f : Int) (y : Nat → Int) (Tr : Nat) (w : World) (hs : Sl w (.slice aw ws.length cw) ws) (hn : ws.length ≤ 1048576) (hw : Words64 ws) (hrt : SlF Tr w (.slice ar rs.length cr) rs.length (2 * rs.length) (fun i => .int .i64 (y i))) (hn2 : rs.length ≤ 1048576) (hok : ArOk ws semi toh top cyc scan old copied serial y rs.length) (hr : hasR r rs.length = true) (hf : hasR f rs.length = false) :
    Calls Tryz.prog 22 #[.agg #[.slice aw ws.length cw, .int .i64 semi, .int .i64 toh, .int .i64 top, .bool cyc, .int .i64 scan, .int .i64 old, .int .i64 copied, .int .i64 serial, .slice ar rs.length cr], .int .i64 r, .int .i64 f] w fun e w' => ∃ vw vr, e = .returned (.tuple #[.agg #[vw, .int .i64 semi, .int .i64 toh, .int .i64 top, .bool cyc, .int .i64 scan, .int .i64 old, .int .i64 copied, .int .i64 serial, vr], .bool false]) ∧ OwnAr w.heap.size w'.heap.size w' vw vr ws.length rs.length (wordAt ws) (y) ∧ Below w.heap.size w w' := by
  have HS : Hid (Sl w (.slice aw ws.length cw) ws) := hs
  have HR : Hid (SlF w.heap.size w (.slice ar rs.length cr) rs.length (2 * rs.length) (fun i => .int .i64 (y i))) := hrt.here
  have HQ : Hid (ArOk ws semi toh top cyc scan old copied serial y rs.length) := hok
  clear hs hrt hok
  go_enter Tryz.func22, Tryz.ntmps22
  go_wp2_with fail
  refine (l2Copy_at _ _ _ _ _ _ _ _ _ _ _ _ _ _ y w.heap.size _ (HS.out.below (below_second (Below.refl _ _))) hn (HR.out.below (below_second (Below.refl _ _)) (Nat.le_refl _)) hn2).mono ?_
  rintro e w1 ⟨vw, vr, rfl, o1, b1⟩
  simp only [World.size_alloc] at o1
  obtain ⟨a1, c1, rfl⟩ := o1.sl.1.head
  obtain ⟨a2, c2, rfl⟩ := o1.sl.2.head
  have B1 := below_second b1
  have l1 : w.heap.size + 1 < w1.heap.size := by have := b1.size; simp at this; omega
  have l0 : w.heap.size < w1.heap.size := by omega
  have k1 : ∀ i, w1.cell? ⟨w.heap.size, i, none⟩ = (#[.slice aw ws.length cw, .int .i64 semi, .int .i64 toh, .int .i64 top, .bool cyc, .int .i64 scan, .int .i64 old, .int .i64 copied, .int .i64 serial, .slice ar rs.length cr] : Array Value)[i]? := fun i => by rw [b1.cell (p := ⟨w.heap.size, i, none⟩) (by simp <;> omega)]; simp [go_sem]
  obtain ⟨_, hres⟩ := box_row2 (n := 10) b1 (by simp) rfl rfl
  have Z1 : w1.rowIs (w.heap.size + 1) 29 10 (fun i => (#[.slice none 0 0, .int .i64 0, .int .i64 0, .int .i64 0, .bool false, .int .i64 0, .int .i64 0, .int .i64 0, .int .i64 0, .slice none 0 0] : Array Value).getD i (.bool false)) := hres
  have HZ1 : Hid _ := Z1
  clear b1 hres Z1
  go_wp2_with fail
  refine (specArenaOk_at _ _ _ _ _ _ _ _ _ _ _ _ _ _ y w.heap.size _ (HS.out.below (below_box B1)) hn hw (HR.out.below (below_box B1) (Nat.le_refl _)) hn2).mono ?_
  rintro e w2 ⟨q, rfl, hq, b2⟩
  obtain rfl := hq.2 HQ.out
  have b2f := below_first b2
  have p2 := one_cells b2 (by simp)
  have z2 : w1.heap.size < w2.heap.size := size_first b2
  have B2 := below_next B1 b2f
  have k2 := has_below k1 b2f (by omega)
  have o2 := o1.below b2f (by omega)
  have HZ2 : Hid (w2.rowIs (w.heap.size + 1) 29 10 (fun i => (#[.slice none 0 0, .int .i64 0, .int .i64 0, .int .i64 0, .bool false, .int .i64 0, .int .i64 0, .int .i64 0, .int .i64 0, .slice none 0 0] : Array Value).getD i (.bool false))) := World.rowIs.of_block HZ1.out (b2f.block _ (by omega))
  clear k1 b2 b2f o1 HZ1 hq B1
  go_wp2_with fail
  refine (l2Root_any _ _ _ _ _ _ _ _ _ _ _ _ _ _ _ _ hn2).mono ?_
  rintro e w3 ⟨rfl, b3⟩
  rw [show hasR r rs.length = true from hr]
  have z3 : w1.heap.size < w3.heap.size := Nat.lt_of_lt_of_le z2 b3.size
  have B3 := below_next B2 b3
  have k3 := has_below k2 b3 (by omega)
  have p3 := has_below p2 b3 (by omega)
  have o3 := o2.below b3 (by omega)
  have HZ3 : Hid (w3.rowIs (w.heap.size + 1) 29 10 (fun i => (#[.slice none 0 0, .int .i64 0, .int .i64 0, .int .i64 0, .bool false, .int .i64 0, .int .i64 0, .int .i64 0, .int .i64 0, .slice none 0 0] : Array Value).getD i (.bool false))) := World.rowIs.of_block HZ2.out (b3.block _ (by omega))
  clear k2 p2 b3 o2 HZ2 B2
  go_wp2_with fail
  refine (l2Root_any _ _ _ _ _ _ _ _ _ _ _ _ _ _ _ _ hn2).mono ?_
  rintro e w4 ⟨rfl, b4⟩
  rw [show hasR f rs.length = false from hf]
  have z4 : w1.heap.size < w4.heap.size := Nat.lt_of_lt_of_le z3 b4.size
  have B4 := below_next B3 b4
  have k4 := has_below k3 b4 (by omega)
  have p4 := has_below p3 b4 (by omega)
  have o4 := o3.below b4 (by omega)
  have HZ4 : Hid (w4.rowIs (w.heap.size + 1) 29 10 (fun i => (#[.slice none 0 0, .int .i64 0, .int .i64 0, .int .i64 0, .bool false, .int .i64 0, .int .i64 0, .int .i64 0, .int .i64 0, .slice none 0 0] : Array Value).getD i (.bool false))) := World.rowIs.of_block HZ3.out (b4.block _ (by omega))
  clear k3 p3 b4 o3 HZ3 B3
  obtain ⟨d0, d1, d2, d3, d4, d5, d6, d7, d8, d9⟩ := row10 HZ4.out rfl rfl rfl rfl rfl rfl rfl rfl rfl rfl
  simp at d0 d1 d2 d3 d4 d5 d6 d7 d8 d9
  have ef := World.rowIs.frozen HZ4.out
  have HO : Hid (OwnAr (w.heap.size + 1 + 1) w1.heap.size w4 (.slice a1 ws.length c1) (.slice a2 rs.length c2) ws.length rs.length (wordAt ws) y) := o4
  have HB : Hid (Below w.heap.size w w4) := B4
  clear o4 B4 HZ4
  go_wp2
  have q0 : (w4.cell? ⟨w.heap.size + 1, 0, none⟩).isSome = true := by rw [d0]; rfl
  have q1 : (w4.cell? ⟨w.heap.size + 1, 1, none⟩).isSome = true := by rw [d1]; rfl
  have q2 : (w4.cell? ⟨w.heap.size + 1, 2, none⟩).isSome = true := by rw [d2]; rfl
  have q3 : (w4.cell? ⟨w.heap.size + 1, 3, none⟩).isSome = true := by rw [d3]; rfl
  have q4 : (w4.cell? ⟨w.heap.size + 1, 4, none⟩).isSome = true := by rw [d4]; rfl
  have q5 : (w4.cell? ⟨w.heap.size + 1, 5, none⟩).isSome = true := by rw [d5]; rfl
  have q6 : (w4.cell? ⟨w.heap.size + 1, 6, none⟩).isSome = true := by rw [d6]; rfl
  have q7 : (w4.cell? ⟨w.heap.size + 1, 7, none⟩).isSome = true := by rw [d7]; rfl
  have q8 : (w4.cell? ⟨w.heap.size + 1, 8, none⟩).isSome = true := by rw [d8]; rfl
  have q9 : (w4.cell? ⟨w.heap.size + 1, 9, none⟩).isSome = true := by rw [d9]; rfl
  refine bodyPost_ret (v := .tuple #[.agg #[.slice a1 ws.length c1, .int .i64 semi, .int .i64 toh, .int .i64 top, .bool cyc, .int .i64 scan, .int .i64 old, .int .i64 copied, .int .i64 serial, .slice a2 rs.length c2], .bool false]) (by simp [results, Tryz.results22, go_sem, q0, q1, q2, q3, q4, q5, q6, q7, q8, q9]) rfl ⟨_, _, rfl, ?_, ?_⟩
  · obtain ⟨u1, t1, u2, t2, h1, h2, h3, h4, h5, h6, h7⟩ := HO.out
    exact ⟨u1, t1, u2, t2, by omega, by simp; omega, by omega, by simp; omega, h5, own_ten h6 (by omega), own_ten h7 (by omega)⟩
  · exact below_ten HB.out (by omega)
set_option maxHeartbeats 2000000 in
theorem specSetCell_no3 (aw : Option Addr) (cw : Nat) (ws : List Int) (semi toh top : Int) (cyc : Bool) (scan old copied serial : Int) (ar : Option Addr) (cr : Nat) (rs : List (Int × Int)) (k j : Nat) (y : Nat → Int) (Tr : Nat) (w : World) (hs : Sl w (.slice aw ws.length cw) ws) (hn : ws.length ≤ 1048576) (hw : Words64 ws) (hrt : SlF Tr w (.slice ar rs.length cr) rs.length (2 * rs.length) (fun i => .int .i64 (y i))) (hn2 : rs.length ≤ 1048576) (hok : ArOk ws semi toh top cyc scan old copied serial y rs.length) (hk : k < rs.length) (hj : j < rs.length) (h9 : y (2 * k) ≠ 9) :
    Calls Tryz.prog 22 #[.agg #[.slice aw ws.length cw, .int .i64 semi, .int .i64 toh, .int .i64 top, .bool cyc, .int .i64 scan, .int .i64 old, .int .i64 copied, .int .i64 serial, .slice ar rs.length cr], .int .i64 (k : Int), .int .i64 (j : Int)] w fun e w' => ∃ vw vr, e = .returned (.tuple #[.agg #[vw, .int .i64 semi, .int .i64 toh, .int .i64 top, .bool cyc, .int .i64 scan, .int .i64 old, .int .i64 copied, .int .i64 serial, vr], .bool false]) ∧ OwnAr w.heap.size w'.heap.size w' vw vr ws.length rs.length (wordAt ws) (y) ∧ Below w.heap.size w w' := by
  have HS : Hid (Sl w (.slice aw ws.length cw) ws) := hs
  have HR : Hid (SlF w.heap.size w (.slice ar rs.length cr) rs.length (2 * rs.length) (fun i => .int .i64 (y i))) := hrt.here
  have HQ : Hid (ArOk ws semi toh top cyc scan old copied serial y rs.length) := hok
  clear hs hrt hok
  go_enter Tryz.func22, Tryz.ntmps22
  go_wp2_with fail
  refine (l2Copy_at _ _ _ _ _ _ _ _ _ _ _ _ _ _ y w.heap.size _ (HS.out.below (below_second (Below.refl _ _))) hn (HR.out.below (below_second (Below.refl _ _)) (Nat.le_refl _)) hn2).mono ?_
  rintro e w1 ⟨vw, vr, rfl, o1, b1⟩
  simp only [World.size_alloc] at o1
  obtain ⟨a1, c1, rfl⟩ := o1.sl.1.head
  obtain ⟨a2, c2, rfl⟩ := o1.sl.2.head
  have B1 := below_second b1
  have l1 : w.heap.size + 1 < w1.heap.size := by have := b1.size; simp at this; omega
  have l0 : w.heap.size < w1.heap.size := by omega
  have k1 : ∀ i, w1.cell? ⟨w.heap.size, i, none⟩ = (#[.slice aw ws.length cw, .int .i64 semi, .int .i64 toh, .int .i64 top, .bool cyc, .int .i64 scan, .int .i64 old, .int .i64 copied, .int .i64 serial, .slice ar rs.length cr] : Array Value)[i]? := fun i => by rw [b1.cell (p := ⟨w.heap.size, i, none⟩) (by simp <;> omega)]; simp [go_sem]
  obtain ⟨_, hres⟩ := box_row2 (n := 10) b1 (by simp) rfl rfl
  have Z1 : w1.rowIs (w.heap.size + 1) 29 10 (fun i => (#[.slice none 0 0, .int .i64 0, .int .i64 0, .int .i64 0, .bool false, .int .i64 0, .int .i64 0, .int .i64 0, .int .i64 0, .slice none 0 0] : Array Value).getD i (.bool false)) := hres
  have HZ1 : Hid _ := Z1
  clear b1 hres Z1
  go_wp2_with fail
  refine (specArenaOk_at _ _ _ _ _ _ _ _ _ _ _ _ _ _ y w.heap.size _ (HS.out.below (below_box B1)) hn hw (HR.out.below (below_box B1) (Nat.le_refl _)) hn2).mono ?_
  rintro e w2 ⟨q, rfl, hq, b2⟩
  obtain rfl := hq.2 HQ.out
  have b2f := below_first b2
  have p2 := one_cells b2 (by simp)
  have z2 : w1.heap.size < w2.heap.size := size_first b2
  have B2 := below_next B1 b2f
  have k2 := has_below k1 b2f (by omega)
  have o2 := o1.below b2f (by omega)
  have HZ2 : Hid (w2.rowIs (w.heap.size + 1) 29 10 (fun i => (#[.slice none 0 0, .int .i64 0, .int .i64 0, .int .i64 0, .bool false, .int .i64 0, .int .i64 0, .int .i64 0, .int .i64 0, .slice none 0 0] : Array Value).getD i (.bool false))) := World.rowIs.of_block HZ1.out (b2f.block _ (by omega))
  clear k1 b2 b2f o1 HZ1 hq B1
  go_wp2_with fail
  refine (l2Root_any _ _ _ _ _ _ _ _ _ _ _ _ _ _ _ _ hn2).mono ?_
  rintro e w3 ⟨rfl, b3⟩
  rw [show hasR (k : Int) rs.length = true from (decide_eq_true ⟨by omega, by omega⟩)]
  have z3 : w1.heap.size < w3.heap.size := Nat.lt_of_lt_of_le z2 b3.size
  have B3 := below_next B2 b3
  have k3 := has_below k2 b3 (by omega)
  have p3 := has_below p2 b3 (by omega)
  have o3 := o2.below b3 (by omega)
  have HZ3 : Hid (w3.rowIs (w.heap.size + 1) 29 10 (fun i => (#[.slice none 0 0, .int .i64 0, .int .i64 0, .int .i64 0, .bool false, .int .i64 0, .int .i64 0, .int .i64 0, .int .i64 0, .slice none 0 0] : Array Value).getD i (.bool false))) := World.rowIs.of_block HZ2.out (b3.block _ (by omega))
  clear k2 p2 b3 o2 HZ2 B2
  go_wp2_with fail
  refine (l2Root_any _ _ _ _ _ _ _ _ _ _ _ _ _ _ _ _ hn2).mono ?_
  rintro e w4 ⟨rfl, b4⟩
  rw [show hasR (j : Int) rs.length = true from (decide_eq_true ⟨by omega, by omega⟩)]
  have z4 : w1.heap.size < w4.heap.size := Nat.lt_of_lt_of_le z3 b4.size
  have B4 := below_next B3 b4
  have k4 := has_below k3 b4 (by omega)
  have p4 := has_below p3 b4 (by omega)
  have o4 := o3.below b4 (by omega)
  have HZ4 : Hid (w4.rowIs (w.heap.size + 1) 29 10 (fun i => (#[.slice none 0 0, .int .i64 0, .int .i64 0, .int .i64 0, .bool false, .int .i64 0, .int .i64 0, .int .i64 0, .int .i64 0, .slice none 0 0] : Array Value).getD i (.bool false))) := World.rowIs.of_block HZ3.out (b4.block _ (by omega))
  clear k3 p3 b4 o3 HZ3 B3
  obtain ⟨br, offr, cap', hv, _, lbr, hcr⟩ := HR.out.parts (k := 0) (by omega)
  simp only [Value.slice.injEq] at hv
  obtain ⟨rfl, _, rfl⟩ := hv
  have x0 : w4.cell? ⟨br, offr + k * 2, none⟩ = some (.int .i64 (y (2 * k))) := by rw [B4.cell (p := ⟨br, offr + k * 2, none⟩) lbr, Nat.mul_comm]; exact hcr (2 * k) (by omega)
  have x1 : w4.cell? ⟨br, offr + k * 2 + 1, none⟩ = some (.int .i64 (y (2 * k + 1))) := by rw [B4.cell (p := ⟨br, offr + k * 2 + 1, none⟩) lbr, Nat.mul_comm]; exact hcr (2 * k + 1) (by omega)
  have x2 : w4.cell? ⟨br, offr + j * 2, none⟩ = some (.int .i64 (y (2 * j))) := by rw [B4.cell (p := ⟨br, offr + j * 2, none⟩) lbr, Nat.mul_comm]; exact hcr (2 * j) (by omega)
  have x3 : w4.cell? ⟨br, offr + j * 2 + 1, none⟩ = some (.int .i64 (y (2 * j + 1))) := by rw [B4.cell (p := ⟨br, offr + j * 2 + 1, none⟩) lbr, Nat.mul_comm]; exact hcr (2 * j + 1) (by omega)
  have hk' : (k : Int) < (rs.length : Int) := by omega
  have hj' : (j : Int) < (rs.length : Int) := by omega
  obtain ⟨tt, htt⟩ : ∃ t, t = y (2 * k) := ⟨_, rfl⟩
  rw [← htt] at x0 h9
  clear hcr
  have e9 : (tt != 9) = true := by simpa using h9
  clear h9 htt
  obtain ⟨d0, d1, d2, d3, d4, d5, d6, d7, d8, d9⟩ := row10 HZ4.out rfl rfl rfl rfl rfl rfl rfl rfl rfl rfl
  simp at d0 d1 d2 d3 d4 d5 d6 d7 d8 d9
  have ef := World.rowIs.frozen HZ4.out
  have HO : Hid (OwnAr (w.heap.size + 1 + 1) w1.heap.size w4 (.slice a1 ws.length c1) (.slice a2 rs.length c2) ws.length rs.length (wordAt ws) y) := o4
  have HB : Hid (Below w.heap.size w w4) := B4
  clear o4 B4 HZ4
  go_wp2
  have q0 : (w4.cell? ⟨w.heap.size + 1, 0, none⟩).isSome = true := by rw [d0]; rfl
  have q1 : (w4.cell? ⟨w.heap.size + 1, 1, none⟩).isSome = true := by rw [d1]; rfl
  have q2 : (w4.cell? ⟨w.heap.size + 1, 2, none⟩).isSome = true := by rw [d2]; rfl
  have q3 : (w4.cell? ⟨w.heap.size + 1, 3, none⟩).isSome = true := by rw [d3]; rfl
  have q4 : (w4.cell? ⟨w.heap.size + 1, 4, none⟩).isSome = true := by rw [d4]; rfl
  have q5 : (w4.cell? ⟨w.heap.size + 1, 5, none⟩).isSome = true := by rw [d5]; rfl
  have q6 : (w4.cell? ⟨w.heap.size + 1, 6, none⟩).isSome = true := by rw [d6]; rfl
  have q7 : (w4.cell? ⟨w.heap.size + 1, 7, none⟩).isSome = true := by rw [d7]; rfl
  have q8 : (w4.cell? ⟨w.heap.size + 1, 8, none⟩).isSome = true := by rw [d8]; rfl
  have q9 : (w4.cell? ⟨w.heap.size + 1, 9, none⟩).isSome = true := by rw [d9]; rfl
  refine bodyPost_ret (v := .tuple #[.agg #[.slice a1 ws.length c1, .int .i64 semi, .int .i64 toh, .int .i64 top, .bool cyc, .int .i64 scan, .int .i64 old, .int .i64 copied, .int .i64 serial, .slice a2 rs.length c2], .bool false]) (by simp [results, Tryz.results22, go_sem, q0, q1, q2, q3, q4, q5, q6, q7, q8, q9]) rfl ⟨_, _, rfl, ?_, ?_⟩
  · obtain ⟨u1, t1, u2, t2, h1, h2, h3, h4, h5, h6, h7⟩ := HO.out
    exact ⟨u1, t1, u2, t2, by omega, by simp; omega, by omega, by simp; omega, h5, own_ten h6 (by omega), own_ten h7 (by omega)⟩
  · exact below_ten HB.out (by omega)
end Go.Proofs.YtibjellhafndiaaGreatDoor

/- The program's SetCell. -/
namespace Go.Proofs.YtibjellhafndiaaGreatDoor
set_option maxRecDepth 20000
open Go.RowKit
set_option linter.unusedSimpArgs false
set_option linter.unusedVariables false

set_option maxHeartbeats 2000000 in
theorem implSetCell_by (aw : Option Addr) (cw : Nat) (ws : List Int) (semi toh top : Int) (cyc : Bool) (scan old copied serial : Int) (ar : Option Addr) (cr : Nat) (rs : List (Int × Int)) (r f : Int) (semj tohj topj : Int) (cycj : Bool) (scanj oldj copiedj serialj : Int) (zj yj : Nat → Int) (c : Int) (b : Bool) (w : World) (hc : (c == 0) = b)
    (hE : ∀ W, Below w.heap.size w W → Calls Tryz.prog 53 #[.agg #[.slice aw ws.length cw, .int .i64 semi, .int .i64 toh, .int .i64 top, .bool cyc, .int .i64 scan, .int .i64 old, .int .i64 copied, .int .i64 serial, .slice ar rs.length cr], .int .i64 2, .agg #[.pointer none, .int .i64 r, .int .i64 0, .int .i64 0, .int .i64 f, .int .i64 0, .int .i64 0, .int .i64 0, .int .i64 0, .slice none 0 0, .string ⟨#[]⟩]] W fun e w' => ∃ vw vr, e = .returned (.tuple #[.agg #[vw, .int .i64 semj, .int .i64 tohj, .int .i64 topj, .bool cycj, .int .i64 scanj, .int .i64 oldj, .int .i64 copiedj, .int .i64 serialj, vr], .int .i64 c]) ∧ OwnAr W.heap.size w'.heap.size w' vw vr ws.length rs.length zj yj ∧ Below W.heap.size W w') :
    Calls Tryz.prog 23 #[.agg #[.slice aw ws.length cw, .int .i64 semi, .int .i64 toh, .int .i64 top, .bool cyc, .int .i64 scan, .int .i64 old, .int .i64 copied, .int .i64 serial, .slice ar rs.length cr], .int .i64 r, .int .i64 f] w fun e w' => ∃ vw vr, e = .returned (.tuple #[.agg #[vw, .int .i64 semj, .int .i64 tohj, .int .i64 topj, .bool cycj, .int .i64 scanj, .int .i64 oldj, .int .i64 copiedj, .int .i64 serialj, vr], .bool b]) ∧ OwnAr w.heap.size w'.heap.size w' vw vr ws.length rs.length zj yj ∧ Below w.heap.size w w' := by
  have HE : Hid (∀ W, Below w.heap.size w W → Calls Tryz.prog 53 #[.agg #[.slice aw ws.length cw, .int .i64 semi, .int .i64 toh, .int .i64 top, .bool cyc, .int .i64 scan, .int .i64 old, .int .i64 copied, .int .i64 serial, .slice ar rs.length cr], .int .i64 2, .agg #[.pointer none, .int .i64 r, .int .i64 0, .int .i64 0, .int .i64 f, .int .i64 0, .int .i64 0, .int .i64 0, .int .i64 0, .slice none 0 0, .string ⟨#[]⟩]] W fun e w' => ∃ vw vr, e = .returned (.tuple #[.agg #[vw, .int .i64 semj, .int .i64 tohj, .int .i64 topj, .bool cycj, .int .i64 scanj, .int .i64 oldj, .int .i64 copiedj, .int .i64 serialj, vr], .int .i64 c]) ∧ OwnAr W.heap.size w'.heap.size w' vw vr ws.length rs.length zj yj ∧ Below W.heap.size W w') := hE
  clear hE
  go_enter Tryz.func23, Tryz.ntmps23
  go_wp2_with fail
  refine (HE.out _ (below_second (Below.refl _ _))).mono ?_
  rintro e w1 ⟨vw, vr, rfl, o1, b1⟩
  simp only [World.size_alloc] at o1
  obtain ⟨a1, c1, rfl⟩ := o1.sl.1.head
  obtain ⟨a2, c2, rfl⟩ := o1.sl.2.head
  have B1 := below_second b1
  have l1 : w.heap.size + 1 < w1.heap.size := by have := b1.size; simp at this; omega
  obtain ⟨_, hres⟩ := box_row2 (n := 10) b1 (by simp) rfl rfl
  have Z1 : w1.rowIs (w.heap.size + 1) 29 10 (fun i => (#[.slice none 0 0, .int .i64 0, .int .i64 0, .int .i64 0, .bool false, .int .i64 0, .int .i64 0, .int .i64 0, .int .i64 0, .slice none 0 0] : Array Value).getD i (.bool false)) := hres
  obtain ⟨d0, d1, d2, d3, d4, d5, d6, d7, d8, d9⟩ := row10 Z1 rfl rfl rfl rfl rfl rfl rfl rfl rfl rfl
  simp at d0 d1 d2 d3 d4 d5 d6 d7 d8 d9
  have ef := World.rowIs.frozen Z1
  have ne1 : w.heap.size + 1 ≠ w1.heap.size := by omega
  have HO : Hid (OwnAr (w.heap.size + 1 + 1) w1.heap.size w1 (.slice a1 ws.length c1) (.slice a2 rs.length c2) ws.length rs.length zj yj) := o1
  have HB : Hid (Below w.heap.size w w1) := B1
  clear o1 b1 hres Z1 B1
  go_wp2
  have q0 : (w1.cell? ⟨w.heap.size + 1, 0, none⟩).isSome = true := by rw [d0]; rfl
  have q1 : (w1.cell? ⟨w.heap.size + 1, 1, none⟩).isSome = true := by rw [d1]; rfl
  have q2 : (w1.cell? ⟨w.heap.size + 1, 2, none⟩).isSome = true := by rw [d2]; rfl
  have q3 : (w1.cell? ⟨w.heap.size + 1, 3, none⟩).isSome = true := by rw [d3]; rfl
  have q4 : (w1.cell? ⟨w.heap.size + 1, 4, none⟩).isSome = true := by rw [d4]; rfl
  have q5 : (w1.cell? ⟨w.heap.size + 1, 5, none⟩).isSome = true := by rw [d5]; rfl
  have q6 : (w1.cell? ⟨w.heap.size + 1, 6, none⟩).isSome = true := by rw [d6]; rfl
  have q7 : (w1.cell? ⟨w.heap.size + 1, 7, none⟩).isSome = true := by rw [d7]; rfl
  have q8 : (w1.cell? ⟨w.heap.size + 1, 8, none⟩).isSome = true := by rw [d8]; rfl
  have q9 : (w1.cell? ⟨w.heap.size + 1, 9, none⟩).isSome = true := by rw [d9]; rfl
  refine bodyPost_ret (v := .tuple #[.agg #[.slice a1 ws.length c1, .int .i64 semj, .int .i64 tohj, .int .i64 topj, .bool cycj, .int .i64 scanj, .int .i64 oldj, .int .i64 copiedj, .int .i64 serialj, .slice a2 rs.length c2], .bool b]) (by simp [results, Tryz.results23, go_sem, q0, q1, q2, q3, q4, q5, q6, q7, q8, q9, hc, ne1, World.cell?_alloc_lt, l1]) rfl ⟨_, _, rfl, ?_, ?_⟩
  · obtain ⟨u1, t1, u2, t2, h1, h2, h3, h4, h5, h6, h7⟩ := HO.out
    exact ⟨u1, t1, u2, t2, by omega, by simp; omega, by omega, by simp; omega, h5, (own_ten h6 (by omega)).below ((Below.refl _ _).alloc (Nat.le_refl _) _) (by simp; omega), (own_ten h7 (by omega)).below ((Below.refl _ _).alloc (Nat.le_refl _) _) (by simp; omega)⟩
  · exact alloc_own (below_ten HB.out (by omega)) _
theorem implSetCell_no0 (aw : Option Addr) (cw : Nat) (ws : List Int) (semi toh top : Int) (cyc : Bool) (scan old copied serial : Int) (ar : Option Addr) (cr : Nat) (rs : List (Int × Int)) (r f : Int) (y : Nat → Int) (Tr : Nat) (w : World) (hs : Sl w (.slice aw ws.length cw) ws) (hcw : ws.length ≤ cw) (hn : ws.length ≤ 1048576) (hw : Words64 ws) (hrt : SlF Tr w (.slice ar rs.length cr) rs.length (2 * rs.length) (fun i => .int .i64 (y i))) (hn2 : rs.length ≤ 1048576) (hok : ¬ ArOk ws semi toh top cyc scan old copied serial y rs.length) :
    Calls Tryz.prog 23 #[.agg #[.slice aw ws.length cw, .int .i64 semi, .int .i64 toh, .int .i64 top, .bool cyc, .int .i64 scan, .int .i64 old, .int .i64 copied, .int .i64 serial, .slice ar rs.length cr], .int .i64 r, .int .i64 f] w fun e w' => ∃ vw vr, e = .returned (.tuple #[.agg #[vw, .int .i64 semi, .int .i64 toh, .int .i64 top, .bool cyc, .int .i64 scan, .int .i64 old, .int .i64 copied, .int .i64 serial, vr], .bool false]) ∧ OwnAr w.heap.size w'.heap.size w' vw vr ws.length rs.length (wordAt ws) y ∧ Below w.heap.size w w' := 
  implSetCell_by aw cw ws semi toh top cyc scan old copied serial ar cr rs r f semi toh top cyc scan old copied serial (wordAt ws) y 1 false w rfl (fun W hW => enter_not aw cw ws semi toh top cyc scan old copied serial ar cr rs 2 0 r 0 0 f 0 0 0 0 none 0 0 ⟨#[]⟩ y w.heap.size W (hs.below hW) hcw hn hw (hrt.here.below hW (Nat.le_refl _)) hn2 hok)
theorem implSetCell_no1 (aw : Option Addr) (cw : Nat) (ws : List Int) (semi toh top : Int) (cyc : Bool) (scan old copied serial : Int) (ar : Option Addr) (cr : Nat) (rs : List (Int × Int)) (r f : Int) (y : Nat → Int) (Tr : Nat) (w : World) (hs : Sl w (.slice aw ws.length cw) ws) (hcw : ws.length ≤ cw) (hn : ws.length ≤ 1048576) (hw : Words64 ws) (hrt : SlF Tr w (.slice ar rs.length cr) rs.length (2 * rs.length) (fun i => .int .i64 (y i))) (hn2 : rs.length ≤ 1048576) (hok : ArOk ws semi toh top cyc scan old copied serial y rs.length) (hg : w.cell? ⟨0, 0, none⟩ = some (.iface 147 (.agg #[.pointer (some ⟨2, 102, none⟩)]))) (hr : ¬ (hasR r rs.length = true ∧ hasR f rs.length = true)) :
    Calls Tryz.prog 23 #[.agg #[.slice aw ws.length cw, .int .i64 semi, .int .i64 toh, .int .i64 top, .bool cyc, .int .i64 scan, .int .i64 old, .int .i64 copied, .int .i64 serial, .slice ar rs.length cr], .int .i64 r, .int .i64 f] w fun e w' => ∃ vw vr, e = .returned (.tuple #[.agg #[vw, .int .i64 semi, .int .i64 toh, .int .i64 top, .bool cyc, .int .i64 scan, .int .i64 old, .int .i64 copied, .int .i64 serial, vr], .bool false]) ∧ OwnAr w.heap.size w'.heap.size w' vw vr ws.length rs.length (wordAt ws) y ∧ Below w.heap.size w w' :=
  implSetCell_by aw cw ws semi toh top cyc scan old copied serial ar cr rs r f semi toh top cyc scan old copied serial (wordAt ws) y 1 false w rfl (fun W hW => enter_bad_setCell aw cw ws semi toh top cyc scan old copied serial ar cr rs r 0 0 f 0 0 0 0 none 0 0 ⟨#[]⟩ y w.heap.size W (hs.below hW) hcw hn hw (hrt.here.below hW (Nat.le_refl _)) hn2 hok (by rw [hW.cell (p := ⟨0, 0, none⟩) (World.block_lt_of_cell? _ ⟨0, 0, none⟩ hg)]; exact hg) (fun bw br vb ob cw' cr' ar' W v1 v2 o1 _ _ _ _ n2 _ _ _ _ _ _ =>
    (setCell_roots bw cw' ws semi toh top cyc scan old copied serial ar' cr' rs br y vb ob #[.pointer (some ⟨ob, 0, none⟩), .int .i64 r, .int .i64 0, .int .i64 0, .int .i64 f, .int .i64 0, .int .i64 0, .int .i64 0, .int .i64 0, .slice none 0 0, .string ⟨#[]⟩] r f W rfl v1 v2 o1 (World.block_lt_of_cell? _ ⟨ob, 0, none⟩ (o1 0)) hn2 rfl rfl hr).mono fun e w' ⟨h1, h2⟩ => ⟨h1, Kp.of_below h2⟩))
theorem implSetCell_no3 (aw : Option Addr) (cw : Nat) (ws : List Int) (semi toh top : Int) (cyc : Bool) (scan old copied serial : Int) (ar : Option Addr) (cr : Nat) (rs : List (Int × Int)) (k j : Nat) (y : Nat → Int) (Tr : Nat) (w : World) (hs : Sl w (.slice aw ws.length cw) ws) (hcw : ws.length ≤ cw) (hn : ws.length ≤ 1048576) (hw : Words64 ws) (hrt : SlF Tr w (.slice ar rs.length cr) rs.length (2 * rs.length) (fun i => .int .i64 (y i))) (hn2 : rs.length ≤ 1048576) (hok : ArOk ws semi toh top cyc scan old copied serial y rs.length) (hg : w.cell? ⟨0, 0, none⟩ = some (.iface 147 (.agg #[.pointer (some ⟨2, 102, none⟩)]))) (hk : k < rs.length) (hj : j < rs.length) (h9 : y (2 * k) ≠ 9) :
    Calls Tryz.prog 23 #[.agg #[.slice aw ws.length cw, .int .i64 semi, .int .i64 toh, .int .i64 top, .bool cyc, .int .i64 scan, .int .i64 old, .int .i64 copied, .int .i64 serial, .slice ar rs.length cr], .int .i64 (k : Int), .int .i64 (j : Int)] w fun e w' => ∃ vw vr, e = .returned (.tuple #[.agg #[vw, .int .i64 semi, .int .i64 toh, .int .i64 top, .bool cyc, .int .i64 scan, .int .i64 old, .int .i64 copied, .int .i64 serial, vr], .bool false]) ∧ OwnAr w.heap.size w'.heap.size w' vw vr ws.length rs.length (wordAt ws) y ∧ Below w.heap.size w w' :=
  implSetCell_by aw cw ws semi toh top cyc scan old copied serial ar cr rs (k : Int) (j : Int) semi toh top cyc scan old copied serial (wordAt ws) y 1 false w rfl (fun W hW => enter_bad_setCell aw cw ws semi toh top cyc scan old copied serial ar cr rs (k : Int) 0 0 (j : Int) 0 0 0 0 none 0 0 ⟨#[]⟩ y w.heap.size W (hs.below hW) hcw hn hw (hrt.here.below hW (Nat.le_refl _)) hn2 hok (by rw [hW.cell (p := ⟨0, 0, none⟩) (World.block_lt_of_cell? _ ⟨0, 0, none⟩ hg)]; exact hg) (fun bw br vb ob cw' cr' ar' W v1 v2 o1 _ _ r1 _ _ _ _ _ _ _ _ =>
    (setCell_tag bw cw' ws semi toh top cyc scan old copied serial ar' cr' rs br y vb ob #[.pointer (some ⟨ob, 0, none⟩), .int .i64 (k : Int), .int .i64 0, .int .i64 0, .int .i64 (j : Int), .int .i64 0, .int .i64 0, .int .i64 0, .int .i64 0, .slice none 0 0, .string ⟨#[]⟩] W rfl v1 v2 o1 (World.block_lt_of_cell? _ ⟨ob, 0, none⟩ (o1 0)) hn2 r1 k j hk hj rfl rfl h9).mono fun e w' ⟨h1, h2⟩ => ⟨h1, Kp.of_below h2⟩))
theorem implSetCell_yes (aw : Option Addr) (cw : Nat) (ws : List Int) (semi toh top : Int) (cyc : Bool) (scan old copied serial : Int) (ar : Option Addr) (cr : Nat) (rs : List (Int × Int)) (k j p : Nat) (y : Nat → Int) (Tr : Nat) (w : World) (hs : Sl w (.slice aw ws.length cw) ws) (hcw : ws.length ≤ cw) (hn : ws.length ≤ 1048576) (hw : Words64 ws) (hrt : SlF Tr w (.slice ar rs.length cr) rs.length (2 * rs.length) (fun i => .int .i64 (y i))) (hn2 : rs.length ≤ 1048576) (hok : ArOk ws semi toh top cyc scan old copied serial y rs.length) (hk : k < rs.length) (hj : j < rs.length) (h9 : y (2 * k) = 9) (hp : y (2 * k + 1) = (p : Int)) (hp2 : p + 2 < ws.length) :
    Calls Tryz.prog 23 #[.agg #[.slice aw ws.length cw, .int .i64 semi, .int .i64 toh, .int .i64 top, .bool cyc, .int .i64 scan, .int .i64 old, .int .i64 copied, .int .i64 serial, .slice ar rs.length cr], .int .i64 (k : Int), .int .i64 (j : Int)] w fun e w' => ∃ vw vr, e = .returned (.tuple #[.agg #[vw, .int .i64 semi, .int .i64 toh, .int .i64 top, .bool cyc, .int .i64 scan, .int .i64 old, .int .i64 copied, .int .i64 serial, vr], .bool true]) ∧ OwnAr w.heap.size w'.heap.size w' vw vr ws.length rs.length (wordAt (putW ws (p + 1) (y (2 * j)) (y (2 * j + 1)))) y ∧ Below w.heap.size w w' :=
  implSetCell_by aw cw ws semi toh top cyc scan old copied serial ar cr rs (k : Int) (j : Int) semi toh top cyc scan old copied serial (wordAt (putW ws (p + 1) (y (2 * j)) (y (2 * j + 1)))) y 0 true w rfl (fun W hW => enter_ok_setCell aw cw ws semi toh top cyc scan old copied serial ar cr rs (k : Int) 0 0 (j : Int) 0 0 0 0 none 0 0 ⟨#[]⟩ semi toh top cyc scan old copied serial (putW ws (p + 1) (y (2 * j)) (y (2 * j + 1))) y y w.heap.size W (hs.below hW) hcw hn hw (hrt.here.below hW (Nat.le_refl _)) hn2 hok (fun bw br vb ob cw' cr' ar' W v1 v2 o1 row w1 r1 n1 n2 _ _ _ _ ne _ =>
    (setCell_ok bw cw' ws semi toh top cyc scan old copied serial ar' cr' rs br y vb ob #[.pointer (some ⟨ob, 0, none⟩), .int .i64 (k : Int), .int .i64 0, .int .i64 0, .int .i64 (j : Int), .int .i64 0, .int .i64 0, .int .i64 0, .int .i64 0, .slice none 0 0, .string ⟨#[]⟩] W rfl v1 v2 o1 (World.block_lt_of_cell? _ ⟨ob, 0, none⟩ (o1 0)) hn2 r1 k j hk hj rfl rfl h9 p hp hp2 hn w1 n1 n2 (fun e => ne (by omega) e.symm)).mono fun e w' ⟨h1, h2, h3⟩ => ⟨h1, World.rowIs.of_block row (h3.block _ row.lt (by simp [n2])), h2, ownR_kp r1 h3 (fun g => by have := ne g; simp; omega), h3.mono (fun x hx => by simp at hx; simp [hx])⟩) (putW_len _ _ _ _))
end Go.Proofs.YtibjellhafndiaaGreatDoor
