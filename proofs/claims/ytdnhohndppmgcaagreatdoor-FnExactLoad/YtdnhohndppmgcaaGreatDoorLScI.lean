/- - -/
import Derived.LaidEql
import Derived.Stop.Asserts
import Derived.RowKitTokens
import Derived.Test.YtdnhohndppmgcaaGreatDoorLFinishL
namespace Go.Proofs.YtdnhohndppmgcaaGreatDoor
set_option maxRecDepth 20000
open Go.RowKit Go.Extern.Stop Go.Stop Go.Extern
set_option linter.unusedSimpArgs false
set_option linter.unusedVariables false
theorem zw1 (t : Value) (w : World) : Calls Tryz.prog 79 #[.nilIface, t] w fun e w' => e = .returned (.bool false) /\ w = w' := by
 go_enter Tryz.func79, Tryz.ntmps79
 go_wp2
 go_ret
 exact ⟨rfl, rfl⟩
theorem zue (t : Addr) (w : World) : (ReflectliteValue.unpack (.iface 103 (.pointer (some t)))).run Tryz.prog w = .ok (.agg #[.pointer (some ⟨2, 103, none⟩), .pointer (some ⟨w.heap.size, 0, none⟩), .int .u64 150]) (w.alloc (.cells #[.pointer (some t)] 103)) := by kernel_rfl
theorem zxj (a : Addr) (w : World) : (ReflectliteValue.methodAny (ReflectliteValue.valueError "reflectlite.Value.Type" 0) (fun t _ _ _ => ReflectliteType.toType t) #[.agg #[.pointer (some ⟨2, 103, none⟩), .pointer (some a), .int .u64 150]]).run Tryz.prog w = .ok (.iface 143 (.agg #[.pointer (some ⟨2, 103, none⟩)])) w := by kernel_rfl
theorem zp8 (h : Value) (w : World) : (Go.method 344 143 (.agg #[h]) "Kind").run Tryz.prog w = .ok (237, h) w := by kernel_rfl
theorem zxk (w : World) : ((ReflectliteType.abiMethod fun t => (fun a : Nat => Value.int IntKind.u8 (a : Int)) <$> Rtype.kind t) #[.pointer (some ⟨2, 103, none⟩)]).run Tryz.prog w = .ok (.int .u8 22) w := by kernel_rfl
theorem zxl (w : World) : ((ReflectliteType.abiMethod fun t => (fun a : Nat => Value.int IntKind.u8 (a : Int)) <$> Rtype.kind t) #[.pointer (some ⟨2, 96, none⟩)]).run Tryz.prog w = .ok (.int .u8 25) w := by kernel_rfl
theorem rlm (z : Sem Value) (f : TypeId -> Addr -> Nat -> Nat -> Sem Value) (v : Value) :
 ReflectliteValue.method z f #[v] = (do match <- ReflectliteValue.parts v with | none => z | some (t, a, fl) => f t a fl (fl % 32)) := rfl
theorem zsl (a : Addr) (w : World) : (ReflectliteValue.parts (.agg #[.pointer (some ⟨2, 103, none⟩), .pointer (some a), .int .u64 150])).run Tryz.prog w = .ok (some (103, a, 150)) w := by kernel_rfl
theorem zw2 (a p : Addr) (W : World) (ha : W.cell? a = some (.pointer (some p))) :
 (ReflectliteValue.method (ReflectliteValue.valueError "reflectlite.Value.IsNil" 0) ReflectliteValue.isNil #[.agg #[.pointer (some ⟨2, 103, none⟩), .pointer (some a), .int .u64 150]]).run Tryz.prog W = .ok (.bool false) W := by
 rw [rlm]
 simp only [Sem.run_bind, zsl, Result.andThen]
 simp [ReflectliteValue.isNil, loadVar, isAgg, underlying, Tryz.underlying103, ha, Result.andThen]
theorem zp9 (h : Value) (w : World) : (Go.method 344 143 (.agg #[h]) "Elem").run Tryz.prog w = .ok (247, .agg #[h]) w := by kernel_rfl
theorem zi4 (h : Value) (w : World) : (Go.method 344 143 (.agg #[h]) "Implements").run Tryz.prog w = .ok (248, .agg #[h]) w := by kernel_rfl
theorem zhr (h : Value) (w : World) : (Go.method 344 143 (.agg #[h]) "AssignableTo").run Tryz.prog w = .ok (245, .agg #[h]) w := by kernel_rfl
theorem zxm (w : World) : (ReflectliteType.method ReflectliteType.elem #[.agg #[.pointer (some ⟨2, 103, none⟩)]]).run Tryz.prog w = .ok (.iface 143 (.agg #[.pointer (some ⟨2, 96, none⟩)])) w := by kernel_rfl
theorem zoh (w : World) : (ReflectliteType.relation "Implements" ReflectliteType.implements_ #[.agg #[.pointer (some ⟨2, 96, none⟩)], .iface 143 (.agg #[.pointer (some ⟨2, 99, none⟩)])]).run Tryz.prog w = .ok (.bool true) w := by kernel_rfl
theorem zv4 (v : Value) (w : World) : (ReflectliteType.typeOf #[.iface 96 v]).run Tryz.prog w = .ok (.iface 143 (.agg #[.pointer (some ⟨2, 96, none⟩)])) w := by kernel_rfl
theorem zoi (w : World) : (ReflectliteType.relation "AssignableTo" ReflectliteType.assignableTo #[.agg #[.pointer (some ⟨2, 96, none⟩)], .iface 143 (.agg #[.pointer (some ⟨2, 96, none⟩)])]).run Tryz.prog w = .ok (.bool true) w := by kernel_rfl
theorem zuf (c : Int) (x : ByteArray) (w : World) : (ReflectliteValue.unpack (.iface 96 (.agg #[.int .i64 c, .string x]))).run Tryz.prog w = .ok (.agg #[.pointer (some ⟨2, 96, none⟩), .pointer (some ⟨w.heap.size, 0, none⟩), .int .u64 153]) (w.alloc (.cells #[.int .i64 c, .string x] 96)) := by kernel_rfl
theorem zv5 (w : World) : (Rtype.elem? 103).run Tryz.prog w = .ok (some 96) w := by kernel_rfl
theorem mkF (p : Addr) (w : World) : (ReflectliteValue.mk 96 p ReflectliteValue.flagAddr).run Tryz.prog w = .ok (.agg #[.pointer (some ⟨2, 96, none⟩), .pointer (some p), .int .u64 409]) w := by kernel_rfl
theorem zw3 (a p : Addr) (W : World) (ha : W.cell? a = some (.pointer (some p))) :
 (ReflectliteValue.method (ReflectliteValue.valueError "reflectlite.Value.Elem" 0) ReflectliteValue.elem #[.agg #[.pointer (some ⟨2, 103, none⟩), .pointer (some a), .int .u64 150]]).run Tryz.prog W = .ok (.agg #[.pointer (some ⟨2, 96, none⟩), .pointer (some p), .int .u64 409]) W := by
 rw [rlm]
 simp only [Sem.run_bind, zsl, Result.andThen]
 simp [ReflectliteValue.elem, loadVar, isAgg, underlying, Tryz.underlying103, ha, Result.andThen, zv5, mkF]
theorem rls (v x : Value) : ReflectliteValue.set #[v, x] = (do
 let (some (dst, a, fl), some (src, b, _)) := (<- ReflectliteValue.parts v, <- ReflectliteValue.parts x)
  | unsupported (.noEntry "extern/(internal/reflectlite.Value).Set.zeroValue")
 if fl / ReflectliteValue.flagAddr % 2 == 0 then unsupported (.noEntry "extern/(internal/reflectlite.Value).Set.unaddressable")
 let val <- loadVar src b
 if <- Rtype.directlyAssignable dst src then storeVar dst a val
 else if <- Rtype.implements dst src then
  if (<- Rtype.kind src) == 20 then
   match val with
   | .nilIface => unsupported (.noEntry "extern/reflectlite: a nil value of one interface type handed on as a value of another")
   | _ => storeVar dst a val
  else storeVar dst a (.iface src val)
 else panicString ("reflectlite.Set: value of type " ++ (<- Rtype.spelt src) ++ " is not assignable to type " ++ (<- Rtype.spelt dst))
 pure (.tuple #[])) := rfl
theorem zv6 (a : Addr) (w : World) : (ReflectliteValue.parts (.agg #[.pointer (some ⟨2, 96, none⟩), .pointer (some a), .int .u64 409])).run Tryz.prog w = .ok (some (96, a, 409)) w := by kernel_rfl
theorem zw4 (a : Addr) (w : World) : (ReflectliteValue.parts (.agg #[.pointer (some ⟨2, 96, none⟩), .pointer (some a), .int .u64 153])).run Tryz.prog w = .ok (some (96, a, 153)) w := by kernel_rfl
theorem zv7 (w : World) : (Rtype.directlyAssignable 96 96).run Tryz.prog w = .ok true w := by kernel_rfl
theorem zxv (nb b : Nat) (c : Int) (x : ByteArray) (o0 o1 : Value) (W : World) (hb0 : W.cell? ⟨b, 0, none⟩ = some (.int .i64 c)) (hb1 : W.cell? ⟨b, 1, none⟩ = some (.string x)) (h0 : W.cell? ⟨nb, 0, none⟩ = some o0) (h1 : W.cell? ⟨nb, 1, none⟩ = some o1) (hf : ∀ i, W.frozen? ⟨nb, i, none⟩ = false) :
 (ReflectliteValue.set #[.agg #[.pointer (some ⟨2, 96, none⟩), .pointer (some ⟨nb, 0, none⟩), .int .u64 409], .agg #[.pointer (some ⟨2, 96, none⟩), .pointer (some ⟨b, 0, none⟩), .int .u64 153]]).run Tryz.prog W = .ok (.tuple #[]) ((W.setCell ⟨nb, 0, none⟩ (.int .i64 c)).setCell ⟨nb, 1, none⟩ (.string x)) := by
 rw [rls]
 simp only [Sem.run_bind, zv6, zw4, Result.andThen]
 simp [ReflectliteValue.flagAddr, loadVar, isAgg, underlying, Tryz.underlying96, hb0, hb1, Result.andThen, zv7, storeVar, Value.cells, storeCells, Addr.add]
 have hl : (loadCells ⟨b, 0, none⟩ 2).run Tryz.prog W = .ok #[.int .i64 c, .string x] W := run_loadCells_list (P := Tryz.prog) W ⟨b, 0, none⟩ [.int .i64 c, .string x] (fun j v hv => by
  match j with
  | 0 => simp at hv; subst hv; simpa [Addr.add] using hb0
  | 1 => simp at hv; subst hv; simpa [Addr.add] using hb1
  | j + 2 => simp at hv)
 rw [hl]
 simp [storeCells, Addr.add]
 rw [run_store Tryz.prog W ⟨nb, 0, none⟩ _ _ (by rfl)]
 simp [h0, hf 0, Result.andThen]
 rw [run_store Tryz.prog _ ⟨nb, 1, none⟩ _ _ (by rfl)]
 have h1' : (W.setCell ⟨nb, 0, none⟩ (.int .i64 c)).cell? ⟨nb, 1, none⟩ = some o1 := by rw [World.cell?_setCell_other _ _ _ _ (by simp)]; exact h1
 simp [h1', hf 0, hf 1, Result.andThen]
set_option maxHeartbeats 4000000 in
theorem zw5 (nb : Nat) (c : Int) (x : ByteArray) (o0 o1 : Value) (w : World) (hg : w.cell? ⟨0, 0, none⟩ = some (.iface 143 (.agg #[.pointer (some ⟨2, 99, none⟩)]))) (h0 : w.cell? ⟨nb, 0, none⟩ = some o0) (h1 : w.cell? ⟨nb, 1, none⟩ = some o1) (hf : ∀ i, w.frozen? ⟨nb, i, none⟩ = false) :
 Calls Tryz.prog 79 #[.iface 96 (.agg #[.int .i64 c, .string x]), .iface 103 (.pointer (some ⟨nb, 0, none⟩))] w fun ev w' => ev = .returned (.bool true) /\ w' = (((((w.alloc (.cells #[.pointer (some ⟨nb, 0, none⟩)] 103)).alloc (.cells #[.pointer (some ⟨2, 103, none⟩), .pointer (some ⟨w.heap.size, 0, none⟩), .int .u64 150] 125)).alloc (.cells #[.pointer (some ⟨2, 103, none⟩), .pointer (some ⟨w.heap.size, 0, none⟩), .int .u64 150] 125)).alloc (.cells #[.int .i64 c, .string x] 96)).setCell ⟨nb, 0, none⟩ (.int .i64 c)).setCell ⟨nb, 1, none⟩ (.string x) := by
 have h6 := @run_callFunc_extern Tryz.prog 102 _ (fun args => ReflectliteValue.unpack (args.getD 0 (.tuple #[]))) Tryz.func102 (by kernel_rfl) (by kernel_rfl) (by kernel_rfl) (by kernel_rfl)
 have h7 := @run_callFunc_extern Tryz.prog 103 _ (ReflectliteValue.methodAny (ReflectliteValue.valueError "reflectlite.Value.Type" 0) (fun t _ _ _ => ReflectliteType.toType t)) Tryz.func103 (by kernel_rfl) (by kernel_rfl) (by kernel_rfl) (by kernel_rfl)
 have h8 := @run_callFunc_extern Tryz.prog 104 _ (ReflectliteValue.method (ReflectliteValue.valueError "reflectlite.Value.IsNil" 0) ReflectliteValue.isNil) Tryz.func104 (by kernel_rfl) (by kernel_rfl) (by kernel_rfl) (by kernel_rfl)
 have h27 := @run_callFunc_extern Tryz.prog 237 _ (ReflectliteType.abiMethod fun t => do pure (.int .u8 (<- Rtype.kind t))) Tryz.func237 (by kernel_rfl) (by kernel_rfl) (by kernel_rfl) (by kernel_rfl)
 have h37 := @run_callFunc_extern Tryz.prog 247 _ (ReflectliteType.method ReflectliteType.elem) Tryz.func247 (by kernel_rfl) (by kernel_rfl) (by kernel_rfl) (by kernel_rfl)
 have h38 := @run_callFunc_extern Tryz.prog 248 _ (ReflectliteType.relation "Implements" ReflectliteType.implements_) Tryz.func248 (by kernel_rfl) (by kernel_rfl) (by kernel_rfl) (by kernel_rfl)
 have h10 := @run_callFunc_extern Tryz.prog 127 _ (ReflectliteType.typeOf) Tryz.func127 (by kernel_rfl) (by kernel_rfl) (by kernel_rfl) (by kernel_rfl)
 have h35 := @run_callFunc_extern Tryz.prog 245 _ (ReflectliteType.relation "AssignableTo" ReflectliteType.assignableTo) Tryz.func245 (by kernel_rfl) (by kernel_rfl) (by kernel_rfl) (by kernel_rfl)
 have h11 := @run_callFunc_extern Tryz.prog 128 _ (ReflectliteValue.method (ReflectliteValue.valueError "reflectlite.Value.Elem" 0) ReflectliteValue.elem) Tryz.func128 (by kernel_rfl) (by kernel_rfl) (by kernel_rfl) (by kernel_rfl)
 have h12 := @run_callFunc_extern Tryz.prog 129 _ (ReflectliteValue.set) Tryz.func129 (by kernel_rfl) (by kernel_rfl) (by kernel_rfl) (by kernel_rfl)
 have tO := zv4
 have mA := zhr
 have a25 := zoi
 have v25 := zuf
 have f6 := zue
 have f7 := zxj
 have mK := zp8
 have mE := zp9
 have mI := zi4
 have k27 := zxk
 have k25 := zxl
 have e27 := zxm
 have i25 := zoh
 have n8 := zw2 ⟨w.heap.size, 0, none⟩ ⟨nb, 0, none⟩ ((w.alloc (.cells #[.pointer (some ⟨nb, 0, none⟩)] 103)).alloc (.cells #[.pointer (some ⟨2, 103, none⟩), .pointer (some ⟨w.heap.size, 0, none⟩), .int .u64 150] 125)) (by simp)
 have hlt : 0 < w.heap.size := World.block_lt_of_cell? _ ⟨0, 0, none⟩ hg
 have htl : nb < w.heap.size := World.block_lt_of_cell? _ ⟨nb, 0, none⟩ h0
 have hg2 : ((w.alloc (.cells #[.pointer (some ⟨nb, 0, none⟩)] 103)).alloc (.cells #[.pointer (some ⟨2, 103, none⟩), .pointer (some ⟨w.heap.size, 0, none⟩), .int .u64 150] 125)).cell? ⟨0, 0, none⟩ = some (.iface 143 (.agg #[.pointer (some ⟨2, 99, none⟩)])) := by
  rw [World.cell?_alloc_lt _ _ ⟨0, 0, none⟩ (by simp), World.cell?_alloc_lt _ _ ⟨0, 0, none⟩ hlt]; exact hg
 have el := zw3 ⟨w.heap.size, 0, none⟩ ⟨nb, 0, none⟩ (((w.alloc (.cells #[.pointer (some ⟨nb, 0, none⟩)] 103)).alloc (.cells #[.pointer (some ⟨2, 103, none⟩), .pointer (some ⟨w.heap.size, 0, none⟩), .int .u64 150] 125)).alloc (.cells #[.pointer (some ⟨2, 103, none⟩), .pointer (some ⟨w.heap.size, 0, none⟩), .int .u64 150] 125)) (by rw [World.cell?_alloc_lt _ _ ⟨w.heap.size, 0, none⟩ (by simp; omega)]; simp)
 have up : ∀ i o, w.cell? ⟨nb, i, none⟩ = some o -> ((((w.alloc (.cells #[.pointer (some ⟨nb, 0, none⟩)] 103)).alloc (.cells #[.pointer (some ⟨2, 103, none⟩), .pointer (some ⟨w.heap.size, 0, none⟩), .int .u64 150] 125)).alloc (.cells #[.pointer (some ⟨2, 103, none⟩), .pointer (some ⟨w.heap.size, 0, none⟩), .int .u64 150] 125)).alloc (.cells #[.int .i64 c, .string x] 96)).cell? ⟨nb, i, none⟩ = some o := fun i o h => by
  rw [World.cell?_alloc_lt _ _ ⟨nb, i, none⟩ (by simp; omega), World.cell?_alloc_lt _ _ ⟨nb, i, none⟩ (by simp; omega), World.cell?_alloc_lt _ _ ⟨nb, i, none⟩ (by simp; omega), World.cell?_alloc_lt _ _ ⟨nb, i, none⟩ htl]; exact h
 have st := zxv nb (w.heap.size + 1 + 1 + 1) c x o0 o1 ((((w.alloc (.cells #[.pointer (some ⟨nb, 0, none⟩)] 103)).alloc (.cells #[.pointer (some ⟨2, 103, none⟩), .pointer (some ⟨w.heap.size, 0, none⟩), .int .u64 150] 125)).alloc (.cells #[.pointer (some ⟨2, 103, none⟩), .pointer (some ⟨w.heap.size, 0, none⟩), .int .u64 150] 125)).alloc (.cells #[.int .i64 c, .string x] 96)) (by rw [World.cell?_alloc_at _ _ _ _ (by simp)]; rfl) (by rw [World.cell?_alloc_at _ _ _ _ (by simp)]; rfl) (up 0 o0 h0) (up 1 o1 h1)
  (fun i => by rw [World.frozen?_alloc_old _ _ ⟨nb, i, none⟩ (by simp; omega), World.frozen?_alloc_old _ _ ⟨nb, i, none⟩ (by simp; omega), World.frozen?_alloc_old _ _ ⟨nb, i, none⟩ (by simp; omega), World.frozen?_alloc_old _ _ ⟨nb, i, none⟩ (Nat.ne_of_lt htl)]; exact hf i)
 clear up
 go_enter Tryz.func79, Tryz.ntmps79
 go_wp2
 refine wp_loop_rounds 1 ?_
 rw [rounds_succ]
 go_wp2
 go_ret
 exact ⟨rfl, rfl⟩
open Go.RowKit
def zib (vb : Nat) : Array Value := #[Value.func (Fn.func 106) #[.pointer (some ⟨vb, 0, none⟩)] #[], Value.func (Fn.func 107) #[.pointer (some ⟨vb, 0, none⟩)] #[], Value.func (Fn.func 108) #[.pointer (some ⟨vb, 0, none⟩)] #[], Value.func (Fn.func 109) #[.pointer (some ⟨vb, 0, none⟩)] #[], Value.func (Fn.func 110) #[.pointer (some ⟨vb, 0, none⟩)] #[], Value.func (Fn.func 111) #[.pointer (some ⟨vb, 0, none⟩)] #[], Value.func (Fn.func 112) #[.pointer (some ⟨vb, 0, none⟩)] #[], Value.func (Fn.func 113) #[.pointer (some ⟨vb, 0, none⟩)] #[], Value.func (Fn.func 114) #[.pointer (some ⟨vb, 0, none⟩)] #[], Value.func (Fn.func 115) #[.pointer (some ⟨vb, 0, none⟩)] #[]]
theorem zl7 (vb : Nat) (w : World) : Calls Tryz.prog 80 #[.pointer (some ⟨vb, 0, none⟩)] w fun e w' => e = .returned (.slice (some ⟨w.heap.size, 0, none⟩) 10 10) /\ (∀ i, w'.cell? ⟨w.heap.size, i, none⟩ = (zib vb)[i]?) /\ Below w.heap.size w w' := by
 go_enter Tryz.func80, Tryz.ntmps80
 go_wp2
 go_ret
 exact ⟨rfl, fun i => by unfold zib; simp [go_sem], (Below.refl _ _).alloc (Nat.le_refl _) _⟩
theorem zjn (x : ByteArray) (w : World) : Calls Tryz.prog 132 #[.string x] w fun e w' => e = .returned (.iface 96 (.agg #[.int .i64 1, .string x])) /\ w = w' := by
 go_enter Tryz.func132, Tryz.ntmps132
 go_wp2
 go_ret
 exact ⟨rfl, rfl⟩
theorem zxi (nb : Nat) (c : Int) (x : ByteArray) (o0 o1 : Value) (w : World) (hg : w.cell? ⟨0, 0, none⟩ = some (.iface 143 (.agg #[.pointer (some ⟨2, 99, none⟩)]))) (h0 : w.cell? ⟨nb, 0, none⟩ = some o0) (h1 : w.cell? ⟨nb, 1, none⟩ = some o1) (hf : ∀ i, w.frozen? ⟨nb, i, none⟩ = false) :
 Calls Tryz.prog 79 #[.iface 96 (.agg #[.int .i64 c, .string x]), .iface 103 (.pointer (some ⟨nb, 0, none⟩))] w fun ev w' => ev = .returned (.bool true) /\ w'.cell? ⟨nb, 0, none⟩ = some (.int .i64 c) /\ w'.cell? ⟨nb, 1, none⟩ = some (.string x) /\ Kp [nb] w w' := by
 have hl : nb < w.heap.size := World.block_lt_of_cell? _ ⟨nb, 0, none⟩ h0
 refine (zw5 nb c x o0 o1 w hg h0 h1 hf).mono ?_
 rintro e w' ⟨rfl, rfl⟩
 have up : ∀ i o, w.cell? ⟨nb, i, none⟩ = some o -> ∀ o1 o2 o3 o4, ((((w.alloc o1).alloc o2).alloc o3).alloc o4).cell? ⟨nb, i, none⟩ = some o := fun i o h o1 o2 o3 o4 => by
  rw [World.cell?_alloc_lt _ _ ⟨nb, i, none⟩ (by simp; omega), World.cell?_alloc_lt _ _ ⟨nb, i, none⟩ (by simp; omega), World.cell?_alloc_lt _ _ ⟨nb, i, none⟩ (by simp; omega), World.cell?_alloc_lt _ _ ⟨nb, i, none⟩ hl]; exact h
 refine ⟨rfl, ?_, ?_, ?_⟩
 · rw [World.cell?_setCell_other _ _ _ _ (by simp)]
   simp [go_sem, up 0 o0 h0]
 · have : ∀ W : World, (W.cell? ⟨nb, 1, none⟩).isSome = true -> (W.setCell ⟨nb, 1, none⟩ (.string x)).cell? ⟨nb, 1, none⟩ = some (.string x) := fun W h => by simp [go_sem, h]
   refine this _ ?_
   rw [World.cell?_setCell_other _ _ _ _ (by simp), up 1 o1 h1]; rfl
 · exact ((((((Kp.refl [nb] w).alloc _).alloc _).alloc _).alloc _).setCell (p := ⟨nb, 0, none⟩) (.inl (by simp)) _).setCell (p := ⟨nb, 1, none⟩) (.inl (by simp)) _
theorem zeu (aw : Option Addr) (cw : Nat) (ws : List Int) (sm toh top : Int) (cyc : Bool) (sn old cp sr : Int) (ar : Option Addr) (cr : Nat) (rs : List (Int × Int)) (vb ob lb n cl : Nat) (V : Array Value) (L : Nat -> Int) (w : World) (hV0 : V[0]? = some (.pointer (some ⟨ob, 0, none⟩))) (hv : ∀ i, w.cell? ⟨vb, i, none⟩ = V[i]?) (lv : vb < w.heap.size) (ho : ∀ i, w.cell? ⟨ob, i, none⟩ = (#[.slice aw ws.length cw, .int .i64 sm, .int .i64 toh, .int .i64 top, .bool cyc, .int .i64 sn, .int .i64 old, .int .i64 cp, .int .i64 sr, .slice ar rs.length cr] : Array Value)[i]?) (lo : ob < w.heap.size) (hl : ∀ i, i < n -> w.cell? ⟨lb, i, none⟩ = some (.int .i64 (L i))) (ll : lb < w.heap.size) (hn : n <= 64) (hn2 : rs.length <= 1048576) :
 Calls Tryz.prog 130 #[.pointer (some ⟨vb, 0, none⟩), .slice (some ⟨lb, 0, none⟩) n cl] w fun e w' => ((∀ i, i < n -> zbf (L i) rs.length = true) /\ e = .returned .nilIface \/ (¬ ∀ i, i < n -> zbf (L i) rs.length = true) /\ ∃ x, e = .returned (.iface 96 (.agg #[.int .i64 1, .string x]))) /\ Below w.heap.size w w' := by
 have hv0 : w.cell? ⟨vb, 0, none⟩ = some (.pointer (some ⟨ob, 0, none⟩)) := (hv 0).trans hV0
 have n1 : (n : Int) <= 64 := by omega
 have HL : Hid (∀ i, i < n -> w.cell? ⟨lb, i, none⟩ = some (.int .i64 (L i))) := hl
 have HO : Hid (∀ i, w.cell? ⟨ob, i, none⟩ = (#[.slice aw ws.length cw, .int .i64 sm, .int .i64 toh, .int .i64 top, .bool cyc, .int .i64 sn, .int .i64 old, .int .i64 cp, .int .i64 sr, .slice ar rs.length cr] : Array Value)[i]?) := ho
 clear hv hV0 hl ho
 go_enter Tryz.func130, Tryz.ntmps130
 go_wp2
 go_loopw [9] (fun u9 wr => ∃ k : Nat, k <= n /\ u9 = .int .i64 k /\ Hid (∀ i, i < k -> zbf (L i) rs.length = true) /\ Below w.heap.size w wr) (fun u9 _ => n - (intOf u9).toNat)
 case atStart => exact ⟨0, Nat.zero_le _, rfl, fun i hi => absurd hi (Nat.not_lt_zero i), Below.refl _ _⟩
 case round =>
  obtain ⟨k, hk, rfl, HK, hB⟩ := hrel
  by_cases hlt : k < n
  · have hlt' : (k : Int) < (n : Int) := by omega
    have c1 : wr.cell? ⟨lb, k, none⟩ = some (.int .i64 (L k)) := by rw [hB.cell (p := ⟨lb, k, none⟩) ll]; exact HL.out k hlt
    have c2 : wr.cell? ⟨vb, 0, none⟩ = some (.pointer (some ⟨ob, 0, none⟩)) := by rw [hB.cell (p := ⟨vb, 0, none⟩) lv]; exact hv0
    have c3 := zd HO.out hB lo
    cases hr : zbf (L k) rs.length with
    | true =>
      have HK' : Hid (∀ i, i < k + 1 -> zbf (L i) rs.length = true) := fun i hi => by
       by_cases e : i = k
       · rw [e]; exact hr
       · exact HK.out i (by omega)
      go_wp2_with (go_at_call 169; refine (ziz _ _ _ _ _ _ _ _ _ _ _ _ _ _ _ _ hn2).mono ?_; rw [hr]; rintro e w2 ⟨rfl, b2⟩)
      exact ⟨⟨k + 1, hlt, by go_num, HK', zc hB b2⟩, by simp [intOf]; omega⟩
    | false =>
      have HNO : Hid (¬ ∀ i, i < n -> zbf (L i) rs.length = true) := fun g => by have := g k hlt; rw [hr] at this; simp at this
      go_wp2_with (first | (go_at_call 169; refine (ziz _ _ _ _ _ _ _ _ _ _ _ _ _ _ _ _ hn2).mono ?_; rw [hr]; rintro e w2 ⟨rfl, b2⟩) | (go_at_call 132; refine (zjn _ _).mono ?_; rintro e w3 ⟨rfl, rfl⟩))
      go_ret
      exact ⟨.inr ⟨HNO.out, _, rfl⟩, zc hB b2⟩
  · have hkn : k = n := by omega
    have HA : Hid (∀ i, i < n -> zbf (L i) rs.length = true) := by rw [<- hkn]; exact HK
    have hge : (n : Int) <= (k : Int) := by omega
    clear hkn
    go_wp2
    go_ret
    exact ⟨.inl ⟨HA.out, rfl⟩, hB⟩
theorem zpr {w w' : World} {ar : Option Addr} {br n : Nat} {y : Nat -> Int} {X : List Nat} (h : zdy w ar br n y) (k : Kp X w w') (hn : 0 < n -> br ∉ X) : zdy w' ar br n y := by
 rcases h with h | ⟨h, h'⟩
 · exact .inl h
 · by_cases hm : 0 < n
   · exact .inr ⟨h, Rw.kp h' k (hn hm)⟩
   · exact .inl (by omega)
theorem zjm {w w' : World} {ar : Option Addr} {br n : Nat} {y : Nat -> Int} (h : zdy w ar br n y) (k : 0 < n -> w'.heap[br]? = w.heap[br]?) : zdy w' ar br n y := by
 rcases h with h | ⟨h, h'⟩
 · exact .inl h
 · by_cases hm : 0 < n
   · exact .inr ⟨h, Rw.of_block h' (k hm)⟩
   · exact .inl (by omega)
theorem zk3 {W : World} {K : Nat} {a0 u : Value} {L : List Value} (h : ∀ i, W.cell? ⟨K, i, none⟩ = (a0 :: L).toArray[i]?) : ∀ i, (W.setCell ⟨K, 0, none⟩ u).cell? ⟨K, i, none⟩ = (u :: L).toArray[i]? := fun i => by
 have p0 : (W.cell? ⟨K, 0, none⟩).isSome = true := by rw [h 0]; rfl
 match i with
 | 0 => simp [go_sem, p0]
 | i + 1 => rw [World.cell?_setCell_other _ _ _ _ (by simp), h]; simp
set_option maxHeartbeats 4000000 in
theorem zsk (aw : Option Addr) (cw : Nat) (ws : List Int) (sm toh top : Int) (cyc : Bool) (sn old cp sr : Int) (ar : Option Addr) (cr : Nat) (rs : List (Int × Int)) (d : Nat) (fD : Nat) (vr vs vk vf vi vv vl vp : Int) (ca : Option Addr) (cl cc : Nat) (tx : ByteArray)  (y : Nat -> Int) (Tr : Nat) (w : World) (hs : Sl w (.slice aw ws.length cw) ws) (hcw : ws.length <= cw) (hn : ws.length <= 1048576) (hw : zg ws) (hrt : SlF Tr w (.slice ar rs.length cr) rs.length (2 * rs.length) (fun i => .int .i64 (y i))) (hn2 : rs.length <= 1048576) (hok : ¬ zbm ws sm toh top cyc sn old cp sr y rs.length) :
 Calls Tryz.prog 47 #[.agg #[.slice aw ws.length cw, .int .i64 sm, .int .i64 toh, .int .i64 top, .bool cyc, .int .i64 sn, .int .i64 old, .int .i64 cp, .int .i64 sr, .slice ar rs.length cr], .int .i64 (d : Int), .agg #[.pointer none, .int .i64 vr, .int .i64 vs, .int .i64 vk, .int .i64 vf, .int .i64 vi, .int .i64 vv, .int .i64 vl, .int .i64 vp, .slice ca cl cc, .string tx]] w fun e w' => ∃ vw vr', e = .returned (.tuple #[.agg #[vw, .int .i64 sm, .int .i64 toh, .int .i64 top, .bool cyc, .int .i64 sn, .int .i64 old, .int .i64 cp, .int .i64 sr, vr'], .int .i64 1]) /\ zak w.heap.size w'.heap.size w' vw vr' ws.length rs.length (za ws) y /\ Below w.heap.size w w' := by
 have HS : Hid (Sl w (.slice aw ws.length cw) ws) := hs
 have HR : Hid (SlF w.heap.size w (.slice ar rs.length cr) rs.length (2 * rs.length) (fun i => .int .i64 (y i))) := hrt.here
 have HQ : Hid (¬ zbm ws sm toh top cyc sn old cp sr y rs.length) := hok
 clear hs hrt hok
 go_enter Tryz.func47, Tryz.ntmps47
 go_wp2_with fail
 have B0 : Below w.heap.size w (((w.alloc (.cells #[.slice aw ws.length cw, .int .i64 sm, .int .i64 toh, .int .i64 top, .bool cyc, .int .i64 sn, .int .i64 old, .int .i64 cp, .int .i64 sr, .slice ar rs.length cr] 29)).alloc (.cells #[.pointer none, .int .i64 vr, .int .i64 vs, .int .i64 vk, .int .i64 vf, .int .i64 vi, .int .i64 vv, .int .i64 vl, .int .i64 vp, .slice ca cl cc, .string tx] 70)).alloc (.cells #[.slice none 0 0, .int .i64 0, .int .i64 0, .int .i64 0, .bool false, .int .i64 0, .int .i64 0, .int .i64 0, .int .i64 0, .slice none 0 0] 29)) := (zk (Below.refl _ _)).alloc (by simp; omega) _
 refine (zfq _ _ _ _ _ _ _ _ _ _ _ _ _ _ y w.heap.size _ (HS.out.below B0) hn (HR.out.below B0 (Nat.le_refl _)) hn2).mono ?_
 rintro e w1 ⟨vw, vr1, rfl, ⟨a1, rfl⟩, o1, b1⟩
 simp only [World.size_alloc] at o1
 obtain ⟨a2, c2, rfl⟩ := o1.sl.2.head
 have B1 : Below w.heap.size w w1 := zc B0 b1
 have l1 : w.heap.size + 2 < w1.heap.size := by have := b1.size; simp at this; omega
 have l0 : w.heap.size < w1.heap.size := by omega
 have l01 : w.heap.size + 1 < w1.heap.size := by omega
 have k1 : ∀ i, w1.cell? ⟨w.heap.size, i, none⟩ = (#[.slice aw ws.length cw, .int .i64 sm, .int .i64 toh, .int .i64 top, .bool cyc, .int .i64 sn, .int .i64 old, .int .i64 cp, .int .i64 sr, .slice ar rs.length cr] : Array Value)[i]? := fun i => by rw [b1.cell (p := ⟨w.heap.size, i, none⟩) (by simp <;> omega)]; simp [go_sem]
 have v1 : ∀ i, w1.cell? ⟨w.heap.size + 1, i, none⟩ = (#[.pointer none, .int .i64 vr, .int .i64 vs, .int .i64 vk, .int .i64 vf, .int .i64 vi, .int .i64 vv, .int .i64 vl, .int .i64 vp, .slice ca cl cc, .string tx] : Array Value)[i]? := fun i => by rw [b1.cell (p := ⟨w.heap.size + 1, i, none⟩) (by simp <;> omega)]; simp [go_sem]
 have f1 : ∀ i, w1.frozen? ⟨w.heap.size + 1, i, none⟩ = false := fun i => by rw [(zaf b1).2 _ _ (by simp <;> omega)]; simp [go_sem]
 have HZ1 : Hid (w1.rowIs (w.heap.size + 1 + 1) 29 10 (fun i => (#[.slice none 0 0, .int .i64 0, .int .i64 0, .int .i64 0, .bool false, .int .i64 0, .int .i64 0, .int .i64 0, .int .i64 0, .slice none 0 0] : Array Value).getD i (.bool false))) := ⟨#[.slice none 0 0, .int .i64 0, .int .i64 0, .int .i64 0, .bool false, .int .i64 0, .int .i64 0, .int .i64 0, .int .i64 0, .slice none 0 0], (b1.block _ (by simp)).trans (zaq (by simp)), rfl, fun i hi => by simp [Array.getD, hi]⟩
 clear b1 B0
 go_wp2_with fail
 refine (zfd _ _ _ _ _ _ _ _ _ _ _ _ _ _ y w.heap.size _ (HS.out.below (zam B1)) hcw hn hw (HR.out.below (zam B1) (Nat.le_refl _)) hn2).mono ?_
 rintro e w2 ⟨q, rfl, hq, b2⟩
 obtain rfl : q = false := by
  cases q with
  | false => rfl
  | true => exact absurd (hq.1 rfl) HQ.out
 have b2f := ze b2
 have p2 := zp b2 (by simp)
 have HP2 : Hid (w2.rowIs w1.heap.size 29 10 (fun i => (#[.slice a1 ws.length ws.length, .int .i64 sm, .int .i64 toh, .int .i64 top, .bool cyc, .int .i64 sn, .int .i64 old, .int .i64 cp, .int .i64 sr, .slice a2 rs.length c2] : Array Value).getD i (.bool false))) := zic b2 (by simp) rfl
 have z2 : w1.heap.size < w2.heap.size := zr b2
 have B2 := zc B1 b2f
 have k2 := zd k1 b2f (by omega)
 have v2 := zd v1 b2f (by omega)
 have f2 : ∀ i, w2.frozen? ⟨w.heap.size + 1, i, none⟩ = false := fun i => by rw [(zaf b2f).2 _ _ (by omega)]; exact f1 i
 have o2 := o1.below b2f (by omega)
 have HZ2 : Hid (w2.rowIs (w.heap.size + 1 + 1) 29 10 (fun i => (#[.slice none 0 0, .int .i64 0, .int .i64 0, .int .i64 0, .bool false, .int .i64 0, .int .i64 0, .int .i64 0, .int .i64 0, .slice none 0 0] : Array Value).getD i (.bool false))) := World.rowIs.of_block HZ1.out (b2f.block _ (by omega))
 clear k1 v1 f1 b2 b2f o1 HZ1 hq B1
 obtain ⟨d0, d1, d2, d3, d4, d5, d6, d7, d8, d9⟩ := zce HZ2.out rfl rfl rfl rfl rfl rfl rfl rfl rfl rfl
 simp at d0 d1 d2 d3 d4 d5 d6 d7 d8 d9
 have ef := World.rowIs.frozen HZ2.out
 have HO : Hid (zak (w.heap.size + 1 + 1 + 1) w1.heap.size w2 (.slice a1 ws.length ws.length) (.slice a2 rs.length c2) ws.length rs.length (za ws) y) := o2
 have HB : Hid (Below w.heap.size w w2) := B2
 clear o2 B2 HZ2 HP2
 go_wp2
 have q0 : (w2.cell? ⟨w.heap.size + 1 + 1, 0, none⟩).isSome = true := by rw [d0]; rfl
 have q1 : (w2.cell? ⟨w.heap.size + 1 + 1, 1, none⟩).isSome = true := by rw [d1]; rfl
 have q2 : (w2.cell? ⟨w.heap.size + 1 + 1, 2, none⟩).isSome = true := by rw [d2]; rfl
 have q3 : (w2.cell? ⟨w.heap.size + 1 + 1, 3, none⟩).isSome = true := by rw [d3]; rfl
 have q4 : (w2.cell? ⟨w.heap.size + 1 + 1, 4, none⟩).isSome = true := by rw [d4]; rfl
 have q5 : (w2.cell? ⟨w.heap.size + 1 + 1, 5, none⟩).isSome = true := by rw [d5]; rfl
 have q6 : (w2.cell? ⟨w.heap.size + 1 + 1, 6, none⟩).isSome = true := by rw [d6]; rfl
 have q7 : (w2.cell? ⟨w.heap.size + 1 + 1, 7, none⟩).isSome = true := by rw [d7]; rfl
 have q8 : (w2.cell? ⟨w.heap.size + 1 + 1, 8, none⟩).isSome = true := by rw [d8]; rfl
 have q9 : (w2.cell? ⟨w.heap.size + 1 + 1, 9, none⟩).isSome = true := by rw [d9]; rfl
 refine bodyPost_ret (v := .tuple #[.agg #[.slice a1 ws.length ws.length, .int .i64 sm, .int .i64 toh, .int .i64 top, .bool cyc, .int .i64 sn, .int .i64 old, .int .i64 cp, .int .i64 sr, .slice a2 rs.length c2], .int .i64 1]) (by simp [results, Tryz.results47, go_sem, q0, q1, q2, q3, q4, q5, q6, q7, q8, q9]) rfl ⟨_, _, rfl, ?_, ?_⟩
 · obtain ⟨u1, t1, u2, t2, h1, h2, h3, h4, h5, h6, h7⟩ := HO.out
   exact ⟨u1, t1, u2, t2, by omega, by simp; omega, by omega, by simp; omega, h5, za9 h6 (by omega), za9 h7 (by omega)⟩
 · exact zbo HB.out (by omega)
def zdf (ws : List Int) (x : Nat) (t m : Int) : List Int := (ws.set x (IntKind.u64.wrap t)).set (x + 1) (IntKind.u64.wrap m)
theorem zvr (ws : List Int) (x : Nat) (t m : Int) : (zdf ws x t m).length = ws.length := by simp [zdf]
theorem zkl (bw cw x : Nat) (ws : List Int) (a t m : Int) (w : World) (ha : a = x) (hW : RwW w bw ws) (hx : x + 1 < ws.length) (hn : ws.length <= 1048576) :
 Calls Tryz.prog 136 #[.slice (some ⟨bw, 0, none⟩) ws.length cw, .int .i64 a, .agg #[.int .i64 t, .int .i64 m]] w fun e w' => e = .returned (.tuple #[]) /\ RwW w' bw (zdf ws x t m) /\ Kp [bw] w w' := by
 subst ha
 obtain ⟨M, g, hM, hr, hg⟩ := hW
 refine (zqd bw M cw x ws.length g t m w hr (by omega) (by omega) (by omega)).mono ?_
 rintro e w' ⟨rfl, rfl⟩
 have h2 : RwW ((w.setCell ⟨bw, x, none⟩ (.int .u64 (IntKind.u64.wrap t))).setCell ⟨bw, x + 1, none⟩ (.int .u64 (IntKind.u64.wrap m))) bw (zdf ws x t m) := by
  have h1 := RwW.set (w := w) (b := bw) (ws := ws) ⟨M, g, hM, hr, hg⟩ (i := x) (IntKind.u64.wrap t) (by omega)
  exact RwW.set h1 (i := x + 1) (IntKind.u64.wrap m) (by simp; omega)
 exact ⟨rfl, Rw.below h2 ((Below.refl _ _).alloc (Nat.le_refl _) _), (((Kp.refl [bw] w).setCell (p := ⟨bw, x, none⟩) (.inl (by simp)) _).setCell (p := ⟨bw, x + 1, none⟩) (.inl (by simp)) _).alloc _⟩
set_option maxHeartbeats 4000000 in
theorem zlj (aw : Option Addr) (cw : Nat) (ws : List Int) (sm toh top : Int) (cyc : Bool) (sn old cp sr : Int) (ar : Option Addr) (cr : Nat) (rs : List (Int × Int)) (vr vs vk vf vi vv vl vp : Int) (ca : Option Addr) (cl cc : Nat) (tx : ByteArray) (semj tohj topj : Int) (cycj : Bool) (scanj oldj copiedj serialj : Int) (wsj : List Int) (yj : Nat -> Int) (y : Nat -> Int) (Tr : Nat) (w : World) (hs : Sl w (.slice aw ws.length cw) ws) (hcw : ws.length <= cw) (hn : ws.length <= 1048576) (hw : zg ws) (hrt : SlF Tr w (.slice ar rs.length cr) rs.length (2 * rs.length) (fun i => .int .i64 (y i))) (hn2 : rs.length <= 1048576) (hok : zbm ws sm toh top cyc sn old cp sr y rs.length) (hD : ∀ (bw br vb ob cw' cr' : Nat) (ar' : Option Addr) (W : World), (∀ i, W.cell? ⟨vb, i, none⟩ = (#[.pointer (some ⟨ob, 0, none⟩), .int .i64 vr, .int .i64 vs, .int .i64 vk, .int .i64 vf, .int .i64 vi, .int .i64 vv, .int .i64 vl, .int .i64 vp, .slice ca cl cc, .string tx] : Array Value)[i]?) -> vb < W.heap.size -> (∀ i, W.cell? ⟨ob, i, none⟩ = (#[.slice (some ⟨bw, 0, none⟩) ws.length cw', .int .i64 sm, .int .i64 toh, .int .i64 top, .bool cyc, .int .i64 sn, .int .i64 old, .int .i64 cp, .int .i64 sr, .slice ar' rs.length cr'] : Array Value)[i]?) -> W.rowIs ob 29 10 (fun i => (#[.slice (some ⟨bw, 0, none⟩) ws.length cw', .int .i64 sm, .int .i64 toh, .int .i64 top, .bool cyc, .int .i64 sn, .int .i64 old, .int .i64 cp, .int .i64 sr, .slice ar' rs.length cr'] : Array Value).getD i (.bool false)) -> RwW W bw ws -> zdy W ar' br rs.length y -> vb ≠ bw -> ob ≠ bw -> vb ≠ br -> ob ≠ br -> vb ≠ ob -> br < W.heap.size -> (0 < rs.length -> bw ≠ br) -> ws.length <= cw' -> Calls Tryz.prog 106 #[.pointer (some ⟨vb, 0, none⟩)] W fun e w' => e = .returned .nilIface /\ w'.rowIs ob 29 10 (fun i => (#[.slice (some ⟨bw, 0, none⟩) ws.length cw', .int .i64 semj, .int .i64 tohj, .int .i64 topj, .bool cycj, .int .i64 scanj, .int .i64 oldj, .int .i64 copiedj, .int .i64 serialj, .slice ar' rs.length cr'] : Array Value).getD i (.bool false)) /\ RwW w' bw wsj /\ zdy w' ar' br rs.length yj /\ Kp [bw, br, ob] W w') (hlj : wsj.length = ws.length) :
 Calls Tryz.prog 47 #[.agg #[.slice aw ws.length cw, .int .i64 sm, .int .i64 toh, .int .i64 top, .bool cyc, .int .i64 sn, .int .i64 old, .int .i64 cp, .int .i64 sr, .slice ar rs.length cr], .int .i64 0, .agg #[.pointer none, .int .i64 vr, .int .i64 vs, .int .i64 vk, .int .i64 vf, .int .i64 vi, .int .i64 vv, .int .i64 vl, .int .i64 vp, .slice ca cl cc, .string tx]] w fun e w' => ∃ vw vr', e = .returned (.tuple #[.agg #[vw, .int .i64 semj, .int .i64 tohj, .int .i64 topj, .bool cycj, .int .i64 scanj, .int .i64 oldj, .int .i64 copiedj, .int .i64 serialj, vr'], .int .i64 0]) /\ zak w.heap.size w'.heap.size w' vw vr' ws.length rs.length (za wsj) yj /\ Below w.heap.size w w' := by
 have HS : Hid (Sl w (.slice aw ws.length cw) ws) := hs
 have HR : Hid (SlF w.heap.size w (.slice ar rs.length cr) rs.length (2 * rs.length) (fun i => .int .i64 (y i))) := hrt.here
 have HQ : Hid (zbm ws sm toh top cyc sn old cp sr y rs.length) := hok
 have HD : Hid (∀ (bw br vb ob cw' cr' : Nat) (ar' : Option Addr) (W : World), (∀ i, W.cell? ⟨vb, i, none⟩ = (#[.pointer (some ⟨ob, 0, none⟩), .int .i64 vr, .int .i64 vs, .int .i64 vk, .int .i64 vf, .int .i64 vi, .int .i64 vv, .int .i64 vl, .int .i64 vp, .slice ca cl cc, .string tx] : Array Value)[i]?) -> vb < W.heap.size -> (∀ i, W.cell? ⟨ob, i, none⟩ = (#[.slice (some ⟨bw, 0, none⟩) ws.length cw', .int .i64 sm, .int .i64 toh, .int .i64 top, .bool cyc, .int .i64 sn, .int .i64 old, .int .i64 cp, .int .i64 sr, .slice ar' rs.length cr'] : Array Value)[i]?) -> W.rowIs ob 29 10 (fun i => (#[.slice (some ⟨bw, 0, none⟩) ws.length cw', .int .i64 sm, .int .i64 toh, .int .i64 top, .bool cyc, .int .i64 sn, .int .i64 old, .int .i64 cp, .int .i64 sr, .slice ar' rs.length cr'] : Array Value).getD i (.bool false)) -> RwW W bw ws -> zdy W ar' br rs.length y -> vb ≠ bw -> ob ≠ bw -> vb ≠ br -> ob ≠ br -> vb ≠ ob -> br < W.heap.size -> (0 < rs.length -> bw ≠ br) -> ws.length <= cw' -> Calls Tryz.prog 106 #[.pointer (some ⟨vb, 0, none⟩)] W fun e w' => e = .returned .nilIface /\ w'.rowIs ob 29 10 (fun i => (#[.slice (some ⟨bw, 0, none⟩) ws.length cw', .int .i64 semj, .int .i64 tohj, .int .i64 topj, .bool cycj, .int .i64 scanj, .int .i64 oldj, .int .i64 copiedj, .int .i64 serialj, .slice ar' rs.length cr'] : Array Value).getD i (.bool false)) /\ RwW w' bw wsj /\ zdy w' ar' br rs.length yj /\ Kp [bw, br, ob] W w') := hD
 clear hD
 clear hs hrt hok
 go_enter Tryz.func47, Tryz.ntmps47
 go_wp2_with fail
 have B0 : Below w.heap.size w (((w.alloc (.cells #[.slice aw ws.length cw, .int .i64 sm, .int .i64 toh, .int .i64 top, .bool cyc, .int .i64 sn, .int .i64 old, .int .i64 cp, .int .i64 sr, .slice ar rs.length cr] 29)).alloc (.cells #[.pointer none, .int .i64 vr, .int .i64 vs, .int .i64 vk, .int .i64 vf, .int .i64 vi, .int .i64 vv, .int .i64 vl, .int .i64 vp, .slice ca cl cc, .string tx] 70)).alloc (.cells #[.slice none 0 0, .int .i64 0, .int .i64 0, .int .i64 0, .bool false, .int .i64 0, .int .i64 0, .int .i64 0, .int .i64 0, .slice none 0 0] 29)) := (zk (Below.refl _ _)).alloc (by simp; omega) _
 refine (zfq _ _ _ _ _ _ _ _ _ _ _ _ _ _ y w.heap.size _ (HS.out.below B0) hn (HR.out.below B0 (Nat.le_refl _)) hn2).mono ?_
 rintro e w1 ⟨vw, vr1, rfl, ⟨a1, rfl⟩, o1, b1⟩
 simp only [World.size_alloc] at o1
 obtain ⟨a2, c2, rfl⟩ := o1.sl.2.head
 have B1 : Below w.heap.size w w1 := zc B0 b1
 have l1 : w.heap.size + 2 < w1.heap.size := by have := b1.size; simp at this; omega
 have l0 : w.heap.size < w1.heap.size := by omega
 have l01 : w.heap.size + 1 < w1.heap.size := by omega
 have k1 : ∀ i, w1.cell? ⟨w.heap.size, i, none⟩ = (#[.slice aw ws.length cw, .int .i64 sm, .int .i64 toh, .int .i64 top, .bool cyc, .int .i64 sn, .int .i64 old, .int .i64 cp, .int .i64 sr, .slice ar rs.length cr] : Array Value)[i]? := fun i => by rw [b1.cell (p := ⟨w.heap.size, i, none⟩) (by simp <;> omega)]; simp [go_sem]
 have v1 : ∀ i, w1.cell? ⟨w.heap.size + 1, i, none⟩ = (#[.pointer none, .int .i64 vr, .int .i64 vs, .int .i64 vk, .int .i64 vf, .int .i64 vi, .int .i64 vv, .int .i64 vl, .int .i64 vp, .slice ca cl cc, .string tx] : Array Value)[i]? := fun i => by rw [b1.cell (p := ⟨w.heap.size + 1, i, none⟩) (by simp <;> omega)]; simp [go_sem]
 have f1 : ∀ i, w1.frozen? ⟨w.heap.size + 1, i, none⟩ = false := fun i => by rw [(zaf b1).2 _ _ (by simp <;> omega)]; simp [go_sem]
 have HZ1 : Hid (w1.rowIs (w.heap.size + 1 + 1) 29 10 (fun i => (#[.slice none 0 0, .int .i64 0, .int .i64 0, .int .i64 0, .bool false, .int .i64 0, .int .i64 0, .int .i64 0, .int .i64 0, .slice none 0 0] : Array Value).getD i (.bool false))) := ⟨#[.slice none 0 0, .int .i64 0, .int .i64 0, .int .i64 0, .bool false, .int .i64 0, .int .i64 0, .int .i64 0, .int .i64 0, .slice none 0 0], (b1.block _ (by simp)).trans (zaq (by simp)), rfl, fun i hi => by simp [Array.getD, hi]⟩
 clear b1 B0
 go_wp2_with fail
 refine (zfd _ _ _ _ _ _ _ _ _ _ _ _ _ _ y w.heap.size _ (HS.out.below (zam B1)) hcw hn hw (HR.out.below (zam B1) (Nat.le_refl _)) hn2).mono ?_
 rintro e w2 ⟨q, rfl, hq, b2⟩
 obtain rfl := hq.2 HQ.out
 have b2f := ze b2
 have p2 := zp b2 (by simp)
 have HP2 : Hid (w2.rowIs w1.heap.size 29 10 (fun i => (#[.slice a1 ws.length ws.length, .int .i64 sm, .int .i64 toh, .int .i64 top, .bool cyc, .int .i64 sn, .int .i64 old, .int .i64 cp, .int .i64 sr, .slice a2 rs.length c2] : Array Value).getD i (.bool false))) := zic b2 (by simp) rfl
 have z2 : w1.heap.size < w2.heap.size := zr b2
 have B2 := zc B1 b2f
 have k2 := zd k1 b2f (by omega)
 have v2 := zd v1 b2f (by omega)
 have f2 : ∀ i, w2.frozen? ⟨w.heap.size + 1, i, none⟩ = false := fun i => by rw [(zaf b2f).2 _ _ (by omega)]; exact f1 i
 have o2 := o1.below b2f (by omega)
 have HZ2 : Hid (w2.rowIs (w.heap.size + 1 + 1) 29 10 (fun i => (#[.slice none 0 0, .int .i64 0, .int .i64 0, .int .i64 0, .bool false, .int .i64 0, .int .i64 0, .int .i64 0, .int .i64 0, .slice none 0 0] : Array Value).getD i (.bool false))) := World.rowIs.of_block HZ1.out (b2f.block _ (by omega))
 clear k1 v1 f1 b2 b2f o1 HZ1 hq B1
 obtain ⟨s0, s1, hl, t0, t1, hrl, _, _, _⟩ := zc4 HQ.out.1
 have g6 : 0 < ws.length := by omega
 clear s0 s1 hl t0 t1 hrl
 obtain ⟨bw, br, rfl, hW, hR, hne, b1', b2', b3', b4'⟩ := zhh rfl g6 o2
 have f20 := f2 0
 have v20 := v2 0
 clear o2
 go_wp2_with fail
 refine (zl7 (w.heap.size + 1) _).mono ?_
 rintro e w3 ⟨rfl, hd3, b3⟩
 have K3 : Kp [w.heap.size + 1] w2 w3 := (((Kp.refl [w.heap.size + 1] w2).setCell (p := ⟨w.heap.size + 1, 0, none⟩) (.inl (by simp)) (.pointer (some ⟨w1.heap.size, 0, none⟩))).alloc (.cells #[.int .i64 0, .string ⟨#[]⟩] 96)).next b3
 have B3 : Below w.heap.size w w3 := B2.trans (K3.below (fun x hx => by simp at hx; omega) (by omega))
 have z3 : w2.heap.size + 1 < w3.heap.size := by have := World.block_lt_of_cell? w3 ⟨_, 0, none⟩ (hd3 0); simp at this; exact this
 have k3 := Kp.has k2 K3 (by omega) (by simp)
 have v3 : ∀ i, w3.cell? ⟨w.heap.size + 1, i, none⟩ = (#[.pointer (some ⟨w1.heap.size, 0, none⟩), .int .i64 vr, .int .i64 vs, .int .i64 vk, .int .i64 vf, .int .i64 vi, .int .i64 vv, .int .i64 vl, .int .i64 vp, .slice ca cl cc, .string tx] : Array Value)[i]? := fun i => by
  have h1 := zk3 (u := .pointer (some ⟨w1.heap.size, 0, none⟩)) v2 i
  rw [b3.cell (p := ⟨w.heap.size + 1, i, none⟩) (by simp; omega), World.cell?_alloc_lt _ _ ⟨w.heap.size + 1, i, none⟩ (by simp; omega)]
  exact h1
 have HP3 : Hid (w3.rowIs w1.heap.size 29 10 (fun i => (#[.slice (some ⟨bw, 0, none⟩) ws.length ws.length, .int .i64 sm, .int .i64 toh, .int .i64 top, .bool cyc, .int .i64 sn, .int .i64 old, .int .i64 cp, .int .i64 sr, .slice a2 rs.length c2] : Array Value).getD i (.bool false))) := World.rowIs.of_block HP2.out (K3.block _ z2 (by simp; omega))
 have HZ3 : Hid (w3.rowIs (w.heap.size + 1 + 1) 29 10 (fun i => (#[.slice none 0 0, .int .i64 0, .int .i64 0, .int .i64 0, .bool false, .int .i64 0, .int .i64 0, .int .i64 0, .int .i64 0, .slice none 0 0] : Array Value).getD i (.bool false))) := World.rowIs.of_block HZ2.out (K3.block _ (by omega) (by simp))
 have n3 : ∀ i, w3.cell? ⟨w2.heap.size, i, none⟩ = (#[.int .i64 0, .string ⟨#[]⟩] : Array Value)[i]? := fun i => by
  rw [b3.cell (p := ⟨w2.heap.size, i, none⟩) (by simp)]; simp [go_sem]
 have fn3 : ∀ i, w3.frozen? ⟨w2.heap.size, i, none⟩ = false := fun i => by
  rw [(zaf b3).2 _ _ (by simp)]; simp [go_sem]
 have HNR : Hid (w3.rowIs w2.heap.size 96 2 (fun i => (#[.int .i64 0, .string ⟨#[]⟩] : Array Value).getD i (.bool false))) := ⟨#[.int .i64 0, .string ⟨#[]⟩], (b3.block _ (by simp)).trans (zaq (by simp)), rfl, fun i hi => by simp [Array.getD, hi]⟩
 have hW3 : RwW w3 bw ws := Rw.kp hW K3 (by simp; omega)
 have hR3 : zdy w3 a2 br rs.length y := zpr hR K3 (fun _ => by simp; omega)
 have p3 := zx HP3.out rfl
 have HDC : Hid (Calls Tryz.prog 106 #[.pointer (some ⟨w.heap.size + 1, 0, none⟩)] w3 fun e w' => e = .returned .nilIface /\ w'.rowIs w1.heap.size 29 10 (fun i => (#[.slice (some ⟨bw, 0, none⟩) ws.length ws.length, .int .i64 semj, .int .i64 tohj, .int .i64 topj, .bool cycj, .int .i64 scanj, .int .i64 oldj, .int .i64 copiedj, .int .i64 serialj, .slice a2 rs.length c2] : Array Value).getD i (.bool false)) /\ RwW w' bw wsj /\ zdy w' a2 br rs.length yj /\ Kp [bw, br, w1.heap.size] w3 w') := HD.out bw br (w.heap.size + 1) w1.heap.size ws.length c2 a2 w3 v3 (by omega) p3 HP3.out hW3 hR3 (by omega) (by omega) (by omega) (by omega) (by omega) (by omega) hne (Nat.le_refl _)
 have dd : w3.cell? ⟨w2.heap.size + 1, 0, none⟩ = some (.func (Fn.func 106) #[.pointer (some ⟨w.heap.size + 1, 0, none⟩)] #[]) := by have := hd3 0; simpa [zib] using this
 have HB3 : Hid (Below w.heap.size w w3) := B3
 have HN3 : Hid (∀ i, w3.cell? ⟨w2.heap.size, i, none⟩ = (#[.int .i64 0, .string ⟨#[]⟩] : Array Value)[i]?) := n3
 have HK3 : Hid (∀ i, w3.cell? ⟨w.heap.size, i, none⟩ = (#[.slice aw ws.length cw, .int .i64 sm, .int .i64 toh, .int .i64 top, .bool cyc, .int .i64 sn, .int .i64 old, .int .i64 cp, .int .i64 sr, .slice ar rs.length cr] : Array Value)[i]?) := k3
 have HFN : Hid (∀ i, w3.frozen? ⟨w2.heap.size, i, none⟩ = false) := fn3
 clear hd3 b3 K3 B3 k2 v2 f2 v3 HP2 HZ2 hW hR hW3 hR3 p3 n3 k3 fn3 f20 v20 B2 p2 HD
 go_wp2_with fail
 refine (HDC.out).mono ?_
 rintro e w4 ⟨rfl, hA4, hW4, hR4, hK4⟩
 have z4 : w2.heap.size + 1 < w4.heap.size := Nat.lt_of_lt_of_le z3 hK4.size
 have HZ4 : Hid (w4.rowIs (w.heap.size + 1 + 1) 29 10 (fun i => (#[.slice none 0 0, .int .i64 0, .int .i64 0, .int .i64 0, .bool false, .int .i64 0, .int .i64 0, .int .i64 0, .int .i64 0, .slice none 0 0] : Array Value).getD i (.bool false))) := World.rowIs.of_block HZ3.out (hK4.block _ (by omega) (by simp; omega))
 have HB4 : Hid (Below w.heap.size w w4) := HB3.out.trans (hK4.below (fun x hx => by simp at hx; omega) (by omega))
 have KA4 := zx hA4 rfl
 have HW4 : Hid (RwW w4 bw wsj) := hW4
 have HR4 : Hid (zdy w4 a2 br rs.length yj) := hR4
 obtain ⟨d0, d1, d2, d3, d4, d5, d6, d7, d8, d9⟩ := zce HZ4.out rfl rfl rfl rfl rfl rfl rfl rfl rfl rfl
 simp at d0 d1 d2 d3 d4 d5 d6 d7 d8 d9
 have ef := World.rowIs.frozen HZ4.out
 clear hA4 hW4 hR4 hK4 HZ3 HZ4 HP3 HN3 HK3 HFN HB3 HDC dd
 go_wp2_with (go_at_call 79; refine (zw1 _ _).mono ?_; rintro e w5 ⟨rfl, rfl⟩)
 have q0 : (w4.cell? ⟨w.heap.size + 1 + 1, 0, none⟩).isSome = true := by rw [d0]; rfl
 have q1 : (w4.cell? ⟨w.heap.size + 1 + 1, 1, none⟩).isSome = true := by rw [d1]; rfl
 have q2 : (w4.cell? ⟨w.heap.size + 1 + 1, 2, none⟩).isSome = true := by rw [d2]; rfl
 have q3 : (w4.cell? ⟨w.heap.size + 1 + 1, 3, none⟩).isSome = true := by rw [d3]; rfl
 have q4 : (w4.cell? ⟨w.heap.size + 1 + 1, 4, none⟩).isSome = true := by rw [d4]; rfl
 have q5 : (w4.cell? ⟨w.heap.size + 1 + 1, 5, none⟩).isSome = true := by rw [d5]; rfl
 have q6 : (w4.cell? ⟨w.heap.size + 1 + 1, 6, none⟩).isSome = true := by rw [d6]; rfl
 have q7 : (w4.cell? ⟨w.heap.size + 1 + 1, 7, none⟩).isSome = true := by rw [d7]; rfl
 have q8 : (w4.cell? ⟨w.heap.size + 1 + 1, 8, none⟩).isSome = true := by rw [d8]; rfl
 have q9 : (w4.cell? ⟨w.heap.size + 1 + 1, 9, none⟩).isSome = true := by rw [d9]; rfl
 refine bodyPost_ret (v := .tuple #[.agg #[.slice (some ⟨bw, 0, none⟩) ws.length ws.length, .int .i64 semj, .int .i64 tohj, .int .i64 topj, .bool cycj, .int .i64 scanj, .int .i64 oldj, .int .i64 copiedj, .int .i64 serialj, .slice a2 rs.length c2], .int .i64 0]) (by simp [results, Tryz.results47, go_sem, q0, q1, q2, q3, q4, q5, q6, q7, q8, q9]) rfl ⟨_, _, rfl, ?_, ?_⟩
 · exact zn0 hlj (Rw.of_block HW4.out (za3 (by omega))) (zjm HR4.out (fun _ => za3 (by omega))) hne (by omega) (by simp; omega) (by omega) (by simp; omega)
 · exact zbo HB4.out (by omega)
set_option maxHeartbeats 4000000 in
theorem ze9 (aw : Option Addr) (cw : Nat) (ws : List Int) (sm toh top : Int) (cyc : Bool) (sn old cp sr : Int) (ar : Option Addr) (cr : Nat) (rs : List (Int × Int)) (vr vs vk vf vi vv vl vp : Int) (ca : Option Addr) (cl cc : Nat) (tx : ByteArray)  (y : Nat -> Int) (Tr : Nat) (w : World) (hs : Sl w (.slice aw ws.length cw) ws) (hcw : ws.length <= cw) (hn : ws.length <= 1048576) (hw : zg ws) (hrt : SlF Tr w (.slice ar rs.length cr) rs.length (2 * rs.length) (fun i => .int .i64 (y i))) (hn2 : rs.length <= 1048576) (hok : zbm ws sm toh top cyc sn old cp sr y rs.length) (hg : w.cell? ⟨0, 0, none⟩ = some (.iface 143 (.agg #[.pointer (some ⟨2, 99, none⟩)]))) (hD : ∀ (bw br vb ob cw' cr' : Nat) (ar' : Option Addr) (W : World), (∀ i, W.cell? ⟨vb, i, none⟩ = (#[.pointer (some ⟨ob, 0, none⟩), .int .i64 vr, .int .i64 vs, .int .i64 vk, .int .i64 vf, .int .i64 vi, .int .i64 vv, .int .i64 vl, .int .i64 vp, .slice ca cl cc, .string tx] : Array Value)[i]?) -> vb < W.heap.size -> (∀ i, W.cell? ⟨ob, i, none⟩ = (#[.slice (some ⟨bw, 0, none⟩) ws.length cw', .int .i64 sm, .int .i64 toh, .int .i64 top, .bool cyc, .int .i64 sn, .int .i64 old, .int .i64 cp, .int .i64 sr, .slice ar' rs.length cr'] : Array Value)[i]?) -> W.rowIs ob 29 10 (fun i => (#[.slice (some ⟨bw, 0, none⟩) ws.length cw', .int .i64 sm, .int .i64 toh, .int .i64 top, .bool cyc, .int .i64 sn, .int .i64 old, .int .i64 cp, .int .i64 sr, .slice ar' rs.length cr'] : Array Value).getD i (.bool false)) -> RwW W bw ws -> zdy W ar' br rs.length y -> vb ≠ bw -> ob ≠ bw -> vb ≠ br -> ob ≠ br -> vb ≠ ob -> br < W.heap.size -> (0 < rs.length -> bw ≠ br) -> ws.length <= cw' -> Calls Tryz.prog 106 #[.pointer (some ⟨vb, 0, none⟩)] W fun e w' => (∃ x, e = .returned (.iface 96 (.agg #[.int .i64 1, .string x]))) /\ Kp [bw, br, ob] W w') :
 Calls Tryz.prog 47 #[.agg #[.slice aw ws.length cw, .int .i64 sm, .int .i64 toh, .int .i64 top, .bool cyc, .int .i64 sn, .int .i64 old, .int .i64 cp, .int .i64 sr, .slice ar rs.length cr], .int .i64 0, .agg #[.pointer none, .int .i64 vr, .int .i64 vs, .int .i64 vk, .int .i64 vf, .int .i64 vi, .int .i64 vv, .int .i64 vl, .int .i64 vp, .slice ca cl cc, .string tx]] w fun e w' => ∃ vw vr', e = .returned (.tuple #[.agg #[vw, .int .i64 sm, .int .i64 toh, .int .i64 top, .bool cyc, .int .i64 sn, .int .i64 old, .int .i64 cp, .int .i64 sr, vr'], .int .i64 1]) /\ zak w.heap.size w'.heap.size w' vw vr' ws.length rs.length (za ws) y /\ Below w.heap.size w w' := by
 have HS : Hid (Sl w (.slice aw ws.length cw) ws) := hs
 have HR : Hid (SlF w.heap.size w (.slice ar rs.length cr) rs.length (2 * rs.length) (fun i => .int .i64 (y i))) := hrt.here
 have HQ : Hid (zbm ws sm toh top cyc sn old cp sr y rs.length) := hok
 have HD : Hid (∀ (bw br vb ob cw' cr' : Nat) (ar' : Option Addr) (W : World), (∀ i, W.cell? ⟨vb, i, none⟩ = (#[.pointer (some ⟨ob, 0, none⟩), .int .i64 vr, .int .i64 vs, .int .i64 vk, .int .i64 vf, .int .i64 vi, .int .i64 vv, .int .i64 vl, .int .i64 vp, .slice ca cl cc, .string tx] : Array Value)[i]?) -> vb < W.heap.size -> (∀ i, W.cell? ⟨ob, i, none⟩ = (#[.slice (some ⟨bw, 0, none⟩) ws.length cw', .int .i64 sm, .int .i64 toh, .int .i64 top, .bool cyc, .int .i64 sn, .int .i64 old, .int .i64 cp, .int .i64 sr, .slice ar' rs.length cr'] : Array Value)[i]?) -> W.rowIs ob 29 10 (fun i => (#[.slice (some ⟨bw, 0, none⟩) ws.length cw', .int .i64 sm, .int .i64 toh, .int .i64 top, .bool cyc, .int .i64 sn, .int .i64 old, .int .i64 cp, .int .i64 sr, .slice ar' rs.length cr'] : Array Value).getD i (.bool false)) -> RwW W bw ws -> zdy W ar' br rs.length y -> vb ≠ bw -> ob ≠ bw -> vb ≠ br -> ob ≠ br -> vb ≠ ob -> br < W.heap.size -> (0 < rs.length -> bw ≠ br) -> ws.length <= cw' -> Calls Tryz.prog 106 #[.pointer (some ⟨vb, 0, none⟩)] W fun e w' => (∃ x, e = .returned (.iface 96 (.agg #[.int .i64 1, .string x]))) /\ Kp [bw, br, ob] W w') := hD
 have HG : Hid (w.cell? ⟨0, 0, none⟩ = some (.iface 143 (.agg #[.pointer (some ⟨2, 99, none⟩)]))) := hg
 clear hD hg
 clear hs hrt hok
 go_enter Tryz.func47, Tryz.ntmps47
 go_wp2_with fail
 have B0 : Below w.heap.size w (((w.alloc (.cells #[.slice aw ws.length cw, .int .i64 sm, .int .i64 toh, .int .i64 top, .bool cyc, .int .i64 sn, .int .i64 old, .int .i64 cp, .int .i64 sr, .slice ar rs.length cr] 29)).alloc (.cells #[.pointer none, .int .i64 vr, .int .i64 vs, .int .i64 vk, .int .i64 vf, .int .i64 vi, .int .i64 vv, .int .i64 vl, .int .i64 vp, .slice ca cl cc, .string tx] 70)).alloc (.cells #[.slice none 0 0, .int .i64 0, .int .i64 0, .int .i64 0, .bool false, .int .i64 0, .int .i64 0, .int .i64 0, .int .i64 0, .slice none 0 0] 29)) := (zk (Below.refl _ _)).alloc (by simp; omega) _
 refine (zfq _ _ _ _ _ _ _ _ _ _ _ _ _ _ y w.heap.size _ (HS.out.below B0) hn (HR.out.below B0 (Nat.le_refl _)) hn2).mono ?_
 rintro e w1 ⟨vw, vr1, rfl, ⟨a1, rfl⟩, o1, b1⟩
 simp only [World.size_alloc] at o1
 obtain ⟨a2, c2, rfl⟩ := o1.sl.2.head
 have B1 : Below w.heap.size w w1 := zc B0 b1
 have l1 : w.heap.size + 2 < w1.heap.size := by have := b1.size; simp at this; omega
 have l0 : w.heap.size < w1.heap.size := by omega
 have l01 : w.heap.size + 1 < w1.heap.size := by omega
 have k1 : ∀ i, w1.cell? ⟨w.heap.size, i, none⟩ = (#[.slice aw ws.length cw, .int .i64 sm, .int .i64 toh, .int .i64 top, .bool cyc, .int .i64 sn, .int .i64 old, .int .i64 cp, .int .i64 sr, .slice ar rs.length cr] : Array Value)[i]? := fun i => by rw [b1.cell (p := ⟨w.heap.size, i, none⟩) (by simp <;> omega)]; simp [go_sem]
 have v1 : ∀ i, w1.cell? ⟨w.heap.size + 1, i, none⟩ = (#[.pointer none, .int .i64 vr, .int .i64 vs, .int .i64 vk, .int .i64 vf, .int .i64 vi, .int .i64 vv, .int .i64 vl, .int .i64 vp, .slice ca cl cc, .string tx] : Array Value)[i]? := fun i => by rw [b1.cell (p := ⟨w.heap.size + 1, i, none⟩) (by simp <;> omega)]; simp [go_sem]
 have f1 : ∀ i, w1.frozen? ⟨w.heap.size + 1, i, none⟩ = false := fun i => by rw [(zaf b1).2 _ _ (by simp <;> omega)]; simp [go_sem]
 have HZ1 : Hid (w1.rowIs (w.heap.size + 1 + 1) 29 10 (fun i => (#[.slice none 0 0, .int .i64 0, .int .i64 0, .int .i64 0, .bool false, .int .i64 0, .int .i64 0, .int .i64 0, .int .i64 0, .slice none 0 0] : Array Value).getD i (.bool false))) := ⟨#[.slice none 0 0, .int .i64 0, .int .i64 0, .int .i64 0, .bool false, .int .i64 0, .int .i64 0, .int .i64 0, .int .i64 0, .slice none 0 0], (b1.block _ (by simp)).trans (zaq (by simp)), rfl, fun i hi => by simp [Array.getD, hi]⟩
 clear b1 B0
 go_wp2_with fail
 refine (zfd _ _ _ _ _ _ _ _ _ _ _ _ _ _ y w.heap.size _ (HS.out.below (zam B1)) hcw hn hw (HR.out.below (zam B1) (Nat.le_refl _)) hn2).mono ?_
 rintro e w2 ⟨q, rfl, hq, b2⟩
 obtain rfl := hq.2 HQ.out
 have b2f := ze b2
 have p2 := zp b2 (by simp)
 have HP2 : Hid (w2.rowIs w1.heap.size 29 10 (fun i => (#[.slice a1 ws.length ws.length, .int .i64 sm, .int .i64 toh, .int .i64 top, .bool cyc, .int .i64 sn, .int .i64 old, .int .i64 cp, .int .i64 sr, .slice a2 rs.length c2] : Array Value).getD i (.bool false))) := zic b2 (by simp) rfl
 have z2 : w1.heap.size < w2.heap.size := zr b2
 have B2 := zc B1 b2f
 have k2 := zd k1 b2f (by omega)
 have v2 := zd v1 b2f (by omega)
 have f2 : ∀ i, w2.frozen? ⟨w.heap.size + 1, i, none⟩ = false := fun i => by rw [(zaf b2f).2 _ _ (by omega)]; exact f1 i
 have o2 := o1.below b2f (by omega)
 have HZ2 : Hid (w2.rowIs (w.heap.size + 1 + 1) 29 10 (fun i => (#[.slice none 0 0, .int .i64 0, .int .i64 0, .int .i64 0, .bool false, .int .i64 0, .int .i64 0, .int .i64 0, .int .i64 0, .slice none 0 0] : Array Value).getD i (.bool false))) := World.rowIs.of_block HZ1.out (b2f.block _ (by omega))
 clear k1 v1 f1 b2 b2f o1 HZ1 hq B1
 obtain ⟨s0, s1, hl, t0, t1, hrl, _, _, _⟩ := zc4 HQ.out.1
 have g6 : 0 < ws.length := by omega
 clear s0 s1 hl t0 t1 hrl
 obtain ⟨bw, br, rfl, hW, hR, hne, b1', b2', b3', b4'⟩ := zhh rfl g6 o2
 have f20 := f2 0
 have v20 := v2 0
 clear o2
 go_wp2_with fail
 refine (zl7 (w.heap.size + 1) _).mono ?_
 rintro e w3 ⟨rfl, hd3, b3⟩
 have K3 : Kp [w.heap.size + 1] w2 w3 := (((Kp.refl [w.heap.size + 1] w2).setCell (p := ⟨w.heap.size + 1, 0, none⟩) (.inl (by simp)) (.pointer (some ⟨w1.heap.size, 0, none⟩))).alloc (.cells #[.int .i64 0, .string ⟨#[]⟩] 96)).next b3
 have B3 : Below w.heap.size w w3 := B2.trans (K3.below (fun x hx => by simp at hx; omega) (by omega))
 have z3 : w2.heap.size + 1 < w3.heap.size := by have := World.block_lt_of_cell? w3 ⟨_, 0, none⟩ (hd3 0); simp at this; exact this
 have k3 := Kp.has k2 K3 (by omega) (by simp)
 have v3 : ∀ i, w3.cell? ⟨w.heap.size + 1, i, none⟩ = (#[.pointer (some ⟨w1.heap.size, 0, none⟩), .int .i64 vr, .int .i64 vs, .int .i64 vk, .int .i64 vf, .int .i64 vi, .int .i64 vv, .int .i64 vl, .int .i64 vp, .slice ca cl cc, .string tx] : Array Value)[i]? := fun i => by
  have h1 := zk3 (u := .pointer (some ⟨w1.heap.size, 0, none⟩)) v2 i
  rw [b3.cell (p := ⟨w.heap.size + 1, i, none⟩) (by simp; omega), World.cell?_alloc_lt _ _ ⟨w.heap.size + 1, i, none⟩ (by simp; omega)]
  exact h1
 have HP3 : Hid (w3.rowIs w1.heap.size 29 10 (fun i => (#[.slice (some ⟨bw, 0, none⟩) ws.length ws.length, .int .i64 sm, .int .i64 toh, .int .i64 top, .bool cyc, .int .i64 sn, .int .i64 old, .int .i64 cp, .int .i64 sr, .slice a2 rs.length c2] : Array Value).getD i (.bool false))) := World.rowIs.of_block HP2.out (K3.block _ z2 (by simp; omega))
 have HZ3 : Hid (w3.rowIs (w.heap.size + 1 + 1) 29 10 (fun i => (#[.slice none 0 0, .int .i64 0, .int .i64 0, .int .i64 0, .bool false, .int .i64 0, .int .i64 0, .int .i64 0, .int .i64 0, .slice none 0 0] : Array Value).getD i (.bool false))) := World.rowIs.of_block HZ2.out (K3.block _ (by omega) (by simp))
 have n3 : ∀ i, w3.cell? ⟨w2.heap.size, i, none⟩ = (#[.int .i64 0, .string ⟨#[]⟩] : Array Value)[i]? := fun i => by
  rw [b3.cell (p := ⟨w2.heap.size, i, none⟩) (by simp)]; simp [go_sem]
 have fn3 : ∀ i, w3.frozen? ⟨w2.heap.size, i, none⟩ = false := fun i => by
  rw [(zaf b3).2 _ _ (by simp)]; simp [go_sem]
 have HNR : Hid (w3.rowIs w2.heap.size 96 2 (fun i => (#[.int .i64 0, .string ⟨#[]⟩] : Array Value).getD i (.bool false))) := ⟨#[.int .i64 0, .string ⟨#[]⟩], (b3.block _ (by simp)).trans (zaq (by simp)), rfl, fun i hi => by simp [Array.getD, hi]⟩
 have hW3 : RwW w3 bw ws := Rw.kp hW K3 (by simp; omega)
 have hR3 : zdy w3 a2 br rs.length y := zpr hR K3 (fun _ => by simp; omega)
 have p3 := zx HP3.out rfl
 have HDC : Hid (Calls Tryz.prog 106 #[.pointer (some ⟨w.heap.size + 1, 0, none⟩)] w3 fun e w' => (∃ x, e = .returned (.iface 96 (.agg #[.int .i64 1, .string x]))) /\ Kp [bw, br, w1.heap.size] w3 w') := HD.out bw br (w.heap.size + 1) w1.heap.size ws.length c2 a2 w3 v3 (by omega) p3 HP3.out hW3 hR3 (by omega) (by omega) (by omega) (by omega) (by omega) (by omega) hne (Nat.le_refl _)
 have dd : w3.cell? ⟨w2.heap.size + 1, 0, none⟩ = some (.func (Fn.func 106) #[.pointer (some ⟨w.heap.size + 1, 0, none⟩)] #[]) := by have := hd3 0; simpa [zib] using this
 have HB3 : Hid (Below w.heap.size w w3) := B3
 have HN3 : Hid (∀ i, w3.cell? ⟨w2.heap.size, i, none⟩ = (#[.int .i64 0, .string ⟨#[]⟩] : Array Value)[i]?) := n3
 have HK3 : Hid (∀ i, w3.cell? ⟨w.heap.size, i, none⟩ = (#[.slice aw ws.length cw, .int .i64 sm, .int .i64 toh, .int .i64 top, .bool cyc, .int .i64 sn, .int .i64 old, .int .i64 cp, .int .i64 sr, .slice ar rs.length cr] : Array Value)[i]?) := k3
 have HFN : Hid (∀ i, w3.frozen? ⟨w2.heap.size, i, none⟩ = false) := fn3
 clear hd3 b3 K3 B3 k2 v2 f2 v3 HP2 HZ2 hW hR hW3 hR3 p3 n3 k3 fn3 f20 v20 B2 p2 HD
 go_wp2_with fail
 refine (HDC.out).mono ?_
 rintro e w4 ⟨⟨x, rfl⟩, hK4⟩
 have z4 : w2.heap.size + 1 < w4.heap.size := Nat.lt_of_lt_of_le z3 hK4.size
 have HZ4 : Hid (w4.rowIs (w.heap.size + 1 + 1) 29 10 (fun i => (#[.slice none 0 0, .int .i64 0, .int .i64 0, .int .i64 0, .bool false, .int .i64 0, .int .i64 0, .int .i64 0, .int .i64 0, .slice none 0 0] : Array Value).getD i (.bool false))) := World.rowIs.of_block HZ3.out (hK4.block _ (by omega) (by simp; omega))
 have HB4 : Hid (Below w.heap.size w w4) := HB3.out.trans (hK4.below (fun x hx => by simp at hx; omega) (by omega))
 have HN4 : Hid (w4.rowIs w2.heap.size 96 2 (fun i => (#[.int .i64 0, .string ⟨#[]⟩] : Array Value).getD i (.bool false))) := World.rowIs.of_block HNR.out (hK4.block _ (by omega) (by simp; omega))
 have HK4 : Hid (∀ i, w4.cell? ⟨w.heap.size, i, none⟩ = (#[.slice aw ws.length cw, .int .i64 sm, .int .i64 toh, .int .i64 top, .bool cyc, .int .i64 sn, .int .i64 old, .int .i64 cp, .int .i64 sr, .slice ar rs.length cr] : Array Value)[i]?) := Kp.has HK3.out hK4 (by omega) (by simp; omega)
 have hg0 : 0 < w.heap.size := World.block_lt_of_cell? _ ⟨0, 0, none⟩ HG.out
 have HG4 : Hid (w4.cell? ⟨0, 0, none⟩ = some (.iface 143 (.agg #[.pointer (some ⟨2, 99, none⟩)]))) := by show _ = _; rw [HB4.out.cell (p := ⟨0, 0, none⟩) hg0]; exact HG.out
 clear hK4 HZ3 HP3 HN3 HK3 HFN HB3 HDC dd HNR HG
 go_wp2_with fail
 refine (zxi w2.heap.size 1 x (.int .i64 0) (.string ⟨#[]⟩) _ HG4.out (HN4.out.cell (i := 0) (by omega)) (HN4.out.cell (i := 1) (by omega)) (fun i => HN4.out.frozen i)).mono ?_
 rintro e w5 ⟨rfl, cn0, cn1, hK5⟩
 have z5 : w2.heap.size + 1 < w5.heap.size := Nat.lt_of_lt_of_le z4 hK5.size
 have HZ5 : Hid (w5.rowIs (w.heap.size + 1 + 1) 29 10 (fun i => (#[.slice none 0 0, .int .i64 0, .int .i64 0, .int .i64 0, .bool false, .int .i64 0, .int .i64 0, .int .i64 0, .int .i64 0, .slice none 0 0] : Array Value).getD i (.bool false))) := World.rowIs.of_block HZ4.out (hK5.block _ (by omega) (by simp; omega))
 have B5 : Below w.heap.size w w5 := HB4.out.trans (hK5.below (fun x hx => by simp at hx; omega) (by omega))
 have k5 : ∀ i, w5.cell? ⟨w.heap.size, i, none⟩ = (#[.slice aw ws.length cw, .int .i64 sm, .int .i64 toh, .int .i64 top, .bool cyc, .int .i64 sn, .int .i64 old, .int .i64 cp, .int .i64 sr, .slice ar rs.length cr] : Array Value)[i]? := Kp.has HK4.out hK5 (by omega) (by simp; omega)
 have l5 : w.heap.size < w5.heap.size := by omega
 have ln5 : w2.heap.size < w5.heap.size := by omega
 have HB5 : Hid (Below w.heap.size w w5.drew) := B5.drew
 clear hK5 HZ4 HB4 HN4 HK4 HG4 cn1
 go_upto_region 10 with fail
 go_region_with (go_at_call 77; refine (zfq _ _ _ _ _ _ _ _ _ _ _ _ _ _ y w.heap.size _ (HS.out.below HB5.out) hn (HR.out.below HB5.out (Nat.le_refl _)) hn2).mono ?_; rintro e w6 ⟨vw6, vr6, rfl, ⟨a6, rfl⟩, o6, b6⟩; obtain ⟨a7, c7, rfl⟩ := o6.sl.2.head; have cn6 : w6.cell? ⟨w2.heap.size, 0, none⟩ = some (.int .i64 1) := (by rw [b6.cell (p := ⟨w2.heap.size, 0, none⟩) ln5]; exact cn0); have RZ6 := World.rowIs.of_block HZ5.out (b6.block (w.heap.size + 1 + 1) (show w.heap.size + 1 + 1 < w5.heap.size by omega)); obtain ⟨d0, d1, d2, d3, d4, d5, d6, d7, d8, d9⟩ := zce RZ6 rfl rfl rfl rfl rfl rfl rfl rfl rfl rfl; simp at d0 d1 d2 d3 d4 d5 d6 d7 d8 d9; have ef := World.rowIs.frozen RZ6; have HO6 : Hid (zak w5.heap.size w6.heap.size w6 (.slice a6 ws.length ws.length) (.slice a7 rs.length c7) ws.length rs.length (za ws) y) := o6; have HB6 : Hid (Below w.heap.size w w6) := zc HB5.out b6; have z6 : w5.heap.size <= w6.heap.size := b6.size; clear o6 b6 RZ6)
 all_goals
  try go_wp2
 all_goals
  have q0 : (w6.cell? ⟨w.heap.size + 1 + 1, 0, none⟩).isSome = true := by rw [d0]; rfl
  have q1 : (w6.cell? ⟨w.heap.size + 1 + 1, 1, none⟩).isSome = true := by rw [d1]; rfl
  have q2 : (w6.cell? ⟨w.heap.size + 1 + 1, 2, none⟩).isSome = true := by rw [d2]; rfl
  have q3 : (w6.cell? ⟨w.heap.size + 1 + 1, 3, none⟩).isSome = true := by rw [d3]; rfl
  have q4 : (w6.cell? ⟨w.heap.size + 1 + 1, 4, none⟩).isSome = true := by rw [d4]; rfl
  have q5 : (w6.cell? ⟨w.heap.size + 1 + 1, 5, none⟩).isSome = true := by rw [d5]; rfl
  have q6 : (w6.cell? ⟨w.heap.size + 1 + 1, 6, none⟩).isSome = true := by rw [d6]; rfl
  have q7 : (w6.cell? ⟨w.heap.size + 1 + 1, 7, none⟩).isSome = true := by rw [d7]; rfl
  have q8 : (w6.cell? ⟨w.heap.size + 1 + 1, 8, none⟩).isSome = true := by rw [d8]; rfl
  have q9 : (w6.cell? ⟨w.heap.size + 1 + 1, 9, none⟩).isSome = true := by rw [d9]; rfl
  refine bodyPost_ret (v := .tuple #[.agg #[.slice a6 ws.length ws.length, .int .i64 sm, .int .i64 toh, .int .i64 top, .bool cyc, .int .i64 sn, .int .i64 old, .int .i64 cp, .int .i64 sr, .slice a7 rs.length c7], .int .i64 1]) (by simp [results, Tryz.results47, go_sem, q0, q1, q2, q3, q4, q5, q6, q7, q8, q9]) rfl ⟨_, _, rfl, ?_, ?_⟩
  · obtain ⟨u1, t1, u2, t2, h1, h2, h3, h4, h5, h6, h7⟩ := HO6.out
    exact ⟨u1, t1, u2, t2, by omega, by simp; omega, by omega, by simp; omega, h5, za9 h6 (by omega), za9 h7 (by omega)⟩
  · exact zbo HB6.out (by omega)
set_option maxHeartbeats 1000000 in
theorem zvs (bw cw : Nat) (ws : List Int) (sm toh top : Int) (cyc : Bool) (sn old cp sr : Int) (ar : Option Addr) (cr : Nat) (rs : List (Int × Int)) (x : Nat) (a t m : Int) (w : World) (ha : a = x) (hW : RwW w bw ws) (hx : x + 1 < ws.length) (hn : ws.length <= 1048576) :
 Calls Tryz.prog 55 #[.agg #[.slice (some ⟨bw, 0, none⟩) ws.length cw, .int .i64 sm, .int .i64 toh, .int .i64 top, .bool cyc, .int .i64 sn, .int .i64 old, .int .i64 cp, .int .i64 sr, .slice ar rs.length cr], .int .i64 a, .agg #[.int .i64 t, .int .i64 m]] w fun e w' => e = .returned (.agg #[.slice (some ⟨bw, 0, none⟩) ws.length cw, .int .i64 sm, .int .i64 toh, .int .i64 top, .bool cyc, .int .i64 sn, .int .i64 old, .int .i64 cp, .int .i64 sr, .slice ar rs.length cr]) /\ RwW w' bw (zdf ws x t m) /\ Kp [bw] w w' := by
 subst ha
 have c0 := hW.cell (i := x) (by omega)
 have c1 := hW.cell (i := x + 1) (by omega)
 have f0 := hW.frozen x
 have f1 := hW.frozen (x + 1)
 have lb := hW.lt
 have ne0 : bw ≠ w.heap.size := by omega
 have ne1 : bw ≠ w.heap.size + 1 := by omega
 have ne2 : bw ≠ w.heap.size + 1 + 1 := by omega
 have c0' : ∀ o1 o2 o3, (((w.alloc o1).alloc o2).alloc o3).cell? ⟨bw, x, none⟩ = some (.int .u64 (za ws x)) := fun o1 o2 o3 => by rw [World.cell?_alloc_lt _ _ ⟨bw, x, none⟩ (by simp; omega), World.cell?_alloc_lt _ _ ⟨bw, x, none⟩ (by simp; omega), World.cell?_alloc_lt _ _ ⟨bw, x, none⟩ lb]; exact c0
 have f0' : ∀ o1 o2 o3, (((w.alloc o1).alloc o2).alloc o3).frozen? ⟨bw, x, none⟩ = false := fun o1 o2 o3 => by rw [World.frozen?_alloc_old _ _ ⟨bw, x, none⟩ (by simp; omega), World.frozen?_alloc_old _ _ ⟨bw, x, none⟩ (by simp; omega), World.frozen?_alloc_old _ _ ⟨bw, x, none⟩ ne0]; exact f0
 have x0 : (x : Int) < (ws.length : Int) := by omega
 have x1 : (x : Int) + 1 < (ws.length : Int) := by omega
 have x2 : ((x : Int) + 1).toNat = x + 1 := by omega
 have n1 : (ws.length : Int) <= 1048576 := by omega
 have HW : Hid (RwW w bw ws) := hW
 clear hW c0 f0 c1 f1
 go_enter Tryz.func55, Tryz.ntmps55
 go_upto_region 2 with fail
 obtain ⟨w2, hw2⟩ : ∃ V, V = (((w.alloc (.cells #[.slice (some ⟨bw, 0, none⟩) ws.length cw, .int .i64 sm, .int .i64 toh, .int .i64 top, .bool cyc, .int .i64 sn, .int .i64 old, .int .i64 cp, .int .i64 sr, .slice ar rs.length cr] 29)).alloc (.cells #[.int .i64 t, .int .i64 m] 57)).alloc (.cells #[.slice none 0 0, .int .i64 0, .int .i64 0, .int .i64 0, .bool false, .int .i64 0, .int .i64 0, .int .i64 0, .int .i64 0, .slice none 0 0] 29)).setCell ⟨bw, x, none⟩ (.int .u64 (IntKind.u64.wrap t)) := ⟨_, rfl⟩
 rw [<- hw2]
 have B0 : Below w.heap.size w (((w.alloc (.cells #[.slice (some ⟨bw, 0, none⟩) ws.length cw, .int .i64 sm, .int .i64 toh, .int .i64 top, .bool cyc, .int .i64 sn, .int .i64 old, .int .i64 cp, .int .i64 sr, .slice ar rs.length cr] 29)).alloc (.cells #[.int .i64 t, .int .i64 m] 57)).alloc (.cells #[.slice none 0 0, .int .i64 0, .int .i64 0, .int .i64 0, .bool false, .int .i64 0, .int .i64 0, .int .i64 0, .int .i64 0, .slice none 0 0] 29)) := (zk (Below.refl _ _)).alloc (by simp; omega) _
 have K2 : Kp [bw] w w2 := by rw [hw2]; exact (Kp.of_below B0).setCell (p := ⟨bw, x, none⟩) (.inl (by simp)) _
 have R2 : RwW w2 bw (ws.set x (IntKind.u64.wrap t)) := by rw [hw2]; exact RwW.set (Rw.below HW.out B0) (IntKind.u64.wrap t) (by omega)
 have k2 : ∀ i, w2.cell? ⟨w.heap.size, i, none⟩ = (#[.slice (some ⟨bw, 0, none⟩) ws.length cw, .int .i64 sm, .int .i64 toh, .int .i64 top, .bool cyc, .int .i64 sn, .int .i64 old, .int .i64 cp, .int .i64 sr, .slice ar rs.length cr] : Array Value)[i]? := fun i => by rw [hw2, World.cell?_setCell_other _ _ _ _ (by first | (simp; done) | (simp; omega))]; simp [go_sem]
 have v2 : ∀ i, w2.cell? ⟨w.heap.size + 1, i, none⟩ = (#[.int .i64 t, .int .i64 m] : Array Value)[i]? := fun i => by rw [hw2, World.cell?_setCell_other _ _ _ _ (by first | (simp; done) | (simp; omega))]; simp [go_sem]
 have Z2 : w2.rowIs (w.heap.size + 1 + 1) 29 10 (fun i => (#[.slice none 0 0, .int .i64 0, .int .i64 0, .int .i64 0, .bool false, .int .i64 0, .int .i64 0, .int .i64 0, .int .i64 0, .slice none 0 0] : Array Value).getD i (.bool false)) := by rw [hw2]; exact ⟨#[.slice none 0 0, .int .i64 0, .int .i64 0, .int .i64 0, .bool false, .int .i64 0, .int .i64 0, .int .i64 0, .int .i64 0, .slice none 0 0], (Below.heap_setCell _ _ _ _ (by simp; omega)).trans (zaq (by simp)), rfl, fun i hi => by simp [Array.getD, hi]⟩
 have l2 : w.heap.size + 1 + 1 < w2.heap.size := Z2.lt
 have c2 := R2.cell (i := x + 1) (by simp; omega)
 have f2 := R2.frozen (x + 1)
 have HR2 : Hid (RwW w2 bw (ws.set x (IntKind.u64.wrap t))) := R2
 have HZ2 : Hid (w2.rowIs (w.heap.size + 1 + 1) 29 10 (fun i => (#[.slice none 0 0, .int .i64 0, .int .i64 0, .int .i64 0, .bool false, .int .i64 0, .int .i64 0, .int .i64 0, .int .i64 0, .slice none 0 0] : Array Value).getD i (.bool false))) := Z2
 have HK2 : Hid (Kp [bw] w w2) := K2
 clear hw2 B0 K2 R2 Z2 c0' f0'
 go_upto_region 3 with fail
 obtain ⟨w3, hw3⟩ : ∃ V, V = w2.setCell ⟨bw, x + 1, none⟩ (.int .u64 (IntKind.u64.wrap m)) := ⟨_, rfl⟩
 rw [<- hw3]
 have HR3 : Hid (RwW w3 bw (zdf ws x t m)) := by show RwW w3 bw (zdf ws x t m); rw [hw3]; exact RwW.set HR2.out (IntKind.u64.wrap m) (by simp; omega)
 have HK3 : Hid (Kp [bw] w w3) := by show Kp [bw] w w3; rw [hw3]; exact HK2.out.setCell (p := ⟨bw, x + 1, none⟩) (.inl (by simp)) _
 have k3 : ∀ i, w3.cell? ⟨w.heap.size, i, none⟩ = (#[.slice (some ⟨bw, 0, none⟩) ws.length cw, .int .i64 sm, .int .i64 toh, .int .i64 top, .bool cyc, .int .i64 sn, .int .i64 old, .int .i64 cp, .int .i64 sr, .slice ar rs.length cr] : Array Value)[i]? := fun i => by rw [hw3, World.cell?_setCell_other _ _ _ _ (by first | (simp; done) | (simp; omega))]; exact k2 i
 have Z3 : w3.rowIs (w.heap.size + 1 + 1) 29 10 (fun i => (#[.slice none 0 0, .int .i64 0, .int .i64 0, .int .i64 0, .bool false, .int .i64 0, .int .i64 0, .int .i64 0, .int .i64 0, .slice none 0 0] : Array Value).getD i (.bool false)) := by rw [hw3]; exact World.rowIs.of_block HZ2.out (Below.heap_setCell _ _ _ _ (by simp; omega))
 have l3 : w.heap.size + 1 + 1 < w3.heap.size := Z3.lt
 obtain ⟨d0, d1, d2, d3, d4, d5, d6, d7, d8, d9⟩ := zce Z3 rfl rfl rfl rfl rfl rfl rfl rfl rfl rfl
 simp at d0 d1 d2 d3 d4 d5 d6 d7 d8 d9
 have ef := World.rowIs.frozen Z3
 clear hw3 k2 v2 HZ2 HR2 HK2 Z3 c2 f2
 go_wp2
 have q0 : (w3.cell? ⟨w.heap.size + 1 + 1, 0, none⟩).isSome = true := by rw [d0]; rfl
 have q1 : (w3.cell? ⟨w.heap.size + 1 + 1, 1, none⟩).isSome = true := by rw [d1]; rfl
 have q2 : (w3.cell? ⟨w.heap.size + 1 + 1, 2, none⟩).isSome = true := by rw [d2]; rfl
 have q3 : (w3.cell? ⟨w.heap.size + 1 + 1, 3, none⟩).isSome = true := by rw [d3]; rfl
 have q4 : (w3.cell? ⟨w.heap.size + 1 + 1, 4, none⟩).isSome = true := by rw [d4]; rfl
 have q5 : (w3.cell? ⟨w.heap.size + 1 + 1, 5, none⟩).isSome = true := by rw [d5]; rfl
 have q6 : (w3.cell? ⟨w.heap.size + 1 + 1, 6, none⟩).isSome = true := by rw [d6]; rfl
 have q7 : (w3.cell? ⟨w.heap.size + 1 + 1, 7, none⟩).isSome = true := by rw [d7]; rfl
 have q8 : (w3.cell? ⟨w.heap.size + 1 + 1, 8, none⟩).isSome = true := by rw [d8]; rfl
 have q9 : (w3.cell? ⟨w.heap.size + 1 + 1, 9, none⟩).isSome = true := by rw [d9]; rfl
 refine bodyPost_ret (v := .agg #[.slice (some ⟨bw, 0, none⟩) ws.length cw, .int .i64 sm, .int .i64 toh, .int .i64 top, .bool cyc, .int .i64 sn, .int .i64 old, .int .i64 cp, .int .i64 sr, .slice ar rs.length cr]) (by simp [results, Tryz.results55, go_sem, q0, q1, q2, q3, q4, q5, q6, q7, q8, q9]) rfl ⟨rfl, ?_, ?_⟩
 · exact Rw.of_block HR3.out (za3 (by omega))
 · exact ze8 HK3.out (by omega)
end Go.Proofs.YtdnhohndppmgcaaGreatDoor
