/- - -/
import Derived.Test.YtblcfbhlmdhnpaaGreatBMcBox
namespace Go.Proofs.YtblcfbhlmdhnpaaGreat
set_option maxRecDepth 20000
open Go.RowKit
set_option linter.unusedSimpArgs false
set_option linter.unusedVariables false
theorem zcv : ∃ fs, Tryz.prog.underlying 37 = some (.struct fs) := ⟨_, Tryz.underlying37⟩
theorem zae : (Tryz.prog.info? 37).map (·.size) = some 20 := by kernel_rfl
theorem zv {w : World} {b : Nat} {A : Array Value} (hA : A.size = 20) (h : ∀ i, w.cell? ⟨b, i, none⟩ = A[i]?) : (Instr.loadAt 37 (.pointer (some ⟨b, 0, none⟩))).run Tryz.prog w = .ok (.agg A) w := by
 have hl := run_loadCells (P := Tryz.prog) w ⟨b, 0, none⟩ 20 (fun j => A.getD j (.bool false)) (fun j hj => by rw [Addr.add_lit, Nat.zero_add, h j]; simp [Array.getD, hA, hj])
 have hE : ((List.range 20).map fun j => A.getD j (.bool false)).toArray = A := by
  apply Array.ext
  · simp [hA]
  · intro i h1 h2
    simp [Array.getD, h2]
 obtain ⟨fs, hu⟩ := zcv
 cases hq : Tryz.prog.info? 37 with
 | none => have := zae; rw [hq] at this; cases this
 | some i =>
   have hs : i.size = 20 := by have := zae; rw [hq] at this; simpa using this
   have hagg : (isAgg 37).run Tryz.prog w = .ok true w := by
    unfold isAgg
    rw [Sem.run_bind, run_underlying hu w]
    simp
   rw [hE] at hl
   simp [Instr.loadAt, Instr.sureAddr, loadVar, Sem.run_bind, hagg, sizeOf, typeInfo, hq, hs, hl]
theorem zt {w : World} {b : Nat} {t : TypeId} {A C : Array Value} (hC : C.size = 20) (hA : A.size = 20) (h1 : ∀ v ∈ A.toList, v.oneCell' = true) (h : za w b t C) : (Instr.storeAt 37 (.pointer (some ⟨b, 0, none⟩)) (.agg A)).run Tryz.prog w = .ok () (w.setRow b A) := by
 have hr := run_storeCells_from (P := Tryz.prog) b t A.toList 0 C w h (by simp [hA, hC]) h1
 simp only [List.take_zero, List.nil_append, Array.toArray_toList] at hr
 cases hq : Tryz.prog.info? 37 with
 | none => have := zae; rw [hq] at this; cases this
 | some i =>
   have hs : i.size = 20 := by have := zae; rw [hq] at this; simpa using this
   simp [Instr.storeAt, Instr.sureAddr, storeVar, Sem.run_bind, sizeOf, typeInfo, hq, hs, hA, Value.cells, hr]
theorem za.row {w : World} {b : Nat} {t : TypeId} {C : Array Value} (h : za w b t C) (A : Array Value) : za (w.setRow b A) b t A := by
 unfold za at h ⊢
 simp [World.setRow, Array.getElem?_modify, h]
theorem zm {w : World} {b k : Nat} (hk : k ≠ b) (A : Array Value) : (w.setRow b A).heap[k]? = w.heap[k]? := by
 simp [World.setRow, Array.getElem?_modify, Ne.symm hk]
theorem zx {a w : World} {b B : Nat} (A : Array Value) (h : Below B a w) (hB : B <= b) : Below B a (w.setRow b A) := h.trans ⟨rfl, rfl, rfl, by simp [World.setRow], fun k hk => zm (by omega) A⟩
theorem zk {P : Program} {w : World} {ops : Array Oper} {rest : List Oper} {o : Oper} {a : Act} {Q : Exit -> Act -> World -> Prop} (hgd : o.guard = none) (t : TypeId) (x : Operand) (ho : o.op = .load t x) (v : Value) (hr : (Instr.loadAt t (a.eval x)).run P w = .ok v w) (h : wpList P ops Q rest (a.put o.dst v) w) : wpList P ops Q (o :: rest) a w := by
 refine wpList_plain hgd fun K hK => ?_
 unfold Oper.wp execOp
 simp only [ho, Sem.run_bind, Sem.run_pure, Result.andThen_ok, hr]
 exact hK _ _ h
theorem zi {P : Program} {w w' : World} {ops : Array Oper} {rest : List Oper} {o : Oper} {a : Act} {Q : Exit -> Act -> World -> Prop} (hgd : o.guard = none) (t : TypeId) (x y : Operand) (ho : o.op = .store t x y) (hr : (Instr.storeAt t (a.eval x) (a.eval y)).run P w = .ok () w') (h : wpList P ops Q rest (a.put o.dst undef) w') : wpList P ops Q (o :: rest) a w := by
 refine wpList_plain hgd fun K hK => ?_
 unfold Oper.wp execOp
 simp only [ho, Sem.run_bind, Sem.run_pure, Result.andThen_ok, hr]
 exact hK _ _ h
end Go.Proofs.YtblcfbhlmdhnpaaGreat
