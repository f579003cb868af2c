/- - -/
import Derived.Test.YtblcfbhlmdhnpaaGreatBBoQ
namespace Go.Proofs.YtblcfbhlmdhnpaaGreat
set_option maxRecDepth 20000
open Go.RowKit
set_option linter.unusedSimpArgs false
set_option linter.unusedVariables false
set_option maxHeartbeats 2000000 in
theorem zhm (bw nw cw br cr : Nat) (smz : Int) (x : Nat) (t m : Int) (ws : List Int) (w : World) (hW : RwW w bw ws) (hl : ws.length = nw) (hx : x + 1 < nw) (hn : nw <= 1048576) (t0 : 0 <= t) (t1 : t <= 1048576) (m0 : 0 <= m) (m1 : m <= 1048576) :
 Calls Tryz.prog 48 #[.agg #[.slice (some ⟨bw, 0, none⟩) nw cw, .int .i64 smz, .int .i64 0, .int .i64 130, .bool false, .int .i64 0, .int .i64 0, .int .i64 0, .int .i64 3, .slice (some ⟨br, 0, none⟩) 6 cr], .int .i64 (x : Int), .agg #[.int .i64 t, .int .i64 m]] w fun e w' => e = .returned (.agg #[.slice (some ⟨bw, 0, none⟩) nw cw, .int .i64 smz, .int .i64 0, .int .i64 130, .bool false, .int .i64 0, .int .i64 0, .int .i64 0, .int .i64 3, .slice (some ⟨br, 0, none⟩) 6 cr]) /\ RwW w' bw ((ws.set x t).set (x + 1) m) /\ Kp [bw] w w' := by
 have HW : Hid (RwW w bw ws) := hW
 have lw := hW.lt
 have hwt : IntKind.u64.wrap t = t := by rw [IntKind.wrap_u64]; omega
 have hwm : IntKind.u64.wrap m = m := by rw [IntKind.wrap_u64]; omega
 have wr2 : IntKind.i64.wrap ((x : Int) + 1) = (x : Int) + 1 := by rw [IntKind.wrap_i64]; omega
 have g1 : (x : Int) < (nw : Int) := by omega
 have g2 : (x : Int) + 1 < (nw : Int) := by omega
 have g3 : (0 : Int) <= (x : Int) + 1 := by omega
 have g4 : ((x : Int) + 1).toNat = x + 1 := by omega
 clear hW
 go_enter Tryz.func48, Tryz.ntmps48
 go_upto_region 1 with fail
 obtain ⟨w0, hw0⟩ : ∃ V, V = ((w.alloc (.cells #[.slice (some ⟨bw, 0, none⟩) nw cw, .int .i64 smz, .int .i64 0, .int .i64 130, .bool false, .int .i64 0, .int .i64 0, .int .i64 0, .int .i64 3, .slice (some ⟨br, 0, none⟩) 6 cr] 33)).alloc (.cells #[.int .i64 t, .int .i64 m] 35)).alloc (.cells #[.slice none 0 0, .int .i64 0, .int .i64 0, .int .i64 0, .bool false, .int .i64 0, .int .i64 0, .int .i64 0, .int .i64 0, .slice none 0 0] 33) := ⟨_, rfl⟩
 have B0 : Below w.heap.size w w0 := by rw [hw0]; exact (((Below.refl _ _).alloc (Nat.le_refl _) _).alloc (by simp) _).alloc (by simp; omega) _
 have X0 : za w0 w.heap.size 33 #[.slice (some ⟨bw, 0, none⟩) nw cw, .int .i64 smz, .int .i64 0, .int .i64 130, .bool false, .int .i64 0, .int .i64 0, .int .i64 0, .int .i64 3, .slice (some ⟨br, 0, none⟩) 6 cr] := by rw [hw0]; exact ((za.new w _ _).alloc _).alloc _
 have V0 : za w0 (w.heap.size + 1) 35 #[.int .i64 t, .int .i64 m] := by rw [hw0]; have := (za.new (w.alloc (.cells #[.slice (some ⟨bw, 0, none⟩) nw cw, .int .i64 smz, .int .i64 0, .int .i64 130, .bool false, .int .i64 0, .int .i64 0, .int .i64 0, .int .i64 3, .slice (some ⟨br, 0, none⟩) 6 cr] 33)) 35 #[.int .i64 t, .int .i64 m]).alloc (.cells #[.slice none 0 0, .int .i64 0, .int .i64 0, .int .i64 0, .bool false, .int .i64 0, .int .i64 0, .int .i64 0, .int .i64 0, .slice none 0 0] 33); simpa using this
 have Z0 : za w0 (w.heap.size + 1 + 1) 33 #[.slice none 0 0, .int .i64 0, .int .i64 0, .int .i64 0, .bool false, .int .i64 0, .int .i64 0, .int .i64 0, .int .i64 0, .slice none 0 0] := by rw [hw0]; have := za.new ((w.alloc (.cells #[.slice (some ⟨bw, 0, none⟩) nw cw, .int .i64 smz, .int .i64 0, .int .i64 130, .bool false, .int .i64 0, .int .i64 0, .int .i64 0, .int .i64 3, .slice (some ⟨br, 0, none⟩) 6 cr] 33)).alloc (.cells #[.int .i64 t, .int .i64 m] 35)) 33 #[.slice none 0 0, .int .i64 0, .int .i64 0, .int .i64 0, .bool false, .int .i64 0, .int .i64 0, .int .i64 0, .int .i64 0, .slice none 0 0]; simpa using this
 have W0 : RwW w0 bw ws := Rw.below HW.out B0
 have K0 : Kp [bw] w w0 := Kp.of_below B0
 rw [<- hw0]
 clear hw0 B0
 have ka := X0.cell 0
 have kv := V0.cell 0
 simp at ka kv
 have cT := W0.cell (i := x) (by omega)
 have fT := W0.frozen x
 go_upto_region 2 with fail
 have X1 := X0.other (k := bw) (by omega) x (.int .u64 t)
 have V1 := V0.other (k := bw) (by omega) x (.int .u64 t)
 have Z1 := Z0.other (k := bw) (by omega) x (.int .u64 t)
 have W1 := RwW.set W0 (i := x) t (by omega)
 have K1 := K0.setCell (p := ⟨bw, x, none⟩) (.inl (by simp)) (.int .u64 t)
 obtain ⟨w1, hw1⟩ : ∃ V, V = w0.setCell ⟨bw, x, none⟩ (.int .u64 t) := ⟨_, rfl⟩
 rw [<- hw1] at X1 V1 Z1 W1 K1 ⊢
 clear hw1 X0 V0 Z0 W0 K0 ka kv cT fT
 have ka := X1.cell 0
 have kv := V1.cell 1
 simp at ka kv
 have cT := W1.cell (i := x + 1) (by rw [List.length_set]; omega)
 have fT := W1.frozen (x + 1)
 go_upto_region 3 with fail
 have X2 := X1.other (k := bw) (by omega) (x + 1) (.int .u64 m)
 have Z2 := Z1.other (k := bw) (by omega) (x + 1) (.int .u64 m)
 have W2 := RwW.set W1 (i := x + 1) m (by rw [List.length_set]; omega)
 have K2 := K1.setCell (p := ⟨bw, x + 1, none⟩) (.inl (by simp)) (.int .u64 m)
 obtain ⟨w2, hw2⟩ : ∃ V, V = w1.setCell ⟨bw, x + 1, none⟩ (.int .u64 m) := ⟨_, rfl⟩
 rw [<- hw2] at X2 Z2 W2 K2 ⊢
 clear hw2 X1 V1 Z1 W1 K1 ka kv cT fT
 have KA := X2.cell
 have fZ := Z2.frozen
 have KZ := Z2.cell
 have q0 : (w2.cell? ⟨w.heap.size + 1 + 1, 0, none⟩).isSome = true := by rw [Z2.cell 0]; rfl
 have q1 : (w2.cell? ⟨w.heap.size + 1 + 1, 1, none⟩).isSome = true := by rw [Z2.cell 1]; rfl
 have q2 : (w2.cell? ⟨w.heap.size + 1 + 1, 2, none⟩).isSome = true := by rw [Z2.cell 2]; rfl
 have q3 : (w2.cell? ⟨w.heap.size + 1 + 1, 3, none⟩).isSome = true := by rw [Z2.cell 3]; rfl
 have q4 : (w2.cell? ⟨w.heap.size + 1 + 1, 4, none⟩).isSome = true := by rw [Z2.cell 4]; rfl
 have q5 : (w2.cell? ⟨w.heap.size + 1 + 1, 5, none⟩).isSome = true := by rw [Z2.cell 5]; rfl
 have q6 : (w2.cell? ⟨w.heap.size + 1 + 1, 6, none⟩).isSome = true := by rw [Z2.cell 6]; rfl
 have q7 : (w2.cell? ⟨w.heap.size + 1 + 1, 7, none⟩).isSome = true := by rw [Z2.cell 7]; rfl
 have q8 : (w2.cell? ⟨w.heap.size + 1 + 1, 8, none⟩).isSome = true := by rw [Z2.cell 8]; rfl
 have q9 : (w2.cell? ⟨w.heap.size + 1 + 1, 9, none⟩).isSome = true := by rw [Z2.cell 9]; rfl
 go_wp2
 refine bodyPost_ret (v := .agg #[.slice (some ⟨bw, 0, none⟩) nw cw, .int .i64 smz, .int .i64 0, .int .i64 130, .bool false, .int .i64 0, .int .i64 0, .int .i64 0, .int .i64 3, .slice (some ⟨br, 0, none⟩) 6 cr]) (by simp [results, Tryz.results48, go_sem, q0, q1, q2, q3, q4, q5, q6, q7, q8, q9]) rfl ⟨rfl, ?_, ?_⟩
 · exact (Rw.other (Rw.other (Rw.other (Rw.other (Rw.other (Rw.other (Rw.other (Rw.other (Rw.other (Rw.other W2 (p := ⟨w.heap.size + 1 + 1, 0, none⟩) (by show bw ≠ w.heap.size + 1 + 1; omega) _) (p := ⟨w.heap.size + 1 + 1, 1, none⟩) (by show bw ≠ w.heap.size + 1 + 1; omega) _) (p := ⟨w.heap.size + 1 + 1, 2, none⟩) (by show bw ≠ w.heap.size + 1 + 1; omega) _) (p := ⟨w.heap.size + 1 + 1, 3, none⟩) (by show bw ≠ w.heap.size + 1 + 1; omega) _) (p := ⟨w.heap.size + 1 + 1, 4, none⟩) (by show bw ≠ w.heap.size + 1 + 1; omega) _) (p := ⟨w.heap.size + 1 + 1, 5, none⟩) (by show bw ≠ w.heap.size + 1 + 1; omega) _) (p := ⟨w.heap.size + 1 + 1, 6, none⟩) (by show bw ≠ w.heap.size + 1 + 1; omega) _) (p := ⟨w.heap.size + 1 + 1, 7, none⟩) (by show bw ≠ w.heap.size + 1 + 1; omega) _) (p := ⟨w.heap.size + 1 + 1, 8, none⟩) (by show bw ≠ w.heap.size + 1 + 1; omega) _) (p := ⟨w.heap.size + 1 + 1, 9, none⟩) (by show bw ≠ w.heap.size + 1 + 1; omega) _)
 · exact ((((((((((K2).setCell (p := ⟨w.heap.size + 1 + 1, 0, none⟩) (.inr (by show w.heap.size <= w.heap.size + 1 + 1; omega)) _).setCell (p := ⟨w.heap.size + 1 + 1, 1, none⟩) (.inr (by show w.heap.size <= w.heap.size + 1 + 1; omega)) _).setCell (p := ⟨w.heap.size + 1 + 1, 2, none⟩) (.inr (by show w.heap.size <= w.heap.size + 1 + 1; omega)) _).setCell (p := ⟨w.heap.size + 1 + 1, 3, none⟩) (.inr (by show w.heap.size <= w.heap.size + 1 + 1; omega)) _).setCell (p := ⟨w.heap.size + 1 + 1, 4, none⟩) (.inr (by show w.heap.size <= w.heap.size + 1 + 1; omega)) _).setCell (p := ⟨w.heap.size + 1 + 1, 5, none⟩) (.inr (by show w.heap.size <= w.heap.size + 1 + 1; omega)) _).setCell (p := ⟨w.heap.size + 1 + 1, 6, none⟩) (.inr (by show w.heap.size <= w.heap.size + 1 + 1; omega)) _).setCell (p := ⟨w.heap.size + 1 + 1, 7, none⟩) (.inr (by show w.heap.size <= w.heap.size + 1 + 1; omega)) _).setCell (p := ⟨w.heap.size + 1 + 1, 8, none⟩) (.inr (by show w.heap.size <= w.heap.size + 1 + 1; omega)) _).setCell (p := ⟨w.heap.size + 1 + 1, 9, none⟩) (.inr (by show w.heap.size <= w.heap.size + 1 + 1; omega)) _
theorem zeg (x : Int) (w : World) :
 Calls Tryz.prog 21 #[.int .i64 x] w fun e w' => e = .returned (.agg #[.int .i64 2, .int .i64 x]) /\ Below w.heap.size w w' := by
 go_enter Tryz.func21, Tryz.ntmps21
 go_wp2
 refine bodyPost_ret (v := .agg #[.int .i64 2, .int .i64 x]) (by simp [results, Tryz.results21, go_sem]) rfl ⟨rfl, (Below.refl _ _).alloc (Nat.le_refl _) _⟩
theorem zgh (a1 : Option Addr) (L c1 : Nat) (a2 : Option Addr) (n c2 bw nw cw br cr : Nat) (smz : Int) (i : Nat) (w : World) (hr : w.cell? ⟨br, 1, none⟩ = some (.int .i64 3)) (lr : br < w.heap.size) (hi : i <= 59) :
 Calls Tryz.prog 49 #[.agg #[.slice a1 L c1, .slice a2 n c2, .slice (some ⟨bw, 0, none⟩) nw cw, .int .i64 smz, .int .i64 0, .int .i64 130, .bool false, .int .i64 0, .int .i64 0, .int .i64 0, .int .i64 3, .slice (some ⟨br, 0, none⟩) 6 cr, .bool false, .bool false, .bool false, .int .i64 0, .int .i64 0, .int .i64 0, .int .i64 0, .slice none 0 0], .int .i64 (i : Int)] w fun e w' => e = .returned (.int .i64 ((10 + 2 * i : Nat) : Int)) /\ Below w.heap.size w w' := by
 have B0 : Below w.heap.size w (w.alloc (.cells #[.slice a1 L c1, .slice a2 n c2, .slice (some ⟨bw, 0, none⟩) nw cw, .int .i64 smz, .int .i64 0, .int .i64 130, .bool false, .int .i64 0, .int .i64 0, .int .i64 0, .int .i64 3, .slice (some ⟨br, 0, none⟩) 6 cr, .bool false, .bool false, .bool false, .int .i64 0, .int .i64 0, .int .i64 0, .int .i64 0, .slice none 0 0] 37)) := (Below.refl _ _).alloc (Nat.le_refl _) _
 have r1 : (w.alloc (.cells #[.slice a1 L c1, .slice a2 n c2, .slice (some ⟨bw, 0, none⟩) nw cw, .int .i64 smz, .int .i64 0, .int .i64 130, .bool false, .int .i64 0, .int .i64 0, .int .i64 0, .int .i64 3, .slice (some ⟨br, 0, none⟩) 6 cr, .bool false, .bool false, .bool false, .int .i64 0, .int .i64 0, .int .i64 0, .int .i64 0, .slice none 0 0] 37)).cell? ⟨br, 1, none⟩ = some (.int .i64 3) := (B0.cell (p := ⟨br, 1, none⟩) lr).trans hr
 have x1 : (i : Int) <= 59 := by omega
 have e : ((10 + 2 * i : Nat) : Int) = 10 + 2 * (i : Int) := by omega
 rw [e]
 clear e hr hi
 go_enter Tryz.func49, Tryz.ntmps49
 go_wp2
 go_ret
 exact ⟨rfl, B0⟩
theorem zh3 {w : World} {b : Nat} {tm A : Array Value} (hA : A.size = 20) (h : ∀ i, w.cell? ⟨b, i, none⟩ = A[i]?) (ht : tm[6]? = some (.pointer (some ⟨b, 0, none⟩))) : (results Tryz.f20 tm).run Tryz.prog w = .ok (.agg A) w := by
 have hl := run_loadCells (P := Tryz.prog) w ⟨b, 0, none⟩ 20 (fun j => A.getD j (.bool false)) (fun j hj => by rw [Addr.add_lit, Nat.zero_add, h j]; simp [Array.getD, hA, hj])
 have hE : ((List.range 20).map fun j => A.getD j (.bool false)).toArray = A := by
  apply Array.ext
  · simp [hA]
  · intro i h1 h2
    simp [Array.getD, h2]
 obtain ⟨fs, hu⟩ := zcv
 cases hq : Tryz.prog.info? 37 with
 | none => have := zae; rw [hq] at this; cases this
 | some i =>
   have hs : i.size = 20 := by have := zae; rw [hq] at this; simpa using this
   have hagg : (isAgg 37).run Tryz.prog w = .ok true w := by
    unfold isAgg
    rw [Sem.run_bind, run_underlying hu w]
    simp
   have ha : (asAddr (.pointer (some ⟨b, 0, none⟩))).run Tryz.prog w = .ok ⟨b, 0, none⟩ w := rfl
   rw [hE] at hl
   simp [results, Tryz.results20, ht, loadVar, Sem.run_bind, hagg, sizeOf, typeInfo, hq, hs, hl, ha]
theorem zbh {P : Program} {ρ : Operand -> Value} {o : Oper} {t : TypeId} {x : Operand} {w : World} {v : Value} (ho : o.op = .load t x) (hr : (Instr.loadAt t (ρ x)).run P w = .ok v w) : (execOp ρ o).run P w = .ok (.value v) w := by
 unfold execOp
 simp only [ho, Sem.run_bind, Sem.run_pure, Result.andThen_ok, hr]
theorem z7 {w : World} {b : Nat} {t : TypeId} {A : Array Value} (h : za w b t A) {i : Nat} {v : Value} (hv : A[i]? = some v) : w.setCell ⟨b, i, none⟩ v = w := by
 have hA : A.setIfInBounds i v = A := by
  apply Array.ext (by simp)
  intro j h1 h2
  rw [Array.getElem_setIfInBounds (by simpa using h1)]
  split
  · rename_i e
    subst e
    obtain ⟨_, e2⟩ := Array.getElem?_eq_some_iff.1 hv
    exact e2.symm
  · rfl
 have hh : (w.setCell ⟨b, i, none⟩ v).heap = w.heap := by
  unfold World.setCell
  apply Array.ext (by simp)
  intro j h1 h2
  rw [Array.getElem_modify]
  split
  · rename_i e
    have hj : w.heap[j] = .cells A t (0, 0) := by
     have e2 : b = j := e
     subst e2
     exact (Array.getElem?_eq_some_iff.1 h).2
    rw [hj]
    simp [hA]
  · rfl
 have e : w.setCell ⟨b, i, none⟩ v = { w with heap := (w.setCell ⟨b, i, none⟩ v).heap } := rfl
 rw [e, hh]
set_option maxHeartbeats 4000000 in
theorem zch (a1 : Option Addr) (L c1 : Nat) (a2 : Option Addr) (n c2 bw nw cw br cr : Nat) (smz : Int) (i : Nat) (t m : Int) (ws : List Int) (w : World) (hW : RwW w bw ws) (hl : ws.length = nw) (hr : w.cell? ⟨br, 1, none⟩ = some (.int .i64 3)) (lr : br < w.heap.size) (hn : nw <= 1048576) (h130 : 130 <= nw) (hi : i <= 10) (t0 : 0 <= t) (t1 : t <= 1048576) (m0 : 0 <= m) (m1 : m <= 1048576) (hbr : br ≠ bw) :
 Calls Tryz.prog 20 #[.agg #[.slice a1 L c1, .slice a2 n c2, .slice (some ⟨bw, 0, none⟩) nw cw, .int .i64 smz, .int .i64 0, .int .i64 130, .bool false, .int .i64 0, .int .i64 0, .int .i64 0, .int .i64 3, .slice (some ⟨br, 0, none⟩) 6 cr, .bool false, .bool false, .bool false, .int .i64 0, .int .i64 0, .int .i64 0, .int .i64 0, .slice none 0 0], .int .i64 (i : Int), .agg #[.int .i64 t, .int .i64 m]] w fun e w' => e = .returned (.agg #[.slice a1 L c1, .slice a2 n c2, .slice (some ⟨bw, 0, none⟩) nw cw, .int .i64 smz, .int .i64 0, .int .i64 130, .bool false, .int .i64 0, .int .i64 0, .int .i64 0, .int .i64 3, .slice (some ⟨br, 0, none⟩) 6 cr, .bool false, .bool false, .bool false, .int .i64 0, .int .i64 0, .int .i64 0, .int .i64 0, .slice none 0 0]) /\ RwW w' bw ((ws.set (10 + 2 * i) t).set (10 + 2 * i + 1) m) /\ Kp [bw] w w' := by
 have HW : Hid (RwW w bw ws) := hW
 have lw := hW.lt
 clear hW
 go_enter Tryz.func20, Tryz.ntmps20
 go_upto_region 1 with fail
 obtain ⟨w0, hw0⟩ : ∃ V, V = ((w.alloc (.cells #[.slice a1 L c1, .slice a2 n c2, .slice (some ⟨bw, 0, none⟩) nw cw, .int .i64 smz, .int .i64 0, .int .i64 130, .bool false, .int .i64 0, .int .i64 0, .int .i64 0, .int .i64 3, .slice (some ⟨br, 0, none⟩) 6 cr, .bool false, .bool false, .bool false, .int .i64 0, .int .i64 0, .int .i64 0, .int .i64 0, .slice none 0 0] 37)).alloc (.cells #[.int .i64 t, .int .i64 m] 35)).alloc (.cells #[.slice none 0 0, .slice none 0 0, .slice none 0 0, .int .i64 0, .int .i64 0, .int .i64 0, .bool false, .int .i64 0, .int .i64 0, .int .i64 0, .int .i64 0, .slice none 0 0, .bool false, .bool false, .bool false, .int .i64 0, .int .i64 0, .int .i64 0, .int .i64 0, .slice none 0 0] 37) := ⟨_, rfl⟩
 have B0 : Below w.heap.size w w0 := by rw [hw0]; exact (((Below.refl _ _).alloc (Nat.le_refl _) _).alloc (by simp) _).alloc (by simp; omega) _
 have X0 : za w0 w.heap.size 37 #[.slice a1 L c1, .slice a2 n c2, .slice (some ⟨bw, 0, none⟩) nw cw, .int .i64 smz, .int .i64 0, .int .i64 130, .bool false, .int .i64 0, .int .i64 0, .int .i64 0, .int .i64 3, .slice (some ⟨br, 0, none⟩) 6 cr, .bool false, .bool false, .bool false, .int .i64 0, .int .i64 0, .int .i64 0, .int .i64 0, .slice none 0 0] := by rw [hw0]; exact ((za.new w _ _).alloc _).alloc _
 have V0 : za w0 (w.heap.size + 1) 35 #[.int .i64 t, .int .i64 m] := by rw [hw0]; have := (za.new (w.alloc (.cells #[.slice a1 L c1, .slice a2 n c2, .slice (some ⟨bw, 0, none⟩) nw cw, .int .i64 smz, .int .i64 0, .int .i64 130, .bool false, .int .i64 0, .int .i64 0, .int .i64 0, .int .i64 3, .slice (some ⟨br, 0, none⟩) 6 cr, .bool false, .bool false, .bool false, .int .i64 0, .int .i64 0, .int .i64 0, .int .i64 0, .slice none 0 0] 37)) 35 #[.int .i64 t, .int .i64 m]).alloc (.cells #[.slice none 0 0, .slice none 0 0, .slice none 0 0, .int .i64 0, .int .i64 0, .int .i64 0, .bool false, .int .i64 0, .int .i64 0, .int .i64 0, .int .i64 0, .slice none 0 0, .bool false, .bool false, .bool false, .int .i64 0, .int .i64 0, .int .i64 0, .int .i64 0, .slice none 0 0] 37); simpa using this
 have Z0 : za w0 (w.heap.size + 1 + 1) 37 #[.slice none 0 0, .slice none 0 0, .slice none 0 0, .int .i64 0, .int .i64 0, .int .i64 0, .bool false, .int .i64 0, .int .i64 0, .int .i64 0, .int .i64 0, .slice none 0 0, .bool false, .bool false, .bool false, .int .i64 0, .int .i64 0, .int .i64 0, .int .i64 0, .slice none 0 0] := by rw [hw0]; have := za.new ((w.alloc (.cells #[.slice a1 L c1, .slice a2 n c2, .slice (some ⟨bw, 0, none⟩) nw cw, .int .i64 smz, .int .i64 0, .int .i64 130, .bool false, .int .i64 0, .int .i64 0, .int .i64 0, .int .i64 3, .slice (some ⟨br, 0, none⟩) 6 cr, .bool false, .bool false, .bool false, .int .i64 0, .int .i64 0, .int .i64 0, .int .i64 0, .slice none 0 0] 37)).alloc (.cells #[.int .i64 t, .int .i64 m] 35)) 37 #[.slice none 0 0, .slice none 0 0, .slice none 0 0, .int .i64 0, .int .i64 0, .int .i64 0, .bool false, .int .i64 0, .int .i64 0, .int .i64 0, .int .i64 0, .slice none 0 0, .bool false, .bool false, .bool false, .int .i64 0, .int .i64 0, .int .i64 0, .int .i64 0, .slice none 0 0]; simpa using this
 rw [<- hw0]
 clear hw0
 have X0' : za w0.drew w.heap.size 37 #[.slice a1 L c1, .slice a2 n c2, .slice (some ⟨bw, 0, none⟩) nw cw, .int .i64 smz, .int .i64 0, .int .i64 130, .bool false, .int .i64 0, .int .i64 0, .int .i64 0, .int .i64 3, .slice (some ⟨br, 0, none⟩) 6 cr, .bool false, .bool false, .bool false, .int .i64 0, .int .i64 0, .int .i64 0, .int .i64 0, .slice none 0 0] := X0
 have V0' : za w0.drew (w.heap.size + 1) 35 #[.int .i64 t, .int .i64 m] := V0
 have r0 : w0.drew.cell? ⟨br, 1, none⟩ = some (.int .i64 3) := (B0.cell (p := ⟨br, 1, none⟩) lr).trans hr
 refine wp_region_held_drew (S := fun V => za V w.heap.size 37 #[.slice a1 L c1, .slice a2 n c2, .slice (some ⟨bw, 0, none⟩) nw cw, .int .i64 smz, .int .i64 0, .int .i64 130, .bool false, .int .i64 0, .int .i64 0, .int .i64 0, .int .i64 3, .slice (some ⟨br, 0, none⟩) 6 cr, .bool false, .bool false, .bool false, .int .i64 0, .int .i64 0, .int .i64 0, .int .i64 0, .slice none 0 0] /\ za V (w.heap.size + 1) 35 #[.int .i64 t, .int .i64 m] /\ V.cell? ⟨br, 1, none⟩ = some (.int .i64 3)) (by kernel_rfl) ⟨X0', V0', r0⟩ (fun hHeld => ?_)
 obtain ⟨wd, hwd⟩ : ∃ V, V = w0.drew := ⟨_, rfl⟩
 have Wd : RwW wd bw ws := by rw [hwd]; exact Rw.below HW.out B0.drew
 have Kd : Kp [bw] w wd := by rw [hwd]; exact Kp.of_below B0.drew
 have Zd : za wd (w.heap.size + 1 + 1) 37 #[.slice none 0 0, .slice none 0 0, .slice none 0 0, .int .i64 0, .int .i64 0, .int .i64 0, .bool false, .int .i64 0, .int .i64 0, .int .i64 0, .int .i64 0, .slice none 0 0, .bool false, .bool false, .bool false, .int .i64 0, .int .i64 0, .int .i64 0, .int .i64 0, .slice none 0 0] := by rw [hwd]; exact Z0
 have ld : br < wd.heap.size := by rw [hwd]; exact Nat.lt_of_lt_of_le lr B0.size
 rw [<- hwd] at hHeld ⊢
 clear hwd X0 X0' V0 V0' Z0 r0 B0 hr
 refine tk 0 7 (.pointer (some ⟨w.heap.size, 2, none⟩)) hHeld rfl (by intro V hS; go_simp) ?_
 try simp only [Act.put, zig, zih, zii]
 refine tk 1 8 (.agg #[.slice (some ⟨bw, 0, none⟩) nw cw, .int .i64 smz, .int .i64 0, .int .i64 130, .bool false, .int .i64 0, .int .i64 0, .int .i64 0, .int .i64 3, .slice (some ⟨br, 0, none⟩) 6 cr]) hHeld rfl (by intro V hS; have q2 := hS.1.cell 2; have q3 := hS.1.cell 3; have q4 := hS.1.cell 4; have q5 := hS.1.cell 5; have q6 := hS.1.cell 6; have q7 := hS.1.cell 7; have q8 := hS.1.cell 8; have q9 := hS.1.cell 9; have q10 := hS.1.cell 10; have q11 := hS.1.cell 11; simp at q2 q3 q4 q5 q6 q7 q8 q9 q10 q11; go_simp) ?_
 try simp only [Act.put, zig, zih, zii]
 refine tk 2 9 (.agg #[.slice a1 L c1, .slice a2 n c2, .slice (some ⟨bw, 0, none⟩) nw cw, .int .i64 smz, .int .i64 0, .int .i64 130, .bool false, .int .i64 0, .int .i64 0, .int .i64 0, .int .i64 3, .slice (some ⟨br, 0, none⟩) 6 cr, .bool false, .bool false, .bool false, .int .i64 0, .int .i64 0, .int .i64 0, .int .i64 0, .slice none 0 0]) hHeld rfl (fun V hS => zbh rfl (zv rfl hS.1.cell)) ?_
 try simp only [Act.put, zig, zih, zii]
 refine tk 3 10 (.int .i64 (i : Int)) hHeld rfl (by intro V hS; go_simp) ?_
 try simp only [Act.put, zig, zih, zii]
 refine tk 5 12 (.agg #[.int .i64 t, .int .i64 m]) hHeld rfl (by intro V hS; have q0 := hS.2.1.cell 0; have q1 := hS.2.1.cell 1; simp at q0 q1; go_simp) ?_
 try simp only [Act.put, zig, zih, zii]
 refine wpAnyH_ready (rs := [4]) (by kernel_rfl) (by simp) ?_
 refine AllReadyH.cons (o := { dst := some 11, op := _, type := _, pos := _, after := _, guard := _ }) rfl (fun K hK => ?_) AllReadyH.nil
 go_simp
 go_at_call 49
 refine (zgh a1 L c1 a2 n c2 bw nw cw br cr smz i wd hHeld.2.2 ld (by omega)).mono ?_
 rintro e w2 ⟨rfl, b2⟩
 have X2 := za.below hHeld.1 b2 (za.lt hHeld.1)
 have V2 := za.below hHeld.2.1 b2 (za.lt hHeld.2.1)
 have r2 := (b2.cell (p := ⟨br, 1, none⟩) ld).trans hHeld.2.2
 have W2 : RwW w2 bw ws := Rw.below Wd b2
 have K2 : Kp [bw] w w2 := Kd.next b2
 have Z2 := Zd.below b2 Zd.lt
 clear hHeld Wd Kd Zd
 refine hK.out _ _ ⟨X2, V2, r2⟩ (fun hHeld => ?_)
 clear hK K
 try simp only [Act.put, zig, zih, zii]
 refine wpAnyH_ready (rs := [6]) (by kernel_rfl) (by simp) ?_
 refine AllReadyH.cons (o := { dst := some 13, op := _, type := _, pos := _, after := _, guard := _ }) rfl (fun K hK => ?_) AllReadyH.nil
 go_simp
 go_at_call 48
 refine (zhm bw nw cw br cr smz (10 + 2 * i) t m ws w2 W2 hl (by omega) hn t0 t1 m0 m1).mono ?_
 rintro e w3 ⟨rfl, W3, k3⟩
 have X3 : za w3 w.heap.size 37 #[.slice a1 L c1, .slice a2 n c2, .slice (some ⟨bw, 0, none⟩) nw cw, .int .i64 smz, .int .i64 0, .int .i64 130, .bool false, .int .i64 0, .int .i64 0, .int .i64 0, .int .i64 3, .slice (some ⟨br, 0, none⟩) 6 cr, .bool false, .bool false, .bool false, .int .i64 0, .int .i64 0, .int .i64 0, .int .i64 0, .slice none 0 0] := (k3.block _ X2.lt (by simp; omega)).trans X2
 have V3 : za w3 (w.heap.size + 1) 35 #[.int .i64 t, .int .i64 m] := (k3.block _ V2.lt (by simp; omega)).trans V2
 have Z3 : za w3 (w.heap.size + 1 + 1) 37 #[.slice none 0 0, .slice none 0 0, .slice none 0 0, .int .i64 0, .int .i64 0, .int .i64 0, .bool false, .int .i64 0, .int .i64 0, .int .i64 0, .int .i64 0, .slice none 0 0, .bool false, .bool false, .bool false, .int .i64 0, .int .i64 0, .int .i64 0, .int .i64 0, .slice none 0 0] := (k3.block _ Z2.lt (by simp; omega)).trans Z2
 have r3 : w3.cell? ⟨br, 1, none⟩ = some (.int .i64 3) := (k3.cell (p := ⟨br, 1, none⟩) (Nat.lt_of_lt_of_le ld b2.size) (by simp; omega)).trans r2
 have K3 : Kp [bw] w w3 := K2.trans k3
 clear hHeld X2 V2 Z2 r2 W2 K2 k3
 refine hK.out _ _ ⟨X3, V3, r3⟩ (fun hHeld => ?_)
 clear hK K
 try simp only [Act.put, zig, zih, zii]
 refine tk 7 14 (.pointer (some ⟨w.heap.size, 2, none⟩)) hHeld rfl (by intro V hS; go_simp) ?_
 try simp only [Act.put, zig, zih, zii]
 have nv : w.heap.size + 1 ≠ w.heap.size := by omega
 have nz : w.heap.size + 1 + 1 ≠ w.heap.size := by omega
 have nr : br ≠ w.heap.size := by omega
 have nw' : bw ≠ w.heap.size := by omega
 have KX := za.cell X3
 have fX := za.frozen X3
 refine wpAnyH_ready (rs := [8]) (by kernel_rfl) (by simp) ?_
 refine AllReadyH.cons (o := { dst := none, op := _, type := _, pos := _, after := _, guard := _ }) rfl (fun K hK => ?_) AllReadyH.nil
 go_simp
 rw [z7 (i := 2) X3 (v := (.slice (some ⟨bw, 0, none⟩) nw cw)) rfl, z7 (i := 3) X3 (v := (.int .i64 smz)) rfl, z7 (i := 4) X3 (v := (.int .i64 0)) rfl, z7 (i := 5) X3 (v := (.int .i64 130)) rfl, z7 (i := 6) X3 (v := (.bool false)) rfl, z7 (i := 7) X3 (v := (.int .i64 0)) rfl, z7 (i := 8) X3 (v := (.int .i64 0)) rfl, z7 (i := 9) X3 (v := (.int .i64 0)) rfl, z7 (i := 10) X3 (v := (.int .i64 3)) rfl, z7 (i := 11) X3 (v := (.slice (some ⟨br, 0, none⟩) 6 cr)) rfl]
 clear hHeld
 refine hK.out _ _ ⟨X3, V3, r3⟩ (fun hHeld => ?_)
 clear hK K
 try simp only [Act.put, zig, zih, zii]
 refine wpAnyH_done (by kernel_rfl) ?_ _
 clear hHeld KX fX V3 r3
 have X4 := X3
 have Z4 := Z3
 have W4 := W3
 have K4 := K3
 clear X3 Z3 W3 K3
 have HLD := zv rfl X4.cell
 have HST := zt (A := #[.slice a1 L c1, .slice a2 n c2, .slice (some ⟨bw, 0, none⟩) nw cw, .int .i64 smz, .int .i64 0, .int .i64 130, .bool false, .int .i64 0, .int .i64 0, .int .i64 0, .int .i64 3, .slice (some ⟨br, 0, none⟩) 6 cr, .bool false, .bool false, .bool false, .int .i64 0, .int .i64 0, .int .i64 0, .int .i64 0, .slice none 0 0]) rfl rfl (by simp [Value.oneCell']) Z4
 go_wp2_with (first | refine zk rfl _ _ rfl _ HLD ?_ | refine zi rfl _ _ _ rfl HST ?_)
 exact bodyPost_ret (zh3 rfl (Z4.row #[.slice a1 L c1, .slice a2 n c2, .slice (some ⟨bw, 0, none⟩) nw cw, .int .i64 smz, .int .i64 0, .int .i64 130, .bool false, .int .i64 0, .int .i64 0, .int .i64 0, .int .i64 3, .slice (some ⟨br, 0, none⟩) 6 cr, .bool false, .bool false, .bool false, .int .i64 0, .int .i64 0, .int .i64 0, .int .i64 0, .slice none 0 0]).cell rfl) rfl ⟨rfl, Rw.of_block W4 (zm (by omega) _), ⟨K4.os, K4.tape, K4.output, by simpa [World.setRow] using K4.size, fun k hk hx => (zm (by omega) _).trans (K4.block k hk hx)⟩⟩
end Go.Proofs.YtblcfbhlmdhnpaaGreat
