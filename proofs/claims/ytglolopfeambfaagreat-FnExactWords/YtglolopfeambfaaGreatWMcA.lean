/- - -/
import Derived.Test.YtglolopfeambfaaGreatWLawD
import Derived.Test.YtglolopfeambfaaGreatWMdE
namespace Go.Proofs.YtglolopfeambfaaGreat
set_option maxRecDepth 20000
open Go.RowKit
set_option linter.unusedSimpArgs false
set_option linter.unusedVariables false
def zq (w : World) (b : Nat) (t : TypeId) (A : Array Value) : Prop := w.heap[b]? = some (.cells A t (0, 0))
theorem zq.cell {w : World} {b : Nat} {t : TypeId} {A : Array Value} (h : zq w b t A) : ∀ i, w.cell? ⟨b, i, none⟩ = A[i]? := fun i => by
 unfold zq at h
 simp [World.cell?, h]
theorem zq.frozen {w : World} {b : Nat} {t : TypeId} {A : Array Value} (h : zq w b t A) : ∀ i, w.frozen? ⟨b, i, none⟩ = false := fun i => by
 unfold zq at h
 simp [World.frozen?, h]
theorem zq.lt {w : World} {b : Nat} {t : TypeId} {A : Array Value} (h : zq w b t A) : b < w.heap.size := (Array.getElem?_eq_some_iff.1 h).1
theorem zq.new (w : World) (t : TypeId) (A : Array Value) : zq (w.alloc (.cells A t)) w.heap.size t A := zdh rfl
theorem zq.alloc {w : World} {b : Nat} {t : TypeId} {A : Array Value} (h : zq w b t A) (o : Obj) : zq (w.alloc o) b t A := (ze5 h.lt).trans h
theorem zq.below {w w' : World} {b C : Nat} {t : TypeId} {A : Array Value} (h : zq w b t A) (hb : Below C w w') (hC : b < C) : zq w' b t A := (hb.block b hC).trans h
theorem zq.set {w : World} {b : Nat} {t : TypeId} {A : Array Value} (h : zq w b t A) (i : Nat) (v : Value) : zq (w.setCell ⟨b, i, none⟩ v) b t (A.setIfInBounds i v) := by
 unfold zq at h ⊢
 simp [World.setCell, Array.getElem?_modify, h]
theorem zq.other {w : World} {b : Nat} {t : TypeId} {A : Array Value} (h : zq w b t A) {k : Nat} (hk : b ≠ k) (i : Nat) (v : Value) : zq (w.setCell ⟨k, i, none⟩ v) b t A := (Below.heap_setCell _ _ _ _ hk).trans h
theorem zq.cast {w : World} {b : Nat} {t : TypeId} {A A' : Array Value} (h : zq w b t A) (e : A = A') : zq w b t A' := e ▸ h
theorem zen {B T k : Nat} (w : World) (hB : B <= k) (hT : k < T) (i : Nat) (v : Value) : zw B T w (w.setCell ⟨k, i, none⟩ v) :=
 ⟨rfl, rfl, rfl, by simp [World.setCell], fun j _ h => Below.heap_setCell _ _ _ _ (by show j ≠ k; omega)⟩
theorem zhg {b n c m C U : Nat} {f : Nat -> Value} {w w' : World} (h : SlF w.heap.size w (.slice (some ⟨b, 0, none⟩) n c) n m f) (hb : zw C U w w') (hU : U <= b) : SlF w'.heap.size w' (.slice (some ⟨b, 0, none⟩) n c) n m f := by
 obtain ⟨a, cap, e, h⟩ := h
 refine ⟨a, cap, e, ?_⟩
 rcases h with h | ⟨b', off, rfl, h1, h2, h3⟩
 · exact .inl h
 · injection e with e _ _
   injection e with e
   injection e with e1 e2
   subst e1
   refine .inr ⟨_, off, rfl, Nat.lt_of_lt_of_le h1 hb.size, Nat.lt_of_lt_of_le h2 hb.size, fun i hi => ?_⟩
   rw [World.cell?_of_block (hb.block _ h2 (.inr hU))]
   exact h3 i hi
theorem PtO.apart {B C U : Nat} {w w' : World} {v : Value} {L : Nat} {X : Nat -> PtD} (h : PtO B w v L X) (hb : zw C U w w') (hU : U <= B) : PtO B w' v L X := by
 obtain ⟨K, cap, rfl, hB, hK, h⟩ := h
 refine ⟨K, cap, rfl, hB, Nat.lt_of_lt_of_le hK hb.size, fun i hi => ?_⟩
 obtain ⟨b, b', c, c', k1, k2, h0, h1, h2, h3, h4, h5⟩ := h i hi
 have e : ∀ o, w'.cell? ⟨K, o, none⟩ = w.cell? ⟨K, o, none⟩ := fun o => World.cell?_of_block (hb.block _ hK (.inr (Nat.le_trans hU hB)))
 exact ⟨b, b', c, c', k1, k2, by rw [e]; exact h0, by rw [e]; exact h1, by rw [e]; exact h2, by rw [e]; exact h3, zhg h4 hb (Nat.le_trans hU k1), zhg h5 hb (Nat.le_trans hU k2)⟩
theorem zih {w w' : World} {b C U : Nat} {t : TypeId} {n : Nat} {f : Nat -> Value} (h : w.rowIs b t n f) (hb : zw C U w w') (hU : U <= b) : w'.rowIs b t n f := h.of_block (hb.block _ h.lt (.inr hU))
structure McF (w : World) (v1 v2 vw vr vo : Value) (L : Nat) (X : Nat -> PtD) (n : Nat) (s : Nat -> ByteArray) (ws : List Int) (k : Nat) (y : Nat -> Int) (m : Nat) (u : Nat -> ByteArray) : Prop where
 md : MdF w.heap.size w v1 v2 L X n s
 wd : Sl w vw ws
 rt : SlF w.heap.size w vr k (2 * k) (fun i => .int .i64 (y i))
 ot : TxF w.heap.size w vo m u
theorem McF.below {w w' : World} {v1 v2 vw vr vo : Value} {L : Nat} {X : Nat -> PtD} {n : Nat} {s : Nat -> ByteArray} {ws : List Int} {k : Nat} {y : Nat -> Int} {m : Nat} {u : Nat -> ByteArray} (h : McF w v1 v2 vw vr vo L X n s ws k y m u) (hb : Below w.heap.size w w') : McF w' v1 v2 vw vr vo L X n s ws k y m u :=
 ⟨(h.md.below hb (Nat.le_refl _)).mono hb.size, h.wd.below hb, (h.rt.below hb (Nat.le_refl _)).mono hb.size, (h.ot.below hb (Nat.le_refl _)).mono hb.size⟩
theorem zu7 : ∃ fs, Tryz.prog.underlying 45 = some (.struct fs) := ⟨_, Tryz.underlying45⟩
theorem zgl : (Tryz.prog.info? 45).map (·.size) = some 20 := by kernel_rfl
theorem zwf {w : World} {b : Nat} {tm A : Array Value} (hA : A.size = 20) (h : ∀ i, w.cell? ⟨b, i, none⟩ = A[i]?) (ht : tm[2]? = some (.pointer (some ⟨b, 0, none⟩))) : (results Tryz.f6 tm).run Tryz.prog w = .ok (.agg A) w := by
 have hl := run_loadCells (P := Tryz.prog) w ⟨b, 0, none⟩ 20 (fun j => A.getD j (.bool false)) (fun j hj => by rw [Addr.add_lit, Nat.zero_add, h j]; simp [Array.getD, hA, hj])
 have hE : ((List.range 20).map fun j => A.getD j (.bool false)).toArray = A := by
  apply Array.ext
  · simp [hA]
  · intro i h1 h2
    simp [Array.getD, h2]
 obtain ⟨fs, hu⟩ := zu7
 cases hq : Tryz.prog.info? 45 with
 | none => have := zgl; rw [hq] at this; cases this
 | some i =>
   have hs : i.size = 20 := by have := zgl; rw [hq] at this; simpa using this
   have hagg : (isAgg 45).run Tryz.prog w = .ok true w := by
    unfold isAgg
    rw [Sem.run_bind, run_underlying hu w]
    simp
   have ha : (asAddr (.pointer (some ⟨b, 0, none⟩))).run Tryz.prog w = .ok ⟨b, 0, none⟩ w := rfl
   rw [hE] at hl
   simp [results, Tryz.results6, ht, loadVar, Sem.run_bind, hagg, sizeOf, typeInfo, hq, hs, hl, ha]
theorem zgm {w : World} {b : Nat} {A : Array Value} (hA : A.size = 20) (h : ∀ i, w.cell? ⟨b, i, none⟩ = A[i]?) : (Instr.loadAt 45 (.pointer (some ⟨b, 0, none⟩))).run Tryz.prog w = .ok (.agg A) w := by
 have hl := run_loadCells (P := Tryz.prog) w ⟨b, 0, none⟩ 20 (fun j => A.getD j (.bool false)) (fun j hj => by rw [Addr.add_lit, Nat.zero_add, h j]; simp [Array.getD, hA, hj])
 have hE : ((List.range 20).map fun j => A.getD j (.bool false)).toArray = A := by
  apply Array.ext
  · simp [hA]
  · intro i h1 h2
    simp [Array.getD, h2]
 obtain ⟨fs, hu⟩ := zu7
 cases hq : Tryz.prog.info? 45 with
 | none => have := zgl; rw [hq] at this; cases this
 | some i =>
   have hs : i.size = 20 := by have := zgl; rw [hq] at this; simpa using this
   have hagg : (isAgg 45).run Tryz.prog w = .ok true w := by
    unfold isAgg
    rw [Sem.run_bind, run_underlying hu w]
    simp
   rw [hE] at hl
   simp [Instr.loadAt, Instr.sureAddr, loadVar, Sem.run_bind, hagg, sizeOf, typeInfo, hq, hs, hl]
theorem zwg : ∃ fs, Tryz.prog.underlying 33 = some (.struct fs) := ⟨_, Tryz.underlying33⟩
theorem zrs : (Tryz.prog.info? 33).map (·.size) = some 20 := by kernel_rfl
theorem zh1 {w : World} {b : Nat} {A : Array Value} (hA : A.size = 20) (h : ∀ i, w.cell? ⟨b, i, none⟩ = A[i]?) : (Instr.loadAt 33 (.pointer (some ⟨b, 0, none⟩))).run Tryz.prog w = .ok (.agg A) w := by
 have hl := run_loadCells (P := Tryz.prog) w ⟨b, 0, none⟩ 20 (fun j => A.getD j (.bool false)) (fun j hj => by rw [Addr.add_lit, Nat.zero_add, h j]; simp [Array.getD, hA, hj])
 have hE : ((List.range 20).map fun j => A.getD j (.bool false)).toArray = A := by
  apply Array.ext
  · simp [hA]
  · intro i h1 h2
    simp [Array.getD, h2]
 obtain ⟨fs, hu⟩ := zwg
 cases hq : Tryz.prog.info? 33 with
 | none => have := zrs; rw [hq] at this; cases this
 | some i =>
   have hs : i.size = 20 := by have := zrs; rw [hq] at this; simpa using this
   have hagg : (isAgg 33).run Tryz.prog w = .ok true w := by
    unfold isAgg
    rw [Sem.run_bind, run_underlying hu w]
    simp
   rw [hE] at hl
   simp [Instr.loadAt, Instr.sureAddr, loadVar, Sem.run_bind, hagg, sizeOf, typeInfo, hq, hs, hl]
theorem zo7 {w : World} {b : Nat} {t : TypeId} {A C : Array Value} (hC : C.size = 20) (hA : A.size = 20) (h1 : ∀ v ∈ A.toList, v.oneCell' = true) (h : zq w b t C) : (Instr.storeAt 45 (.pointer (some ⟨b, 0, none⟩)) (.agg A)).run Tryz.prog w = .ok () (w.setRow b A) := by
 have hr := run_storeCells_from (P := Tryz.prog) b t A.toList 0 C w h (by simp [hA, hC]) h1
 simp only [List.take_zero, List.nil_append, Array.toArray_toList] at hr
 cases hq : Tryz.prog.info? 45 with
 | none => have := zgl; rw [hq] at this; cases this
 | some i =>
   have hs : i.size = 20 := by have := zgl; rw [hq] at this; simpa using this
   simp [Instr.storeAt, Instr.sureAddr, storeVar, Sem.run_bind, sizeOf, typeInfo, hq, hs, hA, Value.cells, hr]
theorem zq.row {w : World} {b : Nat} {t : TypeId} {C : Array Value} (h : zq w b t C) (A : Array Value) : zq (w.setRow b A) b t A := by
 unfold zq at h ⊢
 simp [World.setRow, Array.getElem?_modify, h]
theorem zkq {w : World} {b k : Nat} (hk : k ≠ b) (A : Array Value) : (w.setRow b A).heap[k]? = w.heap[k]? := by
 simp [World.setRow, Array.getElem?_modify, Ne.symm hk]
theorem zrt {w : World} {b B T : Nat} (A : Array Value) (hB : B <= b) (hT : b < T) : zw B T w (w.setRow b A) := ⟨rfl, rfl, rfl, by simp [World.setRow], fun k _ h => zkq (by omega) A⟩
theorem zkr {a w : World} {b B : Nat} (A : Array Value) (h : Below B a w) (hB : B <= b) : Below B a (w.setRow b A) := h.trans ⟨rfl, rfl, rfl, by simp [World.setRow], fun k hk => zkq (by omega) A⟩
theorem zbq {P : Program} {w : World} {ops : Array Oper} {rest : List Oper} {o : Oper} {a : Act} {Q : Exit -> Act -> World -> Prop} (hgd : o.guard = none) (t : TypeId) (x : Operand) (ho : o.op = .load t x) (v : Value) (hr : (Instr.loadAt t (a.eval x)).run P w = .ok v w) (h : wpList P ops Q rest (a.put o.dst v) w) : wpList P ops Q (o :: rest) a w := by
 refine wpList_plain hgd fun K hK => ?_
 unfold Oper.wp execOp
 simp only [ho, Sem.run_bind, Sem.run_pure, Result.andThen_ok, hr]
 exact hK _ _ h
theorem zf4 {P : Program} {w w' : World} {ops : Array Oper} {rest : List Oper} {o : Oper} {a : Act} {Q : Exit -> Act -> World -> Prop} (hgd : o.guard = none) (t : TypeId) (x y : Operand) (ho : o.op = .store t x y) (hr : (Instr.storeAt t (a.eval x) (a.eval y)).run P w = .ok () w') (h : wpList P ops Q rest (a.put o.dst undef) w') : wpList P ops Q (o :: rest) a w := by
 refine wpList_plain hgd fun K hK => ?_
 unfold Oper.wp execOp
 simp only [ho, Sem.run_bind, Sem.run_pure, Result.andThen_ok, hr]
 exact hK _ _ h
set_option maxHeartbeats 1000000 in
theorem zly (a1 : Option Addr) (L c1 : Nat) (a2 : Option Addr) (n c2 : Nat) (X : Nat -> PtD) (s : Nat -> ByteArray) (T : Nat) (w : World) (hs : MdF T w (.slice a1 L c1) (.slice a2 n c2) L X n s) (hT : T <= w.heap.size) (hL : L <= 1048576) (hn : n <= 1048576) (hX : ∀ j, j < L -> PLe (X j) 1048576) :
 Calls Tryz.prog 15 #[.agg #[.slice a1 L c1, .slice a2 n c2]] w fun e w' => ∃ b1 b2 : Nat, e = .returned (.agg #[.slice (some ⟨b1, 0, none⟩) L L, .slice (some ⟨b2, 0, none⟩) n n]) /\ PtO w.heap.size w' (.slice (some ⟨b1, 0, none⟩) L L) L X /\ w.heap.size <= b2 /\ w'.rowIs b2 9 n (fun i => .string (s i)) /\ Below w.heap.size w w' := by
 have HS : Hid (MdF T w (.slice a1 L c1) (.slice a2 n c2) L X n s) := hs
 have HX : Hid (∀ j, j < L -> PLe (X j) 1048576) := hX
 clear hs hX
 go_enter Tryz.func15, Tryz.ntmps15
 have B3 : Below w.heap.size w (((w.alloc (.cells #[.slice a1 L c1, .slice a2 n c2] 25)).alloc (.cells #[.slice none 0 0, .slice none 0 0] 39)).alloc (.cells #[.slice none 0 0, .slice none 0 0] 39)) := (((Below.refl _ _).alloc (Nat.le_refl _) _).alloc (by simp) _).alloc (by simp; omega) _
 go_wp2_with (first | (go_at_call 37; refine (zoy _ _ _ X _ _ (HS.out.1.below B3 hT) (by simp; omega) hL HX.out).mono ?_; rintro e w1 ⟨rfl, r1, b1⟩; have c5 := fun i => (zn b1).1 (w.heap.size + 1 + 1) i (by simp); have c4 := fun i => (zn b1).1 (w.heap.size + 1) i (by simp); have c3 := fun i => (zn b1).1 (w.heap.size) i (by simp; omega); have f5 := fun i => (zn b1).2 (w.heap.size + 1 + 1) i (by simp); have f4 := fun i => (zn b1).2 (w.heap.size + 1) i (by simp); have hz : w.heap.size + 1 + 1 + 1 <= w1.heap.size := (by have := b1.size; simp at this; omega); have BB : Hid (Below w.heap.size w w1) := B3.trans (b1.mono (by simp; omega)); have R1 : Hid (PtO (w.heap.size + 1 + 1 + 1) w1 (.slice (some ⟨w.heap.size + 1 + 1 + 1, 0, none⟩) L L) L X) := (by show PtO _ _ _ _ _; simpa using r1); clear r1 b1))
 obtain ⟨W9, hW9⟩ : ∃ W, W = w1.setCell ⟨w.heap.size + 1 + 1, 0, none⟩ (.slice (some ⟨w.heap.size + 1 + 1 + 1, 0, none⟩) L L) := ⟨_, rfl⟩
 have z9 : W9.heap.size = w1.heap.size := by rw [hW9]; simp
 have B9 : Below w.heap.size w W9 := by rw [hW9]; exact BB.out.setCell (by dsimp only; omega) _
 have k2 : ∀ i, W9.cell? ⟨w.heap.size + 1, i, none⟩ = w1.cell? ⟨w.heap.size + 1, i, none⟩ := fun i => by rw [hW9]; exact World.cell?_setCell_other _ _ _ _ (fun e => by have := congrArg Addr.block e; simp at this)
 have m0 : W9.cell? ⟨w.heap.size + 1 + 1, 0, none⟩ = some (.slice (some ⟨w.heap.size + 1 + 1 + 1, 0, none⟩) L L) := by rw [hW9]; exact World.cell?_setCell_same' _ _ _ (by rw [c5]; simp [go_sem])
 have m1 : W9.cell? ⟨w.heap.size + 1 + 1, 1, none⟩ = some (.slice none 0 0) := by rw [hW9, World.cell?_setCell_other _ _ _ _ (fun e => by have := congrArg Addr.off e; simp at this), c5]; simp [go_sem]
 have q0 : W9.cell? ⟨w.heap.size + 1, 0, none⟩ = some (.slice none 0 0) := by rw [k2, c4]; simp [go_sem]
 have q1 : W9.cell? ⟨w.heap.size + 1, 1, none⟩ = some (.slice none 0 0) := by rw [k2, c4]; simp [go_sem]
 have e5 : ∀ i, W9.frozen? ⟨w.heap.size + 1 + 1, i, none⟩ = false := fun i => by rw [hW9]; simp [go_sem, f5]
 have e4 : ∀ i, W9.frozen? ⟨w.heap.size + 1, i, none⟩ = false := fun i => by rw [hW9]; simp [go_sem, f4]
 have R9 : PtO (w.heap.size + 1 + 1 + 1) W9 (.slice (some ⟨w.heap.size + 1 + 1 + 1, 0, none⟩) L L) L X := by rw [hW9]; exact R1.out.set (by omega) _
 rw [<- hW9]
 clear hW9 c5 c4 c3 f5 f4 k2 R1 BB
 refine (zhu _ _ _ s _ _ (HS.out.2.below B9 hT) hn).mono ?_
 rintro e w2 ⟨rfl, s2, b2⟩
 have hz2 : W9.heap.size <= w2.heap.size := b2.size
 have n0 := ((zn b2).1 (w.heap.size + 1 + 1) 0 (by omega)).trans m0
 have n1 := ((zn b2).1 (w.heap.size + 1 + 1) 1 (by omega)).trans m1
 have p0 := ((zn b2).1 (w.heap.size + 1) 0 (by omega)).trans q0
 have p1 := ((zn b2).1 (w.heap.size + 1) 1 (by omega)).trans q1
 have g5 := fun i => ((zn b2).2 (w.heap.size + 1 + 1) i (by omega)).trans (e5 i)
 have g4 := fun i => ((zn b2).2 (w.heap.size + 1) i (by omega)).trans (e4 i)
 have R2 : Hid (PtO (w.heap.size + 1 + 1 + 1) w2 (.slice (some ⟨w.heap.size + 1 + 1 + 1, 0, none⟩) L L) L X) := R9.below b2
 have S2 : Hid (w2.rowIs W9.heap.size 9 n (fun i => .string (s i))) := s2
 have BB : Hid (Below w.heap.size w w2) := zb B9 b2
 have lz : Hid (w.heap.size + 1 + 1 + 1 <= W9.heap.size) := by show _ <= _; omega
 clear m0 m1 q0 q1 e5 e4 R9 s2 b2 B9 HS HX
 go_wp2
 have i0 : (w2.cell? ⟨w.heap.size + 1, 0, none⟩).isSome = true := by rw [p0]; rfl
 have i1 : (w2.cell? ⟨w.heap.size + 1, 1, none⟩).isSome = true := by rw [p1]; rfl
 refine bodyPost_ret (v := .agg #[.slice (some ⟨w.heap.size + 1 + 1 + 1, 0, none⟩) L L, .slice (some ⟨W9.heap.size, 0, none⟩) n n]) (by simp [results, Tryz.results15, go_sem, i0, i1]) rfl ⟨_, _, rfl, ?_, ?_, ?_, ?_⟩
 · exact (((R2.out.set (by omega) _).set (by omega) _).set (by omega) _).mono (by omega)
 · have := lz.out
   omega
 · have := lz.out
   exact ((S2.out.setOther (by show W9.heap.size ≠ w.heap.size + 1 + 1; omega) _).setOther (by show W9.heap.size ≠ w.heap.size + 1; omega) _).setOther (by show W9.heap.size ≠ w.heap.size + 1; omega) _
 · refine Below.setCell (Below.setCell (Below.setCell BB.out ?_ _) ?_ _) ?_ _ <;> (dsimp only; omega)
set_option maxHeartbeats 4000000 in
theorem zlz (a1 : Option Addr) (L c1 : Nat) (a2 : Option Addr) (n c2 : Nat) (aw : Option Addr) (cw : Nat) (ws : List Int) (smz toh top : Int) (cyc : Bool) (sn old cpz sr : Int) (ar : Option Addr) (cr : Nat) (rs : List (Int × Int)) (fa de sh : Bool) (st et en sp : Int) (ao : Option Addr) (m co : Nat) (X : Nat -> PtD) (s : Nat -> ByteArray) (y : Nat -> Int) (u : Nat -> ByteArray) (w : World) (h : McF w (.slice a1 L c1) (.slice a2 n c2) (.slice aw ws.length cw) (.slice ar rs.length cr) (.slice ao m co) L X n s ws rs.length y m u) (hL : L <= 1048576) (hn : n <= 1048576) (hX : ∀ j, j < L -> PLe (X j) 1048576) (hws : ws.length <= 1048576) (hrs : rs.length <= 1048576) (hm : m <= 1048576) :
 Calls Tryz.prog 6 #[.agg #[.slice a1 L c1, .slice a2 n c2, .slice aw ws.length cw, .int .i64 smz, .int .i64 toh, .int .i64 top, .bool cyc, .int .i64 sn, .int .i64 old, .int .i64 cpz, .int .i64 sr, .slice ar rs.length cr, .bool fa, .bool de, .bool sh, .int .i64 st, .int .i64 et, .int .i64 en, .int .i64 sp, .slice ao m co]] w fun e w' => ∃ b1 b2 b3 b4 b5 : Nat, e = .returned (.agg #[.slice (some ⟨b1, 0, none⟩) L L, .slice (some ⟨b2, 0, none⟩) n n, .slice (some ⟨b3, 0, none⟩) ws.length ws.length, .int .i64 smz, .int .i64 toh, .int .i64 top, .bool cyc, .int .i64 sn, .int .i64 old, .int .i64 cpz, .int .i64 sr, .slice (some ⟨b4, 0, none⟩) rs.length rs.length, .bool fa, .bool de, .bool sh, .int .i64 st, .int .i64 et, .int .i64 en, .int .i64 sp, .slice (some ⟨b5, 0, none⟩) m m]) /\ McF w' (.slice (some ⟨b1, 0, none⟩) L L) (.slice (some ⟨b2, 0, none⟩) n n) (.slice (some ⟨b3, 0, none⟩) ws.length ws.length) (.slice (some ⟨b4, 0, none⟩) rs.length rs.length) (.slice (some ⟨b5, 0, none⟩) m m) L X n s ws rs.length y m u /\ Below w.heap.size w w' := by
 have HS : Hid (McF w (.slice a1 L c1) (.slice a2 n c2) (.slice aw ws.length cw) (.slice ar rs.length cr) (.slice ao m co) L X n s ws rs.length y m u) := h
 have HX : Hid (∀ j, j < L -> PLe (X j) 1048576) := hX
 clear h hX
 go_enter Tryz.func6, Tryz.ntmps6
 go_wp2_with fail
 obtain ⟨W, hW⟩ : ∃ W, W = ((w.alloc (.cells #[.slice a1 L c1, .slice a2 n c2, .slice aw ws.length cw, .int .i64 smz, .int .i64 toh, .int .i64 top, .bool cyc, .int .i64 sn, .int .i64 old, .int .i64 cpz, .int .i64 sr, .slice ar rs.length cr, .bool fa, .bool de, .bool sh, .int .i64 st, .int .i64 et, .int .i64 en, .int .i64 sp, .slice ao m co] 33)).alloc (.cells #[.slice none 0 0, .slice none 0 0, .slice none 0 0, .int .i64 0, .int .i64 0, .int .i64 0, .bool false, .int .i64 0, .int .i64 0, .int .i64 0, .int .i64 0, .slice none 0 0, .bool false, .bool false, .bool false, .int .i64 0, .int .i64 0, .int .i64 0, .int .i64 0, .slice none 0 0] 45)).alloc (.cells #[.slice none 0 0, .slice none 0 0, .slice none 0 0, .int .i64 0, .int .i64 0, .int .i64 0, .bool false, .int .i64 0, .int .i64 0, .int .i64 0, .int .i64 0, .slice none 0 0, .bool false, .bool false, .bool false, .int .i64 0, .int .i64 0, .int .i64 0, .int .i64 0, .slice none 0 0] 45) := ⟨_, rfl⟩
 have B0 : Below w.heap.size w W := by rw [hW]; exact (((Below.refl _ _).alloc (Nat.le_refl _) _).alloc (by simp) _).alloc (by simp; omega) _
 have x0 : zq W w.heap.size 33 #[.slice a1 L c1, .slice a2 n c2, .slice aw ws.length cw, .int .i64 smz, .int .i64 toh, .int .i64 top, .bool cyc, .int .i64 sn, .int .i64 old, .int .i64 cpz, .int .i64 sr, .slice ar rs.length cr, .bool fa, .bool de, .bool sh, .int .i64 st, .int .i64 et, .int .i64 en, .int .i64 sp, .slice ao m co] := by rw [hW]; exact ((zq.new _ _ _).alloc _).alloc _
 have x1 : zq W (w.heap.size + 1) 45 #[.slice none 0 0, .slice none 0 0, .slice none 0 0, .int .i64 0, .int .i64 0, .int .i64 0, .bool false, .int .i64 0, .int .i64 0, .int .i64 0, .int .i64 0, .slice none 0 0, .bool false, .bool false, .bool false, .int .i64 0, .int .i64 0, .int .i64 0, .int .i64 0, .slice none 0 0] := by rw [hW]; exact zq.alloc (by have := zq.new (w.alloc (.cells #[.slice a1 L c1, .slice a2 n c2, .slice aw ws.length cw, .int .i64 smz, .int .i64 toh, .int .i64 top, .bool cyc, .int .i64 sn, .int .i64 old, .int .i64 cpz, .int .i64 sr, .slice ar rs.length cr, .bool fa, .bool de, .bool sh, .int .i64 st, .int .i64 et, .int .i64 en, .int .i64 sp, .slice ao m co] 33)) 45 #[.slice none 0 0, .slice none 0 0, .slice none 0 0, .int .i64 0, .int .i64 0, .int .i64 0, .bool false, .int .i64 0, .int .i64 0, .int .i64 0, .int .i64 0, .slice none 0 0, .bool false, .bool false, .bool false, .int .i64 0, .int .i64 0, .int .i64 0, .int .i64 0, .slice none 0 0]; simpa using this) _
 have x2 : zq W (w.heap.size + 1 + 1) 45 #[.slice none 0 0, .slice none 0 0, .slice none 0 0, .int .i64 0, .int .i64 0, .int .i64 0, .bool false, .int .i64 0, .int .i64 0, .int .i64 0, .int .i64 0, .slice none 0 0, .bool false, .bool false, .bool false, .int .i64 0, .int .i64 0, .int .i64 0, .int .i64 0, .slice none 0 0] := by rw [hW]; have := zq.new ((w.alloc (.cells #[.slice a1 L c1, .slice a2 n c2, .slice aw ws.length cw, .int .i64 smz, .int .i64 toh, .int .i64 top, .bool cyc, .int .i64 sn, .int .i64 old, .int .i64 cpz, .int .i64 sr, .slice ar rs.length cr, .bool fa, .bool de, .bool sh, .int .i64 st, .int .i64 et, .int .i64 en, .int .i64 sp, .slice ao m co] 33)).alloc (.cells #[.slice none 0 0, .slice none 0 0, .slice none 0 0, .int .i64 0, .int .i64 0, .int .i64 0, .bool false, .int .i64 0, .int .i64 0, .int .i64 0, .int .i64 0, .slice none 0 0, .bool false, .bool false, .bool false, .int .i64 0, .int .i64 0, .int .i64 0, .int .i64 0, .slice none 0 0] 45)) 45 #[.slice none 0 0, .slice none 0 0, .slice none 0 0, .int .i64 0, .int .i64 0, .int .i64 0, .bool false, .int .i64 0, .int .i64 0, .int .i64 0, .int .i64 0, .slice none 0 0, .bool false, .bool false, .bool false, .int .i64 0, .int .i64 0, .int .i64 0, .int .i64 0, .slice none 0 0]; simpa using this
 have zW : W.heap.size = w.heap.size + 1 + 1 + 1 := by rw [hW]; simp
 have ZW : Hid (W.heap.size = w.heap.size + 1 + 1 + 1) := zW
 rw [<- hW]
 clear hW
 refine (zly a1 L c1 a2 n c2 X s w.heap.size W ((HS.out.below B0).md.mono (Nat.le_refl _) |> fun q => HS.out.md.below B0 (Nat.le_refl _)) B0.size hL hn HX.out).mono ?_
 rintro e w1 ⟨b1, b2, rfl, o1, l2, r1, d1⟩
 have B1 := zb B0 d1
 have X0 := x0.below d1 (by omega)
 have X1 := x1.below d1 (by omega)
 have X2 := x2.below d1 (by omega)
 have k0 := X0.cell
 have k2 := X2.cell
 have f2 := X2.frozen
 have zw1 : W.heap.size <= w1.heap.size := d1.size
 have HM : Hid (PtO W.heap.size w1 (.slice (some ⟨b1, 0, none⟩) L L) L X) := o1
 have HR : Hid (w1.rowIs b2 9 n (fun i => .string (s i))) := r1
 have HL2 : Hid (W.heap.size <= b2) := l2
 have lt0 : w.heap.size < w1.heap.size := by omega
 have lt1 : w.heap.size + 1 < w1.heap.size := by omega
 have lt2 : w.heap.size + 1 + 1 < w1.heap.size := by omega
 clear o1 r1 l2 d1 x0 x1 x2 B0 zW
 go_wp2_with fail
 obtain ⟨V, hV⟩ : ∃ V, V = (w1.setCell ⟨w.heap.size + 1 + 1, 0, none⟩ (.slice (some ⟨b1, 0, none⟩) L L)).setCell ⟨w.heap.size + 1 + 1, 1, none⟩ (.slice (some ⟨b2, 0, none⟩) n n) := ⟨_, rfl⟩
 have BV : Below w.heap.size w V := by rw [hV]; exact (B1.setCell (by show w.heap.size <= w.heap.size + 1 + 1; omega) _).setCell (by show w.heap.size <= w.heap.size + 1 + 1; omega) _
 have AV : Hid (zw (w.heap.size + 1) (w.heap.size + 1 + 1 + 1) w1 V) := by rw [hV]; exact (zen w1 (by omega) (by omega) _ _).trans (zen _ (by omega) (by omega) _ _)
 have Y0 : zq V w.heap.size 33 #[.slice a1 L c1, .slice a2 n c2, .slice aw ws.length cw, .int .i64 smz, .int .i64 toh, .int .i64 top, .bool cyc, .int .i64 sn, .int .i64 old, .int .i64 cpz, .int .i64 sr, .slice ar rs.length cr, .bool fa, .bool de, .bool sh, .int .i64 st, .int .i64 et, .int .i64 en, .int .i64 sp, .slice ao m co] := by rw [hV]; exact (X0.other (by omega) _ _).other (by omega) _ _
 have Y1 : zq V (w.heap.size + 1) 45 #[.slice none 0 0, .slice none 0 0, .slice none 0 0, .int .i64 0, .int .i64 0, .int .i64 0, .bool false, .int .i64 0, .int .i64 0, .int .i64 0, .int .i64 0, .slice none 0 0, .bool false, .bool false, .bool false, .int .i64 0, .int .i64 0, .int .i64 0, .int .i64 0, .slice none 0 0] := by rw [hV]; exact (X1.other (by omega) _ _).other (by omega) _ _
 have Y2 : zq V (w.heap.size + 1 + 1) 45 #[.slice (some ⟨b1, 0, none⟩) L L, .slice (some ⟨b2, 0, none⟩) n n, .slice none 0 0, .int .i64 0, .int .i64 0, .int .i64 0, .bool false, .int .i64 0, .int .i64 0, .int .i64 0, .int .i64 0, .slice none 0 0, .bool false, .bool false, .bool false, .int .i64 0, .int .i64 0, .int .i64 0, .int .i64 0, .slice none 0 0] := by rw [hV]; exact zq.cast ((X2.set _ _).set _ _) (by kernel_rfl)
 have zV : V.heap.size = w1.heap.size := by rw [hV]; simp
 have ZV : Hid (V.heap.size = w1.heap.size) := zV
 rw [<- hV]
 clear hV X0 X1 X2 k0 k2 f2 B1
 refine (znw aw cw ws smz toh top cyc sn old cpz sr ar cr rs y w.heap.size V (HS.out.wd.below BV) hws (HS.out.rt.below BV (Nat.le_refl _)) hrs).mono ?_
 rintro e w2 ⟨b3, b4, rfl, o2, d2⟩
 have B2 := zb BV d2
 have X0 := Y0.below d2 (by omega)
 have X1 := Y1.below d2 (by omega)
 have X2 := Y2.below d2 (by omega)
 have k0 := X0.cell
 have k2 := X2.cell
 have f2 := X2.frozen
 have zw2 : V.heap.size <= w2.heap.size := d2.size
 have HA : Hid (ze3 V.heap.size w2.heap.size w2 (.slice (some ⟨b3, 0, none⟩) ws.length ws.length) (.slice (some ⟨b4, 0, none⟩) rs.length rs.length) ws.length rs.length (za ws) y) := o2
 have A2 : Hid (zw (w.heap.size + 1) (w.heap.size + 1 + 1 + 1) w1 w2) := AV.out.trans (zad d2 (Nat.le_refl _) _ _)
 have mt0 : w.heap.size < w2.heap.size := by omega
 have mt1 : w.heap.size + 1 < w2.heap.size := by omega
 have mt2 : w.heap.size + 1 + 1 < w2.heap.size := by omega
 clear o2 d2 Y0 Y1 Y2 BV AV lt0 lt1 lt2 zV
 go_wp2_with fail
 obtain ⟨V2, hV2⟩ : ∃ V, V = ((((((((((((((w2.setCell ⟨w.heap.size + 1 + 1, 2, none⟩ (.slice (some ⟨b3, 0, none⟩) ws.length ws.length)).setCell ⟨w.heap.size + 1 + 1, 3, none⟩ (.int .i64 smz)).setCell ⟨w.heap.size + 1 + 1, 4, none⟩ (.int .i64 toh)).setCell ⟨w.heap.size + 1 + 1, 5, none⟩ (.int .i64 top)).setCell ⟨w.heap.size + 1 + 1, 6, none⟩ (.bool cyc)).setCell ⟨w.heap.size + 1 + 1, 7, none⟩ (.int .i64 sn)).setCell ⟨w.heap.size + 1 + 1, 8, none⟩ (.int .i64 old)).setCell ⟨w.heap.size + 1 + 1, 9, none⟩ (.int .i64 cpz)).setCell ⟨w.heap.size + 1 + 1, 10, none⟩ (.int .i64 sr)).setCell ⟨w.heap.size + 1 + 1, 11, none⟩ (.slice (some ⟨b4, 0, none⟩) rs.length rs.length)).setCell ⟨w.heap.size + 1 + 1, 12, none⟩ (.bool fa)).setCell ⟨w.heap.size + 1 + 1, 13, none⟩ (.bool de)).setCell ⟨w.heap.size + 1 + 1, 14, none⟩ (.bool sh)).setCell ⟨w.heap.size + 1 + 1, 15, none⟩ (.int .i64 st)) := ⟨_, rfl⟩
 have BV : Below w.heap.size w V2 := by
  rw [hV2]
  iterate 14 refine Below.setCell ?_ (by show w.heap.size <= w.heap.size + 1 + 1; omega) _
  exact B2
 have AV : Hid (zw (w.heap.size + 1) (w.heap.size + 1 + 1 + 1) w2 V2) := by
  rw [hV2]
  iterate 14 refine zw.trans ?_ (zen _ (by omega) (by omega) _ _)
  exact zw.refl _ _ _
 have Y0 : zq V2 w.heap.size 33 #[.slice a1 L c1, .slice a2 n c2, .slice aw ws.length cw, .int .i64 smz, .int .i64 toh, .int .i64 top, .bool cyc, .int .i64 sn, .int .i64 old, .int .i64 cpz, .int .i64 sr, .slice ar rs.length cr, .bool fa, .bool de, .bool sh, .int .i64 st, .int .i64 et, .int .i64 en, .int .i64 sp, .slice ao m co] := by
  rw [hV2]
  iterate 14 refine zq.other ?_ (by omega) _ _
  exact X0
 have Y1 : zq V2 (w.heap.size + 1) 45 #[.slice none 0 0, .slice none 0 0, .slice none 0 0, .int .i64 0, .int .i64 0, .int .i64 0, .bool false, .int .i64 0, .int .i64 0, .int .i64 0, .int .i64 0, .slice none 0 0, .bool false, .bool false, .bool false, .int .i64 0, .int .i64 0, .int .i64 0, .int .i64 0, .slice none 0 0] := by
  rw [hV2]
  iterate 14 refine zq.other ?_ (by omega) _ _
  exact X1
 have Y2 : zq V2 (w.heap.size + 1 + 1) 45 #[.slice (some ⟨b1, 0, none⟩) L L, .slice (some ⟨b2, 0, none⟩) n n, .slice (some ⟨b3, 0, none⟩) ws.length ws.length, .int .i64 smz, .int .i64 toh, .int .i64 top, .bool cyc, .int .i64 sn, .int .i64 old, .int .i64 cpz, .int .i64 sr, .slice (some ⟨b4, 0, none⟩) rs.length rs.length, .bool fa, .bool de, .bool sh, .int .i64 st, .int .i64 0, .int .i64 0, .int .i64 0, .slice none 0 0] := by
  rw [hV2]
  exact zq.cast (((((((((((((((X2).set _ _).set _ _).set _ _).set _ _).set _ _).set _ _).set _ _).set _ _).set _ _).set _ _).set _ _).set _ _).set _ _).set _ _) (by kernel_rfl)
 have zV2 : V2.heap.size = w2.heap.size := by rw [hV2]; simp
 rw [<- hV2]
 clear hV2 X0 X1 X2 k0 k2 f2 B2
 refine (zkx et en V2).mono ?_
 rintro e w3 ⟨rfl, d3⟩
 have B3 := zb BV d3
 have X0 := Y0.below d3 (by omega)
 have X1 := Y1.below d3 (by omega)
 have X2 := Y2.below d3 (by omega)
 have k0 := X0.cell
 have k2 := X2.cell
 have f2 := X2.frozen
 have zw3 : V2.heap.size <= w3.heap.size := d3.size
 have A3 : Hid (zw (w.heap.size + 1) (w.heap.size + 1 + 1 + 1) w2 w3) := AV.out.trans (zad d3 (Nat.le_refl _) _ _)
 have nt0 : w.heap.size < w3.heap.size := by omega
 have nt1 : w.heap.size + 1 < w3.heap.size := by omega
 have nt2 : w.heap.size + 1 + 1 < w3.heap.size := by omega
 clear d3 Y0 Y1 Y2 BV AV mt0 mt1 mt2
 go_wp2_with fail
 obtain ⟨V3, hV3⟩ : ∃ V, V = (((w3.setCell ⟨w.heap.size + 1 + 1, 16, none⟩ (.int .i64 et)).setCell ⟨w.heap.size + 1 + 1, 17, none⟩ (.int .i64 en)).setCell ⟨w.heap.size + 1 + 1, 18, none⟩ (.int .i64 sp)) := ⟨_, rfl⟩
 have BV : Below w.heap.size w V3 := by
  rw [hV3]
  iterate 3 refine Below.setCell ?_ (by show w.heap.size <= w.heap.size + 1 + 1; omega) _
  exact B3
 have AV : Hid (zw (w.heap.size + 1) (w.heap.size + 1 + 1 + 1) w3 V3) := by
  rw [hV3]
  iterate 3 refine zw.trans ?_ (zen _ (by omega) (by omega) _ _)
  exact zw.refl _ _ _
 have Y1 : zq V3 (w.heap.size + 1) 45 #[.slice none 0 0, .slice none 0 0, .slice none 0 0, .int .i64 0, .int .i64 0, .int .i64 0, .bool false, .int .i64 0, .int .i64 0, .int .i64 0, .int .i64 0, .slice none 0 0, .bool false, .bool false, .bool false, .int .i64 0, .int .i64 0, .int .i64 0, .int .i64 0, .slice none 0 0] := by
  rw [hV3]
  iterate 3 refine zq.other ?_ (by omega) _ _
  exact X1
 have Y2 : zq V3 (w.heap.size + 1 + 1) 45 #[.slice (some ⟨b1, 0, none⟩) L L, .slice (some ⟨b2, 0, none⟩) n n, .slice (some ⟨b3, 0, none⟩) ws.length ws.length, .int .i64 smz, .int .i64 toh, .int .i64 top, .bool cyc, .int .i64 sn, .int .i64 old, .int .i64 cpz, .int .i64 sr, .slice (some ⟨b4, 0, none⟩) rs.length rs.length, .bool fa, .bool de, .bool sh, .int .i64 st, .int .i64 et, .int .i64 en, .int .i64 sp, .slice none 0 0] := by
  rw [hV3]
  exact zq.cast (((X2.set _ _).set _ _).set _ _) (by kernel_rfl)
 have zV3 : V3.heap.size = w3.heap.size := by rw [hV3]; simp
 rw [<- hV3]
 clear hV3 X0 X1 X2 k0 k2 f2 B3
 refine (zhu ao m co u w.heap.size V3 (HS.out.ot.below BV (Nat.le_refl _)) hm).mono ?_
 rintro e w4 ⟨rfl, r4, d4⟩
 have B4 := zb BV d4
 have X1 := Y1.below d4 (by omega)
 have X2 := Y2.below d4 (by omega)
 have k1 := X1.cell
 have k2 := X2.cell
 have f1 := X1.frozen
 have f2 := X2.frozen
 have zw4 : V3.heap.size <= w4.heap.size := d4.size
 have A4 : Hid (zw (w.heap.size + 1) (w.heap.size + 1 + 1 + 1) w3 w4) := AV.out.trans (zad d4 (Nat.le_refl _) _ _)
 have HO : Hid (w4.rowIs V3.heap.size 9 m (fun i => .string (u i))) := r4
 have pt1 : w.heap.size + 1 < w4.heap.size := by omega
 have pt2 : w.heap.size + 1 + 1 < w4.heap.size := by omega
 have pn : w.heap.size + 1 ≠ w.heap.size + 1 + 1 := by omega
 have lb5 : Hid (w.heap.size + 1 + 1 + 1 <= V3.heap.size) := by show _ <= _; omega
 clear d4 Y1 Y2 BV AV nt0 nt1 nt2 r4 HS HX zV3 zV2
 go_upto_region 11 with fail
 obtain ⟨U4, hU4⟩ : ∃ V, V = w4.setCell ⟨w.heap.size + 1 + 1, 19, none⟩ (.slice (some ⟨V3.heap.size, 0, none⟩) m m) := ⟨_, rfl⟩
 have BU : Hid (Below w.heap.size w U4) := by rw [hU4]; exact Below.setCell B4 (by show w.heap.size <= w.heap.size + 1 + 1; omega) _
 have AU : Hid (zw (w.heap.size + 1) (w.heap.size + 1 + 1 + 1) w4 U4) := by rw [hU4]; exact zen _ (by omega) (by omega) _ _
 have U1 : zq U4 (w.heap.size + 1) 45 #[.slice none 0 0, .slice none 0 0, .slice none 0 0, .int .i64 0, .int .i64 0, .int .i64 0, .bool false, .int .i64 0, .int .i64 0, .int .i64 0, .int .i64 0, .slice none 0 0, .bool false, .bool false, .bool false, .int .i64 0, .int .i64 0, .int .i64 0, .int .i64 0, .slice none 0 0] := by rw [hU4]; exact X1.other pn _ _
 have U2 : zq U4 (w.heap.size + 1 + 1) 45 #[.slice (some ⟨b1, 0, none⟩) L L, .slice (some ⟨b2, 0, none⟩) n n, .slice (some ⟨b3, 0, none⟩) ws.length ws.length, .int .i64 smz, .int .i64 toh, .int .i64 top, .bool cyc, .int .i64 sn, .int .i64 old, .int .i64 cpz, .int .i64 sr, .slice (some ⟨b4, 0, none⟩) rs.length rs.length, .bool fa, .bool de, .bool sh, .int .i64 st, .int .i64 et, .int .i64 en, .int .i64 sp, .slice (some ⟨V3.heap.size, 0, none⟩) m m] := by rw [hU4]; exact zq.cast (X2.set _ _) (by kernel_rfl)
 have zU : U4.heap.size = w4.heap.size := by rw [hU4]; simp
 have pu1 : w.heap.size + 1 < U4.heap.size := by omega
 have pu2 : w.heap.size + 1 + 1 < U4.heap.size := by omega
 rw [<- hU4]
 clear hU4 X1 X2 k1 k2 f1 f2 zU pt1 pt2 B4
 have HLD := zgm rfl U2.cell
 have HST := zo7 (A := #[.slice (some ⟨b1, 0, none⟩) L L, .slice (some ⟨b2, 0, none⟩) n n, .slice (some ⟨b3, 0, none⟩) ws.length ws.length, .int .i64 smz, .int .i64 toh, .int .i64 top, .bool cyc, .int .i64 sn, .int .i64 old, .int .i64 cpz, .int .i64 sr, .slice (some ⟨b4, 0, none⟩) rs.length rs.length, .bool fa, .bool de, .bool sh, .int .i64 st, .int .i64 et, .int .i64 en, .int .i64 sp, .slice (some ⟨V3.heap.size, 0, none⟩) m m]) rfl rfl (by simp [Value.oneCell']) U1
 go_wp2_with (first | refine zbq rfl _ _ rfl _ HLD ?_ | refine zf4 rfl _ _ _ rfl HST ?_)
 obtain ⟨V4, hV4⟩ : ∃ V, V = U4.setRow (w.heap.size + 1) #[.slice (some ⟨b1, 0, none⟩) L L, .slice (some ⟨b2, 0, none⟩) n n, .slice (some ⟨b3, 0, none⟩) ws.length ws.length, .int .i64 smz, .int .i64 toh, .int .i64 top, .bool cyc, .int .i64 sn, .int .i64 old, .int .i64 cpz, .int .i64 sr, .slice (some ⟨b4, 0, none⟩) rs.length rs.length, .bool fa, .bool de, .bool sh, .int .i64 st, .int .i64 et, .int .i64 en, .int .i64 sp, .slice (some ⟨V3.heap.size, 0, none⟩) m m] := ⟨_, rfl⟩
 have BV : Below w.heap.size w V4 := by rw [hV4]; exact zkr _ BU.out (by omega)
 have AV : Hid (zw (w.heap.size + 1) (w.heap.size + 1 + 1 + 1) w4 V4) := by rw [hV4]; exact AU.out.trans (zrt _ (by omega) (by omega))
 have Y1 : zq V4 (w.heap.size + 1) 45 #[.slice (some ⟨b1, 0, none⟩) L L, .slice (some ⟨b2, 0, none⟩) n n, .slice (some ⟨b3, 0, none⟩) ws.length ws.length, .int .i64 smz, .int .i64 toh, .int .i64 top, .bool cyc, .int .i64 sn, .int .i64 old, .int .i64 cpz, .int .i64 sr, .slice (some ⟨b4, 0, none⟩) rs.length rs.length, .bool fa, .bool de, .bool sh, .int .i64 st, .int .i64 et, .int .i64 en, .int .i64 sp, .slice (some ⟨V3.heap.size, 0, none⟩) m m] := by rw [hV4]; exact U1.row _
 rw [<- hV4]
 have q1 := Y1.cell
 refine bodyPost_ret (v := .agg #[.slice (some ⟨b1, 0, none⟩) L L, .slice (some ⟨b2, 0, none⟩) n n, .slice (some ⟨b3, 0, none⟩) ws.length ws.length, .int .i64 smz, .int .i64 toh, .int .i64 top, .bool cyc, .int .i64 sn, .int .i64 old, .int .i64 cpz, .int .i64 sr, .slice (some ⟨b4, 0, none⟩) rs.length rs.length, .bool fa, .bool de, .bool sh, .int .i64 st, .int .i64 et, .int .i64 en, .int .i64 sp, .slice (some ⟨V3.heap.size, 0, none⟩) m m]) (zwf rfl q1 rfl) rfl ⟨b1, b2, b3, b4, V3.heap.size, rfl, ?_, BV⟩
 have hz := ZW.out
 have hzv := ZV.out
 have hl2 := HL2.out
 have hl5 := lb5.out
 have A24 := (A3.out.trans A4.out).trans AV.out
 have hA := znx HA.out A24 (by omega)
 have hA' := ztr hA
 have hM := HM.out.apart (A2.out.trans A24) (by omega)
 have hR := zih HR.out (A2.out.trans A24) (by omega)
 have hO := zih HO.out AV.out hl5
 exact ⟨⟨hM.ptF, zh7 hR⟩, hA'.1, hA'.2.here, zh7 hO⟩
end Go.Proofs.YtglolopfeambfaaGreat
