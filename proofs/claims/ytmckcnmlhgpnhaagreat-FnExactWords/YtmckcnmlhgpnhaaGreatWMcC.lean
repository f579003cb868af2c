/- - -/
import Derived.Test.YtmckcnmlhgpnhaaGreatWLawD
import Derived.Test.YtmckcnmlhgpnhaaGreatWMkK
import Derived.Test.YtmckcnmlhgpnhaaGreatWMkN
namespace Go.Proofs.YtmckcnmlhgpnhaaGreat
set_option maxRecDepth 20000
open Go.RowKit
set_option linter.unusedSimpArgs false
set_option linter.unusedVariables false
def zt (w : World) (b : Nat) (t : TypeId) (A : Array Value) : Prop := w.heap[b]? = some (.cells A t (0, 0))
theorem zt.cell {w : World} {b : Nat} {t : TypeId} {A : Array Value} (h : zt w b t A) : ∀ i, w.cell? ⟨b, i, none⟩ = A[i]? := fun i => by
 unfold zt at h
 simp [World.cell?, h]
theorem zt.frozen {w : World} {b : Nat} {t : TypeId} {A : Array Value} (h : zt w b t A) : ∀ i, w.frozen? ⟨b, i, none⟩ = false := fun i => by
 unfold zt at h
 simp [World.frozen?, h]
theorem zt.lt {w : World} {b : Nat} {t : TypeId} {A : Array Value} (h : zt w b t A) : b < w.heap.size := (Array.getElem?_eq_some_iff.1 h).1
theorem zt.new (w : World) (t : TypeId) (A : Array Value) : zt (w.alloc (.cells A t)) w.heap.size t A := zdn rfl
theorem zt.alloc {w : World} {b : Nat} {t : TypeId} {A : Array Value} (h : zt w b t A) (o : Obj) : zt (w.alloc o) b t A := (zfb h.lt).trans h
theorem zt.below {w w' : World} {b C : Nat} {t : TypeId} {A : Array Value} (h : zt w b t A) (hb : Below C w w') (hC : b < C) : zt w' b t A := (hb.block b hC).trans h
theorem zt.set {w : World} {b : Nat} {t : TypeId} {A : Array Value} (h : zt w b t A) (i : Nat) (v : Value) : zt (w.setCell ⟨b, i, none⟩ v) b t (A.setIfInBounds i v) := by
 unfold zt at h ⊢
 simp [World.setCell, Array.getElem?_modify, h]
theorem zt.other {w : World} {b : Nat} {t : TypeId} {A : Array Value} (h : zt w b t A) {k : Nat} (hk : b ≠ k) (i : Nat) (v : Value) : zt (w.setCell ⟨k, i, none⟩ v) b t A := (Below.heap_setCell _ _ _ _ hk).trans h
theorem zt.cast {w : World} {b : Nat} {t : TypeId} {A A' : Array Value} (h : zt w b t A) (e : A = A') : zt w b t A' := e ▸ h
theorem zes {B T k : Nat} (w : World) (hB : B <= k) (hT : k < T) (i : Nat) (v : Value) : zz B T w (w.setCell ⟨k, i, none⟩ v) :=
 ⟨rfl, rfl, rfl, by simp [World.setCell], fun j _ h => Below.heap_setCell _ _ _ _ (by show j ≠ k; omega)⟩
theorem zhq {b n c m C U : Nat} {f : Nat -> Value} {w w' : World} (h : SlF w.heap.size w (.slice (some ⟨b, 0, none⟩) n c) n m f) (hb : zz C U w w') (hU : U <= b) : SlF w'.heap.size w' (.slice (some ⟨b, 0, none⟩) n c) n m f := by
 obtain ⟨a, cap, e, h⟩ := h
 refine ⟨a, cap, e, ?_⟩
 rcases h with h | ⟨b', off, rfl, h1, h2, h3⟩
 · exact .inl h
 · injection e with e _ _
   injection e with e
   injection e with e1 e2
   subst e1
   refine .inr ⟨_, off, rfl, Nat.lt_of_lt_of_le h1 hb.size, Nat.lt_of_lt_of_le h2 hb.size, fun i hi => ?_⟩
   rw [World.cell?_of_block (hb.block _ h2 (.inr hU))]
   exact h3 i hi
theorem PtO.apart {B C U : Nat} {w w' : World} {v : Value} {L : Nat} {X : Nat -> PtD} (h : PtO B w v L X) (hb : zz C U w w') (hU : U <= B) : PtO B w' v L X := by
 obtain ⟨K, cap, rfl, hB, hK, h⟩ := h
 refine ⟨K, cap, rfl, hB, Nat.lt_of_lt_of_le hK hb.size, fun i hi => ?_⟩
 obtain ⟨b, b', c, c', k1, k2, h0, h1, h2, h3, h4, h5⟩ := h i hi
 have e : ∀ o, w'.cell? ⟨K, o, none⟩ = w.cell? ⟨K, o, none⟩ := fun o => World.cell?_of_block (hb.block _ hK (.inr (Nat.le_trans hU hB)))
 exact ⟨b, b', c, c', k1, k2, by rw [e]; exact h0, by rw [e]; exact h1, by rw [e]; exact h2, by rw [e]; exact h3, zhq h4 hb (Nat.le_trans hU k1), zhq h5 hb (Nat.le_trans hU k2)⟩
theorem ziu {w w' : World} {b C U : Nat} {t : TypeId} {n : Nat} {f : Nat -> Value} (h : w.rowIs b t n f) (hb : zz C U w w') (hU : U <= b) : w'.rowIs b t n f := h.of_block (hb.block _ h.lt (.inr hU))
structure McF (w : World) (v1 v2 vw vr vo : Value) (L : Nat) (X : Nat -> PtD) (n : Nat) (s : Nat -> ByteArray) (ws : List Int) (k : Nat) (y : Nat -> Int) (m : Nat) (u : Nat -> ByteArray) : Prop where
 md : MdF w.heap.size w v1 v2 L X n s
 wd : Sl w vw ws
 rt : SlF w.heap.size w vr k (2 * k) (fun i => .int .i64 (y i))
 ot : TxF w.heap.size w vo m u
theorem McF.below {w w' : World} {v1 v2 vw vr vo : Value} {L : Nat} {X : Nat -> PtD} {n : Nat} {s : Nat -> ByteArray} {ws : List Int} {k : Nat} {y : Nat -> Int} {m : Nat} {u : Nat -> ByteArray} (h : McF w v1 v2 vw vr vo L X n s ws k y m u) (hb : Below w.heap.size w w') : McF w' v1 v2 vw vr vo L X n s ws k y m u :=
 ⟨(h.md.below hb (Nat.le_refl _)).mono hb.size, h.wd.below hb, (h.rt.below hb (Nat.le_refl _)).mono hb.size, (h.ot.below hb (Nat.le_refl _)).mono hb.size⟩
theorem zwg : ∃ fs, Tryz.prog.underlying 50 = some (.struct fs) := ⟨_, Tryz.underlying50⟩
theorem zgr : (Tryz.prog.info? 50).map (·.size) = some 20 := by kernel_rfl
theorem zx0 {w : World} {b : Nat} {tm A : Array Value} (hA : A.size = 20) (h : ∀ i, w.cell? ⟨b, i, none⟩ = A[i]?) (ht : tm[2]? = some (.pointer (some ⟨b, 0, none⟩))) : (results Tryz.f17 tm).run Tryz.prog w = .ok (.agg A) w := by
 have hl := run_loadCells (P := Tryz.prog) w ⟨b, 0, none⟩ 20 (fun j => A.getD j (.bool false)) (fun j hj => by rw [Addr.add_lit, Nat.zero_add, h j]; simp [Array.getD, hA, hj])
 have hE : ((List.range 20).map fun j => A.getD j (.bool false)).toArray = A := by
  apply Array.ext
  · simp [hA]
  · intro i h1 h2
    simp [Array.getD, h2]
 obtain ⟨fs, hu⟩ := zwg
 cases hq : Tryz.prog.info? 50 with
 | none => have := zgr; rw [hq] at this; cases this
 | some i =>
   have hs : i.size = 20 := by have := zgr; rw [hq] at this; simpa using this
   have hagg : (isAgg 50).run Tryz.prog w = .ok true w := by
    unfold isAgg
    rw [Sem.run_bind, run_underlying hu w]
    simp
   have ha : (asAddr (.pointer (some ⟨b, 0, none⟩))).run Tryz.prog w = .ok ⟨b, 0, none⟩ w := rfl
   rw [hE] at hl
   simp [results, Tryz.results17, ht, loadVar, Sem.run_bind, hagg, sizeOf, typeInfo, hq, hs, hl, ha]
theorem zgs {w : World} {b : Nat} {A : Array Value} (hA : A.size = 20) (h : ∀ i, w.cell? ⟨b, i, none⟩ = A[i]?) : (Instr.loadAt 50 (.pointer (some ⟨b, 0, none⟩))).run Tryz.prog w = .ok (.agg A) w := by
 have hl := run_loadCells (P := Tryz.prog) w ⟨b, 0, none⟩ 20 (fun j => A.getD j (.bool false)) (fun j hj => by rw [Addr.add_lit, Nat.zero_add, h j]; simp [Array.getD, hA, hj])
 have hE : ((List.range 20).map fun j => A.getD j (.bool false)).toArray = A := by
  apply Array.ext
  · simp [hA]
  · intro i h1 h2
    simp [Array.getD, h2]
 obtain ⟨fs, hu⟩ := zwg
 cases hq : Tryz.prog.info? 50 with
 | none => have := zgr; rw [hq] at this; cases this
 | some i =>
   have hs : i.size = 20 := by have := zgr; rw [hq] at this; simpa using this
   have hagg : (isAgg 50).run Tryz.prog w = .ok true w := by
    unfold isAgg
    rw [Sem.run_bind, run_underlying hu w]
    simp
   rw [hE] at hl
   simp [Instr.loadAt, Instr.sureAddr, loadVar, Sem.run_bind, hagg, sizeOf, typeInfo, hq, hs, hl]
theorem zx1 : ∃ fs, Tryz.prog.underlying 41 = some (.struct fs) := ⟨_, Tryz.underlying41⟩
theorem zsq : (Tryz.prog.info? 41).map (·.size) = some 20 := by kernel_rfl
theorem zid {w : World} {b : Nat} {A : Array Value} (hA : A.size = 20) (h : ∀ i, w.cell? ⟨b, i, none⟩ = A[i]?) : (Instr.loadAt 41 (.pointer (some ⟨b, 0, none⟩))).run Tryz.prog w = .ok (.agg A) w := by
 have hl := run_loadCells (P := Tryz.prog) w ⟨b, 0, none⟩ 20 (fun j => A.getD j (.bool false)) (fun j hj => by rw [Addr.add_lit, Nat.zero_add, h j]; simp [Array.getD, hA, hj])
 have hE : ((List.range 20).map fun j => A.getD j (.bool false)).toArray = A := by
  apply Array.ext
  · simp [hA]
  · intro i h1 h2
    simp [Array.getD, h2]
 obtain ⟨fs, hu⟩ := zx1
 cases hq : Tryz.prog.info? 41 with
 | none => have := zsq; rw [hq] at this; cases this
 | some i =>
   have hs : i.size = 20 := by have := zsq; rw [hq] at this; simpa using this
   have hagg : (isAgg 41).run Tryz.prog w = .ok true w := by
    unfold isAgg
    rw [Sem.run_bind, run_underlying hu w]
    simp
   rw [hE] at hl
   simp [Instr.loadAt, Instr.sureAddr, loadVar, Sem.run_bind, hagg, sizeOf, typeInfo, hq, hs, hl]
theorem zpt {w : World} {b : Nat} {t : TypeId} {A C : Array Value} (hC : C.size = 20) (hA : A.size = 20) (h1 : ∀ v ∈ A.toList, v.oneCell' = true) (h : zt w b t C) : (Instr.storeAt 50 (.pointer (some ⟨b, 0, none⟩)) (.agg A)).run Tryz.prog w = .ok () (w.setRow b A) := by
 have hr := run_storeCells_from (P := Tryz.prog) b t A.toList 0 C w h (by simp [hA, hC]) h1
 simp only [List.take_zero, List.nil_append, Array.toArray_toList] at hr
 cases hq : Tryz.prog.info? 50 with
 | none => have := zgr; rw [hq] at this; cases this
 | some i =>
   have hs : i.size = 20 := by have := zgr; rw [hq] at this; simpa using this
   simp [Instr.storeAt, Instr.sureAddr, storeVar, Sem.run_bind, sizeOf, typeInfo, hq, hs, hA, Value.cells, hr]
theorem zt.row {w : World} {b : Nat} {t : TypeId} {C : Array Value} (h : zt w b t C) (A : Array Value) : zt (w.setRow b A) b t A := by
 unfold zt at h ⊢
 simp [World.setRow, Array.getElem?_modify, h]
theorem zk2 {w : World} {b k : Nat} (hk : k ≠ b) (A : Array Value) : (w.setRow b A).heap[k]? = w.heap[k]? := by
 simp [World.setRow, Array.getElem?_modify, Ne.symm hk]
theorem zsr {w : World} {b B T : Nat} (A : Array Value) (hB : B <= b) (hT : b < T) : zz B T w (w.setRow b A) := ⟨rfl, rfl, rfl, by simp [World.setRow], fun k _ h => zk2 (by omega) A⟩
theorem zk3 {a w : World} {b B : Nat} (A : Array Value) (h : Below B a w) (hB : B <= b) : Below B a (w.setRow b A) := h.trans ⟨rfl, rfl, rfl, by simp [World.setRow], fun k hk => zk2 (by omega) A⟩
theorem zbw {P : Program} {w : World} {ops : Array Oper} {rest : List Oper} {o : Oper} {a : Act} {Q : Exit -> Act -> World -> Prop} (hgd : o.guard = none) (t : TypeId) (x : Operand) (ho : o.op = .load t x) (v : Value) (hr : (Instr.loadAt t (a.eval x)).run P w = .ok v w) (h : wpList P ops Q rest (a.put o.dst v) w) : wpList P ops Q (o :: rest) a w := by
 refine wpList_plain hgd fun K hK => ?_
 unfold Oper.wp execOp
 simp only [ho, Sem.run_bind, Sem.run_pure, Result.andThen_ok, hr]
 exact hK _ _ h
theorem zga {P : Program} {w w' : World} {ops : Array Oper} {rest : List Oper} {o : Oper} {a : Act} {Q : Exit -> Act -> World -> Prop} (hgd : o.guard = none) (t : TypeId) (x y : Operand) (ho : o.op = .store t x y) (hr : (Instr.storeAt t (a.eval x) (a.eval y)).run P w = .ok () w') (h : wpList P ops Q rest (a.put o.dst undef) w') : wpList P ops Q (o :: rest) a w := by
 refine wpList_plain hgd fun K hK => ?_
 unfold Oper.wp execOp
 simp only [ho, Sem.run_bind, Sem.run_pure, Result.andThen_ok, hr]
 exact hK _ _ h
set_option maxHeartbeats 1000000 in
theorem zmd (a1 : Option Addr) (L c1 : Nat) (a2 : Option Addr) (n c2 : Nat) (X : Nat -> PtD) (s : Nat -> ByteArray) (T : Nat) (w : World) (hs : MdF T w (.slice a1 L c1) (.slice a2 n c2) L X n s) (hT : T <= w.heap.size) (hL : L <= 1048576) (hn : n <= 1048576) (hX : ∀ j, j < L -> PLe (X j) 1048576) :
 Calls Tryz.prog 58 #[.agg #[.slice a1 L c1, .slice a2 n c2]] w fun e w' => ∃ b1 b2 : Nat, e = .returned (.agg #[.slice (some ⟨b1, 0, none⟩) L L, .slice (some ⟨b2, 0, none⟩) n n]) /\ PtO w.heap.size w' (.slice (some ⟨b1, 0, none⟩) L L) L X /\ w.heap.size <= b2 /\ w'.rowIs b2 9 n (fun i => .string (s i)) /\ Below w.heap.size w w' := by
 have HS : Hid (MdF T w (.slice a1 L c1) (.slice a2 n c2) L X n s) := hs
 have HX : Hid (∀ j, j < L -> PLe (X j) 1048576) := hX
 clear hs hX
 go_enter Tryz.func58, Tryz.ntmps58
 have B3 : Below w.heap.size w (((w.alloc (.cells #[.slice a1 L c1, .slice a2 n c2] 37)).alloc (.cells #[.slice none 0 0, .slice none 0 0] 47)).alloc (.cells #[.slice none 0 0, .slice none 0 0] 47)) := (((Below.refl _ _).alloc (Nat.le_refl _) _).alloc (by simp) _).alloc (by simp; omega) _
 go_wp2_with (first | (go_at_call 105; refine (zpi _ _ _ X _ _ (HS.out.1.below B3 hT) (by simp; omega) hL HX.out).mono ?_; rintro e w1 ⟨rfl, r1, b1⟩; have c5 := fun i => (zo b1).1 (w.heap.size + 1 + 1) i (by simp); have c4 := fun i => (zo b1).1 (w.heap.size + 1) i (by simp); have c3 := fun i => (zo b1).1 (w.heap.size) i (by simp; omega); have f5 := fun i => (zo b1).2 (w.heap.size + 1 + 1) i (by simp); have f4 := fun i => (zo b1).2 (w.heap.size + 1) i (by simp); have hz : w.heap.size + 1 + 1 + 1 <= w1.heap.size := (by have := b1.size; simp at this; omega); have BB : Hid (Below w.heap.size w w1) := B3.trans (b1.mono (by simp; omega)); have R1 : Hid (PtO (w.heap.size + 1 + 1 + 1) w1 (.slice (some ⟨w.heap.size + 1 + 1 + 1, 0, none⟩) L L) L X) := (by show PtO _ _ _ _ _; simpa using r1); clear r1 b1))
 obtain ⟨W9, hW9⟩ : ∃ W, W = w1.setCell ⟨w.heap.size + 1 + 1, 0, none⟩ (.slice (some ⟨w.heap.size + 1 + 1 + 1, 0, none⟩) L L) := ⟨_, rfl⟩
 have z9 : W9.heap.size = w1.heap.size := by rw [hW9]; simp
 have B9 : Below w.heap.size w W9 := by rw [hW9]; exact BB.out.setCell (by dsimp only; omega) _
 have k2 : ∀ i, W9.cell? ⟨w.heap.size + 1, i, none⟩ = w1.cell? ⟨w.heap.size + 1, i, none⟩ := fun i => by rw [hW9]; exact World.cell?_setCell_other _ _ _ _ (fun e => by have := congrArg Addr.block e; simp at this)
 have m0 : W9.cell? ⟨w.heap.size + 1 + 1, 0, none⟩ = some (.slice (some ⟨w.heap.size + 1 + 1 + 1, 0, none⟩) L L) := by rw [hW9]; exact World.cell?_setCell_same' _ _ _ (by rw [c5]; simp [go_sem])
 have m1 : W9.cell? ⟨w.heap.size + 1 + 1, 1, none⟩ = some (.slice none 0 0) := by rw [hW9, World.cell?_setCell_other _ _ _ _ (fun e => by have := congrArg Addr.off e; simp at this), c5]; simp [go_sem]
 have q0 : W9.cell? ⟨w.heap.size + 1, 0, none⟩ = some (.slice none 0 0) := by rw [k2, c4]; simp [go_sem]
 have q1 : W9.cell? ⟨w.heap.size + 1, 1, none⟩ = some (.slice none 0 0) := by rw [k2, c4]; simp [go_sem]
 have e5 : ∀ i, W9.frozen? ⟨w.heap.size + 1 + 1, i, none⟩ = false := fun i => by rw [hW9]; simp [go_sem, f5]
 have e4 : ∀ i, W9.frozen? ⟨w.heap.size + 1, i, none⟩ = false := fun i => by rw [hW9]; simp [go_sem, f4]
 have R9 : PtO (w.heap.size + 1 + 1 + 1) W9 (.slice (some ⟨w.heap.size + 1 + 1 + 1, 0, none⟩) L L) L X := by rw [hW9]; exact R1.out.set (by omega) _
 rw [<- hW9]
 clear hW9 c5 c4 c3 f5 f4 k2 R1 BB
 refine (zh4 _ _ _ s _ _ (HS.out.2.below B9 hT) hn).mono ?_
 rintro e w2 ⟨rfl, s2, b2⟩
 have hz2 : W9.heap.size <= w2.heap.size := b2.size
 have n0 := ((zo b2).1 (w.heap.size + 1 + 1) 0 (by omega)).trans m0
 have n1 := ((zo b2).1 (w.heap.size + 1 + 1) 1 (by omega)).trans m1
 have p0 := ((zo b2).1 (w.heap.size + 1) 0 (by omega)).trans q0
 have p1 := ((zo b2).1 (w.heap.size + 1) 1 (by omega)).trans q1
 have g5 := fun i => ((zo b2).2 (w.heap.size + 1 + 1) i (by omega)).trans (e5 i)
 have g4 := fun i => ((zo b2).2 (w.heap.size + 1) i (by omega)).trans (e4 i)
 have R2 : Hid (PtO (w.heap.size + 1 + 1 + 1) w2 (.slice (some ⟨w.heap.size + 1 + 1 + 1, 0, none⟩) L L) L X) := R9.below b2
 have S2 : Hid (w2.rowIs W9.heap.size 9 n (fun i => .string (s i))) := s2
 have BB : Hid (Below w.heap.size w w2) := zc B9 b2
 have lz : Hid (w.heap.size + 1 + 1 + 1 <= W9.heap.size) := by show _ <= _; omega
 clear m0 m1 q0 q1 e5 e4 R9 s2 b2 B9 HS HX
 go_wp2
 have i0 : (w2.cell? ⟨w.heap.size + 1, 0, none⟩).isSome = true := by rw [p0]; rfl
 have i1 : (w2.cell? ⟨w.heap.size + 1, 1, none⟩).isSome = true := by rw [p1]; rfl
 refine bodyPost_ret (v := .agg #[.slice (some ⟨w.heap.size + 1 + 1 + 1, 0, none⟩) L L, .slice (some ⟨W9.heap.size, 0, none⟩) n n]) (by simp [results, Tryz.results58, go_sem, i0, i1]) rfl ⟨_, _, rfl, ?_, ?_, ?_, ?_⟩
 · exact (((R2.out.set (by omega) _).set (by omega) _).set (by omega) _).mono (by omega)
 · have := lz.out
   omega
 · have := lz.out
   exact ((S2.out.setOther (by show W9.heap.size ≠ w.heap.size + 1 + 1; omega) _).setOther (by show W9.heap.size ≠ w.heap.size + 1; omega) _).setOther (by show W9.heap.size ≠ w.heap.size + 1; omega) _
 · refine Below.setCell (Below.setCell (Below.setCell BB.out ?_ _) ?_ _) ?_ _ <;> (dsimp only; omega)
set_option maxHeartbeats 4000000 in
theorem zme (a1 : Option Addr) (L c1 : Nat) (a2 : Option Addr) (n c2 : Nat) (aw : Option Addr) (cw : Nat) (ws : List Int) (smz toh top : Int) (cyc : Bool) (sn old cpz sr : Int) (ar : Option Addr) (cr : Nat) (rs : List (Int × Int)) (fa de sh : Bool) (st et en sp : Int) (ao : Option Addr) (m co : Nat) (X : Nat -> PtD) (s : Nat -> ByteArray) (y : Nat -> Int) (u : Nat -> ByteArray) (w : World) (h : McF w (.slice a1 L c1) (.slice a2 n c2) (.slice aw ws.length cw) (.slice ar rs.length cr) (.slice ao m co) L X n s ws rs.length y m u) (hL : L <= 1048576) (hn : n <= 1048576) (hX : ∀ j, j < L -> PLe (X j) 1048576) (hws : ws.length <= 1048576) (hrs : rs.length <= 1048576) (hm : m <= 1048576) :
 Calls Tryz.prog 17 #[.agg #[.slice a1 L c1, .slice a2 n c2, .slice aw ws.length cw, .int .i64 smz, .int .i64 toh, .int .i64 top, .bool cyc, .int .i64 sn, .int .i64 old, .int .i64 cpz, .int .i64 sr, .slice ar rs.length cr, .bool fa, .bool de, .bool sh, .int .i64 st, .int .i64 et, .int .i64 en, .int .i64 sp, .slice ao m co]] w fun e w' => ∃ b1 b2 b3 b4 b5 : Nat, e = .returned (.agg #[.slice (some ⟨b1, 0, none⟩) L L, .slice (some ⟨b2, 0, none⟩) n n, .slice (some ⟨b3, 0, none⟩) ws.length ws.length, .int .i64 smz, .int .i64 toh, .int .i64 top, .bool cyc, .int .i64 sn, .int .i64 old, .int .i64 cpz, .int .i64 sr, .slice (some ⟨b4, 0, none⟩) rs.length rs.length, .bool fa, .bool de, .bool sh, .int .i64 st, .int .i64 et, .int .i64 en, .int .i64 sp, .slice (some ⟨b5, 0, none⟩) m m]) /\ McF w' (.slice (some ⟨b1, 0, none⟩) L L) (.slice (some ⟨b2, 0, none⟩) n n) (.slice (some ⟨b3, 0, none⟩) ws.length ws.length) (.slice (some ⟨b4, 0, none⟩) rs.length rs.length) (.slice (some ⟨b5, 0, none⟩) m m) L X n s ws rs.length y m u /\ Below w.heap.size w w' := by
 have HS : Hid (McF w (.slice a1 L c1) (.slice a2 n c2) (.slice aw ws.length cw) (.slice ar rs.length cr) (.slice ao m co) L X n s ws rs.length y m u) := h
 have HX : Hid (∀ j, j < L -> PLe (X j) 1048576) := hX
 clear h hX
 go_enter Tryz.func17, Tryz.ntmps17
 go_wp2_with fail
 obtain ⟨W, hW⟩ : ∃ W, W = ((w.alloc (.cells #[.slice a1 L c1, .slice a2 n c2, .slice aw ws.length cw, .int .i64 smz, .int .i64 toh, .int .i64 top, .bool cyc, .int .i64 sn, .int .i64 old, .int .i64 cpz, .int .i64 sr, .slice ar rs.length cr, .bool fa, .bool de, .bool sh, .int .i64 st, .int .i64 et, .int .i64 en, .int .i64 sp, .slice ao m co] 41)).alloc (.cells #[.slice none 0 0, .slice none 0 0, .slice none 0 0, .int .i64 0, .int .i64 0, .int .i64 0, .bool false, .int .i64 0, .int .i64 0, .int .i64 0, .int .i64 0, .slice none 0 0, .bool false, .bool false, .bool false, .int .i64 0, .int .i64 0, .int .i64 0, .int .i64 0, .slice none 0 0] 50)).alloc (.cells #[.slice none 0 0, .slice none 0 0, .slice none 0 0, .int .i64 0, .int .i64 0, .int .i64 0, .bool false, .int .i64 0, .int .i64 0, .int .i64 0, .int .i64 0, .slice none 0 0, .bool false, .bool false, .bool false, .int .i64 0, .int .i64 0, .int .i64 0, .int .i64 0, .slice none 0 0] 50) := ⟨_, rfl⟩
 have B0 : Below w.heap.size w W := by rw [hW]; exact (((Below.refl _ _).alloc (Nat.le_refl _) _).alloc (by simp) _).alloc (by simp; omega) _
 have x0 : zt W w.heap.size 41 #[.slice a1 L c1, .slice a2 n c2, .slice aw ws.length cw, .int .i64 smz, .int .i64 toh, .int .i64 top, .bool cyc, .int .i64 sn, .int .i64 old, .int .i64 cpz, .int .i64 sr, .slice ar rs.length cr, .bool fa, .bool de, .bool sh, .int .i64 st, .int .i64 et, .int .i64 en, .int .i64 sp, .slice ao m co] := by rw [hW]; exact ((zt.new _ _ _).alloc _).alloc _
 have x1 : zt W (w.heap.size + 1) 50 #[.slice none 0 0, .slice none 0 0, .slice none 0 0, .int .i64 0, .int .i64 0, .int .i64 0, .bool false, .int .i64 0, .int .i64 0, .int .i64 0, .int .i64 0, .slice none 0 0, .bool false, .bool false, .bool false, .int .i64 0, .int .i64 0, .int .i64 0, .int .i64 0, .slice none 0 0] := by rw [hW]; exact zt.alloc (by have := zt.new (w.alloc (.cells #[.slice a1 L c1, .slice a2 n c2, .slice aw ws.length cw, .int .i64 smz, .int .i64 toh, .int .i64 top, .bool cyc, .int .i64 sn, .int .i64 old, .int .i64 cpz, .int .i64 sr, .slice ar rs.length cr, .bool fa, .bool de, .bool sh, .int .i64 st, .int .i64 et, .int .i64 en, .int .i64 sp, .slice ao m co] 41)) 50 #[.slice none 0 0, .slice none 0 0, .slice none 0 0, .int .i64 0, .int .i64 0, .int .i64 0, .bool false, .int .i64 0, .int .i64 0, .int .i64 0, .int .i64 0, .slice none 0 0, .bool false, .bool false, .bool false, .int .i64 0, .int .i64 0, .int .i64 0, .int .i64 0, .slice none 0 0]; simpa using this) _
 have x2 : zt W (w.heap.size + 1 + 1) 50 #[.slice none 0 0, .slice none 0 0, .slice none 0 0, .int .i64 0, .int .i64 0, .int .i64 0, .bool false, .int .i64 0, .int .i64 0, .int .i64 0, .int .i64 0, .slice none 0 0, .bool false, .bool false, .bool false, .int .i64 0, .int .i64 0, .int .i64 0, .int .i64 0, .slice none 0 0] := by rw [hW]; have := zt.new ((w.alloc (.cells #[.slice a1 L c1, .slice a2 n c2, .slice aw ws.length cw, .int .i64 smz, .int .i64 toh, .int .i64 top, .bool cyc, .int .i64 sn, .int .i64 old, .int .i64 cpz, .int .i64 sr, .slice ar rs.length cr, .bool fa, .bool de, .bool sh, .int .i64 st, .int .i64 et, .int .i64 en, .int .i64 sp, .slice ao m co] 41)).alloc (.cells #[.slice none 0 0, .slice none 0 0, .slice none 0 0, .int .i64 0, .int .i64 0, .int .i64 0, .bool false, .int .i64 0, .int .i64 0, .int .i64 0, .int .i64 0, .slice none 0 0, .bool false, .bool false, .bool false, .int .i64 0, .int .i64 0, .int .i64 0, .int .i64 0, .slice none 0 0] 50)) 50 #[.slice none 0 0, .slice none 0 0, .slice none 0 0, .int .i64 0, .int .i64 0, .int .i64 0, .bool false, .int .i64 0, .int .i64 0, .int .i64 0, .int .i64 0, .slice none 0 0, .bool false, .bool false, .bool false, .int .i64 0, .int .i64 0, .int .i64 0, .int .i64 0, .slice none 0 0]; simpa using this
 have zW : W.heap.size = w.heap.size + 1 + 1 + 1 := by rw [hW]; simp
 have ZW : Hid (W.heap.size = w.heap.size + 1 + 1 + 1) := zW
 rw [<- hW]
 clear hW
 refine (zmd a1 L c1 a2 n c2 X s w.heap.size W ((HS.out.below B0).md.mono (Nat.le_refl _) |> fun q => HS.out.md.below B0 (Nat.le_refl _)) B0.size hL hn HX.out).mono ?_
 rintro e w1 ⟨b1, b2, rfl, o1, l2, r1, d1⟩
 have B1 := zc B0 d1
 have X0 := x0.below d1 (by omega)
 have X1 := x1.below d1 (by omega)
 have X2 := x2.below d1 (by omega)
 have k0 := X0.cell
 have k2 := X2.cell
 have f2 := X2.frozen
 have zw1 : W.heap.size <= w1.heap.size := d1.size
 have HM : Hid (PtO W.heap.size w1 (.slice (some ⟨b1, 0, none⟩) L L) L X) := o1
 have HR : Hid (w1.rowIs b2 9 n (fun i => .string (s i))) := r1
 have HL2 : Hid (W.heap.size <= b2) := l2
 have lt0 : w.heap.size < w1.heap.size := by omega
 have lt1 : w.heap.size + 1 < w1.heap.size := by omega
 have lt2 : w.heap.size + 1 + 1 < w1.heap.size := by omega
 clear o1 r1 l2 d1 x0 x1 x2 B0 zW
 go_wp2_with fail
 obtain ⟨V, hV⟩ : ∃ V, V = (w1.setCell ⟨w.heap.size + 1 + 1, 0, none⟩ (.slice (some ⟨b1, 0, none⟩) L L)).setCell ⟨w.heap.size + 1 + 1, 1, none⟩ (.slice (some ⟨b2, 0, none⟩) n n) := ⟨_, rfl⟩
 have BV : Below w.heap.size w V := by rw [hV]; exact (B1.setCell (by show w.heap.size <= w.heap.size + 1 + 1; omega) _).setCell (by show w.heap.size <= w.heap.size + 1 + 1; omega) _
 have AV : Hid (zz (w.heap.size + 1) (w.heap.size + 1 + 1 + 1) w1 V) := by rw [hV]; exact (zes w1 (by omega) (by omega) _ _).trans (zes _ (by omega) (by omega) _ _)
 have Y0 : zt V w.heap.size 41 #[.slice a1 L c1, .slice a2 n c2, .slice aw ws.length cw, .int .i64 smz, .int .i64 toh, .int .i64 top, .bool cyc, .int .i64 sn, .int .i64 old, .int .i64 cpz, .int .i64 sr, .slice ar rs.length cr, .bool fa, .bool de, .bool sh, .int .i64 st, .int .i64 et, .int .i64 en, .int .i64 sp, .slice ao m co] := by rw [hV]; exact (X0.other (by omega) _ _).other (by omega) _ _
 have Y1 : zt V (w.heap.size + 1) 50 #[.slice none 0 0, .slice none 0 0, .slice none 0 0, .int .i64 0, .int .i64 0, .int .i64 0, .bool false, .int .i64 0, .int .i64 0, .int .i64 0, .int .i64 0, .slice none 0 0, .bool false, .bool false, .bool false, .int .i64 0, .int .i64 0, .int .i64 0, .int .i64 0, .slice none 0 0] := by rw [hV]; exact (X1.other (by omega) _ _).other (by omega) _ _
 have Y2 : zt V (w.heap.size + 1 + 1) 50 #[.slice (some ⟨b1, 0, none⟩) L L, .slice (some ⟨b2, 0, none⟩) n n, .slice none 0 0, .int .i64 0, .int .i64 0, .int .i64 0, .bool false, .int .i64 0, .int .i64 0, .int .i64 0, .int .i64 0, .slice none 0 0, .bool false, .bool false, .bool false, .int .i64 0, .int .i64 0, .int .i64 0, .int .i64 0, .slice none 0 0] := by rw [hV]; exact zt.cast ((X2.set _ _).set _ _) (by kernel_rfl)
 have zV : V.heap.size = w1.heap.size := by rw [hV]; simp
 have ZV : Hid (V.heap.size = w1.heap.size) := zV
 rw [<- hV]
 clear hV X0 X1 X2 k0 k2 f2 B1
 refine (zog aw cw ws smz toh top cyc sn old cpz sr ar cr rs y w.heap.size V (HS.out.wd.below BV) hws (HS.out.rt.below BV (Nat.le_refl _)) hrs).mono ?_
 rintro e w2 ⟨b3, b4, rfl, o2, d2⟩
 have B2 := zc BV d2
 have X0 := Y0.below d2 (by omega)
 have X1 := Y1.below d2 (by omega)
 have X2 := Y2.below d2 (by omega)
 have k0 := X0.cell
 have k2 := X2.cell
 have f2 := X2.frozen
 have zw2 : V.heap.size <= w2.heap.size := d2.size
 have HA : Hid (ze8 V.heap.size w2.heap.size w2 (.slice (some ⟨b3, 0, none⟩) ws.length ws.length) (.slice (some ⟨b4, 0, none⟩) rs.length rs.length) ws.length rs.length (za ws) y) := o2
 have A2 : Hid (zz (w.heap.size + 1) (w.heap.size + 1 + 1 + 1) w1 w2) := AV.out.trans (zaf d2 (Nat.le_refl _) _ _)
 have mt0 : w.heap.size < w2.heap.size := by omega
 have mt1 : w.heap.size + 1 < w2.heap.size := by omega
 have mt2 : w.heap.size + 1 + 1 < w2.heap.size := by omega
 clear o2 d2 Y0 Y1 Y2 BV AV lt0 lt1 lt2 zV
 go_wp2_with fail
 obtain ⟨V2, hV2⟩ : ∃ V, V = ((((((((((((((w2.setCell ⟨w.heap.size + 1 + 1, 2, none⟩ (.slice (some ⟨b3, 0, none⟩) ws.length ws.length)).setCell ⟨w.heap.size + 1 + 1, 3, none⟩ (.int .i64 smz)).setCell ⟨w.heap.size + 1 + 1, 4, none⟩ (.int .i64 toh)).setCell ⟨w.heap.size + 1 + 1, 5, none⟩ (.int .i64 top)).setCell ⟨w.heap.size + 1 + 1, 6, none⟩ (.bool cyc)).setCell ⟨w.heap.size + 1 + 1, 7, none⟩ (.int .i64 sn)).setCell ⟨w.heap.size + 1 + 1, 8, none⟩ (.int .i64 old)).setCell ⟨w.heap.size + 1 + 1, 9, none⟩ (.int .i64 cpz)).setCell ⟨w.heap.size + 1 + 1, 10, none⟩ (.int .i64 sr)).setCell ⟨w.heap.size + 1 + 1, 11, none⟩ (.slice (some ⟨b4, 0, none⟩) rs.length rs.length)).setCell ⟨w.heap.size + 1 + 1, 12, none⟩ (.bool fa)).setCell ⟨w.heap.size + 1 + 1, 13, none⟩ (.bool de)).setCell ⟨w.heap.size + 1 + 1, 14, none⟩ (.bool sh)).setCell ⟨w.heap.size + 1 + 1, 15, none⟩ (.int .i64 st)) := ⟨_, rfl⟩
 have BV : Below w.heap.size w V2 := by
  rw [hV2]
  iterate 14 refine Below.setCell ?_ (by show w.heap.size <= w.heap.size + 1 + 1; omega) _
  exact B2
 have AV : Hid (zz (w.heap.size + 1) (w.heap.size + 1 + 1 + 1) w2 V2) := by
  rw [hV2]
  iterate 14 refine zz.trans ?_ (zes _ (by omega) (by omega) _ _)
  exact zz.refl _ _ _
 have Y0 : zt V2 w.heap.size 41 #[.slice a1 L c1, .slice a2 n c2, .slice aw ws.length cw, .int .i64 smz, .int .i64 toh, .int .i64 top, .bool cyc, .int .i64 sn, .int .i64 old, .int .i64 cpz, .int .i64 sr, .slice ar rs.length cr, .bool fa, .bool de, .bool sh, .int .i64 st, .int .i64 et, .int .i64 en, .int .i64 sp, .slice ao m co] := by
  rw [hV2]
  iterate 14 refine zt.other ?_ (by omega) _ _
  exact X0
 have Y1 : zt V2 (w.heap.size + 1) 50 #[.slice none 0 0, .slice none 0 0, .slice none 0 0, .int .i64 0, .int .i64 0, .int .i64 0, .bool false, .int .i64 0, .int .i64 0, .int .i64 0, .int .i64 0, .slice none 0 0, .bool false, .bool false, .bool false, .int .i64 0, .int .i64 0, .int .i64 0, .int .i64 0, .slice none 0 0] := by
  rw [hV2]
  iterate 14 refine zt.other ?_ (by omega) _ _
  exact X1
 have Y2 : zt V2 (w.heap.size + 1 + 1) 50 #[.slice (some ⟨b1, 0, none⟩) L L, .slice (some ⟨b2, 0, none⟩) n n, .slice (some ⟨b3, 0, none⟩) ws.length ws.length, .int .i64 smz, .int .i64 toh, .int .i64 top, .bool cyc, .int .i64 sn, .int .i64 old, .int .i64 cpz, .int .i64 sr, .slice (some ⟨b4, 0, none⟩) rs.length rs.length, .bool fa, .bool de, .bool sh, .int .i64 st, .int .i64 0, .int .i64 0, .int .i64 0, .slice none 0 0] := by
  rw [hV2]
  exact zt.cast (((((((((((((((X2).set _ _).set _ _).set _ _).set _ _).set _ _).set _ _).set _ _).set _ _).set _ _).set _ _).set _ _).set _ _).set _ _).set _ _) (by kernel_rfl)
 have zV2 : V2.heap.size = w2.heap.size := by rw [hV2]; simp
 rw [<- hV2]
 clear hV2 X0 X1 X2 k0 k2 f2 B2
 refine (zk9 et en V2).mono ?_
 rintro e w3 ⟨rfl, d3⟩
 have B3 := zc BV d3
 have X0 := Y0.below d3 (by omega)
 have X1 := Y1.below d3 (by omega)
 have X2 := Y2.below d3 (by omega)
 have k0 := X0.cell
 have k2 := X2.cell
 have f2 := X2.frozen
 have zw3 : V2.heap.size <= w3.heap.size := d3.size
 have A3 : Hid (zz (w.heap.size + 1) (w.heap.size + 1 + 1 + 1) w2 w3) := AV.out.trans (zaf d3 (Nat.le_refl _) _ _)
 have nt0 : w.heap.size < w3.heap.size := by omega
 have nt1 : w.heap.size + 1 < w3.heap.size := by omega
 have nt2 : w.heap.size + 1 + 1 < w3.heap.size := by omega
 clear d3 Y0 Y1 Y2 BV AV mt0 mt1 mt2
 go_wp2_with fail
 obtain ⟨V3, hV3⟩ : ∃ V, V = (((w3.setCell ⟨w.heap.size + 1 + 1, 16, none⟩ (.int .i64 et)).setCell ⟨w.heap.size + 1 + 1, 17, none⟩ (.int .i64 en)).setCell ⟨w.heap.size + 1 + 1, 18, none⟩ (.int .i64 sp)) := ⟨_, rfl⟩
 have BV : Below w.heap.size w V3 := by
  rw [hV3]
  iterate 3 refine Below.setCell ?_ (by show w.heap.size <= w.heap.size + 1 + 1; omega) _
  exact B3
 have AV : Hid (zz (w.heap.size + 1) (w.heap.size + 1 + 1 + 1) w3 V3) := by
  rw [hV3]
  iterate 3 refine zz.trans ?_ (zes _ (by omega) (by omega) _ _)
  exact zz.refl _ _ _
 have Y1 : zt V3 (w.heap.size + 1) 50 #[.slice none 0 0, .slice none 0 0, .slice none 0 0, .int .i64 0, .int .i64 0, .int .i64 0, .bool false, .int .i64 0, .int .i64 0, .int .i64 0, .int .i64 0, .slice none 0 0, .bool false, .bool false, .bool false, .int .i64 0, .int .i64 0, .int .i64 0, .int .i64 0, .slice none 0 0] := by
  rw [hV3]
  iterate 3 refine zt.other ?_ (by omega) _ _
  exact X1
 have Y2 : zt V3 (w.heap.size + 1 + 1) 50 #[.slice (some ⟨b1, 0, none⟩) L L, .slice (some ⟨b2, 0, none⟩) n n, .slice (some ⟨b3, 0, none⟩) ws.length ws.length, .int .i64 smz, .int .i64 toh, .int .i64 top, .bool cyc, .int .i64 sn, .int .i64 old, .int .i64 cpz, .int .i64 sr, .slice (some ⟨b4, 0, none⟩) rs.length rs.length, .bool fa, .bool de, .bool sh, .int .i64 st, .int .i64 et, .int .i64 en, .int .i64 sp, .slice none 0 0] := by
  rw [hV3]
  exact zt.cast (((X2.set _ _).set _ _).set _ _) (by kernel_rfl)
 have zV3 : V3.heap.size = w3.heap.size := by rw [hV3]; simp
 rw [<- hV3]
 clear hV3 X0 X1 X2 k0 k2 f2 B3
 refine (zh4 ao m co u w.heap.size V3 (HS.out.ot.below BV (Nat.le_refl _)) hm).mono ?_
 rintro e w4 ⟨rfl, r4, d4⟩
 have B4 := zc BV d4
 have X1 := Y1.below d4 (by omega)
 have X2 := Y2.below d4 (by omega)
 have k1 := X1.cell
 have k2 := X2.cell
 have f1 := X1.frozen
 have f2 := X2.frozen
 have zw4 : V3.heap.size <= w4.heap.size := d4.size
 have A4 : Hid (zz (w.heap.size + 1) (w.heap.size + 1 + 1 + 1) w3 w4) := AV.out.trans (zaf d4 (Nat.le_refl _) _ _)
 have HO : Hid (w4.rowIs V3.heap.size 9 m (fun i => .string (u i))) := r4
 have pt1 : w.heap.size + 1 < w4.heap.size := by omega
 have pt2 : w.heap.size + 1 + 1 < w4.heap.size := by omega
 have pn : w.heap.size + 1 ≠ w.heap.size + 1 + 1 := by omega
 have lb5 : Hid (w.heap.size + 1 + 1 + 1 <= V3.heap.size) := by show _ <= _; omega
 clear d4 Y1 Y2 BV AV nt0 nt1 nt2 r4 HS HX zV3 zV2
 go_upto_region 11 with fail
 obtain ⟨U4, hU4⟩ : ∃ V, V = w4.setCell ⟨w.heap.size + 1 + 1, 19, none⟩ (.slice (some ⟨V3.heap.size, 0, none⟩) m m) := ⟨_, rfl⟩
 have BU : Hid (Below w.heap.size w U4) := by rw [hU4]; exact Below.setCell B4 (by show w.heap.size <= w.heap.size + 1 + 1; omega) _
 have AU : Hid (zz (w.heap.size + 1) (w.heap.size + 1 + 1 + 1) w4 U4) := by rw [hU4]; exact zes _ (by omega) (by omega) _ _
 have U1 : zt U4 (w.heap.size + 1) 50 #[.slice none 0 0, .slice none 0 0, .slice none 0 0, .int .i64 0, .int .i64 0, .int .i64 0, .bool false, .int .i64 0, .int .i64 0, .int .i64 0, .int .i64 0, .slice none 0 0, .bool false, .bool false, .bool false, .int .i64 0, .int .i64 0, .int .i64 0, .int .i64 0, .slice none 0 0] := by rw [hU4]; exact X1.other pn _ _
 have U2 : zt U4 (w.heap.size + 1 + 1) 50 #[.slice (some ⟨b1, 0, none⟩) L L, .slice (some ⟨b2, 0, none⟩) n n, .slice (some ⟨b3, 0, none⟩) ws.length ws.length, .int .i64 smz, .int .i64 toh, .int .i64 top, .bool cyc, .int .i64 sn, .int .i64 old, .int .i64 cpz, .int .i64 sr, .slice (some ⟨b4, 0, none⟩) rs.length rs.length, .bool fa, .bool de, .bool sh, .int .i64 st, .int .i64 et, .int .i64 en, .int .i64 sp, .slice (some ⟨V3.heap.size, 0, none⟩) m m] := by rw [hU4]; exact zt.cast (X2.set _ _) (by kernel_rfl)
 have zU : U4.heap.size = w4.heap.size := by rw [hU4]; simp
 have pu1 : w.heap.size + 1 < U4.heap.size := by omega
 have pu2 : w.heap.size + 1 + 1 < U4.heap.size := by omega
 rw [<- hU4]
 clear hU4 X1 X2 k1 k2 f1 f2 zU pt1 pt2 B4
 have HLD := zgs rfl U2.cell
 have HST := zpt (A := #[.slice (some ⟨b1, 0, none⟩) L L, .slice (some ⟨b2, 0, none⟩) n n, .slice (some ⟨b3, 0, none⟩) ws.length ws.length, .int .i64 smz, .int .i64 toh, .int .i64 top, .bool cyc, .int .i64 sn, .int .i64 old, .int .i64 cpz, .int .i64 sr, .slice (some ⟨b4, 0, none⟩) rs.length rs.length, .bool fa, .bool de, .bool sh, .int .i64 st, .int .i64 et, .int .i64 en, .int .i64 sp, .slice (some ⟨V3.heap.size, 0, none⟩) m m]) rfl rfl (by simp [Value.oneCell']) U1
 go_wp2_with (first | refine zbw rfl _ _ rfl _ HLD ?_ | refine zga rfl _ _ _ rfl HST ?_)
 obtain ⟨V4, hV4⟩ : ∃ V, V = U4.setRow (w.heap.size + 1) #[.slice (some ⟨b1, 0, none⟩) L L, .slice (some ⟨b2, 0, none⟩) n n, .slice (some ⟨b3, 0, none⟩) ws.length ws.length, .int .i64 smz, .int .i64 toh, .int .i64 top, .bool cyc, .int .i64 sn, .int .i64 old, .int .i64 cpz, .int .i64 sr, .slice (some ⟨b4, 0, none⟩) rs.length rs.length, .bool fa, .bool de, .bool sh, .int .i64 st, .int .i64 et, .int .i64 en, .int .i64 sp, .slice (some ⟨V3.heap.size, 0, none⟩) m m] := ⟨_, rfl⟩
 have BV : Below w.heap.size w V4 := by rw [hV4]; exact zk3 _ BU.out (by omega)
 have AV : Hid (zz (w.heap.size + 1) (w.heap.size + 1 + 1 + 1) w4 V4) := by rw [hV4]; exact AU.out.trans (zsr _ (by omega) (by omega))
 have Y1 : zt V4 (w.heap.size + 1) 50 #[.slice (some ⟨b1, 0, none⟩) L L, .slice (some ⟨b2, 0, none⟩) n n, .slice (some ⟨b3, 0, none⟩) ws.length ws.length, .int .i64 smz, .int .i64 toh, .int .i64 top, .bool cyc, .int .i64 sn, .int .i64 old, .int .i64 cpz, .int .i64 sr, .slice (some ⟨b4, 0, none⟩) rs.length rs.length, .bool fa, .bool de, .bool sh, .int .i64 st, .int .i64 et, .int .i64 en, .int .i64 sp, .slice (some ⟨V3.heap.size, 0, none⟩) m m] := by rw [hV4]; exact U1.row _
 rw [<- hV4]
 have q1 := Y1.cell
 refine bodyPost_ret (v := .agg #[.slice (some ⟨b1, 0, none⟩) L L, .slice (some ⟨b2, 0, none⟩) n n, .slice (some ⟨b3, 0, none⟩) ws.length ws.length, .int .i64 smz, .int .i64 toh, .int .i64 top, .bool cyc, .int .i64 sn, .int .i64 old, .int .i64 cpz, .int .i64 sr, .slice (some ⟨b4, 0, none⟩) rs.length rs.length, .bool fa, .bool de, .bool sh, .int .i64 st, .int .i64 et, .int .i64 en, .int .i64 sp, .slice (some ⟨V3.heap.size, 0, none⟩) m m]) (zx0 rfl q1 rfl) rfl ⟨b1, b2, b3, b4, V3.heap.size, rfl, ?_, BV⟩
 have hz := ZW.out
 have hzv := ZV.out
 have hl2 := HL2.out
 have hl5 := lb5.out
 have A24 := (A3.out.trans A4.out).trans AV.out
 have hA := zoh HA.out A24 (by omega)
 have hA' := zuu hA
 have hM := HM.out.apart (A2.out.trans A24) (by omega)
 have hR := ziu HR.out (A2.out.trans A24) (by omega)
 have hO := ziu HO.out AV.out hl5
 exact ⟨⟨hM.ptF, zij hR⟩, hA'.1, hA'.2.here, zij hO⟩
theorem zhp (aw : Option Addr) (n cw : Nat) (smz toh top : Int) (cyc : Bool) (sn old cpz sr : Int) (ar : Option Addr) (m cr : Nat) (left : Int) (w : World) (l0 : 0 <= left) (l1 : left <= 1048576) (hn : n <= 9223372036854775807) (hm : m <= 9223372036854775807) :
 Calls Tryz.prog 10 #[.agg #[.slice aw n cw, .int .i64 smz, .int .i64 toh, .int .i64 top, .bool cyc, .int .i64 sn, .int .i64 old, .int .i64 cpz, .int .i64 sr, .slice ar m cr], .int .i64 left] w fun e w' => e = .returned (.int .i64 (if (n : Int) + m <= left then left - n - m else -1)) /\ Below w.heap.size w w' := by
 by_cases h1 : (n : Int) <= left
 · by_cases h2 : (n : Int) + m <= left
   · have g1 : ¬ (left - (n : Int)) < 0 := by omega
     have g2 : ¬ (left - (n : Int) - m) < 0 := by omega
     have e1 : (if (m : Int) <= left - (n : Int) then left - (n : Int) - m else -1) = left - (n : Int) - m := if_pos (by omega)
     rw [if_pos h2]
     go_enter Tryz.func10, Tryz.ntmps10
     go_wp2_with (first | (go_at_call 39; refine (zgk _ _ _ _ _ (by omega) (by omega) hn).mono ?_; rw [if_pos h1]; rintro e w1 ⟨rfl, rfl⟩) | (go_at_call 40; refine (zjm _ _ _ _ _ (by omega) (by omega) hm).mono ?_; rw [e1]; rintro e w2 ⟨rfl, rfl⟩))
     go_ret
     exact ⟨rfl, zd (Below.refl _ _)⟩
   · have g1 : ¬ (left - (n : Int)) < 0 := by omega
     have e1 : (if (m : Int) <= left - (n : Int) then left - (n : Int) - m else -1) = -1 := if_neg (by omega)
     rw [if_neg h2]
     go_enter Tryz.func10, Tryz.ntmps10
     go_wp2_with (first | (go_at_call 39; refine (zgk _ _ _ _ _ (by omega) (by omega) hn).mono ?_; rw [if_pos h1]; rintro e w1 ⟨rfl, rfl⟩) | (go_at_call 40; refine (zjm _ _ _ _ _ (by omega) (by omega) hm).mono ?_; rw [e1]; rintro e w2 ⟨rfl, rfl⟩))
     go_ret
     exact ⟨rfl, zd (Below.refl _ _)⟩
 · have h2 : ¬ (n : Int) + m <= left := by omega
   rw [if_neg h2]
   go_enter Tryz.func10, Tryz.ntmps10
   go_wp2_with (first | (go_at_call 39; refine (zgk _ _ _ _ _ (by omega) (by omega) hn).mono ?_; rw [if_neg h1]; rintro e w1 ⟨rfl, rfl⟩))
   go_ret
   exact ⟨rfl, zd (Below.refl _ _)⟩
set_option maxHeartbeats 2000000 in
theorem zln (a1 : Option Addr) (L c1 : Nat) (a2 : Option Addr) (n c2 : Nat) (aw : Option Addr) (cw : Nat) (ws : List Int) (smz toh top : Int) (cyc : Bool) (sn old cpz sr : Int) (ar : Option Addr) (cr : Nat) (rs : List (Int × Int)) (fa de sh : Bool) (st et en sp : Int) (ao : Option Addr) (m co : Nat) (X : Nat -> PtD) (s : Nat -> ByteArray) (y : Nat -> Int) (u : Nat -> ByteArray) (w : World) (h : McF w (.slice a1 L c1) (.slice a2 n c2) (.slice aw ws.length cw) (.slice ar rs.length cr) (.slice ao m co) L X n s ws rs.length y m u) (g1 : L <= 9223372036854775807) (g2 : n <= 9223372036854775807) (g3 : ∀ j, j < L -> PLr (X j)) (g4 : ∀ j, j < n -> (s j).size <= 9223372036854775807) (g5 : ws.length <= 9223372036854775807) (g6 : rs.length <= 9223372036854775807) (g7 : m <= 9223372036854775807) (g8 : ∀ j, j < m -> (u j).size <= 9223372036854775807) :
 Calls Tryz.prog 15 #[.agg #[.slice a1 L c1, .slice a2 n c2, .slice aw ws.length cw, .int .i64 smz, .int .i64 toh, .int .i64 top, .bool cyc, .int .i64 sn, .int .i64 old, .int .i64 cpz, .int .i64 sr, .slice ar rs.length cr, .bool fa, .bool de, .bool sh, .int .i64 st, .int .i64 et, .int .i64 en, .int .i64 sp, .slice ao m co], .int .i64 1048576] w fun e w' => ∃ r : Int, e = .returned (.int .i64 r) /\ (r = -1 \/ 0 <= r /\ L <= 1048576 /\ n <= 1048576 /\ (∀ j, j < L -> PLe (X j) 1048576) /\ ws.length <= 1048576 /\ rs.length <= 1048576 /\ m <= 1048576) /\ Below w.heap.size w w' := by
 have B0 : Below w.heap.size w (w.alloc (.cells #[.slice a1 L c1, .slice a2 n c2, .slice aw ws.length cw, .int .i64 smz, .int .i64 toh, .int .i64 top, .bool cyc, .int .i64 sn, .int .i64 old, .int .i64 cpz, .int .i64 sr, .slice ar rs.length cr, .bool fa, .bool de, .bool sh, .int .i64 st, .int .i64 et, .int .i64 en, .int .i64 sp, .slice ao m co] 41)) := (Below.refl _ _).alloc (Nat.le_refl _) _
 have HZ1 : Hid (Calls _ _ _ _ _) := zn1 a1 L c1 X a2 n c2 s w.heap.size 1048576 _ (h.md.1.below B0 (Nat.le_refl _)) (h.md.2.below B0 (Nat.le_refl _)) B0.size (by omega) (by omega) g1 (fun j hj => (g3 j hj).1) g2 g4
 have HO : Hid (TxF w.heap.size w (.slice ao m co) m u) := h.ot
 have G8 : Hid (∀ j, j < m -> (u j).size <= 9223372036854775807) := g8
 clear h g3 g4 g8
 go_enter Tryz.func15, Tryz.ntmps15
 go_wp2_with fail
 refine HZ1.out.mono ?_
 rintro e w1 ⟨r, rfl, hr, b1⟩
 have X0 := (zt.new w 41 #[.slice a1 L c1, .slice a2 n c2, .slice aw ws.length cw, .int .i64 smz, .int .i64 toh, .int .i64 top, .bool cyc, .int .i64 sn, .int .i64 old, .int .i64 cpz, .int .i64 sr, .slice ar rs.length cr, .bool fa, .bool de, .bool sh, .int .i64 st, .int .i64 et, .int .i64 en, .int .i64 sp, .slice ao m co]).below b1 (by simp)
 have B1 := zc B0 b1
 have k0 := X0.cell
 have z1 := X0.lt
 clear b1 HZ1
 rcases hr with rfl | ⟨r0, r1, l1, l2, l3⟩
 · go_wp2
   go_ret
   exact ⟨-1, rfl, .inl rfl, B1⟩
 have HL : Hid (∀ j, j < L -> PLe (X j) 1048576) := l2
 clear l2
 have r0' : ¬ r < 0 := by omega
 by_cases c1 : (ws.length : Int) + rs.length <= r
 rotate_left
 · have HA : Hid (∀ W, _) := fun W => zhp aw ws.length cw smz toh top cyc sn old cpz sr ar rs.length cr r W r0 (by omega) g5 g6
   rw [if_neg c1] at HA
   go_wp2_with fail
   refine (HA.out _).mono ?_
   rintro e w2 ⟨rfl, b2⟩
   have B2 := zc B1 b2
   go_wp2
   go_ret
   exact ⟨-1, rfl, .inl rfl, B2⟩
 have HA : Hid (∀ W, _) := fun W => zhp aw ws.length cw smz toh top cyc sn old cpz sr ar rs.length cr r W r0 (by omega) g5 g6
 rw [if_pos c1] at HA
 have q0 : 0 <= r - (ws.length : Int) - rs.length := by omega
 have q1 : r - (ws.length : Int) - rs.length <= 1048576 := by omega
 have l4 : ws.length <= 1048576 := by omega
 have l5 : rs.length <= 1048576 := by omega
 generalize r - (ws.length : Int) - rs.length = r2 at HA q0 q1
 have q0' : ¬ r2 < 0 := by omega
 go_wp2_with fail
 refine (HA.out _).mono ?_
 rintro e w2 ⟨rfl, b2⟩
 have B2 := zc B1 b2
 have X2 := X0.below b2 z1
 have k2 := X2.cell
 have HS : Hid (Calls _ _ _ _ _) := zhn ao m co u w.heap.size r2 w2 (HO.out.below B2 (Nat.le_refl _)) q0 q1 g7 G8.out
 clear b2 k0 X0 HA HO G8
 go_wp2_with fail
 refine HS.out.mono ?_
 rintro e w3 ⟨r3, rfl, hr3, e3⟩
 subst e3
 rcases hr3 with rfl | ⟨s0, s1, s2, _⟩
 · go_wp2
   go_ret
   exact ⟨-1, rfl, .inl rfl, B2⟩
 have s0' : ¬ r3 < 0 := by omega
 go_wp2
 go_ret
 exact ⟨r3, rfl, .inr ⟨s0, l1, l3, HL.out, l4, l5, s2⟩, B2⟩
set_option maxHeartbeats 4000000 in
theorem zko (L n m : Nat) (ws : List Int) (smz toh top : Int) (cyc : Bool) (sn old cpz sr : Int) (rs : List (Int × Int)) (fa de sh : Bool) (st et en sp : Int) (X : Nat -> PtD) (s : Nat -> ByteArray) (y : Nat -> Int) (u : Nat -> ByteArray) (p1 p2 p3 p4 p5 : Option Addr) (pc1 pc2 pc3 pc4 pc5 : Nat) (q1 q2 q3 q4 q5 : Option Addr) (qc1 qc2 qc3 qc4 qc5 : Nat)  (w : World) (h1 : McF w (.slice p1 L pc1) (.slice p2 n pc2) (.slice p3 ws.length pc3) (.slice p4 rs.length pc4) (.slice p5 m pc5) L X n s ws rs.length y m u) (h2 : McF w (.slice q1 L qc1) (.slice q2 n qc2) (.slice q3 ws.length qc3) (.slice q4 rs.length qc4) (.slice q5 m qc5) L X n s ws rs.length y m u) (hL : L <= 1048576) (hn : n <= 1048576) (hX : ∀ j, j < L -> PLe (X j) 1048576) (hws : ws.length <= 1048576) (hrs : rs.length <= 1048576) (hm : m <= 1048576) :
 Calls Tryz.prog 19 #[.agg #[.slice p1 L pc1, .slice p2 n pc2, .slice p3 ws.length pc3, .int .i64 smz, .int .i64 toh, .int .i64 top, .bool cyc, .int .i64 sn, .int .i64 old, .int .i64 cpz, .int .i64 sr, .slice p4 rs.length pc4, .bool fa, .bool de, .bool sh, .int .i64 st, .int .i64 et, .int .i64 en, .int .i64 sp, .slice p5 m pc5], .agg #[.slice q1 L qc1, .slice q2 n qc2, .slice q3 ws.length qc3, .int .i64 smz, .int .i64 toh, .int .i64 top, .bool cyc, .int .i64 sn, .int .i64 old, .int .i64 cpz, .int .i64 sr, .slice q4 rs.length qc4, .bool fa, .bool de, .bool sh, .int .i64 st, .int .i64 et, .int .i64 en, .int .i64 sp, .slice q5 m qc5]] w fun e w' => e = .returned (.bool true) /\ Below w.heap.size w w' := by
 have H1 : Hid (McF w (.slice p1 L pc1) (.slice p2 n pc2) (.slice p3 ws.length pc3) (.slice p4 rs.length pc4) (.slice p5 m pc5) L X n s ws rs.length y m u) := h1
 have H2 : Hid (McF w (.slice q1 L qc1) (.slice q2 n qc2) (.slice q3 ws.length qc3) (.slice q4 rs.length qc4) (.slice q5 m qc5) L X n s ws rs.length y m u) := h2
 have HX : Hid (∀ j, j < L -> PLe (X j) 1048576) := hX
 have B0 : Below w.heap.size w ((w.alloc (.cells #[.slice p1 L pc1, .slice p2 n pc2, .slice p3 ws.length pc3, .int .i64 smz, .int .i64 toh, .int .i64 top, .bool cyc, .int .i64 sn, .int .i64 old, .int .i64 cpz, .int .i64 sr, .slice p4 rs.length pc4, .bool fa, .bool de, .bool sh, .int .i64 st, .int .i64 et, .int .i64 en, .int .i64 sp, .slice p5 m pc5] 50)).alloc (.cells #[.slice q1 L qc1, .slice q2 n qc2, .slice q3 ws.length qc3, .int .i64 smz, .int .i64 toh, .int .i64 top, .bool cyc, .int .i64 sn, .int .i64 old, .int .i64 cpz, .int .i64 sr, .slice q4 rs.length qc4, .bool fa, .bool de, .bool sh, .int .i64 st, .int .i64 et, .int .i64 en, .int .i64 sp, .slice q5 m qc5] 50)) := ((Below.refl _ _).alloc (Nat.le_refl _) _).alloc (by simp) _
 clear h1 h2 hX
 go_enter Tryz.func19, Tryz.ntmps19
 go_wp2_with fail
 obtain ⟨W, hW⟩ : ∃ W, W = (w.alloc (.cells #[.slice p1 L pc1, .slice p2 n pc2, .slice p3 ws.length pc3, .int .i64 smz, .int .i64 toh, .int .i64 top, .bool cyc, .int .i64 sn, .int .i64 old, .int .i64 cpz, .int .i64 sr, .slice p4 rs.length pc4, .bool fa, .bool de, .bool sh, .int .i64 st, .int .i64 et, .int .i64 en, .int .i64 sp, .slice p5 m pc5] 50)).alloc (.cells #[.slice q1 L qc1, .slice q2 n qc2, .slice q3 ws.length qc3, .int .i64 smz, .int .i64 toh, .int .i64 top, .bool cyc, .int .i64 sn, .int .i64 old, .int .i64 cpz, .int .i64 sr, .slice q4 rs.length qc4, .bool fa, .bool de, .bool sh, .int .i64 st, .int .i64 et, .int .i64 en, .int .i64 sp, .slice q5 m qc5] 50) := ⟨_, rfl⟩
 have x0 : zt W w.heap.size 50 #[.slice p1 L pc1, .slice p2 n pc2, .slice p3 ws.length pc3, .int .i64 smz, .int .i64 toh, .int .i64 top, .bool cyc, .int .i64 sn, .int .i64 old, .int .i64 cpz, .int .i64 sr, .slice p4 rs.length pc4, .bool fa, .bool de, .bool sh, .int .i64 st, .int .i64 et, .int .i64 en, .int .i64 sp, .slice p5 m pc5] := by rw [hW]; exact (zt.new _ _ _).alloc _
 have x1 : zt W (w.heap.size + 1) 50 #[.slice q1 L qc1, .slice q2 n qc2, .slice q3 ws.length qc3, .int .i64 smz, .int .i64 toh, .int .i64 top, .bool cyc, .int .i64 sn, .int .i64 old, .int .i64 cpz, .int .i64 sr, .slice q4 rs.length qc4, .bool fa, .bool de, .bool sh, .int .i64 st, .int .i64 et, .int .i64 en, .int .i64 sp, .slice q5 m qc5] := by rw [hW]; have := zt.new (w.alloc (.cells #[.slice p1 L pc1, .slice p2 n pc2, .slice p3 ws.length pc3, .int .i64 smz, .int .i64 toh, .int .i64 top, .bool cyc, .int .i64 sn, .int .i64 old, .int .i64 cpz, .int .i64 sr, .slice p4 rs.length pc4, .bool fa, .bool de, .bool sh, .int .i64 st, .int .i64 et, .int .i64 en, .int .i64 sp, .slice p5 m pc5] 50)) 50 #[.slice q1 L qc1, .slice q2 n qc2, .slice q3 ws.length qc3, .int .i64 smz, .int .i64 toh, .int .i64 top, .bool cyc, .int .i64 sn, .int .i64 old, .int .i64 cpz, .int .i64 sr, .slice q4 rs.length qc4, .bool fa, .bool de, .bool sh, .int .i64 st, .int .i64 et, .int .i64 en, .int .i64 sp, .slice q5 m qc5]; simpa using this
 have zW : w.heap.size + 1 < W.heap.size := x1.lt
 rw [<- hW] at B0 ⊢
 clear hW
 have P1 := H1.out.below B0
 have P2 := H2.out.below B0
 refine (zl3 _ _ _ _ _ _ _ _ _ _ X s _ _ P1.md P2.md (Nat.le_refl _) hL hn HX.out).mono ?_
 rintro e w1 ⟨rfl, d1⟩
 have B1 := zc B0 d1
 have X0 := x0.below d1 (by omega)
 have X1 := x1.below d1 zW
 have k0 := X0.cell
 have k1 := X1.cell
 have z1 : w.heap.size + 1 < w1.heap.size := X1.lt
 clear d1 x0 x1 zW B0 P1 P2
 go_wp2_with fail
 have P1 := H1.out.below B1
 have P2 := H2.out.below B1
 refine (zmq _ _ _ _ _ _ _ _ ws.length rs.length (za ws) y smz toh top cyc sn old cpz sr w1 (zxl P1.wd) (zxl P2.wd) hws P1.rt P2.rt hrs).mono ?_
 rintro e w2 ⟨rfl, d2⟩
 have B2 := zc B1 d2
 have Y0 := X0.below d2 (by omega)
 have Y1 := X1.below d2 z1
 clear X0 X1 k0 k1
 have k0 := Y0.cell
 have k1 := Y1.cell
 have z2 : w.heap.size + 1 < w2.heap.size := Y1.lt
 clear d2 z1 B1 P1 P2
 go_wp2_with fail
 refine (zjx et en _).mono ?_
 rintro e w3 ⟨rfl, d3⟩
 have B3 := zc B2 d3
 have X0 := Y0.below d3 (by omega)
 have X1 := Y1.below d3 z2
 clear Y0 Y1 k0 k1
 have k0 := X0.cell
 have k1 := X1.cell
 clear d3 z2 B2
 go_wp2_with fail
 have P1 := H1.out.below B3
 have P2 := H2.out.below B3
 refine (zg3 _ _ _ _ m _ _ u w3 P1.ot P2.ot hm).mono ?_
 rintro e w4 ⟨rfl, d4⟩
 have B4 := zc B3 d4
 clear d4 P1 P2
 go_wp2
 go_ret
 exact ⟨rfl, B4⟩
def zem (L : Nat) (X : Nat -> PtD) (n : Nat) (s : Nat -> ByteArray) (ws : List Int) (smz toh top : Int) (cyc : Bool) (sn old cpz sr : Int) (y : Nat -> Int) (k : Nat) (st sp : Int) (m : Nat) : Prop :=
 MOk L X n s /\ zdc ws smz toh top cyc sn old cpz sr y k /\ k = 6 /\ 0 <= st /\ st <= 2 /\ 0 <= sp /\ m <= 200 /\ ∀ i, 1 <= i -> i < 6 -> y (2 * i) = 0
def zmc (k : Nat) (y : Nat -> Int) : Prop := k = 6 /\ ∀ i, 1 <= i -> i < 6 -> y (2 * i) = 0 /\ y (2 * i + 1) = 0
theorem zxk {ws : List Int} {smz toh top : Int} {cyc : Bool} {sn old cpz sr : Int} {y : Nat -> Int} {k : Nat} (h : zdc ws smz toh top cyc sn old cpz sr y k) {i : Nat} (hi : i < k) (h0 : y (2 * i) = 0) : y (2 * i + 1) = 0 := by
 obtain ⟨_, L, O, _, _, _, _, hr⟩ := h
 have := (hr i hi).1
 simp only [vOk, decide_eq_true_eq] at this
 omega
theorem zut {L : Nat} {X : Nat -> PtD} {n : Nat} {s : Nat -> ByteArray} {ws : List Int} {smz toh top : Int} {cyc : Bool} {sn old cpz sr : Int} {y : Nat -> Int} {k : Nat} {st sp : Int} {m : Nat} : zem L X n s ws smz toh top cyc sn old cpz sr y k st sp m ↔ 0 <= st /\ st <= 2 /\ 0 <= sp /\ m <= 200 /\ zmc k y /\ MOk L X n s /\ zdc ws smz toh top cyc sn old cpz sr y k :=
 ⟨fun ⟨h1, h2, h3, h4, h5, h6, h7, h8⟩ => ⟨h4, h5, h6, h7, ⟨h3, fun i i1 i2 => ⟨h8 i i1 i2, zxk h2 (by omega) (h8 i i1 i2)⟩⟩, h1, h2⟩, fun ⟨h4, h5, h6, h7, ⟨h3, h8⟩, h1, h2⟩ => ⟨h1, h2, h3, h4, h5, h6, h7, fun i i1 i2 => (h8 i i1 i2).1⟩⟩
def mvB (t n t' n' : Int) : Bool := t == t' && n == n'
theorem zx8 (t n t' n' : Int) (w : World) : (binOp .eql 48 (.agg #[.int .i64 t, .int .i64 n]) (.agg #[.int .i64 t', .int .i64 n'])).run Tryz.prog w = .ok (.bool (mvB t n t' n')) w := by
 have u3 := Tryz.underlying3
 have a3 := Tryz.isAgg3
 have z3 := Tryz.sizeOf3
 have hS : Tryz.prog.underlying 48 = some (.struct (Tryz.prog.fieldsOf 48)) := by kernel_rfl
 have hp : Tryz.prog.stoodInHeld 48 = false := by kernel_rfl
 rw [run_eql_struct, show (10000 : Nat) = 9999 + 1 from rfl, run_equalIn_agg w 9999 48 _ _ hS hp]
 simp only [Program.fieldsOf, Tryz.underlying48]
 go_simp
 unfold mvB
 by_cases h1 : t = t' <;> by_cases h2 : n = n' <;> simp [h1, h2]
theorem zx9 (t n t' n' : Int) (w : World) : (binOp .neq 48 (.agg #[.int .i64 t, .int .i64 n]) (.agg #[.int .i64 t', .int .i64 n'])).run Tryz.prog w = .ok (.bool (!mvB t n t' n')) w := by
 have h := zx8 t n t' n' w
 rw [run_eql_struct] at h
 rw [run_neq_struct]
 generalize (Op.equalIn 10000 48 (.agg #[.int .i64 t, .int .i64 n]) (.agg #[.int .i64 t', .int .i64 n'])).run Tryz.prog w = r at h
 cases r with
 | ok b w1 =>
   simp only [Result.andThen_ok, Result.ok.injEq, Value.bool.injEq] at h
   obtain ⟨rfl, rfl⟩ := h
   rfl
 | _ => simp [Result.andThen] at h
set_option maxHeartbeats 4000000 in
theorem zkn (a1 : Option Addr) (L c1 : Nat) (a2 : Option Addr) (n c2 : Nat) (aw : Option Addr) (wl cw : Nat) (smz toh top : Int) (cyc : Bool) (sn old cpz sr : Int) (b4 k : Nat) (fa de sh : Bool) (st et en sp : Int) (ao : Option Addr) (m co : Nat) (y : Nat -> Int) (w : World) (hr : SlF w.heap.size w (.slice (some ⟨b4, 0, none⟩) k k) k (2 * k) (fun i => .int .i64 (y i))) (hk : k <= 1048576) :
 Calls Tryz.prog 106 #[.agg #[.slice a1 L c1, .slice a2 n c2, .slice aw wl cw, .int .i64 smz, .int .i64 toh, .int .i64 top, .bool cyc, .int .i64 sn, .int .i64 old, .int .i64 cpz, .int .i64 sr, .slice (some ⟨b4, 0, none⟩) k k, .bool fa, .bool de, .bool sh, .int .i64 st, .int .i64 et, .int .i64 en, .int .i64 sp, .slice ao m co]] w fun e w' => zf7 (zmc k y) w e w' := by
 have B0 : Below w.heap.size w (w.alloc (.cells #[.slice a1 L c1, .slice a2 n c2, .slice aw wl cw, .int .i64 smz, .int .i64 toh, .int .i64 top, .bool cyc, .int .i64 sn, .int .i64 old, .int .i64 cpz, .int .i64 sr, .slice (some ⟨b4, 0, none⟩) k k, .bool fa, .bool de, .bool sh, .int .i64 st, .int .i64 et, .int .i64 en, .int .i64 sp, .slice ao m co] 50)) := (Below.refl _ _).alloc (Nat.le_refl _) _
 have hk' : (k : Int) <= 1048576 := by omega
 have HR : Hid (SlF w.heap.size w (.slice (some ⟨b4, 0, none⟩) k k) k (2 * k) (fun i => .int .i64 (y i))) := hr
 clear hr
 by_cases h6 : k = 6
 rotate_left
 · have h6' : ((k : Int) != 6) = true := by simp; omega
   go_enter Tryz.func106, Tryz.ntmps106
   go_wp2
   go_ret
   exact ⟨false, rfl, ⟨fun h => (by cases h), fun h => absurd h.1 h6⟩, B0⟩
 subst h6
 go_enter Tryz.func106, Tryz.ntmps106
 go_wp2
 go_loopw [15] (fun i wr => ∃ j : Nat, j <= 5 /\ i = .int .i64 j /\ Hid (∀ p, 1 <= p -> p < j + 1 -> y (2 * p) = 0 /\ y (2 * p + 1) = 0) /\ Below w.heap.size w wr) (fun i _ => 5 - (intOf i).toNat)
 case atStart => exact ⟨0, Nat.zero_le _, rfl, fun p h1 h2 => by omega, B0⟩
 case round =>
  obtain ⟨j, hj, rfl, HP, hF⟩ := hrel
  by_cases hlt : j < 5
  · have hlt' : (j : Int) < 5 := by omega
    obtain ⟨br, offr, cap', hv, _, lbr, hcr⟩ := SlF.parts (HR.out.below hF (Nat.le_refl _)) (k := 0) (by omega)
    simp only [Value.slice.injEq, Option.some.injEq, Addr.mk.injEq] at hv
    obtain ⟨⟨rfl, rfl, _⟩, _, _⟩ := hv
    have q1 : wr.cell? ⟨b4, 2 + j * 2, none⟩ = some (.int .i64 (y (2 * (j + 1)))) := by have := hcr (2 * (j + 1)) (by omega); rw [Nat.zero_add, show 2 * (j + 1) = 2 + j * 2 by omega] at this; rw [this, show 2 + j * 2 = 2 * (j + 1) by omega]
    have q2 : wr.cell? ⟨b4, 2 + j * 2 + 1, none⟩ = some (.int .i64 (y (2 * (j + 1) + 1))) := by have := hcr (2 * (j + 1) + 1) (by omega); rw [Nat.zero_add, show 2 * (j + 1) + 1 = 2 + j * 2 + 1 by omega] at this; rw [this, show 2 + j * 2 + 1 = 2 * (j + 1) + 1 by omega]
    have NX : Hid (zmc 6 y -> y (2 * (j + 1)) = 0 /\ y (2 * (j + 1) + 1) = 0) := fun h => h.2 (j + 1) (by omega) (by omega)
    have NY : Hid (y (2 * (j + 1)) = 0 -> y (2 * (j + 1) + 1) = 0 -> ∀ p, 1 <= p -> p < j + 1 + 1 -> y (2 * p) = 0 /\ y (2 * p + 1) = 0) := fun h1 h2 p p1 p2 => by
     by_cases e : p = j + 1
     · subst e; exact ⟨h1, h2⟩
     · exact HP.out p p1 (by omega)
    generalize y (2 * (j + 1)) = ta at q1 NX NY
    generalize y (2 * (j + 1) + 1) = na at q2 NX NY
    have BX : Below w.heap.size w (wr.alloc (.cells #[.int .i64 ta, .int .i64 na] 48)) := hF.alloc hF.size _
    have hne := zx9 ta na 0 0
    clear hcr HR
    by_cases g : ta = 0 /\ na = 0
    · obtain ⟨rfl, rfl⟩ := g
      have HV : Hid (∀ p, 1 <= p -> p < j + 1 + 1 -> y (2 * p) = 0 /\ y (2 * p + 1) = 0) := NY.out rfl rfl
      have hq : mvB 0 0 0 0 = true := rfl
      rw [hq] at hne
      go_wp2
      go_roundw
      case rel => exact ⟨j + 1, by omega, by go_num, HV, BX⟩
      case measure => simp [intOf]; omega
    · have HV : Hid (¬ zmc 6 y) := fun h => g (NX.out h)
      have hq : mvB ta na 0 0 = false := by unfold mvB; simp; omega
      rw [hq] at hne
      go_wp2
      go_ret
      exact ⟨false, rfl, ⟨fun h => (by cases h), fun h => absurd h HV.out⟩, BX⟩
  · have hge : (5 : Int) <= (j : Int) := by omega
    go_wp2
    go_ret
    exact ⟨true, rfl, ⟨fun _ => ⟨rfl, fun i i1 i2 => HP.out i i1 (by omega)⟩, fun _ => rfl⟩, hF⟩
set_option maxHeartbeats 4000000 in
theorem zi2 (b1 b2 b3 b4 b5 : Nat) (L n m : Nat) (ws : List Int) (smz toh top : Int) (cyc : Bool) (sn old cpz sr : Int) (rs : List (Int × Int)) (fa de sh : Bool) (st et en sp : Int) (X : Nat -> PtD) (s : Nat -> ByteArray) (y : Nat -> Int) (u : Nat -> ByteArray) (w : World) (h : McF w (.slice (some ⟨b1, 0, none⟩) L L) (.slice (some ⟨b2, 0, none⟩) n n) (.slice (some ⟨b3, 0, none⟩) ws.length ws.length) (.slice (some ⟨b4, 0, none⟩) rs.length rs.length) (.slice (some ⟨b5, 0, none⟩) m m) L X n s ws rs.length y m u) (hL : L <= 1048576) (hn : n <= 1048576) (hX : ∀ j, j < L -> PLe (X j) 1048576) (hws : ws.length <= 1048576) (hrs : rs.length <= 1048576) (hm : m <= 1048576) (hR : ∀ j, j < L -> PLr (X j)) (hsz : ∀ j, j < n -> (s j).size <= 9223372036854775807) (hw : zg ws) :
 Calls Tryz.prog 61 #[.agg #[.slice (some ⟨b1, 0, none⟩) L L, .slice (some ⟨b2, 0, none⟩) n n, .slice (some ⟨b3, 0, none⟩) ws.length ws.length, .int .i64 smz, .int .i64 toh, .int .i64 top, .bool cyc, .int .i64 sn, .int .i64 old, .int .i64 cpz, .int .i64 sr, .slice (some ⟨b4, 0, none⟩) rs.length rs.length, .bool fa, .bool de, .bool sh, .int .i64 st, .int .i64 et, .int .i64 en, .int .i64 sp, .slice (some ⟨b5, 0, none⟩) m m]] w fun e w' => zf7 (zem L X n s ws smz toh top cyc sn old cpz sr y rs.length st sp m) w e w' := by
 have B0 : Below w.heap.size w (w.alloc (.cells #[.slice (some ⟨b1, 0, none⟩) L L, .slice (some ⟨b2, 0, none⟩) n n, .slice (some ⟨b3, 0, none⟩) ws.length ws.length, .int .i64 smz, .int .i64 toh, .int .i64 top, .bool cyc, .int .i64 sn, .int .i64 old, .int .i64 cpz, .int .i64 sr, .slice (some ⟨b4, 0, none⟩) rs.length rs.length, .bool fa, .bool de, .bool sh, .int .i64 st, .int .i64 et, .int .i64 en, .int .i64 sp, .slice (some ⟨b5, 0, none⟩) m m] 50)) := (Below.refl _ _).alloc (Nat.le_refl _) _
 have H : Hid (McF w (.slice (some ⟨b1, 0, none⟩) L L) (.slice (some ⟨b2, 0, none⟩) n n) (.slice (some ⟨b3, 0, none⟩) ws.length ws.length) (.slice (some ⟨b4, 0, none⟩) rs.length rs.length) (.slice (some ⟨b5, 0, none⟩) m m) L X n s ws rs.length y m u) := h
 have HX : Hid (∀ j, j < L -> PLe (X j) 1048576) := hX
 have HSZ : Hid (∀ j, j < n -> (s j).size <= 9223372036854775807) := hsz
 have HW : Hid (zg ws) := hw
 have NI : Hid (zem L X n s ws smz toh top cyc sn old cpz sr y rs.length st sp m ↔ _) := zut
 have hm' : (m : Int) <= 1048576 := by omega
 clear h hX hR hsz hw
 by_cases c1 : 0 <= st
 rotate_left
 · have c1' : st < 0 := by omega
   go_enter Tryz.func61, Tryz.ntmps61
   go_wp2
   go_ret
   exact ⟨false, rfl, ⟨fun h => (by cases h), fun h => by have := (NI.out.1 h).1; omega⟩, B0⟩
 by_cases c2 : st <= 2
 rotate_left
 · have c2' : 2 < st := by omega
   go_enter Tryz.func61, Tryz.ntmps61
   go_wp2
   go_ret
   exact ⟨false, rfl, ⟨fun h => (by cases h), fun h => by have := (NI.out.1 h).2.1; omega⟩, B0⟩
 by_cases c3 : 0 <= sp
 rotate_left
 · have c3' : sp < 0 := by omega
   go_enter Tryz.func61, Tryz.ntmps61
   go_wp2
   go_ret
   exact ⟨false, rfl, ⟨fun h => (by cases h), fun h => by have := (NI.out.1 h).2.2.1; omega⟩, B0⟩
 by_cases c4 : (m : Int) <= 200
 rotate_left
 · have c4' : 200 < (m : Int) := by omega
   go_enter Tryz.func61, Tryz.ntmps61
   go_wp2
   go_ret
   exact ⟨false, rfl, ⟨fun h => (by cases h), fun h => by have := (NI.out.1 h).2.2.2.1; omega⟩, B0⟩
 have HLD := zgs rfl (zt.new w 50 #[.slice (some ⟨b1, 0, none⟩) L L, .slice (some ⟨b2, 0, none⟩) n n, .slice (some ⟨b3, 0, none⟩) ws.length ws.length, .int .i64 smz, .int .i64 toh, .int .i64 top, .bool cyc, .int .i64 sn, .int .i64 old, .int .i64 cpz, .int .i64 sr, .slice (some ⟨b4, 0, none⟩) rs.length rs.length, .bool fa, .bool de, .bool sh, .int .i64 st, .int .i64 et, .int .i64 en, .int .i64 sp, .slice (some ⟨b5, 0, none⟩) m m]).cell
 go_enter Tryz.func61, Tryz.ntmps61
 go_wp2_with (refine zbw rfl _ _ rfl _ HLD ?_)
 clear HLD
 refine (zkn (some ⟨b1, 0, none⟩) L L (some ⟨b2, 0, none⟩) n n (some ⟨b3, 0, none⟩) ws.length ws.length smz toh top cyc sn old cpz sr b4 rs.length fa de sh st et en sp (some ⟨b5, 0, none⟩) m m y _ (H.out.below B0).rt hrs).mono ?_
 rintro e w1 ⟨q, rfl, hq, d1⟩
 have X0 := (zt.new w 50 #[.slice (some ⟨b1, 0, none⟩) L L, .slice (some ⟨b2, 0, none⟩) n n, .slice (some ⟨b3, 0, none⟩) ws.length ws.length, .int .i64 smz, .int .i64 toh, .int .i64 top, .bool cyc, .int .i64 sn, .int .i64 old, .int .i64 cpz, .int .i64 sr, .slice (some ⟨b4, 0, none⟩) rs.length rs.length, .bool fa, .bool de, .bool sh, .int .i64 st, .int .i64 et, .int .i64 en, .int .i64 sp, .slice (some ⟨b5, 0, none⟩) m m]).below d1 (by simp)
 have B1 := zc B0 d1
 have k0 := X0.cell
 have z1 := X0.lt
 have HQ1 : Hid (q = true ↔ zmc rs.length y) := hq
 clear d1 hq B0
 cases q with
 | false =>
   go_wp2
   go_ret
   exact ⟨false, rfl, ⟨fun h => (by cases h), fun h => absurd (HQ1.out.2 (NI.out.1 h).2.2.2.2.1) (by simp)⟩, B1⟩
 | true =>
 go_wp2_with fail
 refine (zkg (some ⟨b1, 0, none⟩) L L (some ⟨b2, 0, none⟩) n n X s _ w1 (H.out.below B1).md (Nat.le_refl _) hL hn HX.out HSZ.out).mono ?_
 rintro e w2 ⟨q, rfl, hq, d2⟩
 have X2 := X0.below d2 z1
 have B2 := zc B1 d2
 clear k0 X0 z1
 have k0 := X2.cell
 have HQ2 : Hid (q = true ↔ MOk L X n s) := hq
 clear d2 hq B1
 cases q with
 | false =>
   go_wp2
   go_ret
   exact ⟨false, rfl, ⟨fun h => (by cases h), fun h => absurd (HQ2.out.2 (NI.out.1 h).2.2.2.2.2.1) (by simp)⟩, B2⟩
 | true =>
 go_wp2_with fail
 refine (zgu (some ⟨b3, 0, none⟩) ws.length ws smz toh top cyc sn old cpz sr (some ⟨b4, 0, none⟩) rs.length rs y _ w2 (H.out.below B2).wd (Nat.le_refl _) hws HW.out (H.out.below B2).rt hrs).mono ?_
 rintro e w3 ⟨q, rfl, hq, d3⟩
 have B3 := zc B2 d3
 have HQ3 : Hid (q = true ↔ zdc ws smz toh top cyc sn old cpz sr y rs.length) := hq
 clear d3 hq B2 k0
 go_wp2
 go_ret
 exact ⟨q, rfl, ⟨fun h => NI.out.2 ⟨c1, c2, c3, by omega, HQ1.out.1 (by trivial), HQ2.out.1 (by trivial), HQ3.out.1 h⟩, fun h => HQ3.out.2 (NI.out.1 h).2.2.2.2.2.2⟩, B3⟩
set_option maxHeartbeats 4000000 in
theorem zi3 (b1 b2 b3 b4 b5 : Nat) (L n m : Nat) (ws : List Int) (smz toh top : Int) (cyc : Bool) (sn old cpz sr : Int) (rs : List (Int × Int)) (fa de sh : Bool) (st et en sp : Int) (X : Nat -> PtD) (s : Nat -> ByteArray) (y : Nat -> Int) (u : Nat -> ByteArray) (w : World) (h : McF w (.slice (some ⟨b1, 0, none⟩) L L) (.slice (some ⟨b2, 0, none⟩) n n) (.slice (some ⟨b3, 0, none⟩) ws.length ws.length) (.slice (some ⟨b4, 0, none⟩) rs.length rs.length) (.slice (some ⟨b5, 0, none⟩) m m) L X n s ws rs.length y m u) (hL : L <= 1048576) (hn : n <= 1048576) (hX : ∀ j, j < L -> PLe (X j) 1048576) (hws : ws.length <= 1048576) (hrs : rs.length <= 1048576) (hm : m <= 1048576) (hR : ∀ j, j < L -> PLr (X j)) (hsz : ∀ j, j < n -> (s j).size <= 9223372036854775807) (hw : zg ws) :
 Calls Tryz.prog 56 #[.agg #[.slice (some ⟨b1, 0, none⟩) L L, .slice (some ⟨b2, 0, none⟩) n n, .slice (some ⟨b3, 0, none⟩) ws.length ws.length, .int .i64 smz, .int .i64 toh, .int .i64 top, .bool cyc, .int .i64 sn, .int .i64 old, .int .i64 cpz, .int .i64 sr, .slice (some ⟨b4, 0, none⟩) rs.length rs.length, .bool fa, .bool de, .bool sh, .int .i64 st, .int .i64 et, .int .i64 en, .int .i64 sp, .slice (some ⟨b5, 0, none⟩) m m]] w fun e w' => zf7 (zem L X n s ws smz toh top cyc sn old cpz sr y rs.length st sp m) w e w' := by
 have B0 : Below w.heap.size w (w.alloc (.cells #[.slice (some ⟨b1, 0, none⟩) L L, .slice (some ⟨b2, 0, none⟩) n n, .slice (some ⟨b3, 0, none⟩) ws.length ws.length, .int .i64 smz, .int .i64 toh, .int .i64 top, .bool cyc, .int .i64 sn, .int .i64 old, .int .i64 cpz, .int .i64 sr, .slice (some ⟨b4, 0, none⟩) rs.length rs.length, .bool fa, .bool de, .bool sh, .int .i64 st, .int .i64 et, .int .i64 en, .int .i64 sp, .slice (some ⟨b5, 0, none⟩) m m] 50)) := (Below.refl _ _).alloc (Nat.le_refl _) _
 have H : Hid (McF w (.slice (some ⟨b1, 0, none⟩) L L) (.slice (some ⟨b2, 0, none⟩) n n) (.slice (some ⟨b3, 0, none⟩) ws.length ws.length) (.slice (some ⟨b4, 0, none⟩) rs.length rs.length) (.slice (some ⟨b5, 0, none⟩) m m) L X n s ws rs.length y m u) := h
 have HX : Hid (∀ j, j < L -> PLe (X j) 1048576) := hX
 have HRR : Hid (∀ j, j < L -> PLr (X j)) := hR
 have HSZ : Hid (∀ j, j < n -> (s j).size <= 9223372036854775807) := hsz
 have HW : Hid (zg ws) := hw
 have hm' : (m : Int) <= 1048576 := by omega
 have hr' : (rs.length : Int) <= 1048576 := by omega
 clear h hX hR hsz hw
 go_enter Tryz.func56, Tryz.ntmps56
 go_wp2_with fail
 refine (zkh (some ⟨b1, 0, none⟩) L L (some ⟨b2, 0, none⟩) n n X s _ _ (H.out.below B0).md (Nat.le_refl _) hL hn HX.out HRR.out HSZ.out).mono ?_
 rintro e w1 ⟨q, rfl, hq, d1⟩
 have X0 := (zt.new w 50 #[.slice (some ⟨b1, 0, none⟩) L L, .slice (some ⟨b2, 0, none⟩) n n, .slice (some ⟨b3, 0, none⟩) ws.length ws.length, .int .i64 smz, .int .i64 toh, .int .i64 top, .bool cyc, .int .i64 sn, .int .i64 old, .int .i64 cpz, .int .i64 sr, .slice (some ⟨b4, 0, none⟩) rs.length rs.length, .bool fa, .bool de, .bool sh, .int .i64 st, .int .i64 et, .int .i64 en, .int .i64 sp, .slice (some ⟨b5, 0, none⟩) m m]).below d1 (by simp)
 have B1 := zc B0 d1
 have k0 := X0.cell
 have z1 := X0.lt
 have HQ1 : Hid (q = true ↔ MOk L X n s) := hq
 clear d1 hq B0
 cases q with
 | false =>
   go_wp2
   go_ret
   exact ⟨false, rfl, ⟨fun h => (by cases h), fun h => absurd (HQ1.out.2 h.1) (by simp)⟩, B1⟩
 | true =>
 go_wp2_with fail
 refine (zgt (some ⟨b3, 0, none⟩) ws.length ws smz toh top cyc sn old cpz sr (some ⟨b4, 0, none⟩) rs.length rs y _ w1 (H.out.below B1).wd hws HW.out (H.out.below B1).rt hrs).mono ?_
 rintro e w2 ⟨q, rfl, hq, d2⟩
 have X2 := X0.below d2 z1
 have B2 := zc B1 d2
 clear k0 X0 z1
 have k0 := X2.cell
 have z2 := X2.lt
 have HQ2 : Hid (q = true ↔ zdc ws smz toh top cyc sn old cpz sr y rs.length) := hq
 clear d2 hq B1
 cases q with
 | false =>
   go_wp2
   go_ret
   exact ⟨false, rfl, ⟨fun h => (by cases h), fun h => absurd (HQ2.out.2 h.2.1) (by simp)⟩, B2⟩
 | true =>
 by_cases c0 : rs.length = 6
 rotate_left
 · have c0' : ((rs.length : Int) != 6) = true := by simp; omega
   go_wp2
   go_ret
   exact ⟨false, rfl, ⟨fun h => (by cases h), fun h => absurd h.2.2.1 c0⟩, B2⟩
 have c0' : ((rs.length : Int) != 6) = false := by simp; omega
 by_cases c1 : 0 <= st /\ st <= 2
 rotate_left
 · go_wp2_with (go_at_call 104; refine (zay _ _ _ _ c1).mono ?_; rintro e w' ⟨rfl, rfl⟩)
   go_ret
   exact ⟨false, rfl, ⟨fun h => (by cases h), fun h => absurd ⟨h.2.2.2.1, h.2.2.2.2.1⟩ c1⟩, B2⟩
 by_cases c3 : 0 <= sp
 rotate_left
 · have c3' : sp < 0 := by omega
   go_wp2_with (go_at_call 104; refine (zab _ _ _ _ c1).mono ?_; rintro e w' ⟨rfl, rfl⟩)
   go_ret
   exact ⟨false, rfl, ⟨fun h => (by cases h), fun h => by have := h.2.2.2.2.2.1; omega⟩, B2⟩
 by_cases c4 : (m : Int) <= 200
 rotate_left
 · have c4' : 200 < (m : Int) := by omega
   go_wp2_with (go_at_call 104; refine (zab _ _ _ _ c1).mono ?_; rintro e w' ⟨rfl, rfl⟩)
   go_ret
   exact ⟨false, rfl, ⟨fun h => (by cases h), fun h => by have := h.2.2.2.2.2.2.1; omega⟩, B2⟩
 go_wp2_with (go_at_call 104; refine (zab _ _ _ _ c1).mono ?_; rintro e wz ⟨rfl, hz⟩; subst wz)
 have C0 : Hid (rs.length = 6) := c0
 have c6 : (6 : Int) <= (rs.length : Int) := by omega
 clear c0
 go_loopw [3] (fun i wr => ∃ j : Nat, 1 <= j /\ j <= 6 /\ i = .int .i64 j /\ Hid (∀ p, 1 <= p -> p < j -> y (2 * p) = 0) /\ wr = w2) (fun i _ => 6 - (intOf i).toNat)
 case atStart => exact ⟨1, by omega, by omega, rfl, fun p h1 h2 => by omega, rfl⟩
 case round =>
  obtain ⟨j, hj1, hj, rfl, HP, rfl⟩ := hrel
  by_cases hlt : j < 6
  · have hlt' : (j : Int) < 6 := by omega
    have hlt2 : (j : Int) < (rs.length : Int) := by omega
    obtain ⟨br, offr, cap', hv, _, lbr, hcr⟩ := SlF.parts (H.out.rt.below B2 (Nat.le_refl _)) (k := 0) (by have := C0.out; omega)
    simp only [Value.slice.injEq, Option.some.injEq, Addr.mk.injEq] at hv
    obtain ⟨⟨rfl, rfl, _⟩, _, _⟩ := hv
    have q1 : wr.cell? ⟨b4, 0 + j * 2, none⟩ = some (.int .i64 (y (2 * j))) := by rw [Nat.mul_comm j 2]; exact hcr (2 * j) (by have := C0.out; omega)
    have q1' : wr.cell? ⟨b4, j * 2, none⟩ = some (.int .i64 (y (2 * j))) := by rw [<- q1, Nat.zero_add]
    have NX : Hid (zem L X n s ws smz toh top cyc sn old cpz sr y rs.length st sp m -> y (2 * j) = 0) := fun h => h.2.2.2.2.2.2.2 j hj1 hlt
    have NY : Hid (y (2 * j) = 0 -> ∀ p, 1 <= p -> p < j + 1 -> y (2 * p) = 0) := fun h1 p p1 p2 => by
     by_cases e : p = j
     · subst e; exact h1
     · exact HP.out p p1 (by omega)
    generalize y (2 * j) = ta at q1 q1' NX NY
    clear hcr
    by_cases g : ta = 0
    · subst g
      have HV := NY.out rfl
      have HV' : Hid (∀ p, 1 <= p -> p < j + 1 -> y (2 * p) = 0) := HV
      clear HV
      go_wp2
      go_roundw
      case rel => exact ⟨j + 1, by omega, by omega, by go_num, HV', by first | rfl | trivial⟩
      case measure => simp [intOf]; omega
    · have HV : Hid (¬ zem L X n s ws smz toh top cyc sn old cpz sr y rs.length st sp m) := fun h => g (NX.out h)
      have g' : (ta != 0) = true := by simp [g]
      clear g
      go_wp2
      go_ret
      exact ⟨false, rfl, ⟨fun h => (by cases h), fun h => absurd h HV.out⟩, B2⟩
  · have hge : (6 : Int) <= (j : Int) := by omega
    go_wp2
    go_ret
    exact ⟨true, rfl, ⟨fun _ => ⟨HQ1.out.1 (by trivial), HQ2.out.1 (by trivial), C0.out, c1.1, c1.2, c3, by omega, fun i i1 i2 => HP.out i i1 (by omega)⟩, fun _ => rfl⟩, B2⟩
end Go.Proofs.YtmckcnmlhgpnhaaGreat
