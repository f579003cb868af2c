/- - -/
import Derived.Test.YtiglkhkfbgjjoaaGreatDoorPLxT
import Derived.Deep.RegionHeld3
import Derived.BigQuiet
namespace Go.Proofs.YtiglkhkfbgjjoaaGreatDoor
set_option maxRecDepth 20000
open Go.RowKit Go.PlainAid
set_option linter.unusedSimpArgs false
set_option linter.unusedVariables false
theorem zd {P : Program} {md : Region.Mode} {ops : Array Oper} {Q : Exit -> Act -> World -> Prop} {S : World -> Prop} {fuel : Nat} {listed : Array Bool} {a : Act} {w : World} {o : Op} {ty : TypeId} {ps : String} {af : Array Edge} {gd : Option (Nat × Bool)} (i d : Nat) (v : Value) (hS : S w) (hi : ops[i]? = some { dst := some d, op := o, type := ty, pos := ps, after := af, guard := gd })
 (h : wpAnyH P md ops Q S fuel (listed.setIfInBounds i true) (a.put (some d) v) w)
 (hv : ∀ w, S w -> (execOp a.eval { dst := some d, op := o, type := ty, pos := ps, after := af, guard := gd }).run P w = .ok (.value v) w := by intro w hSw; (try dsimp only at hSw); go_simp)
 (hw : Region.wanted { dst := some d, op := o, type := ty, pos := ps, after := af, guard := gd } (yielded ops a.tmps) = true := by kernel_rfl)
 (hs : Region.noSelect ops = true := by kernel_rfl) (hf : Region.free md ops listed i = true := by kernel_rfl) (hr : (Region.ready md ops listed).contains i = true := by kernel_rfl)
 (hQ : ∀ c a w, Q (.panic c) (a.put (some d) v) w -> Q (.panic c) a w := by exact fun _ _ _ h => h) : wpAnyH P md ops Q S (fuel + 1) listed a w :=
 wpAnyH_take hi hs hf hr hQ (Or.inl ⟨hw, hv⟩) hS h
theorem zj {P : Program} {md : Region.Mode} {ops : Array Oper} {Q : Exit -> Act -> World -> Prop} {S : World -> Prop} {fuel : Nat} {listed : Array Bool} {a : Act} {w : World} {o : Op} {ty : TypeId} {ps : String} {af : Array Edge} {gd : Option (Nat × Bool)} (i d : Nat) (hS : S w) (hi : ops[i]? = some { dst := some d, op := o, type := ty, pos := ps, after := af, guard := gd })
 (h : wpAnyH P md ops Q S fuel (listed.setIfInBounds i true) (a.put (some d) undef) w)
 (hw : Region.wanted { dst := some d, op := o, type := ty, pos := ps, after := af, guard := gd } (yielded ops a.tmps) = false := by kernel_rfl)
 (hs : Region.noSelect ops = true := by kernel_rfl) (hf : Region.free md ops listed i = true := by kernel_rfl) (hr : (Region.ready md ops listed).contains i = true := by kernel_rfl)
 (hQ : ∀ c a w, Q (.panic c) (a.put (some d) undef) w -> Q (.panic c) a w := by exact fun _ _ _ h => h) : wpAnyH P md ops Q S (fuel + 1) listed a w :=
 wpAnyH_take hi hs hf hr hQ (Or.inr ⟨hw, rfl⟩) hS h
structure Scn (w : World) (sb : Nat) (t : ByteArray) (fr at_ : Nat) (v : Value) : Prop where
 lt : sb < w.heap.size
 c : ∀ i, w.cell? ⟨sb, i, none⟩ = (#[.string t, .int .i64 (fr : Int), .int .i64 (at_ : Int), v] : Array Value)[i]?
 f : ∀ i, w.frozen? ⟨sb, i, none⟩ = false
theorem Scn.cells {w : World} {sb : Nat} {t : ByteArray} {fr at_ : Nat} {v : Value} (h : Scn w sb t fr at_ v) : w.cell? ⟨sb, 0, none⟩ = some (.string t) /\ w.cell? ⟨sb, 1, none⟩ = some (.int .i64 (fr : Int)) /\ w.cell? ⟨sb, 2, none⟩ = some (.int .i64 (at_ : Int)) /\ w.cell? ⟨sb, 3, none⟩ = some v :=
 ⟨h.c 0, h.c 1, h.c 2, h.c 3⟩
theorem Scn.below {w w' : World} {sb C : Nat} {t : ByteArray} {fr at_ : Nat} {v : Value} (h : Scn w sb t fr at_ v) (hb : Below C w w') (hC : sb < C) : Scn w' sb t fr at_ v :=
 ⟨Nat.lt_of_lt_of_le h.lt hb.size, fun i => by rw [hb.cell (p := ⟨sb, i, none⟩) hC]; exact h.c i, fun i => by rw [hb.frozen (p := ⟨sb, i, none⟩) hC]; exact h.f i⟩
theorem Scn.set {w : World} {sb : Nat} {t : ByteArray} {fr at_ : Nat} {v : Value} (h : Scn w sb t fr at_ v) (a : Nat) : Scn (w.setCell ⟨sb, 2, none⟩ (.int .i64 (a : Int))) sb t fr a v := by
 refine ⟨by simpa using h.lt, fun i => ?_, fun i => by rw [World.frozen?_setCell]; exact h.f i⟩
 by_cases e : i = 2
 · subst e
   rw [World.cell?_setCell_same _ _ _ (h.c 2)]
   rfl
 · rw [World.cell?_setCell_other _ _ _ _ (by intro e; injection e; omega), h.c i]
   rcases i with _ | _ | _ | _ | i <;> first | rfl | omega | simp
theorem Scn.setFrom {w : World} {sb : Nat} {t : ByteArray} {fr at_ : Nat} {v : Value} (h : Scn w sb t fr at_ v) (a : Nat) : Scn (w.setCell ⟨sb, 1, none⟩ (.int .i64 (a : Int))) sb t a at_ v := by
 refine ⟨by simpa using h.lt, fun i => ?_, fun i => by rw [World.frozen?_setCell]; exact h.f i⟩
 by_cases e : i = 1
 · subst e
   rw [World.cell?_setCell_same _ _ _ (h.c 1)]
   rfl
 · rw [World.cell?_setCell_other _ _ _ _ (by intro e; injection e; omega), h.c i]
   rcases i with _ | _ | _ | _ | i <;> first | rfl | omega | simp
theorem Scn.setToks {w : World} {sb : Nat} {t : ByteArray} {fr at_ : Nat} {v : Value} (h : Scn w sb t fr at_ v) (v' : Value) : Scn (w.setCell ⟨sb, 3, none⟩ v') sb t fr at_ v' := by
 refine ⟨by simpa using h.lt, fun i => ?_, fun i => by rw [World.frozen?_setCell]; exact h.f i⟩
 by_cases e : i = 3
 · subst e
   rw [World.cell?_setCell_same _ _ _ (h.c 3)]
   rfl
 · rw [World.cell?_setCell_other _ _ _ _ (by intro e; injection e; omega), h.c i]
   rcases i with _ | _ | _ | _ | i <;> first | rfl | omega | simp
theorem Scn.drew {w : World} {sb : Nat} {t : ByteArray} {fr at_ : Nat} {v : Value} (h : Scn w sb t fr at_ v) : Scn w.drew sb t fr at_ v := ⟨h.lt, h.c, h.f⟩
theorem zdm (w : World) (r : Option Nat) : w.grownBy w r := ⟨rfl, rfl, rfl, Nat.le_refl _, fun _ _ _ => rfl⟩
theorem zak {a b c : World} {r : Option Nat} (h : a.grownBy b r) (k : b.grownBy c r) : a.grownBy c r :=
 ⟨k.os.trans h.os, k.tape.trans h.tape, k.output.trans h.output, Nat.le_trans h.size k.size, fun j hj hr => (k.block j (Nat.lt_of_lt_of_le hj h.size) hr).trans (h.block j hj hr)⟩
theorem zbt (w : World) (sb i : Nat) (v : Value) : w.grownBy (w.setCell ⟨sb, i, none⟩ v) (some sb) :=
 ⟨rfl, rfl, rfl, by simp, fun k _ hk => Below.heap_setCell w ⟨sb, i, none⟩ v k (fun e => hk (by rw [e]))⟩
theorem zcb {w w' : World} {r : Option Nat} (h : Below w.heap.size w w') : w.grownBy w' r := ⟨h.os, h.tape, h.output, h.size, fun k hk _ => h.block k hk⟩
theorem zl4 {w w' : World} {sb : Nat} (h : w.grownBy w' (some sb)) (hl : sb <= w.heap.size) : Below sb w w' := ⟨h.os, h.tape, h.output, h.size, fun k hk => h.block k (by omega) (fun e => by injection e; omega)⟩
theorem zaa.grown {B sb : Nat} {w w' : World} {v : Value} {X : List za} (h : zaa B w v X) (hg : w.grownBy w' (some sb)) (hB : sb < B) : zaa B w' v X :=
 World.ownsRow.kept h hg (by
  cases hv : v.ownBlock with
  | none => exact .inl rfl
  | some k => exact .inr (fun e => by injection e with e; have := (World.ownsRow.lt h k hv).1; omega))
theorem zl5 (r : Int) (w : World) : Calls Tryz.prog 58 #[.int .i32 r] w fun e w' => e = .returned (.bool (ltB r)) /\ w = w' := by
 by_cases h1 : 97 <= r <;> by_cases h2 : r <= 122 <;> by_cases h3 : 65 <= r <;> by_cases h4 : r <= 90
 all_goals
  have e1 : ltB r = decide ((97 <= r /\ r <= 122) \/ (65 <= r /\ r <= 90)) := rfl
  simp only [h1, h2, h3, h4] at e1
  simp at e1
  rw [e1]
  clear e1
  go_enter Tryz.func58, Tryz.ntmps58
  go_wp2
  go_ret
  exact ⟨rfl, rfl⟩
theorem zns (r : Int) (w : World) : Calls Tryz.prog 59 #[.int .i32 r] w fun e w' => e = .returned (.bool (dgB r)) /\ w = w' := by
 by_cases h1 : 48 <= r <;> by_cases h2 : r <= 57
 all_goals
  have e1 : dgB r = decide (48 <= r /\ r <= 57) := rfl
  simp only [h1, h2] at e1
  simp at e1
  rw [e1]
  clear e1
  go_enter Tryz.func59, Tryz.ntmps59
  go_wp2
  go_ret
  exact ⟨rfl, rfl⟩
theorem znt (r : Int) (w : World) : Calls Tryz.prog 55 #[.int .i32 r] w fun e w' => e = .returned (.bool (bkB r)) /\ w = w' := by
 have e1 : bkB r = ((r == 9) || (r == 10) || (r == 32)) := by
  unfold bkB
  rw [Bool.eq_iff_iff]
  simp [or_assoc]
 rw [e1]
 cases h1 : (r == 9) <;> cases h2 : (r == 10) <;> cases h3 : (r == 32)
 all_goals
  go_enter Tryz.func55, Tryz.ntmps55
  go_wp2
  go_ret
  exact ⟨rfl, rfl⟩
theorem zl6 (r : Int) (w : World) : Calls Tryz.prog 60 #[.int .i32 r] w fun e w' => e = .returned (.bool (lnB r)) /\ w = w' := by
 have e1 : lnB r = (r != 10) := by
  unfold lnB
  rw [Bool.eq_iff_iff]
  simp
 rw [e1]
 cases h1 : (r != 10)
 all_goals
  go_enter Tryz.func60, Tryz.ntmps60
  go_wp2
  go_ret
  exact ⟨rfl, rfl⟩
theorem znu (r : Int) (w : World) : Calls Tryz.prog 96 #[.int .i32 r] w fun e w' => e = .returned (.bool (decide (32 <= r) && decide (r <= 126))) /\ w = w' := by
 by_cases h1 : 32 <= r <;> by_cases h2 : r <= 126
 all_goals
  simp only [h1, h2, decide_true, decide_false, Bool.true_and, Bool.and_true, Bool.and_false, Bool.false_and]
  go_enter Tryz.func96, Tryz.ntmps96
  go_wp2
  go_ret
  exact ⟨rfl, rfl⟩
theorem zjm (r : Int) (w : World) : Calls Tryz.prog 66 #[.int .i32 r] w fun e w' => e = .returned (.bool (plB r)) /\ w = w' := by
 have e1 : plB r = (decide (32 <= r) && decide (r <= 126) && (r != 34)) := by
  unfold plB
  rw [Bool.eq_iff_iff]
  simp [and_assoc]
 rw [e1]
 cases h0 : (decide (32 <= r) && decide (r <= 126)) <;> cases h3 : (r != 34)
 all_goals
  go_enter Tryz.func66, Tryz.ntmps66
  go_wp2_with (go_at_call 96; refine (znu r _).mono ?_; rw [h0]; rintro e w1 ⟨rfl, rfl⟩)
  go_ret
  exact ⟨rfl, rfl⟩
set_option maxHeartbeats 1000000 in
theorem zeb (sb : Nat) (t : ByteArray) (fr at_ : Nat) (v : Value) (w : World) (ht : t.size <= 3000) (h : Scn w sb t fr at_ v) (ha : at_ <= t.size) :
 Calls Tryz.prog 57 #[.pointer (some ⟨sb, 0, none⟩), .func (.func 58) #[] #[]] w fun e w' => e = .returned (.bool (decide (at_ < t.size) && ltB (bt t at_))) /\ Below w.heap.size w w' := by
 have hb := get_bt t
 have ht' : (t.size : Int) <= 3000 := by omega
 have hl := h.lt
 obtain ⟨c0, c1, c2, c3⟩ := h.cells
 clear h
 have hbt := bt_le t at_
 have hb0 := bt_nonneg t at_
 by_cases hlt : at_ < t.size
 · have hlt' : (at_ : Int) < t.size := by omega
   rw [show decide (at_ < t.size) = true from decide_eq_true hlt, Bool.true_and]
   cases hc : ltB (bt t at_)
   all_goals
    go_enter Tryz.func57, Tryz.ntmps57
    go_wp2_with fail
    go_quiet (first | (refine (zl5 _ _).mono ?_; rw [hc]; rintro e w1 ⟨rfl, rfl⟩; exact ⟨rfl, _, rfl⟩))
    go_wp2
    go_ret
    exact ⟨rfl, below_drewN (Below.refl _ _) _⟩
 · have hlt' : ¬ (at_ : Int) < t.size := by omega
   rw [show decide (at_ < t.size) = false from decide_eq_false hlt, Bool.false_and]
   go_enter Tryz.func57, Tryz.ntmps57
   go_wp2_with fail
   refine wp_region_held_drew (S := fun V => V = w.drew) (by kernel_rfl) (rfl) (fun hHeld => ?_)
   refine zd 0 5 (.pointer (some ⟨sb, 0, none⟩)) hHeld rfl ?_
   try simp only [Act.put, zv2, zv3, zv4]
   refine zd 1 6 (.pointer (some ⟨sb, 0, none⟩)) hHeld rfl ?_
   try simp only [Act.put, zv2, zv3, zv4]
   refine zd 2 7 (.pointer (some ⟨sb, 2, none⟩)) hHeld rfl ?_
   try simp only [Act.put, zv2, zv3, zv4]
   refine zd 3 8 (.int .i64 (at_ : Int)) hHeld rfl ?_
   try simp only [Act.put, zv2, zv3, zv4]
   refine zd 4 9 (.pointer (some ⟨sb, 0, none⟩)) hHeld rfl ?_
   try simp only [Act.put, zv2, zv3, zv4]
   refine zd 5 10 (.pointer (some ⟨sb, 0, none⟩)) hHeld rfl ?_
   try simp only [Act.put, zv2, zv3, zv4]
   refine zd 6 11 (.pointer (some ⟨sb, 0, none⟩)) hHeld rfl ?_
   try simp only [Act.put, zv2, zv3, zv4]
   refine zd 7 12 (.string t) hHeld rfl ?_
   try simp only [Act.put, zv2, zv3, zv4]
   refine zd 8 13 (.int .i64 (t.size : Int)) hHeld rfl ?_
   try simp only [Act.put, zv2, zv3, zv4]
   refine zd 9 14 (.bool false) hHeld rfl ?_
   try simp only [Act.put, zv2, zv3, zv4]
   refine zd 10 15 (.bool false) hHeld rfl ?_
   try simp only [Act.put, zv2, zv3, zv4]
   refine zj 11 16 hHeld rfl ?_
   try simp only [Act.put, zv2, zv3, zv4]
   refine zj 12 17 hHeld rfl ?_
   try simp only [Act.put, zv2, zv3, zv4]
   refine zj 13 18 hHeld rfl ?_
   try simp only [Act.put, zv2, zv3, zv4]
   refine zj 14 19 hHeld rfl ?_
   try simp only [Act.put, zv2, zv3, zv4]
   refine zj 15 20 hHeld rfl ?_
   try simp only [Act.put, zv2, zv3, zv4]
   refine zj 16 21 hHeld rfl ?_
   try simp only [Act.put, zv2, zv3, zv4]
   refine zj 17 22 hHeld rfl ?_
   try simp only [Act.put, zv2, zv3, zv4]
   refine zj 18 23 hHeld rfl ?_
   try simp only [Act.put, zv2, zv3, zv4]
   refine zj 19 24 hHeld rfl ?_
   try simp only [Act.put, zv2, zv3, zv4]
   refine zj 20 25 hHeld rfl ?_
   try simp only [Act.put, zv2, zv3, zv4]
   refine zj 21 26 hHeld rfl ?_
   try simp only [Act.put, zv2, zv3, zv4]
   refine zj 22 27 hHeld rfl ?_
   try simp only [Act.put, zv2, zv3, zv4]
   refine zd 23 28 (.bool false) hHeld rfl ?_
   try simp only [Act.put, zv2, zv3, zv4]
   refine zd 24 4 (.bool false) hHeld rfl ?_
   try simp only [Act.put, zv2, zv3, zv4]
   refine wpAnyH_done (by kernel_rfl) ?_ _
   go_wp2
   go_ret
   exact ⟨rfl, (Below.refl _ _).drew⟩
set_option maxHeartbeats 1000000 in
theorem zfq (sb : Nat) (t : ByteArray) (fr at_ : Nat) (v : Value) (w : World) (ht : t.size <= 3000) (h : Scn w sb t fr at_ v) (ha : at_ <= t.size) :
 Calls Tryz.prog 57 #[.pointer (some ⟨sb, 0, none⟩), .func (.func 59) #[] #[]] w fun e w' => e = .returned (.bool (decide (at_ < t.size) && dgB (bt t at_))) /\ Below w.heap.size w w' := by
 have hb := get_bt t
 have ht' : (t.size : Int) <= 3000 := by omega
 have hl := h.lt
 obtain ⟨c0, c1, c2, c3⟩ := h.cells
 clear h
 have hbt := bt_le t at_
 have hb0 := bt_nonneg t at_
 by_cases hlt : at_ < t.size
 · have hlt' : (at_ : Int) < t.size := by omega
   rw [show decide (at_ < t.size) = true from decide_eq_true hlt, Bool.true_and]
   cases hc : dgB (bt t at_)
   all_goals
    go_enter Tryz.func57, Tryz.ntmps57
    go_wp2_with fail
    go_quiet (first | (refine (zns _ _).mono ?_; rw [hc]; rintro e w1 ⟨rfl, rfl⟩; exact ⟨rfl, _, rfl⟩))
    go_wp2
    go_ret
    exact ⟨rfl, below_drewN (Below.refl _ _) _⟩
 · have hlt' : ¬ (at_ : Int) < t.size := by omega
   rw [show decide (at_ < t.size) = false from decide_eq_false hlt, Bool.false_and]
   go_enter Tryz.func57, Tryz.ntmps57
   go_wp2_with fail
   refine wp_region_held_drew (S := fun V => V = w.drew) (by kernel_rfl) (rfl) (fun hHeld => ?_)
   refine zd 0 5 (.pointer (some ⟨sb, 0, none⟩)) hHeld rfl ?_
   try simp only [Act.put, zv2, zv3, zv4]
   refine zd 1 6 (.pointer (some ⟨sb, 0, none⟩)) hHeld rfl ?_
   try simp only [Act.put, zv2, zv3, zv4]
   refine zd 2 7 (.pointer (some ⟨sb, 2, none⟩)) hHeld rfl ?_
   try simp only [Act.put, zv2, zv3, zv4]
   refine zd 3 8 (.int .i64 (at_ : Int)) hHeld rfl ?_
   try simp only [Act.put, zv2, zv3, zv4]
   refine zd 4 9 (.pointer (some ⟨sb, 0, none⟩)) hHeld rfl ?_
   try simp only [Act.put, zv2, zv3, zv4]
   refine zd 5 10 (.pointer (some ⟨sb, 0, none⟩)) hHeld rfl ?_
   try simp only [Act.put, zv2, zv3, zv4]
   refine zd 6 11 (.pointer (some ⟨sb, 0, none⟩)) hHeld rfl ?_
   try simp only [Act.put, zv2, zv3, zv4]
   refine zd 7 12 (.string t) hHeld rfl ?_
   try simp only [Act.put, zv2, zv3, zv4]
   refine zd 8 13 (.int .i64 (t.size : Int)) hHeld rfl ?_
   try simp only [Act.put, zv2, zv3, zv4]
   refine zd 9 14 (.bool false) hHeld rfl ?_
   try simp only [Act.put, zv2, zv3, zv4]
   refine zd 10 15 (.bool false) hHeld rfl ?_
   try simp only [Act.put, zv2, zv3, zv4]
   refine zj 11 16 hHeld rfl ?_
   try simp only [Act.put, zv2, zv3, zv4]
   refine zj 12 17 hHeld rfl ?_
   try simp only [Act.put, zv2, zv3, zv4]
   refine zj 13 18 hHeld rfl ?_
   try simp only [Act.put, zv2, zv3, zv4]
   refine zj 14 19 hHeld rfl ?_
   try simp only [Act.put, zv2, zv3, zv4]
   refine zj 15 20 hHeld rfl ?_
   try simp only [Act.put, zv2, zv3, zv4]
   refine zj 16 21 hHeld rfl ?_
   try simp only [Act.put, zv2, zv3, zv4]
   refine zj 17 22 hHeld rfl ?_
   try simp only [Act.put, zv2, zv3, zv4]
   refine zj 18 23 hHeld rfl ?_
   try simp only [Act.put, zv2, zv3, zv4]
   refine zj 19 24 hHeld rfl ?_
   try simp only [Act.put, zv2, zv3, zv4]
   refine zj 20 25 hHeld rfl ?_
   try simp only [Act.put, zv2, zv3, zv4]
   refine zj 21 26 hHeld rfl ?_
   try simp only [Act.put, zv2, zv3, zv4]
   refine zj 22 27 hHeld rfl ?_
   try simp only [Act.put, zv2, zv3, zv4]
   refine zd 23 28 (.bool false) hHeld rfl ?_
   try simp only [Act.put, zv2, zv3, zv4]
   refine zd 24 4 (.bool false) hHeld rfl ?_
   try simp only [Act.put, zv2, zv3, zv4]
   refine wpAnyH_done (by kernel_rfl) ?_ _
   go_wp2
   go_ret
   exact ⟨rfl, (Below.refl _ _).drew⟩
set_option maxHeartbeats 1000000 in
theorem zhk (sb : Nat) (t : ByteArray) (fr at_ : Nat) (v : Value) (w : World) (ht : t.size <= 3000) (h : Scn w sb t fr at_ v) (ha : at_ <= t.size) :
 Calls Tryz.prog 57 #[.pointer (some ⟨sb, 0, none⟩), .func (.func 55) #[] #[]] w fun e w' => e = .returned (.bool (decide (at_ < t.size) && bkB (bt t at_))) /\ Below w.heap.size w w' := by
 have hb := get_bt t
 have ht' : (t.size : Int) <= 3000 := by omega
 have hl := h.lt
 obtain ⟨c0, c1, c2, c3⟩ := h.cells
 clear h
 have hbt := bt_le t at_
 have hb0 := bt_nonneg t at_
 by_cases hlt : at_ < t.size
 · have hlt' : (at_ : Int) < t.size := by omega
   rw [show decide (at_ < t.size) = true from decide_eq_true hlt, Bool.true_and]
   cases hc : bkB (bt t at_)
   all_goals
    go_enter Tryz.func57, Tryz.ntmps57
    go_wp2_with fail
    go_quiet (first | (refine (znt _ _).mono ?_; rw [hc]; rintro e w1 ⟨rfl, rfl⟩; exact ⟨rfl, _, rfl⟩))
    go_wp2
    go_ret
    exact ⟨rfl, below_drewN (Below.refl _ _) _⟩
 · have hlt' : ¬ (at_ : Int) < t.size := by omega
   rw [show decide (at_ < t.size) = false from decide_eq_false hlt, Bool.false_and]
   go_enter Tryz.func57, Tryz.ntmps57
   go_wp2_with fail
   refine wp_region_held_drew (S := fun V => V = w.drew) (by kernel_rfl) (rfl) (fun hHeld => ?_)
   refine zd 0 5 (.pointer (some ⟨sb, 0, none⟩)) hHeld rfl ?_
   try simp only [Act.put, zv2, zv3, zv4]
   refine zd 1 6 (.pointer (some ⟨sb, 0, none⟩)) hHeld rfl ?_
   try simp only [Act.put, zv2, zv3, zv4]
   refine zd 2 7 (.pointer (some ⟨sb, 2, none⟩)) hHeld rfl ?_
   try simp only [Act.put, zv2, zv3, zv4]
   refine zd 3 8 (.int .i64 (at_ : Int)) hHeld rfl ?_
   try simp only [Act.put, zv2, zv3, zv4]
   refine zd 4 9 (.pointer (some ⟨sb, 0, none⟩)) hHeld rfl ?_
   try simp only [Act.put, zv2, zv3, zv4]
   refine zd 5 10 (.pointer (some ⟨sb, 0, none⟩)) hHeld rfl ?_
   try simp only [Act.put, zv2, zv3, zv4]
   refine zd 6 11 (.pointer (some ⟨sb, 0, none⟩)) hHeld rfl ?_
   try simp only [Act.put, zv2, zv3, zv4]
   refine zd 7 12 (.string t) hHeld rfl ?_
   try simp only [Act.put, zv2, zv3, zv4]
   refine zd 8 13 (.int .i64 (t.size : Int)) hHeld rfl ?_
   try simp only [Act.put, zv2, zv3, zv4]
   refine zd 9 14 (.bool false) hHeld rfl ?_
   try simp only [Act.put, zv2, zv3, zv4]
   refine zd 10 15 (.bool false) hHeld rfl ?_
   try simp only [Act.put, zv2, zv3, zv4]
   refine zj 11 16 hHeld rfl ?_
   try simp only [Act.put, zv2, zv3, zv4]
   refine zj 12 17 hHeld rfl ?_
   try simp only [Act.put, zv2, zv3, zv4]
   refine zj 13 18 hHeld rfl ?_
   try simp only [Act.put, zv2, zv3, zv4]
   refine zj 14 19 hHeld rfl ?_
   try simp only [Act.put, zv2, zv3, zv4]
   refine zj 15 20 hHeld rfl ?_
   try simp only [Act.put, zv2, zv3, zv4]
   refine zj 16 21 hHeld rfl ?_
   try simp only [Act.put, zv2, zv3, zv4]
   refine zj 17 22 hHeld rfl ?_
   try simp only [Act.put, zv2, zv3, zv4]
   refine zj 18 23 hHeld rfl ?_
   try simp only [Act.put, zv2, zv3, zv4]
   refine zj 19 24 hHeld rfl ?_
   try simp only [Act.put, zv2, zv3, zv4]
   refine zj 20 25 hHeld rfl ?_
   try simp only [Act.put, zv2, zv3, zv4]
   refine zj 21 26 hHeld rfl ?_
   try simp only [Act.put, zv2, zv3, zv4]
   refine zj 22 27 hHeld rfl ?_
   try simp only [Act.put, zv2, zv3, zv4]
   refine zd 23 28 (.bool false) hHeld rfl ?_
   try simp only [Act.put, zv2, zv3, zv4]
   refine zd 24 4 (.bool false) hHeld rfl ?_
   try simp only [Act.put, zv2, zv3, zv4]
   refine wpAnyH_done (by kernel_rfl) ?_ _
   go_wp2
   go_ret
   exact ⟨rfl, (Below.refl _ _).drew⟩
set_option maxHeartbeats 1000000 in
theorem zhl (sb : Nat) (t : ByteArray) (fr at_ : Nat) (v : Value) (w : World) (ht : t.size <= 3000) (h : Scn w sb t fr at_ v) (ha : at_ <= t.size) :
 Calls Tryz.prog 57 #[.pointer (some ⟨sb, 0, none⟩), .func (.func 60) #[] #[]] w fun e w' => e = .returned (.bool (decide (at_ < t.size) && lnB (bt t at_))) /\ Below w.heap.size w w' := by
 have hb := get_bt t
 have ht' : (t.size : Int) <= 3000 := by omega
 have hl := h.lt
 obtain ⟨c0, c1, c2, c3⟩ := h.cells
 clear h
 have hbt := bt_le t at_
 have hb0 := bt_nonneg t at_
 by_cases hlt : at_ < t.size
 · have hlt' : (at_ : Int) < t.size := by omega
   rw [show decide (at_ < t.size) = true from decide_eq_true hlt, Bool.true_and]
   cases hc : lnB (bt t at_)
   all_goals
    go_enter Tryz.func57, Tryz.ntmps57
    go_wp2_with fail
    go_quiet (first | (refine (zl6 _ _).mono ?_; rw [hc]; rintro e w1 ⟨rfl, rfl⟩; exact ⟨rfl, _, rfl⟩))
    go_wp2
    go_ret
    exact ⟨rfl, below_drewN (Below.refl _ _) _⟩
 · have hlt' : ¬ (at_ : Int) < t.size := by omega
   rw [show decide (at_ < t.size) = false from decide_eq_false hlt, Bool.false_and]
   go_enter Tryz.func57, Tryz.ntmps57
   go_wp2_with fail
   refine wp_region_held_drew (S := fun V => V = w.drew) (by kernel_rfl) (rfl) (fun hHeld => ?_)
   refine zd 0 5 (.pointer (some ⟨sb, 0, none⟩)) hHeld rfl ?_
   try simp only [Act.put, zv2, zv3, zv4]
   refine zd 1 6 (.pointer (some ⟨sb, 0, none⟩)) hHeld rfl ?_
   try simp only [Act.put, zv2, zv3, zv4]
   refine zd 2 7 (.pointer (some ⟨sb, 2, none⟩)) hHeld rfl ?_
   try simp only [Act.put, zv2, zv3, zv4]
   refine zd 3 8 (.int .i64 (at_ : Int)) hHeld rfl ?_
   try simp only [Act.put, zv2, zv3, zv4]
   refine zd 4 9 (.pointer (some ⟨sb, 0, none⟩)) hHeld rfl ?_
   try simp only [Act.put, zv2, zv3, zv4]
   refine zd 5 10 (.pointer (some ⟨sb, 0, none⟩)) hHeld rfl ?_
   try simp only [Act.put, zv2, zv3, zv4]
   refine zd 6 11 (.pointer (some ⟨sb, 0, none⟩)) hHeld rfl ?_
   try simp only [Act.put, zv2, zv3, zv4]
   refine zd 7 12 (.string t) hHeld rfl ?_
   try simp only [Act.put, zv2, zv3, zv4]
   refine zd 8 13 (.int .i64 (t.size : Int)) hHeld rfl ?_
   try simp only [Act.put, zv2, zv3, zv4]
   refine zd 9 14 (.bool false) hHeld rfl ?_
   try simp only [Act.put, zv2, zv3, zv4]
   refine zd 10 15 (.bool false) hHeld rfl ?_
   try simp only [Act.put, zv2, zv3, zv4]
   refine zj 11 16 hHeld rfl ?_
   try simp only [Act.put, zv2, zv3, zv4]
   refine zj 12 17 hHeld rfl ?_
   try simp only [Act.put, zv2, zv3, zv4]
   refine zj 13 18 hHeld rfl ?_
   try simp only [Act.put, zv2, zv3, zv4]
   refine zj 14 19 hHeld rfl ?_
   try simp only [Act.put, zv2, zv3, zv4]
   refine zj 15 20 hHeld rfl ?_
   try simp only [Act.put, zv2, zv3, zv4]
   refine zj 16 21 hHeld rfl ?_
   try simp only [Act.put, zv2, zv3, zv4]
   refine zj 17 22 hHeld rfl ?_
   try simp only [Act.put, zv2, zv3, zv4]
   refine zj 18 23 hHeld rfl ?_
   try simp only [Act.put, zv2, zv3, zv4]
   refine zj 19 24 hHeld rfl ?_
   try simp only [Act.put, zv2, zv3, zv4]
   refine zj 20 25 hHeld rfl ?_
   try simp only [Act.put, zv2, zv3, zv4]
   refine zj 21 26 hHeld rfl ?_
   try simp only [Act.put, zv2, zv3, zv4]
   refine zj 22 27 hHeld rfl ?_
   try simp only [Act.put, zv2, zv3, zv4]
   refine zd 23 28 (.bool false) hHeld rfl ?_
   try simp only [Act.put, zv2, zv3, zv4]
   refine zd 24 4 (.bool false) hHeld rfl ?_
   try simp only [Act.put, zv2, zv3, zv4]
   refine wpAnyH_done (by kernel_rfl) ?_ _
   go_wp2
   go_ret
   exact ⟨rfl, (Below.refl _ _).drew⟩
set_option maxHeartbeats 1000000 in
theorem zhm (sb : Nat) (t : ByteArray) (fr at_ : Nat) (v : Value) (w : World) (ht : t.size <= 3000) (h : Scn w sb t fr at_ v) (ha : at_ <= t.size) :
 Calls Tryz.prog 57 #[.pointer (some ⟨sb, 0, none⟩), .func (.func 66) #[] #[]] w fun e w' => e = .returned (.bool (decide (at_ < t.size) && plB (bt t at_))) /\ Below w.heap.size w w' := by
 have hb := get_bt t
 have ht' : (t.size : Int) <= 3000 := by omega
 have hl := h.lt
 obtain ⟨c0, c1, c2, c3⟩ := h.cells
 clear h
 have hbt := bt_le t at_
 have hb0 := bt_nonneg t at_
 by_cases hlt : at_ < t.size
 · have hlt' : (at_ : Int) < t.size := by omega
   rw [show decide (at_ < t.size) = true from decide_eq_true hlt, Bool.true_and]
   cases hc : plB (bt t at_)
   all_goals
    go_enter Tryz.func57, Tryz.ntmps57
    go_wp2_with fail
    go_quiet (first | (refine (zjm _ _).mono ?_; rw [hc]; rintro e w1 ⟨rfl, rfl⟩; exact ⟨rfl, _, rfl⟩))
    go_wp2
    go_ret
    exact ⟨rfl, below_drewN (Below.refl _ _) _⟩
 · have hlt' : ¬ (at_ : Int) < t.size := by omega
   rw [show decide (at_ < t.size) = false from decide_eq_false hlt, Bool.false_and]
   go_enter Tryz.func57, Tryz.ntmps57
   go_wp2_with fail
   refine wp_region_held_drew (S := fun V => V = w.drew) (by kernel_rfl) (rfl) (fun hHeld => ?_)
   refine zd 0 5 (.pointer (some ⟨sb, 0, none⟩)) hHeld rfl ?_
   try simp only [Act.put, zv2, zv3, zv4]
   refine zd 1 6 (.pointer (some ⟨sb, 0, none⟩)) hHeld rfl ?_
   try simp only [Act.put, zv2, zv3, zv4]
   refine zd 2 7 (.pointer (some ⟨sb, 2, none⟩)) hHeld rfl ?_
   try simp only [Act.put, zv2, zv3, zv4]
   refine zd 3 8 (.int .i64 (at_ : Int)) hHeld rfl ?_
   try simp only [Act.put, zv2, zv3, zv4]
   refine zd 4 9 (.pointer (some ⟨sb, 0, none⟩)) hHeld rfl ?_
   try simp only [Act.put, zv2, zv3, zv4]
   refine zd 5 10 (.pointer (some ⟨sb, 0, none⟩)) hHeld rfl ?_
   try simp only [Act.put, zv2, zv3, zv4]
   refine zd 6 11 (.pointer (some ⟨sb, 0, none⟩)) hHeld rfl ?_
   try simp only [Act.put, zv2, zv3, zv4]
   refine zd 7 12 (.string t) hHeld rfl ?_
   try simp only [Act.put, zv2, zv3, zv4]
   refine zd 8 13 (.int .i64 (t.size : Int)) hHeld rfl ?_
   try simp only [Act.put, zv2, zv3, zv4]
   refine zd 9 14 (.bool false) hHeld rfl ?_
   try simp only [Act.put, zv2, zv3, zv4]
   refine zd 10 15 (.bool false) hHeld rfl ?_
   try simp only [Act.put, zv2, zv3, zv4]
   refine zj 11 16 hHeld rfl ?_
   try simp only [Act.put, zv2, zv3, zv4]
   refine zj 12 17 hHeld rfl ?_
   try simp only [Act.put, zv2, zv3, zv4]
   refine zj 13 18 hHeld rfl ?_
   try simp only [Act.put, zv2, zv3, zv4]
   refine zj 14 19 hHeld rfl ?_
   try simp only [Act.put, zv2, zv3, zv4]
   refine zj 15 20 hHeld rfl ?_
   try simp only [Act.put, zv2, zv3, zv4]
   refine zj 16 21 hHeld rfl ?_
   try simp only [Act.put, zv2, zv3, zv4]
   refine zj 17 22 hHeld rfl ?_
   try simp only [Act.put, zv2, zv3, zv4]
   refine zj 18 23 hHeld rfl ?_
   try simp only [Act.put, zv2, zv3, zv4]
   refine zj 19 24 hHeld rfl ?_
   try simp only [Act.put, zv2, zv3, zv4]
   refine zj 20 25 hHeld rfl ?_
   try simp only [Act.put, zv2, zv3, zv4]
   refine zj 21 26 hHeld rfl ?_
   try simp only [Act.put, zv2, zv3, zv4]
   refine zj 22 27 hHeld rfl ?_
   try simp only [Act.put, zv2, zv3, zv4]
   refine zd 23 28 (.bool false) hHeld rfl ?_
   try simp only [Act.put, zv2, zv3, zv4]
   refine zd 24 4 (.bool false) hHeld rfl ?_
   try simp only [Act.put, zv2, zv3, zv4]
   refine wpAnyH_done (by kernel_rfl) ?_ _
   go_wp2
   go_ret
   exact ⟨rfl, (Below.refl _ _).drew⟩
theorem zbd (sb : Nat) (t : ByteArray) (fr at_ : Nat) (v : Value) (w : World) (ht : t.size <= 3000) (h : Scn w sb t fr at_ v) (hf : fr <= at_) (ha : at_ <= t.size) :
 Calls Tryz.prog 62 #[.pointer (some ⟨sb, 0, none⟩)] w fun e w' => e = .returned (.string (t.extract fr at_)) /\ Below w.heap.size w w' := by
 have ht' : (t.size : Int) <= 3000 := by omega
 have hl := h.lt
 obtain ⟨c0, c1, c2, c3⟩ := h.cells
 clear h
 have f' : (fr : Int) <= at_ := by omega
 have a' : (at_ : Int) <= t.size := by omega
 go_enter Tryz.func62, Tryz.ntmps62
 go_wp2_with fail
 go_region
 all_goals
  go_wp2
  go_ret
  exact ⟨rfl, (Below.refl _ _).drew⟩
set_option maxHeartbeats 1000000 in
theorem zqk (sb : Nat) (t : ByteArray) (fr at_ : Nat) (v : Value) (w : World) (ht : t.size <= 3000) (h : Scn w sb t fr at_ v) (ha : at_ <= t.size) :
 Calls Tryz.prog 54 #[.pointer (some ⟨sb, 0, none⟩), .func (.func 58) #[] #[]] w fun e w' => e = .returned (.tuple #[]) /\ Scn w' sb t fr (ze ltB t at_) v /\ w.grownBy w' (some sb) := by
 obtain ⟨E, hE⟩ : ∃ E, E = ze ltB t at_ := ⟨_, rfl⟩
 rw [<- hE]
 have HE : Hid (ze ltB t at_ = E) := hE.symm
 have H : Hid (Scn w sb t fr at_ v) := h
 clear hE h
 go_enter Tryz.func54, Tryz.ntmps54
 go_wp2_with fail
 go_loopw [] (fun wr => ∃ j : Nat, j <= t.size /\ Hid (Scn wr sb t fr j v) /\ Hid (ze ltB t j = E) /\ Hid (w.grownBy wr (some sb))) (fun wr => t.size - (intOf ((wr.cell? ⟨sb, 2, none⟩).getD undef)).toNat)
 case atStart => exact ⟨at_, ha, H, HE, zdm _ _⟩
 case round =>
  obtain ⟨j, hj, hs, hr, hg⟩ := hrel
  cases hq : (decide (j < t.size) && ltB (bt t j)) with
  | true =>
    have hq' := hq
    simp only [Bool.and_eq_true, decide_eq_true_eq] at hq'
    have hr2 : Hid (ze ltB t (j + 1) = E) := by show ze ltB t (j + 1) = E; rw [<- zbn hq'.1 hq'.2]; exact hr.out
    have hj' : (j : Int) <= 3000 := by omega
    have hjl := hq'.1
    have hm : (intOf ((wr.cell? ⟨sb, 2, none⟩).getD undef)).toNat = j := by rw [hs.out.cells.2.2.1]; simp [intOf]
    have HM : Hid ((intOf ((wr.cell? ⟨sb, 2, none⟩).getD undef)).toNat = j) := hm
    clear hq' hm
    go_wp2_with fail
    refine (zeb sb t fr j v _ ht hs.out hj).mono ?_
    rw [hq]
    rintro e w1 ⟨rfl, b1⟩
    have s1 := hs.out.below b1 hs.out.lt
    have S1 : Hid (Scn w1 sb t fr j v) := s1
    have G1 : Hid (w.grownBy w1 (some sb)) := zak hg.out (zcb b1)
    have hl := s1.lt
    have f2 := s1.f 2
    obtain ⟨c0, c1, c2, c3⟩ := s1.cells
    clear s1 b1
    go_wp2
    go_roundw
    case rel => exact ⟨j + 1, by omega, S1.out.set (j + 1), hr2, zak G1.out (zbt _ _ _ _)⟩
    case measure =>
     have e := (S1.out.set (j + 1)).cells.2.2.1
     have e2 := HM.out
     rw [show ((j : Int) + 1) = ((j + 1 : Nat) : Int) from by omega, e, e2]
     simp [intOf]
     omega
  | false =>
    have e : j = E := by
     rw [<- hr.out]
     by_cases g : j < t.size
     · exact (zcc (by simpa [g] using hq)).symm
     · exact (zbx g).symm
    subst e
    go_wp2_with fail
    refine (zeb sb t fr j v _ ht hs.out hj).mono ?_
    rw [hq]
    rintro e w1 ⟨rfl, b1⟩
    have s1 := hs.out.below b1 hs.out.lt
    go_wp2
    go_end0
    exact ⟨rfl, s1, zak hg.out (zcb b1)⟩
set_option maxHeartbeats 1000000 in
theorem zql (sb : Nat) (t : ByteArray) (fr at_ : Nat) (v : Value) (w : World) (ht : t.size <= 3000) (h : Scn w sb t fr at_ v) (ha : at_ <= t.size) :
 Calls Tryz.prog 54 #[.pointer (some ⟨sb, 0, none⟩), .func (.func 59) #[] #[]] w fun e w' => e = .returned (.tuple #[]) /\ Scn w' sb t fr (ze dgB t at_) v /\ w.grownBy w' (some sb) := by
 obtain ⟨E, hE⟩ : ∃ E, E = ze dgB t at_ := ⟨_, rfl⟩
 rw [<- hE]
 have HE : Hid (ze dgB t at_ = E) := hE.symm
 have H : Hid (Scn w sb t fr at_ v) := h
 clear hE h
 go_enter Tryz.func54, Tryz.ntmps54
 go_wp2_with fail
 go_loopw [] (fun wr => ∃ j : Nat, j <= t.size /\ Hid (Scn wr sb t fr j v) /\ Hid (ze dgB t j = E) /\ Hid (w.grownBy wr (some sb))) (fun wr => t.size - (intOf ((wr.cell? ⟨sb, 2, none⟩).getD undef)).toNat)
 case atStart => exact ⟨at_, ha, H, HE, zdm _ _⟩
 case round =>
  obtain ⟨j, hj, hs, hr, hg⟩ := hrel
  cases hq : (decide (j < t.size) && dgB (bt t j)) with
  | true =>
    have hq' := hq
    simp only [Bool.and_eq_true, decide_eq_true_eq] at hq'
    have hr2 : Hid (ze dgB t (j + 1) = E) := by show ze dgB t (j + 1) = E; rw [<- zbn hq'.1 hq'.2]; exact hr.out
    have hj' : (j : Int) <= 3000 := by omega
    have hjl := hq'.1
    have hm : (intOf ((wr.cell? ⟨sb, 2, none⟩).getD undef)).toNat = j := by rw [hs.out.cells.2.2.1]; simp [intOf]
    have HM : Hid ((intOf ((wr.cell? ⟨sb, 2, none⟩).getD undef)).toNat = j) := hm
    clear hq' hm
    go_wp2_with fail
    refine (zfq sb t fr j v _ ht hs.out hj).mono ?_
    rw [hq]
    rintro e w1 ⟨rfl, b1⟩
    have s1 := hs.out.below b1 hs.out.lt
    have S1 : Hid (Scn w1 sb t fr j v) := s1
    have G1 : Hid (w.grownBy w1 (some sb)) := zak hg.out (zcb b1)
    have hl := s1.lt
    have f2 := s1.f 2
    obtain ⟨c0, c1, c2, c3⟩ := s1.cells
    clear s1 b1
    go_wp2
    go_roundw
    case rel => exact ⟨j + 1, by omega, S1.out.set (j + 1), hr2, zak G1.out (zbt _ _ _ _)⟩
    case measure =>
     have e := (S1.out.set (j + 1)).cells.2.2.1
     have e2 := HM.out
     rw [show ((j : Int) + 1) = ((j + 1 : Nat) : Int) from by omega, e, e2]
     simp [intOf]
     omega
  | false =>
    have e : j = E := by
     rw [<- hr.out]
     by_cases g : j < t.size
     · exact (zcc (by simpa [g] using hq)).symm
     · exact (zbx g).symm
    subst e
    go_wp2_with fail
    refine (zfq sb t fr j v _ ht hs.out hj).mono ?_
    rw [hq]
    rintro e w1 ⟨rfl, b1⟩
    have s1 := hs.out.below b1 hs.out.lt
    go_wp2
    go_end0
    exact ⟨rfl, s1, zak hg.out (zcb b1)⟩
set_option maxHeartbeats 1000000 in
theorem zqm (sb : Nat) (t : ByteArray) (fr at_ : Nat) (v : Value) (w : World) (ht : t.size <= 3000) (h : Scn w sb t fr at_ v) (ha : at_ <= t.size) :
 Calls Tryz.prog 54 #[.pointer (some ⟨sb, 0, none⟩), .func (.func 55) #[] #[]] w fun e w' => e = .returned (.tuple #[]) /\ Scn w' sb t fr (ze bkB t at_) v /\ w.grownBy w' (some sb) := by
 obtain ⟨E, hE⟩ : ∃ E, E = ze bkB t at_ := ⟨_, rfl⟩
 rw [<- hE]
 have HE : Hid (ze bkB t at_ = E) := hE.symm
 have H : Hid (Scn w sb t fr at_ v) := h
 clear hE h
 go_enter Tryz.func54, Tryz.ntmps54
 go_wp2_with fail
 go_loopw [] (fun wr => ∃ j : Nat, j <= t.size /\ Hid (Scn wr sb t fr j v) /\ Hid (ze bkB t j = E) /\ Hid (w.grownBy wr (some sb))) (fun wr => t.size - (intOf ((wr.cell? ⟨sb, 2, none⟩).getD undef)).toNat)
 case atStart => exact ⟨at_, ha, H, HE, zdm _ _⟩
 case round =>
  obtain ⟨j, hj, hs, hr, hg⟩ := hrel
  cases hq : (decide (j < t.size) && bkB (bt t j)) with
  | true =>
    have hq' := hq
    simp only [Bool.and_eq_true, decide_eq_true_eq] at hq'
    have hr2 : Hid (ze bkB t (j + 1) = E) := by show ze bkB t (j + 1) = E; rw [<- zbn hq'.1 hq'.2]; exact hr.out
    have hj' : (j : Int) <= 3000 := by omega
    have hjl := hq'.1
    have hm : (intOf ((wr.cell? ⟨sb, 2, none⟩).getD undef)).toNat = j := by rw [hs.out.cells.2.2.1]; simp [intOf]
    have HM : Hid ((intOf ((wr.cell? ⟨sb, 2, none⟩).getD undef)).toNat = j) := hm
    clear hq' hm
    go_wp2_with fail
    refine (zhk sb t fr j v _ ht hs.out hj).mono ?_
    rw [hq]
    rintro e w1 ⟨rfl, b1⟩
    have s1 := hs.out.below b1 hs.out.lt
    have S1 : Hid (Scn w1 sb t fr j v) := s1
    have G1 : Hid (w.grownBy w1 (some sb)) := zak hg.out (zcb b1)
    have hl := s1.lt
    have f2 := s1.f 2
    obtain ⟨c0, c1, c2, c3⟩ := s1.cells
    clear s1 b1
    go_wp2
    go_roundw
    case rel => exact ⟨j + 1, by omega, S1.out.set (j + 1), hr2, zak G1.out (zbt _ _ _ _)⟩
    case measure =>
     have e := (S1.out.set (j + 1)).cells.2.2.1
     have e2 := HM.out
     rw [show ((j : Int) + 1) = ((j + 1 : Nat) : Int) from by omega, e, e2]
     simp [intOf]
     omega
  | false =>
    have e : j = E := by
     rw [<- hr.out]
     by_cases g : j < t.size
     · exact (zcc (by simpa [g] using hq)).symm
     · exact (zbx g).symm
    subst e
    go_wp2_with fail
    refine (zhk sb t fr j v _ ht hs.out hj).mono ?_
    rw [hq]
    rintro e w1 ⟨rfl, b1⟩
    have s1 := hs.out.below b1 hs.out.lt
    go_wp2
    go_end0
    exact ⟨rfl, s1, zak hg.out (zcb b1)⟩
set_option maxHeartbeats 1000000 in
theorem zqn (sb : Nat) (t : ByteArray) (fr at_ : Nat) (v : Value) (w : World) (ht : t.size <= 3000) (h : Scn w sb t fr at_ v) (ha : at_ <= t.size) :
 Calls Tryz.prog 54 #[.pointer (some ⟨sb, 0, none⟩), .func (.func 60) #[] #[]] w fun e w' => e = .returned (.tuple #[]) /\ Scn w' sb t fr (ze lnB t at_) v /\ w.grownBy w' (some sb) := by
 obtain ⟨E, hE⟩ : ∃ E, E = ze lnB t at_ := ⟨_, rfl⟩
 rw [<- hE]
 have HE : Hid (ze lnB t at_ = E) := hE.symm
 have H : Hid (Scn w sb t fr at_ v) := h
 clear hE h
 go_enter Tryz.func54, Tryz.ntmps54
 go_wp2_with fail
 go_loopw [] (fun wr => ∃ j : Nat, j <= t.size /\ Hid (Scn wr sb t fr j v) /\ Hid (ze lnB t j = E) /\ Hid (w.grownBy wr (some sb))) (fun wr => t.size - (intOf ((wr.cell? ⟨sb, 2, none⟩).getD undef)).toNat)
 case atStart => exact ⟨at_, ha, H, HE, zdm _ _⟩
 case round =>
  obtain ⟨j, hj, hs, hr, hg⟩ := hrel
  cases hq : (decide (j < t.size) && lnB (bt t j)) with
  | true =>
    have hq' := hq
    simp only [Bool.and_eq_true, decide_eq_true_eq] at hq'
    have hr2 : Hid (ze lnB t (j + 1) = E) := by show ze lnB t (j + 1) = E; rw [<- zbn hq'.1 hq'.2]; exact hr.out
    have hj' : (j : Int) <= 3000 := by omega
    have hjl := hq'.1
    have hm : (intOf ((wr.cell? ⟨sb, 2, none⟩).getD undef)).toNat = j := by rw [hs.out.cells.2.2.1]; simp [intOf]
    have HM : Hid ((intOf ((wr.cell? ⟨sb, 2, none⟩).getD undef)).toNat = j) := hm
    clear hq' hm
    go_wp2_with fail
    refine (zhl sb t fr j v _ ht hs.out hj).mono ?_
    rw [hq]
    rintro e w1 ⟨rfl, b1⟩
    have s1 := hs.out.below b1 hs.out.lt
    have S1 : Hid (Scn w1 sb t fr j v) := s1
    have G1 : Hid (w.grownBy w1 (some sb)) := zak hg.out (zcb b1)
    have hl := s1.lt
    have f2 := s1.f 2
    obtain ⟨c0, c1, c2, c3⟩ := s1.cells
    clear s1 b1
    go_wp2
    go_roundw
    case rel => exact ⟨j + 1, by omega, S1.out.set (j + 1), hr2, zak G1.out (zbt _ _ _ _)⟩
    case measure =>
     have e := (S1.out.set (j + 1)).cells.2.2.1
     have e2 := HM.out
     rw [show ((j : Int) + 1) = ((j + 1 : Nat) : Int) from by omega, e, e2]
     simp [intOf]
     omega
  | false =>
    have e : j = E := by
     rw [<- hr.out]
     by_cases g : j < t.size
     · exact (zcc (by simpa [g] using hq)).symm
     · exact (zbx g).symm
    subst e
    go_wp2_with fail
    refine (zhl sb t fr j v _ ht hs.out hj).mono ?_
    rw [hq]
    rintro e w1 ⟨rfl, b1⟩
    have s1 := hs.out.below b1 hs.out.lt
    go_wp2
    go_end0
    exact ⟨rfl, s1, zak hg.out (zcb b1)⟩
set_option maxHeartbeats 1000000 in
theorem zqo (sb : Nat) (t : ByteArray) (fr at_ : Nat) (v : Value) (w : World) (ht : t.size <= 3000) (h : Scn w sb t fr at_ v) (ha : at_ <= t.size) :
 Calls Tryz.prog 54 #[.pointer (some ⟨sb, 0, none⟩), .func (.func 66) #[] #[]] w fun e w' => e = .returned (.tuple #[]) /\ Scn w' sb t fr (ze plB t at_) v /\ w.grownBy w' (some sb) := by
 obtain ⟨E, hE⟩ : ∃ E, E = ze plB t at_ := ⟨_, rfl⟩
 rw [<- hE]
 have HE : Hid (ze plB t at_ = E) := hE.symm
 have H : Hid (Scn w sb t fr at_ v) := h
 clear hE h
 go_enter Tryz.func54, Tryz.ntmps54
 go_wp2_with fail
 go_loopw [] (fun wr => ∃ j : Nat, j <= t.size /\ Hid (Scn wr sb t fr j v) /\ Hid (ze plB t j = E) /\ Hid (w.grownBy wr (some sb))) (fun wr => t.size - (intOf ((wr.cell? ⟨sb, 2, none⟩).getD undef)).toNat)
 case atStart => exact ⟨at_, ha, H, HE, zdm _ _⟩
 case round =>
  obtain ⟨j, hj, hs, hr, hg⟩ := hrel
  cases hq : (decide (j < t.size) && plB (bt t j)) with
  | true =>
    have hq' := hq
    simp only [Bool.and_eq_true, decide_eq_true_eq] at hq'
    have hr2 : Hid (ze plB t (j + 1) = E) := by show ze plB t (j + 1) = E; rw [<- zbn hq'.1 hq'.2]; exact hr.out
    have hj' : (j : Int) <= 3000 := by omega
    have hjl := hq'.1
    have hm : (intOf ((wr.cell? ⟨sb, 2, none⟩).getD undef)).toNat = j := by rw [hs.out.cells.2.2.1]; simp [intOf]
    have HM : Hid ((intOf ((wr.cell? ⟨sb, 2, none⟩).getD undef)).toNat = j) := hm
    clear hq' hm
    go_wp2_with fail
    refine (zhm sb t fr j v _ ht hs.out hj).mono ?_
    rw [hq]
    rintro e w1 ⟨rfl, b1⟩
    have s1 := hs.out.below b1 hs.out.lt
    have S1 : Hid (Scn w1 sb t fr j v) := s1
    have G1 : Hid (w.grownBy w1 (some sb)) := zak hg.out (zcb b1)
    have hl := s1.lt
    have f2 := s1.f 2
    obtain ⟨c0, c1, c2, c3⟩ := s1.cells
    clear s1 b1
    go_wp2
    go_roundw
    case rel => exact ⟨j + 1, by omega, S1.out.set (j + 1), hr2, zak G1.out (zbt _ _ _ _)⟩
    case measure =>
     have e := (S1.out.set (j + 1)).cells.2.2.1
     have e2 := HM.out
     rw [show ((j : Int) + 1) = ((j + 1 : Nat) : Int) from by omega, e, e2]
     simp [intOf]
     omega
  | false =>
    have e : j = E := by
     rw [<- hr.out]
     by_cases g : j < t.size
     · exact (zcc (by simpa [g] using hq)).symm
     · exact (zbx g).symm
    subst e
    go_wp2_with fail
    refine (zhm sb t fr j v _ ht hs.out hj).mono ?_
    rw [hq]
    rintro e w1 ⟨rfl, b1⟩
    have s1 := hs.out.below b1 hs.out.lt
    go_wp2
    go_end0
    exact ⟨rfl, s1, zak hg.out (zcb b1)⟩
end Go.Proofs.YtiglkhkfbgjjoaaGreatDoor
