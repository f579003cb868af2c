/- - -/
import Derived.Test.YtiglkhkfbgjjoaaGreatDoorPPaV
import Derived.Deep.RegionHeld
import Derived.Deep.RegionHeld3
namespace Go.Proofs.YtiglkhkfbgjjoaaGreatDoor
set_option maxRecDepth 20000
open Go.RowKit Go.PlainAid Go.Maps
set_option linter.unusedSimpArgs false
set_option linter.unusedVariables false
theorem tk {P : Program} {md : Region.Mode} {ops : Array Oper} {Q : Exit -> Act -> World -> Prop} {S : World -> Prop} {fuel : Nat} {listed : Array Bool} {a : Act} {w : World} {o : Op} {ty : TypeId} {ps : String} {af : Array Edge} {gd : Option (Nat × Bool)} (i d : Nat) (v : Value) (hS : S w) (hi : ops[i]? = some { dst := some d, op := o, type := ty, pos := ps, after := af, guard := gd })
 (hv : ∀ w, S w -> (execOp a.eval { dst := some d, op := o, type := ty, pos := ps, after := af, guard := gd }).run P w = .ok (.value v) w)
 (h : wpAnyH P md ops Q S fuel (listed.setIfInBounds i true) (a.put (some d) v) w)
 (hw : Region.wanted { dst := some d, op := o, type := ty, pos := ps, after := af, guard := gd } (yielded ops a.tmps) = true := by kernel_rfl)
 (hs : Region.noSelect ops = true := by kernel_rfl) (hf : Region.free md ops listed i = true := by kernel_rfl) (hr : (Region.ready md ops listed).contains i = true := by kernel_rfl)
 (hQ : ∀ c a w, Q (.panic c) (a.put (some d) v) w -> Q (.panic c) a w := by exact fun _ _ _ h => h) : wpAnyH P md ops Q S (fuel + 1) listed a w :=
 wpAnyH_take hi hs hf hr hQ (Or.inl ⟨hw, hv⟩) hS h
structure Mdr (rb : Nat) (ts : List za) (tv : Value) (en : Nat) (w : World) (v : Value) (kv : List Value) (s : PS) : Prop where
 lt : rb < w.heap.size
 c0 : w.cell? ⟨rb, 0, none⟩ = some tv
 c1 : w.cell? ⟨rb, 1, none⟩ = some (.int .i64 (s.i : Int))
 c2 : w.cell? ⟨rb, 2, none⟩ = some v
 c3 : w.cell? ⟨rb, 3, none⟩ = some (.int .i64 0)
 c4 : w.cell? ⟨rb, 4, none⟩ = some (.int .i64 0)
 c5 : w.cell? ⟨rb, 5, none⟩ = some (.int .i64 (s.d : Int))
 c6 : w.cell? ⟨rb, 6, none⟩ = some (.int .i64 (en : Int))
 fz : ∀ i, w.frozen? ⟨rb, i, none⟩ = false
 tk : zaa 0 w tv ts
 tlt : ∀ g, tv.ownBlock = some g -> g < rb
 il : s.i <= ts.length
 tl : ts.length <= 3000
 dl : s.d <= 30
 kl : ∀ x ∈ s.ns, x.k = 8 -> x.ks.length = 2
 nd : NdR (rb + 1) w v s.ns kv
theorem Mdr.below {rb : Nat} {ts : List za} {tv : Value} {en : Nat} {w w' : World} {v : Value} {kv : List Value} {s : PS} (h : Mdr rb ts tv en w v kv s) (hb : Below w.heap.size w w') : Mdr rb ts tv en w' v kv s := by
 have e := fun i => hb.cell (p := ⟨rb, i, none⟩) h.lt
 exact ⟨Nat.lt_of_lt_of_le h.lt hb.size, by rw [e]; exact h.c0, by rw [e]; exact h.c1, by rw [e]; exact h.c2, by rw [e]; exact h.c3, by rw [e]; exact h.c4, by rw [e]; exact h.c5, by rw [e]; exact h.c6, fun i => by rw [World.frozen?_of_block (w := w) (hb.block rb h.lt)]; exact h.fz i, World.ownsRow.kept h.tk (row := none) ⟨hb.os, hb.tape, hb.output, hb.size, fun k hk _ => hb.block k hk⟩ (by cases tv.ownBlock <;> simp), h.tlt, h.il, h.tl, h.dl, h.kl, h.nd.below hb⟩
theorem Mdr.tok {rb : Nat} {ts : List za} {tv : Value} {en : Nat} {w : World} {v : Value} {kv : List Value} {s : PS} (h : Mdr rb ts tv en w v kv s) {x : za} (hx : ts[s.i]? = some x) : ∃ g c, tv = .slice (some ⟨g, 0, none⟩) ts.length c /\ g < rb /\ g < w.heap.size /\ s.i < ts.length /\ w.cell? ⟨g, s.i * 4, none⟩ = some (.int .i64 x.k) /\ w.cell? ⟨g, s.i * 4 + 1, none⟩ = some (.int .i64 (x.at_ : Int)) /\ w.cell? ⟨g, s.i * 4 + 2, none⟩ = some (.string x.tx) /\ w.cell? ⟨g, s.i * 4 + 3, none⟩ = some (.int .i64 x.n) := by
 obtain ⟨hi, he⟩ := List.getElem?_eq_some_iff.1 hx
 have hown : w.ownsRow 0 68 4 tv ts.length (zw ts) := h.tk
 have hl := zct ts
 obtain ⟨t0, t1, t2, t3⟩ := zc0 (X := ts) (j := s.i) hi
 rw [he] at t0 t1 t2 t3
 obtain ⟨_, ⟨_, h0⟩ | ⟨g, cap, cur, rfl, _⟩⟩ := hown
 · omega
 have lg := h.tlt g rfl
 have c := fun j (hj : j < ts.length * 4) => h.tk.cellAt j hj
 exact ⟨g, cap, rfl, lg, Nat.lt_trans lg h.lt, hi, (c _ (by omega)).trans t0, (c _ (by omega)).trans t1, (c _ (by omega)).trans t2, (c _ (by omega)).trans t3⟩
theorem Mdr.tform {rb : Nat} {ts : List za} {tv : Value} {en : Nat} {w : World} {v : Value} {kv : List Value} {s : PS} (h : Mdr rb ts tv en w v kv s) : ∃ a c, tv = .slice a ts.length c := h.tk.form
theorem Mdr.notv {rb : Nat} {ts : List za} {tv : Value} {en : Nat} {w : World} {v : Value} {kv : List Value} {s : PS} (h : Mdr rb ts tv en w v kv s) {k : Nat} (hk : k <= rb) : v.ownBlock ≠ some k := fun e => by have := (World.ownsRow.lt h.nd.own k e).1; omega
theorem Mdr.put1 {rb : Nat} {ts : List za} {tv : Value} {en : Nat} {w : World} {v : Value} {kv : List Value} {s : PS} (h : Mdr rb ts tv en w v kv s) (n : Nat) (hn : n <= ts.length) :
 Mdr rb ts tv en (w.setCell ⟨rb, 1, none⟩ (.int .i64 (n : Int))) v kv ⟨n, s.d, s.ns⟩ /\ Rg rb w v (w.setCell ⟨rb, 1, none⟩ (.int .i64 (n : Int))) v [] := by
 have o : ∀ i, i ≠ 1 -> (w.setCell ⟨rb, 1, none⟩ (.int .i64 (n : Int))).cell? ⟨rb, i, none⟩ = w.cell? ⟨rb, i, none⟩ := fun i hi => World.cell?_setCell_other _ _ _ _ (fun e => by have := congrArg Addr.off e; simp at this; omega)
 have hb : ∀ k, k ≠ rb -> (w.setCell ⟨rb, 1, none⟩ (.int .i64 (n : Int))).heap[k]? = w.heap[k]? := fun k hk => Below.heap_setCell w ⟨rb, 1, none⟩ _ k hk
 refine ⟨⟨by simpa using h.lt, by rw [o 0 (by omega)]; exact h.c0, World.cell?_setCell_same' _ _ _ (by rw [h.c1]; rfl), by rw [o 2 (by omega)]; exact h.c2, by rw [o 3 (by omega)]; exact h.c3, by rw [o 4 (by omega)]; exact h.c4, by rw [o 5 (by omega)]; exact h.c5, by rw [o 6 (by omega)]; exact h.c6, fun i => by simp [go_sem, h.fz], ?_, h.tlt, hn, h.tl, h.dl, h.kl, ?_⟩, ⟨rfl, rfl, rfl, by simp, fun k _ hk _ => hb k hk, fun _ h => .inl h, fun _ _ h => by simp at h⟩⟩
 · exact World.ownsRow.kept h.tk (row := some rb) ⟨rfl, rfl, rfl, by simp, fun k _ hk => hb k (fun e => hk (by rw [e]))⟩ (.inr (fun e => by have := h.tlt rb e; omega))
 · exact h.nd.keptBut (row := some rb) ⟨rfl, rfl, rfl, by simp, fun k _ hk => hb k (fun e => hk (by rw [e]))⟩ (by simp)
theorem Mdr.put5 {rb : Nat} {ts : List za} {tv : Value} {en : Nat} {w : World} {v : Value} {kv : List Value} {s : PS} (h : Mdr rb ts tv en w v kv s) (n : Nat) (hn : n <= 30) :
 Mdr rb ts tv en (w.setCell ⟨rb, 5, none⟩ (.int .i64 (n : Int))) v kv ⟨s.i, n, s.ns⟩ /\ Rg rb w v (w.setCell ⟨rb, 5, none⟩ (.int .i64 (n : Int))) v [] := by
 have o : ∀ i, i ≠ 5 -> (w.setCell ⟨rb, 5, none⟩ (.int .i64 (n : Int))).cell? ⟨rb, i, none⟩ = w.cell? ⟨rb, i, none⟩ := fun i hi => World.cell?_setCell_other _ _ _ _ (fun e => by have := congrArg Addr.off e; simp at this; omega)
 have hb : ∀ k, k ≠ rb -> (w.setCell ⟨rb, 5, none⟩ (.int .i64 (n : Int))).heap[k]? = w.heap[k]? := fun k hk => Below.heap_setCell w ⟨rb, 5, none⟩ _ k hk
 refine ⟨⟨by simpa using h.lt, by rw [o 0 (by omega)]; exact h.c0, by rw [o 1 (by omega)]; exact h.c1, by rw [o 2 (by omega)]; exact h.c2, by rw [o 3 (by omega)]; exact h.c3, by rw [o 4 (by omega)]; exact h.c4, World.cell?_setCell_same' _ _ _ (by rw [h.c5]; rfl), by rw [o 6 (by omega)]; exact h.c6, fun i => by simp [go_sem, h.fz], ?_, h.tlt, h.il, h.tl, hn, h.kl, ?_⟩, ⟨rfl, rfl, rfl, by simp, fun k _ hk _ => hb k hk, fun _ h => .inl h, fun _ _ h => by simp at h⟩⟩
 · exact World.ownsRow.kept h.tk (row := some rb) ⟨rfl, rfl, rfl, by simp, fun k _ hk => hb k (fun e => hk (by rw [e]))⟩ (.inr (fun e => by have := h.tlt rb e; omega))
 · exact h.nd.keptBut (row := some rb) ⟨rfl, rfl, rfl, by simp, fun k _ hk => hb k (fun e => hk (by rw [e]))⟩ (by simp)
theorem zg9 {rb : Nat} {ts : List za} {tv : Value} {en : Nat} {w : World} {v : Value} {kv : List Value} {s : PS} (h : Mdr rb ts tv en w v kv s) {y : Value} {g : Nat} (hy : y ∈ kv) (hg : y.ownBlock = some g) : rb < g /\ g < w.heap.size := by
 obtain ⟨j, hj, he⟩ := List.getElem_of_mem hy
 have hk : kv[j]? = some y := by rw [List.getElem?_eq_getElem hj, he]
 have hn : s.ns[j]? = some (s.ns[j]'(by have := h.nd.len; omega)) := List.getElem?_eq_getElem _
 have := World.ownsRow.lt (h.nd.kid j _ y hn hk) g hg
 omega
theorem Mdr.addn {rb : Nat} {ts : List za} {tv : Value} {en : Nat} {w w1 : World} {v v' : Value} {kv : List Value} {s : PS} (h : Mdr rb ts tv en w v kv s) (x : KnL) (u : Value) (hu : Own rb w v kv u x.ks) (hks : x.k = 8 -> x.ks.length = 2) (hown : w1.ownsRow (rb + 1) 34 4 v' (s.ns.length + 1) (knC s.ns kv ++ [.int .i64 x.k, .string x.t, .int .i64 x.i, u])) (hg : w.grownBy w1 v.ownBlock) (hrow : ∀ r, v'.ownBlock = some r -> v.ownBlock = some r \/ w.heap.size <= r) :
 Mdr rb ts tv en (w1.setCell ⟨rb, 2, none⟩ v') v' (kv ++ [u]) ⟨s.i, s.d, s.ns ++ [x]⟩ /\ Rg rb w v (w1.setCell ⟨rb, 2, none⟩ v') v' [] := by
 have hb : w1.heap[rb]? = w.heap[rb]? := hg.block rb h.lt (fun e => h.notv (Nat.le_refl _) e.symm)
 have hc : ∀ i, w1.cell? ⟨rb, i, none⟩ = w.cell? ⟨rb, i, none⟩ := fun i => World.cell?_of_block (w := w) (a := ⟨rb, i, none⟩) hb
 have o : ∀ i, i ≠ 2 -> (w1.setCell ⟨rb, 2, none⟩ v').cell? ⟨rb, i, none⟩ = w.cell? ⟨rb, i, none⟩ := fun i hi => by
  rw [World.cell?_setCell_other _ _ _ _ (fun e => by have := congrArg Addr.off e; simp at this; omega), hc]
 have hs : ∀ k, k ≠ rb -> (w1.setCell ⟨rb, 2, none⟩ v').heap[k]? = w1.heap[k]? := fun k hk => Below.heap_setCell w1 ⟨rb, 2, none⟩ v' k hk
 have hgs : w1.grownBy (w1.setCell ⟨rb, 2, none⟩ v') (some rb) := ⟨rfl, rfl, rfl, by simp, fun k _ hk => hs k (fun e => hk (by rw [e]))⟩
 have kp : ∀ (y : Value) (zs : List Int), IR (rb + 1) w y zs -> (∀ g, y.ownBlock = some g -> v.ownBlock ≠ some g) -> IR (rb + 1) (w1.setCell ⟨rb, 2, none⟩ v') y zs := fun y zs hy hn => by
  refine World.ownsRow.kept (World.ownsRow.kept hy hg ?_) hgs ?_
  · cases hq : y.ownBlock with
    | none => exact .inl rfl
    | some g => exact .inr (fun e => hn g hq e.symm)
  · cases hq : y.ownBlock with
    | none => exact .inl rfl
    | some g => exact .inr (fun e => by have := (World.ownsRow.lt hy g hq).1; injection e with e; omega)
 have hlen := h.nd.len
 have at1 : ∀ (j : Nat) (y : Value), (kv ++ [u])[j]? = some y -> kv[j]? = some y \/ (j = kv.length /\ y = u) := fun j y hy => by
  rcases Nat.lt_or_ge j kv.length with hj | hj
  · rw [List.getElem?_append_left hj] at hy
    exact .inl hy
  · rw [List.getElem?_append_right hj] at hy
    rcases Nat.eq_or_lt_of_le hj with e | e
    · subst e
      simp at hy
      exact .inr ⟨rfl, hy.symm⟩
    · rw [List.getElem?_eq_none (by simp; omega)] at hy
      cases hy
 refine ⟨⟨by simpa using Nat.lt_of_lt_of_le h.lt hg.size, by rw [o 0 (by omega)]; exact h.c0, by rw [o 1 (by omega)]; exact h.c1, World.cell?_setCell_same' _ _ _ (by rw [hc, h.c2]; rfl), by rw [o 3 (by omega)]; exact h.c3, by rw [o 4 (by omega)]; exact h.c4, by rw [o 5 (by omega)]; exact h.c5, by rw [o 6 (by omega)]; exact h.c6, fun i => ?_, ?_, h.tlt, h.il, h.tl, h.dl, (fun y hy => (List.mem_append.1 hy).elim (h.kl y) (fun h1 => by rw [List.mem_singleton.1 h1]; exact hks)), ⟨?_, ?_, ?_, ?_, ?_⟩⟩, ⟨hg.os, hg.tape, hg.output, by simpa using hg.size, fun k hk hp hr => ?_, hrow, fun _ _ h => by simp at h⟩⟩
 · have : w1.frozen? ⟨rb, i, none⟩ = w.frozen? ⟨rb, i, none⟩ := World.frozen?_of_block (w := w) (a := ⟨rb, i, none⟩) hb
   simp [go_sem, this, h.fz]
 · refine World.ownsRow.kept (World.ownsRow.kept h.tk hg ?_) hgs ?_
   · cases hq : tv.ownBlock with
     | none => exact .inl rfl
     | some g => exact .inr (fun e => h.notv (Nat.le_of_lt (h.tlt g hq)) e.symm)
   · cases hq : tv.ownBlock with
     | none => exact .inl rfl
     | some g => exact .inr (fun e => by have := h.tlt g hq; injection e with e; omega)
 · simp [hlen]
 · rw [zfj hlen, List.length_append]
   exact World.ownsRow.kept hown hgs (.inr (fun e => by have := (World.ownsRow.lt hown rb e).1; omega))
 · intro j y z hy hz
   rcases at1 j z hz with h1 | ⟨rfl, rfl⟩
   · have hj : j < s.ns.length := by have := (List.getElem?_eq_some_iff.1 h1).1; omega
     rw [List.getElem?_append_left hj] at hy
     exact kp z y.ks (h.nd.kid j y z hy h1) (fun g e => h.nd.ne j z g h1 e)
   · rw [<- hlen, List.getElem?_append_right (Nat.le_refl _)] at hy
     simp at hy
     subst hy
     exact kp z x.ks hu.row hu.ne
 · intro j z g hz hzg hv
   have hz2 : (v.ownBlock ≠ some g) /\ g < w.heap.size := by
    rcases at1 j z hz with h1 | ⟨rfl, rfl⟩
    · exact ⟨h.nd.ne j z g h1 hzg, (zg9 h (List.mem_of_getElem? h1) hzg).2⟩
    · exact ⟨hu.ne g hzg, (World.ownsRow.lt hu.row g hzg).2⟩
   rcases hrow g hv with h1 | h1
   · exact hz2.1 h1
   · omega
 · intro i j y z g hy hz hij hyg hzg
   rcases at1 i y hy with h1 | ⟨rfl, rfl⟩
   · rcases at1 j z hz with h2 | ⟨rfl, rfl⟩
     · exact h.nd.nd i j y z g h1 h2 hij hyg hzg
     · exact hu.nd y g (List.mem_of_getElem? h1) hyg hzg
   · rcases at1 j z hz with h2 | ⟨rfl, rfl⟩
     · exact hu.nd z g (List.mem_of_getElem? h2) hzg hyg
     · exact hij rfl
 · rw [hs k hp]
   exact hg.block k hk (fun e => hr e.symm)
section
variable (rb : Nat) (ts : List za) (tv : Value) (en : Nat)
structure Sm (w : World) (v : Value) (kv : List Value) (w1 : World) (v1 : Value) (K : List Value) (s1 : PS) : Prop where
 lt : rb < w.heap.size
 ov : ∀ k, v.ownBlock = some k -> rb < k
 rd : Mdr rb ts tv en w1 v1 (kv ++ K) s1
 rg : Rg rb w v w1 v1 K
end
structure Km (rb : Nat) (w0 w1 : World) (v1 : Value) (kv1 : List Value) (u : Value) (ks : List Int) : Prop where
 own : Own rb w1 v1 kv1 u ks
 new : ∀ g, u.ownBlock = some g -> w0.heap.size <= g
section
variable {rb : Nat} {ts : List za} {tv : Value} {en : Nat} {w w0 w1 w2 : World} {v v1 v2 : Value} {kv K : List Value} {s s1 s2 : PS}
theorem Sm.begin (h : Mdr rb ts tv en w v kv s) : Sm rb ts tv en w v kv w v [] s := ⟨h.lt, fun k e => (World.ownsRow.lt h.nd.own k e).1, by rw [List.append_nil]; exact h, Rg.refl _ _ _⟩
theorem Sm.low (h : Sm rb ts tv en w v kv w1 v1 K s1) : Below rb w w1 :=
 ⟨h.rg.os, h.rg.tape, h.rg.output, h.rg.size, fun k hk => h.rg.block k (Nat.lt_trans hk h.lt) (by omega) (fun e => by have := h.ov k e; omega)⟩
theorem Sm.u (h : Sm rb ts tv en w v kv w1 v1 K s1) (h1 : Mdr rb ts tv en w2 v1 (kv ++ K) s2) (h2 : Rg rb w1 v1 w2 v1 []) : Sm rb ts tv en w v kv w2 v1 K s2 :=
 ⟨h.lt, h.ov, h1, by simpa using h.rg.trans h2⟩
theorem Sm.below (h : Sm rb ts tv en w v kv w1 v1 K s1) (hb : Below w1.heap.size w1 w2) : Sm rb ts tv en w v kv w2 v1 K s1 := h.u (h.rd.below hb) (Rg.of_below hb)
theorem Sm.e (h : Sm rb ts tv en w v kv w1 v1 K s1) {k1 : List Value} (h1 : Sm rb ts tv en w1 v1 (kv ++ K) w2 v2 k1 s2) : Sm rb ts tv en w v kv w2 v2 (K ++ k1) s2 :=
 ⟨h.lt, h.ov, by rw [<- List.append_assoc]; exact h1.rd, h.rg.trans h1.rg⟩
end
section
variable {rb : Nat} {ts : List za} {tv : Value} {en : Nat} {w w0 w1 w2 : World} {v v1 v2 : Value} {kv K : List Value} {s s1 s2 : PS} {u : Value} {ks : List Int}
theorem Km.zero (rb : Nat) (w0 w1 : World) (v1 : Value) (kv1 : List Value) : Km rb w0 w1 v1 kv1 (.slice none 0 0) [] := ⟨Own.nil _ _ _ _, fun g h => by simp [Value.ownBlock] at h⟩
theorem Km.keep {kv1 k1 : List Value} (h : Km rb w0 w1 v1 kv1 u ks) (hs : Sm rb ts tv en w1 v1 kv1 w2 v2 k1 s2) : Km rb w0 w2 v2 (kv1 ++ k1) u ks := by
 have hl : ∀ g, u.ownBlock = some g -> rb < g /\ g < w1.heap.size := fun g e => by have := World.ownsRow.lt h.own.row g e; omega
 refine ⟨⟨?_, fun g e hv => ?_, fun y g hy hg e => ?_⟩, h.new⟩
 · obtain ⟨h1, h2⟩ := h.own.row
   refine ⟨h1, ?_⟩
   rcases h2 with h2 | ⟨g, cap, cur, hv, hg, hc, r⟩
   · exact .inl h2
   · have e : u.ownBlock = some g := by rw [hv]; rfl
     have := hl g e
     exact .inr ⟨g, cap, cur, hv, hg, by rw [hs.rg.block g this.2 (by omega) (h.own.ne g e)]; exact hc, r⟩
 · rcases hs.rg.row g hv with h1 | h1
   · exact h.own.ne g e h1
   · have := (hl g e).2
     omega
 · rcases List.mem_append.1 hy with h1 | h1
   · exact h.own.nd y g h1 hg e
   · have := hs.rg.kid y g h1 hg
     have := (hl g e).2
     omega
theorem Km.below {kv1 : List Value} (h : Km rb w0 w1 v1 kv1 u ks) (hb : Below w1.heap.size w1 w2) : Km rb w0 w2 v1 kv1 u ks := ⟨⟨h.own.row.below hb, h.own.ne, h.own.nd⟩, h.new⟩
theorem Km.laid (h : Sm rb ts tv en w v kv w1 v1 K s1) (ks : List Int) (hk : ks.length <= 1048576) : Km rb w (w1.alloc (.cells (icl ks).toArray 3)) v1 (kv ++ K) (.slice (some ⟨w1.heap.size, 0, none⟩) ks.length ks.length) ks := by
 refine ⟨⟨IR.new (B := rb + 1) (w := w1) ks (by have := h.rd.lt; omega) hk, fun g hg e => ?_, fun y g hy hg e => ?_⟩, fun g hg => ?_⟩
 · have := (World.ownsRow.lt h.rd.nd.own g e).2
   simp [Value.ownBlock] at hg
   omega
 · have := (zg9 h.rd hy hg).2
   simp [Value.ownBlock] at e
   omega
 · simp [Value.ownBlock] at hg
   have := h.rg.size
   omega
theorem Km.grow (h : Sm rb ts tv en w v kv w1 v1 K s1) (hk : Km rb w w1 v1 (kv ++ K) u ks) {o : Obj} {u' : Value} {x : Int} (hown : w2.ownsRow (rb + 1) 3 1 u' (ks.length + 1) (icl ks ++ [.int .i64 x])) (hg : (w1.alloc o).grownBy w2 u.ownBlock) (hat : u'.ownBlock = u.ownBlock \/ u'.ownBlock = some (w1.heap.size + 1)) :
 Sm rb ts tv en w v kv w2 v1 K s1 /\ Km rb w w2 v1 (kv ++ K) u' (ks ++ [x]) := by
 have a0 : Below w1.heap.size w1 (w1.alloc o) := (Below.refl _ _).alloc (Nat.le_refl _) _
 have ha := h.below a0
 have hu : ∀ g, u.ownBlock = some g -> rb < g /\ g < w1.heap.size := fun g e => by have := World.ownsRow.lt hk.own.row g e; omega
 have hbk : ∀ k, k < (w1.alloc o).heap.size -> u.ownBlock ≠ some k -> w2.heap[k]? = (w1.alloc o).heap[k]? := fun k h1 h2 => hg.block k h1 (fun e => h2 e.symm)
 have hrbu : u.ownBlock ≠ some rb := fun e => by have := (hu rb e).1; omega
 have hb := hbk rb ha.rd.lt hrbu
 have hc : ∀ i, w2.cell? ⟨rb, i, Option.none⟩ = (w1.alloc o).cell? ⟨rb, i, Option.none⟩ := fun i => World.cell?_of_block (a := ⟨rb, i, Option.none⟩) hb
 have vu : v1.ownBlock = Option.none \/ v1.ownBlock ≠ u.ownBlock := by
  cases hq : v1.ownBlock with
  | none => exact .inl rfl
  | some g => exact .inr (fun e => hk.own.ne g e.symm hq)
 have rdd : Mdr rb ts tv en w2 v1 (kv ++ K) s1 := by
  refine ⟨Nat.lt_of_lt_of_le ha.rd.lt hg.size, by rw [hc]; exact ha.rd.c0, by rw [hc]; exact ha.rd.c1, by rw [hc]; exact ha.rd.c2, by rw [hc]; exact ha.rd.c3, by rw [hc]; exact ha.rd.c4, by rw [hc]; exact ha.rd.c5, by rw [hc]; exact ha.rd.c6, fun i => by rw [World.frozen?_of_block (a := ⟨rb, i, Option.none⟩) hb]; exact ha.rd.fz i, ?_, ha.rd.tlt, ha.rd.il, ha.rd.tl, ha.rd.dl, ha.rd.kl, ⟨ha.rd.nd.len, World.ownsRow.kept ha.rd.nd.own hg vu, fun j y z hy hz => World.ownsRow.kept (ha.rd.nd.kid j y z hy hz) hg ?_, ha.rd.nd.ne, ha.rd.nd.nd⟩⟩
  · refine World.ownsRow.kept ha.rd.tk hg ?_
    cases hq : tv.ownBlock with
    | none => exact .inl rfl
    | some g => exact .inr (fun e => by have := ha.rd.tlt g hq; have := (hu g e.symm).1; omega)
  · cases hq : z.ownBlock with
    | none => exact .inl rfl
    | some g => exact .inr (fun e => hk.own.nd z g (List.mem_of_getElem? hz) hq e.symm)
 refine ⟨⟨h.lt, h.ov, rdd, ⟨hg.os.trans ha.rg.os, hg.tape.trans ha.rg.tape, hg.output.trans ha.rg.output, Nat.le_trans ha.rg.size hg.size, fun k hk1 hk2 hk3 => ?_, ha.rg.row, ha.rg.kid⟩⟩, ⟨⟨?_, fun g e hv => ?_, fun y g hy hyg e => ?_⟩, fun g e => ?_⟩⟩
 · rw [hbk k (Nat.lt_of_lt_of_le hk1 ha.rg.size) (fun e => by have := hk.new k e; omega)]
   exact ha.rg.block k hk1 hk2 hk3
 · unfold IR
   rw [zfn, List.length_append]
   exact hown
 · rcases hat with h1 | h1
   · exact hk.own.ne g (h1 ▸ e) hv
   · have h2 := (World.ownsRow.lt h.rd.nd.own g hv).2
     rw [h1] at e
     injection e with e
     try simp at e
     omega
 · rcases hat with h1 | h1
   · exact hk.own.nd y g hy hyg (h1 ▸ e)
   · have h2 := (zg9 h.rd hy hyg).2
     rw [h1] at e
     injection e with e
     try simp at e
     omega
 · rcases hat with h1 | h1
   · exact hk.new g (h1 ▸ e)
   · rw [h1] at e
     injection e with e
     try simp at e
     have := h.rg.size
     omega
theorem Km.growN (h : Sm rb ts tv en w v kv w1 v1 K s1) (hk : Km rb w w1 v1 (kv ++ K) u ks) {u' : Value} {zs : List Int} (hown : w2.ownsRow (rb + 1) 3 1 u' (ks.length + zs.length) (icl ks ++ icl zs)) (hg : w1.grownBy w2 u.ownBlock) (hat : u'.ownBlock = u.ownBlock \/ u'.ownBlock = some w1.heap.size) :
 Sm rb ts tv en w v kv w2 v1 K s1 /\ Km rb w w2 v1 (kv ++ K) u' (ks ++ zs) := by
 have ha := h
 have hu : ∀ g, u.ownBlock = some g -> rb < g /\ g < w1.heap.size := fun g e => by have := World.ownsRow.lt hk.own.row g e; omega
 have hbk : ∀ k, k < w1.heap.size -> u.ownBlock ≠ some k -> w2.heap[k]? = w1.heap[k]? := fun k h1 h2 => hg.block k h1 (fun e => h2 e.symm)
 have hrbu : u.ownBlock ≠ some rb := fun e => by have := (hu rb e).1; omega
 have hb := hbk rb ha.rd.lt hrbu
 have hc : ∀ i, w2.cell? ⟨rb, i, Option.none⟩ = w1.cell? ⟨rb, i, Option.none⟩ := fun i => World.cell?_of_block (a := ⟨rb, i, Option.none⟩) hb
 have vu : v1.ownBlock = Option.none \/ v1.ownBlock ≠ u.ownBlock := by
  cases hq : v1.ownBlock with
  | none => exact .inl rfl
  | some g => exact .inr (fun e => hk.own.ne g e.symm hq)
 have rdd : Mdr rb ts tv en w2 v1 (kv ++ K) s1 := by
  refine ⟨Nat.lt_of_lt_of_le ha.rd.lt hg.size, by rw [hc]; exact ha.rd.c0, by rw [hc]; exact ha.rd.c1, by rw [hc]; exact ha.rd.c2, by rw [hc]; exact ha.rd.c3, by rw [hc]; exact ha.rd.c4, by rw [hc]; exact ha.rd.c5, by rw [hc]; exact ha.rd.c6, fun i => by rw [World.frozen?_of_block (a := ⟨rb, i, Option.none⟩) hb]; exact ha.rd.fz i, ?_, ha.rd.tlt, ha.rd.il, ha.rd.tl, ha.rd.dl, ha.rd.kl, ⟨ha.rd.nd.len, World.ownsRow.kept ha.rd.nd.own hg vu, fun j y z hy hz => World.ownsRow.kept (ha.rd.nd.kid j y z hy hz) hg ?_, ha.rd.nd.ne, ha.rd.nd.nd⟩⟩
  · refine World.ownsRow.kept ha.rd.tk hg ?_
    cases hq : tv.ownBlock with
    | none => exact .inl rfl
    | some g => exact .inr (fun e => by have := ha.rd.tlt g hq; have := (hu g e.symm).1; omega)
  · cases hq : z.ownBlock with
    | none => exact .inl rfl
    | some g => exact .inr (fun e => hk.own.nd z g (List.mem_of_getElem? hz) hq e.symm)
 refine ⟨⟨h.lt, h.ov, rdd, ⟨hg.os.trans ha.rg.os, hg.tape.trans ha.rg.tape, hg.output.trans ha.rg.output, Nat.le_trans ha.rg.size hg.size, fun k hk1 hk2 hk3 => ?_, ha.rg.row, ha.rg.kid⟩⟩, ⟨⟨?_, fun g e hv => ?_, fun y g hy hyg e => ?_⟩, fun g e => ?_⟩⟩
 · rw [hbk k (Nat.lt_of_lt_of_le hk1 ha.rg.size) (fun e => by have := hk.new k e; omega)]
   exact ha.rg.block k hk1 hk2 hk3
 · unfold IR
   rw [show icl (ks ++ zs) = icl ks ++ icl zs by simp [icl], List.length_append]
   exact hown
 · rcases hat with h1 | h1
   · exact hk.own.ne g (h1 ▸ e) hv
   · have h2 := (World.ownsRow.lt h.rd.nd.own g hv).2
     rw [h1] at e
     injection e with e
     try simp at e
     omega
 · rcases hat with h1 | h1
   · exact hk.own.nd y g hy hyg (h1 ▸ e)
   · have h2 := (zg9 h.rd hy hyg).2
     rw [h1] at e
     injection e with e
     try simp at e
     omega
 · rcases hat with h1 | h1
   · exact hk.new g (h1 ▸ e)
   · rw [h1] at e
     injection e with e
     try simp at e
     have := h.rg.size
     omega
end
structure Rf (rb : Nat) (w : World) (v : Value) (w' : World) : Prop where
 os : w'.os = w.os
 tape : w'.tape = w.tape
 output : w'.output = w.output
 size : w.heap.size <= w'.heap.size
 block : ∀ k, k < w.heap.size -> k ≠ rb -> v.ownBlock ≠ some k -> w'.heap[k]? = w.heap[k]?
theorem Rf.refl (rb : Nat) (w : World) (v : Value) : Rf rb w v w := ⟨rfl, rfl, rfl, Nat.le_refl _, fun _ _ _ _ => rfl⟩
theorem Rf.next {rb : Nat} {w w1 w2 : World} {v : Value} (h : Rf rb w v w1) (b : Below w1.heap.size w1 w2) : Rf rb w v w2 := ⟨b.os.trans h.os, b.tape.trans h.tape, b.output.trans h.output, Nat.le_trans h.size b.size, fun k hk h1 h2 => (b.block k (Nat.lt_of_lt_of_le hk h.size)).trans (h.block k hk h1 h2)⟩
theorem Rf.trans {rb : Nat} {w w1 w2 : World} {v : Value} (h : Rf rb w v w1) (b : Rf rb w1 v w2) : Rf rb w v w2 := ⟨b.os.trans h.os, b.tape.trans h.tape, b.output.trans h.output, Nat.le_trans h.size b.size, fun k hk h1 h2 => (b.block k (Nat.lt_of_lt_of_le hk h.size) h1 h2).trans (h.block k hk h1 h2)⟩
theorem Rf.put {rb : Nat} {w w1 : World} {v : Value} (h : Rf rb w v w1) (i : Nat) (u : Value) : Rf rb w v (w1.setCell ⟨rb, i, none⟩ u) := ⟨h.os, h.tape, h.output, by simpa using h.size, fun k hk h1 h2 => (Below.heap_setCell w1 ⟨rb, i, none⟩ u k h1).trans (h.block k hk h1 h2)⟩
theorem Rf.of_rg {rb : Nat} {w w1 w2 : World} {v v1 : Value} {K : List Value} (h : Rg rb w v w1 v1 K) (b : Rf rb w1 v1 w2) : Rf rb w v w2 := ⟨b.os.trans h.os, b.tape.trans h.tape, b.output.trans h.output, Nat.le_trans h.size b.size, fun k hk h1 h2 => (b.block k (Nat.lt_of_lt_of_le hk h.size) h1 (fun e => by
 rcases h.row k e with g | g
 · exact h2 g
 · omega)).trans (h.block k hk h1 h2)⟩
theorem Rf.low {rb : Nat} {w w1 : World} {v : Value} (h : Rf rb w v w1) (hl : rb < w.heap.size) (hv : ∀ k, v.ownBlock = some k -> rb < k) : Below rb w w1 := ⟨h.os, h.tape, h.output, h.size, fun k hk => h.block k (by omega) (by omega) (fun e => by have := hv k e; omega)⟩
structure Fl (rb : Nat) (w : World) (c a : Int) : Prop where
 lt : rb < w.heap.size
 c3 : w.cell? ⟨rb, 3, none⟩ = some (.int .i64 c)
 c4 : w.cell? ⟨rb, 4, none⟩ = some (.int .i64 a)
 c5 : ∃ d, w.cell? ⟨rb, 5, none⟩ = some (.int .i64 d)
 fz : ∀ i, w.frozen? ⟨rb, i, none⟩ = false
 ne : c ≠ 0
theorem Fl.below {rb : Nat} {w w' : World} {c a : Int} (h : Fl rb w c a) (hb : Below w.heap.size w w') : Fl rb w' c a := by
 have e := fun i => hb.cell (p := ⟨rb, i, none⟩) h.lt
 obtain ⟨d, hd⟩ := h.c5
 exact ⟨Nat.lt_of_lt_of_le h.lt hb.size, by rw [e]; exact h.c3, by rw [e]; exact h.c4, ⟨d, by rw [e]; exact hd⟩, fun i => by rw [World.frozen?_of_block (w := w) (hb.block rb h.lt)]; exact h.fz i, h.ne⟩
theorem Fl.put5 {rb : Nat} {w : World} {c a : Int} (h : Fl rb w c a) (d : Int) : Fl rb (w.setCell ⟨rb, 5, none⟩ (.int .i64 d)) c a := by
 have o : ∀ i, i ≠ 5 -> (w.setCell ⟨rb, 5, none⟩ (.int .i64 d)).cell? ⟨rb, i, none⟩ = w.cell? ⟨rb, i, none⟩ := fun i hi => World.cell?_setCell_other _ _ _ _ (fun e => by have := congrArg Addr.off e; simp at this; omega)
 obtain ⟨d', hd⟩ := h.c5
 exact ⟨by simpa using h.lt, by rw [o 3 (by omega)]; exact h.c3, by rw [o 4 (by omega)]; exact h.c4, ⟨d, World.cell?_setCell_same' _ _ _ (by rw [hd]; rfl)⟩, fun i => by simp [go_sem, h.fz], h.ne⟩
theorem Fl.put4 {rb : Nat} {w : World} {c a : Int} (h : Fl rb w c a) (d : Int) : Fl rb (w.setCell ⟨rb, 4, none⟩ (.int .i64 d)) c d := by
 have o : ∀ i, i ≠ 4 -> (w.setCell ⟨rb, 4, none⟩ (.int .i64 d)).cell? ⟨rb, i, none⟩ = w.cell? ⟨rb, i, none⟩ := fun i hi => World.cell?_setCell_other _ _ _ _ (fun e => by have := congrArg Addr.off e; simp at this; omega)
 obtain ⟨d', hd⟩ := h.c5
 exact ⟨by simpa using h.lt, by rw [o 3 (by omega)]; exact h.c3, World.cell?_setCell_same' _ _ _ (by rw [h.c4]; rfl), ⟨d', by rw [o 5 (by omega)]; exact hd⟩, fun i => by simp [go_sem, h.fz], h.ne⟩
theorem Mdr.fail {rb : Nat} {ts : List za} {tv : Value} {en : Nat} {w : World} {v : Value} {kv : List Value} {s : PS} (h : Mdr rb ts tv en w v kv s) (c a : Int) (hc : c ≠ 0) : Fl rb ((w.setCell ⟨rb, 3, none⟩ (.int .i64 c)).setCell ⟨rb, 4, none⟩ (.int .i64 a)) c a := by
 have o : ∀ i, i ≠ 3 -> (w.setCell ⟨rb, 3, none⟩ (.int .i64 c)).cell? ⟨rb, i, none⟩ = w.cell? ⟨rb, i, none⟩ := fun i hi => World.cell?_setCell_other _ _ _ _ (fun e => by have := congrArg Addr.off e; simp at this; omega)
 have o' : ∀ i, i ≠ 4 -> ((w.setCell ⟨rb, 3, none⟩ (.int .i64 c)).setCell ⟨rb, 4, none⟩ (.int .i64 a)).cell? ⟨rb, i, none⟩ = (w.setCell ⟨rb, 3, none⟩ (.int .i64 c)).cell? ⟨rb, i, none⟩ := fun i hi => World.cell?_setCell_other _ _ _ _ (fun e => by have := congrArg Addr.off e; simp at this; omega)
 exact ⟨by simpa using h.lt, by rw [o' 3 (by omega)]; exact World.cell?_setCell_same' _ _ _ (by rw [h.c3]; rfl), World.cell?_setCell_same' _ _ _ (by rw [o 4 (by omega), h.c4]; rfl), ⟨s.d, by rw [o' 5 (by omega), o 5 (by omega)]; exact h.c5⟩, fun i => by simp [go_sem, h.fz], hc⟩
theorem wr1 {n : Nat} (h : n <= 100000) : IntKind.i64.wrap ((n : Int) + 1) = ((n + 1 : Nat) : Int) := by rw [IntKind.wrap_i64]; omega
set_option maxHeartbeats 1000000 in
theorem zi0 (rb : Nat) (w : World) (c a : Int) (h : Fl rb w c a) (c' : Int) :
 Calls Tryz.prog 83 #[.pointer (some ⟨rb, 0, none⟩), .int .i64 c'] w fun e w' => e = .returned (.int .i64 (-1)) /\ Below w.heap.size w w' := by
 have lt := h.lt
 have c3 := h.c3
 have ne := h.ne
 clear h
 go_enter Tryz.func83, Tryz.ntmps83
 go_wp2
 go_ret
 exact ⟨rfl, Below.refl _ _⟩
set_option maxHeartbeats 1000000 in
theorem zg8 (rb : Nat) (ts : List za) (tv : Value) (en : Nat) (w : World) (v : Value) (kv : List Value) (s : PS) (h : Mdr rb ts tv en w v kv s) (c : Int) (hc : c ≠ 0) (hx : ts[s.i]? = none) :
 Calls Tryz.prog 83 #[.pointer (some ⟨rb, 0, none⟩), .int .i64 c] w fun e w' => e = .returned (.int .i64 (-1)) /\ Fl rb w' c (en : Int) /\ Rf rb w v w' := by
 have hi : ¬ (s.i : Int) < (ts.length : Int) := by have := List.getElem?_eq_none_iff.1 hx; omega
 have hs3 : s.i <= 3000 := by have := h.tl; have := h.il; omega
 have hl3 : ts.length <= 3000 := h.tl
 have HR : Hid (Mdr rb ts tv en w v kv s) := h
 have lt := h.lt
 have c0 := h.c0
 have c1 := h.c1
 have c3 := h.c3
 have fz := h.fz
 have c4 := h.c4
 have c6 := h.c6
 obtain ⟨ta, tc, rfl⟩ := h.tform
 clear h hx
 generalize s.i = si at *
 go_enter Tryz.func83, Tryz.ntmps83
 go_wp2
 go_quiet (fail)
 go_wp2
 go_ret
 exact ⟨rfl, (HR.out.fail c en hc).below (below_drewN (Below.refl _ _) _), (((Rf.refl _ _ _).put _ _).put _ _).next (below_drewN (Below.refl _ _) _)⟩
set_option maxHeartbeats 1000000 in
theorem zm6 (rb : Nat) (ts : List za) (tv : Value) (en : Nat) (w : World) (v : Value) (kv : List Value) (s : PS) (h : Mdr rb ts tv en w v kv s) (c : Int) (hc : c ≠ 0) (x : za) (hx : ts[s.i]? = some x) :
 Calls Tryz.prog 83 #[.pointer (some ⟨rb, 0, none⟩), .int .i64 c] w fun e w' => e = .returned (.int .i64 (-1)) /\ Fl rb w' c (x.at_ : Int) /\ Rf rb w v w' := by
 have hi : (s.i : Int) < (ts.length : Int) := by obtain ⟨hl, _⟩ := List.getElem?_eq_some_iff.1 hx; omega
 have hs3 : s.i <= 3000 := by have := h.tl; have := h.il; omega
 have hl3 : ts.length <= 3000 := h.tl
 have HR : Hid (Mdr rb ts tv en w v kv s) := h
 have lt := h.lt
 have c0 := h.c0
 have c1 := h.c1
 have c3 := h.c3
 have fz := h.fz
 have c4 := h.c4
 have c6 := h.c6
 obtain ⟨g, ct, rfl, lg, lgw, hsl, t0, t1, t2, t3⟩ := h.tok hx
 have gr : ¬ g = rb := by omega
 clear h hx t0 t2 t3
 obtain ⟨si, sd, sn⟩ := s
 dsimp only at *
 go_enter Tryz.func83, Tryz.ntmps83
 go_wp2
 go_quiet (fail)
 go_upto_region 5 with fail
 go_region
 go_wp2
 go_ret
 refine ⟨rfl, ?_, ?_⟩
 · exact ((HR.out.fail c en hc).below (below_drewN (Below.refl _ _) _)).put4 _
 · exact ((((Rf.refl _ _ _).put _ _).put _ _).next (below_drewN (Below.refl _ _) _)).put _ _
theorem zev (rb : Nat) (ts : List za) (tv : Value) (en : Nat) (w : World) (v : Value) (kv : List Value) (s : PS) (h : Mdr rb ts tv en w v kv s) (c : Int) (hc : c ≠ 0) (he : ts[s.i]? = none -> c = 2) :
 Calls Tryz.prog 83 #[.pointer (some ⟨rb, 0, none⟩), .int .i64 c] w fun e w' => e = .returned (.int .i64 (-1)) /\ Fl rb w' (fh ts en c s).1 (fh ts en c s).2 /\ Rf rb w v w' := by
 cases hx : ts[s.i]? with
 | none =>
   have e : fh ts en c s = (c, (en : Int)) := by unfold fh; rw [hx, he hx]
   rw [e]
   exact zg8 rb ts tv en w v kv s h c hc hx
 | some x =>
   have e : fh ts en c s = (c, (x.at_ : Int)) := by unfold fh; rw [hx]
   rw [e]
   exact zm6 rb ts tv en w v kv s h c hc x hx
set_option maxHeartbeats 1000000 in
theorem zgf (rb : Nat) (w : World) (c a : Int) (h : Fl rb w c a) (b : ByteArray) :
 Calls Tryz.prog 33 #[.pointer (some ⟨rb, 0, none⟩), .string b] w fun e w' => e = .returned (.bool false) /\ Below w.heap.size w w' := by
 have lt := h.lt
 have c3 := h.c3
 have ne := h.ne
 clear h
 go_enter Tryz.func33, Tryz.ntmps33
 go_wp2
 go_quiet (fail)
 go_wp2
 go_ret
 exact ⟨rfl, below_drewN (Below.refl _ _) _⟩
set_option maxHeartbeats 1000000 in
theorem zqb (rb : Nat) (ts : List za) (tv : Value) (en : Nat) (w : World) (v : Value) (kv : List Value) (s : PS) (h : Mdr rb ts tv en w v kv s) (b : ByteArray) (hx : ts[s.i]? = none) :
 Calls Tryz.prog 33 #[.pointer (some ⟨rb, 0, none⟩), .string b] w fun e w' => e = .returned (.bool false) /\ Below w.heap.size w w' := by
 have hi : (ts.length : Int) <= (s.i : Int) := by have := List.getElem?_eq_none_iff.1 hx; omega
 have hs3 : s.i <= 3000 := by have := h.tl; have := h.il; omega
 have hl3 : ts.length <= 3000 := h.tl
 have HR : Hid (Mdr rb ts tv en w v kv s) := h
 have lt := h.lt
 have c0 := h.c0
 have c1 := h.c1
 have c3 := h.c3
 have fz := h.fz
 obtain ⟨ta, tc, rfl⟩ := h.tform
 clear h hx
 generalize s.i = si at *
 go_enter Tryz.func33, Tryz.ntmps33
 go_wp2
 go_quiet (fail)
 go_wp2
 go_ret
 exact ⟨rfl, below_drewN (Below.refl _ _) _⟩
set_option maxHeartbeats 1000000 in
theorem zqc (rb : Nat) (ts : List za) (tv : Value) (en : Nat) (w : World) (v : Value) (kv : List Value) (s : PS) (h : Mdr rb ts tv en w v kv s) (b : ByteArray) (x : za) (hx : ts[s.i]? = some x) :
 Calls Tryz.prog 33 #[.pointer (some ⟨rb, 0, none⟩), .string b] w fun e w' => e = .returned (.bool (isT x b)) /\ Below w.heap.size w w' := by
 have hi : (s.i : Int) < (ts.length : Int) := by obtain ⟨hl, _⟩ := List.getElem?_eq_some_iff.1 hx; omega
 have hs3 : s.i <= 3000 := by have := h.tl; have := h.il; omega
 have hl3 : ts.length <= 3000 := h.tl
 have HR : Hid (Mdr rb ts tv en w v kv s) := h
 have lt := h.lt
 have c0 := h.c0
 have c1 := h.c1
 have c3 := h.c3
 have fz := h.fz
 obtain ⟨g, ct, rfl, lg, lgw, hsl, t0, t1, t2, t3⟩ := h.tok hx
 clear h hx
 obtain ⟨si, sd, sn⟩ := s
 dsimp only at *
 go_enter Tryz.func33, Tryz.ntmps33
 go_wp2
 go_quiet (fail)
 go_upto_region 3 with fail
 obtain ⟨W, hW⟩ : ∃ V, V = w.drewN nq := ⟨_, rfl⟩
 have bW : Below w.heap.size w W := by rw [hW]; exact below_drewN (Below.refl _ _) _
 have d0 := (bW.cell (p := ⟨rb, 0, none⟩) lt).trans c0
 have d1 := (bW.cell (p := ⟨rb, 1, none⟩) lt).trans c1
 have e0 := (bW.cell (p := ⟨g, si * 4, none⟩) lgw).trans t0
 have e1 := (bW.cell (p := ⟨g, si * 4 + 1, none⟩) lgw).trans t1
 have e2 := (bW.cell (p := ⟨g, si * 4 + 2, none⟩) lgw).trans t2
 have e3 := (bW.cell (p := ⟨g, si * 4 + 3, none⟩) lgw).trans t3
 have lW : rb < W.heap.size := Nat.lt_of_lt_of_le lt bW.size
 have lG : g < W.heap.size := Nat.lt_of_lt_of_le lgw bW.size
 have HB : Hid (Below w.heap.size w W) := bW
 rw [<- hW]
 clear hW bW c0 c1 c3 t0 t1 t2 t3 fz lt lgw
 go_region
 obtain ⟨V, hV⟩ : ∃ U, U = (W.alloc (.cells #[.int .i64 x.k, .int .i64 (x.at_ : Int), .string x.tx, .int .i64 x.n] 68)).drew := ⟨_, rfl⟩
 have bV : Below w.heap.size w V := by rw [hV]; exact zg HB.out (((Below.refl _ _).alloc (Nat.le_refl _) _).drew)
 have f0 : V.cell? ⟨W.heap.size, 0, none⟩ = some (.int .i64 x.k) := by rw [hV]; simp [go_sem]
 have f2 : V.cell? ⟨W.heap.size, 2, none⟩ = some (.string x.tx) := by rw [hV]; simp [go_sem]
 rw [<- hV]
 clear hV d0 d1 e0 e1 e2 e3 lW lG HB HR
 by_cases k2 : x.k = 2
 · have hT : isT x b = (x.tx.toList == b.toList) := by unfold isT; simp [k2]
   go_wp2
   go_ret
   exact ⟨by rw [hT]; rfl, bV⟩
 · by_cases k5 : x.k = 5
   · have hT : isT x b = (x.tx.toList == b.toList) := by unfold isT; simp [k5]
     go_wp2
     go_ret
     exact ⟨by rw [hT]; rfl, bV⟩
   · have hT : isT x b = false := by unfold isT; simp [k2, k5]
     go_wp2
     go_ret
     exact ⟨by rw [hT]; rfl, bV⟩
theorem zee (rb : Nat) (ts : List za) (tv : Value) (en : Nat) (w : World) (v : Value) (kv : List Value) (s : PS) (h : Mdr rb ts tv en w v kv s) (b : ByteArray) (q : Bool) (hq : isN ts b s = q) :
 Calls Tryz.prog 33 #[.pointer (some ⟨rb, 0, none⟩), .string b] w fun e w' => e = .returned (.bool q) /\ Below w.heap.size w w' := by
 cases hx : ts[s.i]? with
 | none =>
   have e : q = false := by rw [<- hq]; unfold isN; rw [hx]
   rw [e]
   exact zqb rb ts tv en w v kv s h b hx
 | some x =>
   have e : q = isT x b := by rw [<- hq]; unfold isN; rw [hx]
   rw [e]
   exact zqc rb ts tv en w v kv s h b x hx
set_option maxHeartbeats 1000000 in
theorem zom (rb : Nat) (w : World) (c a : Int) (h : Fl rb w c a) :
 Calls Tryz.prog 82 #[.pointer (some ⟨rb, 0, none⟩)] w fun e w' => e = .returned (.int .i64 0) /\ Below w.heap.size w w' := by
 have lt := h.lt
 have c3 := h.c3
 have ne := h.ne
 clear h
 go_enter Tryz.func82, Tryz.ntmps82
 go_wp2
 go_quiet (fail)
 go_wp2
 go_ret
 exact ⟨rfl, below_drewN (Below.refl _ _) _⟩
set_option maxHeartbeats 1000000 in
theorem zm7 (rb : Nat) (ts : List za) (tv : Value) (en : Nat) (w : World) (v : Value) (kv : List Value) (s : PS) (h : Mdr rb ts tv en w v kv s) (hx : ts[s.i]? = none) :
 Calls Tryz.prog 82 #[.pointer (some ⟨rb, 0, none⟩)] w fun e w' => e = .returned (.int .i64 0) /\ Below w.heap.size w w' := by
 have hi : (ts.length : Int) <= (s.i : Int) := by have := List.getElem?_eq_none_iff.1 hx; omega
 have hs3 : s.i <= 3000 := by have := h.tl; have := h.il; omega
 have hl3 : ts.length <= 3000 := h.tl
 have HR : Hid (Mdr rb ts tv en w v kv s) := h
 have lt := h.lt
 have c0 := h.c0
 have c1 := h.c1
 have c3 := h.c3
 have fz := h.fz
 obtain ⟨ta, tc, rfl⟩ := h.tform
 clear h hx
 generalize s.i = si at *
 go_enter Tryz.func82, Tryz.ntmps82
 go_wp2
 go_quiet (fail)
 go_wp2
 go_ret
 exact ⟨rfl, below_drewN (Below.refl _ _) _⟩
set_option maxHeartbeats 1000000 in
theorem zm8 (rb : Nat) (ts : List za) (tv : Value) (en : Nat) (w : World) (v : Value) (kv : List Value) (s : PS) (h : Mdr rb ts tv en w v kv s) (x : za) (hx : ts[s.i]? = some x) :
 Calls Tryz.prog 82 #[.pointer (some ⟨rb, 0, none⟩)] w fun e w' => e = .returned (.int .i64 x.k) /\ Below w.heap.size w w' := by
 have hi : (s.i : Int) < (ts.length : Int) := by obtain ⟨hl, _⟩ := List.getElem?_eq_some_iff.1 hx; omega
 have hs3 : s.i <= 3000 := by have := h.tl; have := h.il; omega
 have hl3 : ts.length <= 3000 := h.tl
 have HR : Hid (Mdr rb ts tv en w v kv s) := h
 have lt := h.lt
 have c0 := h.c0
 have c1 := h.c1
 have c3 := h.c3
 have fz := h.fz
 obtain ⟨g, ct, rfl, lg, lgw, hsl, t0, t1, t2, t3⟩ := h.tok hx
 clear h hx t1 t2 t3
 obtain ⟨si, sd, sn⟩ := s
 dsimp only at *
 go_enter Tryz.func82, Tryz.ntmps82
 go_wp2
 go_quiet (fail)
 go_upto_region 3 with fail
 go_quiet (fail)
 go_wp2
 go_ret
 exact ⟨rfl, below_drewN (below_drewN (Below.refl _ _) _) _⟩
def kdO (ts : List za) (s : PS) : Int := match ts[s.i]? with
 | none => 0
 | some x => x.k
theorem zf0 (rb : Nat) (ts : List za) (tv : Value) (en : Nat) (w : World) (v : Value) (kv : List Value) (s : PS) (h : Mdr rb ts tv en w v kv s) : Calls Tryz.prog 82 #[.pointer (some ⟨rb, 0, none⟩)] w fun e w' => e = .returned (.int .i64 (kdO ts s)) /\ Below w.heap.size w w' := by
 cases hx : ts[s.i]? with
 | none =>
   have e : kdO ts s = 0 := by unfold kdO; rw [hx]
   rw [e]
   exact zm7 rb ts tv en w v kv s h hx
 | some x =>
   have e : kdO ts s = x.k := by unfold kdO; rw [hx]
   rw [e]
   exact zm8 rb ts tv en w v kv s h x hx
theorem zah {ts : List za} {b : ByteArray} {s : PS} (h : isN ts b s = true) : ∃ x, ts[s.i]? = some x /\ s.i < ts.length := by
 unfold isN at h
 cases hx : ts[s.i]? with
 | none => rw [hx] at h; cases h
 | some x => exact ⟨x, rfl, (List.getElem?_eq_some_iff.1 hx).1⟩
set_option maxHeartbeats 1000000 in
theorem zm9 (rb : Nat) (ts : List za) (tv : Value) (en : Nat) (w : World) (v : Value) (kv : List Value) (s : PS) (h : Mdr rb ts tv en w v kv s) (b : ByteArray) (hq : isN ts b s = true) :
 Calls Tryz.prog 35 #[.pointer (some ⟨rb, 0, none⟩), .string b] w fun e w' => e = .returned (.tuple #[]) /\ Mdr rb ts tv en w' v kv (adv s) /\ Rg rb w v w' v [] := by
 obtain ⟨x, hx, hl⟩ := zah hq
 have HR : Hid (Mdr rb ts tv en w v kv s) := h
 have HQ : Hid (isN ts b s = true) := hq
 have hs3 : s.i <= 100000 := by have := h.tl; omega
 clear h hq hx
 go_enter Tryz.func35, Tryz.ntmps35
 go_wp2_with fail
 refine (zee rb ts tv en w v kv s HR.out b true HQ.out).mono ?_
 rintro e w1 ⟨rfl, b1⟩
 have R1 := HR.out.below b1
 have lt := R1.lt
 have c1 := R1.c1
 have fz := R1.fz
 have hw := wr1 hs3
 have HR1 : Hid (Mdr rb ts tv en w1 v kv s) := R1
 have HB1 : Hid (Below w.heap.size w w1) := b1
 clear R1 b1
 go_wp2
 go_end0
 have R := HR1.out.put1 (s.i + 1) (by omega)
 exact ⟨rfl, R.1, (Rg.of_below HB1.out).trans R.2⟩
set_option maxHeartbeats 1000000 in
theorem zon (rb : Nat) (ts : List za) (tv : Value) (en : Nat) (w : World) (v : Value) (kv : List Value) (s : PS) (h : Mdr rb ts tv en w v kv s) (b : ByteArray) (hq : isN ts b s = false) :
 Calls Tryz.prog 35 #[.pointer (some ⟨rb, 0, none⟩), .string b] w fun e w' => e = .returned (.tuple #[]) /\ Fl rb w' (fh ts en 2 s).1 (fh ts en 2 s).2 /\ Rf rb w v w' := by
 have HR : Hid (Mdr rb ts tv en w v kv s) := h
 have HQ : Hid (isN ts b s = false) := hq
 clear h hq
 go_enter Tryz.func35, Tryz.ntmps35
 go_wp2_with fail
 refine (zee rb ts tv en w v kv s HR.out b false HQ.out).mono ?_
 rintro e w1 ⟨rfl, b1⟩
 have HR1 : Hid (Mdr rb ts tv en w1 v kv s) := HR.out.below b1
 have HB1 : Hid (Rf rb w v w1) := (Rf.refl _ _ _).next b1
 clear b1
 go_wp2_with fail
 refine (zev rb ts tv en w1 v kv s HR1.out 2 (by decide) (fun _ => rfl)).mono ?_
 rintro e w2 ⟨rfl, F2, b2⟩
 have HF : Hid _ := F2
 have HB2 := HB1.out.trans b2
 clear F2 b2
 go_wp2
 exact bodyPost_ret (results_none (by rfl) _ _ _) rfl ⟨rfl, HF.out, HB2⟩
set_option maxHeartbeats 1000000 in
theorem zm (rb : Nat) (w : World) (c a : Int) (h : Fl rb w c a) (b : ByteArray) :
 Calls Tryz.prog 35 #[.pointer (some ⟨rb, 0, none⟩), .string b] w fun e w' => e = .returned (.tuple #[]) /\ Fl rb w' c a /\ Below w.heap.size w w' := by
 have HR : Hid (Fl rb w c a) := h
 clear h
 go_enter Tryz.func35, Tryz.ntmps35
 go_wp2_with fail
 refine (zgf rb w c a HR.out b).mono ?_
 rintro e w1 ⟨rfl, b1⟩
 have HR1 : Hid (Fl rb w1 c a) := HR.out.below b1
 go_wp2_with fail
 refine (zi0 rb w1 c a HR1.out 2).mono ?_
 rintro e w2 ⟨rfl, b2⟩
 have HF : Hid (Fl rb w2 c a) := HR1.out.below b2
 have HB2 := zg b1 b2
 clear b1 b2
 go_wp2
 exact bodyPost_ret (results_none (by rfl) _ _ _) rfl ⟨rfl, HF.out, HB2⟩
set_option maxHeartbeats 1000000 in
theorem zoo (rb : Nat) (w : World) (c a : Int) (h : Fl rb w c a) :
 Calls Tryz.prog 34 #[.pointer (some ⟨rb, 0, none⟩)] w fun e w' => e = .returned (.string ⟨#[]⟩) /\ Fl rb w' c a /\ Below w.heap.size w w' := by
 have HR : Hid (Fl rb w c a) := h
 clear h
 go_enter Tryz.func34, Tryz.ntmps34
 go_wp2_with fail
 refine (zom rb w c a HR.out).mono ?_
 rintro e w1 ⟨rfl, b1⟩
 have HR1 : Hid (Fl rb w1 c a) := HR.out.below b1
 go_wp2_with fail
 refine (zi0 rb w1 c a HR1.out 2).mono ?_
 rintro e w2 ⟨rfl, b2⟩
 have HF : Hid (Fl rb w2 c a) := HR1.out.below b2
 have HB2 := zg b1 b2
 clear b1 b2
 go_wp2
 go_ret
 exact ⟨rfl, HF.out, HB2⟩
set_option maxHeartbeats 1000000 in
theorem zop (rb : Nat) (ts : List za) (tv : Value) (en : Nat) (w : World) (v : Value) (kv : List Value) (s : PS) (h : Mdr rb ts tv en w v kv s) (hq : kdN ts 1 s = false) :
 Calls Tryz.prog 34 #[.pointer (some ⟨rb, 0, none⟩)] w fun e w' => e = .returned (.string ⟨#[]⟩) /\ Fl rb w' (fh ts en 2 s).1 (fh ts en 2 s).2 /\ Rf rb w v w' := by
 have HR : Hid (Mdr rb ts tv en w v kv s) := h
 have hk : ¬ kdO ts s = 1 := by
  unfold kdN at hq
  unfold kdO
  cases hx : ts[s.i]? with
  | none => simp
  | some x => rw [hx] at hq; simpa using hq
 clear h hq
 go_enter Tryz.func34, Tryz.ntmps34
 go_wp2_with fail
 refine (zf0 rb ts tv en w v kv s HR.out).mono ?_
 rintro e w1 ⟨rfl, b1⟩
 have HR1 : Hid (Mdr rb ts tv en w1 v kv s) := HR.out.below b1
 have HB1 : Hid (Rf rb w v w1) := (Rf.refl _ _ _).next b1
 clear b1
 go_wp2_with fail
 refine (zev rb ts tv en w1 v kv s HR1.out 2 (by decide) (fun _ => rfl)).mono ?_
 rintro e w2 ⟨rfl, F2, b2⟩
 have HF : Hid _ := F2
 have HB2 := HB1.out.trans b2
 clear F2 b2
 go_wp2
 go_ret
 exact ⟨rfl, HF.out, HB2⟩
set_option maxHeartbeats 1000000 in
theorem zna (rb : Nat) (ts : List za) (tv : Value) (en : Nat) (w : World) (v : Value) (kv : List Value) (s : PS) (h : Mdr rb ts tv en w v kv s) (x : za) (hx : ts[s.i]? = some x) (hk : x.k = 1) :
 Calls Tryz.prog 34 #[.pointer (some ⟨rb, 0, none⟩)] w fun e w' => e = .returned (.string x.tx) /\ Mdr rb ts tv en w' v kv (adv s) /\ Rg rb w v w' v [] := by
 have HR : Hid (Mdr rb ts tv en w v kv s) := h
 have HX : Hid (ts[s.i]? = some x) := hx
 have hko : kdO ts s = 1 := by unfold kdO; rw [hx]; exact hk
 have hs3 : s.i <= 100000 := by have := h.tl; have := h.il; omega
 clear h hx
 go_enter Tryz.func34, Tryz.ntmps34
 go_wp2_with fail
 refine (zf0 rb ts tv en w v kv s HR.out).mono ?_
 rintro e w1 ⟨rfl, b1⟩
 rw [hko]
 have R1 := HR.out.below b1
 have lt := R1.lt
 have c1 := R1.c1
 have fz := R1.fz
 have hw := wr1 hs3
 have HR1 : Hid (Mdr rb ts tv en w1 v kv s) := R1
 have HB1 : Hid (Below w.heap.size w w1) := b1
 obtain ⟨g, ct, htv, lg, lgw, hsl, t0, t1, t2, t3⟩ := R1.tok HX.out
 have R := R1.put1 (s.i + 1) (by omega)
 have HP : Hid _ := R
 clear R1 b1 t0 t1 t2 t3 hko R
 go_upto_region 5 with fail
 obtain ⟨W, hW⟩ : ∃ V, V = w1.setCell ⟨rb, 1, none⟩ (.int .i64 ((s.i : Int) + 1)) := ⟨_, rfl⟩
 rw [<- hW]
 have RW : Mdr rb ts tv en W v kv (adv s) := by rw [hW]; exact HP.out.1
 have GW : Rg rb w1 v W v [] := by rw [hW]; exact HP.out.2
 have d0 := RW.c0
 have d1 : W.cell? ⟨rb, 1, none⟩ = some (.int .i64 ((s.i : Int) + 1)) := RW.c1
 have lW := RW.lt
 obtain ⟨g', ct', htv', lg', lgw', hsl', u0, u1, u2, u3⟩ := Mdr.tok (s := ⟨s.i, s.d, s.ns⟩) (h := (RW.put1 s.i (by omega)).1) HX.out
 rw [htv'] at d0
 have z1 : g' ≠ rb := by omega
 have u2' : W.cell? ⟨g', s.i * 4 + 2, none⟩ = some (.string x.tx) := by
  rw [World.cell?_setCell_other _ _ _ _ (fun e => z1 (congrArg Addr.block e).symm)] at u2
  exact u2
 have lgW : g' < W.heap.size := by omega
 have hl3 : ts.length <= 3000 := RW.tl
 have HRW : Hid _ := RW
 have HGW : Hid _ := GW
 have wr2 : IntKind.i64.wrap ((s.i : Int) + 1 - 1) = (s.i : Int) := by rw [IntKind.wrap_i64]; omega
 clear RW GW u0 u1 u2 u3 hW HP htv htv' c1 fz lt hw
 generalize s.i = si at *
 go_quiet (fail)
 go_wp2
 go_ret
 exact ⟨rfl, HRW.out.below (below_drewN (Below.refl _ _) _), ((Rg.of_below HB1.out).trans HGW.out).trans (Rg.of_below (below_drewN (Below.refl _ _) _))⟩
set_option maxHeartbeats 1000000 in
theorem zi1 (rb : Nat) (w : World) (c a : Int) (h : Fl rb w c a) :
 Calls Tryz.prog 84 #[.pointer (some ⟨rb, 0, none⟩)] w fun e w' => e = .returned (.bool false) /\ Below w.heap.size w w' := by
 have lt := h.lt
 have c3 := h.c3
 have ne := h.ne
 clear h
 go_enter Tryz.func84, Tryz.ntmps84
 go_wp2
 go_ret
 exact ⟨rfl, Below.refl _ _⟩
set_option maxHeartbeats 1000000 in
theorem znb (rb : Nat) (ts : List za) (tv : Value) (en : Nat) (w : World) (v : Value) (kv : List Value) (s : PS) (h : Mdr rb ts tv en w v kv s) (hx : ts[s.i]? = none) :
 Calls Tryz.prog 84 #[.pointer (some ⟨rb, 0, none⟩)] w fun e w' => e = .returned (.bool false) /\ Fl rb w' 2 (en : Int) /\ Rf rb w v w' := by
 have hi : (ts.length : Int) <= (s.i : Int) := by have := List.getElem?_eq_none_iff.1 hx; omega
 have hs3 : s.i <= 3000 := by have := h.tl; have := h.il; omega
 have hl3 : ts.length <= 3000 := h.tl
 have HR : Hid (Mdr rb ts tv en w v kv s) := h
 have lt := h.lt
 have c0 := h.c0
 have c1 := h.c1
 have c3 := h.c3
 have fz := h.fz
 obtain ⟨ta, tc, rfl⟩ := h.tform
 have HF : Hid (∀ W, Below w.heap.size w W -> _) := fun W hW => zg8 rb ts (.slice ta ts.length tc) en W v kv s (h.below hW) 2 (by decide) hx
 clear h hx
 generalize s.i = si at *
 go_enter Tryz.func84, Tryz.ntmps84
 go_wp2
 go_quiet (fail)
 have bq := below_drewN (Below.refl w.heap.size w) nq
 go_wp2_with fail
 refine (HF.out _ bq).mono ?_
 rintro e w2 ⟨rfl, F2, b2⟩
 have HFF : Hid _ := F2
 have HB2 : Rf rb w v w2 := ((Rf.refl _ _ _).next bq).trans b2
 clear F2 b2 HF
 go_wp2
 go_ret
 exact ⟨rfl, HFF.out, HB2⟩
set_option maxHeartbeats 1000000 in
theorem zlq (rb : Nat) (ts : List za) (tv : Value) (en : Nat) (w : World) (v : Value) (kv : List Value) (s : PS) (h : Mdr rb ts tv en w v kv s) (x : za) (hx : ts[s.i]? = some x) (hd : s.d = 30) :
 Calls Tryz.prog 84 #[.pointer (some ⟨rb, 0, none⟩)] w fun e w' => e = .returned (.bool false) /\ Fl rb w' (fh ts en 3 s).1 (fh ts en 3 s).2 /\ Rf rb w v w' := by
 have hi : (s.i : Int) < (ts.length : Int) := by obtain ⟨hl, _⟩ := List.getElem?_eq_some_iff.1 hx; omega
 have hs3 : s.i <= 3000 := by have := h.tl; have := h.il; omega
 have hl3 : ts.length <= 3000 := h.tl
 have HR : Hid (Mdr rb ts tv en w v kv s) := h
 have lt := h.lt
 have c0 := h.c0
 have c1 := h.c1
 have c3 := h.c3
 have fz := h.fz
 have c5 : w.cell? ⟨rb, 5, none⟩ = some (.int .i64 30) := by rw [h.c5, hd]; rfl
 obtain ⟨ta, tc, rfl⟩ := h.tform
 have HF : Hid (∀ W, Below w.heap.size w W -> _) := fun W hW => zev rb ts (.slice ta ts.length tc) en W v kv s (h.below hW) 3 (by decide) (fun hn => by rw [hn] at hx; cases hx)
 clear h hx hd
 generalize s.i = si at hs3 c1 hi
 go_enter Tryz.func84, Tryz.ntmps84
 go_wp2
 go_quiet (fail)
 have bq := below_drewN (Below.refl w.heap.size w) nq
 go_wp2_with fail
 refine (HF.out _ bq).mono ?_
 rintro e w2 ⟨rfl, F2, b2⟩
 have HFF : Hid _ := F2
 have HB2 : Rf rb w v w2 := ((Rf.refl _ _ _).next bq).trans b2
 clear F2 b2 HF
 go_wp2
 go_ret
 exact ⟨rfl, HFF.out, HB2⟩
set_option maxHeartbeats 1000000 in
theorem znc (rb : Nat) (ts : List za) (tv : Value) (en : Nat) (w : World) (v : Value) (kv : List Value) (s : PS) (h : Mdr rb ts tv en w v kv s) (x : za) (hx : ts[s.i]? = some x) (hd : ¬ s.d = 30) :
 Calls Tryz.prog 84 #[.pointer (some ⟨rb, 0, none⟩)] w fun e w' => e = .returned (.bool true) /\ Mdr rb ts tv en w' v kv ⟨s.i, s.d + 1, s.ns⟩ /\ Rg rb w v w' v [] := by
 have hi : (s.i : Int) < (ts.length : Int) := by obtain ⟨hl, _⟩ := List.getElem?_eq_some_iff.1 hx; omega
 have hs3 : s.i <= 3000 := by have := h.tl; have := h.il; omega
 have hl3 : ts.length <= 3000 := h.tl
 have HR : Hid (Mdr rb ts tv en w v kv s) := h
 have lt := h.lt
 have c0 := h.c0
 have c1 := h.c1
 have c3 := h.c3
 have fz := h.fz
 have c5 := h.c5
 have hd2 : ¬ (30 : Int) <= (s.d : Int) := by have := h.dl; omega
 have hw := wr1 (n := s.d) (by have := h.dl; omega)
 have hd3 : s.d + 1 <= 30 := by have := h.dl; omega
 obtain ⟨ta, tc, htv⟩ := h.tform
 rw [htv] at c0
 clear h hx hd htv
 obtain ⟨si, sd, sn⟩ := s
 dsimp only at *
 go_enter Tryz.func84, Tryz.ntmps84
 go_wp2
 go_quiet (fail)
 have bq := below_drewN (Below.refl w.heap.size w) nq
 go_wp2
 go_ret
 have R := (HR.out.below bq).put5 (sd + 1) hd3
 exact ⟨rfl, R.1, (Rg.of_below bq).trans R.2⟩
end Go.Proofs.YtiglkhkfbgjjoaaGreatDoor
