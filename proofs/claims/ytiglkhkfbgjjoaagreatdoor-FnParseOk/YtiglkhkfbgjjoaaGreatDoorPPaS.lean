/- - -/
import Derived.Test.YtiglkhkfbgjjoaaGreatDoorPPaQ
import Derived.Test.YtiglkhkfbgjjoaaGreatDoorPLxT
import Derived.Test.YtiglkhkfbgjjoaaGreatDoorPRowS
import Derived.Deep.QuietTactic
import Derived.BigQuiet
import Derived.Test.YtiglkhkfbgjjoaaGreatDoorPShelf
namespace Go.Proofs.YtiglkhkfbgjjoaaGreatDoor
set_option maxRecDepth 20000
open Go.RowKit Go.PlainAid Go.Maps
set_option linter.unusedSimpArgs false
set_option linter.unusedVariables false
def knC : List KnL -> List Value -> List Value
 | x :: xs, v :: vs => [.int .i64 x.k, .string x.t, .int .i64 x.i, v] ++ knC xs vs
 | _, _ => []
theorem zic : ∀ {xs : List KnL} {vs : List Value}, xs.length = vs.length -> (knC xs vs).length = xs.length * 4
 | [], [], _ => rfl
 | x :: xs, v :: vs, h => by
   have := zic (xs := xs) (vs := vs) (by simpa using h)
   simp [knC, this]
   omega
theorem zfj : ∀ {xs : List KnL} {vs : List Value}, xs.length = vs.length -> ∀ (x : KnL) (v : Value), knC (xs ++ [x]) (vs ++ [v]) = knC xs vs ++ [.int .i64 x.k, .string x.t, .int .i64 x.i, v]
 | [], [], _, x, v => rfl
 | a :: xs, b :: vs, h, x, v => by
   have := zfj (xs := xs) (vs := vs) (by simpa using h) x v
   simp [knC, this]
structure NdR (B : Nat) (w : World) (v : Value) (ns : List KnL) (kv : List Value) : Prop where
 len : ns.length = kv.length
 own : w.ownsRow B 34 4 v ns.length (knC ns kv)
 kid : ∀ (j : Nat) (x : KnL) (u : Value), ns[j]? = some x -> kv[j]? = some u -> IR B w u x.ks
 ne : ∀ (j : Nat) (u : Value) (g : Nat), kv[j]? = some u -> u.ownBlock = some g -> v.ownBlock ≠ some g
 nd : ∀ (i j : Nat) (u u' : Value) (g : Nat), kv[i]? = some u -> kv[j]? = some u' -> i ≠ j -> u.ownBlock = some g -> u'.ownBlock ≠ some g
def opL : List ByteArray := [⟨#[]⟩, ⟨#[43]⟩, ⟨#[45]⟩, ⟨#[42]⟩, ⟨#[47]⟩, ⟨#[37]⟩, ⟨#[46, 46]⟩, ⟨#[61, 61]⟩, ⟨#[126, 61]⟩, ⟨#[60]⟩, ⟨#[60, 61]⟩]
def zju : List ByteArray := [⟨#[]⟩, ⟨#[45]⟩, ⟨#[110, 111, 116]⟩, ⟨#[35]⟩]
structure zcl (rb : Nat) (w : World) : Prop where
 lo : 3 <= rb
 turn : ∀ (j : Nat) (b : ByteArray), zju[j]? = some b -> w.cell? ⟨1, j, none⟩ = some (.string b)
 op : ∀ (j : Nat) (b : ByteArray), opL[j]? = some b -> w.cell? ⟨2, j, none⟩ = some (.string b)
theorem zcl.below {rb : Nat} {w w' : World} (h : zcl rb w) (hb : Below rb w w') : zcl rb w' :=
 ⟨h.lo, fun j b e => by rw [hb.cell (p := ⟨1, j, none⟩) (by have := h.lo; show 1 < rb; omega)]; exact h.turn j b e, fun j b e => by rw [hb.cell (p := ⟨2, j, none⟩) (by have := h.lo; show 2 < rb; omega)]; exact h.op j b e⟩
structure Rdr (rb : Nat) (ts : List za) (tv : Value) (en : Nat) (w : World) (v : Value) (kv : List Value) (s : PS) : Prop where
 lt : rb < w.heap.size
 c0 : w.cell? ⟨rb, 0, none⟩ = some tv
 c1 : w.cell? ⟨rb, 1, none⟩ = some (.int .i64 (s.i : Int))
 c2 : w.cell? ⟨rb, 2, none⟩ = some (.int .i64 (en : Int))
 c3 : w.cell? ⟨rb, 3, none⟩ = some (.int .i64 (s.d : Int))
 c4 : w.cell? ⟨rb, 4, none⟩ = some v
 fz : ∀ i, w.frozen? ⟨rb, i, none⟩ = false
 tk : zaa 0 w tv ts
 tlt : ∀ g, tv.ownBlock = some g -> g < rb
 il : s.i <= ts.length
 tl : ts.length <= 3000
 dl : s.d <= 30
 tb : zcl rb w
 kl : ∀ x ∈ s.ns, x.k = 8 -> x.ks.length <= 10
 nd : NdR (rb + 1) w v s.ns kv
theorem NdR.below {B : Nat} {w w' : World} {v : Value} {ns : List KnL} {kv : List Value} (h : NdR B w v ns kv) (hb : Below w.heap.size w w') : NdR B w' v ns kv :=
 ⟨h.len, World.ownsRow.kept h.own (row := none) ⟨hb.os, hb.tape, hb.output, hb.size, fun k hk _ => hb.block k hk⟩ (by cases v.ownBlock <;> simp), fun j x u h1 h2 => (h.kid j x u h1 h2).below hb, h.ne, h.nd⟩
theorem NdR.keptBut {B : Nat} {w w' : World} {v : Value} {ns : List KnL} {kv : List Value} {row : Option Nat} (h : NdR B w v ns kv) (hk : w.grownBy w' row) (hr : ∀ r, row = some r -> r < B) : NdR B w' v ns kv := by
 have f : ∀ u : Value, (∀ g, u.ownBlock = some g -> B <= g) -> u.ownBlock = none \/ u.ownBlock ≠ row := fun u hu => by
  cases hq : u.ownBlock with
  | none => exact .inl rfl
  | some g => exact .inr (fun e => by have := hu g hq; have := hr g e.symm; omega)
 exact ⟨h.len, World.ownsRow.kept h.own hk (f v (fun g e => (World.ownsRow.lt h.own g e).1)), fun j x u h1 h2 => (h.kid j x u h1 h2).kept hk (f u (fun g e => (World.ownsRow.lt (h.kid j x u h1 h2) g e).1)), h.ne, h.nd⟩
theorem Rdr.below {rb : Nat} {ts : List za} {tv : Value} {en : Nat} {w w' : World} {v : Value} {kv : List Value} {s : PS} (h : Rdr rb ts tv en w v kv s) (hb : Below w.heap.size w w') : Rdr rb ts tv en w' v kv s := by
 have e := fun i => hb.cell (p := ⟨rb, i, none⟩) h.lt
 exact ⟨Nat.lt_of_lt_of_le h.lt hb.size, by rw [e]; exact h.c0, by rw [e]; exact h.c1, by rw [e]; exact h.c2, by rw [e]; exact h.c3, by rw [e]; exact h.c4, fun i => by rw [World.frozen?_of_block (w := w) (hb.block rb h.lt)]; exact h.fz i, World.ownsRow.kept h.tk (row := none) ⟨hb.os, hb.tape, hb.output, hb.size, fun k hk _ => hb.block k hk⟩ (by cases tv.ownBlock <;> simp), h.tlt, h.il, h.tl, h.dl, h.tb.below (hb.mono (Nat.le_of_lt h.lt)), h.kl, h.nd.below hb⟩
theorem Rdr.tok {rb : Nat} {ts : List za} {tv : Value} {en : Nat} {w : World} {v : Value} {kv : List Value} {s : PS} (h : Rdr rb ts tv en w v kv s) {x : za} (hx : ts[s.i]? = some x) : ∃ g c, tv = .slice (some ⟨g, 0, none⟩) ts.length c /\ g < rb /\ g < w.heap.size /\ s.i < ts.length /\ w.cell? ⟨g, s.i * 4, none⟩ = some (.int .i64 x.k) /\ w.cell? ⟨g, s.i * 4 + 1, none⟩ = some (.int .i64 (x.at_ : Int)) /\ w.cell? ⟨g, s.i * 4 + 2, none⟩ = some (.string x.tx) /\ w.cell? ⟨g, s.i * 4 + 3, none⟩ = some (.int .i64 x.n) := by
 obtain ⟨hi, he⟩ := List.getElem?_eq_some_iff.1 hx
 have hown : w.ownsRow 0 68 4 tv ts.length (zw ts) := h.tk
 have hl := zct ts
 obtain ⟨t0, t1, t2, t3⟩ := zc0 (X := ts) (j := s.i) hi
 rw [he] at t0 t1 t2 t3
 obtain ⟨_, ⟨_, h0⟩ | ⟨g, cap, cur, rfl, _⟩⟩ := hown
 · omega
 have lg := h.tlt g rfl
 have c := fun j (hj : j < ts.length * 4) => h.tk.cellAt j hj
 exact ⟨g, cap, rfl, lg, Nat.lt_trans lg h.lt, hi, (c _ (by omega)).trans t0, (c _ (by omega)).trans t1, (c _ (by omega)).trans t2, (c _ (by omega)).trans t3⟩
theorem Rdr.tform {rb : Nat} {ts : List za} {tv : Value} {en : Nat} {w : World} {v : Value} {kv : List Value} {s : PS} (h : Rdr rb ts tv en w v kv s) : ∃ a c, tv = .slice a ts.length c := h.tk.form
structure Rg (rb : Nat) (w : World) (v : Value) (w' : World) (v' : Value) (kv1 : List Value) : Prop where
 os : w'.os = w.os
 tape : w'.tape = w.tape
 output : w'.output = w.output
 size : w.heap.size <= w'.heap.size
 block : ∀ k, k < w.heap.size -> k ≠ rb -> v.ownBlock ≠ some k -> w'.heap[k]? = w.heap[k]?
 row : ∀ r, v'.ownBlock = some r -> v.ownBlock = some r \/ w.heap.size <= r
 kid : ∀ (u : Value) (g : Nat), u ∈ kv1 -> u.ownBlock = some g -> w.heap.size <= g
theorem Rg.refl (rb : Nat) (w : World) (v : Value) : Rg rb w v w v [] := ⟨rfl, rfl, rfl, Nat.le_refl _, fun _ _ _ _ => rfl, fun _ h => .inl h, fun _ _ h => by simp at h⟩
theorem Rg.trans {rb : Nat} {w w1 w2 : World} {v v1 v2 : Value} {k1 k2 : List Value} (h : Rg rb w v w1 v1 k1) (k : Rg rb w1 v1 w2 v2 k2) : Rg rb w v w2 v2 (k1 ++ k2) := by
 refine ⟨k.os.trans h.os, k.tape.trans h.tape, k.output.trans h.output, Nat.le_trans h.size k.size, fun j hj hp hr => ?_, fun r hr => ?_, fun u g hu hg => ?_⟩
 · rw [k.block j (Nat.lt_of_lt_of_le hj h.size) hp (fun e => by
    rcases h.row j e with h1 | h1
    · exact hr h1
    · omega), h.block j hj hp hr]
 · rcases k.row r hr with h1 | h1
   · rcases h.row r h1 with h2 | h2
     · exact .inl h2
     · exact .inr h2
   · exact .inr (Nat.le_trans h.size h1)
 · rcases List.mem_append.1 hu with h1 | h1
   · exact h.kid u g h1 hg
   · exact Nat.le_trans h.size (k.kid u g h1 hg)
theorem Rg.of_below {rb : Nat} {w w' : World} {v : Value} (h : Below w.heap.size w w') : Rg rb w v w' v [] := ⟨h.os, h.tape, h.output, h.size, fun k hk _ _ => h.block k hk, fun _ h => .inl h, fun _ _ h => by simp at h⟩
theorem Rdr.notv {rb : Nat} {ts : List za} {tv : Value} {en : Nat} {w : World} {v : Value} {kv : List Value} {s : PS} (h : Rdr rb ts tv en w v kv s) {k : Nat} (hk : k <= rb) : v.ownBlock ≠ some k := fun e => by have := (World.ownsRow.lt h.nd.own k e).1; omega
theorem Rg.low {rb : Nat} {ts : List za} {tv : Value} {en : Nat} {w w' : World} {v v' : Value} {kv kv1 : List Value} {s : PS} (h : Rg rb w v w' v' kv1) (hp : Rdr rb ts tv en w v kv s) : Below rb w w' :=
 ⟨h.os, h.tape, h.output, h.size, fun k hk => h.block k (Nat.lt_trans hk hp.lt) (by omega) (hp.notv (by omega))⟩
theorem Rdr.put1 {rb : Nat} {ts : List za} {tv : Value} {en : Nat} {w : World} {v : Value} {kv : List Value} {s : PS} (h : Rdr rb ts tv en w v kv s) (n : Nat) (hn : n <= ts.length) :
 Rdr rb ts tv en (w.setCell ⟨rb, 1, none⟩ (.int .i64 (n : Int))) v kv ⟨n, s.d, s.ns⟩ /\ Rg rb w v (w.setCell ⟨rb, 1, none⟩ (.int .i64 (n : Int))) v [] := by
 have o : ∀ i, i ≠ 1 -> (w.setCell ⟨rb, 1, none⟩ (.int .i64 (n : Int))).cell? ⟨rb, i, none⟩ = w.cell? ⟨rb, i, none⟩ := fun i hi => World.cell?_setCell_other _ _ _ _ (fun e => by have := congrArg Addr.off e; simp at this; omega)
 have hb : ∀ k, k ≠ rb -> (w.setCell ⟨rb, 1, none⟩ (.int .i64 (n : Int))).heap[k]? = w.heap[k]? := fun k hk => Below.heap_setCell w ⟨rb, 1, none⟩ _ k hk
 refine ⟨⟨by simpa using h.lt, by rw [o 0 (by omega)]; exact h.c0, World.cell?_setCell_same' _ _ _ (by rw [h.c1]; rfl), by rw [o 2 (by omega)]; exact h.c2, by rw [o 3 (by omega)]; exact h.c3, by rw [o 4 (by omega)]; exact h.c4, fun i => by simp [go_sem, h.fz], ?_, h.tlt, hn, h.tl, h.dl, h.tb.below ⟨rfl, rfl, rfl, by simp, fun k hk => hb k (by omega)⟩, h.kl, ?_⟩, ⟨rfl, rfl, rfl, by simp, fun k _ hk _ => hb k hk, fun _ h => .inl h, fun _ _ h => by simp at h⟩⟩
 · exact World.ownsRow.kept h.tk (row := some rb) ⟨rfl, rfl, rfl, by simp, fun k _ hk => hb k (fun e => hk (by rw [e]))⟩ (.inr (fun e => by have := h.tlt rb e; omega))
 · exact h.nd.keptBut (row := some rb) ⟨rfl, rfl, rfl, by simp, fun k _ hk => hb k (fun e => hk (by rw [e]))⟩ (by simp)
theorem Rdr.put3 {rb : Nat} {ts : List za} {tv : Value} {en : Nat} {w : World} {v : Value} {kv : List Value} {s : PS} (h : Rdr rb ts tv en w v kv s) (n : Nat) (hn : n <= 30) :
 Rdr rb ts tv en (w.setCell ⟨rb, 3, none⟩ (.int .i64 (n : Int))) v kv ⟨s.i, n, s.ns⟩ /\ Rg rb w v (w.setCell ⟨rb, 3, none⟩ (.int .i64 (n : Int))) v [] := by
 have o : ∀ i, i ≠ 3 -> (w.setCell ⟨rb, 3, none⟩ (.int .i64 (n : Int))).cell? ⟨rb, i, none⟩ = w.cell? ⟨rb, i, none⟩ := fun i hi => World.cell?_setCell_other _ _ _ _ (fun e => by have := congrArg Addr.off e; simp at this; omega)
 have hb : ∀ k, k ≠ rb -> (w.setCell ⟨rb, 3, none⟩ (.int .i64 (n : Int))).heap[k]? = w.heap[k]? := fun k hk => Below.heap_setCell w ⟨rb, 3, none⟩ _ k hk
 refine ⟨⟨by simpa using h.lt, by rw [o 0 (by omega)]; exact h.c0, by rw [o 1 (by omega)]; exact h.c1, by rw [o 2 (by omega)]; exact h.c2, World.cell?_setCell_same' _ _ _ (by rw [h.c3]; rfl), by rw [o 4 (by omega)]; exact h.c4, fun i => by simp [go_sem, h.fz], ?_, h.tlt, h.il, h.tl, hn, h.tb.below ⟨rfl, rfl, rfl, by simp, fun k hk => hb k (by omega)⟩, h.kl, ?_⟩, ⟨rfl, rfl, rfl, by simp, fun k _ hk _ => hb k hk, fun _ h => .inl h, fun _ _ h => by simp at h⟩⟩
 · exact World.ownsRow.kept h.tk (row := some rb) ⟨rfl, rfl, rfl, by simp, fun k _ hk => hb k (fun e => hk (by rw [e]))⟩ (.inr (fun e => by have := h.tlt rb e; omega))
 · exact h.nd.keptBut (row := some rb) ⟨rfl, rfl, rfl, by simp, fun k _ hk => hb k (fun e => hk (by rw [e]))⟩ (by simp)
set_option maxHeartbeats 1000000 in
theorem zf1 (rb : Nat) (ts : List za) (tv : Value) (en : Nat) (w : World) (v : Value) (kv : List Value) (s : PS) (h : Rdr rb ts tv en w v kv s) (q : Bool) (hq : decide (s.i = ts.length) = q) :
 Calls Tryz.prog 29 #[.pointer (some ⟨rb, 0, none⟩)] w fun e w' => e = .returned (.bool q) /\ ∃ m, w' = w.drewN m := by
 obtain ⟨a, c, rfl⟩ := h.tform
 have c0 := h.c0
 have c1 := h.c1
 have lt := h.lt
 have hl : (ts.length : Int) <= 3000 := by have := h.tl; omega
 have hi : (s.i : Int) <= 3000 := by have := h.il; omega
 clear h
 cases q with
 | true =>
   have he : s.i = ts.length := by simpa using hq
   have he' : ((s.i : Int) == (ts.length : Int)) = true := by simp [he]
   clear hq he
   generalize s.i = si at *
   go_enter Tryz.func29, Tryz.ntmps29
   go_wp2
   go_quiet (fail)
   go_wp2
   go_ret
   exact ⟨by first | rfl | simp [he'], _, rfl⟩
 | false =>
   have he : ¬ s.i = ts.length := by simpa using hq
   have he' : ¬ ((s.i : Int) = (ts.length : Int)) := by omega
   clear hq he
   generalize s.i = si at *
   go_enter Tryz.func29, Tryz.ntmps29
   go_wp2
   go_quiet (fail)
   go_wp2
   go_ret
   exact ⟨by first | rfl | simp [he'], _, rfl⟩
theorem zcg (rb : Nat) (ts : List za) (tv : Value) (en : Nat) (w : World) (v : Value) (kv : List Value) (s : PS) (h : Rdr rb ts tv en w v kv s) (q : Bool) (hq : decide (s.i = ts.length) = q) :
 Calls Tryz.prog 29 #[.pointer (some ⟨rb, 0, none⟩)] w fun e w' => e = .returned (.bool q) /\ Below w.heap.size w w' := by
 refine (zf1 rb ts tv en w v kv s h q hq).mono ?_
 rintro e w' ⟨rfl, m, rfl⟩
 exact ⟨rfl, below_drewN (Below.refl _ _) _⟩
def pan (c a : Int) : Ending := .panicked [{ v := .iface 42 (.agg #[.int .i64 c, .int .i64 a]), recovered := false }]
def zai (ts : List za) (bs : List ByteArray) (s : PS) : Bool := bs.any (fun b => isN ts b s)
theorem zj9 {w w' : World} {A : Array Value} {t : Nat} (hb : Below (w.alloc (.cells A t)).heap.size (w.alloc (.cells A t)) w') : (∀ j, w'.cell? ⟨w.heap.size, j, none⟩ = A[j]?) /\ (∀ j, w'.frozen? ⟨w.heap.size, j, none⟩ = false) /\ w.heap.size < w'.heap.size := by
 have hs : w.heap.size < (w.alloc (.cells A t)).heap.size := by simp
 refine ⟨fun j => ?_, fun j => ?_, Nat.lt_of_lt_of_le hs hb.size⟩
 · rw [hb.cell (p := ⟨w.heap.size, j, none⟩) hs]
   simp [go_sem]
 · rw [World.frozen?_of_block (w := w.alloc (.cells A t)) (hb.block w.heap.size hs)]
   simp [go_sem]
set_option maxHeartbeats 1000000 in
theorem zje (rb : Nat) (ts : List za) (tv : Value) (en : Nat) (w : World) (v : Value) (kv : List Value) (s : PS) (h : Rdr rb ts tv en w v kv s) (c : Int) (hx : ts[s.i]? = none) :
 Calls Tryz.prog 99 #[.pointer (some ⟨rb, 0, none⟩), .int .i64 c] w fun e w' => e = .returned (.agg #[.int .i64 2, .int .i64 (en : Int)]) /\ Below w.heap.size w w' := by
 have hi : decide (s.i = ts.length) = true := by
  have := List.getElem?_eq_none_iff.1 hx
  have := h.il
  simp; omega
 have a0 : Below w.heap.size w (w.alloc (.cells #[.int .i64 0, .int .i64 0] 42)) := (Below.refl _ _).alloc (Nat.le_refl _) _
 have HR : Hid (Rdr rb ts tv en (w.alloc (.cells #[.int .i64 0, .int .i64 0] 42)) v kv s) := h.below a0
 have A0 : Hid (Below w.heap.size w (w.alloc (.cells #[.int .i64 0, .int .i64 0] 42))) := a0
 clear h hx a0
 go_enter Tryz.func99, Tryz.ntmps99
 go_wp2_with (go_at_call 29; refine (zcg rb ts _ en _ _ _ _ HR.out true hi).mono ?_; rintro e w6 ⟨rfl, b6'⟩; have HB : Hid (Below w.heap.size w w6) := (A0.out.trans (b6'.mono (by simp))); have d2 := (HR.out.below b6').c2; have l6 := (HR.out.below b6').lt; obtain ⟨n0, n1, n2⟩ := zj9 b6'; have m0 := n0 0; have m1 := n0 1; simp at m0 m1; clear n0 b6')
 refine bodyPost_ret (v := .agg #[.int .i64 2, .int .i64 (en : Int)]) (by simp [results, Tryz.results99, go_sem, m0, m1, n1, n2, World.cell?_setCell_other]) rfl ⟨rfl, ?_⟩
 exact (HB.out.setCell (Nat.le_refl _) _).setCell (Nat.le_refl _) _
set_option maxHeartbeats 1000000 in
theorem zjf (rb : Nat) (ts : List za) (tv : Value) (en : Nat) (w : World) (v : Value) (kv : List Value) (s : PS) (h : Rdr rb ts tv en w v kv s) (c : Int) (x : za) (hx : ts[s.i]? = some x) :
 Calls Tryz.prog 99 #[.pointer (some ⟨rb, 0, none⟩), .int .i64 c] w fun e w' => e = .returned (.agg #[.int .i64 c, .int .i64 (x.at_ : Int)]) /\ Below w.heap.size w w' := by
 have hi : decide (s.i = ts.length) = false := by
  obtain ⟨hl, _⟩ := List.getElem?_eq_some_iff.1 hx
  simp; omega
 obtain ⟨g, ct, rfl, lg, lgw, hsl, t0, t1, t2, t3⟩ := h.tok hx
 have a0 : Below w.heap.size w (w.alloc (.cells #[.int .i64 0, .int .i64 0] 42)) := (Below.refl _ _).alloc (Nat.le_refl _) _
 have HR : Hid (Rdr rb ts (.slice (some ⟨g, 0, none⟩) ts.length ct) en (w.alloc (.cells #[.int .i64 0, .int .i64 0] 42)) v kv s) := h.below a0
 have A0 : Hid (Below w.heap.size w (w.alloc (.cells #[.int .i64 0, .int .i64 0] 42))) := a0
 have hs3 : s.i <= 3000 := by have := h.tl; omega
 have hl3 : ts.length <= 3000 := h.tl
 clear h hx a0 t0 t2 t3
 obtain ⟨si, sd, sn⟩ := s
 have hi : decide (si = ts.length) = false := hi
 have hsl : si < ts.length := hsl
 have hs3 : si <= 3000 := hs3
 have t1 : w.cell? ⟨g, si * 4 + 1, none⟩ = some (.int .i64 (x.at_ : Int)) := t1
 go_enter Tryz.func99, Tryz.ntmps99
 go_wp2_with (go_at_call 29; refine (zcg rb ts _ en _ _ _ _ HR.out false hi).mono ?_; rintro e w6 ⟨rfl, b6'⟩; have HB : Hid (Below w.heap.size w w6) := (A0.out.trans (b6'.mono (by simp))); have d0 := (HR.out.below b6').c0; have d1 : w6.cell? ⟨rb, 1, none⟩ = some (.int .i64 (si : Int)) := (HR.out.below b6').c1; have l6 := (HR.out.below b6').lt; obtain ⟨n0, n1, n2⟩ := zj9 b6'; have m0 := n0 0; have m1 := n0 1; simp at m0 m1; have e1 : w6.cell? ⟨g, si * 4 + 1, none⟩ = some (.int .i64 (x.at_ : Int)) := (HB.out.cell (p := ⟨g, si * 4 + 1, none⟩) lgw).trans t1; clear n0 b6')
 go_region
 go_wp2
 refine bodyPost_ret (v := .agg #[.int .i64 c, .int .i64 (x.at_ : Int)]) (by simp [results, Tryz.results99, go_sem, m0, m1, n1, n2, World.cell?_setCell_other]) rfl ⟨rfl, ?_⟩
 exact below_drewN ((HB.out.setCell (Nat.le_refl _) _).setCell (Nat.le_refl _) _) _
theorem zdi (rb : Nat) (ts : List za) (tv : Value) (en : Nat) (w : World) (v : Value) (kv : List Value) (s : PS) (h : Rdr rb ts tv en w v kv s) (c : Int) :
 Calls Tryz.prog 99 #[.pointer (some ⟨rb, 0, none⟩), .int .i64 c] w fun e w' => e = .returned (.agg #[.int .i64 (fh ts en c s).1, .int .i64 (fh ts en c s).2]) /\ Below w.heap.size w w' := by
 cases hx : ts[s.i]? with
 | none =>
   have e : fh ts en c s = (2, (en : Int)) := by unfold fh; rw [hx]
   rw [e]
   exact zje rb ts tv en w v kv s h c hx
 | some x =>
   have e : fh ts en c s = (c, (x.at_ : Int)) := by unfold fh; rw [hx]
   rw [e]
   exact zjf rb ts tv en w v kv s h c x hx
set_option maxHeartbeats 1000000 in
theorem znd (rb : Nat) (ts : List za) (tv : Value) (en : Nat) (w : World) (v : Value) (kv : List Value) (s : PS) (h : Rdr rb ts tv en w v kv s) (g : Nat) (c : Nat) (bs : List ByteArray) (hl : bs.length <= 10) (hc : ∀ j, j < bs.length -> w.cell? ⟨g, 0 + j, none⟩ = some (.string (bs.getD j ByteArray.empty))) (hg : g < w.heap.size) (hx : ts[s.i]? = none) :
 Calls Tryz.prog 97 #[.pointer (some ⟨rb, 0, none⟩), .slice (some ⟨g, 0, none⟩) bs.length c] w fun e w' => e = .returned (.bool false) /\ Below w.heap.size w w' := by
 have hi : decide (s.i = ts.length) = true := by
  have := List.getElem?_eq_none_iff.1 hx
  have := h.il
  simp; omega
 have HR : Hid (Rdr rb ts tv en w v kv s) := h
 clear h hx hc
 go_enter Tryz.func97, Tryz.ntmps97
 go_wp2_with (go_at_call 29; refine (zcg rb ts _ en _ _ _ _ HR.out true hi).mono ?_; rintro e w6 ⟨rfl, b6'⟩; have HB : Hid (Below w.heap.size w w6) := b6'; clear b6')
 go_ret
 exact ⟨rfl, HB.out⟩
set_option maxHeartbeats 1000000 in
theorem zka (rb : Nat) (ts : List za) (tv : Value) (en : Nat) (w : World) (v : Value) (kv : List Value) (s : PS) (h : Rdr rb ts tv en w v kv s) (g : Nat) (c : Nat) (bs : List ByteArray) (hl : bs.length <= 10) (hc : ∀ j, j < bs.length -> w.cell? ⟨g, 0 + j, none⟩ = some (.string (bs.getD j ByteArray.empty))) (hg : g < w.heap.size) (x : za) (hx : ts[s.i]? = some x) (h2 : (x.k == 2) = false) (h5 : (x.k == 5) = false) :
 Calls Tryz.prog 97 #[.pointer (some ⟨rb, 0, none⟩), .slice (some ⟨g, 0, none⟩) bs.length c] w fun e w' => e = .returned (.bool false) /\ Below w.heap.size w w' := by
 have hi : decide (s.i = ts.length) = false := by
  obtain ⟨hl, _⟩ := List.getElem?_eq_some_iff.1 hx
  simp; omega
 obtain ⟨gt, ct, rfl, lg, lgw, hsl, t0, t1, t2, t3⟩ := h.tok hx
 have HR : Hid (Rdr rb ts (.slice (some ⟨gt, 0, none⟩) ts.length ct) en w v kv s) := h
 have hs3 : s.i <= 3000 := by have := h.tl; omega
 have hl3 : ts.length <= 3000 := h.tl
 have HC : Hid (∀ j, j < bs.length -> w.cell? ⟨g, 0 + j, none⟩ = some (.string (bs.getD j ByteArray.empty))) := hc
 clear h hx hc
 obtain ⟨si, sd, sn⟩ := s
 have hi : decide (si = ts.length) = false := hi
 have hsl : si < ts.length := hsl
 have hs3 : si <= 3000 := hs3
 have HT : Hid (w.cell? ⟨gt, si * 4, none⟩ = some (.int .i64 x.k) /\ w.cell? ⟨gt, si * 4 + 1, none⟩ = some (.int .i64 (x.at_ : Int)) /\ w.cell? ⟨gt, si * 4 + 2, none⟩ = some (.string x.tx) /\ w.cell? ⟨gt, si * 4 + 3, none⟩ = some (.int .i64 x.n)) := ⟨t0, t1, t2, t3⟩
 clear t0 t1 t2 t3
 go_enter Tryz.func97, Tryz.ntmps97
 go_wp2_with (go_at_call 29; refine (zcg rb ts _ en _ _ _ _ HR.out false hi).mono ?_; rintro e w6 ⟨rfl, b6'⟩; have HB : Hid (Below w.heap.size w w6) := b6'; have d0 := (HR.out.below b6').c0; have d1 : w6.cell? ⟨rb, 1, none⟩ = some (.int .i64 (si : Int)) := (HR.out.below b6').c1; have l6 := (HR.out.below b6').lt; have e0 : w6.cell? ⟨gt, si * 4, none⟩ = some (.int .i64 x.k) := (HB.out.cell (p := ⟨gt, si * 4, none⟩) lgw).trans HT.out.1; have e1 : w6.cell? ⟨gt, si * 4 + 1, none⟩ = some (.int .i64 (x.at_ : Int)) := (HB.out.cell (p := ⟨gt, si * 4 + 1, none⟩) lgw).trans HT.out.2.1; have e2 : w6.cell? ⟨gt, si * 4 + 2, none⟩ = some (.string x.tx) := (HB.out.cell (p := ⟨gt, si * 4 + 2, none⟩) lgw).trans HT.out.2.2.1; have e3 : w6.cell? ⟨gt, si * 4 + 3, none⟩ = some (.int .i64 x.n) := (HB.out.cell (p := ⟨gt, si * 4 + 3, none⟩) lgw).trans HT.out.2.2.2; have gw6 : g < w6.heap.size := Nat.lt_of_lt_of_le hg HB.out.size; have gt6 : gt < w6.heap.size := Nat.lt_of_lt_of_le lgw HB.out.size; clear b6')
 go_region
 go_wp2
 go_ret
 exact ⟨rfl, below_drewN (HB.out.alloc HB.out.size _) _⟩
set_option maxHeartbeats 1000000 in
theorem zne (rb : Nat) (ts : List za) (tv : Value) (en : Nat) (w : World) (v : Value) (kv : List Value) (s : PS) (h : Rdr rb ts tv en w v kv s) (g : Nat) (c : Nat) (bs : List ByteArray) (hl : bs.length <= 10) (hc : ∀ j, j < bs.length -> w.cell? ⟨g, 0 + j, none⟩ = some (.string (bs.getD j ByteArray.empty))) (hg : g < w.heap.size) (x : za) (hx : ts[s.i]? = some x) (h2 : (x.k == 2) = true) :
 Calls Tryz.prog 97 #[.pointer (some ⟨rb, 0, none⟩), .slice (some ⟨g, 0, none⟩) bs.length c] w fun e w' => e = .returned (.bool (Lib.containsS bs x.tx)) /\ Below w.heap.size w w' := by
 have hi : decide (s.i = ts.length) = false := by
  obtain ⟨hl, _⟩ := List.getElem?_eq_some_iff.1 hx
  simp; omega
 obtain ⟨gt, ct, rfl, lg, lgw, hsl, t0, t1, t2, t3⟩ := h.tok hx
 have HR : Hid (Rdr rb ts (.slice (some ⟨gt, 0, none⟩) ts.length ct) en w v kv s) := h
 have hs3 : s.i <= 3000 := by have := h.tl; omega
 have hl3 : ts.length <= 3000 := h.tl
 have HC : Hid (∀ j, j < bs.length -> w.cell? ⟨g, 0 + j, none⟩ = some (.string (bs.getD j ByteArray.empty))) := hc
 clear h hx hc
 obtain ⟨si, sd, sn⟩ := s
 have hi : decide (si = ts.length) = false := hi
 have hsl : si < ts.length := hsl
 have hs3 : si <= 3000 := hs3
 have HT : Hid (w.cell? ⟨gt, si * 4, none⟩ = some (.int .i64 x.k) /\ w.cell? ⟨gt, si * 4 + 1, none⟩ = some (.int .i64 (x.at_ : Int)) /\ w.cell? ⟨gt, si * 4 + 2, none⟩ = some (.string x.tx) /\ w.cell? ⟨gt, si * 4 + 3, none⟩ = some (.int .i64 x.n)) := ⟨t0, t1, t2, t3⟩
 clear t0 t1 t2 t3
 go_enter Tryz.func97, Tryz.ntmps97
 go_wp2_with (go_at_call 29; refine (zcg rb ts _ en _ _ _ _ HR.out false hi).mono ?_; rintro e w6 ⟨rfl, b6'⟩; have HB : Hid (Below w.heap.size w w6) := b6'; have d0 := (HR.out.below b6').c0; have d1 : w6.cell? ⟨rb, 1, none⟩ = some (.int .i64 (si : Int)) := (HR.out.below b6').c1; have l6 := (HR.out.below b6').lt; have e0 : w6.cell? ⟨gt, si * 4, none⟩ = some (.int .i64 x.k) := (HB.out.cell (p := ⟨gt, si * 4, none⟩) lgw).trans HT.out.1; have e1 : w6.cell? ⟨gt, si * 4 + 1, none⟩ = some (.int .i64 (x.at_ : Int)) := (HB.out.cell (p := ⟨gt, si * 4 + 1, none⟩) lgw).trans HT.out.2.1; have e2 : w6.cell? ⟨gt, si * 4 + 2, none⟩ = some (.string x.tx) := (HB.out.cell (p := ⟨gt, si * 4 + 2, none⟩) lgw).trans HT.out.2.2.1; have e3 : w6.cell? ⟨gt, si * 4 + 3, none⟩ = some (.int .i64 x.n) := (HB.out.cell (p := ⟨gt, si * 4 + 3, none⟩) lgw).trans HT.out.2.2.2; have gw6 : g < w6.heap.size := Nat.lt_of_lt_of_le hg HB.out.size; have gt6 : gt < w6.heap.size := Nat.lt_of_lt_of_le lgw HB.out.size; clear b6')
 go_region
 go_wp2_with (go_at_call 110; refine (Tryz.slices_Contains_string g 0 bs.length c bs x.tx _ (Nat.le_refl _) (by omega) (fun j hj => ((below_drewN (HB.out.alloc HB.out.size _) _).cell (p := ⟨g, 0 + j, none⟩) hg).trans (HC.out j hj))).mono ?_; rintro e w7 ⟨rfl, rfl⟩)
 go_ret
 exact ⟨by simp, below_drewN (HB.out.alloc HB.out.size _) _⟩
set_option maxHeartbeats 1000000 in
theorem zls (rb : Nat) (ts : List za) (tv : Value) (en : Nat) (w : World) (v : Value) (kv : List Value) (s : PS) (h : Rdr rb ts tv en w v kv s) (g : Nat) (c : Nat) (bs : List ByteArray) (hl : bs.length <= 10) (hc : ∀ j, j < bs.length -> w.cell? ⟨g, 0 + j, none⟩ = some (.string (bs.getD j ByteArray.empty))) (hg : g < w.heap.size) (x : za) (hx : ts[s.i]? = some x) (h2 : (x.k == 2) = false) (h5 : (x.k == 5) = true) :
 Calls Tryz.prog 97 #[.pointer (some ⟨rb, 0, none⟩), .slice (some ⟨g, 0, none⟩) bs.length c] w fun e w' => e = .returned (.bool (Lib.containsS bs x.tx)) /\ Below w.heap.size w w' := by
 have hi : decide (s.i = ts.length) = false := by
  obtain ⟨hl, _⟩ := List.getElem?_eq_some_iff.1 hx
  simp; omega
 obtain ⟨gt, ct, rfl, lg, lgw, hsl, t0, t1, t2, t3⟩ := h.tok hx
 have HR : Hid (Rdr rb ts (.slice (some ⟨gt, 0, none⟩) ts.length ct) en w v kv s) := h
 have hs3 : s.i <= 3000 := by have := h.tl; omega
 have hl3 : ts.length <= 3000 := h.tl
 have HC : Hid (∀ j, j < bs.length -> w.cell? ⟨g, 0 + j, none⟩ = some (.string (bs.getD j ByteArray.empty))) := hc
 clear h hx hc
 obtain ⟨si, sd, sn⟩ := s
 have hi : decide (si = ts.length) = false := hi
 have hsl : si < ts.length := hsl
 have hs3 : si <= 3000 := hs3
 have HT : Hid (w.cell? ⟨gt, si * 4, none⟩ = some (.int .i64 x.k) /\ w.cell? ⟨gt, si * 4 + 1, none⟩ = some (.int .i64 (x.at_ : Int)) /\ w.cell? ⟨gt, si * 4 + 2, none⟩ = some (.string x.tx) /\ w.cell? ⟨gt, si * 4 + 3, none⟩ = some (.int .i64 x.n)) := ⟨t0, t1, t2, t3⟩
 clear t0 t1 t2 t3
 go_enter Tryz.func97, Tryz.ntmps97
 go_wp2_with (go_at_call 29; refine (zcg rb ts _ en _ _ _ _ HR.out false hi).mono ?_; rintro e w6 ⟨rfl, b6'⟩; have HB : Hid (Below w.heap.size w w6) := b6'; have d0 := (HR.out.below b6').c0; have d1 : w6.cell? ⟨rb, 1, none⟩ = some (.int .i64 (si : Int)) := (HR.out.below b6').c1; have l6 := (HR.out.below b6').lt; have e0 : w6.cell? ⟨gt, si * 4, none⟩ = some (.int .i64 x.k) := (HB.out.cell (p := ⟨gt, si * 4, none⟩) lgw).trans HT.out.1; have e1 : w6.cell? ⟨gt, si * 4 + 1, none⟩ = some (.int .i64 (x.at_ : Int)) := (HB.out.cell (p := ⟨gt, si * 4 + 1, none⟩) lgw).trans HT.out.2.1; have e2 : w6.cell? ⟨gt, si * 4 + 2, none⟩ = some (.string x.tx) := (HB.out.cell (p := ⟨gt, si * 4 + 2, none⟩) lgw).trans HT.out.2.2.1; have e3 : w6.cell? ⟨gt, si * 4 + 3, none⟩ = some (.int .i64 x.n) := (HB.out.cell (p := ⟨gt, si * 4 + 3, none⟩) lgw).trans HT.out.2.2.2; have gw6 : g < w6.heap.size := Nat.lt_of_lt_of_le hg HB.out.size; have gt6 : gt < w6.heap.size := Nat.lt_of_lt_of_le lgw HB.out.size; clear b6')
 go_region
 go_wp2_with (go_at_call 110; refine (Tryz.slices_Contains_string g 0 bs.length c bs x.tx _ (Nat.le_refl _) (by omega) (fun j hj => ((below_drewN (HB.out.alloc HB.out.size _) _).cell (p := ⟨g, 0 + j, none⟩) hg).trans (HC.out j hj))).mono ?_; rintro e w7 ⟨rfl, rfl⟩)
 go_ret
 exact ⟨by simp, below_drewN (HB.out.alloc HB.out.size _) _⟩
theorem zdj (bs : List ByteArray) (x : za) (hk : (x.k == 2 || x.k == 5) = true) : bs.any (fun b => isT x b) = Lib.containsS bs x.tx := by
 have e : ∀ b : ByteArray, isT x b = true ↔ x.tx = b := fun b => by
  unfold isT
  rw [hk, Bool.true_and, beq_iff_eq]
  exact ⟨fun h => by
   rw [ByteArray.toList_eq, ByteArray.toList_eq] at h
   exact ByteArray.ext (Array.toList_inj.1 h), fun h => by rw [h]⟩
 rw [Bool.eq_iff_iff, Lib.containsS_iff, List.any_eq_true]
 exact ⟨fun ⟨b, hb, hx⟩ => by rw [(e b).1 hx]; exact hb, fun h => ⟨x.tx, h, (e _).2 rfl⟩⟩
theorem zoq (rb : Nat) (ts : List za) (tv : Value) (en : Nat) (w : World) (v : Value) (kv : List Value) (s : PS) (h : Rdr rb ts tv en w v kv s) (g : Nat) (c : Nat) (bs : List ByteArray) (hl : bs.length <= 10) (hc : ∀ j, j < bs.length -> w.cell? ⟨g, 0 + j, none⟩ = some (.string (bs.getD j ByteArray.empty))) (hg : g < w.heap.size) (q : Bool) (hq : zai ts bs s = q) :
 Calls Tryz.prog 97 #[.pointer (some ⟨rb, 0, none⟩), .slice (some ⟨g, 0, none⟩) bs.length c] w fun e w' => e = .returned (.bool q) /\ Below w.heap.size w w' := by
 subst hq
 cases hx : ts[s.i]? with
 | none =>
   have e : zai ts bs s = false := by
    have : ∀ b, isN ts b s = false := fun b => by unfold isN; rw [hx]
    unfold zai
    simp [this]
   rw [e]
   exact znd rb ts tv en w v kv s h g c bs hl hc hg hx
 | some x =>
   have e : zai ts bs s = bs.any (fun b => isT x b) := by
    unfold zai isN
    rw [hx]
   rw [e]
   cases h2 : (x.k == 2) with
   | true =>
     rw [zdj bs x (by rw [h2]; rfl)]
     exact zne rb ts tv en w v kv s h g c bs hl hc hg x hx h2
   | false =>
     cases h5 : (x.k == 5) with
     | true =>
       rw [zdj bs x (by rw [h2, h5]; rfl)]
       exact zls rb ts tv en w v kv s h g c bs hl hc hg x hx h2 h5
     | false =>
       have e2 : bs.any (fun b => isT x b) = false := by
        unfold isT
        simp [h2, h5]
       rw [e2]
       exact zka rb ts tv en w v kv s h g c bs hl hc hg x hx h2 h5
theorem zfi (rb : Nat) (ts : List za) (tv : Value) (en : Nat) (w : World) (v : Value) (kv : List Value) (s : PS) (h : Rdr rb ts tv en w v kv s) (A : Array Value) (n g : Nat) (bs : List ByteArray) (hl : bs.length <= 10) (hg : g = w.heap.size) (hn : n = bs.length) (hA : A = (bs.map Value.string).toArray) (q : Bool) (hq : zai ts bs s = q) :
 Calls Tryz.prog 97 #[.pointer (some ⟨rb, 0, none⟩), .slice (some ⟨g, 0, none⟩) n n] (w.alloc (.cells A 9)) fun e w' => e = .returned (.bool q) /\ Below w.heap.size w w' := by
 subst hg hn hA
 have a0 : Below w.heap.size w (w.alloc (.cells (bs.map Value.string).toArray 9)) := (Below.refl _ _).alloc (Nat.le_refl _) _
 refine (zoq rb ts tv en _ v kv s (h.below a0) w.heap.size bs.length bs hl (fun j hj => ?_) (by simp) q hq).mono ?_
 · have : (w.alloc (.cells (bs.map Value.string).toArray 9)).cell? ⟨w.heap.size, 0 + j, none⟩ = ((bs.map Value.string).toArray)[0 + j]? := by simp [go_sem]
   rw [this]
   simp [hj]
 · rintro e w' ⟨rfl, b⟩
   exact ⟨rfl, a0.trans (b.mono (by simp))⟩
set_option maxHeartbeats 1000000 in
theorem zia (rb : Nat) (ts : List za) (tv : Value) (en : Nat) (w : World) (v : Value) (kv : List Value) (s : PS) (h : Rdr rb ts tv en w v kv s) (k : Int) (hx : ts[s.i]? = none) :
 Calls Tryz.prog 98 #[.pointer (some ⟨rb, 0, none⟩), .int .i64 k] w fun e w' => e = .returned (.bool false) /\ Below w.heap.size w w' := by
 have hi : decide (s.i = ts.length) = true := by
  have := List.getElem?_eq_none_iff.1 hx
  have := h.il
  simp; omega
 have HR : Hid (Rdr rb ts tv en w v kv s) := h
 clear h hx
 go_enter Tryz.func98, Tryz.ntmps98
 go_wp2
 go_quiet (first | (go_at_call 29; exact Calls.quiet_of (zf1 rb ts _ en _ _ _ _ (HR.out.below (below_drewN (Below.refl _ _) _)) true hi)))
 go_wp2
 go_ret
 exact ⟨rfl, below_drewN (Below.refl _ _) _⟩
set_option maxHeartbeats 1000000 in
theorem zib (rb : Nat) (ts : List za) (tv : Value) (en : Nat) (w : World) (v : Value) (kv : List Value) (s : PS) (h : Rdr rb ts tv en w v kv s) (k : Int) (x : za) (hx : ts[s.i]? = some x) :
 Calls Tryz.prog 98 #[.pointer (some ⟨rb, 0, none⟩), .int .i64 k] w fun e w' => e = .returned (.bool (x.k == k)) /\ Below w.heap.size w w' := by
 have hi : decide (s.i = ts.length) = false := by
  obtain ⟨hl, _⟩ := List.getElem?_eq_some_iff.1 hx
  simp; omega
 obtain ⟨gt, ct, rfl, lg, lgw, hsl, t0, t1, t2, t3⟩ := h.tok hx
 have HR : Hid (Rdr rb ts (.slice (some ⟨gt, 0, none⟩) ts.length ct) en w v kv s) := h
 have hs3 : s.i <= 3000 := by have := h.tl; omega
 have hl3 : ts.length <= 3000 := h.tl
 clear h hx t1 t2 t3
 obtain ⟨si, sd, sn⟩ := s
 have hi : decide (si = ts.length) = false := hi
 have hsl : si < ts.length := hsl
 have hs3 : si <= 3000 := hs3
 have HT : Hid (w.cell? ⟨gt, si * 4, none⟩ = some (.int .i64 x.k)) := t0
 clear t0
 go_enter Tryz.func98, Tryz.ntmps98
 go_wp2
 have d0 := HR.out.c0
 have d1 : w.cell? ⟨rb, 1, none⟩ = some (.int .i64 (si : Int)) := HR.out.c1
 have l6 := HR.out.lt
 have e0 : w.cell? ⟨gt, si * 4, none⟩ = some (.int .i64 x.k) := HT.out
 go_quiet (first | (go_at_call 29; exact Calls.quiet_of (zf1 rb ts _ en _ _ _ _ (HR.out.below (below_drewN (Below.refl _ _) _)) false hi)))
 go_wp2
 go_ret
 exact ⟨rfl, below_drewN (Below.refl _ _) _⟩
end Go.Proofs.YtiglkhkfbgjjoaaGreatDoor
