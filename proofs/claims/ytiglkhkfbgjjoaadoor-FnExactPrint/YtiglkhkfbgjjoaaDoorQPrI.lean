/- - -/
import Derived.Test.YtiglkhkfbgjjoaaDoorQRowS
import Derived.Test.YtiglkhkfbgjjoaaDoorQPrQ
import Derived.Test.YtiglkhkfbgjjoaaDoorQTrB
namespace Go.Proofs.YtiglkhkfbgjjoaaDoor
set_option maxRecDepth 20000
open Go.RowKit Go.PlainAid Go.Maps
set_option linter.unusedSimpArgs false
set_option linter.unusedVariables false
structure Pnt (pb : Nat) (nv : Value) (w : World) (v : Value) (xs : List ByteArray) : Prop where
 lt : pb < w.heap.size
 c0 : w.cell? ⟨pb, 0, none⟩ = some nv
 c1 : w.cell? ⟨pb, 1, none⟩ = some v
 fz : ∀ i, w.frozen? ⟨pb, i, none⟩ = false
 own : w.ownsRow (pb + 1) 9 1 v xs.length (scl xs)
structure Pg (pb : Nat) (w : World) (v : Value) (w' : World) (v' : Value) : Prop where
 os : w'.os = w.os
 tape : w'.tape = w.tape
 output : w'.output = w.output
 size : w.heap.size <= w'.heap.size
 block : ∀ k, k < w.heap.size -> k ≠ pb -> v.ownBlock ≠ some k -> w'.heap[k]? = w.heap[k]?
 row : ∀ r, v'.ownBlock = some r -> v.ownBlock = some r \/ w.heap.size <= r
theorem Pg.refl (pb : Nat) (w : World) (v : Value) : Pg pb w v w v := ⟨rfl, rfl, rfl, Nat.le_refl _, fun _ _ _ _ => rfl, fun _ h => .inl h⟩
theorem Pg.trans {pb : Nat} {w w1 w2 : World} {v v1 v2 : Value} (h : Pg pb w v w1 v1) (k : Pg pb w1 v1 w2 v2) : Pg pb w v w2 v2 := by
 refine ⟨k.os.trans h.os, k.tape.trans h.tape, k.output.trans h.output, Nat.le_trans h.size k.size, fun j hj hp hr => ?_, fun r hr => ?_⟩
 · rw [k.block j (Nat.lt_of_lt_of_le hj h.size) hp (fun e => by
    rcases h.row j e with h1 | h1
    · exact hr h1
    · omega), h.block j hj hp hr]
 · rcases k.row r hr with h1 | h1
   · rcases h.row r h1 with h2 | h2
     · exact .inl h2
     · exact .inr h2
   · exact .inr (Nat.le_trans h.size h1)
theorem Pg.of_below {pb : Nat} {w w' : World} {v : Value} (h : Below w.heap.size w w') : Pg pb w v w' v := ⟨h.os, h.tape, h.output, h.size, fun k hk _ _ => h.block k hk, fun _ h => .inl h⟩
theorem Pnt.below {pb : Nat} {nv : Value} {w w' : World} {v : Value} {xs : List ByteArray} (h : Pnt pb nv w v xs) (hb : Below w.heap.size w w') : Pnt pb nv w' v xs :=
 ⟨Nat.lt_of_lt_of_le h.lt hb.size, by rw [hb.cell (p := ⟨pb, 0, none⟩) h.lt]; exact h.c0, by rw [hb.cell (p := ⟨pb, 1, none⟩) h.lt]; exact h.c1, fun i => by rw [World.frozen?_of_block (w := w) (hb.block pb h.lt)]; exact h.fz i, World.ownsRow.kept h.own (row := none) ⟨hb.os, hb.tape, hb.output, hb.size, fun k hk _ => hb.block k hk⟩ (by cases v.ownBlock <;> simp)⟩
theorem Pg.cells {pb : Nat} {w w' : World} {v v' : Value} {b : Nat} {A : Array Value} (h : Pg pb w v w' v') (hb : b < w.heap.size) (hp : b ≠ pb) (hr : v.ownBlock ≠ some b) (hc : ∀ z, w.cell? ⟨b, z, none⟩ = A[z]?) : ∀ z, w'.cell? ⟨b, z, none⟩ = A[z]? := fun z => by
 rw [World.cell?_of_block (w := w) (a := ⟨b, z, none⟩) (h.block b hb hp hr)]
 exact hc z
theorem Pg.low {pb : Nat} {nv : Value} {w w' : World} {v v' : Value} {xs : List ByteArray} (h : Pg pb w v w' v') (hp : Pnt pb nv w v xs) : Below pb w w' :=
 ⟨h.os, h.tape, h.output, h.size, fun k hk => h.block k (Nat.lt_trans hk hp.lt) (by omega) (fun e => by have := (World.ownsRow.lt hp.own k e).1; omega)⟩
theorem Pnt.store {pb : Nat} {nv : Value} {w w1 : World} {v v' : Value} {xs ys : List ByteArray} (h : Pnt pb nv w v xs) (hown : w1.ownsRow (pb + 1) 9 1 v' (xs.length + ys.length) (scl xs ++ scl ys)) (hg : w.grownBy w1 v.ownBlock) (hrow : ∀ r, v'.ownBlock = some r -> v.ownBlock = some r \/ w.heap.size <= r) :
 Pnt pb nv (w1.setCell ⟨pb, 1, none⟩ v') v' (xs ++ ys) /\ Pg pb w v (w1.setCell ⟨pb, 1, none⟩ v') v' := by
 have hne : v.ownBlock ≠ some pb := fun e => by have := (World.ownsRow.lt h.own pb e).1; omega
 have hb : w1.heap[pb]? = w.heap[pb]? := hg.block pb h.lt (fun e => hne e.symm)
 have hc : ∀ i, w1.cell? ⟨pb, i, none⟩ = w.cell? ⟨pb, i, none⟩ := fun i => World.cell?_of_block (w := w) (a := ⟨pb, i, none⟩) hb
 have hv : v'.ownBlock ≠ some pb := fun e => by have := (World.ownsRow.lt hown pb e).1; omega
 refine ⟨⟨?_, ?_, ?_, ?_, ?_⟩, ⟨hg.os, hg.tape, hg.output, by simpa using hg.size, ?_, hrow⟩⟩
 · simpa using Nat.lt_of_lt_of_le h.lt hg.size
 · rw [World.cell?_setCell_other _ _ _ _ (fun e => by have := congrArg Addr.off e; simp at this), hc]
   exact h.c0
 · exact World.cell?_setCell_same' _ _ _ (by rw [hc, h.c1]; rfl)
 · intro i
   have : w1.frozen? ⟨pb, i, none⟩ = w.frozen? ⟨pb, i, none⟩ := World.frozen?_of_block (w := w) (a := ⟨pb, i, none⟩) hb
   simp [go_sem, this, h.fz]
 · rw [ze3, List.length_append]
   exact World.ownsRow.kept hown (row := some pb) ⟨rfl, rfl, rfl, by simp, fun k _ hk => Below.heap_setCell w1 ⟨pb, 1, none⟩ v' k (fun e => hk (by rw [e]))⟩ (.inr hv)
 · intro k hk hp hr
   rw [Below.heap_setCell w1 ⟨pb, 1, none⟩ v' k hp]
   exact hg.block k hk (fun e => hr e.symm)
end Go.Proofs.YtiglkhkfbgjjoaaDoor
