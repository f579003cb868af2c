/- - -/
import Derived.Test.YtblcfbhlmdhnpaaGreatBReadsB
import Derived.Test.YtblcfbhlmdhnpaaGreatBRowF
import Derived.Deep.RegionHeld
namespace Go.Proofs.YtblcfbhlmdhnpaaGreat
set_option maxRecDepth 20000
open Go.RowKit
set_option linter.unusedSimpArgs false
set_option linter.unusedVariables false
structure Kp (X : List Nat) (w w' : World) : Prop where
 os : w'.os = w.os
 tape : w'.tape = w.tape
 output : w'.output = w.output
 size : w.heap.size <= w'.heap.size
 block : ∀ k, k < w.heap.size -> k ∉ X -> w'.heap[k]? = w.heap[k]?
theorem Kp.refl (X : List Nat) (w : World) : Kp X w w := ⟨rfl, rfl, rfl, Nat.le_refl _, fun _ _ _ => rfl⟩
theorem Kp.trans {X : List Nat} {a b c : World} (h : Kp X a b) (k : Kp X b c) : Kp X a c :=
 ⟨k.os.trans h.os, k.tape.trans h.tape, k.output.trans h.output, Nat.le_trans h.size k.size, fun i hi hr => (k.block i (Nat.lt_of_lt_of_le hi h.size) hr).trans (h.block i hi hr)⟩
theorem Kp.mono {X Y : List Nat} {w w' : World} (h : Kp X w w') (hs : ∀ x ∈ X, x ∈ Y) : Kp Y w w' := ⟨h.os, h.tape, h.output, h.size, fun k hk hn => h.block k hk (fun g => hn (hs k g))⟩
theorem Kp.of_below {X : List Nat} {w w' : World} (h : Below w.heap.size w w') : Kp X w w' := ⟨h.os, h.tape, h.output, h.size, fun k hk _ => h.block k hk⟩
theorem Kp.next {X : List Nat} {a b c : World} (h : Kp X a b) (k : Below b.heap.size b c) : Kp X a c := h.trans (Kp.of_below k)
theorem Kp.drew {X : List Nat} {a b : World} (h : Kp X a b) : Kp X a b.drew := ⟨h.os, h.tape, h.output, h.size, h.block⟩
theorem Kp.alloc {X : List Nat} {a b : World} (h : Kp X a b) (o : Obj) : Kp X a (b.alloc o) := h.next ((Below.refl _ _).alloc (Nat.le_refl _) _)
theorem Kp.setCell {X : List Nat} {a b : World} (h : Kp X a b) {p : Addr} (hp : p.block ∈ X \/ a.heap.size <= p.block) (u : Value) : Kp X a (b.setCell p u) :=
 ⟨h.os, h.tape, h.output, by simpa using h.size, fun k hk hn => by rw [Below.heap_setCell _ _ _ _ (fun e => by subst e; rcases hp with g | g; exact hn g; omega)]; exact h.block k hk hn⟩
theorem Kp.below {X : List Nat} {w w' : World} {C : Nat} (h : Kp X w w') (hX : ∀ x ∈ X, C <= x) (hC : C <= w.heap.size) : Below C w w' :=
 ⟨h.os, h.tape, h.output, h.size, fun k hk => h.block k (by omega) (fun g => by have := hX k g; omega)⟩
theorem Kp.cell {X : List Nat} {w w' : World} (h : Kp X w w') {p : Addr} (hp : p.block < w.heap.size) (hn : p.block ∉ X) : w'.cell? p = w.cell? p := World.cell?_of_block (w := w) (h.block p.block hp hn)
theorem Kp.has {X : List Nat} {w w' : World} {b : Nat} {A : Array Value} (h : ∀ i, w.cell? ⟨b, i, none⟩ = A[i]?) (k : Kp X w w') (hb : b < w.heap.size) (hn : b ∉ X) : ∀ i, w'.cell? ⟨b, i, none⟩ = A[i]? := fun i => by
 rw [k.cell (p := ⟨b, i, none⟩) hb hn]; exact h i
def Rw (w : World) (b : Nat) (t : TypeId) (n : Nat) (f : Nat -> Value) : Prop := ∃ M g, n <= M /\ w.rowIs b t M g /\ ∀ i, i < n -> g i = f i
section
variable {w w' : World} {b : Nat} {t : TypeId} {n : Nat} {f : Nat -> Value}
theorem Rw.cell (h : Rw w b t n f) {i : Nat} (hi : i < n) : w.cell? ⟨b, i, none⟩ = some (f i) := by
 obtain ⟨M, g, hM, hr, hg⟩ := h
 rw [hr.cell (by omega), hg i hi]
theorem Rw.lt (h : Rw w b t n f) : b < w.heap.size := by obtain ⟨M, g, hM, hr, hg⟩ := h; exact hr.lt
theorem Rw.frozen (h : Rw w b t n f) (i : Nat) : w.frozen? ⟨b, i, none⟩ = false := by obtain ⟨M, g, hM, hr, hg⟩ := h; exact hr.frozen i
theorem Rw.of_block (h : Rw w b t n f) (hb : w'.heap[b]? = w.heap[b]?) : Rw w' b t n f := by
 obtain ⟨M, g, hM, hr, hg⟩ := h
 exact ⟨M, g, hM, hr.of_block hb, hg⟩
theorem Rw.kp {X : List Nat} (h : Rw w b t n f) (k : Kp X w w') (hb : b ∉ X) : Rw w' b t n f := h.of_block (k.block b h.lt hb)
theorem Rw.below (h : Rw w b t n f) (k : Below w.heap.size w w') : Rw w' b t n f := h.of_block (k.block b h.lt)
theorem Rw.set (h : Rw w b t n f) (i : Nat) (v : Value) : Rw (w.setCell ⟨b, i, none⟩ v) b t n (fun j => if j = i then v else f j) := by
 obtain ⟨M, g, hM, hr, hg⟩ := h
 refine ⟨M, _, hM, hr.set i v, fun j hj => ?_⟩
 by_cases e : j = i
 · simp [e]
 · simp [e, hg j hj]
theorem Rw.other (h : Rw w b t n f) {p : Addr} (hp : b ≠ p.block) (v : Value) : Rw (w.setCell p v) b t n f := h.of_block (Below.heap_setCell _ _ _ _ hp)
theorem Rw.drew (h : Rw w b t n f) : Rw w.drew b t n f := h
theorem Rw.congr (h : Rw w b t n f) {g : Nat -> Value} (e : ∀ i, i < n -> f i = g i) : Rw w b t n g := by
 obtain ⟨M, g', hM, hr, hg⟩ := h
 exact ⟨M, g', hM, hr, fun i hi => by rw [hg i hi, e i hi]⟩
end
def RwW (w : World) (b : Nat) (ws : List Int) : Prop := Rw w b 88 ws.length (fun i => .int .u64 (zj ws i))
def RwR (w : World) (b rl : Nat) (y : Nat -> Int) : Prop := Rw w b 35 (2 * rl) (fun i => .int .i64 (y i))
theorem RwW.sl {w : World} {b : Nat} {ws : List Int} (h : RwW w b ws) (cw : Nat) : Sl w (.slice (some ⟨b, 0, none⟩) ws.length cw) ws :=
 ⟨_, _, rfl, .inr ⟨b, 0, rfl, h.lt, fun i hi => by rw [Nat.zero_add]; exact h.cell hi⟩⟩
theorem RwW.set {w : World} {b : Nat} {ws : List Int} (h : RwW w b ws) {i : Nat} (v : Int) (hi : i < ws.length) : RwW (w.setCell ⟨b, i, none⟩ (.int .u64 v)) b (ws.set i v) := by
 have h2 := Rw.set h i (.int .u64 v)
 unfold RwW
 rw [List.length_set]
 refine h2.congr fun j hj => ?_
 by_cases e : j = i
 · subst e; simp [zj, hi]
 · have : zj (ws.set i v) j = zj ws j := by
    unfold zj
    rw [List.getD_eq_getElem?_getD, List.getElem?_set_ne (fun g => e g.symm), <- List.getD_eq_getElem?_getD]
   simp [e, this]
theorem Rw.own {B T : Nat} {t : TypeId} {w : World} {n m b cap : Nat} {f : Nat -> Value} (h : Rw w b t m f) (hB : B <= b) (hT : b < T) : zy B T t w (.slice (some ⟨b, 0, none⟩) n cap) n m f := by
 obtain ⟨M, g, hM, hr, hg⟩ := h
 exact ⟨_, cap, rfl, .inr ⟨b, M, g, rfl, hB, hT, hM, hr, hg⟩⟩
theorem zdn {u v : List Int} (hl : u.length = v.length) (h : ∀ i, i < u.length -> zj u i = zj v i) : u = v := by
 refine List.ext_getElem hl fun i h1 h2 => ?_
 have := h i h1
 unfold zj at this
 rw [List.getD_eq_getElem?_getD, List.getD_eq_getElem?_getD, List.getElem?_eq_getElem h1, List.getElem?_eq_getElem h2] at this
 simpa using this
theorem tk {P : Program} {md : Region.Mode} {ops : Array Oper} {Q : Exit -> Act -> World -> Prop} {S : World -> Prop} {fuel : Nat} {listed : Array Bool} {a : Act} {w : World} {o : Op} {ty : TypeId} {ps : String} {af : Array Edge} {gd : Option (Nat × Bool)} (i d : Nat) (v : Value) (hS : S w) (hi : ops[i]? = some { dst := some d, op := o, type := ty, pos := ps, after := af, guard := gd })
 (hv : ∀ w, S w -> (execOp a.eval { dst := some d, op := o, type := ty, pos := ps, after := af, guard := gd }).run P w = .ok (.value v) w)
 (h : wpAnyH P md ops Q S fuel (listed.setIfInBounds i true) (a.put (some d) v) w)
 (hw : Region.wanted { dst := some d, op := o, type := ty, pos := ps, after := af, guard := gd } (yielded ops a.tmps) = true := by kernel_rfl)
 (hs : Region.noSelect ops = true := by kernel_rfl) (hf : Region.free md ops listed i = true := by kernel_rfl) (hr : (Region.ready md ops listed).contains i = true := by kernel_rfl)
 (hQ : ∀ c a w, Q (.panic c) (a.put (some d) v) w -> Q (.panic c) a w := by exact fun _ _ _ h => h) : wpAnyH P md ops Q S (fuel + 1) listed a w :=
 wpAnyH_take hi hs hf hr hQ (Or.inl ⟨hw, hv⟩) hS h
end Go.Proofs.YtblcfbhlmdhnpaaGreat
