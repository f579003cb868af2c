/- - -/
import Derived.Test.YtdnhohndppmgcaaGreatDoorLMoveA
namespace Go.Proofs.YtdnhohndppmgcaaGreatDoor
set_option maxRecDepth 20000
open Go.RowKit
set_option linter.unusedSimpArgs false
set_option linter.unusedVariables false
theorem zvk {x : Int} (h : zw x = true) : zbe x = false := by
 unfold zw at h
 rw [zed] at h
 unfold HOk at h
 unfold zbe
 apply decide_eq_false
 omega
def mvW (ws : List Int) (p q n : Nat) : List Int := (List.range ws.length).map fun i => if i = p then 9223372036854775808 + (q : Int) else if q <= i /\ i < q + n then za ws (p + (i - q)) else za ws i
theorem ze4 (ws : List Int) (p q n : Nat) : (mvW ws p q n).length = ws.length := by simp [mvW]
theorem zkd {ws : List Int} {p q n i : Nat} (hi : i < ws.length) : za (mvW ws p q n) i = if i = p then 9223372036854775808 + (q : Int) else if q <= i /\ i < q + n then za ws (p + (i - q)) else za ws i := by
 simp [mvW, za, hi]
theorem zh7 {ws : List Int} {p q n i : Nat} (hi : i < ws.length) (h1 : i ≠ p) (h2 : ¬ (q <= i /\ i < q + n)) : za (mvW ws p q n) i = za ws i := by rw [zkd hi, if_neg h1, if_neg h2]
theorem zwi {ws : List Int} {p q n d : Nat} (hi : q + d < ws.length) (hd : d < n) (h1 : q + d ≠ p) : za (mvW ws p q n) (q + d) = za ws (p + d) := by
 rw [zkd hi, if_neg h1, if_pos (by omega)]
 congr 1
 omega
theorem zwj {ws : List Int} {p q n : Nat} (hi : p < ws.length) : za (mvW ws p q n) p = 9223372036854775808 + (q : Int) := by rw [zkd hi, if_pos rfl]
theorem zt1 {ws : List Int} {p q n : Nat} (hw : zg ws) (hq : q <= 1048576) : zg (mvW ws p q n) := by
 intro z hz
 unfold mvW at hz
 obtain ⟨i, _, rfl⟩ := List.mem_map.1 hz
 split
 · omega
 · split
   · exact zv hw _
   · exact zv hw _
theorem zwk {q : Nat} (hq : q <= 1048576) : zbe (9223372036854775808 + (q : Int)) = true /\ fwP (9223372036854775808 + (q : Int)) = q /\ zw (9223372036854775808 + (q : Int)) = false := by
 have h1 : zbe (9223372036854775808 + (q : Int)) = true := decide_eq_true ⟨by omega, by omega⟩
 refine ⟨h1, by simp [fwP, h1]; omega, ?_⟩
 cases h : zw (9223372036854775808 + (q : Int)) with
 | false => rfl
 | true => rw [zvk h] at h1; simp at h1
structure Cp where
 ws : List Int
 T : Nat
 C : Nat
def szA (ws : List Int) (p : Nat) : Nat := (rdS (za ws p)).toNat + 1
def zd7 (S : Nat) (a : Cp) (t m : Int) : Bool := isR t && (!decide ((S : Int) <= m /\ m < (a.T : Int)) && !zbe (za a.ws m.toNat))
def zag (S : Nat) (a : Cp) (t m : Int) : Cp := if zd7 S a t m = true then ⟨mvW a.ws m.toNat a.T (szA a.ws m.toNat), a.T + szA a.ws m.toNat, a.C + szA a.ws m.toNat⟩ else a
def zax (S : Nat) (a : Cp) (t m : Int) : Int := if isR t = true /\ ¬ ((S : Int) <= m /\ m < (a.T : Int)) then (if zbe (za a.ws m.toNat) = true then fwP (za a.ws m.toNat) else (a.T : Int)) else m
structure Kp (X : List Nat) (w w' : World) : Prop where
 os : w'.os = w.os
 tape : w'.tape = w.tape
 output : w'.output = w.output
 size : w.heap.size <= w'.heap.size
 block : ∀ k, k < w.heap.size -> k ∉ X -> w'.heap[k]? = w.heap[k]?
theorem Kp.refl (X : List Nat) (w : World) : Kp X w w := ⟨rfl, rfl, rfl, Nat.le_refl _, fun _ _ _ => rfl⟩
theorem Kp.trans {X : List Nat} {a b c : World} (h : Kp X a b) (k : Kp X b c) : Kp X a c :=
 ⟨k.os.trans h.os, k.tape.trans h.tape, k.output.trans h.output, Nat.le_trans h.size k.size, fun i hi hr => (k.block i (Nat.lt_of_lt_of_le hi h.size) hr).trans (h.block i hi hr)⟩
theorem Kp.mono {X Y : List Nat} {w w' : World} (h : Kp X w w') (hs : ∀ x ∈ X, x ∈ Y) : Kp Y w w' := ⟨h.os, h.tape, h.output, h.size, fun k hk hn => h.block k hk (fun g => hn (hs k g))⟩
theorem Kp.of_below {X : List Nat} {w w' : World} (h : Below w.heap.size w w') : Kp X w w' := ⟨h.os, h.tape, h.output, h.size, fun k hk _ => h.block k hk⟩
theorem Kp.next {X : List Nat} {a b c : World} (h : Kp X a b) (k : Below b.heap.size b c) : Kp X a c := h.trans (Kp.of_below k)
theorem Kp.drew {X : List Nat} {a b : World} (h : Kp X a b) : Kp X a b.drew := ⟨h.os, h.tape, h.output, h.size, h.block⟩
theorem Kp.alloc {X : List Nat} {a b : World} (h : Kp X a b) (o : Obj) : Kp X a (b.alloc o) := h.next ((Below.refl _ _).alloc (Nat.le_refl _) _)
theorem Kp.setCell {X : List Nat} {a b : World} (h : Kp X a b) {p : Addr} (hp : p.block ∈ X \/ a.heap.size <= p.block) (u : Value) : Kp X a (b.setCell p u) :=
 ⟨h.os, h.tape, h.output, by simpa using h.size, fun k hk hn => by rw [Below.heap_setCell _ _ _ _ (fun e => by subst e; rcases hp with g | g; exact hn g; omega)]; exact h.block k hk hn⟩
theorem Kp.below {X : List Nat} {w w' : World} {C : Nat} (h : Kp X w w') (hX : ∀ x ∈ X, C <= x) (hC : C <= w.heap.size) : Below C w w' :=
 ⟨h.os, h.tape, h.output, h.size, fun k hk => h.block k (by omega) (fun g => by have := hX k g; omega)⟩
theorem Kp.cell {X : List Nat} {w w' : World} (h : Kp X w w') {p : Addr} (hp : p.block < w.heap.size) (hn : p.block ∉ X) : w'.cell? p = w.cell? p := World.cell?_of_block (w := w) (h.block p.block hp hn)
theorem Kp.has {X : List Nat} {w w' : World} {b : Nat} {A : Array Value} (h : ∀ i, w.cell? ⟨b, i, none⟩ = A[i]?) (k : Kp X w w') (hb : b < w.heap.size) (hn : b ∉ X) : ∀ i, w'.cell? ⟨b, i, none⟩ = A[i]? := fun i => by
 rw [k.cell (p := ⟨b, i, none⟩) hb hn]; exact h i
def Rw (w : World) (b : Nat) (t : TypeId) (n : Nat) (f : Nat -> Value) : Prop := ∃ M g, n <= M /\ w.rowIs b t M g /\ ∀ i, i < n -> g i = f i
section
variable {w w' : World} {b : Nat} {t : TypeId} {n : Nat} {f : Nat -> Value}
theorem Rw.cell (h : Rw w b t n f) {i : Nat} (hi : i < n) : w.cell? ⟨b, i, none⟩ = some (f i) := by
 obtain ⟨M, g, hM, hr, hg⟩ := h
 rw [hr.cell (by omega), hg i hi]
theorem Rw.lt (h : Rw w b t n f) : b < w.heap.size := by obtain ⟨M, g, hM, hr, hg⟩ := h; exact hr.lt
theorem Rw.frozen (h : Rw w b t n f) (i : Nat) : w.frozen? ⟨b, i, none⟩ = false := by obtain ⟨M, g, hM, hr, hg⟩ := h; exact hr.frozen i
theorem Rw.of_block (h : Rw w b t n f) (hb : w'.heap[b]? = w.heap[b]?) : Rw w' b t n f := by
 obtain ⟨M, g, hM, hr, hg⟩ := h
 exact ⟨M, g, hM, hr.of_block hb, hg⟩
theorem Rw.kp {X : List Nat} (h : Rw w b t n f) (k : Kp X w w') (hb : b ∉ X) : Rw w' b t n f := h.of_block (k.block b h.lt hb)
theorem Rw.below (h : Rw w b t n f) (k : Below w.heap.size w w') : Rw w' b t n f := h.of_block (k.block b h.lt)
theorem Rw.set (h : Rw w b t n f) (i : Nat) (v : Value) : Rw (w.setCell ⟨b, i, none⟩ v) b t n (fun j => if j = i then v else f j) := by
 obtain ⟨M, g, hM, hr, hg⟩ := h
 refine ⟨M, _, hM, hr.set i v, fun j hj => ?_⟩
 by_cases e : j = i
 · simp [e]
 · simp [e, hg j hj]
theorem Rw.other (h : Rw w b t n f) {p : Addr} (hp : b ≠ p.block) (v : Value) : Rw (w.setCell p v) b t n f := h.of_block (Below.heap_setCell _ _ _ _ hp)
theorem Rw.drew (h : Rw w b t n f) : Rw w.drew b t n f := h
theorem Rw.congr (h : Rw w b t n f) {g : Nat -> Value} (e : ∀ i, i < n -> f i = g i) : Rw w b t n g := by
 obtain ⟨M, g', hM, hr, hg⟩ := h
 exact ⟨M, g', hM, hr, fun i hi => by rw [hg i hi, e i hi]⟩
end
theorem zd2 {W : World} {b : Nat} {t : TypeId} {c0 c1 c2 c3 c4 c5 c6 c7 c8 c9 : Value} {f : Nat -> Value} (h : W.rowIs b t 10 f) (h0 : f 0 = c0) (h1 : f 1 = c1) (h2 : f 2 = c2) (h3 : f 3 = c3) (h4 : f 4 = c4) (h5 : f 5 = c5) (h6 : f 6 = c6) (h7 : f 7 = c7) (h8 : f 8 = c8) (h9 : f 9 = c9) :
 W.cell? ⟨b, 0, none⟩ = some c0 /\ W.cell? ⟨b, 1, none⟩ = some c1 /\ W.cell? ⟨b, 2, none⟩ = some c2 /\ W.cell? ⟨b, 3, none⟩ = some c3 /\ W.cell? ⟨b, 4, none⟩ = some c4 /\ W.cell? ⟨b, 5, none⟩ = some c5 /\ W.cell? ⟨b, 6, none⟩ = some c6 /\ W.cell? ⟨b, 7, none⟩ = some c7 /\ W.cell? ⟨b, 8, none⟩ = some c8 /\ W.cell? ⟨b, 9, none⟩ = some c9 := by
 subst h0 h1 h2 h3 h4 h5 h6 h7 h8 h9
 exact ⟨h.cell (by omega), h.cell (by omega), h.cell (by omega), h.cell (by omega), h.cell (by omega), h.cell (by omega), h.cell (by omega), h.cell (by omega), h.cell (by omega), h.cell (by omega)⟩
def RwW (w : World) (b : Nat) (ws : List Int) : Prop := Rw w b 77 ws.length (fun i => .int .u64 (za ws i))
def RwR (w : World) (b rl : Nat) (y : Nat -> Int) : Prop := Rw w b 57 (2 * rl) (fun i => .int .i64 (y i))
theorem RwW.sl {w : World} {b : Nat} {ws : List Int} (h : RwW w b ws) (cw : Nat) : Sl w (.slice (some ⟨b, 0, none⟩) ws.length cw) ws :=
 ⟨_, _, rfl, .inr ⟨b, 0, rfl, h.lt, fun i hi => by rw [Nat.zero_add]; exact h.cell hi⟩⟩
theorem RwW.set {w : World} {b : Nat} {ws : List Int} (h : RwW w b ws) {i : Nat} (v : Int) (hi : i < ws.length) : RwW (w.setCell ⟨b, i, none⟩ (.int .u64 v)) b (ws.set i v) := by
 have h2 := Rw.set h i (.int .u64 v)
 unfold RwW
 rw [List.length_set]
 refine h2.congr fun j hj => ?_
 by_cases e : j = i
 · subst e; simp [za, hi]
 · have : za (ws.set i v) j = za ws j := by
    unfold za
    rw [List.getD_eq_getElem?_getD, List.getElem?_set_ne (fun g => e g.symm), <- List.getD_eq_getElem?_getD]
   simp [e, this]
theorem zab.rw' {B T : Nat} {t : TypeId} {w : World} {v : Value} {n m : Nat} {f : Nat -> Value} (h : zab B T t w v n m f) (hm : 0 < m) : ∃ b cap, v = .slice (some ⟨b, 0, none⟩) n cap /\ B <= b /\ b < T /\ Rw w b t m f := by
 obtain ⟨a, cap, rfl, h⟩ := h
 rcases h with h | ⟨b, M, g, rfl, hB, hT, hM, hr, hf⟩
 · omega
 · exact ⟨b, cap, rfl, hB, hT, M, g, hM, hr, hf⟩
theorem Rw.own {B T : Nat} {t : TypeId} {w : World} {n m b cap : Nat} {f : Nat -> Value} (h : Rw w b t m f) (hB : B <= b) (hT : b < T) : zab B T t w (.slice (some ⟨b, 0, none⟩) n cap) n m f := by
 obtain ⟨M, g, hM, hr, hg⟩ := h
 exact ⟨_, cap, rfl, .inr ⟨b, M, g, rfl, hB, hT, hM, hr, hg⟩⟩
def cpW (ws : List Int) (p q k : Nat) : List Int := (List.range ws.length).map fun i => if q <= i /\ i < q + k then za ws (p + (i - q)) else za ws i
theorem zbk (ws : List Int) (p q k : Nat) : (cpW ws p q k).length = ws.length := by simp [cpW]
theorem zgd {ws : List Int} {p q k i : Nat} (hi : i < ws.length) : za (cpW ws p q k) i = if q <= i /\ i < q + k then za ws (p + (i - q)) else za ws i := by simp [cpW, za, hi]
theorem zvi (ws : List Int) (p q : Nat) : cpW ws p q 0 = ws := by
 refine List.ext_getElem? fun i => ?_
 by_cases hi : i < ws.length
 · have h1 : za (cpW ws p q 0) i = za ws i := by rw [zgd hi, if_neg (by omega)]
   have hi' : i < (cpW ws p q 0).length := by rw [zbk]; exact hi
   unfold za at h1
   rw [List.getD_eq_getElem?_getD, List.getD_eq_getElem?_getD, List.getElem?_eq_getElem hi', List.getElem?_eq_getElem hi] at h1
   rw [List.getElem?_eq_getElem hi', List.getElem?_eq_getElem hi]
   simpa using h1
 · rw [List.getElem?_eq_none (by rw [zbk]; omega), List.getElem?_eq_none (by omega)]
theorem zlg {u v : List Int} (hl : u.length = v.length) (h : ∀ i, i < u.length -> za u i = za v i) : u = v := by
 refine List.ext_getElem hl fun i h1 h2 => ?_
 have := h i h1
 unfold za at this
 rw [List.getD_eq_getElem?_getD, List.getD_eq_getElem?_getD, List.getElem?_eq_getElem h1, List.getElem?_eq_getElem h2] at this
 simpa using this
theorem zvj {ws : List Int} {p q k : Nat} (hp : p + k < ws.length) (hq : q + k < ws.length) (hd : p + k < q \/ q + k < p + k + 1 /\ q + k <= p) : (cpW ws p q k).set (q + k) (za (cpW ws p q k) (p + k)) = cpW ws p q (k + 1) := by
 refine zlg (by simp [zbk]) fun i hi => ?_
 rw [List.length_set, zbk] at hi
 have hsrc : za (cpW ws p q k) (p + k) = za ws (p + k) := by rw [zgd hp, if_neg (by omega)]
 rw [hsrc, zgd hi]
 by_cases e : i = q + k
 · subst e
   rw [if_pos (by omega)]
   have : za ((cpW ws p q k).set (q + k) (za ws (p + k))) (q + k) = za ws (p + k) := by simp [za, zbk, hq]
   rw [this]
   congr 1
   omega
 · have : za ((cpW ws p q k).set (q + k) (za ws (p + k))) i = za (cpW ws p q k) i := by
    unfold za
    rw [List.getD_eq_getElem?_getD, List.getElem?_set_ne (fun g => e g.symm), <- List.getD_eq_getElem?_getD]
   rw [this, zgd hi]
   by_cases g : q <= i /\ i < q + k
   · rw [if_pos g, if_pos (by omega)]
   · rw [if_neg g, if_neg (by omega)]
theorem znz {ws : List Int} {p q n : Nat} (hp : p < ws.length) : (cpW ws p q n).set p (9223372036854775808 + (q : Int)) = mvW ws p q n := by
 refine zlg (by simp [zbk, ze4]) fun i hi => ?_
 rw [List.length_set, zbk] at hi
 rw [zkd hi]
 by_cases e : i = p
 · subst e
   rw [if_pos rfl]
   simp [za, zbk, hi]
 · rw [if_neg e]
   have : za ((cpW ws p q n).set p (9223372036854775808 + (q : Int))) i = za (cpW ws p q n) i := by
    unfold za
    rw [List.getD_eq_getElem?_getD, List.getElem?_set_ne (fun g => e g.symm), <- List.getD_eq_getElem?_getD]
   rw [this, zgd hi]
theorem zvy {q : Nat} (hq : q <= 1048576) : bits .or .u64 9223372036854775808 (q : Int) = 9223372036854775808 + (q : Int) :=
 zv8 9223372036854775808 (q : Int) 63 (by omega) (by omega) (by omega) (by omega) (by decide) (by omega)
theorem tk {P : Program} {md : Region.Mode} {ops : Array Oper} {Q : Exit -> Act -> World -> Prop} {S : World -> Prop} {fuel : Nat} {listed : Array Bool} {a : Act} {w : World} {o : Op} {ty : TypeId} {ps : String} {af : Array Edge} {gd : Option (Nat × Bool)} (i d : Nat) (v : Value) (hS : S w) (hi : ops[i]? = some { dst := some d, op := o, type := ty, pos := ps, after := af, guard := gd })
 (hv : ∀ w, S w -> (execOp a.eval { dst := some d, op := o, type := ty, pos := ps, after := af, guard := gd }).run P w = .ok (.value v) w)
 (h : wpAnyH P md ops Q S fuel (listed.setIfInBounds i true) (a.put (some d) v) w)
 (hw : Region.wanted { dst := some d, op := o, type := ty, pos := ps, after := af, guard := gd } (yielded ops a.tmps) = true := by kernel_rfl)
 (hs : Region.noSelect ops = true := by kernel_rfl) (hf : Region.free md ops listed i = true := by kernel_rfl) (hr : (Region.ready md ops listed).contains i = true := by kernel_rfl)
 (hQ : ∀ c a w, Q (.panic c) (a.put (some d) v) w -> Q (.panic c) a w := by exact fun _ _ _ h => h) : wpAnyH P md ops Q S (fuel + 1) listed a w :=
 wpAnyH_take hi hs hf hr hQ (Or.inl ⟨hw, hv⟩) hS h
def zxr (ws : List Int) (todo : List Nat) (t m : Int) : List Nat :=
 if isR t = true then (if (zi ws m.toNat).toNat ∈ todo then todo else todo ++ [(zi ws m.toNat).toNat]) else todo
def zv1 (ws : List Int) (f : Nat -> Int × Int) : Nat -> List Nat -> List Nat
 | 0, todo => todo
 | k + 1, todo => zxr ws (zv1 ws f k todo) (f k).1 (f k).2
def zn (ws : List Int) (p j : Nat) : Nat := p + (fs (rdK (za ws p)) + 2 * (j : Int)).toNat
def zxs (ws : List Int) (p : Nat) (j : Nat) : Int × Int := (rvT ws (zn ws p j), rvN ws (zn ws p j))
def zn8 (ws : List Int) (p : Nat) (todo : List Nat) : List Nat := zv1 ws (zxs ws p) (slN (rdK (za ws p)) (rdS (za ws p))) todo
def bfs (ws : List Int) : Nat -> Nat -> List Nat -> List Nat
 | 0, _, todo => todo
 | d + 1, i, todo => if i < todo.length then bfs ws d (i + 1) (zn8 ws (todo.getD i 0) todo) else todo
def Bfs (ws : List Int) (i : Nat) (todo R : List Nat) : Prop := bfs ws (ws.length - i) i todo = R
theorem Bfs.done {ws : List Int} {i : Nat} {todo R : List Nat} (h : Bfs ws i todo R) (hi : ¬ i < todo.length) : R = todo := by
 unfold Bfs at h
 cases hd : ws.length - i with
 | zero => rw [hd] at h; exact h.symm
 | succ d => rw [hd] at h; simp only [bfs, if_neg hi] at h; exact h.symm
theorem Bfs.step {ws : List Int} {i : Nat} {todo R : List Nat} (h : Bfs ws i todo R) (hi : i < todo.length) (hl : todo.length <= ws.length) : Bfs ws (i + 1) (zn8 ws (todo.getD i 0) todo) R := by
 unfold Bfs at h ⊢
 obtain ⟨d, hd⟩ : ∃ d, ws.length - i = d + 1 := ⟨ws.length - i - 1, by omega⟩
 rw [hd] at h
 simp only [bfs, if_pos hi] at h
 rw [show ws.length - (i + 1) = d by omega]
 exact h
def nxA (ws : List Int) (p : Nat) : Option Nat := if zw (za ws p) = true then some (rdS (za ws p)).toNat else none
def nxB (ws : List Int) (U : List Nat) (p : Nat) : Option Nat :=
 if zw (za ws p) = true then some (rdS (za ws p)).toNat else if zbe (za ws p) = true /\ zt ws p ∈ U then some (rdS (za ws (zt ws p))).toNat else none
theorem zhj {ws : List Int} {p s : Nat} (h : nxA ws p = some s) : zw (za ws p) = true /\ s = (rdS (za ws p)).toNat := by
 unfold nxA at h
 split at h
 · rename_i g; exact ⟨g, by simpa using h.symm⟩
 · simp at h
theorem zhk {ws : List Int} {U : List Nat} {p s : Nat} (h : nxB ws U p = some s) : (zw (za ws p) = true /\ s = (rdS (za ws p)).toNat) \/ (zw (za ws p) = false /\ zbe (za ws p) = true /\ zt ws p ∈ U /\ s = (rdS (za ws (zt ws p))).toNat) := by
 unfold nxB at h
 split at h
 · rename_i g; exact .inl ⟨g, by simpa using h.symm⟩
 · rename_i g
   split at h
   · rename_i g2; exact .inr ⟨by simpa using g, g2.1, g2.2, by simpa using h.symm⟩
   · simp at h
theorem zo.mono {nx nx' : Nat -> Option Nat} {p q : Nat} {L : List Nat} (h : zo nx p q L) (hm : ∀ x ∈ L, ∀ s, nx x = some s -> nx' x = some s) : zo nx' p q L := by
 induction L generalizing p with
 | nil => exact h
 | cons x L ih =>
   obtain ⟨rfl, s, hs, t⟩ := h
   exact ⟨rfl, s, hm _ (by simp) s hs, ih t (fun y hy => hm y (by simp [hy]))⟩
theorem zo.sep {nx : Nat -> Option Nat} {p q : Nat} {L : List Nat} (h : zo nx p q L) : ∀ x ∈ L, ∀ y ∈ L, x < y -> ∀ s, nx x = some s -> x + s + 1 <= y := by
 induction L generalizing p with
 | nil => intro x hx; simp at hx
 | cons a L ih =>
   obtain ⟨rfl, s, hs, t⟩ := h
   intro x hx y hy hlt s' hs'
   rcases List.mem_cons.1 hx with e1 | h1
   · rcases List.mem_cons.1 hy with e2 | h2
     · omega
     · subst e1
       rw [hs] at hs'
       cases hs'
       exact (t.mem y h2).1
   · rcases List.mem_cons.1 hy with e2 | h2
     · have := (t.mem x h1).1
       omega
     · exact ih t x h1 y h2 hlt s' hs'
def zbw (ws : List Int) (O : List Nat) : Nat := (O.map fun p => if zw (za ws p) = true then szA ws p else 0).sum
theorem zn7 {f g : Nat -> Nat} {p n : Nat} : ∀ {O : List Nat}, O.Pairwise (· < ·) -> p ∈ O -> f p = n -> g p = 0 -> (∀ x ∈ O, x ≠ p -> f x = g x) -> (O.map f).sum = (O.map g).sum + n
 | [], _, hp, _, _, _ => by simp at hp
 | a :: O, hs, hp, hf, hg, he => by
   simp only [List.map_cons, List.sum_cons]
   have hs2 := List.pairwise_cons.1 hs
   rcases List.mem_cons.1 hp with rfl | hp
   · have e : O.map f = O.map g := List.map_congr_left fun x hx => he x (by simp [hx]) (by have := hs2.1 x hx; omega)
     rw [e, hf, hg]
     omega
   · have hne : a ≠ p := by have := hs2.1 p hp; omega
     rw [he a (by simp) hne, zn7 hs2.2 hp hf hg (fun x hx hx2 => he x (by simp [hx]) hx2)]
     omega
theorem zp5 {f : Nat -> Nat} {p : Nat} : ∀ {O : List Nat}, p ∈ O -> f p <= (O.map f).sum
 | [], hp => by simp at hp
 | a :: O, hp => by
   simp only [List.map_cons, List.sum_cons]
   rcases List.mem_cons.1 hp with rfl | hp
   · omega
   · have := zp5 (f := f) hp
     omega
def zat (ws : List Int) (p : Nat) : Nat := slN (rdK (za ws p)) (rdS (za ws p))
structure Cyc (a : Cp) (S E F Od sn J : Nat) (L O : List Nat) : Prop where
 use : zo (nxA a.ws) S a.T L
 oth : zo (nxB a.ws L) F Od O
 room : a.T + zbw a.ws O <= E
 hE : E <= a.ws.length
 hOd : Od <= a.ws.length
 ap : E <= F \/ Od <= S
 hS : 1 <= S
 hF : 1 <= F
 small : a.ws.length <= 1048576
 w64 : zg a.ws
 sc : (sn = a.T /\ J = 0) \/ sn ∈ L
 slL : ∀ p ∈ L, ∀ j, j < zat a.ws p -> za2 a.ws (zn a.ws p j) = true /\ (isR (rvT a.ws (zn a.ws p j)) = true -> (rvN a.ws (zn a.ws p j)).toNat ∈ L \/ ((sn < p \/ sn = p /\ J <= j) /\ (rvN a.ws (zn a.ws p j)).toNat ∈ O))
 slO : ∀ p ∈ O, zw (za a.ws p) = true -> ∀ j, j < zat a.ws p -> za2 a.ws (zn a.ws p j) = true /\ (isR (rvT a.ws (zn a.ws p j)) = true -> (rvN a.ws (zn a.ws p j)).toNat ∈ O)
theorem zes {ws : List Int} {p j : Nat} (hr : zw (za ws p) = true) (hj : j < zat ws p) : p < zn ws p j /\ zn ws p j + 1 <= p + (rdS (za ws p)).toNat := by
 have h1 := (zez (zc0 hr) j).2 hj
 have h2 := zii (rdK (za ws p))
 have h3 := za1 (za ws p)
 unfold zn
 omega
theorem zh8 {ws ws' : List Int} {p : Nat} (hr : zw (za ws p) = true) (h : ∀ i, p <= i -> i <= p + (rdS (za ws p)).toNat -> za ws' i = za ws i) :
 zat ws' p = zat ws p /\ ∀ j, j < zat ws p -> zn ws' p j = zn ws p j /\ za2 ws' (zn ws p j) = za2 ws (zn ws p j) /\ rvT ws' (zn ws p j) = rvT ws (zn ws p j) /\ rvN ws' (zn ws p j) = rvN ws (zn ws p j) := by
 have h0 := h p (Nat.le_refl _) (by omega)
 refine ⟨by simp [zat, h0], fun j hj => ?_⟩
 have h1 := zes hr hj
 have e1 := h (zn ws p j) (by omega) (by omega)
 have e2 := h (zn ws p j + 1) (by omega) (by omega)
 have eo : za2 ws' (zn ws p j) = za2 ws (zn ws p j) := by simp [za2, e1, e2]
 exact ⟨by simp [zn, h0], eo, by simp [rvT, eo, e1], by simp [rvN, eo, e2]⟩
theorem zr8 {ws ws' : List Int} {p q : Nat} (hr : zw (za ws p) = true) (h : ∀ d, d <= (rdS (za ws p)).toNat -> za ws' (q + d) = za ws (p + d)) :
 zat ws' q = zat ws p /\ ∀ j, j < zat ws p -> za2 ws' (zn ws' q j) = za2 ws (zn ws p j) /\ rvT ws' (zn ws' q j) = rvT ws (zn ws p j) /\ rvN ws' (zn ws' q j) = rvN ws (zn ws p j) := by
 have h0 : za ws' q = za ws p := h 0 (by omega)
 refine ⟨by simp [zat, h0], fun j hj => ?_⟩
 have h1 := zes hr hj
 obtain ⟨d, hd⟩ : ∃ d, zn ws p j = p + d := ⟨zn ws p j - p, by omega⟩
 have hd' : zn ws' q j = q + d := by
  have : zn ws p j = p + (fs (rdK (za ws p)) + 2 * (j : Int)).toNat := rfl
  have e : zn ws' q j = q + (fs (rdK (za ws p)) + 2 * (j : Int)).toNat := by simp [zn, h0]
  omega
 have e1 := h d (by omega)
 have e2 : za ws' (q + d + 1) = za ws (p + d + 1) := h (d + 1) (by omega)
 rw [hd, hd']
 have eo : za2 ws' (q + d) = za2 ws (p + d) := by simp [za2, e1, e2]
 exact ⟨eo, by simp [rvT, eo, e1], by simp [rvN, eo, e2]⟩
section
variable {a : Cp} {S E F Od sn J : Nat} {L O : List Nat}
theorem Cyc.inL (h : Cyc a S E F Od sn J L O) {p : Nat} (hp : p ∈ L) : S <= p /\ zw (za a.ws p) = true /\ p + szA a.ws p <= a.T := by
 obtain ⟨h1, h2, s, hs, h3⟩ := h.use.mem p hp
 obtain ⟨h4, rfl⟩ := zhj hs
 exact ⟨h1, h4, by unfold szA; omega⟩
theorem Cyc.inO (h : Cyc a S E F Od sn J L O) {p : Nat} (hp : p ∈ O) : F <= p /\ p < Od /\ (zw (za a.ws p) = true /\ p + szA a.ws p <= Od \/ zw (za a.ws p) = false /\ zbe (za a.ws p) = true /\ zt a.ws p ∈ L) := by
 obtain ⟨h1, h2, s, hs, h3⟩ := h.oth.mem p hp
 rcases zhk hs with ⟨h4, rfl⟩ | ⟨h4, h5, h6, _⟩
 · exact ⟨h1, h2, .inl ⟨h4, by unfold szA; omega⟩⟩
 · exact ⟨h1, h2, .inr ⟨h4, h5, h6⟩⟩
theorem Cyc.TE (h : Cyc a S E F Od sn J L O) : a.T <= E := by have := h.room; omega
theorem Cyc.ST (h : Cyc a S E F Od sn J L O) : S <= a.T := h.use.le
theorem Cyc.inUse (h : Cyc a S E F Od sn J L O) {p : Nat} (hp : p ∈ L \/ p ∈ O) : (S <= p /\ p < a.T) ↔ p ∈ L := by
 have h1 := h.TE
 have h2 := h.ap
 constructor
 · intro g
   rcases hp with hp | hp
   · exact hp
   · have := h.inO hp
     omega
 · intro g
   have := h.inL g
   unfold szA at this
   omega
theorem Cyc.move (h : Cyc a S E F Od sn J L O) {p : Nat} (hp : p ∈ O) (hr : zw (za a.ws p) = true) :
 Cyc ⟨mvW a.ws p a.T (szA a.ws p), a.T + szA a.ws p, a.C + szA a.ws p⟩ S E F Od sn J (L ++ [a.T]) O := by
 obtain ⟨n, hn⟩ : ∃ n, n = szA a.ws p := ⟨_, rfl⟩
 have hTE := h.TE
 have hST := h.ST
 have hap := h.ap
 have hE := h.hE
 have hOd := h.hOd
 have hsm := h.small
 obtain ⟨p1, p2, hpo⟩ := h.inO hp
 have hpn : p + n <= Od := by
  rcases hpo with g | g
  · rw [hn]; exact g.2
  · rw [hr] at g; simp at g
 have hn1 : 1 <= n := by rw [hn]; unfold szA; omega
 have hroom := h.room
 have hle : n <= zbw a.ws O := by
  have := zp5 (f := fun p => if zw (za a.ws p) = true then szA a.ws p else 0) hp
  simp only [hr, if_true] at this
  unfold zbw
  omega
 have hTp : ∀ i, S <= i -> i < a.T + n -> i ≠ p := fun i _ _ => by omega
 have hinL : ∀ i, S <= i -> i < a.T -> za (mvW a.ws p a.T n) i = za a.ws i := fun i h1 h2 => zh7 (by omega) (hTp i h1 (by omega)) (by omega)
 have hinO : ∀ i, F <= i -> i < Od -> i ≠ p -> za (mvW a.ws p a.T n) i = za a.ws i := fun i h1 h2 h3 => zh7 (by omega) h3 (by omega)
 have hnew : ∀ d, d < n -> za (mvW a.ws p a.T n) (a.T + d) = za a.ws (p + d) := fun d hd => zwi (by omega) hd (by omega)
 have hold : za (mvW a.ws p a.T n) p = 9223372036854775808 + (a.T : Int) := zwj (by omega)
 obtain ⟨f1, f2, f3⟩ := zwk (q := a.T) (by omega)
 rw [<- hn]
 have hL' : ∀ x ∈ L, za (mvW a.ws p a.T n) x = za a.ws x := fun x hx => by
  have := h.inL hx
  unfold szA at this
  exact hinL x this.1 (by omega)
 have hT0 : za (mvW a.ws p a.T n) a.T = za a.ws p := hnew 0 (by omega)
 have hfT : zt (mvW a.ws p a.T n) p = a.T := by unfold zt; rw [hold, f2]; simp
 refine ⟨?_, ?_, ?_, by rw [ze4]; exact hE, by rw [ze4]; exact hOd, hap, h.hS, h.hF, by rw [ze4]; exact hsm, zt1 h.w64 (by omega), ?_, ?_, ?_⟩
 · have h1 : zo (nxA (mvW a.ws p a.T n)) S a.T L := h.use.mono fun x hx s hs => by
    unfold nxA at hs ⊢
    rw [hL' x hx]
    exact hs
   have h2 : nxA (mvW a.ws p a.T n) a.T = some (rdS (za a.ws p)).toNat := by unfold nxA; rw [hT0, if_pos hr]
   have h3 := h1.snoc h2
   have e : a.T + (rdS (za a.ws p)).toNat + 1 = a.T + n := by rw [hn]; unfold szA; omega
   rw [e] at h3
   exact h3
 · refine h.oth.mono fun x hx s hs => ?_
   obtain ⟨x1, x2, hxo⟩ := h.inO hx
   by_cases e : x = p
   · subst e
     have hs' : s = (rdS (za a.ws x)).toNat := by
      unfold nxB at hs
      rw [if_pos hr] at hs
      simpa using hs.symm
     unfold nxB
     rw [hold, f3, if_neg (by simp), if_pos ⟨f1, by rw [hfT]; simp⟩, hfT, hT0, hs']
   · have e1 := hinO x x1 x2 e
     have e2 : zt (mvW a.ws p a.T n) x = zt a.ws x := by unfold zt; rw [e1]
     rcases zhk hs with ⟨h4, rfl⟩ | ⟨h4, h5, h6, rfl⟩
     · unfold nxB
       rw [e1, if_pos h4]
     · unfold nxB
       rw [e1, e2, if_neg (by simp [h4]), if_pos ⟨h5, by simp [h6]⟩, hL' _ h6]
 · have := zn7 (f := fun p => if zw (za a.ws p) = true then szA a.ws p else 0) (g := fun x => if zw (za (mvW a.ws p a.T n) x) = true then szA (mvW a.ws p a.T n) x else 0) (p := p) (n := n) h.oth.nodup hp (by simp [hr, hn]) (by simp only [hold, f3]; simp) (fun x hx hne => by
    obtain ⟨x1, x2, _⟩ := h.inO hx
    have e1 := hinO x x1 x2 hne
    simp only [e1]
    split
    · unfold szA; rw [e1]
    · rfl)
   show a.T + n + zbw (mvW a.ws p a.T n) O <= E
   unfold zbw at hroom ⊢
   omega
 · rcases h.sc with ⟨g1, g2⟩ | g
   · exact .inr (by simp [g1])
   · exact .inr (by simp [g])
 · intro x hx j hj
   rcases List.mem_append.1 hx with hx | hx
   · have hxL := h.inL hx
     obtain ⟨s1, s2⟩ := zh8 (ws := a.ws) (ws' := mvW a.ws p a.T n) hxL.2.1 (fun i i1 i2 => hinL i (by omega) (by unfold szA at hxL; omega))
     dsimp only at hj ⊢
     rw [s1] at hj
     obtain ⟨t1, t2, t3, t4⟩ := s2 j hj
     rw [t1, t2, t3, t4]
     obtain ⟨u1, u2⟩ := h.slL x hx j hj
     refine ⟨u1, fun hr2 => ?_⟩
     rcases u2 hr2 with g | g
     · exact .inl (by simp [g])
     · exact .inr g
   · simp only [List.mem_singleton] at hx
     subst hx
     obtain ⟨s1, s2⟩ := zr8 (ws := a.ws) (ws' := mvW a.ws p a.T n) (p := p) (q := a.T) hr (fun d hd => hnew d (by rw [hn]; unfold szA; omega))
     dsimp only at hj ⊢
     rw [s1] at hj
     obtain ⟨t2, t3, t4⟩ := s2 j hj
     rw [t2, t3, t4]
     obtain ⟨u1, u2⟩ := h.slO p hp hr j hj
     refine ⟨u1, fun hr2 => .inr ⟨?_, u2 hr2⟩⟩
     rcases h.sc with ⟨g1, g2⟩ | g
     · right; omega
     · left
       have := h.inL g
       unfold szA at this
       omega
 · intro x hx hrx j hj
   have hne : x ≠ p := fun e => by
    subst e
    dsimp only at hrx
    rw [hold, f3] at hrx
    simp at hrx
   obtain ⟨x1, x2, hxo⟩ := h.inO hx
   dsimp only at hrx hj ⊢
   rw [hinO x x1 x2 hne] at hrx
   have hxn : x + szA a.ws x <= Od := by
    rcases hxo with g | g
    · exact g.2
    · rw [hrx] at g; simp at g
   have hnx : nxB a.ws L x = some (rdS (za a.ws x)).toNat := by unfold nxB; rw [if_pos hrx]
   have hsep := fun hlt : x < p => h.oth.sep x hx p hp hlt _ hnx
   obtain ⟨s1, s2⟩ := zh8 (ws := a.ws) (ws' := mvW a.ws p a.T n) hrx (fun i i1 i2 => hinO i (by omega) (by unfold szA at hxn; omega) (fun e => by
    by_cases g : x < p
    · have := hsep g; omega
    · omega))
   rw [s1] at hj
   obtain ⟨t1, t2, t3, t4⟩ := s2 j hj
   rw [t1, t2, t3, t4]
   exact h.slO x hx hrx j hj
theorem Cyc.fwd (h : Cyc a S E F Od sn J L O) {t m : Int} (hm : isR t = true -> 0 <= m /\ (m.toNat ∈ L \/ m.toNat ∈ O)) :
 ∃ M, Cyc (zag S a t m) S E F Od sn J (L ++ M) O /\ (isR t = true -> 0 <= zax S a t m /\ (zax S a t m).toNat ∈ L ++ M) /\ (isR t = false -> zax S a t m = m) := by
 by_cases hr : isR t = true
 · obtain ⟨m0, hmm⟩ := hm hr
   have hin := h.inUse hmm
   by_cases hu : (S : Int) <= m /\ m < (a.T : Int)
   · have e1 : zag S a t m = a := by unfold zag zd7; simp [hu]
     have e2 : zax S a t m = m := by unfold zax; rw [if_neg (fun g => g.2 hu)]
     rw [e1, e2]
     exact ⟨[], by simpa using h, fun _ => ⟨m0, by simpa using hin.1 (by omega)⟩, fun _ => rfl⟩
   · have hmO : m.toNat ∈ O := by
      rcases hmm with g | g
      · exact absurd (hin.2 g) (by omega)
      · exact g
     obtain ⟨o1, o2, ho⟩ := h.inO hmO
     rcases ho with ⟨g1, g2⟩ | ⟨g1, g2, g3⟩
     · have hf := zfi g1
       have e1 : zag S a t m = ⟨mvW a.ws m.toNat a.T (szA a.ws m.toNat), a.T + szA a.ws m.toNat, a.C + szA a.ws m.toNat⟩ := by
        unfold zag
        rw [if_pos (by simp only [zd7, hr, hf, decide_eq_false hu]; rfl)]
       have e2 : zax S a t m = (a.T : Int) := by unfold zax; rw [if_pos ⟨hr, hu⟩, hf]; simp
       rw [e1, e2]
       exact ⟨[a.T], h.move hmO g1, fun _ => ⟨by omega, by simp⟩, fun g => by rw [hr] at g; simp at g⟩
     · have e1 : zag S a t m = a := by unfold zag zd7; simp [g2]
       have e2 : zax S a t m = fwP (za a.ws m.toNat) := by unfold zax; rw [if_pos ⟨hr, hu⟩, if_pos g2]
       rw [e1, e2]
       exact ⟨[], by simpa using h, fun _ => ⟨zju _, by simpa [zt] using g3⟩, fun g => by rw [hr] at g; simp at g⟩
 · have e1 : zag S a t m = a := by unfold zag zd7; simp [hr]
   have e2 : zax S a t m = m := by unfold zax; rw [if_neg (fun g => hr g.1)]
   rw [e1, e2]
   exact ⟨[], by simpa using h, fun g => absurd g hr, fun _ => rfl⟩
end
theorem zn6 {x : Int} (h0 : 0 <= x) (h1 : x < 18446744073709551616) : IntKind.u64.wrap (wrap64 x) = x := by
 rw [IntKind.wrap_u64]
 unfold wrap64
 omega
theorem zp4 {x : Int} (h0 : 0 <= x) (h1 : x < 18446744073709551616) : IntKind.u64.wrap x = x := by
 rw [IntKind.wrap_u64]
 omega
theorem zxe {ws : List Int} {x i : Nat} {v : Int} (hi : i < ws.length) : za (ws.set x v) i = if i = x then v else za ws i := by
 unfold za
 by_cases e : i = x
 · subst e; simp [hi]
 · rw [if_neg e, List.getD_eq_getElem?_getD, List.getElem?_set_ne (fun g => e g.symm), <- List.getD_eq_getElem?_getD]
theorem zlh {ws : List Int} {x i : Nat} {v : Int} (h : i ≠ x) : za (ws.set x v) i = za ws i := by
 unfold za
 rw [List.getD_eq_getElem?_getD, List.getElem?_set_ne (fun g => h g.symm), <- List.getD_eq_getElem?_getD]
theorem zjk {ws : List Int} {x : Nat} {v : Int} (h : x < ws.length) (hv : za ws x = v) : ws.set x v = ws := by
 refine List.ext_getElem? fun i => ?_
 by_cases e : i = x
 · subst e
   rw [List.getElem?_set_self h]
   unfold za at hv
   rw [List.getD_eq_getElem?_getD, List.getElem?_eq_getElem h] at hv
   rw [List.getElem?_eq_getElem h, <- hv]
   rfl
 · rw [List.getElem?_set_ne (fun g => e g.symm)]
theorem zt5 {ws : List Int} {x : Nat} {v : Int} (hw : zg ws) (h0 : 0 <= v) (h1 : v < 18446744073709551616) : zg (ws.set x v) := fun z hz => by
 rcases List.mem_or_eq_of_mem_set hz with g | rfl
 · exact hw z g
 · exact ⟨h0, h1⟩
theorem zkj {x : Int} (h0 : 0 <= x) (h1 : x < 9223372036854775808) : wrap64 x = x := by unfold wrap64; omega
section
variable {a : Cp} {S E F Od sn J : Nat} {L O : List Nat}
theorem Cyc.layG {jj J' : Nat} (h : Cyc a S E F Od sn J L O) (hs : sn ∈ L) (hJ : jj < zat a.ws sn) (hJ' : ∀ i, J <= i -> J' <= i \/ i = jj) {v : Int} (hv : isR (rvT a.ws (zn a.ws sn jj)) = true -> 0 <= v /\ v.toNat ∈ L) (hv2 : isR (rvT a.ws (zn a.ws sn jj)) = false -> v = rvN a.ws (zn a.ws sn jj)) :
 Cyc ⟨a.ws.set (zn a.ws sn jj + 1) (IntKind.u64.wrap v), a.T, a.C⟩ S E F Od sn J' L O := by
 have hTE := h.TE
 have hE := h.hE
 have hap := h.ap
 obtain ⟨q1, q2, q3⟩ := h.inL hs
 obtain ⟨x1, x2⟩ := zes q2 hJ
 obtain ⟨X, hX⟩ : ∃ X, X = zn a.ws sn jj := ⟨_, rfl⟩
 rw [<- hX] at x1 x2 hv hv2 ⊢
 unfold szA at q3
 have hXT : X + 1 < a.T := by omega
 obtain ⟨so, sl⟩ := h.slL sn hs jj hJ
 rw [<- hX] at so sl
 have hgo : ∀ p j, j < zat a.ws p -> (sn < p \/ sn = p /\ J <= j) -> ¬ (sn < p \/ sn = p /\ J' <= j) -> p = sn /\ j = jj := fun p j _ g1 g2 => by
  rcases g1 with g | ⟨rfl, g⟩
  · exact absurd (.inl g) g2
  · rcases hJ' j g with k | k
    · exact absurd (.inr ⟨rfl, k⟩) g2
    · exact ⟨rfl, k⟩
 cases hr : isR (rvT a.ws X) with
 | false =>
   have hw := zv h.w64 (X + 1)
   have e : IntKind.u64.wrap v = za a.ws (X + 1) := by
    rw [hv2 hr]
    have : rvN a.ws X = wrap64 (za a.ws (X + 1)) := by simp [rvN, so]
    rw [this, zn6 hw.1 hw.2]
   rw [e, zjk (by omega) rfl]
   refine ⟨h.use, h.oth, h.room, h.hE, h.hOd, h.ap, h.hS, h.hF, h.small, h.w64, .inr hs, fun p hp j hj => ?_, h.slO⟩
   obtain ⟨u1, u2⟩ := h.slL p hp j hj
   refine ⟨u1, fun g => ?_⟩
   rcases u2 g with k | ⟨k1, k2⟩
   · exact .inl k
   · by_cases k3 : sn < p \/ sn = p /\ J' <= j
     · exact .inr ⟨k3, k2⟩
     · obtain ⟨rfl, rfl⟩ := hgo p j hj k1 k3
       rw [<- hX, hr] at g
       simp at g
 | true =>
   obtain ⟨v0, vL⟩ := hv hr
   have vin := h.inL vL
   unfold szA at vin
   have hS := h.hS
   have hsm := h.small
   have e : IntKind.u64.wrap v = v := zp4 v0 (by omega)
   rw [e]
   have hoth : ∀ i, i ≠ X + 1 -> za (a.ws.set (X + 1) v) i = za a.ws i := fun i hi => zlh hi
   have hself : za (a.ws.set (X + 1) v) (X + 1) = v := by rw [zxe (by omega), if_pos rfl]
   have hheadL : ∀ p ∈ L, p ≠ X + 1 := fun p hp e => by
    have hnx : nxA a.ws sn = some (rdS (za a.ws sn)).toNat := by unfold nxA; rw [if_pos q2]
    have := h.use.sep sn hs p hp (by omega) _ hnx
    omega
   have hO : ∀ i, F <= i -> i < Od -> i ≠ X + 1 := fun i _ _ => by omega
   have hbodyL : ∀ p ∈ L, p ≠ sn -> ∀ i, p <= i -> i <= p + (rdS (za a.ws p)).toNat -> i ≠ X + 1 := fun p hp hne i i1 i2 e => by
    have hpi := h.inL hp
    have hnx : nxA a.ws sn = some (rdS (za a.ws sn)).toNat := by unfold nxA; rw [if_pos q2]
    have hnp : nxA a.ws p = some (rdS (za a.ws p)).toNat := by unfold nxA; rw [if_pos hpi.2.1]
    by_cases g : sn < p
    · have := h.use.sep sn hs p hp g _ hnx; omega
    · have := h.use.sep p hp sn hs (by omega) _ hnp; omega
   refine ⟨?_, ?_, ?_, by simpa using h.hE, by simpa using h.hOd, h.ap, h.hS, h.hF, by simpa using h.small, zt5 h.w64 v0 (by omega), .inr hs, ?_, ?_⟩
   · exact h.use.mono fun p hp s hs' => by unfold nxA at hs' ⊢; rw [hoth p (hheadL p hp)]; exact hs'
   · refine h.oth.mono fun p hp s hs' => ?_
     obtain ⟨o1, o2, ho⟩ := h.inO hp
     have e1 := hoth p (hO p o1 o2)
     have e2 : zt (a.ws.set (X + 1) v) p = zt a.ws p := by unfold zt; rw [e1]
     rcases zhk hs' with ⟨h4, rfl⟩ | ⟨h4, h5, h6, rfl⟩
     · unfold nxB; rw [e1, if_pos h4]
     · unfold nxB; rw [e1, e2, if_neg (by simp [h4]), if_pos ⟨h5, h6⟩, hoth _ (hheadL _ h6)]
   · have e1 : zbw (a.ws.set (X + 1) v) O = zbw a.ws O := by
      unfold zbw
      congr 1
      refine List.map_congr_left fun p hp => ?_
      obtain ⟨o1, o2, _⟩ := h.inO hp
      have e1 := hoth p (hO p o1 o2)
      simp only [e1, szA]
     show a.T + zbw (a.ws.set (X + 1) v) O <= E
     rw [e1]
     exact h.room
   · intro p hp j hj
     dsimp only at hj ⊢
     have hpi := h.inL hp
     have hhd := hoth p (hheadL p hp)
     have hsl : zat (a.ws.set (X + 1) v) p = zat a.ws p := by simp [zat, hhd]
     have hsx : zn (a.ws.set (X + 1) v) p j = zn a.ws p j := by simp [zn, hhd]
     rw [hsl] at hj
     rw [hsx]
     obtain ⟨y1, y2⟩ := zes hpi.2.1 hj
     by_cases hpj : p = sn /\ j = jj
     · obtain ⟨rfl, rfl⟩ := hpj
       rw [<- hX]
       have et := hoth X (by omega)
       have hwt := zv h.w64 X
       have hvo : vOk (wrap64 (za a.ws X)) (wrap64 (za a.ws (X + 1))) = true := so
       have ht : rvT a.ws X = za a.ws X := by simp [rvT, so]
       rw [ht] at hr
       have hr' := of_decide_eq_true hr
       have ewt : wrap64 (za a.ws X) = za a.ws X := zkj hwt.1 (by omega)
       have ewv : wrap64 v = v := zkj v0 (by omega)
       have ho : za2 (a.ws.set (X + 1) v) X = true := by
        unfold za2
        rw [et, hself, ewt, ewv]
        exact decide_eq_true (by omega)
       have hn : rvN (a.ws.set (X + 1) v) X = v := by simp only [rvN, ho, if_true]; rw [hself, ewv]
       refine ⟨ho, fun _ => .inl ?_⟩
       rw [hn]
       exact vL
     · have hwords : zn a.ws p j ≠ X + 1 /\ zn a.ws p j + 1 ≠ X + 1 := by
        by_cases g : p = sn
        · subst g
          have hj' : j ≠ jj := fun e => hpj ⟨rfl, e⟩
          have e1 : zn a.ws p j = p + (fs (rdK (za a.ws p)) + 2 * (j : Int)).toNat := rfl
          have e2 : X = p + (fs (rdK (za a.ws p)) + 2 * (jj : Int)).toNat := hX
          have := zii (rdK (za a.ws p))
          omega
        · exact ⟨hbodyL p hp g _ (by omega) (by omega), hbodyL p hp g _ (by omega) (by omega)⟩
       have e1 := hoth _ hwords.1
       have e2 := hoth _ hwords.2
       have eo : za2 (a.ws.set (X + 1) v) (zn a.ws p j) = za2 a.ws (zn a.ws p j) := by simp only [za2, e1, e2]
       have et : rvT (a.ws.set (X + 1) v) (zn a.ws p j) = rvT a.ws (zn a.ws p j) := by simp only [rvT, eo, e1]
       have en : rvN (a.ws.set (X + 1) v) (zn a.ws p j) = rvN a.ws (zn a.ws p j) := by simp only [rvN, eo, e2]
       rw [eo, et, en]
       obtain ⟨u1, u2⟩ := h.slL p hp j hj
       refine ⟨u1, fun g => ?_⟩
       rcases u2 g with k | ⟨k1, k2⟩
       · exact .inl k
       · by_cases k3 : sn < p \/ sn = p /\ J' <= j
         · exact .inr ⟨k3, k2⟩
         · exact absurd (hgo p j hj k1 k3) hpj
   · intro p hp hrp j hj
     obtain ⟨o1, o2, ho⟩ := h.inO hp
     have e1 := hoth p (hO p o1 o2)
     dsimp only at hrp hj ⊢
     rw [e1] at hrp
     have hpn : p + szA a.ws p <= Od := by
      rcases ho with g | g
      · exact g.2
      · rw [hrp] at g; simp at g
     unfold szA at hpn
     obtain ⟨s1, s2⟩ := zh8 (ws := a.ws) (ws' := a.ws.set (X + 1) v) hrp (fun i i1 i2 => hoth i (hO i (by omega) (by omega)))
     rw [s1] at hj
     obtain ⟨t1, t2, t3, t4⟩ := s2 j hj
     rw [t1, t2, t3, t4]
     exact h.slO p hp hrp j hj
theorem Cyc.fwd_same (h : Cyc a S E F Od sn J L O) {t m : Int} (hm : isR t = true -> 0 <= m /\ (m.toNat ∈ L \/ m.toNat ∈ O)) : (zag S a t m).ws.length = a.ws.length /\ ∀ i, S <= i -> i < a.T -> za (zag S a t m).ws i = za a.ws i := by
 unfold zag
 split
 · rename_i g
   simp only [zd7, Bool.and_eq_true, Bool.not_eq_true', decide_eq_false_iff_not] at g
   obtain ⟨g1, g2, g3⟩ := g
   obtain ⟨m0, hmm⟩ := hm g1
   have hTE := h.TE
   have hE := h.hE
   refine ⟨ze4 _ _ _ _, fun i i1 i2 => zh7 (by omega) (fun e => ?_) (by omega)⟩
   omega
 · exact ⟨rfl, fun _ _ _ => rfl⟩
def zde (S sn : Nat) (a : Cp) (j : Nat) : Cp :=
 ⟨(zag S a (rvT a.ws (zn a.ws sn j)) (rvN a.ws (zn a.ws sn j))).ws.set (zn a.ws sn j + 1) (IntKind.u64.wrap (zax S a (rvT a.ws (zn a.ws sn j)) (rvN a.ws (zn a.ws sn j)))), (zag S a (rvT a.ws (zn a.ws sn j)) (rvN a.ws (zn a.ws sn j))).T, (zag S a (rvT a.ws (zn a.ws sn j)) (rvN a.ws (zn a.ws sn j))).C⟩
theorem Cyc.slot_ref (h : Cyc a S E F Od sn J L O) {p j : Nat} (hp : p ∈ L) (hj : j < zat a.ws p) : isR (rvT a.ws (zn a.ws p j)) = true -> 0 <= rvN a.ws (zn a.ws p j) /\ ((rvN a.ws (zn a.ws p j)).toNat ∈ L \/ (rvN a.ws (zn a.ws p j)).toNat ∈ O) := fun hr => by
 obtain ⟨u1, u2⟩ := h.slL p hp j hj
 have := zgv h.w64 u1 hr
 refine ⟨by omega, ?_⟩
 rcases u2 hr with g | g
 · exact .inl g
 · exact .inr g.2
theorem Cyc.slotG {jj J' : Nat} (h : Cyc a S E F Od sn J L O) (hs : sn ∈ L) (hJ : jj < zat a.ws sn) (hJ' : ∀ i, J <= i -> J' <= i \/ i = jj) :
 ∃ M, Cyc (zde S sn a jj) S E F Od sn J' (L ++ M) O /\ za (zde S sn a jj).ws sn = za a.ws sn /\ (zde S sn a jj).ws.length = a.ws.length /\ a.T <= (zde S sn a jj).T := by
 obtain ⟨q1, q2, q3⟩ := h.inL hs
 obtain ⟨x1, x2⟩ := zes q2 hJ
 unfold szA at q3
 have href := h.slot_ref hs hJ
 obtain ⟨M, hc, hv1, hv2⟩ := h.fwd href
 obtain ⟨hl, hsame⟩ := h.fwd_same href
 obtain ⟨X, hX⟩ : ∃ X, X = zn a.ws sn jj := ⟨_, rfl⟩
 obtain ⟨b, hb⟩ : ∃ b, b = zag S a (rvT a.ws (zn a.ws sn jj)) (rvN a.ws (zn a.ws sn jj)) := ⟨_, rfl⟩
 obtain ⟨v, hvv⟩ : ∃ v, v = zax S a (rvT a.ws (zn a.ws sn jj)) (rvN a.ws (zn a.ws sn jj)) := ⟨_, rfl⟩
 have e : zde S sn a jj = ⟨b.ws.set (X + 1) (IntKind.u64.wrap v), b.T, b.C⟩ := by rw [hX, hb, hvv]; rfl
 rw [e]
 rw [<- hb] at hc hl hsame
 rw [<- hvv] at hv1 hv2
 rw [<- hX] at hv1 hv2 x1 x2
 have hh : za b.ws sn = za a.ws sn := hsame sn q1 (by omega)
 have hXb : zn b.ws sn jj = X := by rw [hX]; simp [zn, hh]
 have hNb : zat b.ws sn = zat a.ws sn := by simp [zat, hh]
 have w1 := hsame X (by omega) (by omega)
 have w2 := hsame (X + 1) (by omega) (by omega)
 have ro : za2 b.ws X = za2 a.ws X := by simp only [za2, w1, w2]
 have rt : rvT b.ws X = rvT a.ws X := by simp only [rvT, ro, w1]
 have rn : rvN b.ws X = rvN a.ws X := by simp only [rvN, ro, w2]
 have := hc.layG (v := v) (by simp [hs]) (by rw [hNb]; exact hJ) hJ' (by rw [hXb, rt]; exact hv1) (by rw [hXb, rt, rn]; exact hv2)
 rw [hXb] at this
 refine ⟨M, this, ?_, by simpa using hl, ?_⟩
 · show za (b.ws.set (X + 1) (IntKind.u64.wrap v)) sn = _
   rw [zlh (by omega), hh]
 · show a.T <= b.T
   rw [hb]
   unfold zag
   split
   · show a.T <= a.T + _; omega
   · exact Nat.le_refl _
theorem Cyc.slot (h : Cyc a S E F Od sn J L O) (hs : sn ∈ L) (hJ : J < zat a.ws sn) :
 ∃ M, Cyc (zde S sn a J) S E F Od sn (J + 1) (L ++ M) O /\ za (zde S sn a J).ws sn = za a.ws sn /\ (zde S sn a J).ws.length = a.ws.length /\ a.T <= (zde S sn a J).T := h.slotG hs hJ (fun i hi => by omega)
def ze7 (S sn : Nat) (a : Cp) : Nat -> Cp
 | 0 => a
 | k + 1 => zde S sn (ze7 S sn a k) k
theorem Cyc.slots (h : Cyc a S E F Od sn 0 L O) (hs : sn ∈ L) : ∀ k, k <= zat a.ws sn -> ∃ M, Cyc (ze7 S sn a k) S E F Od sn k (L ++ M) O /\ za (ze7 S sn a k).ws sn = za a.ws sn /\ (ze7 S sn a k).ws.length = a.ws.length /\ a.T <= (ze7 S sn a k).T
 | 0, _ => ⟨[], by rw [List.append_nil]; exact h, rfl, rfl, Nat.le_refl _⟩
 | k + 1, hk => by
   obtain ⟨M, h1, h2, h3, h4⟩ := h.slots hs k (by omega)
   have hN : zat (ze7 S sn a k).ws sn = zat a.ws sn := by simp [zat, h2]
   obtain ⟨M2, g1, g2, g3, g4⟩ := h1.slot (by simp [hs]) (by rw [hN]; omega)
   refine ⟨M ++ M2, ?_, ?_, ?_, ?_⟩
   · rw [<- List.append_assoc]; exact g1
   · exact g2.trans h2
   · exact g3.trans h3
   · exact Nat.le_trans h4 g4
theorem zo.next {nx : Nat -> Option Nat} {p q : Nat} {L : List Nat} (h : zo nx p q L) : ∀ x ∈ L, ∀ s, nx x = some s -> x + s + 1 = q \/ x + s + 1 ∈ L := by
 induction L generalizing p with
 | nil => intro x hx; simp at hx
 | cons a L ih =>
   obtain ⟨rfl, s, hs, t⟩ := h
   intro x hx s' hs'
   rcases List.mem_cons.1 hx with e1 | h1
   · subst e1
     rw [hs] at hs'
     cases hs'
     cases L with
     | nil => exact .inl (show q = _ from t).symm
     | cons b L =>
       obtain ⟨hb, _⟩ := t
       exact .inr (by simp [hb])
   · rcases ih t x h1 s' hs' with g | g
     · exact .inl g
     · exact .inr (by simp [g])
theorem Cyc.next (h : Cyc a S E F Od sn J L O) (hs : sn ∈ L) (hJ : zat a.ws sn <= J) : Cyc a S E F Od (sn + szA a.ws sn) 0 L O := by
 obtain ⟨q1, q2, q3⟩ := h.inL hs
 have hnx : nxA a.ws sn = some (rdS (za a.ws sn)).toNat := by unfold nxA; rw [if_pos q2]
 have e : sn + szA a.ws sn = sn + (rdS (za a.ws sn)).toNat + 1 := by unfold szA; omega
 refine ⟨h.use, h.oth, h.room, h.hE, h.hOd, h.ap, h.hS, h.hF, h.small, h.w64, ?_, fun p hp j hj => ?_, h.slO⟩
 · rw [e]
   rcases h.use.next sn hs _ hnx with g | g
   · exact .inl ⟨g, rfl⟩
   · exact .inr g
 · obtain ⟨u1, u2⟩ := h.slL p hp j hj
   refine ⟨u1, fun g => ?_⟩
   rcases u2 g with k | ⟨k1, k2⟩
   · exact .inl k
   · refine .inr ⟨?_, k2⟩
     have hlt : sn < p := by
      rcases k1 with k1 | ⟨rfl, k1⟩
      · exact k1
      · omega
     have := h.use.sep sn hs p hp hlt _ hnx
     rw [e]
     omega
def zgz (S sn : Nat) (a : Cp) : Cp := ze7 S sn a (zat a.ws sn)
theorem Cyc.obj (h : Cyc a S E F Od sn 0 L O) (hs : sn ∈ L) :
 ∃ M, Cyc (zgz S sn a) S E F Od (sn + szA a.ws sn) 0 (L ++ M) O /\ (zgz S sn a).ws.length = a.ws.length /\ a.T <= (zgz S sn a).T := by
 obtain ⟨M, h1, h2, h3, h4⟩ := h.slots hs _ (Nat.le_refl _)
 have hN : zat (ze7 S sn a (zat a.ws sn)).ws sn = zat a.ws sn := by unfold zat at h2 ⊢; rw [h2]
 have hz : szA (ze7 S sn a (zat a.ws sn)).ws sn = szA a.ws sn := by simp [szA, h2]
 have := h1.next (by simp [hs]) (by rw [hN]; exact Nat.le_refl _)
 rw [hz] at this
 exact ⟨M, this, h3, h4⟩
theorem Cyc.scanT (h : Cyc a S E F Od sn J L O) : S <= sn /\ sn <= a.T /\ (sn ≠ a.T -> sn ∈ L) := by
 rcases h.sc with ⟨g, _⟩ | g
 · have := h.ST
   exact ⟨by omega, by omega, fun e => absurd g e⟩
 · have := h.inL g
   unfold szA at this
   exact ⟨by omega, by omega, fun _ => g⟩
end
def zfp (S : Nat) : Nat -> Cp -> Nat -> Nat -> Cp × Nat
 | 0, a, _, n => (a, n)
 | d + 1, a, sn, n => if sn = a.T then (a, n) else zfp S d (zgz S sn a) (sn + szA a.ws sn) (n + 1)
theorem zvp (S : Nat) : ∀ (d : Nat) (a : Cp) (sn n : Nat), sn = a.T -> zfp S d a sn n = (a, n)
 | 0, a, sn, n, h => rfl
 | d + 1, a, sn, n, h => by simp [zfp, h]
theorem zt6 {S d : Nat} {a : Cp} {sn n : Nat} (h : sn ≠ a.T) : zfp S (d + 1) a sn n = zfp S d (zgz S sn a) (sn + szA a.ws sn) (n + 1) := by simp [zfp, h]
theorem zxf (ws : List Int) (p : Nat) : 1 <= szA ws p := by unfold szA; omega
theorem Cyc.run {S E F Od : Nat} {O : List Nat} : ∀ (d : Nat) {a : Cp} {sn : Nat} {L : List Nat} (n : Nat), Cyc a S E F Od sn 0 L O -> E <= sn + d ->
 ∃ M, Cyc (zfp S d a sn n).1 S E F Od (zfp S d a sn n).1.T 0 (L ++ M) O /\ (zfp S d a sn n).1.ws.length = a.ws.length /\ (zfp S d a sn n).2 <= n + (E - sn)
 | 0, a, sn, L, n, h, hd => by
   have h1 := h.scanT
   have h2 := h.TE
   obtain rfl : sn = a.T := by omega
   exact ⟨[], by simpa [zfp] using h, rfl, by simp [zfp]⟩
 | d + 1, a, sn, L, n, h, hd => by
   by_cases e : sn = a.T
   · subst e
     rw [zvp _ _ _ _ _ rfl]
     exact ⟨[], by simpa using h, rfl, by simp⟩
   · rw [zt6 e]
     obtain ⟨M, h1, h2, h3⟩ := h.obj (h.scanT.2.2 e)
     have := zxf a.ws sn
     obtain ⟨M2, g1, g2, g3⟩ := Cyc.run d (n + 1) h1 (by omega)
     have h4 := h.scanT
     have h5 := h.TE
     refine ⟨M ++ M2, by rw [<- List.append_assoc]; exact g1, g2.trans h2, by omega⟩
def zan (S : Nat) (a : Cp) (y : Nat -> Int) : Nat -> Cp × (Nat -> Int)
 | 0 => (a, y)
 | k + 1 => (zag S (zan S a y k).1 ((zan S a y k).2 (2 * k)) ((zan S a y k).2 (2 * k + 1)), zh9 (zan S a y k).2 k ((zan S a y k).2 (2 * k)) (zax S (zan S a y k).1 ((zan S a y k).2 (2 * k)) ((zan S a y k).2 (2 * k + 1))))
def zg0 (y : Nat -> Int) (k : Nat) (L : List Nat) : Prop := ∀ i, i < k -> isR (y (2 * i)) = true -> 0 <= y (2 * i + 1) /\ (y (2 * i + 1)).toNat ∈ L
theorem zwm {y : Nat -> Int} {r : Nat} {t n : Int} : zh9 y r t n (2 * r) = t /\ zh9 y r t n (2 * r + 1) = n := by
 refine ⟨by simp [zh9], ?_⟩
 unfold zh9
 rw [if_neg (by omega), if_pos rfl]
theorem zkk {y : Nat -> Int} {r i : Nat} {t n : Int} (h : i ≠ r) : zh9 y r t n (2 * i) = y (2 * i) /\ zh9 y r t n (2 * i + 1) = y (2 * i + 1) := by
 unfold zh9
 refine ⟨by rw [if_neg (by omega), if_neg (by omega)], by rw [if_neg (by omega), if_neg (by omega)]⟩
theorem Cyc.roots {a : Cp} {S E F Od sn : Nat} {L O : List Nat} (h : Cyc a S E F Od sn 0 L O) {y : Nat -> Int} {rl : Nat} (hy : zg0 y rl O) : ∀ k, k <= rl ->
 ∃ M, Cyc (zan S a y k).1 S E F Od sn 0 (L ++ M) O /\ zg0 (zan S a y k).2 k (L ++ M) /\ (∀ i, k <= i -> (zan S a y k).2 (2 * i) = y (2 * i) /\ (zan S a y k).2 (2 * i + 1) = y (2 * i + 1)) /\ (zan S a y k).1.ws.length = a.ws.length
 | 0, _ => ⟨[], by rw [List.append_nil]; exact h, fun i hi => by omega, fun i _ => ⟨rfl, rfl⟩, rfl⟩
 | k + 1, hk => by
   obtain ⟨M, h1, h2, h3, h4⟩ := h.roots hy k (by omega)
   have hk3 := h3 k (Nat.le_refl _)
   have href : isR ((zan S a y k).2 (2 * k)) = true -> 0 <= (zan S a y k).2 (2 * k + 1) /\ (((zan S a y k).2 (2 * k + 1)).toNat ∈ L ++ M \/ ((zan S a y k).2 (2 * k + 1)).toNat ∈ O) := fun g => by
    rw [hk3.1] at g
    rw [hk3.2]
    have := hy k (by omega) g
    exact ⟨this.1, .inr this.2⟩
   obtain ⟨M2, g1, g2, g3⟩ := h1.fwd href
   obtain ⟨l1, _⟩ := h1.fwd_same href
   refine ⟨M ++ M2, by rw [<- List.append_assoc]; exact g1, fun i hi hr => ?_, fun i hi => ?_, l1.trans h4⟩
   · by_cases e : i = k
     · subst e
       have hp := zwm (y := (zan S a y i).2) (r := i) (t := (zan S a y i).2 (2 * i)) (n := zax S (zan S a y i).1 ((zan S a y i).2 (2 * i)) ((zan S a y i).2 (2 * i + 1)))
       simp only [zan] at hr ⊢
       rw [hp.1] at hr
       rw [hp.2, <- List.append_assoc]
       exact g2 hr
     · have hp := zkk (y := (zan S a y k).2) (r := k) (i := i) (t := (zan S a y k).2 (2 * k)) (n := zax S (zan S a y k).1 ((zan S a y k).2 (2 * k)) ((zan S a y k).2 (2 * k + 1))) e
       simp only [zan] at hr ⊢
       rw [hp.1] at hr
       rw [hp.2]
       have := h2 i (by omega) hr
       exact ⟨this.1, by rw [<- List.append_assoc]; simp only [List.mem_append] at this ⊢; exact .inl this.2⟩
   · have hp := zkk (y := (zan S a y k).2) (r := k) (i := i) (t := (zan S a y k).2 (2 * k)) (n := zax S (zan S a y k).1 ((zan S a y k).2 (2 * k)) ((zan S a y k).2 (2 * k + 1))) (by omega)
     simp only [zan]
     rw [hp.1, hp.2]
     exact h3 i (by omega)
structure zl3 (ws : List Int) (S T E : Nat) (L : List Nat) : Prop where
 use : zo (nxA ws) S T L
 hT : T <= E
 hE : E <= ws.length
 hS : 1 <= S
 small : ws.length <= 1048576
 w64 : zg ws
 slL : ∀ p ∈ L, ∀ j, j < zat ws p -> za2 ws (zn ws p j) = true /\ (isR (rvT ws (zn ws p j)) = true -> (rvN ws (zn ws p j)).toNat ∈ L)
theorem Cyc.still {a : Cp} {S E F Od : Nat} {L O : List Nat} (h : Cyc a S E F Od a.T 0 L O) : zl3 a.ws S a.T E L :=
 ⟨h.use, h.TE, h.hE, h.hS, h.small, h.w64, fun p hp j hj => by
  obtain ⟨u1, u2⟩ := h.slL p hp j hj
  refine ⟨u1, fun g => ?_⟩
  rcases u2 g with k | ⟨k1, _⟩
  · exact k
  · have := h.inL hp
    unfold szA at this
    omega⟩
theorem zr5 {ws : List Int} {p q : Nat} {L : List Nat} (h : zo (nxA ws) p q L) : p + zbw ws L = q := by
 refine zo.ind (motive := fun p L => p + zbw ws L = q) (by simp [zbw]) (fun {p s L} hs t ih => ?_) h
 obtain ⟨g1, rfl⟩ := zhj hs
 have e : zbw ws (p :: L) = szA ws p + zbw ws L := by simp [zbw, g1]
 rw [e]
 unfold szA
 omega
theorem zl3.flip {ws : List Int} {S T E : Nat} {L : List Nat} (h : zl3 ws S T E L) {S' E' : Nat} (h1 : E' <= S \/ T <= S') (h2 : S' + (T - S) <= E') (h3 : E' <= ws.length) (h4 : 1 <= S') : Cyc ⟨ws, S', 0⟩ S' E' S T S' 0 [] L := by
 have hl := zr5 h.use
 refine ⟨zo.nil _, h.use.mono fun x hx s hs => ?_, ?_, h3, by have := h.hT; have := h.hE; show T <= ws.length; omega, h1, h4, h.hS, h.small, h.w64, .inl ⟨rfl, rfl⟩, fun p hp => by simp at hp, fun p hp hr j hj => h.slL p hp j hj⟩
 · obtain ⟨g1, rfl⟩ := zhj hs
   unfold nxB
   rw [if_pos g1]
 · show S' + zbw ws L <= E'
   omega
theorem zvz {ws : List Int} {sr : Int} {x s : Nat} (h : nx1 ws sr x = some s) : nxA ws x = some s := by
 obtain ⟨g1, _, g3⟩ := zdb h
 unfold nxA
 rw [if_pos g1, g3]
theorem zxq {ws : List Int} {sr : Int} {U : List Nat} {x s : Nat} (h : nx2 ws sr U x = some s) : nxB ws U x = some s := by
 cases hr : zw (za ws x) with
 | true =>
   obtain ⟨_, g⟩ := zg6 h hr
   unfold nxB
   rw [if_pos hr, g]
 | false =>
   obtain ⟨g1, g2, g3⟩ := zfj h hr
   unfold nxB
   rw [if_neg (by simp [hr]), if_pos ⟨g1, g2⟩, g3]
theorem zr6 {ws : List Int} {U : List Nat} {p q : Nat} {O : List Nat} (h : zo (nxB ws U) p q O) : p + zbw ws O + zac ws O = q := by
 refine zo.ind (motive := fun p O => p + zbw ws O + zac ws O = q) (by simp [zbw, zac]) (fun {p s O} hs t ih => ?_) h
 rcases zhk hs with ⟨g1, rfl⟩ | ⟨g1, g2, g3, rfl⟩
 · have e1 : zbw ws (p :: O) = szA ws p + zbw ws O := by simp [zbw, g1]
   have e2 : zac ws (p :: O) = zac ws O := by simp [zac, zar, g1]
   rw [e1, e2]
   unfold szA
   omega
 · have e1 : zbw ws (p :: O) = zbw ws O := by simp [zbw, g1]
   have e2 : zac ws (p :: O) = (rdS (za ws (zt ws p))).toNat + 1 + zac ws O := by simp [zac, zar, g1, g2]
   rw [e1, e2]
   omega
theorem zki {ws : List Int} {L O : List Nat} {i : Nat} (h : mk2 ws L O i = 1) : i ∈ L := by
 unfold mk2 at h
 split at h
 · split at h <;> simp at h
 · split at h
   · assumption
   · simp at h
theorem zv0 {ws : List Int} {L O : List Nat} {i : Nat} (h : mk2 ws L O i = 2 \/ mk2 ws L O i = 3) : i ∈ O := by
 unfold mk2 at h
 split at h
 · assumption
 · split at h <;> simp at h
theorem zhi {mu : Int} (h : zbl mu 1 = true) : mu = 1 := by simpa [zbl] using h
theorem zvn {mu : Int} (h : zbl mu 2 = true) : mu = 1 \/ mu = 2 \/ mu = 3 := by simpa [zbl] using h
theorem zr7 {mu : Int} (h : zbl mu 3 = true) : mu = 2 \/ mu = 3 := by simpa [zbl] using h
section
variable {ws : List Int} {sm toh top : Int} {sn old cp sr : Int} {y : Nat -> Int} {rl : Nat} {S T E F : Nat}
theorem zvo (hw : zg ws) (hok : zbm ws sm toh top false sn old cp sr y rl) (hS : toh * sm + 1 = S) (hT : top = T) (hE : (toh + 1) * sm = E) : ∃ L, zl3 ws S T E L /\ zg0 y rl L := by
 obtain ⟨s0, s1, hl, t0, t1, hrl, h1, h2, hold⟩ := zc4 hok.1
 obtain ⟨g1, g2, g3, g4, g5⟩ := zcv s0 s1 hl t0 t1 h1 h2
 obtain ⟨L, O, ht, _, hobj, _, hroots⟩ := hok.2
 have eS : (toh * sm + 1).toNat = S := by omega
 have eT : top.toNat = T := by omega
 rw [eS, eT] at ht
 have hO : O = [] := ht.still rfl
 subst hO
 have hlen : E <= ws.length := by
  have hc : toh = 0 \/ toh = 1 := by omega
  rcases hc with rfl | rfl <;> omega
 refine ⟨L, ⟨ht.use.mono fun x _ s hs => zvz hs, by omega, hlen, by omega, by omega, hw, fun p hp j hj => ?_⟩, fun i hi hr => ?_⟩
 · have hm : mk2 ws L [] p = 1 := zfa hp (by simp)
   have hpl : p < ws.length := by have := ht.use.mem p hp; omega
   have ho := (hobj p hpl (.inl hm)).1 j hj
   have hfr : zbt (mk2 ws L []) false sn p = 1 := by simp [zbt, hm]
   rw [hfr] at ho
   refine ⟨ho.1, fun g => ?_⟩
   exact zki (zhi (ho.2.1 g).2.1)
 · obtain ⟨hv, _, hlead⟩ := hroots i hi
   have hm0 : 0 < y (2 * i + 1) := by
    have h3 := of_decide_eq_true hv
    have h4 := of_decide_eq_true hr
    omega
   exact ⟨by omega, zki (zhi (hlead hr).2.1)⟩
theorem zt4 {sc Od C : Nat} (hw : zg ws) (hok : zbm ws sm toh top true sn old cp sr y rl) (hS : toh * sm + 1 = S) (hT : top = T) (hE : (toh + 1) * sm = E) (hF : (1 - toh) * sm + 1 = F) (hO : old = Od) (hsc : sn = sc) (hC : cp = C) :
 ∃ L O, Cyc ⟨ws, T, C⟩ S E F Od sc 0 L O /\ zg0 y rl L := by
 obtain ⟨s0, s1, hl, t0, t1, hrl, h1, h2, hold⟩ := zc4 hok.1
 obtain ⟨g1, g2, g3, g4, g5⟩ := zcv s0 s1 hl t0 t1 h1 h2
 obtain ⟨L, O, ht, _, hobj, _, hroots⟩ := hok.2
 have eS : (toh * sm + 1).toNat = S := by omega
 have eT : top.toNat = T := by omega
 have eF : ((1 - toh) * sm + 1).toNat = F := by omega
 rw [eS, eT, eF] at ht
 have hlaid := zp6 hok (S := S) (T := T) (F := F) hS hT hF ht
 obtain ⟨r1, r2, r3, r4⟩ := ht.runs rfl
 have eO : old.toNat = Od := by omega
 rw [eO] at r1
 obtain ⟨a, b⟩ := hold rfl
 obtain ⟨o1, o2⟩ := g5 old a b
 have h3 : ze0 sm toh top old cp = true := by
  have := hok.1
  unfold zcl at this
  simp only [if_true, Bool.and_eq_true] at this
  exact this.2
 have h3' := of_decide_eq_true h3
 unfold zca at h3'
 have hlen : E <= ws.length /\ (E <= F \/ Od <= S) := by
  have hc : toh = 0 \/ toh = 1 := by omega
  rcases hc with rfl | rfl <;> omega
 have hboth := r1.mono (nx' := nxB ws L) fun x _ s hs => zxq hs
 have hsum := zr6 hboth
 refine ⟨L, O, ⟨ht.use.mono fun x _ s hs => zvz hs, hboth, ?_, hlen.1, by show Od <= ws.length; omega, hlen.2, by omega, by omega, by show ws.length <= _; omega, hw, ?_, fun p hp j hj => ?_, fun p hp hr j hj => ?_⟩, fun i hi hr => ?_⟩
 · show T + zbw ws O <= E
   omega
 · rcases r4 with g | ⟨_, _, g⟩
   · exact .inl ⟨by show sc = T; omega, rfl⟩
   · right
     have : sn.toNat = sc := by omega
     rw [this] at g
     exact g
 · have hm : mk2 ws L O p = 1 := zfa hp (hlaid.inL hp).2.2.2
   have hpl : p < ws.length := by have := hlaid.inL hp; omega
   have ho := (hobj p hpl (.inl hm)).1 j hj
   refine ⟨ho.1, fun g => ?_⟩
   have hf := (ho.2.1 g).2.1
   by_cases hps : sn <= p
   · have hfr : zbt (mk2 ws L O) true sn p = 2 := by simp [zbt, hm, hps]
     rw [hfr] at hf
     rcases zvn hf with k | k
     · exact .inl (zki k)
     · exact .inr ⟨by omega, zv0 k⟩
   · have hfr : zbt (mk2 ws L O) true sn p = 1 := by simp [zbt, hm, hps]
     rw [hfr] at hf
     exact .inl (zki (zhi hf))
 · have hpO := hlaid.inO hp
   have hfw : zar ws p = false := zig hr
   have hm : mk2 ws L O p = 2 := by simp [mk2, hp, hfw]
   have ho := (hobj p hpO.2.2.1 (.inr hm)).1 j hj
   have hfr : zbt (mk2 ws L O) true sn p = 3 := by simp [zbt, hm]
   rw [hfr] at ho
   exact ⟨ho.1, fun g => zv0 (zr7 (ho.2.1 g).2.1)⟩
 · obtain ⟨hv, _, hlead⟩ := hroots i hi
   have hm0 : 0 < y (2 * i + 1) := by
    have h3 := of_decide_eq_true hv
    have h4 := of_decide_eq_true hr
    omega
   exact ⟨by omega, zki (zhi (hlead hr).2.1)⟩
end
end Go.Proofs.YtdnhohndppmgcaaGreatDoor
