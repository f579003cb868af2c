/- - -/
import Derived.Test.YtaapiedminakcaaGreatFReadsB
import Derived.Test.YtaapiedminakcaaGreatFRowF
namespace Go.Proofs.YtaapiedminakcaaGreat
set_option maxRecDepth 20000
open Go.RowKit
set_option linter.unusedSimpArgs false
set_option linter.unusedVariables false
theorem zt2 {x : Int} (h : zx x = true) : za5 x = false := by
 unfold zx at h
 rw [zd8] at h
 unfold HOk at h
 unfold za5
 apply decide_eq_false
 omega
def mvW (ws : List Int) (p q n : Nat) : List Int := (List.range ws.length).map fun i => if i = p then 9223372036854775808 + (q : Int) else if q <= i /\ i < q + n then za ws (p + (i - q)) else za ws i
theorem zeq (ws : List Int) (p q n : Nat) : (mvW ws p q n).length = ws.length := by simp [mvW]
theorem zjg {ws : List Int} {p q n i : Nat} (hi : i < ws.length) : za (mvW ws p q n) i = if i = p then 9223372036854775808 + (q : Int) else if q <= i /\ i < q + n then za ws (p + (i - q)) else za ws i := by
 simp [mvW, za, hi]
theorem zhn {ws : List Int} {p q n i : Nat} (hi : i < ws.length) (h1 : i ≠ p) (h2 : ¬ (q <= i /\ i < q + n)) : za (mvW ws p q n) i = za ws i := by rw [zjg hi, if_neg h1, if_neg h2]
theorem zvh {ws : List Int} {p q n d : Nat} (hi : q + d < ws.length) (hd : d < n) (h1 : q + d ≠ p) : za (mvW ws p q n) (q + d) = za ws (p + d) := by
 rw [zjg hi, if_neg h1, if_pos (by omega)]
 congr 1
 omega
theorem zvi {ws : List Int} {p q n : Nat} (hi : p < ws.length) : za (mvW ws p q n) p = 9223372036854775808 + (q : Int) := by rw [zjg hi, if_pos rfl]
theorem zr9 {ws : List Int} {p q n : Nat} (hw : zg ws) (hq : q <= 1048576) : zg (mvW ws p q n) := by
 intro z hz
 unfold mvW at hz
 obtain ⟨i, _, rfl⟩ := List.mem_map.1 hz
 split
 · omega
 · split
   · exact zw hw _
   · exact zw hw _
theorem zvj {q : Nat} (hq : q <= 1048576) : za5 (9223372036854775808 + (q : Int)) = true /\ fwP (9223372036854775808 + (q : Int)) = q /\ zx (9223372036854775808 + (q : Int)) = false := by
 have h1 : za5 (9223372036854775808 + (q : Int)) = true := decide_eq_true ⟨by omega, by omega⟩
 refine ⟨h1, by simp [fwP, h1]; omega, ?_⟩
 cases h : zx (9223372036854775808 + (q : Int)) with
 | false => rfl
 | true => rw [zt2 h] at h1; simp at h1
structure Cp where
 ws : List Int
 T : Nat
 C : Nat
def szA (ws : List Int) (p : Nat) : Nat := (rdS (za ws p)).toNat + 1
def zd0 (S : Nat) (a : Cp) (t m : Int) : Bool := isR t && (!decide ((S : Int) <= m /\ m < (a.T : Int)) && !za5 (za a.ws m.toNat))
def zam (S : Nat) (a : Cp) (t m : Int) : Cp := if zd0 S a t m = true then ⟨mvW a.ws m.toNat a.T (szA a.ws m.toNat), a.T + szA a.ws m.toNat, a.C + szA a.ws m.toNat⟩ else a
def zbf (S : Nat) (a : Cp) (t m : Int) : Int := if isR t = true /\ ¬ ((S : Int) <= m /\ m < (a.T : Int)) then (if za5 (za a.ws m.toNat) = true then fwP (za a.ws m.toNat) else (a.T : Int)) else m
structure Kp (X : List Nat) (w w' : World) : Prop where
 os : w'.os = w.os
 tape : w'.tape = w.tape
 output : w'.output = w.output
 size : w.heap.size <= w'.heap.size
 block : ∀ k, k < w.heap.size -> k ∉ X -> w'.heap[k]? = w.heap[k]?
theorem Kp.refl (X : List Nat) (w : World) : Kp X w w := ⟨rfl, rfl, rfl, Nat.le_refl _, fun _ _ _ => rfl⟩
theorem Kp.trans {X : List Nat} {a b c : World} (h : Kp X a b) (k : Kp X b c) : Kp X a c :=
 ⟨k.os.trans h.os, k.tape.trans h.tape, k.output.trans h.output, Nat.le_trans h.size k.size, fun i hi hr => (k.block i (Nat.lt_of_lt_of_le hi h.size) hr).trans (h.block i hi hr)⟩
theorem Kp.mono {X Y : List Nat} {w w' : World} (h : Kp X w w') (hs : ∀ x ∈ X, x ∈ Y) : Kp Y w w' := ⟨h.os, h.tape, h.output, h.size, fun k hk hn => h.block k hk (fun g => hn (hs k g))⟩
theorem Kp.of_below {X : List Nat} {w w' : World} (h : Below w.heap.size w w') : Kp X w w' := ⟨h.os, h.tape, h.output, h.size, fun k hk _ => h.block k hk⟩
theorem Kp.next {X : List Nat} {a b c : World} (h : Kp X a b) (k : Below b.heap.size b c) : Kp X a c := h.trans (Kp.of_below k)
theorem Kp.drew {X : List Nat} {a b : World} (h : Kp X a b) : Kp X a b.drew := ⟨h.os, h.tape, h.output, h.size, h.block⟩
theorem Kp.alloc {X : List Nat} {a b : World} (h : Kp X a b) (o : Obj) : Kp X a (b.alloc o) := h.next ((Below.refl _ _).alloc (Nat.le_refl _) _)
theorem Kp.setCell {X : List Nat} {a b : World} (h : Kp X a b) {p : Addr} (hp : p.block ∈ X \/ a.heap.size <= p.block) (u : Value) : Kp X a (b.setCell p u) :=
 ⟨h.os, h.tape, h.output, by simpa using h.size, fun k hk hn => by rw [Below.heap_setCell _ _ _ _ (fun e => by subst e; rcases hp with g | g; exact hn g; omega)]; exact h.block k hk hn⟩
theorem Kp.below {X : List Nat} {w w' : World} {C : Nat} (h : Kp X w w') (hX : ∀ x ∈ X, C <= x) (hC : C <= w.heap.size) : Below C w w' :=
 ⟨h.os, h.tape, h.output, h.size, fun k hk => h.block k (by omega) (fun g => by have := hX k g; omega)⟩
theorem Kp.cell {X : List Nat} {w w' : World} (h : Kp X w w') {p : Addr} (hp : p.block < w.heap.size) (hn : p.block ∉ X) : w'.cell? p = w.cell? p := World.cell?_of_block (w := w) (h.block p.block hp hn)
theorem Kp.has {X : List Nat} {w w' : World} {b : Nat} {A : Array Value} (h : ∀ i, w.cell? ⟨b, i, none⟩ = A[i]?) (k : Kp X w w') (hb : b < w.heap.size) (hn : b ∉ X) : ∀ i, w'.cell? ⟨b, i, none⟩ = A[i]? := fun i => by
 rw [k.cell (p := ⟨b, i, none⟩) hb hn]; exact h i
def Rw (w : World) (b : Nat) (t : TypeId) (n : Nat) (f : Nat -> Value) : Prop := ∃ M g, n <= M /\ w.rowIs b t M g /\ ∀ i, i < n -> g i = f i
section
variable {w w' : World} {b : Nat} {t : TypeId} {n : Nat} {f : Nat -> Value}
theorem Rw.cell (h : Rw w b t n f) {i : Nat} (hi : i < n) : w.cell? ⟨b, i, none⟩ = some (f i) := by
 obtain ⟨M, g, hM, hr, hg⟩ := h
 rw [hr.cell (by omega), hg i hi]
theorem Rw.lt (h : Rw w b t n f) : b < w.heap.size := by obtain ⟨M, g, hM, hr, hg⟩ := h; exact hr.lt
theorem Rw.frozen (h : Rw w b t n f) (i : Nat) : w.frozen? ⟨b, i, none⟩ = false := by obtain ⟨M, g, hM, hr, hg⟩ := h; exact hr.frozen i
theorem Rw.of_block (h : Rw w b t n f) (hb : w'.heap[b]? = w.heap[b]?) : Rw w' b t n f := by
 obtain ⟨M, g, hM, hr, hg⟩ := h
 exact ⟨M, g, hM, hr.of_block hb, hg⟩
theorem Rw.kp {X : List Nat} (h : Rw w b t n f) (k : Kp X w w') (hb : b ∉ X) : Rw w' b t n f := h.of_block (k.block b h.lt hb)
theorem Rw.below (h : Rw w b t n f) (k : Below w.heap.size w w') : Rw w' b t n f := h.of_block (k.block b h.lt)
theorem Rw.set (h : Rw w b t n f) (i : Nat) (v : Value) : Rw (w.setCell ⟨b, i, none⟩ v) b t n (fun j => if j = i then v else f j) := by
 obtain ⟨M, g, hM, hr, hg⟩ := h
 refine ⟨M, _, hM, hr.set i v, fun j hj => ?_⟩
 by_cases e : j = i
 · simp [e]
 · simp [e, hg j hj]
theorem Rw.other (h : Rw w b t n f) {p : Addr} (hp : b ≠ p.block) (v : Value) : Rw (w.setCell p v) b t n f := h.of_block (Below.heap_setCell _ _ _ _ hp)
theorem Rw.drew (h : Rw w b t n f) : Rw w.drew b t n f := h
theorem Rw.congr (h : Rw w b t n f) {g : Nat -> Value} (e : ∀ i, i < n -> f i = g i) : Rw w b t n g := by
 obtain ⟨M, g', hM, hr, hg⟩ := h
 exact ⟨M, g', hM, hr, fun i hi => by rw [hg i hi, e i hi]⟩
end
theorem zd7 {W : World} {b : Nat} {t : TypeId} {c0 c1 c2 c3 c4 c5 c6 c7 c8 c9 : Value} {f : Nat -> Value} (h : W.rowIs b t 10 f) (h0 : f 0 = c0) (h1 : f 1 = c1) (h2 : f 2 = c2) (h3 : f 3 = c3) (h4 : f 4 = c4) (h5 : f 5 = c5) (h6 : f 6 = c6) (h7 : f 7 = c7) (h8 : f 8 = c8) (h9 : f 9 = c9) :
 W.cell? ⟨b, 0, none⟩ = some c0 /\ W.cell? ⟨b, 1, none⟩ = some c1 /\ W.cell? ⟨b, 2, none⟩ = some c2 /\ W.cell? ⟨b, 3, none⟩ = some c3 /\ W.cell? ⟨b, 4, none⟩ = some c4 /\ W.cell? ⟨b, 5, none⟩ = some c5 /\ W.cell? ⟨b, 6, none⟩ = some c6 /\ W.cell? ⟨b, 7, none⟩ = some c7 /\ W.cell? ⟨b, 8, none⟩ = some c8 /\ W.cell? ⟨b, 9, none⟩ = some c9 := by
 subst h0 h1 h2 h3 h4 h5 h6 h7 h8 h9
 exact ⟨h.cell (by omega), h.cell (by omega), h.cell (by omega), h.cell (by omega), h.cell (by omega), h.cell (by omega), h.cell (by omega), h.cell (by omega), h.cell (by omega), h.cell (by omega)⟩
def RwW (w : World) (b : Nat) (ws : List Int) : Prop := Rw w b 93 ws.length (fun i => .int .u64 (za ws i))
def RwR (w : World) (b rl : Nat) (y : Nat -> Int) : Prop := Rw w b 50 (2 * rl) (fun i => .int .i64 (y i))
theorem RwW.sl {w : World} {b : Nat} {ws : List Int} (h : RwW w b ws) (cw : Nat) : Sl w (.slice (some ⟨b, 0, none⟩) ws.length cw) ws :=
 ⟨_, _, rfl, .inr ⟨b, 0, rfl, h.lt, fun i hi => by rw [Nat.zero_add]; exact h.cell hi⟩⟩
theorem RwW.set {w : World} {b : Nat} {ws : List Int} (h : RwW w b ws) {i : Nat} (v : Int) (hi : i < ws.length) : RwW (w.setCell ⟨b, i, none⟩ (.int .u64 v)) b (ws.set i v) := by
 have h2 := Rw.set h i (.int .u64 v)
 unfold RwW
 rw [List.length_set]
 refine h2.congr fun j hj => ?_
 by_cases e : j = i
 · subst e; simp [za, hi]
 · have : za (ws.set i v) j = za ws j := by
    unfold za
    rw [List.getD_eq_getElem?_getD, List.getElem?_set_ne (fun g => e g.symm), <- List.getD_eq_getElem?_getD]
   simp [e, this]
theorem zaa.rw' {B T : Nat} {t : TypeId} {w : World} {v : Value} {n m : Nat} {f : Nat -> Value} (h : zaa B T t w v n m f) (hm : 0 < m) : ∃ b cap, v = .slice (some ⟨b, 0, none⟩) n cap /\ B <= b /\ b < T /\ Rw w b t m f := by
 obtain ⟨a, cap, rfl, h⟩ := h
 rcases h with h | ⟨b, M, g, rfl, hB, hT, hM, hr, hf⟩
 · omega
 · exact ⟨b, cap, rfl, hB, hT, M, g, hM, hr, hf⟩
theorem Rw.own {B T : Nat} {t : TypeId} {w : World} {n m b cap : Nat} {f : Nat -> Value} (h : Rw w b t m f) (hB : B <= b) (hT : b < T) : zaa B T t w (.slice (some ⟨b, 0, none⟩) n cap) n m f := by
 obtain ⟨M, g, hM, hr, hg⟩ := h
 exact ⟨_, cap, rfl, .inr ⟨b, M, g, rfl, hB, hT, hM, hr, hg⟩⟩
def cpW (ws : List Int) (p q k : Nat) : List Int := (List.range ws.length).map fun i => if q <= i /\ i < q + k then za ws (p + (i - q)) else za ws i
theorem za8 (ws : List Int) (p q k : Nat) : (cpW ws p q k).length = ws.length := by simp [cpW]
theorem zfs {ws : List Int} {p q k i : Nat} (hi : i < ws.length) : za (cpW ws p q k) i = if q <= i /\ i < q + k then za ws (p + (i - q)) else za ws i := by simp [cpW, za, hi]
theorem zty (ws : List Int) (p q : Nat) : cpW ws p q 0 = ws := by
 refine List.ext_getElem? fun i => ?_
 by_cases hi : i < ws.length
 · have h1 : za (cpW ws p q 0) i = za ws i := by rw [zfs hi, if_neg (by omega)]
   have hi' : i < (cpW ws p q 0).length := by rw [za8]; exact hi
   unfold za at h1
   rw [List.getD_eq_getElem?_getD, List.getD_eq_getElem?_getD, List.getElem?_eq_getElem hi', List.getElem?_eq_getElem hi] at h1
   rw [List.getElem?_eq_getElem hi', List.getElem?_eq_getElem hi]
   simpa using h1
 · rw [List.getElem?_eq_none (by rw [za8]; omega), List.getElem?_eq_none (by omega)]
theorem zky {u v : List Int} (hl : u.length = v.length) (h : ∀ i, i < u.length -> za u i = za v i) : u = v := by
 refine List.ext_getElem hl fun i h1 h2 => ?_
 have := h i h1
 unfold za at this
 rw [List.getD_eq_getElem?_getD, List.getD_eq_getElem?_getD, List.getElem?_eq_getElem h1, List.getElem?_eq_getElem h2] at this
 simpa using this
theorem ztz {ws : List Int} {p q k : Nat} (hp : p + k < ws.length) (hq : q + k < ws.length) (hd : p + k < q \/ q + k < p + k + 1 /\ q + k <= p) : (cpW ws p q k).set (q + k) (za (cpW ws p q k) (p + k)) = cpW ws p q (k + 1) := by
 refine zky (by simp [za8]) fun i hi => ?_
 rw [List.length_set, za8] at hi
 have hsrc : za (cpW ws p q k) (p + k) = za ws (p + k) := by rw [zfs hp, if_neg (by omega)]
 rw [hsrc, zfs hi]
 by_cases e : i = q + k
 · subst e
   rw [if_pos (by omega)]
   have : za ((cpW ws p q k).set (q + k) (za ws (p + k))) (q + k) = za ws (p + k) := by simp [za, za8, hq]
   rw [this]
   congr 1
   omega
 · have : za ((cpW ws p q k).set (q + k) (za ws (p + k))) i = za (cpW ws p q k) i := by
    unfold za
    rw [List.getD_eq_getElem?_getD, List.getElem?_set_ne (fun g => e g.symm), <- List.getD_eq_getElem?_getD]
   rw [this, zfs hi]
   by_cases g : q <= i /\ i < q + k
   · rw [if_pos g, if_pos (by omega)]
   · rw [if_neg g, if_neg (by omega)]
theorem zl3 {ws : List Int} {p q n : Nat} (hp : p < ws.length) : (cpW ws p q n).set p (9223372036854775808 + (q : Int)) = mvW ws p q n := by
 refine zky (by simp [za8, zeq]) fun i hi => ?_
 rw [List.length_set, za8] at hi
 rw [zjg hi]
 by_cases e : i = p
 · subst e
   rw [if_pos rfl]
   simp [za, za8, hi]
 · rw [if_neg e]
   have : za ((cpW ws p q n).set p (9223372036854775808 + (q : Int))) i = za (cpW ws p q n) i := by
    unfold za
    rw [List.getD_eq_getElem?_getD, List.getElem?_set_ne (fun g => e g.symm), <- List.getD_eq_getElem?_getD]
   rw [this, zfs hi]
theorem zu9 {q : Nat} (hq : q <= 1048576) : bits .or .u64 9223372036854775808 (q : Int) = 9223372036854775808 + (q : Int) :=
 zvg 9223372036854775808 (q : Int) 63 (by omega) (by omega) (by omega) (by omega) (by decide) (by omega)
end Go.Proofs.YtaapiedminakcaaGreat
