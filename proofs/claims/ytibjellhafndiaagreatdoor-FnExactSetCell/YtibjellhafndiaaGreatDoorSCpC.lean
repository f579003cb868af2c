/- Copying, on whole numbers alone: what a value that is forwarded does to the words. No Go here. -/
import Derived.Test.YtibjellhafndiaaGreatDoorProg
import Derived.Test.YtibjellhafndiaaGreatDoorSReadsB
import Derived.Test.YtibjellhafndiaaGreatDoorSRowF
import Derived.Test.YtibjellhafndiaaGreatDoorSReadA
import Derived.Test.YtibjellhafndiaaGreatDoorSLookS
import Derived.Test.YtibjellhafndiaaGreatDoorSMoveA
namespace Go.Proofs.YtibjellhafndiaaGreatDoor
set_option maxRecDepth 20000
open Go.RowKit
set_option linter.unusedSimpArgs false
set_option linter.unusedVariables false

theorem rd_no_fw {x : Int} (h : rdOk x = true) : fwOk x = false := by
  unfold rdOk at h
  rw [hOk_iff] at h
  unfold HOk at h
  unfold fwOk
  apply decide_eq_false
  omega
/-- n words copied from p to q, and a forwarded word left at p. -/
def mvW (ws : List Int) (p q n : Nat) : List Int := (List.range ws.length).map fun i => if i = p then 9223372036854775808 + (q : Int) else if q ≤ i ∧ i < q + n then wordAt ws (p + (i - q)) else wordAt ws i
theorem mvW_length (ws : List Int) (p q n : Nat) : (mvW ws p q n).length = ws.length := by simp [mvW]
theorem mvW_at {ws : List Int} {p q n i : Nat} (hi : i < ws.length) : wordAt (mvW ws p q n) i = if i = p then 9223372036854775808 + (q : Int) else if q ≤ i ∧ i < q + n then wordAt ws (p + (i - q)) else wordAt ws i := by
  simp [mvW, wordAt, hi]
theorem mvW_other {ws : List Int} {p q n i : Nat} (hi : i < ws.length) (h1 : i ≠ p) (h2 : ¬ (q ≤ i ∧ i < q + n)) : wordAt (mvW ws p q n) i = wordAt ws i := by rw [mvW_at hi, if_neg h1, if_neg h2]
theorem mvW_new {ws : List Int} {p q n d : Nat} (hi : q + d < ws.length) (hd : d < n) (h1 : q + d ≠ p) : wordAt (mvW ws p q n) (q + d) = wordAt ws (p + d) := by
  rw [mvW_at hi, if_neg h1, if_pos (by omega)]
  congr 1
  omega
theorem mvW_old {ws : List Int} {p q n : Nat} (hi : p < ws.length) : wordAt (mvW ws p q n) p = 9223372036854775808 + (q : Int) := by rw [mvW_at hi, if_pos rfl]
theorem mvW_words {ws : List Int} {p q n : Nat} (hw : Words64 ws) (hq : q ≤ 1048576) : Words64 (mvW ws p q n) := by
  intro z hz
  unfold mvW at hz
  obtain ⟨i, _, rfl⟩ := List.mem_map.1 hz
  split
  · omega
  · split
    · exact word_in hw _
    · exact word_in hw _
theorem fw_word {q : Nat} (hq : q ≤ 1048576) : fwOk (9223372036854775808 + (q : Int)) = true ∧ fwP (9223372036854775808 + (q : Int)) = q ∧ rdOk (9223372036854775808 + (q : Int)) = false := by
  have h1 : fwOk (9223372036854775808 + (q : Int)) = true := decide_eq_true ⟨by omega, by omega⟩
  refine ⟨h1, by simp [fwP, h1]; omega, ?_⟩
  cases h : rdOk (9223372036854775808 + (q : Int)) with
  | false => rfl
  | true => rw [rd_no_fw h] at h1; simp at h1

/-- The words, Top and Copied of an arena. -/
structure Cp where
  ws : List Int
  T : Nat
  C : Nat
/-- How many words the object at p has, with its head. -/
def szA (ws : List Int) (p : Nat) : Nat := (rdS (wordAt ws p)).toNat + 1
/-- Is what the value leads to copied now? -/
def moves (S : Nat) (a : Cp) (t m : Int) : Bool := isR t && (!decide ((S : Int) ≤ m ∧ m < (a.T : Int)) && !fwOk (wordAt a.ws m.toNat))
def fwdA (S : Nat) (a : Cp) (t m : Int) : Cp := if moves S a t m = true then ⟨mvW a.ws m.toNat a.T (szA a.ws m.toNat), a.T + szA a.ws m.toNat, a.C + szA a.ws m.toNat⟩ else a
/-- Where it leads then. -/
def fwdV (S : Nat) (a : Cp) (t m : Int) : Int := if isR t = true ∧ ¬ ((S : Int) ≤ m ∧ m < (a.T : Int)) then (if fwOk (wordAt a.ws m.toNat) = true then fwP (wordAt a.ws m.toNat) else (a.T : Int)) else m

end Go.Proofs.YtibjellhafndiaaGreatDoor

/- Rows that are written into, and what is left alone by it. No Go here. -/
namespace Go.Proofs.YtibjellhafndiaaGreatDoor
set_option maxRecDepth 20000
open Go.RowKit
set_option linter.unusedSimpArgs false
set_option linter.unusedVariables false

/-- Of the blocks that were there, all but those of X are as they were. -/
structure Kp (X : List Nat) (w w' : World) : Prop where
  os : w'.os = w.os
  tape : w'.tape = w.tape
  output : w'.output = w.output
  size : w.heap.size ≤ w'.heap.size
  block : ∀ k, k < w.heap.size → k ∉ X → w'.heap[k]? = w.heap[k]?
theorem Kp.refl (X : List Nat) (w : World) : Kp X w w := ⟨rfl, rfl, rfl, Nat.le_refl _, fun _ _ _ => rfl⟩
theorem Kp.trans {X : List Nat} {a b c : World} (h : Kp X a b) (k : Kp X b c) : Kp X a c :=
  ⟨k.os.trans h.os, k.tape.trans h.tape, k.output.trans h.output, Nat.le_trans h.size k.size, fun i hi hr => (k.block i (Nat.lt_of_lt_of_le hi h.size) hr).trans (h.block i hi hr)⟩
theorem Kp.mono {X Y : List Nat} {w w' : World} (h : Kp X w w') (hs : ∀ x ∈ X, x ∈ Y) : Kp Y w w' := ⟨h.os, h.tape, h.output, h.size, fun k hk hn => h.block k hk (fun g => hn (hs k g))⟩
theorem Kp.of_below {X : List Nat} {w w' : World} (h : Below w.heap.size w w') : Kp X w w' := ⟨h.os, h.tape, h.output, h.size, fun k hk _ => h.block k hk⟩
theorem Kp.next {X : List Nat} {a b c : World} (h : Kp X a b) (k : Below b.heap.size b c) : Kp X a c := h.trans (Kp.of_below k)
theorem Kp.drew {X : List Nat} {a b : World} (h : Kp X a b) : Kp X a b.drew := ⟨h.os, h.tape, h.output, h.size, h.block⟩
theorem Kp.alloc {X : List Nat} {a b : World} (h : Kp X a b) (o : Obj) : Kp X a (b.alloc o) := h.next ((Below.refl _ _).alloc (Nat.le_refl _) _)
theorem Kp.setCell {X : List Nat} {a b : World} (h : Kp X a b) {p : Addr} (hp : p.block ∈ X ∨ a.heap.size ≤ p.block) (u : Value) : Kp X a (b.setCell p u) :=
  ⟨h.os, h.tape, h.output, by simpa using h.size, fun k hk hn => by rw [Below.heap_setCell _ _ _ _ (fun e => by subst e; rcases hp with g | g; exact hn g; omega)]; exact h.block k hk hn⟩
theorem Kp.below {X : List Nat} {w w' : World} {C : Nat} (h : Kp X w w') (hX : ∀ x ∈ X, C ≤ x) (hC : C ≤ w.heap.size) : Below C w w' :=
  ⟨h.os, h.tape, h.output, h.size, fun k hk => h.block k (by omega) (fun g => by have := hX k g; omega)⟩
theorem Kp.cell {X : List Nat} {w w' : World} (h : Kp X w w') {p : Addr} (hp : p.block < w.heap.size) (hn : p.block ∉ X) : w'.cell? p = w.cell? p := World.cell?_of_block (w := w) (h.block p.block hp hn)
theorem Kp.has {X : List Nat} {w w' : World} {b : Nat} {A : Array Value} (h : ∀ i, w.cell? ⟨b, i, none⟩ = A[i]?) (k : Kp X w w') (hb : b < w.heap.size) (hn : b ∉ X) : ∀ i, w'.cell? ⟨b, i, none⟩ = A[i]? := fun i => by
  rw [k.cell (p := ⟨b, i, none⟩) hb hn]; exact h i
/-- A row of a block of the call's own: cell i is f i; it may be longer. -/
def Rw (w : World) (b : Nat) (t : TypeId) (n : Nat) (f : Nat → Value) : Prop := ∃ M g, n ≤ M ∧ w.rowIs b t M g ∧ ∀ i, i < n → g i = f i
section
variable {w w' : World} {b : Nat} {t : TypeId} {n : Nat} {f : Nat → Value}
theorem Rw.cell (h : Rw w b t n f) {i : Nat} (hi : i < n) : w.cell? ⟨b, i, none⟩ = some (f i) := by
  obtain ⟨M, g, hM, hr, hg⟩ := h
  rw [hr.cell (by omega), hg i hi]
theorem Rw.lt (h : Rw w b t n f) : b < w.heap.size := by obtain ⟨M, g, hM, hr, hg⟩ := h; exact hr.lt
theorem Rw.frozen (h : Rw w b t n f) (i : Nat) : w.frozen? ⟨b, i, none⟩ = false := by obtain ⟨M, g, hM, hr, hg⟩ := h; exact hr.frozen i
theorem Rw.of_block (h : Rw w b t n f) (hb : w'.heap[b]? = w.heap[b]?) : Rw w' b t n f := by
  obtain ⟨M, g, hM, hr, hg⟩ := h
  exact ⟨M, g, hM, hr.of_block hb, hg⟩
theorem Rw.kp {X : List Nat} (h : Rw w b t n f) (k : Kp X w w') (hb : b ∉ X) : Rw w' b t n f := h.of_block (k.block b h.lt hb)
theorem Rw.below (h : Rw w b t n f) (k : Below w.heap.size w w') : Rw w' b t n f := h.of_block (k.block b h.lt)
theorem Rw.set (h : Rw w b t n f) (i : Nat) (v : Value) : Rw (w.setCell ⟨b, i, none⟩ v) b t n (fun j => if j = i then v else f j) := by
  obtain ⟨M, g, hM, hr, hg⟩ := h
  refine ⟨M, _, hM, hr.set i v, fun j hj => ?_⟩
  by_cases e : j = i
  · simp [e]
  · simp [e, hg j hj]
theorem Rw.other (h : Rw w b t n f) {p : Addr} (hp : b ≠ p.block) (v : Value) : Rw (w.setCell p v) b t n f := h.of_block (Below.heap_setCell _ _ _ _ hp)
theorem Rw.drew (h : Rw w b t n f) : Rw w.drew b t n f := h
theorem Rw.congr (h : Rw w b t n f) {g : Nat → Value} (e : ∀ i, i < n → f i = g i) : Rw w b t n g := by
  obtain ⟨M, g', hM, hr, hg⟩ := h
  exact ⟨M, g', hM, hr, fun i hi => by rw [hg i hi, e i hi]⟩
end
/-- The words of an arena of one's own. -/
def RwW (w : World) (b : Nat) (ws : List Int) : Prop := Rw w b 80 ws.length (fun i => .int .u64 (wordAt ws i))
def RwR (w : World) (b rl : Nat) (y : Nat → Int) : Prop := Rw w b 60 (2 * rl) (fun i => .int .i64 (y i))
theorem RwW.sl {w : World} {b : Nat} {ws : List Int} (h : RwW w b ws) (cw : Nat) : Sl w (.slice (some ⟨b, 0, none⟩) ws.length cw) ws :=
  ⟨_, _, rfl, .inr ⟨b, 0, rfl, h.lt, fun i hi => by rw [Nat.zero_add]; exact h.cell hi⟩⟩
theorem RwW.set {w : World} {b : Nat} {ws : List Int} (h : RwW w b ws) {i : Nat} (v : Int) (hi : i < ws.length) : RwW (w.setCell ⟨b, i, none⟩ (.int .u64 v)) b (ws.set i v) := by
  have h2 := Rw.set h i (.int .u64 v)
  unfold RwW
  rw [List.length_set]
  refine h2.congr fun j hj => ?_
  by_cases e : j = i
  · subst e; simp [wordAt, hi]
  · have : wordAt (ws.set i v) j = wordAt ws j := by
      unfold wordAt
      rw [List.getD_eq_getElem?_getD, List.getElem?_set_ne (fun g => e g.symm), ← List.getD_eq_getElem?_getD]
    simp [e, this]
theorem OwnF.rw' {B T : Nat} {t : TypeId} {w : World} {v : Value} {n m : Nat} {f : Nat → Value} (h : OwnF B T t w v n m f) (hm : 0 < m) : ∃ b cap, v = .slice (some ⟨b, 0, none⟩) n cap ∧ B ≤ b ∧ b < T ∧ Rw w b t m f := by
  obtain ⟨a, cap, rfl, h⟩ := h
  rcases h with h | ⟨b, M, g, rfl, hB, hT, hM, hr, hf⟩
  · omega
  · exact ⟨b, cap, rfl, hB, hT, M, g, hM, hr, hf⟩
theorem Rw.own {B T : Nat} {t : TypeId} {w : World} {n m b cap : Nat} {f : Nat → Value} (h : Rw w b t m f) (hB : B ≤ b) (hT : b < T) : OwnF B T t w (.slice (some ⟨b, 0, none⟩) n cap) n m f := by
  obtain ⟨M, g, hM, hr, hg⟩ := h
  exact ⟨_, cap, rfl, .inr ⟨b, M, g, rfl, hB, hT, hM, hr, hg⟩⟩
end Go.Proofs.YtibjellhafndiaaGreatDoor

/- What can be reached, on whole numbers alone: places that are come to, one behind the other. No Go here. -/
namespace Go.Proofs.YtibjellhafndiaaGreatDoor
set_option maxRecDepth 20000
open Go.RowKit
set_option linter.unusedSimpArgs false
set_option linter.unusedVariables false

/-- A value that is come to: what it leads to is put behind what was come to, unless it is there. -/
def comeP (ws : List Int) (todo : List Nat) (t m : Int) : List Nat :=
  if isR t = true then (if (leadsAt ws m.toNat).toNat ∈ todo then todo else todo ++ [(leadsAt ws m.toNat).toNat]) else todo
/-- The first k of some values. -/
def comeN (ws : List Int) (f : Nat → Int × Int) : Nat → List Nat → List Nat
  | 0, todo => todo
  | k + 1, todo => comeP ws (comeN ws f k todo) (f k).1 (f k).2
def slotX (ws : List Int) (p j : Nat) : Nat := p + (fs (rdK (wordAt ws p)) + 2 * (j : Int)).toNat
def slotF (ws : List Int) (p : Nat) (j : Nat) : Int × Int := (rvT ws (slotX ws p j), rvN ws (slotX ws p j))
/-- Behind all slots of the object at p. -/
def goneOver (ws : List Int) (p : Nat) (todo : List Nat) : List Nat := comeN ws (slotF ws p) (slN (rdK (wordAt ws p)) (rdS (wordAt ws p))) todo
/-- From number i on, all that is come to in the end; d: how many may be left. -/
def bfs (ws : List Int) : Nat → Nat → List Nat → List Nat
  | 0, _, todo => todo
  | d + 1, i, todo => if i < todo.length then bfs ws d (i + 1) (goneOver ws (todo.getD i 0) todo) else todo
/-- From number i on, all that is come to in the end is R. -/
def Bfs (ws : List Int) (i : Nat) (todo R : List Nat) : Prop := bfs ws (ws.length - i) i todo = R
theorem Bfs.done {ws : List Int} {i : Nat} {todo R : List Nat} (h : Bfs ws i todo R) (hi : ¬ i < todo.length) : R = todo := by
  unfold Bfs at h
  cases hd : ws.length - i with
  | zero => rw [hd] at h; exact h.symm
  | succ d => rw [hd] at h; simp only [bfs, if_neg hi] at h; exact h.symm
theorem Bfs.step {ws : List Int} {i : Nat} {todo R : List Nat} (h : Bfs ws i todo R) (hi : i < todo.length) (hl : todo.length ≤ ws.length) : Bfs ws (i + 1) (goneOver ws (todo.getD i 0) todo) R := by
  unfold Bfs at h ⊢
  obtain ⟨d, hd⟩ : ∃ d, ws.length - i = d + 1 := ⟨ws.length - i - 1, by omega⟩
  rw [hd] at h
  simp only [bfs, if_pos hi] at h
  rw [show ws.length - (i + 1) = d by omega]
  exact h
end Go.Proofs.YtibjellhafndiaaGreatDoor

/- Copying, on whole numbers alone: what stays while values are forwarded. No Go here. -/
namespace Go.Proofs.YtibjellhafndiaaGreatDoor
set_option maxRecDepth 20000
open Go.RowKit
set_option linter.unusedSimpArgs false
set_option linter.unusedVariables false

def nxA (ws : List Int) (p : Nat) : Option Nat := if rdOk (wordAt ws p) = true then some (rdS (wordAt ws p)).toNat else none
def nxB (ws : List Int) (U : List Nat) (p : Nat) : Option Nat :=
  if rdOk (wordAt ws p) = true then some (rdS (wordAt ws p)).toNat else if fwOk (wordAt ws p) = true ∧ fwTo ws p ∈ U then some (rdS (wordAt ws (fwTo ws p))).toNat else none
theorem nxA_some {ws : List Int} {p s : Nat} (h : nxA ws p = some s) : rdOk (wordAt ws p) = true ∧ s = (rdS (wordAt ws p)).toNat := by
  unfold nxA at h
  split at h
  · rename_i g; exact ⟨g, by simpa using h.symm⟩
  · simp at h
theorem nxB_some {ws : List Int} {U : List Nat} {p s : Nat} (h : nxB ws U p = some s) : (rdOk (wordAt ws p) = true ∧ s = (rdS (wordAt ws p)).toNat) ∨ (rdOk (wordAt ws p) = false ∧ fwOk (wordAt ws p) = true ∧ fwTo ws p ∈ U ∧ s = (rdS (wordAt ws (fwTo ws p))).toNat) := by
  unfold nxB at h
  split at h
  · rename_i g; exact .inl ⟨g, by simpa using h.symm⟩
  · rename_i g
    split at h
    · rename_i g2; exact .inr ⟨by simpa using g, g2.1, g2.2, by simpa using h.symm⟩
    · simp at h
theorem Chain.mono {nx nx' : Nat → Option Nat} {p q : Nat} {L : List Nat} (h : Chain nx p q L) (hm : ∀ x ∈ L, ∀ s, nx x = some s → nx' x = some s) : Chain nx' p q L := by
  induction L generalizing p with
  | nil => exact h
  | cons x L ih =>
    obtain ⟨rfl, s, hs, t⟩ := h
    exact ⟨rfl, s, hm _ (by simp) s hs, ih t (fun y hy => hm y (by simp [hy]))⟩
/-- Of two places of a chain the one ends ahead of the other. -/
theorem Chain.sep {nx : Nat → Option Nat} {p q : Nat} {L : List Nat} (h : Chain nx p q L) : ∀ x ∈ L, ∀ y ∈ L, x < y → ∀ s, nx x = some s → x + s + 1 ≤ y := by
  induction L generalizing p with
  | nil => intro x hx; simp at hx
  | cons a L ih =>
    obtain ⟨rfl, s, hs, t⟩ := h
    intro x hx y hy hlt s' hs'
    rcases List.mem_cons.1 hx with e1 | h1
    · rcases List.mem_cons.1 hy with e2 | h2
      · omega
      · subst e1
        rw [hs] at hs'
        cases hs'
        exact (t.mem y h2).1
    · rcases List.mem_cons.1 hy with e2 | h2
      · have := (t.mem x h1).1
        omega
      · exact ih t x h1 y h2 hlt s' hs'
/-- How many words of the other half are not copied. -/
def leftW (ws : List Int) (O : List Nat) : Nat := (O.map fun p => if rdOk (wordAt ws p) = true then szA ws p else 0).sum
theorem sum_drop {f g : Nat → Nat} {p n : Nat} : ∀ {O : List Nat}, O.Pairwise (· < ·) → p ∈ O → f p = n → g p = 0 → (∀ x ∈ O, x ≠ p → f x = g x) → (O.map f).sum = (O.map g).sum + n
  | [], _, hp, _, _, _ => by simp at hp
  | a :: O, hs, hp, hf, hg, he => by
    simp only [List.map_cons, List.sum_cons]
    have hs2 := List.pairwise_cons.1 hs
    rcases List.mem_cons.1 hp with rfl | hp
    · have e : O.map f = O.map g := List.map_congr_left fun x hx => he x (by simp [hx]) (by have := hs2.1 x hx; omega)
      rw [e, hf, hg]
      omega
    · have hne : a ≠ p := by have := hs2.1 p hp; omega
      rw [he a (by simp) hne, sum_drop hs2.2 hp hf hg (fun x hx hx2 => he x (by simp [hx]) hx2)]
      omega
theorem sum_mem {f : Nat → Nat} {p : Nat} : ∀ {O : List Nat}, p ∈ O → f p ≤ (O.map f).sum
  | [], hp => by simp at hp
  | a :: O, hp => by
    simp only [List.map_cons, List.sum_cons]
    rcases List.mem_cons.1 hp with rfl | hp
    · omega
    · have := sum_mem (f := f) hp
      omega

/-- A slot's value, and whether it can be read. -/
def slN' (ws : List Int) (p : Nat) : Nat := slN (rdK (wordAt ws p)) (rdS (wordAt ws p))
/-- What is known of an arena while it is copied: L the objects of the half in use, from S to Top; O those of the other half, from F to Od; the slots ahead of number J of the object at scan lead into the half in use, as do those of all objects ahead of it. -/
structure Cyc (a : Cp) (S E F Od scan J : Nat) (L O : List Nat) : Prop where
  use : Chain (nxA a.ws) S a.T L
  oth : Chain (nxB a.ws L) F Od O
  room : a.T + leftW a.ws O ≤ E
  hE : E ≤ a.ws.length
  hOd : Od ≤ a.ws.length
  ap : E ≤ F ∨ Od ≤ S
  hS : 1 ≤ S
  hF : 1 ≤ F
  small : a.ws.length ≤ 1048576
  w64 : Words64 a.ws
  sc : (scan = a.T ∧ J = 0) ∨ scan ∈ L
  slL : ∀ p ∈ L, ∀ j, j < slN' a.ws p → rvOk a.ws (slotX a.ws p j) = true ∧ (isR (rvT a.ws (slotX a.ws p j)) = true → (rvN a.ws (slotX a.ws p j)).toNat ∈ L ∨ ((scan < p ∨ scan = p ∧ J ≤ j) ∧ (rvN a.ws (slotX a.ws p j)).toNat ∈ O))
  slO : ∀ p ∈ O, rdOk (wordAt a.ws p) = true → ∀ j, j < slN' a.ws p → rvOk a.ws (slotX a.ws p j) = true ∧ (isR (rvT a.ws (slotX a.ws p j)) = true → (rvN a.ws (slotX a.ws p j)).toNat ∈ O)

theorem slot_in {ws : List Int} {p j : Nat} (hr : rdOk (wordAt ws p) = true) (hj : j < slN' ws p) : p < slotX ws p j ∧ slotX ws p j + 1 ≤ p + (rdS (wordAt ws p)).toNat := by
  have h1 := (slN_lt (rd_sOk hr) j).2 hj
  have h2 := fs_ge (rdK (wordAt ws p))
  have h3 := rdS_bound (wordAt ws p)
  unfold slotX
  omega
theorem slot_same {ws ws' : List Int} {p : Nat} (hr : rdOk (wordAt ws p) = true) (h : ∀ i, p ≤ i → i ≤ p + (rdS (wordAt ws p)).toNat → wordAt ws' i = wordAt ws i) :
    slN' ws' p = slN' ws p ∧ ∀ j, j < slN' ws p → slotX ws' p j = slotX ws p j ∧ rvOk ws' (slotX ws p j) = rvOk ws (slotX ws p j) ∧ rvT ws' (slotX ws p j) = rvT ws (slotX ws p j) ∧ rvN ws' (slotX ws p j) = rvN ws (slotX ws p j) := by
  have h0 := h p (Nat.le_refl _) (by omega)
  refine ⟨by simp [slN', h0], fun j hj => ?_⟩
  have h1 := slot_in hr hj
  have e1 := h (slotX ws p j) (by omega) (by omega)
  have e2 := h (slotX ws p j + 1) (by omega) (by omega)
  have eo : rvOk ws' (slotX ws p j) = rvOk ws (slotX ws p j) := by simp [rvOk, e1, e2]
  exact ⟨by simp [slotX, h0], eo, by simp [rvT, eo, e1], by simp [rvN, eo, e2]⟩
theorem slot_moved {ws ws' : List Int} {p q : Nat} (hr : rdOk (wordAt ws p) = true) (h : ∀ d, d ≤ (rdS (wordAt ws p)).toNat → wordAt ws' (q + d) = wordAt ws (p + d)) :
    slN' ws' q = slN' ws p ∧ ∀ j, j < slN' ws p → rvOk ws' (slotX ws' q j) = rvOk ws (slotX ws p j) ∧ rvT ws' (slotX ws' q j) = rvT ws (slotX ws p j) ∧ rvN ws' (slotX ws' q j) = rvN ws (slotX ws p j) := by
  have h0 : wordAt ws' q = wordAt ws p := h 0 (by omega)
  refine ⟨by simp [slN', h0], fun j hj => ?_⟩
  have h1 := slot_in hr hj
  obtain ⟨d, hd⟩ : ∃ d, slotX ws p j = p + d := ⟨slotX ws p j - p, by omega⟩
  have hd' : slotX ws' q j = q + d := by
    have : slotX ws p j = p + (fs (rdK (wordAt ws p)) + 2 * (j : Int)).toNat := rfl
    have e : slotX ws' q j = q + (fs (rdK (wordAt ws p)) + 2 * (j : Int)).toNat := by simp [slotX, h0]
    omega
  have e1 := h d (by omega)
  have e2 : wordAt ws' (q + d + 1) = wordAt ws (p + d + 1) := h (d + 1) (by omega)
  rw [hd, hd']
  have eo : rvOk ws' (q + d) = rvOk ws (p + d) := by simp [rvOk, e1, e2]
  exact ⟨eo, by simp [rvT, eo, e1], by simp [rvN, eo, e2]⟩
section
variable {a : Cp} {S E F Od scan J : Nat} {L O : List Nat}
theorem Cyc.inL (h : Cyc a S E F Od scan J L O) {p : Nat} (hp : p ∈ L) : S ≤ p ∧ rdOk (wordAt a.ws p) = true ∧ p + szA a.ws p ≤ a.T := by
  obtain ⟨h1, h2, s, hs, h3⟩ := h.use.mem p hp
  obtain ⟨h4, rfl⟩ := nxA_some hs
  exact ⟨h1, h4, by unfold szA; omega⟩
theorem Cyc.inO (h : Cyc a S E F Od scan J L O) {p : Nat} (hp : p ∈ O) : F ≤ p ∧ p < Od ∧ (rdOk (wordAt a.ws p) = true ∧ p + szA a.ws p ≤ Od ∨ rdOk (wordAt a.ws p) = false ∧ fwOk (wordAt a.ws p) = true ∧ fwTo a.ws p ∈ L) := by
  obtain ⟨h1, h2, s, hs, h3⟩ := h.oth.mem p hp
  rcases nxB_some hs with ⟨h4, rfl⟩ | ⟨h4, h5, h6, _⟩
  · exact ⟨h1, h2, .inl ⟨h4, by unfold szA; omega⟩⟩
  · exact ⟨h1, h2, .inr ⟨h4, h5, h6⟩⟩
theorem Cyc.TE (h : Cyc a S E F Od scan J L O) : a.T ≤ E := by have := h.room; omega
theorem Cyc.ST (h : Cyc a S E F Od scan J L O) : S ≤ a.T := h.use.le
/-- What is in use, and what is not. -/
theorem Cyc.inUse (h : Cyc a S E F Od scan J L O) {p : Nat} (hp : p ∈ L ∨ p ∈ O) : (S ≤ p ∧ p < a.T) ↔ p ∈ L := by
  have h1 := h.TE
  have h2 := h.ap
  constructor
  · intro g
    rcases hp with hp | hp
    · exact hp
    · have := h.inO hp
      omega
  · intro g
    have := h.inL g
    unfold szA at this
    omega
/-- What a value that is moved leaves. -/
theorem Cyc.move (h : Cyc a S E F Od scan J L O) {p : Nat} (hp : p ∈ O) (hr : rdOk (wordAt a.ws p) = true) :
    Cyc ⟨mvW a.ws p a.T (szA a.ws p), a.T + szA a.ws p, a.C + szA a.ws p⟩ S E F Od scan J (L ++ [a.T]) O := by
  obtain ⟨n, hn⟩ : ∃ n, n = szA a.ws p := ⟨_, rfl⟩
  have hTE := h.TE
  have hST := h.ST
  have hap := h.ap
  have hE := h.hE
  have hOd := h.hOd
  have hsm := h.small
  obtain ⟨p1, p2, hpo⟩ := h.inO hp
  have hpn : p + n ≤ Od := by
    rcases hpo with g | g
    · rw [hn]; exact g.2
    · rw [hr] at g; simp at g
  have hn1 : 1 ≤ n := by rw [hn]; unfold szA; omega
  have hroom := h.room
  have hle : n ≤ leftW a.ws O := by
    have := sum_mem (f := fun p => if rdOk (wordAt a.ws p) = true then szA a.ws p else 0) hp
    simp only [hr, if_true] at this
    unfold leftW
    omega
  have hTp : ∀ i, S ≤ i → i < a.T + n → i ≠ p := fun i _ _ => by omega
  have hinL : ∀ i, S ≤ i → i < a.T → wordAt (mvW a.ws p a.T n) i = wordAt a.ws i := fun i h1 h2 => mvW_other (by omega) (hTp i h1 (by omega)) (by omega)
  have hinO : ∀ i, F ≤ i → i < Od → i ≠ p → wordAt (mvW a.ws p a.T n) i = wordAt a.ws i := fun i h1 h2 h3 => mvW_other (by omega) h3 (by omega)
  have hnew : ∀ d, d < n → wordAt (mvW a.ws p a.T n) (a.T + d) = wordAt a.ws (p + d) := fun d hd => mvW_new (by omega) hd (by omega)
  have hold : wordAt (mvW a.ws p a.T n) p = 9223372036854775808 + (a.T : Int) := mvW_old (by omega)
  obtain ⟨f1, f2, f3⟩ := fw_word (q := a.T) (by omega)
  rw [← hn]
  have hL' : ∀ x ∈ L, wordAt (mvW a.ws p a.T n) x = wordAt a.ws x := fun x hx => by
    have := h.inL hx
    unfold szA at this
    exact hinL x this.1 (by omega)
  have hT0 : wordAt (mvW a.ws p a.T n) a.T = wordAt a.ws p := hnew 0 (by omega)
  have hfT : fwTo (mvW a.ws p a.T n) p = a.T := by unfold fwTo; rw [hold, f2]; simp
  refine ⟨?_, ?_, ?_, by rw [mvW_length]; exact hE, by rw [mvW_length]; exact hOd, hap, h.hS, h.hF, by rw [mvW_length]; exact hsm, mvW_words h.w64 (by omega), ?_, ?_, ?_⟩
  · have h1 : Chain (nxA (mvW a.ws p a.T n)) S a.T L := h.use.mono fun x hx s hs => by
      unfold nxA at hs ⊢
      rw [hL' x hx]
      exact hs
    have h2 : nxA (mvW a.ws p a.T n) a.T = some (rdS (wordAt a.ws p)).toNat := by unfold nxA; rw [hT0, if_pos hr]
    have h3 := h1.snoc h2
    have e : a.T + (rdS (wordAt a.ws p)).toNat + 1 = a.T + n := by rw [hn]; unfold szA; omega
    rw [e] at h3
    exact h3
  · refine h.oth.mono fun x hx s hs => ?_
    obtain ⟨x1, x2, hxo⟩ := h.inO hx
    by_cases e : x = p
    · subst e
      have hs' : s = (rdS (wordAt a.ws x)).toNat := by
        unfold nxB at hs
        rw [if_pos hr] at hs
        simpa using hs.symm
      unfold nxB
      rw [hold, f3, if_neg (by simp), if_pos ⟨f1, by rw [hfT]; simp⟩, hfT, hT0, hs']
    · have e1 := hinO x x1 x2 e
      have e2 : fwTo (mvW a.ws p a.T n) x = fwTo a.ws x := by unfold fwTo; rw [e1]
      rcases nxB_some hs with ⟨h4, rfl⟩ | ⟨h4, h5, h6, rfl⟩
      · unfold nxB
        rw [e1, if_pos h4]
      · unfold nxB
        rw [e1, e2, if_neg (by simp [h4]), if_pos ⟨h5, by simp [h6]⟩, hL' _ h6]
  · have := sum_drop (f := fun p => if rdOk (wordAt a.ws p) = true then szA a.ws p else 0) (g := fun x => if rdOk (wordAt (mvW a.ws p a.T n) x) = true then szA (mvW a.ws p a.T n) x else 0) (p := p) (n := n) h.oth.nodup hp (by simp [hr, hn]) (by simp only [hold, f3]; simp) (fun x hx hne => by
      obtain ⟨x1, x2, _⟩ := h.inO hx
      have e1 := hinO x x1 x2 hne
      simp only [e1]
      split
      · unfold szA; rw [e1]
      · rfl)
    show a.T + n + leftW (mvW a.ws p a.T n) O ≤ E
    unfold leftW at hroom ⊢
    omega
  · rcases h.sc with ⟨g1, g2⟩ | g
    · exact .inr (by simp [g1])
    · exact .inr (by simp [g])
  · intro x hx j hj
    rcases List.mem_append.1 hx with hx | hx
    · have hxL := h.inL hx
      obtain ⟨s1, s2⟩ := slot_same (ws := a.ws) (ws' := mvW a.ws p a.T n) hxL.2.1 (fun i i1 i2 => hinL i (by omega) (by unfold szA at hxL; omega))
      dsimp only at hj ⊢
      rw [s1] at hj
      obtain ⟨t1, t2, t3, t4⟩ := s2 j hj
      rw [t1, t2, t3, t4]
      obtain ⟨u1, u2⟩ := h.slL x hx j hj
      refine ⟨u1, fun hr2 => ?_⟩
      rcases u2 hr2 with g | g
      · exact .inl (by simp [g])
      · exact .inr g
    · simp only [List.mem_singleton] at hx
      subst hx
      obtain ⟨s1, s2⟩ := slot_moved (ws := a.ws) (ws' := mvW a.ws p a.T n) (p := p) (q := a.T) hr (fun d hd => hnew d (by rw [hn]; unfold szA; omega))
      dsimp only at hj ⊢
      rw [s1] at hj
      obtain ⟨t2, t3, t4⟩ := s2 j hj
      rw [t2, t3, t4]
      obtain ⟨u1, u2⟩ := h.slO p hp hr j hj
      refine ⟨u1, fun hr2 => .inr ⟨?_, u2 hr2⟩⟩
      rcases h.sc with ⟨g1, g2⟩ | g
      · right; omega
      · left
        have := h.inL g
        unfold szA at this
        omega
  · intro x hx hrx j hj
    have hne : x ≠ p := fun e => by
      subst e
      dsimp only at hrx
      rw [hold, f3] at hrx
      simp at hrx
    obtain ⟨x1, x2, hxo⟩ := h.inO hx
    dsimp only at hrx hj ⊢
    rw [hinO x x1 x2 hne] at hrx
    have hxn : x + szA a.ws x ≤ Od := by
      rcases hxo with g | g
      · exact g.2
      · rw [hrx] at g; simp at g
    have hnx : nxB a.ws L x = some (rdS (wordAt a.ws x)).toNat := by unfold nxB; rw [if_pos hrx]
    have hsep := fun hlt : x < p => h.oth.sep x hx p hp hlt _ hnx
    obtain ⟨s1, s2⟩ := slot_same (ws := a.ws) (ws' := mvW a.ws p a.T n) hrx (fun i i1 i2 => hinO i (by omega) (by unfold szA at hxn; omega) (fun e => by
      by_cases g : x < p
      · have := hsep g; omega
      · omega))
    rw [s1] at hj
    obtain ⟨t1, t2, t3, t4⟩ := s2 j hj
    rw [t1, t2, t3, t4]
    exact h.slO x hx hrx j hj
/-- A value that is forwarded. -/
theorem Cyc.fwd (h : Cyc a S E F Od scan J L O) {t m : Int} (hm : isR t = true → 0 ≤ m ∧ (m.toNat ∈ L ∨ m.toNat ∈ O)) :
    ∃ M, Cyc (fwdA S a t m) S E F Od scan J (L ++ M) O ∧ (isR t = true → 0 ≤ fwdV S a t m ∧ (fwdV S a t m).toNat ∈ L ++ M) ∧ (isR t = false → fwdV S a t m = m) := by
  by_cases hr : isR t = true
  · obtain ⟨m0, hmm⟩ := hm hr
    have hin := h.inUse hmm
    by_cases hu : (S : Int) ≤ m ∧ m < (a.T : Int)
    · have e1 : fwdA S a t m = a := by unfold fwdA moves; simp [hu]
      have e2 : fwdV S a t m = m := by unfold fwdV; rw [if_neg (fun g => g.2 hu)]
      rw [e1, e2]
      exact ⟨[], by simpa using h, fun _ => ⟨m0, by simpa using hin.1 (by omega)⟩, fun _ => rfl⟩
    · have hmO : m.toNat ∈ O := by
        rcases hmm with g | g
        · exact absurd (hin.2 g) (by omega)
        · exact g
      obtain ⟨o1, o2, ho⟩ := h.inO hmO
      rcases ho with ⟨g1, g2⟩ | ⟨g1, g2, g3⟩
      · have hf := rd_not_fw g1
        have e1 : fwdA S a t m = ⟨mvW a.ws m.toNat a.T (szA a.ws m.toNat), a.T + szA a.ws m.toNat, a.C + szA a.ws m.toNat⟩ := by
          unfold fwdA
          rw [if_pos (by simp only [moves, hr, hf, decide_eq_false hu]; rfl)]
        have e2 : fwdV S a t m = (a.T : Int) := by unfold fwdV; rw [if_pos ⟨hr, hu⟩, hf]; simp
        rw [e1, e2]
        exact ⟨[a.T], h.move hmO g1, fun _ => ⟨by omega, by simp⟩, fun g => by rw [hr] at g; simp at g⟩
      · have e1 : fwdA S a t m = a := by unfold fwdA moves; simp [g2]
        have e2 : fwdV S a t m = fwP (wordAt a.ws m.toNat) := by unfold fwdV; rw [if_pos ⟨hr, hu⟩, if_pos g2]
        rw [e1, e2]
        exact ⟨[], by simpa using h, fun _ => ⟨fwP_nonneg _, by simpa [fwTo] using g3⟩, fun g => by rw [hr] at g; simp at g⟩
  · have e1 : fwdA S a t m = a := by unfold fwdA moves; simp [hr]
    have e2 : fwdV S a t m = m := by unfold fwdV; rw [if_neg (fun g => hr g.1)]
    rw [e1, e2]
    exact ⟨[], by simpa using h, fun g => absurd g hr, fun _ => rfl⟩
end
end Go.Proofs.YtibjellhafndiaaGreatDoor

/- Copying, on whole numbers alone: slots, objects, Roots. No Go here. -/
namespace Go.Proofs.YtibjellhafndiaaGreatDoor
set_option maxRecDepth 20000
open Go.RowKit
set_option linter.unusedSimpArgs false
set_option linter.unusedVariables false

theorem u64_back {x : Int} (h0 : 0 ≤ x) (h1 : x < 18446744073709551616) : IntKind.u64.wrap (wrap64 x) = x := by
  rw [IntKind.wrap_u64]
  unfold wrap64
  omega
theorem u64_nat {x : Int} (h0 : 0 ≤ x) (h1 : x < 18446744073709551616) : IntKind.u64.wrap x = x := by
  rw [IntKind.wrap_u64]
  omega
theorem set_at {ws : List Int} {x i : Nat} {v : Int} (hi : i < ws.length) : wordAt (ws.set x v) i = if i = x then v else wordAt ws i := by
  unfold wordAt
  by_cases e : i = x
  · subst e; simp [hi]
  · rw [if_neg e, List.getD_eq_getElem?_getD, List.getElem?_set_ne (fun g => e g.symm), ← List.getD_eq_getElem?_getD]
theorem set_other {ws : List Int} {x i : Nat} {v : Int} (h : i ≠ x) : wordAt (ws.set x v) i = wordAt ws i := by
  unfold wordAt
  rw [List.getD_eq_getElem?_getD, List.getElem?_set_ne (fun g => h g.symm), ← List.getD_eq_getElem?_getD]
theorem set_same {ws : List Int} {x : Nat} {v : Int} (h : x < ws.length) (hv : wordAt ws x = v) : ws.set x v = ws := by
  refine List.ext_getElem? fun i => ?_
  by_cases e : i = x
  · subst e
    rw [List.getElem?_set_self h]
    unfold wordAt at hv
    rw [List.getD_eq_getElem?_getD, List.getElem?_eq_getElem h] at hv
    rw [List.getElem?_eq_getElem h, ← hv]
    rfl
  · rw [List.getElem?_set_ne (fun g => e g.symm)]
theorem set_words {ws : List Int} {x : Nat} {v : Int} (hw : Words64 ws) (h0 : 0 ≤ v) (h1 : v < 18446744073709551616) : Words64 (ws.set x v) := fun z hz => by
  rcases List.mem_or_eq_of_mem_set hz with g | rfl
  · exact hw z g
  · exact ⟨h0, h1⟩
theorem wrap64_nat {x : Int} (h0 : 0 ≤ x) (h1 : x < 9223372036854775808) : wrap64 x = x := by unfold wrap64; omega
section
variable {a : Cp} {S E F Od scan J : Nat} {L O : List Nat}
/-- A slot that is gone over. -/
theorem Cyc.layG {jj J' : Nat} (h : Cyc a S E F Od scan J L O) (hs : scan ∈ L) (hJ : jj < slN' a.ws scan) (hJ' : ∀ i, J ≤ i → J' ≤ i ∨ i = jj) {v : Int} (hv : isR (rvT a.ws (slotX a.ws scan jj)) = true → 0 ≤ v ∧ v.toNat ∈ L) (hv2 : isR (rvT a.ws (slotX a.ws scan jj)) = false → v = rvN a.ws (slotX a.ws scan jj)) :
    Cyc ⟨a.ws.set (slotX a.ws scan jj + 1) (IntKind.u64.wrap v), a.T, a.C⟩ S E F Od scan J' L O := by
  have hTE := h.TE
  have hE := h.hE
  have hap := h.ap
  obtain ⟨q1, q2, q3⟩ := h.inL hs
  obtain ⟨x1, x2⟩ := slot_in q2 hJ
  obtain ⟨X, hX⟩ : ∃ X, X = slotX a.ws scan jj := ⟨_, rfl⟩
  rw [← hX] at x1 x2 hv hv2 ⊢
  unfold szA at q3
  have hXT : X + 1 < a.T := by omega
  obtain ⟨so, sl⟩ := h.slL scan hs jj hJ
  rw [← hX] at so sl
  have hgo : ∀ p j, j < slN' a.ws p → (scan < p ∨ scan = p ∧ J ≤ j) → ¬ (scan < p ∨ scan = p ∧ J' ≤ j) → p = scan ∧ j = jj := fun p j _ g1 g2 => by
    rcases g1 with g | ⟨rfl, g⟩
    · exact absurd (.inl g) g2
    · rcases hJ' j g with k | k
      · exact absurd (.inr ⟨rfl, k⟩) g2
      · exact ⟨rfl, k⟩
  cases hr : isR (rvT a.ws X) with
  | false =>
    have hw := word_in h.w64 (X + 1)
    have e : IntKind.u64.wrap v = wordAt a.ws (X + 1) := by
      rw [hv2 hr]
      have : rvN a.ws X = wrap64 (wordAt a.ws (X + 1)) := by simp [rvN, so]
      rw [this, u64_back hw.1 hw.2]
    rw [e, set_same (by omega) rfl]
    refine ⟨h.use, h.oth, h.room, h.hE, h.hOd, h.ap, h.hS, h.hF, h.small, h.w64, .inr hs, fun p hp j hj => ?_, h.slO⟩
    obtain ⟨u1, u2⟩ := h.slL p hp j hj
    refine ⟨u1, fun g => ?_⟩
    rcases u2 g with k | ⟨k1, k2⟩
    · exact .inl k
    · by_cases k3 : scan < p ∨ scan = p ∧ J' ≤ j
      · exact .inr ⟨k3, k2⟩
      · obtain ⟨rfl, rfl⟩ := hgo p j hj k1 k3
        rw [← hX, hr] at g
        simp at g
  | true =>
    obtain ⟨v0, vL⟩ := hv hr
    have vin := h.inL vL
    unfold szA at vin
    have hS := h.hS
    have hsm := h.small
    have e : IntKind.u64.wrap v = v := u64_nat v0 (by omega)
    rw [e]
    have hoth : ∀ i, i ≠ X + 1 → wordAt (a.ws.set (X + 1) v) i = wordAt a.ws i := fun i hi => set_other hi
    have hself : wordAt (a.ws.set (X + 1) v) (X + 1) = v := by rw [set_at (by omega), if_pos rfl]
    have hheadL : ∀ p ∈ L, p ≠ X + 1 := fun p hp e => by
      have hnx : nxA a.ws scan = some (rdS (wordAt a.ws scan)).toNat := by unfold nxA; rw [if_pos q2]
      have := h.use.sep scan hs p hp (by omega) _ hnx
      omega
    have hO : ∀ i, F ≤ i → i < Od → i ≠ X + 1 := fun i _ _ => by omega
    have hbodyL : ∀ p ∈ L, p ≠ scan → ∀ i, p ≤ i → i ≤ p + (rdS (wordAt a.ws p)).toNat → i ≠ X + 1 := fun p hp hne i i1 i2 e => by
      have hpi := h.inL hp
      have hnx : nxA a.ws scan = some (rdS (wordAt a.ws scan)).toNat := by unfold nxA; rw [if_pos q2]
      have hnp : nxA a.ws p = some (rdS (wordAt a.ws p)).toNat := by unfold nxA; rw [if_pos hpi.2.1]
      by_cases g : scan < p
      · have := h.use.sep scan hs p hp g _ hnx; omega
      · have := h.use.sep p hp scan hs (by omega) _ hnp; omega
    refine ⟨?_, ?_, ?_, by simpa using h.hE, by simpa using h.hOd, h.ap, h.hS, h.hF, by simpa using h.small, set_words h.w64 v0 (by omega), .inr hs, ?_, ?_⟩
    · exact h.use.mono fun p hp s hs' => by unfold nxA at hs' ⊢; rw [hoth p (hheadL p hp)]; exact hs'
    · refine h.oth.mono fun p hp s hs' => ?_
      obtain ⟨o1, o2, ho⟩ := h.inO hp
      have e1 := hoth p (hO p o1 o2)
      have e2 : fwTo (a.ws.set (X + 1) v) p = fwTo a.ws p := by unfold fwTo; rw [e1]
      rcases nxB_some hs' with ⟨h4, rfl⟩ | ⟨h4, h5, h6, rfl⟩
      · unfold nxB; rw [e1, if_pos h4]
      · unfold nxB; rw [e1, e2, if_neg (by simp [h4]), if_pos ⟨h5, h6⟩, hoth _ (hheadL _ h6)]
    · have e1 : leftW (a.ws.set (X + 1) v) O = leftW a.ws O := by
        unfold leftW
        congr 1
        refine List.map_congr_left fun p hp => ?_
        obtain ⟨o1, o2, _⟩ := h.inO hp
        have e1 := hoth p (hO p o1 o2)
        simp only [e1, szA]
      show a.T + leftW (a.ws.set (X + 1) v) O ≤ E
      rw [e1]
      exact h.room
    · intro p hp j hj
      dsimp only at hj ⊢
      have hpi := h.inL hp
      have hhd := hoth p (hheadL p hp)
      have hsl : slN' (a.ws.set (X + 1) v) p = slN' a.ws p := by simp [slN', hhd]
      have hsx : slotX (a.ws.set (X + 1) v) p j = slotX a.ws p j := by simp [slotX, hhd]
      rw [hsl] at hj
      rw [hsx]
      obtain ⟨y1, y2⟩ := slot_in hpi.2.1 hj
      by_cases hpj : p = scan ∧ j = jj
      · obtain ⟨rfl, rfl⟩ := hpj
        rw [← hX]
        have et := hoth X (by omega)
        have hwt := word_in h.w64 X
        have hvo : vOk (wrap64 (wordAt a.ws X)) (wrap64 (wordAt a.ws (X + 1))) = true := so
        have ht : rvT a.ws X = wordAt a.ws X := by simp [rvT, so]
        rw [ht] at hr
        have hr' := of_decide_eq_true hr
        have ewt : wrap64 (wordAt a.ws X) = wordAt a.ws X := wrap64_nat hwt.1 (by omega)
        have ewv : wrap64 v = v := wrap64_nat v0 (by omega)
        have ho : rvOk (a.ws.set (X + 1) v) X = true := by
          unfold rvOk
          rw [et, hself, ewt, ewv]
          exact decide_eq_true (by omega)
        have hn : rvN (a.ws.set (X + 1) v) X = v := by simp only [rvN, ho, if_true]; rw [hself, ewv]
        refine ⟨ho, fun _ => .inl ?_⟩
        rw [hn]
        exact vL
      · have hwords : slotX a.ws p j ≠ X + 1 ∧ slotX a.ws p j + 1 ≠ X + 1 := by
          by_cases g : p = scan
          · subst g
            have hj' : j ≠ jj := fun e => hpj ⟨rfl, e⟩
            have e1 : slotX a.ws p j = p + (fs (rdK (wordAt a.ws p)) + 2 * (j : Int)).toNat := rfl
            have e2 : X = p + (fs (rdK (wordAt a.ws p)) + 2 * (jj : Int)).toNat := hX
            have := fs_ge (rdK (wordAt a.ws p))
            omega
          · exact ⟨hbodyL p hp g _ (by omega) (by omega), hbodyL p hp g _ (by omega) (by omega)⟩
        have e1 := hoth _ hwords.1
        have e2 := hoth _ hwords.2
        have eo : rvOk (a.ws.set (X + 1) v) (slotX a.ws p j) = rvOk a.ws (slotX a.ws p j) := by simp only [rvOk, e1, e2]
        have et : rvT (a.ws.set (X + 1) v) (slotX a.ws p j) = rvT a.ws (slotX a.ws p j) := by simp only [rvT, eo, e1]
        have en : rvN (a.ws.set (X + 1) v) (slotX a.ws p j) = rvN a.ws (slotX a.ws p j) := by simp only [rvN, eo, e2]
        rw [eo, et, en]
        obtain ⟨u1, u2⟩ := h.slL p hp j hj
        refine ⟨u1, fun g => ?_⟩
        rcases u2 g with k | ⟨k1, k2⟩
        · exact .inl k
        · by_cases k3 : scan < p ∨ scan = p ∧ J' ≤ j
          · exact .inr ⟨k3, k2⟩
          · exact absurd (hgo p j hj k1 k3) hpj
    · intro p hp hrp j hj
      obtain ⟨o1, o2, ho⟩ := h.inO hp
      have e1 := hoth p (hO p o1 o2)
      dsimp only at hrp hj ⊢
      rw [e1] at hrp
      have hpn : p + szA a.ws p ≤ Od := by
        rcases ho with g | g
        · exact g.2
        · rw [hrp] at g; simp at g
      unfold szA at hpn
      obtain ⟨s1, s2⟩ := slot_same (ws := a.ws) (ws' := a.ws.set (X + 1) v) hrp (fun i i1 i2 => hoth i (hO i (by omega) (by omega)))
      rw [s1] at hj
      obtain ⟨t1, t2, t3, t4⟩ := s2 j hj
      rw [t1, t2, t3, t4]
      exact h.slO p hp hrp j hj
theorem Cyc.fwd_same (h : Cyc a S E F Od scan J L O) {t m : Int} (hm : isR t = true → 0 ≤ m ∧ (m.toNat ∈ L ∨ m.toNat ∈ O)) : (fwdA S a t m).ws.length = a.ws.length ∧ ∀ i, S ≤ i → i < a.T → wordAt (fwdA S a t m).ws i = wordAt a.ws i := by
  unfold fwdA
  split
  · rename_i g
    simp only [moves, Bool.and_eq_true, Bool.not_eq_true', decide_eq_false_iff_not] at g
    obtain ⟨g1, g2, g3⟩ := g
    obtain ⟨m0, hmm⟩ := hm g1
    have hTE := h.TE
    have hE := h.hE
    refine ⟨mvW_length _ _ _ _, fun i i1 i2 => mvW_other (by omega) (fun e => ?_) (by omega)⟩
    omega
  · exact ⟨rfl, fun _ _ _ => rfl⟩
/-- A slot is forwarded and laid back. -/
def slotStep (S scan : Nat) (a : Cp) (j : Nat) : Cp :=
  ⟨(fwdA S a (rvT a.ws (slotX a.ws scan j)) (rvN a.ws (slotX a.ws scan j))).ws.set (slotX a.ws scan j + 1) (IntKind.u64.wrap (fwdV S a (rvT a.ws (slotX a.ws scan j)) (rvN a.ws (slotX a.ws scan j)))), (fwdA S a (rvT a.ws (slotX a.ws scan j)) (rvN a.ws (slotX a.ws scan j))).T, (fwdA S a (rvT a.ws (slotX a.ws scan j)) (rvN a.ws (slotX a.ws scan j))).C⟩
theorem Cyc.slot_ref (h : Cyc a S E F Od scan J L O) {p j : Nat} (hp : p ∈ L) (hj : j < slN' a.ws p) : isR (rvT a.ws (slotX a.ws p j)) = true → 0 ≤ rvN a.ws (slotX a.ws p j) ∧ ((rvN a.ws (slotX a.ws p j)).toNat ∈ L ∨ (rvN a.ws (slotX a.ws p j)).toNat ∈ O) := fun hr => by
  obtain ⟨u1, u2⟩ := h.slL p hp j hj
  have := rv_ref h.w64 u1 hr
  refine ⟨by omega, ?_⟩
  rcases u2 hr with g | g
  · exact .inl g
  · exact .inr g.2
theorem Cyc.slotG {jj J' : Nat} (h : Cyc a S E F Od scan J L O) (hs : scan ∈ L) (hJ : jj < slN' a.ws scan) (hJ' : ∀ i, J ≤ i → J' ≤ i ∨ i = jj) :
    ∃ M, Cyc (slotStep S scan a jj) S E F Od scan J' (L ++ M) O ∧ wordAt (slotStep S scan a jj).ws scan = wordAt a.ws scan ∧ (slotStep S scan a jj).ws.length = a.ws.length ∧ a.T ≤ (slotStep S scan a jj).T := by
  obtain ⟨q1, q2, q3⟩ := h.inL hs
  obtain ⟨x1, x2⟩ := slot_in q2 hJ
  unfold szA at q3
  have href := h.slot_ref hs hJ
  obtain ⟨M, hc, hv1, hv2⟩ := h.fwd href
  obtain ⟨hl, hsame⟩ := h.fwd_same href
  obtain ⟨X, hX⟩ : ∃ X, X = slotX a.ws scan jj := ⟨_, rfl⟩
  obtain ⟨b, hb⟩ : ∃ b, b = fwdA S a (rvT a.ws (slotX a.ws scan jj)) (rvN a.ws (slotX a.ws scan jj)) := ⟨_, rfl⟩
  obtain ⟨v, hvv⟩ : ∃ v, v = fwdV S a (rvT a.ws (slotX a.ws scan jj)) (rvN a.ws (slotX a.ws scan jj)) := ⟨_, rfl⟩
  have e : slotStep S scan a jj = ⟨b.ws.set (X + 1) (IntKind.u64.wrap v), b.T, b.C⟩ := by rw [hX, hb, hvv]; rfl
  rw [e]
  rw [← hb] at hc hl hsame
  rw [← hvv] at hv1 hv2
  rw [← hX] at hv1 hv2 x1 x2
  have hh : wordAt b.ws scan = wordAt a.ws scan := hsame scan q1 (by omega)
  have hXb : slotX b.ws scan jj = X := by rw [hX]; simp [slotX, hh]
  have hNb : slN' b.ws scan = slN' a.ws scan := by simp [slN', hh]
  have w1 := hsame X (by omega) (by omega)
  have w2 := hsame (X + 1) (by omega) (by omega)
  have ro : rvOk b.ws X = rvOk a.ws X := by simp only [rvOk, w1, w2]
  have rt : rvT b.ws X = rvT a.ws X := by simp only [rvT, ro, w1]
  have rn : rvN b.ws X = rvN a.ws X := by simp only [rvN, ro, w2]
  have := hc.layG (v := v) (by simp [hs]) (by rw [hNb]; exact hJ) hJ' (by rw [hXb, rt]; exact hv1) (by rw [hXb, rt, rn]; exact hv2)
  rw [hXb] at this
  refine ⟨M, this, ?_, by simpa using hl, ?_⟩
  · show wordAt (b.ws.set (X + 1) (IntKind.u64.wrap v)) scan = _
    rw [set_other (by omega), hh]
  · show a.T ≤ b.T
    rw [hb]
    unfold fwdA
    split
    · show a.T ≤ a.T + _; omega
    · exact Nat.le_refl _
theorem Cyc.slot (h : Cyc a S E F Od scan J L O) (hs : scan ∈ L) (hJ : J < slN' a.ws scan) :
    ∃ M, Cyc (slotStep S scan a J) S E F Od scan (J + 1) (L ++ M) O ∧ wordAt (slotStep S scan a J).ws scan = wordAt a.ws scan ∧ (slotStep S scan a J).ws.length = a.ws.length ∧ a.T ≤ (slotStep S scan a J).T := h.slotG hs hJ (fun i hi => by omega)
/-- The first k slots of the object at scan. -/
def slotsN (S scan : Nat) (a : Cp) : Nat → Cp
  | 0 => a
  | k + 1 => slotStep S scan (slotsN S scan a k) k
theorem Cyc.slots (h : Cyc a S E F Od scan 0 L O) (hs : scan ∈ L) : ∀ k, k ≤ slN' a.ws scan → ∃ M, Cyc (slotsN S scan a k) S E F Od scan k (L ++ M) O ∧ wordAt (slotsN S scan a k).ws scan = wordAt a.ws scan ∧ (slotsN S scan a k).ws.length = a.ws.length ∧ a.T ≤ (slotsN S scan a k).T
  | 0, _ => ⟨[], by rw [List.append_nil]; exact h, rfl, rfl, Nat.le_refl _⟩
  | k + 1, hk => by
    obtain ⟨M, h1, h2, h3, h4⟩ := h.slots hs k (by omega)
    have hN : slN' (slotsN S scan a k).ws scan = slN' a.ws scan := by simp [slN', h2]
    obtain ⟨M2, g1, g2, g3, g4⟩ := h1.slot (by simp [hs]) (by rw [hN]; omega)
    refine ⟨M ++ M2, ?_, ?_, ?_, ?_⟩
    · rw [← List.append_assoc]; exact g1
    · exact g2.trans h2
    · exact g3.trans h3
    · exact Nat.le_trans h4 g4
/-- What is behind a place of a chain. -/
theorem Chain.next {nx : Nat → Option Nat} {p q : Nat} {L : List Nat} (h : Chain nx p q L) : ∀ x ∈ L, ∀ s, nx x = some s → x + s + 1 = q ∨ x + s + 1 ∈ L := by
  induction L generalizing p with
  | nil => intro x hx; simp at hx
  | cons a L ih =>
    obtain ⟨rfl, s, hs, t⟩ := h
    intro x hx s' hs'
    rcases List.mem_cons.1 hx with e1 | h1
    · subst e1
      rw [hs] at hs'
      cases hs'
      cases L with
      | nil => exact .inl (show q = _ from t).symm
      | cons b L =>
        obtain ⟨hb, _⟩ := t
        exact .inr (by simp [hb])
    · rcases ih t x h1 s' hs' with g | g
      · exact .inl g
      · exact .inr (by simp [g])
theorem Cyc.next (h : Cyc a S E F Od scan J L O) (hs : scan ∈ L) (hJ : slN' a.ws scan ≤ J) : Cyc a S E F Od (scan + szA a.ws scan) 0 L O := by
  obtain ⟨q1, q2, q3⟩ := h.inL hs
  have hnx : nxA a.ws scan = some (rdS (wordAt a.ws scan)).toNat := by unfold nxA; rw [if_pos q2]
  have e : scan + szA a.ws scan = scan + (rdS (wordAt a.ws scan)).toNat + 1 := by unfold szA; omega
  refine ⟨h.use, h.oth, h.room, h.hE, h.hOd, h.ap, h.hS, h.hF, h.small, h.w64, ?_, fun p hp j hj => ?_, h.slO⟩
  · rw [e]
    rcases h.use.next scan hs _ hnx with g | g
    · exact .inl ⟨g, rfl⟩
    · exact .inr g
  · obtain ⟨u1, u2⟩ := h.slL p hp j hj
    refine ⟨u1, fun g => ?_⟩
    rcases u2 g with k | ⟨k1, k2⟩
    · exact .inl k
    · refine .inr ⟨?_, k2⟩
      have hlt : scan < p := by
        rcases k1 with k1 | ⟨rfl, k1⟩
        · exact k1
        · omega
      have := h.use.sep scan hs p hp hlt _ hnx
      rw [e]
      omega
/-- The object at scan, gone over. -/
def objStep (S scan : Nat) (a : Cp) : Cp := slotsN S scan a (slN' a.ws scan)
theorem Cyc.obj (h : Cyc a S E F Od scan 0 L O) (hs : scan ∈ L) :
    ∃ M, Cyc (objStep S scan a) S E F Od (scan + szA a.ws scan) 0 (L ++ M) O ∧ (objStep S scan a).ws.length = a.ws.length ∧ a.T ≤ (objStep S scan a).T := by
  obtain ⟨M, h1, h2, h3, h4⟩ := h.slots hs _ (Nat.le_refl _)
  have hN : slN' (slotsN S scan a (slN' a.ws scan)).ws scan = slN' a.ws scan := by unfold slN' at h2 ⊢; rw [h2]
  have hz : szA (slotsN S scan a (slN' a.ws scan)).ws scan = szA a.ws scan := by simp [szA, h2]
  have := h1.next (by simp [hs]) (by rw [hN]; exact Nat.le_refl _)
  rw [hz] at this
  exact ⟨M, this, h3, h4⟩
theorem Cyc.scanT (h : Cyc a S E F Od scan J L O) : S ≤ scan ∧ scan ≤ a.T ∧ (scan ≠ a.T → scan ∈ L) := by
  rcases h.sc with ⟨g, _⟩ | g
  · have := h.ST
    exact ⟨by omega, by omega, fun e => absurd g e⟩
  · have := h.inL g
    unfold szA at this
    exact ⟨by omega, by omega, fun _ => g⟩
end
/-- Objects gone over, from scan on, one behind the other, till none is left; d: how many may be left; n: how many there were. -/
def runA (S : Nat) : Nat → Cp → Nat → Nat → Cp × Nat
  | 0, a, _, n => (a, n)
  | d + 1, a, scan, n => if scan = a.T then (a, n) else runA S d (objStep S scan a) (scan + szA a.ws scan) (n + 1)
theorem runA_end (S : Nat) : ∀ (d : Nat) (a : Cp) (scan n : Nat), scan = a.T → runA S d a scan n = (a, n)
  | 0, a, scan, n, h => rfl
  | d + 1, a, scan, n, h => by simp [runA, h]
theorem runA_step {S d : Nat} {a : Cp} {scan n : Nat} (h : scan ≠ a.T) : runA S (d + 1) a scan n = runA S d (objStep S scan a) (scan + szA a.ws scan) (n + 1) := by simp [runA, h]
theorem szA_ge (ws : List Int) (p : Nat) : 1 ≤ szA ws p := by unfold szA; omega
theorem Cyc.run {S E F Od : Nat} {O : List Nat} : ∀ (d : Nat) {a : Cp} {scan : Nat} {L : List Nat} (n : Nat), Cyc a S E F Od scan 0 L O → E ≤ scan + d →
    ∃ M, Cyc (runA S d a scan n).1 S E F Od (runA S d a scan n).1.T 0 (L ++ M) O ∧ (runA S d a scan n).1.ws.length = a.ws.length ∧ (runA S d a scan n).2 ≤ n + (E - scan)
  | 0, a, scan, L, n, h, hd => by
    have h1 := h.scanT
    have h2 := h.TE
    obtain rfl : scan = a.T := by omega
    exact ⟨[], by simpa [runA] using h, rfl, by simp [runA]⟩
  | d + 1, a, scan, L, n, h, hd => by
    by_cases e : scan = a.T
    · subst e
      rw [runA_end _ _ _ _ _ rfl]
      exact ⟨[], by simpa using h, rfl, by simp⟩
    · rw [runA_step e]
      obtain ⟨M, h1, h2, h3⟩ := h.obj (h.scanT.2.2 e)
      have := szA_ge a.ws scan
      obtain ⟨M2, g1, g2, g3⟩ := Cyc.run d (n + 1) h1 (by omega)
      have h4 := h.scanT
      have h5 := h.TE
      refine ⟨M ++ M2, by rw [← List.append_assoc]; exact g1, g2.trans h2, by omega⟩
/-- The Roots, forwarded one behind the other. -/
def rootsN (S : Nat) (a : Cp) (y : Nat → Int) : Nat → Cp × (Nat → Int)
  | 0 => (a, y)
  | k + 1 => (fwdA S (rootsN S a y k).1 ((rootsN S a y k).2 (2 * k)) ((rootsN S a y k).2 (2 * k + 1)), putY (rootsN S a y k).2 k ((rootsN S a y k).2 (2 * k)) (fwdV S (rootsN S a y k).1 ((rootsN S a y k).2 (2 * k)) ((rootsN S a y k).2 (2 * k + 1))))
/-- The first k of these lead to these places. -/
def RootsIn (y : Nat → Int) (k : Nat) (L : List Nat) : Prop := ∀ i, i < k → isR (y (2 * i)) = true → 0 ≤ y (2 * i + 1) ∧ (y (2 * i + 1)).toNat ∈ L
theorem putY_at {y : Nat → Int} {r : Nat} {t n : Int} : putY y r t n (2 * r) = t ∧ putY y r t n (2 * r + 1) = n := by
  refine ⟨by simp [putY], ?_⟩
  unfold putY
  rw [if_neg (by omega), if_pos rfl]
theorem putY_other {y : Nat → Int} {r i : Nat} {t n : Int} (h : i ≠ r) : putY y r t n (2 * i) = y (2 * i) ∧ putY y r t n (2 * i + 1) = y (2 * i + 1) := by
  unfold putY
  refine ⟨by rw [if_neg (by omega), if_neg (by omega)], by rw [if_neg (by omega), if_neg (by omega)]⟩
theorem Cyc.roots {a : Cp} {S E F Od scan : Nat} {L O : List Nat} (h : Cyc a S E F Od scan 0 L O) {y : Nat → Int} {rl : Nat} (hy : RootsIn y rl O) : ∀ k, k ≤ rl →
    ∃ M, Cyc (rootsN S a y k).1 S E F Od scan 0 (L ++ M) O ∧ RootsIn (rootsN S a y k).2 k (L ++ M) ∧ (∀ i, k ≤ i → (rootsN S a y k).2 (2 * i) = y (2 * i) ∧ (rootsN S a y k).2 (2 * i + 1) = y (2 * i + 1)) ∧ (rootsN S a y k).1.ws.length = a.ws.length
  | 0, _ => ⟨[], by rw [List.append_nil]; exact h, fun i hi => by omega, fun i _ => ⟨rfl, rfl⟩, rfl⟩
  | k + 1, hk => by
    obtain ⟨M, h1, h2, h3, h4⟩ := h.roots hy k (by omega)
    have hk3 := h3 k (Nat.le_refl _)
    have href : isR ((rootsN S a y k).2 (2 * k)) = true → 0 ≤ (rootsN S a y k).2 (2 * k + 1) ∧ (((rootsN S a y k).2 (2 * k + 1)).toNat ∈ L ++ M ∨ ((rootsN S a y k).2 (2 * k + 1)).toNat ∈ O) := fun g => by
      rw [hk3.1] at g
      rw [hk3.2]
      have := hy k (by omega) g
      exact ⟨this.1, .inr this.2⟩
    obtain ⟨M2, g1, g2, g3⟩ := h1.fwd href
    obtain ⟨l1, _⟩ := h1.fwd_same href
    refine ⟨M ++ M2, by rw [← List.append_assoc]; exact g1, fun i hi hr => ?_, fun i hi => ?_, l1.trans h4⟩
    · by_cases e : i = k
      · subst e
        have hp := putY_at (y := (rootsN S a y i).2) (r := i) (t := (rootsN S a y i).2 (2 * i)) (n := fwdV S (rootsN S a y i).1 ((rootsN S a y i).2 (2 * i)) ((rootsN S a y i).2 (2 * i + 1)))
        simp only [rootsN] at hr ⊢
        rw [hp.1] at hr
        rw [hp.2, ← List.append_assoc]
        exact g2 hr
      · have hp := putY_other (y := (rootsN S a y k).2) (r := k) (i := i) (t := (rootsN S a y k).2 (2 * k)) (n := fwdV S (rootsN S a y k).1 ((rootsN S a y k).2 (2 * k)) ((rootsN S a y k).2 (2 * k + 1))) e
        simp only [rootsN] at hr ⊢
        rw [hp.1] at hr
        rw [hp.2]
        have := h2 i (by omega) hr
        exact ⟨this.1, by rw [← List.append_assoc]; simp only [List.mem_append] at this ⊢; exact .inl this.2⟩
    · have hp := putY_other (y := (rootsN S a y k).2) (r := k) (i := i) (t := (rootsN S a y k).2 (2 * k)) (n := fwdV S (rootsN S a y k).1 ((rootsN S a y k).2 (2 * k)) ((rootsN S a y k).2 (2 * k + 1))) (by omega)
      simp only [rootsN]
      rw [hp.1, hp.2]
      exact h3 i (by omega)
end Go.Proofs.YtibjellhafndiaaGreatDoor

/- Copying, on whole numbers alone: a right arena, with a cycle and without one; a flip. No Go here. -/
namespace Go.Proofs.YtibjellhafndiaaGreatDoor
set_option maxRecDepth 20000
open Go.RowKit
set_option linter.unusedSimpArgs false
set_option linter.unusedVariables false

/-- What is known of an arena without a cycle. -/
structure Still (ws : List Int) (S T E : Nat) (L : List Nat) : Prop where
  use : Chain (nxA ws) S T L
  hT : T ≤ E
  hE : E ≤ ws.length
  hS : 1 ≤ S
  small : ws.length ≤ 1048576
  w64 : Words64 ws
  slL : ∀ p ∈ L, ∀ j, j < slN' ws p → rvOk ws (slotX ws p j) = true ∧ (isR (rvT ws (slotX ws p j)) = true → (rvN ws (slotX ws p j)).toNat ∈ L)
theorem Cyc.still {a : Cp} {S E F Od : Nat} {L O : List Nat} (h : Cyc a S E F Od a.T 0 L O) : Still a.ws S a.T E L :=
  ⟨h.use, h.TE, h.hE, h.hS, h.small, h.w64, fun p hp j hj => by
    obtain ⟨u1, u2⟩ := h.slL p hp j hj
    refine ⟨u1, fun g => ?_⟩
    rcases u2 g with k | ⟨k1, _⟩
    · exact k
    · have := h.inL hp
      unfold szA at this
      omega⟩
theorem chain_left {ws : List Int} {p q : Nat} {L : List Nat} (h : Chain (nxA ws) p q L) : p + leftW ws L = q := by
  refine Chain.ind (motive := fun p L => p + leftW ws L = q) (by simp [leftW]) (fun {p s L} hs t ih => ?_) h
  obtain ⟨g1, rfl⟩ := nxA_some hs
  have e : leftW ws (p :: L) = szA ws p + leftW ws L := by simp [leftW, g1]
  rw [e]
  unfold szA
  omega
/-- A flip begins. -/
theorem Still.flip {ws : List Int} {S T E : Nat} {L : List Nat} (h : Still ws S T E L) {S' E' : Nat} (h1 : E' ≤ S ∨ T ≤ S') (h2 : S' + (T - S) ≤ E') (h3 : E' ≤ ws.length) (h4 : 1 ≤ S') : Cyc ⟨ws, S', 0⟩ S' E' S T S' 0 [] L := by
  have hl := chain_left h.use
  refine ⟨Chain.nil _, h.use.mono fun x hx s hs => ?_, ?_, h3, by have := h.hT; have := h.hE; show T ≤ ws.length; omega, h1, h4, h.hS, h.small, h.w64, .inl ⟨rfl, rfl⟩, fun p hp => by simp at hp, fun p hp hr j hj => h.slL p hp j hj⟩
  · obtain ⟨g1, rfl⟩ := nxA_some hs
    unfold nxB
    rw [if_pos g1]
  · show S' + leftW ws L ≤ E'
    omega
section
variable {ws : List Int} {semi toh top : Int} {scan old copied serial : Int} {y : Nat → Int} {rl : Nat} {S T E F : Nat}
end
end Go.Proofs.YtibjellhafndiaaGreatDoor
