/- What can be reached, on whole numbers alone: places that are come to, one behind the other. No Go here. -/
import Derived.Test.YtmckcnmlhgpnhaaGreatProg
import Derived.Test.YtmckcnmlhgpnhaaGreatKLookS
import Derived.Test.YtmckcnmlhgpnhaaGreatKHeadS
import Derived.Laws.MakeOwn
/- What can be reached, on whole numbers alone: places that are come to, one behind the other. No Go here. -/
namespace Go.Proofs.YtmckcnmlhgpnhaaGreat
set_option maxRecDepth 20000
open Go.RowKit
set_option linter.unusedSimpArgs false
set_option linter.unusedVariables false

/-- A value that is come to: what it leads to is put behind what was come to, unless it is there. -/
def comeP (ws : List Int) (todo : List Nat) (t m : Int) : List Nat :=
  if isR t = true then (if (leadsAt ws m.toNat).toNat ∈ todo then todo else todo ++ [(leadsAt ws m.toNat).toNat]) else todo
/-- The first k of some values. -/
def comeN (ws : List Int) (f : Nat → Int × Int) : Nat → List Nat → List Nat
  | 0, todo => todo
  | k + 1, todo => comeP ws (comeN ws f k todo) (f k).1 (f k).2
def slotX (ws : List Int) (p j : Nat) : Nat := p + (fs (rdK (wordAt ws p)) + 2 * (j : Int)).toNat
def slotF (ws : List Int) (p : Nat) (j : Nat) : Int × Int := (rvT ws (slotX ws p j), rvN ws (slotX ws p j))
/-- Behind all slots of the object at p. -/
def goneOver (ws : List Int) (p : Nat) (todo : List Nat) : List Nat := comeN ws (slotF ws p) (slN (rdK (wordAt ws p)) (rdS (wordAt ws p))) todo
/-- From number i on, all that is come to in the end; d: how many may be left. -/
def bfs (ws : List Int) : Nat → Nat → List Nat → List Nat
  | 0, _, todo => todo
  | d + 1, i, todo => if i < todo.length then bfs ws d (i + 1) (goneOver ws (todo.getD i 0) todo) else todo
/-- From number i on, all that is come to in the end is R. -/
def Bfs (ws : List Int) (i : Nat) (todo R : List Nat) : Prop := bfs ws (ws.length - i) i todo = R
theorem Bfs.done {ws : List Int} {i : Nat} {todo R : List Nat} (h : Bfs ws i todo R) (hi : ¬ i < todo.length) : R = todo := by
  unfold Bfs at h
  cases hd : ws.length - i with
  | zero => rw [hd] at h; exact h.symm
  | succ d => rw [hd] at h; simp only [bfs, if_neg hi] at h; exact h.symm
theorem Bfs.step {ws : List Int} {i : Nat} {todo R : List Nat} (h : Bfs ws i todo R) (hi : i < todo.length) (hl : todo.length ≤ ws.length) : Bfs ws (i + 1) (goneOver ws (todo.getD i 0) todo) R := by
  unfold Bfs at h ⊢
  obtain ⟨d, hd⟩ : ∃ d, ws.length - i = d + 1 := ⟨ws.length - i - 1, by omega⟩
  rw [hd] at h
  simp only [bfs, if_pos hi] at h
  rw [show ws.length - (i + 1) = d by omega]
  exact h
theorem nodup_length {n : Nat} : ∀ {l : List Nat}, l.Nodup → (∀ x ∈ l, x < n) → l.length ≤ n := by
  induction n with
  | zero =>
    intro l _ h
    cases l with
    | nil => simp
    | cons x l => exact absurd (h x (by simp)) (by omega)
  | succ n ih =>
    intro l hn h
    by_cases hm : n ∈ l
    · have h1 := List.length_erase_of_mem hm
      have h2 : (l.erase n).length ≤ n := ih (hn.erase n) (fun x hx => by
        have h3 := (List.Nodup.mem_erase_iff hn).1 hx
        have h4 := h x h3.2
        have := h3.1
        omega)
      have h5 : 0 < l.length := List.length_pos_of_mem hm
      omega
    · have := ih hn (fun x hx => by
        have h4 := h x hx
        have : x ≠ n := fun e => hm (e ▸ hx)
        omega)
      omega
/-- What was come to: objects, none twice. -/
def Come (mk : Nat → Int) (todo : List Nat) : Prop := todo.Nodup ∧ ∀ p ∈ todo, isObj mk p
theorem comeP_good {mk : Nat → Int} {ws : List Int} {todo : List Nat} {t m : Int} (h : Come mk todo) (hv : isR t = true → isObj mk (leadsAt ws m.toNat).toNat) : Come mk (comeP ws todo t m) := by
  unfold comeP
  split
  · rename_i hr
    split
    · exact h
    · rename_i hm
      refine ⟨List.nodup_append.2 ⟨h.1, by simp, fun a ha b hb => ?_⟩, fun p hp => ?_⟩
      · simp at hb
        subst hb
        exact fun e => hm (e ▸ ha)
      · rcases List.mem_append.1 hp with hp | hp
        · exact h.2 p hp
        · simp at hp
          subst hp
          exact hv hr
  · exact h
theorem comeN_good {mk : Nat → Int} {ws : List Int} {f : Nat → Int × Int} : ∀ (k : Nat) {todo : List Nat}, Come mk todo → (∀ j, j < k → isR (f j).1 = true → isObj mk (leadsAt ws (f j).2.toNat).toNat) → Come mk (comeN ws f k todo)
  | 0, _, h, _ => h
  | k + 1, _, h, hv => comeP_good (comeN_good k h fun j hj => hv j (by omega)) (hv k (by omega))
theorem comeP_pre (ws : List Int) (todo : List Nat) (t m : Int) : ∃ l, comeP ws todo t m = todo ++ l := by
  unfold comeP
  split
  · split
    · exact ⟨[], by simp⟩
    · exact ⟨_, rfl⟩
  · exact ⟨[], by simp⟩
theorem comeN_pre (ws : List Int) (f : Nat → Int × Int) : ∀ (k : Nat) (todo : List Nat), ∃ l, comeN ws f k todo = todo ++ l
  | 0, todo => ⟨[], by simp [comeN]⟩
  | k + 1, todo => by
    obtain ⟨l, hl⟩ := comeN_pre ws f k todo
    obtain ⟨l2, hl2⟩ := comeP_pre ws (comeN ws f k todo) (f k).1 (f k).2
    exact ⟨l ++ l2, by show comeP ws (comeN ws f k todo) (f k).1 (f k).2 = _; rw [hl2, hl]; simp⟩
/-- The slots of an object lead to objects. -/
theorem known_slots {mk : Nat → Int} {ws : List Int} {cyc : Bool} {scan : Int} (h : Known mk ws cyc scan) {p : Nat} (hp : isObj mk p) (hpn : p < ws.length) : ∀ j, j < slN (rdK (wordAt ws p)) (rdS (wordAt ws p)) → isR (slotF ws p j).1 = true → isObj mk (leadsAt ws (slotF ws p j).2.toNat).toNat := fun j hj hr => by
  have ho := (h.objs p hpn hp).1 j hj
  have hl := ho.2.1 hr
  exact h.leads _ (fromOk_ne hl.2.1)
theorem known_lt {mk : Nat → Int} {ws : List Int} {cyc : Bool} {scan : Int} (h : Known mk ws cyc scan) {p : Nat} (hp : isObj mk p) : p < ws.length := by
  have := (h.within p hp).2
  omega
theorem goneOver_good {mk : Nat → Int} {ws : List Int} {cyc : Bool} {scan : Int} (h : Known mk ws cyc scan) {p : Nat} (hp : isObj mk p) {todo : List Nat} (ht : Come mk todo) : Come mk (goneOver ws p todo) :=
  comeN_good _ ht (known_slots h hp (known_lt h hp))
/-- All that is come to in the end are objects. -/
theorem bfs_good {mk : Nat → Int} {ws : List Int} {cyc : Bool} {scan : Int} (h : Known mk ws cyc scan) : ∀ (d i : Nat) {todo : List Nat}, Come mk todo → Come mk (bfs ws d i todo)
  | 0, _, _, ht => ht
  | d + 1, i, todo, ht => by
    simp only [bfs]
    split
    · rename_i hlt
      exact bfs_good h d (i + 1) (goneOver_good h (ht.2 _ (by simp [hlt])) ht)
    · exact ht
theorem come_length {mk : Nat → Int} {ws : List Int} {cyc : Bool} {scan : Int} (h : Known mk ws cyc scan) {todo : List Nat} (ht : Come mk todo) : todo.length ≤ ws.length := nodup_length ht.1 (fun x hx => known_lt h (ht.2 x hx))
/-- How many words these objects have. -/
def sumW (ws : List Int) (l : List Nat) : Int := l.foldl (fun s p => s + rdS (wordAt ws p) + 1) 0
theorem sumW_snoc (ws : List Int) (l : List Nat) (p : Nat) : sumW ws (l ++ [p]) = sumW ws l + rdS (wordAt ws p) + 1 := by simp [sumW]
theorem sumW_bound (ws : List Int) (l : List Nat) : 0 ≤ sumW ws l ∧ sumW ws l ≤ 257 * l.length := by
  have h : ∀ (l : List Nat) (s : Int), 0 ≤ s → 0 ≤ l.foldl (fun s p => s + rdS (wordAt ws p) + 1) s ∧ l.foldl (fun s p => s + rdS (wordAt ws p) + 1) s ≤ s + 257 * l.length := by
    intro l
    induction l with
    | nil => intro s hs; simp; exact hs
    | cons p l ih =>
      intro s hs
      have := rdS_bound (wordAt ws p)
      have h2 := ih (s + rdS (wordAt ws p) + 1) (by omega)
      simp only [List.foldl_cons, List.length_cons]
      refine ⟨h2.1, ?_⟩
      have := h2.2
      push_cast
      omega
  have := h l 0 (by omega)
  unfold sumW
  omega
/-- The Roots of a right arena lead to objects of the half in use. -/
theorem ar_known {ws : List Int} {semi toh top : Int} {cyc : Bool} {scan old copied serial : Int} {y : Nat → Int} {rl : Nat} (hok : ArOk ws semi toh top cyc scan old copied serial y rl) :
    ∃ mk, Known mk ws cyc scan ∧ ∀ i, i < rl → isR (y (2 * i)) = true → isObj mk (leadsAt ws (y (2 * i + 1)).toNat).toNat := by
  obtain ⟨s0, s1, hl, t0, t1, hrl, h1, h2, hold⟩ := num_facts hok.1
  obtain ⟨g1, g2, g3, g4, g5⟩ := num_halves s0 s1 hl t0 t1 h1 h2
  obtain ⟨L, O, ht, _, hobj, _, hroots⟩ := hok.2
  have hlaid := ar_laid hok (S := (toh * semi + 1).toNat) (T := top.toNat) (F := ((1 - toh) * semi + 1).toNat) (by omega) (by omega) (by omega) ht
  have hk := ht.known hlaid.Tn hlaid.On hlaid.ap hobj
  refine ⟨mk2 ws L O, hk, fun i hi hr => ?_⟩
  obtain ⟨_, _, hlead⟩ := hroots i hi
  exact hk.leads _ (fromOk_ne (hlead hr).2.1)
/-- What the Roots lead to. -/
def rootF (y : Nat → Int) (i : Nat) : Int × Int := (y (2 * i), y (2 * i + 1))
theorem ar_reached {ws : List Int} {semi toh top : Int} {cyc : Bool} {scan old copied serial : Int} {y : Nat → Int} {rl : Nat} (hok : ArOk ws semi toh top cyc scan old copied serial y rl) :
    ∃ mk R, Known mk ws cyc scan ∧ Bfs ws 0 (comeN ws (rootF y) rl []) R ∧ Come mk R ∧ Come mk (comeN ws (rootF y) rl []) := by
  obtain ⟨mk, hk, hr⟩ := ar_known hok
  have hc := comeN_good (mk := mk) (ws := ws) (f := rootF y) rl (todo := []) ⟨by simp, by simp⟩ hr
  exact ⟨mk, _, hk, rfl, bfs_good hk _ 0 hc, hc⟩
end Go.Proofs.YtmckcnmlhgpnhaaGreat

/- What was come to, in memory: a row of marks, and a list that grows. -/
namespace Go.Proofs.YtmckcnmlhgpnhaaGreat
set_option maxRecDepth 20000
open Go.RowKit Go.Maps
set_option linter.unusedSimpArgs false
set_option linter.unusedVariables false

theorem infoBl : (Tryz.prog.info? 4).map (fun i => (i.zero, i.size, i.bytes)) = some (some (.bool false), 1, 1) := by kernel_rfl
theorem makeBools (l : Int) (h0 : 0 ≤ l) (h1 : l ≤ 1048576) (w : World) : (Instr.makeSlice 75 (.int .i64 l) (.int .i64 l)).run Tryz.prog w = .ok (.slice (some ⟨w.heap.size, 0, none⟩) l.toNat l.toNat) (w.alloc (.cells (madeCells #[.bool false] l.toNat) 4)) := by
  obtain ⟨i, hi, hzz⟩ := Option.map_eq_some_iff.1 infoBl
  simp only [Prod.mk.injEq] at hzz
  obtain ⟨hz, hs, hb⟩ := hzz
  have := run_make (P := Tryz.prog) w 75 4 i _ Tryz.underlying75 hi hz .i64 .i64 l l h0 (Int.le_refl _) (by rw [hb]; omega) (by omega)
  rw [hs, Nat.mul_one] at this
  exact this
/-- The marks of n words stand in the block bs, the list behind it; nothing below bs has turned since w0. -/
def Rst (bs n : Nat) (w0 w : World) (v : Value) (todo : List Nat) : Prop :=
  w.ownsRow (bs + 1) 3 1 v todo.length (cellsI todo) ∧ w.rowIs bs 4 n (fun i => .bool (decide (i ∈ todo))) ∧ Below bs w0 w
theorem Rst.lt {bs n : Nat} {w0 w : World} {v : Value} {todo : List Nat} (h : Rst bs n w0 w v todo) : bs < w.heap.size := h.2.1.lt
theorem Rst.below {bs n : Nat} {w0 w w' : World} {v : Value} {todo : List Nat} (h : Rst bs n w0 w v todo) (hb : Below w.heap.size w w') : Rst bs n w0 w' v todo :=
  ⟨World.ownsRow.kept h.1 (row := none) ⟨hb.os, hb.tape, hb.output, hb.size, fun k hk _ => hb.block k hk⟩ (by cases v.ownBlock <;> simp), h.2.1.of_block (hb.block _ h.lt), h.2.2.trans (hb.mono (Nat.le_of_lt h.lt))⟩
theorem Rst.marked {bs n : Nat} {w0 w : World} {v : Value} {todo : List Nat} (h : Rst bs n w0 w v todo) (p : Nat) (u : Value) : (w.setCell ⟨bs, p, none⟩ u).ownsRow (bs + 1) 3 1 v todo.length (cellsI todo) := by
  have hb := (Below.refl bs w).setCell (p := ⟨bs, p, none⟩) (Nat.le_refl _) u
  refine World.ownsRow.kept h.1 (row := some bs) ⟨hb.os, hb.tape, hb.output, hb.size, fun k _ hk => Below.heap_setCell _ _ _ _ (fun e => hk (by rw [e]))⟩ ?_
  rcases h.1.2 with ⟨rfl, _⟩ | ⟨g, cap, cur, rfl, hb, _⟩
  · exact .inl rfl
  · right
    simp [Value.ownBlock]
    omega
theorem Rst.put {bs n : Nat} {w0 w w' : World} {v v' : Value} {todo : List Nat} {o : Obj} (h : Rst bs n w0 w v todo) {p : Nat} (hp : p < n) (hn : p ∉ todo) (hown : w'.ownsRow (bs + 1) 3 1 v' (todo.length + 1) (cellsI todo ++ [.int .i64 (p : Int)])) (hg : ((w.setCell ⟨bs, p, none⟩ (.bool true)).alloc o).grownBy w' v.ownBlock) : Rst bs n w0 w' v' (todo ++ [p]) := by
  have hl := h.lt
  have hv : ∀ k, v.ownBlock = some k → bs + 1 ≤ k := fun k hk => by
    rcases h.1.2 with ⟨rfl, _⟩ | ⟨g, cap, cur, rfl, hb, _⟩
    · simp [Value.ownBlock] at hk
    · simp [Value.ownBlock] at hk
      omega
  refine ⟨by simpa [cellsI] using hown, ?_, ?_⟩
  · have h1 : ((w.setCell ⟨bs, p, none⟩ (.bool true)).alloc o).rowIs bs 4 n (fun i => .bool (decide (i ∈ todo ++ [p]))) := by
      refine World.rowIs.of_block (w := w.setCell ⟨bs, p, none⟩ (.bool true)) ((h.2.1.set p (.bool true)).congr fun i hi => ?_) (((Below.refl _ _).alloc (Nat.le_refl _) _).block _ (by simpa using hl))
      by_cases e : i = p
      · subst e; simp
      · simp [e]
    exact h1.of_block (hg.block _ (by simp; omega) (fun e => by have := hv bs e.symm; omega))
  · exact ((h.2.2.setCell (p := ⟨bs, p, none⟩) (Nat.le_refl _) (.bool true)).alloc (by simp; omega) o).grown hg (by simp; omega) (fun k hk => by have := hv k hk; omega)
/-- The i-th of the list, read. -/
theorem Rst.item {bs n : Nat} {w0 w : World} {v : Value} {todo : List Nat} (h : Rst bs n w0 w v todo) {i : Nat} (hi : i < todo.length) : ∃ g cap, v = .slice (some ⟨g, 0, none⟩) todo.length cap ∧ bs + 1 ≤ g ∧ g < w.heap.size ∧ w.cell? ⟨g, i, none⟩ = some (.int .i64 ((todo.getD i 0 : Nat) : Int)) := by
  obtain ⟨a, cap, rfl, hh⟩ := ownI_places h.1
  rcases hh with h0 | ⟨b, M, g, rfl, hB, hT, hm, hrow, hg⟩
  · omega
  · exact ⟨b, cap, rfl, hB, hT, by rw [hrow.cell (by omega), hg i hi]⟩
theorem Rst.head {bs n : Nat} {w0 w : World} {v : Value} {todo : List Nat} (h : Rst bs n w0 w v todo) : ∃ a cap, v = .slice a todo.length cap := by
  obtain ⟨a, cap, rfl, _⟩ := ownI_places h.1
  exact ⟨a, cap, rfl⟩
theorem comeP_no {ws : List Int} {todo : List Nat} {t m : Int} (h : isR t = false) : comeP ws todo t m = todo := by simp [comeP, h]
theorem comeP_in {ws : List Int} {todo : List Nat} {t m : Int} {q : Nat} (hq : (leadsAt ws m.toNat).toNat = q) (hm : q ∈ todo) : comeP ws todo t m = todo := by
  unfold comeP
  rw [hq]
  split <;> simp [hm]
theorem comeP_new {ws : List Int} {todo : List Nat} {t m : Int} {q : Nat} (hr : isR t = true) (hq : (leadsAt ws m.toNat).toNat = q) (hm : q ∉ todo) : comeP ws todo t m = todo ++ [q] := by
  unfold comeP
  rw [hq, if_pos hr, if_neg hm]
/-- The slots' numbers of an object, in a block that is not the list's own. -/
def SlR (bs : Nat) (asl : Option Addr) (N : Nat) (kk : Int) (w : World) (v : Value) : Prop :=
  N = 0 ∨ ∃ b M gg, asl = some ⟨b, 0, none⟩ ∧ N ≤ M ∧ w.rowIs b 3 M gg ∧ (∀ i, i < N → gg i = .int .i64 (fs kk + 2 * (i : Int))) ∧ bs < b ∧ v.ownBlock ≠ some b
theorem SlR.below {bs : Nat} {asl : Option Addr} {N : Nat} {kk : Int} {w w' : World} {v : Value} (h : SlR bs asl N kk w v) (hb : Below w.heap.size w w') : SlR bs asl N kk w' v := by
  rcases h with h | ⟨b, M, gg, h1, h2, h3, h4, h5, h6⟩
  · exact .inl h
  · exact .inr ⟨b, M, gg, h1, h2, h3.of_block (hb.block _ h3.lt), h4, h5, h6⟩
theorem SlR.put {bs : Nat} {asl : Option Addr} {N : Nat} {kk : Int} {w w' : World} {v v' : Value} {p : Nat} {o : Obj} (h : SlR bs asl N kk w v) (hg : ((w.setCell ⟨bs, p, none⟩ (.bool true)).alloc o).grownBy w' v.ownBlock) (hl : v'.ownBlock = v.ownBlock ∨ v'.ownBlock = some ((w.setCell ⟨bs, p, none⟩ (.bool true)).alloc o).heap.size) : SlR bs asl N kk w' v' := by
  rcases h with h | ⟨b, M, gg, h1, h2, h3, h4, h5, h6⟩
  · exact .inl h
  · have hlt := h3.lt
    refine .inr ⟨b, M, gg, h1, h2, ?_, h4, h5, ?_⟩
    · have e1 : ((w.setCell ⟨bs, p, none⟩ (.bool true)).alloc o).rowIs b 3 M gg := World.rowIs.of_block (w := w.setCell ⟨bs, p, none⟩ (.bool true)) (h3.setOther (a := ⟨bs, p, none⟩) (by dsimp only; omega) _) (((Below.refl _ _).alloc (Nat.le_refl _) _).block _ (by simpa using hlt))
      exact e1.of_block (hg.block _ (by simp; omega) (fun e => h6 e.symm))
    · rcases hl with g | g
      · rw [g]; exact h6
      · rw [g]
        intro e
        simp at e
        omega
theorem slot_inR {ws : List Int} {p j : Nat} (hr : rdOk (wordAt ws p) = true) (hj : j < slN (rdK (wordAt ws p)) (rdS (wordAt ws p))) : p < slotX ws p j ∧ slotX ws p j + 1 ≤ p + (rdS (wordAt ws p)).toNat := by
  have h1 := (slN_lt (rd_sOk hr) j).2 hj
  have h2 := fs_pos (rdK (wordAt ws p))
  have h3 := rdS_bound (wordAt ws p)
  unfold slotX
  omega
theorem getD_pre {td l : List Nat} {n : Nat} (h : n < td.length) : (td ++ l).getD n 0 = td.getD n 0 := by simp [List.getElem?_append_left h]
end Go.Proofs.YtmckcnmlhgpnhaaGreat

/- The steps that lead to what can be reached: a row of three numbers each, that grows beside a row of marks. -/
namespace Go.Proofs.YtmckcnmlhgpnhaaGreat
set_option maxRecDepth 20000
open Go.RowKit Go.Maps
set_option linter.unusedSimpArgs false
set_option linter.unusedVariables false

theorem infoSt : (Tryz.prog.info? 117).map (fun i => (i.zero, i.size, i.bytes)) = some (some (.agg #[.int .i64 0, .int .i64 0, .int .i64 0]), 3, 24) := by kernel_rfl
/-- Places of steps. -/
def plS (X : List (Nat × Int × Int)) : List Nat := X.map fun x => x.1
theorem plS_len (X : List (Nat × Int × Int)) : (plS X).length = X.length := by simp [plS]
theorem plS_get (X : List (Nat × Int × Int)) (i : Nat) : (plS X).getD i 0 = (X.getD i (0, 0, 0)).1 := by
  unfold plS
  by_cases h : i < X.length
  · simp [h]
  · simp [Nat.le_of_not_lt h]
theorem plS_snoc (X : List (Nat × Int × Int)) (x : Nat × Int × Int) : plS (X ++ [x]) = plS X ++ [x.1] := by simp [plS]
/-- A value that is come to, from the step fr by its slot sl. -/
def reachP (ws : List Int) (X : List (Nat × Int × Int)) (t m fr sl : Int) : List (Nat × Int × Int) :=
  if isR t = true then (if (leadsAt ws m.toNat).toNat ∈ plS X then X else X ++ [((leadsAt ws m.toNat).toNat, fr, sl)]) else X
theorem reachP_pl (ws : List Int) (X : List (Nat × Int × Int)) (t m fr sl : Int) : plS (reachP ws X t m fr sl) = comeP ws (plS X) t m := by
  unfold reachP comeP
  split
  · split
    · rfl
    · rw [plS_snoc]
  · rfl
theorem reachP_pre (ws : List Int) (X : List (Nat × Int × Int)) (t m fr sl : Int) : ∃ l, reachP ws X t m fr sl = X ++ l := by
  unfold reachP
  split
  · split
    · exact ⟨[], by simp⟩
    · exact ⟨_, rfl⟩
  · exact ⟨[], by simp⟩
theorem reachP_len (ws : List Int) (X : List (Nat × Int × Int)) (t m fr sl : Int) : (reachP ws X t m fr sl).length ≤ X.length + 1 := by
  unfold reachP
  split
  · split
    · omega
    · simp
  · omega
theorem reachP_no {ws : List Int} {X : List (Nat × Int × Int)} {t m fr sl : Int} (h : isR t = false) : reachP ws X t m fr sl = X := by simp [reachP, h]
theorem reachP_in {ws : List Int} {X : List (Nat × Int × Int)} {t m fr sl : Int} {q : Nat} (hq : (leadsAt ws m.toNat).toNat = q) (hm : q ∈ plS X) : reachP ws X t m fr sl = X := by
  unfold reachP
  rw [hq]
  split <;> simp [hm]
theorem reachP_new {ws : List Int} {X : List (Nat × Int × Int)} {t m fr sl : Int} {q : Nat} (hr : isR t = true) (hq : (leadsAt ws m.toNat).toNat = q) (hm : q ∉ plS X) : reachP ws X t m fr sl = X ++ [(q, fr, sl)] := by
  unfold reachP
  rw [hq, if_pos hr, if_neg hm]
/-- The first k of some values. -/
def reachN (ws : List Int) (f : Nat → Int × Int) (fr : Int) (sl : Nat → Int) : Nat → List (Nat × Int × Int) → List (Nat × Int × Int)
  | 0, X => X
  | k + 1, X => reachP ws (reachN ws f fr sl k X) (f k).1 (f k).2 fr (sl k)
theorem reachN_pl (ws : List Int) (f : Nat → Int × Int) (fr : Int) (sl : Nat → Int) : ∀ (k : Nat) (X : List (Nat × Int × Int)), plS (reachN ws f fr sl k X) = comeN ws f k (plS X)
  | 0, X => rfl
  | k + 1, X => by
    show plS (reachP _ _ _ _ _ _) = comeP _ _ _ _
    rw [reachP_pl, reachN_pl ws f fr sl k X]
theorem reachN_pre (ws : List Int) (f : Nat → Int × Int) (fr : Int) (sl : Nat → Int) : ∀ (k : Nat) (X : List (Nat × Int × Int)), ∃ l, reachN ws f fr sl k X = X ++ l
  | 0, X => ⟨[], by simp [reachN]⟩
  | k + 1, X => by
    obtain ⟨l, hl⟩ := reachN_pre ws f fr sl k X
    obtain ⟨l2, hl2⟩ := reachP_pre ws (reachN ws f fr sl k X) (f k).1 (f k).2 fr (sl k)
    exact ⟨l ++ l2, by show reachP ws (reachN ws f fr sl k X) (f k).1 (f k).2 fr (sl k) = _; rw [hl2, hl]; simp⟩
/-- Behind all slots of the object that the step i leads to. -/
def goneS (ws : List Int) (p : Nat) (i : Nat) (X : List (Nat × Int × Int)) : List (Nat × Int × Int) := reachN ws (slotF ws p) (i : Int) (fun j => (j : Int)) (slN (rdK (wordAt ws p)) (rdS (wordAt ws p))) X
theorem goneS_pl (ws : List Int) (p i : Nat) (X : List (Nat × Int × Int)) : plS (goneS ws p i X) = goneOver ws p (plS X) := reachN_pl ..
/-- From step i on; d: how many may be left. -/
def bfsS (ws : List Int) : Nat → Nat → List (Nat × Int × Int) → List (Nat × Int × Int)
  | 0, _, X => X
  | d + 1, i, X => if i < X.length then bfsS ws d (i + 1) (goneS ws (X.getD i (0, 0, 0)).1 i X) else X
/-- From step i on, all steps in the end are R. -/
def BfsS (ws : List Int) (i : Nat) (X R : List (Nat × Int × Int)) : Prop := bfsS ws (ws.length - i) i X = R
theorem BfsS.done {ws : List Int} {i : Nat} {X R : List (Nat × Int × Int)} (h : BfsS ws i X R) (hi : ¬ i < X.length) : R = X := by
  unfold BfsS at h
  cases hd : ws.length - i with
  | zero => rw [hd] at h; exact h.symm
  | succ d => rw [hd] at h; simp only [bfsS, if_neg hi] at h; exact h.symm
theorem BfsS.step {ws : List Int} {i : Nat} {X R : List (Nat × Int × Int)} (h : BfsS ws i X R) (hi : i < X.length) (hl : X.length ≤ ws.length) : BfsS ws (i + 1) (goneS ws (X.getD i (0, 0, 0)).1 i X) R := by
  unfold BfsS at h ⊢
  obtain ⟨d, hd⟩ : ∃ d, ws.length - i = d + 1 := ⟨ws.length - i - 1, by omega⟩
  rw [hd] at h
  simp only [bfsS, if_pos hi] at h
  rw [show ws.length - (i + 1) = d by omega]
  exact h
/-- The places of what is come to by steps are what is come to. -/
theorem bfsS_pl (ws : List Int) : ∀ (d i : Nat) (X : List (Nat × Int × Int)), plS (bfsS ws d i X) = bfs ws d i (plS X)
  | 0, _, _ => rfl
  | d + 1, i, X => by
    simp only [bfsS, bfs, plS_len]
    split
    · rw [bfsS_pl ws d (i + 1), goneS_pl, plS_get]
    · rfl
/-- The cells of steps. -/
def c3 (X : List (Nat × Int × Int)) : List Value := X.flatMap fun x => [.int .i64 (x.1 : Int), .int .i64 x.2.1, .int .i64 x.2.2]
theorem c3_snoc (X : List (Nat × Int × Int)) (x : Nat × Int × Int) : c3 (X ++ [x]) = c3 X ++ [.int .i64 (x.1 : Int), .int .i64 x.2.1, .int .i64 x.2.2] := by simp [c3]
theorem c3_len (X : List (Nat × Int × Int)) : (c3 X).length = X.length * 3 := by
  induction X with
  | nil => rfl
  | cons x X ih => simp only [c3, List.flatMap_cons, List.length_append, List.length_cons, List.length_nil] at ih ⊢; omega
theorem c3_at : ∀ (X : List (Nat × Int × Int)) (i : Nat), i < X.length → (c3 X)[i * 3]? = some (.int .i64 ((X.getD i (0, 0, 0)).1 : Int)) ∧ (c3 X)[i * 3 + 1]? = some (.int .i64 (X.getD i (0, 0, 0)).2.1) ∧ (c3 X)[i * 3 + 2]? = some (.int .i64 (X.getD i (0, 0, 0)).2.2)
  | [], i, h => by simp at h
  | x :: X, 0, h => ⟨rfl, rfl, rfl⟩
  | x :: X, i + 1, h => by
    have ih := c3_at X i (by simp only [List.length_cons] at h; omega)
    have e : c3 (x :: X) = .int .i64 (x.1 : Int) :: .int .i64 x.2.1 :: .int .i64 x.2.2 :: c3 X := rfl
    rw [e, show (i + 1) * 3 = i * 3 + 1 + 1 + 1 by omega]
    exact ⟨ih.1, ih.2.1, ih.2.2⟩
/-- The marks of n words stand in the block bs, the steps behind it; nothing below bs has turned since w0. -/
def RstS (bs n : Nat) (w0 w : World) (v : Value) (X : List (Nat × Int × Int)) : Prop :=
  w.ownsRow (bs + 1) 117 3 v X.length (c3 X) ∧ w.rowIs bs 4 n (fun i => .bool (decide (i ∈ plS X))) ∧ Below bs w0 w
theorem RstS.lt {bs n : Nat} {w0 w : World} {v : Value} {X : List (Nat × Int × Int)} (h : RstS bs n w0 w v X) : bs < w.heap.size := h.2.1.lt
theorem RstS.below {bs n : Nat} {w0 w w' : World} {v : Value} {X : List (Nat × Int × Int)} (h : RstS bs n w0 w v X) (hb : Below w.heap.size w w') : RstS bs n w0 w' v X :=
  ⟨World.ownsRow.kept h.1 (row := none) ⟨hb.os, hb.tape, hb.output, hb.size, fun k hk _ => hb.block k hk⟩ (by cases v.ownBlock <;> simp), h.2.1.of_block (hb.block _ h.lt), h.2.2.trans (hb.mono (Nat.le_of_lt h.lt))⟩
theorem RstS.marked {bs n : Nat} {w0 w : World} {v : Value} {X : List (Nat × Int × Int)} (h : RstS bs n w0 w v X) (p : Nat) (u : Value) : (w.setCell ⟨bs, p, none⟩ u).ownsRow (bs + 1) 117 3 v X.length (c3 X) := by
  have hb := (Below.refl bs w).setCell (p := ⟨bs, p, none⟩) (Nat.le_refl _) u
  refine World.ownsRow.kept h.1 (row := some bs) ⟨hb.os, hb.tape, hb.output, hb.size, fun k _ hk => Below.heap_setCell _ _ _ _ (fun e => hk (by rw [e]))⟩ ?_
  rcases h.1.2 with ⟨rfl, _⟩ | ⟨g, cap, cur, rfl, hb, _⟩
  · exact .inl rfl
  · right
    simp [Value.ownBlock]
    omega
theorem RstS.put {bs n : Nat} {w0 w w' : World} {v v' : Value} {X : List (Nat × Int × Int)} {o : Obj} (h : RstS bs n w0 w v X) {p : Nat} {fr sl : Int} (hp : p < n) (hn : p ∉ plS X) (hown : w'.ownsRow (bs + 1) 117 3 v' (X.length + 1) (c3 X ++ [.int .i64 (p : Int), .int .i64 fr, .int .i64 sl])) (hg : ((w.setCell ⟨bs, p, none⟩ (.bool true)).alloc o).grownBy w' v.ownBlock) : RstS bs n w0 w' v' (X ++ [(p, fr, sl)]) := by
  have hl := h.lt
  have hv : ∀ k, v.ownBlock = some k → bs + 1 ≤ k := fun k hk => by
    rcases h.1.2 with ⟨rfl, _⟩ | ⟨g, cap, cur, rfl, hb, _⟩
    · simp [Value.ownBlock] at hk
    · simp [Value.ownBlock] at hk
      omega
  refine ⟨by rw [c3_snoc]; simpa using hown, ?_, ?_⟩
  · have h1 : ((w.setCell ⟨bs, p, none⟩ (.bool true)).alloc o).rowIs bs 4 n (fun i => .bool (decide (i ∈ plS (X ++ [(p, fr, sl)])))) := by
      refine World.rowIs.of_block (w := w.setCell ⟨bs, p, none⟩ (.bool true)) ((h.2.1.set p (.bool true)).congr fun i hi => ?_) (((Below.refl _ _).alloc (Nat.le_refl _) _).block _ (by simpa using hl))
      rw [plS_snoc]
      by_cases e : i = p
      · subst e; simp
      · simp [e]
    exact h1.of_block (hg.block _ (by simp; omega) (fun e => by have := hv bs e.symm; omega))
  · exact ((h.2.2.setCell (p := ⟨bs, p, none⟩) (Nat.le_refl _) (.bool true)).alloc (by simp; omega) o).grown hg (by simp; omega) (fun k hk => by have := hv k hk; omega)
/-- The i-th step's place, read. -/
theorem RstS.item {bs n : Nat} {w0 w : World} {v : Value} {X : List (Nat × Int × Int)} (h : RstS bs n w0 w v X) {i : Nat} (hi : i < X.length) : ∃ g cap, v = .slice (some ⟨g, 0, none⟩) X.length cap ∧ bs + 1 ≤ g ∧ g < w.heap.size ∧ w.cell? ⟨g, i * 3, none⟩ = some (.int .i64 (((plS X).getD i 0 : Nat) : Int)) := by
  obtain ⟨h1, h2⟩ := h.1
  rcases h2 with ⟨_, h0⟩ | ⟨g, cap, cur, rfl, hg, hc, hn, hcap, hs, hx⟩
  · omega
  · have lg : g < w.heap.size := (Array.getElem?_eq_some_iff.1 hc).1
    refine ⟨g, cap, rfl, hg, lg, ?_⟩
    rw [h.1.cellAt (i * 3) (by omega), (c3_at X i hi).1, plS_get]
theorem RstS.head {bs n : Nat} {w0 w : World} {v : Value} {X : List (Nat × Int × Int)} (h : RstS bs n w0 w v X) : ∃ a cap, v = .slice a X.length cap := by
  rcases h.1.2 with ⟨rfl, h0⟩ | ⟨g, cap, cur, rfl, _⟩
  · exact ⟨none, 0, by rw [h0]⟩
  · exact ⟨_, _, rfl⟩
end Go.Proofs.YtmckcnmlhgpnhaaGreat
