/- A drawn head: some three numbers; of what was there only the cursor has turned. -/
import Derived.Test.YthoncomjemknnaaProg
import Derived.Test.YthoncomjemknnaaDrawA
import Derived.WalkKit
import Derived.WalkSpells
import Derived.WalkLawsBesides
import Derived.Below
import Derived.Outline
import Derived.Deep.Light
import Derived.Deep.CutRange
import Derived.Deep.CutBlock
import Derived.Deep.RegionWith
namespace Go.Proofs.Ythoncomjemknnaa
set_option maxRecDepth 20000
open Go.RowKit
set_option linter.unusedSimpArgs false
set_option linter.unusedVariables false

def ints (xs : List Int) (j : Nat) : Value := .int .i64 (xs.getD j 0)
/-- Within a draw that began in w: the cursor stands at b, of what was there only the cursor has turned, and at c (newer than w) lies a struct of m integers of type T. -/
def HD (T : TypeId) (m : Nat) (w wc : World) (b c : Nat) (v : Value) : Prop :=
  Cur wc b v ∧ But b w wc ∧ w.heap.size ≤ c ∧ b < w.heap.size ∧ ∃ xs : List Int, xs.length = m ∧ wc.rowIs c T m (ints xs)
theorem HD.set {T : TypeId} {m : Nat} {w wc : World} {b c : Nat} {v : Value} (h : HD T m w wc b c v) (j : Nat) (x : Int) : HD T m w (wc.setCell ⟨c, j, none⟩ (.int .i64 x)) b c v := by
  obtain ⟨C, B, hc, hb, xs, hl, hr⟩ := h
  refine ⟨C.keep fun k hk => Go.Deep.blk_setCell_other _ _ _ _ (show k ≠ c by omega), B.setNew hc _, hc, hb, xs.set j x, by simpa using hl, (hr.set j _).congr fun i hi => ?_⟩
  unfold ints
  by_cases e : i = j
  · subst e; simp [show i < xs.length by omega]
  · have e' : ¬ j = i := fun h => e h.symm
    simp [e, e']
theorem HD.call {T : TypeId} {m : Nat} {w wc w' : World} {b c : Nat} {v : Value} (h : HD T m w wc b c v) (C' : Cur w' b v) (B' : But b wc w') : HD T m w w' b c v := by
  obtain ⟨C, B, hc, hb, xs, hl, hr⟩ := h
  exact ⟨C', B.trans B', hc, hb, xs, hl, hr.of_block (B'.block c hr.lt (by omega))⟩
theorem HD.alloc {T : TypeId} {m : Nat} {w wc : World} {b c : Nat} {v : Value} (h : HD T m w wc b c v) (o : Obj) : HD T m w (wc.alloc o) b c v := by
  obtain ⟨C, B, hc, hb, xs, hl, hr⟩ := h
  exact ⟨C.below ((Below.refl _ _).alloc (Nat.le_refl _) _), B.alloc o, hc, hb, xs, hl, hr.alloc o⟩
theorem HD.drewN {T : TypeId} {m : Nat} {w wc : World} {b c : Nat} {v : Value} (h : HD T m w wc b c v) (n : Nat) : HD T m w (wc.drewN n) b c v := by
  obtain ⟨C, B, hc, hb, xs, hl, hr⟩ := h
  exact ⟨C.keep fun _ _ => rfl, B.drewN n, hc, hb, xs, hl, hr⟩
theorem HD.drew {T : TypeId} {m : Nat} {w wc : World} {b c : Nat} {v : Value} (h : HD T m w wc b c v) : HD T m w wc.drew b c v := by
  obtain ⟨C, B, hc, hb, xs, hl, hr⟩ := h
  exact ⟨C.keep fun _ _ => rfl, ⟨B.os, B.tape, B.output, B.size, B.block⟩, hc, hb, xs, hl, hr⟩
theorem HD.cells3 {T : TypeId} {w wc : World} {b c : Nat} {v : Value} (h : HD T 3 w wc b c v) :
    ∃ k s n : Int, wc.cell? ⟨c, 0, none⟩ = some (.int .i64 k) ∧ wc.cell? ⟨c, 1, none⟩ = some (.int .i64 s) ∧ wc.cell? ⟨c, 2, none⟩ = some (.int .i64 n) ∧ wc.frozen? ⟨c, 0, none⟩ = false ∧ wc.frozen? ⟨c, 1, none⟩ = false ∧ wc.frozen? ⟨c, 2, none⟩ = false := by
  obtain ⟨C, B, hc, hb, xs, hl, hr⟩ := h
  exact ⟨_, _, _, hr.cell (i := 0) (by omega), hr.cell (i := 1) (by omega), hr.cell (i := 2) (by omega), hr.frozen 0, hr.frozen 1, hr.frozen 2⟩
theorem HD.cells2 {T : TypeId} {w wc : World} {b c : Nat} {v : Value} (h : HD T 2 w wc b c v) :
    ∃ k s : Int, wc.cell? ⟨c, 0, none⟩ = some (.int .i64 k) ∧ wc.cell? ⟨c, 1, none⟩ = some (.int .i64 s) ∧ wc.frozen? ⟨c, 0, none⟩ = false ∧ wc.frozen? ⟨c, 1, none⟩ = false := by
  obtain ⟨C, B, hc, hb, xs, hl, hr⟩ := h
  exact ⟨_, _, hr.cell (i := 0) (by omega), hr.cell (i := 1) (by omega), hr.frozen 0, hr.frozen 1⟩
theorem lit_cells (w : World) (xs : List Int) (T : TypeId) (j : Nat) (hj : j < xs.length) : (w.alloc (.cells (xs.map (Value.int .i64)).toArray T)).cell? ⟨w.heap.size, j, none⟩ = some (.int .i64 (xs.getD j 0)) := by
  rw [World.cell?_alloc_new]
  simp [hj]
theorem HD.pick {T : TypeId} {m : Nat} {w wc : World} {b c : Nat} {v : Value} (h : HD T m w wc b c v) (xs : List Int) (E : TypeId) (bl n : Nat) (cs : Array Value) (hbl : bl = wc.heap.size) (hcs : cs = (xs.map (Value.int .i64)).toArray) (hn : n = xs.length) (hm : 1 ≤ xs.length) (hm2 : xs.length ≤ 256) :
    Calls Try.prog 27 #[.pointer (some ⟨b, 0, none⟩), .slice (some ⟨bl, 0, none⟩) n n] (wc.alloc (.cells cs E)) fun e w' => ∃ x, e = .returned (.int .i64 x) ∧ HD T m w w' b c v := by
  subst hbl hcs hn
  refine (l1PickInt_any b v wc.heap.size xs.length xs.length (fun j => xs.getD j 0) _ (h.alloc _).1 (fun j hj => lit_cells wc xs E j hj) (by simp) (by have := h.1.lt; omega) hm hm2).mono ?_
  rintro e w' ⟨x, rfl, _, C', B'⟩
  exact ⟨x, rfl, (h.alloc _).call C' B'⟩
theorem HD.under {T : TypeId} {m : Nat} {w wc : World} {b c : Nat} {v : Value} (h : HD T m w wc b c v) (n : Int) (hn : 1 ≤ n) (hn2 : n ≤ 1000000000) :
    Calls Try.prog 18 #[.pointer (some ⟨b, 0, none⟩), .int .i64 n] wc fun e w' => ∃ x, e = .returned (.int .i64 x) ∧ (0 ≤ x ∧ x < n) ∧ HD T m w w' b c v := by
  refine (l1Below_any b v n _ h.1 hn hn2).mono ?_
  rintro e w' ⟨x, rfl, hx, C', B'⟩
  exact ⟨x, rfl, hx, h.call C' B'⟩
theorem HD.once {T : TypeId} {m : Nat} {w wc : World} {b c : Nat} {v : Value} (h : HD T m w wc b c v) (n : Int) (hn : 1 ≤ n) (hn2 : n ≤ 1000000000) :
    Calls Try.prog 29 #[.pointer (some ⟨b, 0, none⟩), .int .i64 n] wc fun e w' => ∃ q, e = .returned (.bool q) ∧ HD T m w w' b c v := by
  refine (l1Once_any b v n _ h.1 hn hn2).mono ?_
  rintro e w' ⟨x, rfl, C', B'⟩
  exact ⟨x, rfl, h.call C' B'⟩

theorem cur_set {w : World} {b c j : Nat} {v : Value} (h : Cur w b v) (hc : b < c) (x : Value) : Cur (w.setCell ⟨c, j, none⟩ x) b v :=
  h.keep fun k hk => Go.Deep.blk_setCell_other _ _ _ _ (show k ≠ c by omega)
theorem cur_three {w : World} {b c : Nat} {v : Value} (h : Cur w b v) (hc : b < c) (x y z : Value) : Cur (((w.setCell ⟨c, 0, none⟩ x).setCell ⟨c, 1, none⟩ y).setCell ⟨c, 2, none⟩ z) b v :=
  cur_set (cur_set (cur_set h hc x) hc y) hc z

end Go.Proofs.Ythoncomjemknnaa
