/- A drawn value: two numbers of 64 bits; of what was there only the cursor has turned. -/
import Derived.Test.YthoncomjemknnaaProg
import Derived.Test.YthoncomjemknnaaWordD
import Derived.WalkKit
import Derived.WalkSpells
import Derived.WalkLawsBesides
import Derived.Below
import Derived.Outline
import Derived.Deep.Light
import Derived.Deep.CutRange
import Derived.Deep.CutBlock
import Derived.Deep.RegionWith
namespace Go.Proofs.Ythoncomjemknnaa
set_option maxRecDepth 20000
open Go.RowKit
set_option linter.unusedSimpArgs false
set_option linter.unusedVariables false

def in64 (x : Int) : Bool := decide (-9223372036854775808 ≤ x ∧ x ≤ 9223372036854775807)
theorem in64_of {x : Int} (h : in64 x = true) : -9223372036854775808 ≤ x ∧ x ≤ 9223372036854775807 := by simpa [in64] using h
theorem in64_mk {x : Int} (h0 : 0 ≤ x) (h1 : x ≤ 1000000000) : in64 x = true := by simp [in64]; omega
/-- As 'HD', for a struct of two integers that fit 64 bits. -/
def HV (w wc : World) (b c : Nat) (v : Value) : Prop :=
  Cur wc b v ∧ But b w wc ∧ w.heap.size ≤ c ∧ b < w.heap.size ∧ ∃ x y : Int, in64 x = true ∧ in64 y = true ∧ wc.rowIs c 26 2 (ints [x, y])
theorem HV.set0 {w wc : World} {b c : Nat} {v : Value} (h : HV w wc b c v) (z : Int) (hz : in64 z = true) : HV w (wc.setCell ⟨c, 0, none⟩ (.int .i64 z)) b c v := by
  obtain ⟨C, B, hc, hb, x, y, hx, hy, hr⟩ := h
  refine ⟨C.keep fun k hk => Go.Deep.blk_setCell_other _ _ _ _ (show k ≠ c by omega), B.setNew hc _, hc, hb, z, y, hz, hy, (hr.set 0 _).congr fun i hi => ?_⟩
  have : i = 0 ∨ i = 1 := by omega
  rcases this with rfl | rfl <;> simp [ints]
theorem HV.set1 {w wc : World} {b c : Nat} {v : Value} (h : HV w wc b c v) (z : Int) (hz : in64 z = true) : HV w (wc.setCell ⟨c, 1, none⟩ (.int .i64 z)) b c v := by
  obtain ⟨C, B, hc, hb, x, y, hx, hy, hr⟩ := h
  refine ⟨C.keep fun k hk => Go.Deep.blk_setCell_other _ _ _ _ (show k ≠ c by omega), B.setNew hc _, hc, hb, x, z, hx, hz, (hr.set 1 _).congr fun i hi => ?_⟩
  have : i = 0 ∨ i = 1 := by omega
  rcases this with rfl | rfl <;> simp [ints]
theorem HV.call {w wc w' : World} {b c : Nat} {v : Value} (h : HV w wc b c v) (C' : Cur w' b v) (B' : But b wc w') : HV w w' b c v := by
  obtain ⟨C, B, hc, hb, x, y, hx, hy, hr⟩ := h
  exact ⟨C', B.trans B', hc, hb, x, y, hx, hy, hr.of_block (B'.block c hr.lt (by omega))⟩
theorem HV.alloc {w wc : World} {b c : Nat} {v : Value} (h : HV w wc b c v) (o : Obj) : HV w (wc.alloc o) b c v := by
  obtain ⟨C, B, hc, hb, x, y, hx, hy, hr⟩ := h
  exact ⟨C.below ((Below.refl _ _).alloc (Nat.le_refl _) _), B.alloc o, hc, hb, x, y, hx, hy, hr.alloc o⟩
theorem HV.cells {w wc : World} {b c : Nat} {v : Value} (h : HV w wc b c v) :
    ∃ k s : Int, in64 k = true ∧ in64 s = true ∧ wc.cell? ⟨c, 0, none⟩ = some (.int .i64 k) ∧ wc.cell? ⟨c, 1, none⟩ = some (.int .i64 s) ∧ wc.frozen? ⟨c, 0, none⟩ = false ∧ wc.frozen? ⟨c, 1, none⟩ = false := by
  obtain ⟨C, B, hc, hb, x, y, hx, hy, hr⟩ := h
  exact ⟨x, y, hx, hy, hr.cell (i := 0) (by omega), hr.cell (i := 1) (by omega), hr.frozen 0, hr.frozen 1⟩
theorem HV.pick {w wc : World} {b c : Nat} {v : Value} (h : HV w wc b c v) (xs : List Int) (E : TypeId) (bl n : Nat) (cs : Array Value) (hbl : bl = wc.heap.size) (hcs : cs = (xs.map (Value.int .i64)).toArray) (hn : n = xs.length) (hm : 1 ≤ xs.length) (hm2 : xs.length ≤ 256) (hin : xs.all in64 = true) :
    Calls Try.prog 27 #[.pointer (some ⟨b, 0, none⟩), .slice (some ⟨bl, 0, none⟩) n n] (wc.alloc (.cells cs E)) fun e w' => ∃ x, e = .returned (.int .i64 x) ∧ in64 x = true ∧ HV w w' b c v := by
  subst hbl hcs hn
  refine (l1PickInt_any b v wc.heap.size xs.length xs.length (fun j => xs.getD j 0) _ (h.alloc _).1 (fun j hj => lit_cells wc xs E j hj) (by simp) (by have := h.1.lt; omega) hm hm2).mono ?_
  rintro e w' ⟨x, rfl, ⟨j, hj, rfl⟩, C', B'⟩
  refine ⟨_, rfl, ?_, (h.alloc _).call C' B'⟩
  have := List.all_eq_true.1 hin (xs[j]'hj) (List.getElem_mem hj)
  simpa [hj] using this
theorem HV.under {w wc : World} {b c : Nat} {v : Value} (h : HV w wc b c v) (n : Int) (hn : 1 ≤ n) (hn2 : n ≤ 1000000000) :
    Calls Try.prog 18 #[.pointer (some ⟨b, 0, none⟩), .int .i64 n] wc fun e w' => ∃ x, e = .returned (.int .i64 x) ∧ (0 ≤ x ∧ x < n) ∧ HV w w' b c v := by
  refine (l1Below_any b v n _ h.1 hn hn2).mono ?_
  rintro e w' ⟨x, rfl, hx, C', B'⟩
  exact ⟨x, rfl, hx, h.call C' B'⟩
theorem HV.once {w wc : World} {b c : Nat} {v : Value} (h : HV w wc b c v) (n : Int) (hn : 1 ≤ n) (hn2 : n ≤ 1000000000) :
    Calls Try.prog 29 #[.pointer (some ⟨b, 0, none⟩), .int .i64 n] wc fun e w' => ∃ q, e = .returned (.bool q) ∧ HV w w' b c v := by
  refine (l1Once_any b v n _ h.1 hn hn2).mono ?_
  rintro e w' ⟨x, rfl, C', B'⟩
  exact ⟨x, rfl, h.call C' B'⟩

set_option maxHeartbeats 1000000 in
theorem l1Val_any (b : Nat) (v : Value) (w : World) (hcur : Cur w b v) :
    Calls Try.prog 19 #[.pointer (some ⟨b, 0, none⟩)] w fun e w' => ∃ t n, e = .returned (.agg #[.int .i64 t, .int .i64 n]) ∧ in64 t = true ∧ in64 n = true ∧ Cur w' b v ∧ But b w w' := by
  have hbw := hcur.lt
  go_enter Try.func19, Try.ntmps19
  go_wp2_with fail
  refine (l1Below_any b v 10 _ (hcur.below ((Below.refl _ _).alloc (Nat.le_refl _) _)) (by omega) (by omega)).mono ?_
  rintro e w1 ⟨x, rfl, ⟨hx0, hx1⟩, C1, B1⟩
  have hB1 := B1.size
  have D : HV (w.alloc (.cells #[.int .i64 0, .int .i64 0] 26)) (w1.alloc (.cells #[.int .i64 x, .int .i64 0] 26)) b w1.heap.size v :=
    ⟨C1.below ((Below.refl _ _).alloc (Nat.le_refl _) _), B1.alloc _, hB1, by simp; omega, x, 0, in64_mk hx0 (by omega), by decide, World.rowIs_alloc w1 _ _ _ fun i hi => by
      have : i = 0 ∨ i = 1 := by simp at hi; omega
      rcases this with rfl | rfl <;> simp [ints]⟩
  go_upto_block 0 with fail
  go_cut [] from 9 to 31 (fun wc => HV (w.alloc (.cells #[.int .i64 0, .int .i64 0] 26)) wc b w1.heap.size v)
  case first =>
    go_wp2_with (first | (go_at_call 18; refine (HV.under D _ (by decide) (by decide)).mono ?_; rintro e w' ⟨y, rfl, hy, D⟩; obtain ⟨k, s, i1, i2, q0, q1, g0, g1⟩ := D.cells) | (go_at_call 27; refine (HV.pick D [0, 1, -1, 7, 9223372036854775807, -9223372036854775808, 123456] 3 _ _ _ (by simp) rfl rfl (by decide) (by decide) (by decide)).mono ?_; rintro e w' ⟨y, rfl, hy, D⟩; obtain ⟨k, s, i1, i2, q0, q1, g0, g1⟩ := D.cells))
    all_goals (go_meet; first | exact D | exact HV.set1 D _ (by first | assumption | exact in64_mk (by omega) (by omega)))
  case rest =>
  clear D
  have D := hcut
  clear hcut
  go_wp2_with fail
  refine (HV.once D 8 (by decide) (by decide)).mono ?_
  rintro e w3 ⟨q, rfl, D⟩
  obtain ⟨k, s, i1, i2, q0, q1, g0, g1⟩ := D.cells
  go_upto_if 33 with fail
  go_cut [] from 34 to 37 (fun wc => HV (w.alloc (.cells #[.int .i64 0, .int .i64 0] 26)) wc b w1.heap.size v)
  case first =>
    cases q
    · go_wp2_with fail
      go_meet
      exact D
    · go_wp2_with (go_at_call 27; refine (HV.pick D [0, -1, 2, 21, 1] 3 _ _ _ (by simp) rfl rfl (by decide) (by decide) (by decide)).mono ?_; rintro e w' ⟨y, rfl, hy, D⟩; obtain ⟨k, s, i1, i2, q0, q1, g0, g1⟩ := D.cells)
      go_meet
      exact HV.set1 D _ hy
  case rest =>
  clear D q0 q1 g0 g1
  have D := hcut
  clear hcut
  go_wp2_with fail
  refine (HV.once D 12 (by decide) (by decide)).mono ?_
  rintro e w5 ⟨p, rfl, D⟩
  obtain ⟨k, s, i1, i2, q0, q1, g0, g1⟩ := D.cells
  go_upto_if 39 with fail
  go_cut [] from 40 to 43 (fun wc => HV (w.alloc (.cells #[.int .i64 0, .int .i64 0] 26)) wc b w1.heap.size v)
  case first =>
    cases p
    · go_wp2_with fail
      go_meet
      exact D
    · go_wp2_with (go_at_call 27; refine (HV.pick D [-1, 10, 99] 3 _ _ _ (by simp) rfl rfl (by decide) (by decide) (by decide)).mono ?_; rintro e w' ⟨y, rfl, hy, D⟩; obtain ⟨k, s, i1, i2, q0, q1, g0, g1⟩ := D.cells)
      go_meet
      exact HV.set0 D _ hy
  case rest =>
  clear D q0 q1 g0 g1
  have D := hcut
  clear hcut
  obtain ⟨k, s, i1, i2, q0, q1, g0, g1⟩ := D.cells
  have r0 := fun o => D.2.1.cell (c := w.heap.size) (o := o) (by simp) (by omega)
  have r1 := fun o => D.2.1.frozen (c := w.heap.size) (o := o) (by simp) (by omega)
  go_wp2
  have p0 : (wc.cell? ⟨w.heap.size, 0, none⟩).isSome = true := by rw [r0]; simp [go_sem]
  have p1 : (wc.cell? ⟨w.heap.size, 1, none⟩).isSome = true := by rw [r0]; simp [go_sem]
  have Bw : But b w wc := ((But.refl b w).alloc _).trans D.2.1
  refine bodyPost_ret (v := .agg #[.int .i64 k, .int .i64 s]) (by simp [results, Try.results19, go_sem, p0, p1]) rfl ⟨k, s, rfl, i1, i2, cur_set (cur_set D.1 (by omega) _) (by omega) _, (Bw.setNew (Nat.le_refl _) _).setNew (Nat.le_refl _) _⟩
end Go.Proofs.Ythoncomjemknnaa
