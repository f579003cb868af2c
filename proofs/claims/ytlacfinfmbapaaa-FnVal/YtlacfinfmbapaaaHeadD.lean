/- A drawn head: some three numbers; of what was there only the cursor has turned. -/
import Derived.Test.YtlacfinfmbapaaaProg
import Derived.Test.YtlacfinfmbapaaaDrawA
import Derived.WalkKit
import Derived.WalkSpells
import Derived.WalkLawsBesides
import Derived.Below
import Derived.Outline
import Derived.Deep.Light
import Derived.Deep.CutRange
import Derived.Deep.CutBlock
import Derived.Deep.RegionWith
namespace Go.Proofs.Ytlacfinfmbapaaa
open Go.RowKit
set_option linter.unusedSimpArgs false
set_option linter.unusedVariables false

def ints (xs : List Int) (j : Nat) : Value := .int .i64 (xs.getD j 0)
/-- Within a draw that began in w: the cursor stands at b, of what was there only the cursor has turned, and at c (newer than w) lies a struct of m integers of type T. -/
def HD (T : TypeId) (m : Nat) (w wc : World) (b c : Nat) (v : Value) : Prop :=
  Cur wc b v ∧ But b w wc ∧ w.heap.size ≤ c ∧ b < w.heap.size ∧ ∃ xs : List Int, xs.length = m ∧ wc.rowIs c T m (ints xs)
theorem HD.set {T : TypeId} {m : Nat} {w wc : World} {b c : Nat} {v : Value} (h : HD T m w wc b c v) (j : Nat) (x : Int) : HD T m w (wc.setCell ⟨c, j, none⟩ (.int .i64 x)) b c v := by
  obtain ⟨C, B, hc, hb, xs, hl, hr⟩ := h
  refine ⟨C.keep fun k hk => Go.Deep.blk_setCell_other _ _ _ _ (show k ≠ c by omega), B.setNew hc _, hc, hb, xs.set j x, by simpa using hl, (hr.set j _).congr fun i hi => ?_⟩
  unfold ints
  by_cases e : i = j
  · subst e; simp [show i < xs.length by omega]
  · have e' : ¬ j = i := fun h => e h.symm
    simp [e, e']
theorem HD.call {T : TypeId} {m : Nat} {w wc w' : World} {b c : Nat} {v : Value} (h : HD T m w wc b c v) (C' : Cur w' b v) (B' : But b wc w') : HD T m w w' b c v := by
  obtain ⟨C, B, hc, hb, xs, hl, hr⟩ := h
  exact ⟨C', B.trans B', hc, hb, xs, hl, hr.of_block (B'.block c hr.lt (by omega))⟩
theorem HD.alloc {T : TypeId} {m : Nat} {w wc : World} {b c : Nat} {v : Value} (h : HD T m w wc b c v) (o : Obj) : HD T m w (wc.alloc o) b c v := by
  obtain ⟨C, B, hc, hb, xs, hl, hr⟩ := h
  exact ⟨C.below ((Below.refl _ _).alloc (Nat.le_refl _) _), B.alloc o, hc, hb, xs, hl, hr.alloc o⟩
theorem HD.drewN {T : TypeId} {m : Nat} {w wc : World} {b c : Nat} {v : Value} (h : HD T m w wc b c v) (n : Nat) : HD T m w (wc.drewN n) b c v := by
  obtain ⟨C, B, hc, hb, xs, hl, hr⟩ := h
  exact ⟨C.keep fun _ _ => rfl, B.drewN n, hc, hb, xs, hl, hr⟩
theorem HD.drew {T : TypeId} {m : Nat} {w wc : World} {b c : Nat} {v : Value} (h : HD T m w wc b c v) : HD T m w wc.drew b c v := by
  obtain ⟨C, B, hc, hb, xs, hl, hr⟩ := h
  exact ⟨C.keep fun _ _ => rfl, ⟨B.os, B.tape, B.output, B.size, B.block⟩, hc, hb, xs, hl, hr⟩
theorem HD.cells3 {T : TypeId} {w wc : World} {b c : Nat} {v : Value} (h : HD T 3 w wc b c v) :
    ∃ k s n : Int, wc.cell? ⟨c, 0, none⟩ = some (.int .i64 k) ∧ wc.cell? ⟨c, 1, none⟩ = some (.int .i64 s) ∧ wc.cell? ⟨c, 2, none⟩ = some (.int .i64 n) ∧ wc.frozen? ⟨c, 0, none⟩ = false ∧ wc.frozen? ⟨c, 1, none⟩ = false ∧ wc.frozen? ⟨c, 2, none⟩ = false := by
  obtain ⟨C, B, hc, hb, xs, hl, hr⟩ := h
  exact ⟨_, _, _, hr.cell (i := 0) (by omega), hr.cell (i := 1) (by omega), hr.cell (i := 2) (by omega), hr.frozen 0, hr.frozen 1, hr.frozen 2⟩
theorem HD.cells2 {T : TypeId} {w wc : World} {b c : Nat} {v : Value} (h : HD T 2 w wc b c v) :
    ∃ k s : Int, wc.cell? ⟨c, 0, none⟩ = some (.int .i64 k) ∧ wc.cell? ⟨c, 1, none⟩ = some (.int .i64 s) ∧ wc.frozen? ⟨c, 0, none⟩ = false ∧ wc.frozen? ⟨c, 1, none⟩ = false := by
  obtain ⟨C, B, hc, hb, xs, hl, hr⟩ := h
  exact ⟨_, _, hr.cell (i := 0) (by omega), hr.cell (i := 1) (by omega), hr.frozen 0, hr.frozen 1⟩
theorem lit_cells (w : World) (xs : List Int) (T : TypeId) (j : Nat) (hj : j < xs.length) : (w.alloc (.cells (xs.map (Value.int .i64)).toArray T)).cell? ⟨w.heap.size, j, none⟩ = some (.int .i64 (xs.getD j 0)) := by
  rw [World.cell?_alloc_new]
  simp [hj]
theorem HD.pick {T : TypeId} {m : Nat} {w wc : World} {b c : Nat} {v : Value} (h : HD T m w wc b c v) (xs : List Int) (E : TypeId) (bl n : Nat) (cs : Array Value) (hbl : bl = wc.heap.size) (hcs : cs = (xs.map (Value.int .i64)).toArray) (hn : n = xs.length) (hm : 1 ≤ xs.length) (hm2 : xs.length ≤ 256) :
    Calls Try.prog 55 #[.pointer (some ⟨b, 0, none⟩), .slice (some ⟨bl, 0, none⟩) n n] (wc.alloc (.cells cs E)) fun e w' => ∃ x, e = .returned (.int .i64 x) ∧ HD T m w w' b c v := by
  subst hbl hcs hn
  refine (l1PickInt_any b v wc.heap.size xs.length xs.length (fun j => xs.getD j 0) _ (h.alloc _).1 (fun j hj => lit_cells wc xs E j hj) (by simp) (by have := h.1.lt; omega) hm hm2).mono ?_
  rintro e w' ⟨x, rfl, _, C', B'⟩
  exact ⟨x, rfl, (h.alloc _).call C' B'⟩
theorem HD.under {T : TypeId} {m : Nat} {w wc : World} {b c : Nat} {v : Value} (h : HD T m w wc b c v) (n : Int) (hn : 1 ≤ n) (hn2 : n ≤ 1000000000) :
    Calls Try.prog 46 #[.pointer (some ⟨b, 0, none⟩), .int .i64 n] wc fun e w' => ∃ x, e = .returned (.int .i64 x) ∧ (0 ≤ x ∧ x < n) ∧ HD T m w w' b c v := by
  refine (l1Below_any b v n _ h.1 hn hn2).mono ?_
  rintro e w' ⟨x, rfl, hx, C', B'⟩
  exact ⟨x, rfl, hx, h.call C' B'⟩
theorem HD.once {T : TypeId} {m : Nat} {w wc : World} {b c : Nat} {v : Value} (h : HD T m w wc b c v) (n : Int) (hn : 1 ≤ n) (hn2 : n ≤ 1000000000) :
    Calls Try.prog 56 #[.pointer (some ⟨b, 0, none⟩), .int .i64 n] wc fun e w' => ∃ q, e = .returned (.bool q) ∧ HD T m w w' b c v := by
  refine (l1Once_any b v n _ h.1 hn hn2).mono ?_
  rintro e w' ⟨x, rfl, C', B'⟩
  exact ⟨x, rfl, h.call C' B'⟩

theorem cur_set {w : World} {b c j : Nat} {v : Value} (h : Cur w b v) (hc : b < c) (x : Value) : Cur (w.setCell ⟨c, j, none⟩ x) b v :=
  h.keep fun k hk => Go.Deep.blk_setCell_other _ _ _ _ (show k ≠ c by omega)
theorem cur_three {w : World} {b c : Nat} {v : Value} (h : Cur w b v) (hc : b < c) (x y z : Value) : Cur (((w.setCell ⟨c, 0, none⟩ x).setCell ⟨c, 1, none⟩ y).setCell ⟨c, 2, none⟩ z) b v :=
  cur_set (cur_set (cur_set h hc x) hc y) hc z

set_option maxHeartbeats 1000000 in
theorem l1Head_any (b : Nat) (v : Value) (w : World) (hcur : Cur w b v) :
    Calls Try.prog 42 #[.pointer (some ⟨b, 0, none⟩)] w fun e w' => ∃ k s n, e = .returned (.agg #[.int .i64 k, .int .i64 s, .int .i64 n]) ∧ Cur w' b v ∧ But b w w' := by
  have hbw := hcur.lt
  go_enter Try.func42, Try.ntmps42
  go_wp2_with fail
  refine (l1Below_any b v 6 _ (hcur.below ((Below.refl _ _).alloc (Nat.le_refl _) _)) (by omega) (by omega)).mono ?_
  rintro e w1 ⟨x, rfl, ⟨hx0, hx1⟩, C1, B1⟩
  have hB1 := B1.size
  have HN : ∀ p q r : Int, HD 25 3 (w.alloc (.cells #[.int .i64 0, .int .i64 0, .int .i64 0] 25)) (w1.alloc (.cells #[.int .i64 p, .int .i64 q, .int .i64 r] 25)) b w1.heap.size v := fun p q r =>
    ⟨C1.below ((Below.refl _ _).alloc (Nat.le_refl _) _), B1.alloc _, hB1, by simp; omega, [p, q, r], rfl, World.rowIs_alloc w1 _ _ _ fun i hi => by
      have : i = 0 ∨ i = 1 ∨ i = 2 := by simp at hi; omega
      rcases this with rfl | rfl | rfl <;> simp [ints]⟩
  have D := HN (1 + x) 0 0
  go_upto_block 0 with fail
  go_cut [] from 10 to 35 (fun wc => HD 25 3 (w.alloc (.cells #[.int .i64 0, .int .i64 0, .int .i64 0] 25)) wc b w1.heap.size v)
  case first =>
    go_wp2_with (first | (go_at_call 46; refine (HD.under D _ (by decide) (by decide)).mono ?_; rintro e w' ⟨y, rfl, hy, D⟩; obtain ⟨k, s, n, q0, q1, q2, g0, g1, g2⟩ := D.cells3) | (go_at_call 55; refine (HD.pick D [16, 32, 64, 128, 256] 3 _ _ _ (by simp) rfl rfl (by decide) (by decide)).mono ?_; rintro e w' ⟨y, rfl, D⟩; obtain ⟨k, s, n, q0, q1, q2, g0, g1, g2⟩ := D.cells3))
    all_goals (go_meet; first | exact HD.set D 1 _ | exact HN _ _ _)
  case rest =>
  clear HN D
  have D := hcut
  clear hcut
  obtain ⟨k, s, n, q0, q1, q2, g0, g1, g2⟩ := D.cells3
  go_upto_region 14 with fail
  go_cut [48] from 36 to 47 (fun s48 wc => ∃ q : Bool, s48 = .bool q ∧ HD 25 3 (w.alloc (.cells #[.int .i64 0, .int .i64 0, .int .i64 0] 25)) wc b w1.heap.size v)
  case first =>
    go_wp2_with fail
    all_goals (go_meet; exact ⟨_, rfl, D⟩)
  case rest =>
  clear D q0 q1 q2 g0 g1 g2
  obtain ⟨q, rfl, D⟩ := hcut
  obtain ⟨k, s, n, q0, q1, q2, g0, g1, g2⟩ := D.cells3
  go_upto_if 48 with fail
  go_cut [] from 49 to 52 (fun wc => HD 25 3 (w.alloc (.cells #[.int .i64 0, .int .i64 0, .int .i64 0] 25)) wc b w1.heap.size v)
  case first =>
    cases q
    · go_wp2_with fail
      go_meet
      exact D
    · go_wp2_with (go_at_call 55; refine (HD.pick D [1, 2, 77, 1000000000] 3 _ _ _ (by simp) rfl rfl (by decide) (by decide)).mono ?_; rintro e w' ⟨y, rfl, D⟩; obtain ⟨k, s, n, q0, q1, q2, g0, g1, g2⟩ := D.cells3)
      go_meet
      exact HD.set D 2 _
  case rest =>
  clear D q0 q1 q2 g0 g1 g2
  have D := hcut
  clear hcut
  go_wp2_with fail
  refine (HD.once D 5 (by decide) (by decide)).mono ?_
  rintro e w3 ⟨q, rfl, D⟩
  obtain ⟨k, s, n, q0, q1, q2, g0, g1, g2⟩ := D.cells3
  go_upto_if 54 with fail
  go_cut [] from 55 to 74 (fun wc => HD 25 3 (w.alloc (.cells #[.int .i64 0, .int .i64 0, .int .i64 0] 25)) wc b w1.heap.size v)
  case first =>
    cases q
    · go_wp2_with fail
      go_meet
      exact D
    · go_wp2_with (first | (go_at_call 46; refine (HD.under D _ (by decide) (by decide)).mono ?_; rintro e w' ⟨y, rfl, hy, D⟩; obtain ⟨k, s, n, q0, q1, q2, g0, g1, g2⟩ := D.cells3) | (go_at_call 55; refine (HD.pick D [0, -1, 1000000001, 5] 3 _ _ _ (by simp) rfl rfl (by decide) (by decide)).mono ?_; rintro e w' ⟨y, rfl, D⟩; obtain ⟨k, s, n, q0, q1, q2, g0, g1, g2⟩ := D.cells3))
      · go_meet
        exact HD.set D 0 _
      · go_region_with (go_at_call 46; refine (HD.under (HD.drew D) _ (by decide) (by decide)).mono ?_; rintro e w' ⟨y, rfl, hy, D⟩; obtain ⟨k, s, n, q0, q1, q2, g0, g1, g2⟩ := D.cells3)
        all_goals (go_wp2_with fail; go_meet; exact HD.set D 1 _)
      · go_meet
        exact HD.set D 2 _
  case rest =>
  clear D q0 q1 q2 g0 g1 g2
  have D := hcut
  clear hcut
  obtain ⟨k, s, n, q0, q1, q2, g0, g1, g2⟩ := D.cells3
  have r0 := fun o => D.2.1.cell (c := w.heap.size) (o := o) (by simp) (by omega)
  have r1 := fun o => D.2.1.frozen (c := w.heap.size) (o := o) (by simp) (by omega)
  go_wp2
  have p0 : (wc.cell? ⟨w.heap.size, 0, none⟩).isSome = true := by rw [r0]; simp [go_sem]
  have p1 : (wc.cell? ⟨w.heap.size, 1, none⟩).isSome = true := by rw [r0]; simp [go_sem]
  have p2 : (wc.cell? ⟨w.heap.size, 2, none⟩).isSome = true := by rw [r0]; simp [go_sem]
  have Bw : But b w wc := ((But.refl b w).alloc _).trans D.2.1
  refine bodyPost_ret (v := .agg #[.int .i64 k, .int .i64 s, .int .i64 n]) (by simp [results, Try.results42, go_sem, p0, p1, p2]) rfl ⟨k, s, n, rfl, cur_three D.1 (by omega) _ _ _, ((Bw.setNew (Nat.le_refl _) _).setNew (Nat.le_refl _) _).setNew (Nat.le_refl _) _⟩
end Go.Proofs.Ytlacfinfmbapaaa
