/- NewArena of both packages. -/
import Derived.Test.YtmckcnmlhgpnhaaGreatProg
import Derived.Test.YtmckcnmlhgpnhaaGreatKArnA
import Derived.Laws.MakeOwn
import Derived.Deep.CutRange
namespace Go.Proofs.YtmckcnmlhgpnhaaGreat
set_option maxRecDepth 20000
open Go.RowKit
set_option linter.unusedSimpArgs false
set_option linter.unusedVariables false

theorem infoU : (Tryz.prog.info? 100).map (fun i => (i.zero, i.size, i.bytes)) = some (some (.int .u64 0), 1, 8) := by kernel_rfl
theorem infoV : (Tryz.prog.info? 48).map (fun i => (i.zero, i.size, i.bytes)) = some (some (.agg #[.int .i64 0, .int .i64 0]), 2, 16) := by kernel_rfl
theorem makeWords (l : Int) (h0 : 0 ≤ l) (h1 : l ≤ 1048576) (w : World) : (Instr.makeSlice 22 (.int .i64 l) (.int .i64 l)).run Tryz.prog w = .ok (.slice (some ⟨w.heap.size, 0, none⟩) l.toNat l.toNat) (w.alloc (.cells (madeCells #[.int .u64 0] l.toNat) 100)) := by
  obtain ⟨i, hi, hzz⟩ := Option.map_eq_some_iff.1 infoU
  simp only [Prod.mk.injEq] at hzz
  obtain ⟨hz, hs, hb⟩ := hzz
  have := run_make (P := Tryz.prog) w 22 100 i _ Tryz.underlying22 hi hz .i64 .i64 l l h0 (Int.le_refl _) (by rw [hb]; omega) (by omega)
  rw [hs, Nat.mul_one] at this
  exact this
theorem makeVals (l : Int) (h0 : 0 ≤ l) (h1 : l ≤ 1048576) (w : World) : (Instr.makeSlice 28 (.int .i64 l) (.int .i64 l)).run Tryz.prog w = .ok (.slice (some ⟨w.heap.size, 0, none⟩) l.toNat l.toNat) (w.alloc (.cells (madeCells #[.int .i64 0, .int .i64 0] (l.toNat * 2)) 48)) := by
  obtain ⟨i, hi, hzz⟩ := Option.map_eq_some_iff.1 infoV
  simp only [Prod.mk.injEq] at hzz
  obtain ⟨hz, hs, hb⟩ := hzz
  have := run_make (P := Tryz.prog) w 28 48 i _ Tryz.underlying28 hi hz .i64 .i64 l l h0 (Int.le_refl _) (by rw [hb]; omega) (by omega)
  rw [hs] at this
  exact this
theorem rowIs_vals (w : World) (n : Nat) (t : TypeId) : (w.alloc (.cells (madeCells #[.int .i64 0, .int .i64 0] n) t)).rowIs w.heap.size t n (fun _ => .int .i64 0) :=
  ⟨_, Go.Deep.blk_alloc_new _ _, size_madeCells _ _, fun i hi => by
    have h : i % 2 = 0 ∨ i % 2 = 1 := by omega
    rcases h with h | h <;> simp [madeCells, hi, h]⟩

/-- An arena's two rows, of the call's own: two blocks apart, from B on and below T. -/
def OwnAr (B T : Nat) (w : World) (vw vr : Value) (n m : Nat) (z y : Nat → Int) : Prop :=
  ∃ b1 t1 b2 t2, B ≤ b1 ∧ t1 ≤ T ∧ B ≤ b2 ∧ t2 ≤ T ∧ (t1 ≤ b2 ∨ t2 ≤ b1) ∧ OwnF b1 t1 100 w vw n n (fun i => .int .u64 (z i)) ∧ OwnF b2 t2 48 w vr m (2 * m) (fun i => .int .i64 (y i))
theorem OwnAr.below {B T C : Nat} {w w' : World} {vw vr : Value} {n m : Nat} {z y : Nat → Int} (h : OwnAr B T w vw vr n m z y) (hb : Below C w w') (hT : T ≤ C) : OwnAr B T w' vw vr n m z y := by
  obtain ⟨b1, t1, b2, t2, h1, h2, h3, h4, h5, h6, h7⟩ := h
  exact ⟨b1, t1, b2, t2, h1, h2, h3, h4, h5, h6.below hb (by omega), h7.below hb (by omega)⟩
theorem OwnAr.sl {B T : Nat} {w : World} {vw vr : Value} {n m : Nat} {z y : Nat → Int} (h : OwnAr B T w vw vr n m z y) : SlF T w vw n n (fun i => .int .u64 (z i)) ∧ SlF T w vr m (2 * m) (fun i => .int .i64 (y i)) := by
  obtain ⟨b1, t1, b2, t2, h1, h2, h3, h4, h5, h6, h7⟩ := h
  exact ⟨h6.sl.mono h2, h7.sl.mono h4⟩

theorem ownAr_mk {w W : World} {b1 b2 n m : Nat} (h1 : W.rowIs b1 100 n (fun _ => .int .u64 0)) (h2 : W.rowIs b2 48 (m * 2) (fun _ => .int .i64 0)) (hB1 : w.heap.size ≤ b1) (hB2 : w.heap.size ≤ b2) (hne : b1 ≠ b2) :
    OwnAr w.heap.size W.heap.size W (.slice (some ⟨b1, 0, none⟩) n n) (.slice (some ⟨b2, 0, none⟩) m m) n m (fun _ => 0) (fun _ => 0) :=
  ⟨b1, b1 + 1, b2, b2 + 1, hB1, h1.lt, hB2, h2.lt, by omega, ⟨_, _, rfl, .inr ⟨b1, n, _, rfl, Nat.le_refl _, by omega, Nat.le_refl _, h1, fun _ _ => rfl⟩⟩, ⟨_, _, rfl, .inr ⟨b2, m * 2, _, rfl, Nat.le_refl _, by omega, by omega, h2, fun _ _ => rfl⟩⟩⟩
theorem rows12 (w : World) (o : Obj) (n m : Nat) (t : TypeId) :
    (((w.alloc o).alloc (.cells (madeCells #[.int .u64 0] n) 100)).alloc (.cells (madeCells #[.int .i64 0, .int .i64 0] (m * 2)) 48)).rowIs (w.heap.size + 1) 100 n (fun _ => .int .u64 0) ∧
    (((w.alloc o).alloc (.cells (madeCells #[.int .u64 0] n) 100)).alloc (.cells (madeCells #[.int .i64 0, .int .i64 0] (m * 2)) 48)).rowIs (w.heap.size + 1 + 1) 48 (m * 2) (fun _ => .int .i64 0) := by
  refine ⟨?_, ?_⟩
  · have := (World.rowIs_made (w.alloc o) (.int .u64 0) n 100).alloc (.cells (madeCells #[.int .i64 0, .int .i64 0] (m * 2)) 48)
    simpa using this
  · have := rowIs_vals ((w.alloc o).alloc (.cells (madeCells #[.int .u64 0] n) 100)) (m * 2) 48
    simpa using this
theorem rows21 (w : World) (o : Obj) (n m : Nat) (t : TypeId) :
    (((w.alloc o).alloc (.cells (madeCells #[.int .i64 0, .int .i64 0] (m * 2)) 48)).alloc (.cells (madeCells #[.int .u64 0] n) 100)).rowIs (w.heap.size + 1 + 1) 100 n (fun _ => .int .u64 0) ∧
    (((w.alloc o).alloc (.cells (madeCells #[.int .i64 0, .int .i64 0] (m * 2)) 48)).alloc (.cells (madeCells #[.int .u64 0] n) 100)).rowIs (w.heap.size + 1) 48 (m * 2) (fun _ => .int .i64 0) := by
  refine ⟨?_, ?_⟩
  · have := World.rowIs_made ((w.alloc o).alloc (.cells (madeCells #[.int .i64 0, .int .i64 0] (m * 2)) 48)) (.int .u64 0) n 100
    simpa using this
  · have := (rowIs_vals (w.alloc o) (m * 2) 48).alloc (.cells (madeCells #[.int .u64 0] n) 100)
    simpa using this
theorem below3 (w : World) (o1 o2 o3 : Obj) : Below w.heap.size w ((((w.alloc o1).alloc o2).alloc o3)) :=
  (((Below.refl _ _).alloc (Nat.le_refl _) _).alloc (by simp) _).alloc (by simp; omega) _

theorem begin_any (vw vr : Value) (semi toh top : Int) (cyc : Bool) (scan old copied serial : Int) (half : Int) (w : World) (s0 : 0 ≤ semi) (s1 : semi ≤ 4000) (h0 : 0 ≤ half) (h1 : half ≤ 1) :
    Calls Tryz.prog 62 #[.agg #[vw, .int .i64 semi, .int .i64 toh, .int .i64 top, .bool cyc, .int .i64 scan, .int .i64 old, .int .i64 copied, .int .i64 serial, vr], .int .i64 half] w fun e w' => e = .returned (.int .i64 (half * semi + 1)) ∧ Below w.heap.size w w' := by
  have ht : half = 0 ∨ half = 1 := by omega
  rcases ht with rfl | rfl
  all_goals
    go_enter Tryz.func62, Tryz.ntmps62
    go_wp2
    go_ret
    exact ⟨ret_int (by omega), (Below.refl _ _).alloc (Nat.le_refl _) _⟩
end Go.Proofs.YtmckcnmlhgpnhaaGreat
