/- The laws' own helpers over arenas: eqArena of two alike, markArena, heldArena. -/
import Derived.Test.YtkcnahmimhljpaaProg
import Derived.Test.YtkcnahmimhljpaaValsA
namespace Go.Proofs.Ytkcnahmimhljpaa
set_option maxRecDepth 20000
open Go.RowKit
set_option linter.unusedSimpArgs false
set_option linter.unusedVariables false

theorem two_cells {w w' : World} {A B : Array Value} {t : TypeId} (hB : Below ((w.alloc (.cells A t)).alloc (.cells B t)).heap.size ((w.alloc (.cells A t)).alloc (.cells B t)) w') :
    (∀ i, w'.cell? ⟨w.heap.size, i, none⟩ = A[i]?) ∧ (∀ i, w'.cell? ⟨w.heap.size + 1, i, none⟩ = B[i]?) := by
  refine ⟨fun i => ?_, fun i => ?_⟩
  · rw [hB.cell (p := ⟨w.heap.size, i, none⟩) (by simp; omega)]; simp [go_sem]
  · rw [hB.cell (p := ⟨w.heap.size + 1, i, none⟩) (by simp)]; simp [go_sem]

theorem eqArena_same (T1 T2 T3 T4 : Nat) (w1 r1 w2 r2 : Value) (n m : Nat) (z y : Nat → Int) (semi toh top : Int) (cyc : Bool) (scan old copied serial : Int) (w : World)
    (h1 : SlF T1 w w1 n n (fun i => .int .u64 (z i))) (h2 : SlF T2 w w2 n n (fun i => .int .u64 (z i))) (hn : n ≤ 1048576)
    (g1 : SlF T3 w r1 m (2 * m) (fun i => .int .i64 (y i))) (g2 : SlF T4 w r2 m (2 * m) (fun i => .int .i64 (y i))) (hm : m ≤ 1048576) :
    Calls Try.prog 12 #[.agg #[w1, .int .i64 semi, .int .i64 toh, .int .i64 top, .bool cyc, .int .i64 scan, .int .i64 old, .int .i64 copied, .int .i64 serial, r1], .agg #[w2, .int .i64 semi, .int .i64 toh, .int .i64 top, .bool cyc, .int .i64 scan, .int .i64 old, .int .i64 copied, .int .i64 serial, r2]] w
      fun e w' => e = .returned (.bool true) ∧ Below w.heap.size w w' := by
  have k1 := h1.here
  have k2 := h2.here
  have k3 := g1.here
  have k4 := g2.here
  clear h1 h2 g1 g2
  have hA : ∀ A B t, Below w.heap.size w ((w.alloc (.cells A t)).alloc (.cells B t)) := fun A B t => ((Below.refl _ _).alloc (Nat.le_refl _) _).alloc (by simp) _
  obtain ⟨a1, c1, rfl⟩ := k1.head
  obtain ⟨a2, c2, rfl⟩ := k2.head
  obtain ⟨a3, c3, rfl⟩ := k3.head
  obtain ⟨a4, c4, rfl⟩ := k4.head
  go_enter Try.func12, Try.ntmps12
  go_wp2_with fail
  refine (eqU64S_same _ _ _ _ n z _ (k1.below (hA _ _ _) (Nat.le_refl _)) (k2.below (hA _ _ _) (Nat.le_refl _)) hn).mono ?_
  rintro e w5 ⟨rfl, b5⟩
  obtain ⟨q1, q2⟩ := two_cells b5
  have B5 := (hA _ _ _).trans (b5.mono (by simp; omega))
  have k5 := k3.below B5 (Nat.le_refl _)
  have k6 := k4.below B5 (Nat.le_refl _)
  clear k1 k2 k3 k4 hA b5
  go_wp2_with fail
  refine (eqValS_same _ _ _ _ m y _ k5 k6 hm).mono ?_
  rintro e w6 ⟨rfl, b6⟩
  have B6 := below_next B5 b6
  go_wp2
  go_ret
  exact ⟨rfl, B6⟩

theorem one_cells {w w' : World} {A : Array Value} {t : TypeId} {C : Nat} (hB : Below C (w.alloc (.cells A t)) w') (hC : w.heap.size < C) : ∀ i, w'.cell? ⟨w.heap.size, i, none⟩ = A[i]? := by
  intro i
  rw [hB.cell (p := ⟨w.heap.size, i, none⟩) hC]; simp [go_sem]
theorem one_apart {w w' : World} {A : Array Value} {t : TypeId} {B T : Nat} (hB : Apart B T (w.alloc (.cells A t)) w') (hT : T ≤ w.heap.size) : ∀ i, w'.cell? ⟨w.heap.size, i, none⟩ = A[i]? := by
  intro i
  rw [World.cell?_of_block (w := w.alloc (.cells A t)) (hB.block w.heap.size (by simp) (.inr hT))]; simp [go_sem]

theorem markArena_any (B1 T1 B2 T2 B T : Nat) (vw vr : Value) (n m : Nat) (z y : Nat → Int) (semi toh top : Int) (cyc : Bool) (scan old copied serial : Int) (w : World)
    (h : OwnF B1 T1 55 w vw n n (fun i => .int .u64 (z i))) (hn : n ≤ 1048576) (g : OwnF B2 T2 58 w vr m (2 * m) (fun i => .int .i64 (y i))) (hm : m ≤ 1048576) (hT : T1 ≤ B2 ∨ T2 ≤ B1) (hB1 : B ≤ B1) (hT1 : T1 ≤ T) (hB2 : B ≤ B2) (hT2 : T2 ≤ T) (hw : T ≤ w.heap.size) :
    Calls Try.prog 13 #[.agg #[vw, .int .i64 semi, .int .i64 toh, .int .i64 top, .bool cyc, .int .i64 scan, .int .i64 old, .int .i64 copied, .int .i64 serial, vr], .int .i64 1] w
      fun e w' => e = .returned (.int .i64 (1 + n + 2 * m)) ∧ OwnF B1 T1 55 w' vw n n (fun i => .int .u64 (1 + i)) ∧ OwnF B2 T2 58 w' vr m (2 * m) (fun i => .int .i64 (1 + n + i)) ∧ Apart B T w w' := by
  have hA : ∀ A t, Below w.heap.size w (w.alloc (.cells A t)) := fun A t => (Below.refl _ _).alloc (Nat.le_refl _) _
  obtain ⟨a1, c1, rfl⟩ := h.sl.head
  obtain ⟨a2, c2, rfl⟩ := g.sl.head
  go_enter Try.func13, Try.ntmps13
  go_wp2_with fail
  refine (markU64S_any _ _ _ n z 1 _ (h.below (hA _ _) (by omega)) hn (by omega) (by omega)).mono ?_
  rintro e w1 ⟨rfl, h1, U1⟩
  have g1 := (g.below (hA _ _) (by omega)).outside U1 (by omega)
  have A1 := U1.apart hB1 hT1
  have q1 := one_apart A1 hw
  have AA := (below_apart (hA #[.slice a1 n c1, .int .i64 semi, .int .i64 toh, .int .i64 top, .bool cyc, .int .i64 scan, .int .i64 old, .int .i64 copied, .int .i64 serial, .slice a2 m c2] 30) (Nat.le_refl _) B T).trans A1
  clear hA h g U1
  go_wp2_with fail
  refine (markValS_any _ _ _ m y _ _ g1 hm (by omega) (by omega)).mono ?_
  rintro e w2 ⟨rfl, g2, U2⟩
  have h2 := h1.outside U2 (by omega)
  have A2 := AA.trans (U2.apart hB2 hT2)
  go_wp2
  go_ret
  exact ⟨rfl, h2, g2, A2⟩

theorem heldArena_any (T1 T2 : Nat) (vw vr : Value) (n m : Nat) (semi toh top : Int) (cyc : Bool) (scan old copied serial : Int) (w : World)
    (h : SlF T1 w vw n n (fun i => .int .u64 (1 + i))) (hn : n ≤ 1048576) (g : SlF T2 w vr m (2 * m) (fun i => .int .i64 (1 + n + i))) (hm : m ≤ 1048576) :
    Calls Try.prog 14 #[.agg #[vw, .int .i64 semi, .int .i64 toh, .int .i64 top, .bool cyc, .int .i64 scan, .int .i64 old, .int .i64 copied, .int .i64 serial, vr], .int .i64 1] w
      fun e w' => e = .returned (.int .i64 (1 + n + 2 * m)) ∧ Below w.heap.size w w' := by
  have hA : ∀ A t, Below w.heap.size w (w.alloc (.cells A t)) := fun A t => (Below.refl _ _).alloc (Nat.le_refl _) _
  have k1 := h.here
  have k2 := g.here
  clear h g
  obtain ⟨a1, c1, rfl⟩ := k1.head
  obtain ⟨a2, c2, rfl⟩ := k2.head
  go_enter Try.func14, Try.ntmps14
  go_wp2_with fail
  refine (heldU64S_any _ _ n 1 _ (k1.below (hA _ _) (Nat.le_refl _)) hn (by omega) (by omega)).mono ?_
  rintro e w1 ⟨rfl, b1⟩
  have q1 := one_cells b1 (by simp)
  have B1 := below_first b1
  have k3 := k2.below B1 (Nat.le_refl _)
  have n0 : ¬ (1 + (n : Int)) < 0 := by omega
  clear hA k1 k2 b1
  go_wp2_with fail
  refine (heldValS_any _ _ m _ _ k3 hm (by omega) (by omega)).mono ?_
  rintro e w2 ⟨rfl, b2⟩
  have B2 := below_next B1 b2
  have n1 : ¬ (1 + (n : Int) + 2 * m) < 0 := by omega
  go_wp2
  go_ret
  exact ⟨rfl, B2⟩
end Go.Proofs.Ytkcnahmimhljpaa
