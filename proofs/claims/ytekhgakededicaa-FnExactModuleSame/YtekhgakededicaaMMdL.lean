/- The walk of FnExactModuleSame, out of both packages' contracts. -/
import Derived.Test.YtekhgakededicaaProg
import Derived.Test.YtekhgakededicaaMMdD
import Derived.Deep.RegionHeld3
namespace Go.Proofs.Ytekhgakededicaa
set_option maxRecDepth 20000
open Go.RowKit
set_option linter.unusedSimpArgs false
set_option linter.unusedVariables false

theorem one_cells {w w' : World} {A : Array Value} {t : TypeId} {C : Nat} (hB : Below C (w.alloc (.cells A t)) w') (hC : w.heap.size < C) : ∀ i, w'.cell? ⟨w.heap.size, i, none⟩ = A[i]? := by
  intro i
  rw [hB.cell (p := ⟨w.heap.size, i, none⟩) hC]; simp [go_sem]
theorem has_below {w w' : World} {C b : Nat} {A : Array Value} (h : ∀ i, w.cell? ⟨b, i, none⟩ = A[i]?) (hb : Below C w w') (hC : b < C) : ∀ i, w'.cell? ⟨b, i, none⟩ = A[i]? := fun i => by
  rw [hb.cell (p := ⟨b, i, none⟩) hC]; exact h i
set_option maxHeartbeats 4000000 in
theorem moduleSame_by (a1 a2 v1 v2 : Option Addr) (c1 c2 d1 d2 L1 L2 n1 n2 : Nat) (X Y : Nat → PtD) (s1 s2 : Nat → ByteArray) (w : World) (hs1 : MdF w.heap.size w (.slice a1 L1 c1) (.slice v1 n1 d1) L1 X n1 s1) (hs2 : MdF w.heap.size w (.slice a2 L2 c2) (.slice v2 n2 d2) L2 Y n2 s2) (m3 : L1 ≤ 9223372036854775807) (m4 : L2 ≤ 9223372036854775807) (m5 : n1 ≤ 9223372036854775807) (m6 : n2 ≤ 9223372036854775807) (hX : ∀ j, j < L1 → PLe (X j) 9223372036854775807) (gX : ∀ j, j < n1 → (s1 j).size ≤ 9223372036854775807) (hY : ∀ j, j < L2 → PLe (Y j) 9223372036854775807) (gY : ∀ j, j < n2 → (s2 j).size ≤ 9223372036854775807) :
    Calls Try.prog 3 #[.agg #[.slice a1 L1 c1, .slice v1 n1 d1], .agg #[.slice a2 L2 c2, .slice v2 n2 d2]] w fun e w' => e = .returned (.bool true) ∧ Below w.heap.size w w' := by
  have HZ1 : Hid (∀ (W : World) (left : Int), Below w.heap.size w W → 0 ≤ left → left ≤ 1048576 → _) := fun W (left : Int) (hW : Below w.heap.size w W) h0 h1 => szModule_any a1 L1 c1 X v1 n1 d1 s1 w.heap.size left W (hs1.1.below hW (Nat.le_refl _)) (hs1.2.below hW (Nat.le_refl _)) hW.size h0 h1 m3 hX m5 gX
  have HZ2 : Hid (∀ (W : World) (left : Int), Below w.heap.size w W → 0 ≤ left → left ≤ 1048576 → _) := fun W (left : Int) (hW : Below w.heap.size w W) h0 h1 => szModule_any a2 L2 c2 Y v2 n2 d2 s2 w.heap.size left W (hs2.1.below hW (Nat.le_refl _)) (hs2.2.below hW (Nat.le_refl _)) hW.size h0 h1 m4 hY m6 gY
  have HS1 : Hid (MdF w.heap.size w (.slice a1 L1 c1) (.slice v1 n1 d1) L1 X n1 s1) := hs1
  have HS2 : Hid (MdF w.heap.size w (.slice a2 L2 c2) (.slice v2 n2 d2) L2 Y n2 s2) := hs2
  clear hs1 hs2 hX hY gX gY
  have B0 : Below w.heap.size w ((w.alloc (.cells #[.slice a1 L1 c1, .slice v1 n1 d1] 25)).alloc (.cells #[.slice a2 L2 c2, .slice v2 n2 d2] 25)) := ((Below.refl _ _).alloc (Nat.le_refl _) _).alloc (by simp) _
  go_enter Try.func3, Try.ntmps3
  go_wp2_with fail
  refine (HZ1.out _ _ B0 (by omega) (by omega)).mono ?_
  rintro e w1 ⟨r, rfl, hr, b1⟩
  have B1 := B0.trans (b1.mono (by simp; omega))
  have k1 : ∀ i, w1.cell? ⟨w.heap.size, i, none⟩ = (#[.slice a1 L1 c1, .slice v1 n1 d1] : Array Value)[i]? := fun i => by rw [(bcell b1).1 _ _ (by simp; omega)]; simp [go_sem]
  have j1 : ∀ i, w1.cell? ⟨w.heap.size + 1, i, none⟩ = (#[.slice a2 L2 c2, .slice v2 n2 d2] : Array Value)[i]? := fun i => by rw [(bcell b1).1 _ _ (by simp)]; simp [go_sem]
  have z1 : w.heap.size + 1 + 1 ≤ w1.heap.size := by have := b1.size; simp at this; omega
  clear b1
  rcases hr with rfl | ⟨r0, r1, l3, hX2, l5⟩
  · go_wp2
    go_ret
    exact ⟨rfl, B1⟩
  have HX : Hid (∀ j, j < L1 → PLe (X j) 1048576) := hX2
  clear hX2
  go_wp2_with fail
  refine (HZ2.out _ _ B1 r0 (by omega)).mono ?_
  rintro e w2 ⟨r', rfl, hr, b2⟩
  have B2 := below_next B1 b2
  have k2 := has_below k1 b2 (by omega)
  have j2 := has_below j1 b2 (by omega)
  have z2 := Nat.le_trans z1 b2.size
  clear b2 k1 j1 z1
  rcases hr with rfl | ⟨r0', r1', l4, hY2, l6⟩
  · go_wp2
    go_ret
    exact ⟨rfl, B2⟩
  have HY : Hid (∀ j, j < L2 → PLe (Y j) 1048576) := hY2
  clear hY2 HZ1 HZ2
  obtain ⟨q0, hq0⟩ : ∃ q0 : Bool, (q0 = true ↔ MEq L1 L2 X Y n1 n2 s1 s2) := by
    by_cases h : MEq L1 L2 X Y n1 n2 s1 s2
    · exact ⟨true, by simp [h]⟩
    · exact ⟨false, by simp [h]⟩
  have HT1 : Hid (∀ W, Below w.heap.size w W → _) := fun W (hW : Below w.heap.size w W) => toModule_at a1 L1 c1 v1 n1 d1 X s1 w.heap.size W (HS1.out.below hW (Nat.le_refl _)) hW.size l3 l5 HX.out
  have HT2 : Hid (∀ W, Below w.heap.size w W → _) := fun W (hW : Below w.heap.size w W) => toModule_at a2 L2 c2 v2 n2 d2 Y s2 w.heap.size W (HS2.out.below hW (Nat.le_refl _)) hW.size l4 l6 HY.out
  have HSP : Hid (∀ (a1 a2 v1 v2 : Option Addr) (c1 c2 d1 d2 : Nat) (W : World), MdF W.heap.size W (.slice a1 L1 c1) (.slice v1 n1 d1) L1 X n1 s1 → MdF W.heap.size W (.slice a2 L2 c2) (.slice v2 n2 d2) L2 Y n2 s2 → Calls Try.prog 5 #[.agg #[.slice a1 L1 c1, .slice v1 n1 d1], .agg #[.slice a2 L2 c2, .slice v2 n2 d2]] W fun e w' => e = .returned (.bool q0) ∧ Below W.heap.size W w') :=
    fun a1 a2 v1 v2 c1 c2 d1 d2 W h1 h2 => (specModuleSame_any a1 v1 a2 v2 c1 d1 c2 d2 L1 L2 n1 n2 X Y s1 s2 W.heap.size W h1 h2 (Nat.le_refl _) l3 l4 l5 l6 HX.out HY.out).mono fun e w' ⟨q, he, hq, hb⟩ => ⟨by rw [he, Bool.eq_iff_iff.2 (hq.trans hq0.symm)], hb⟩
  have HIM : Hid (∀ (a1 a2 v1 v2 : Option Addr) (c1 c2 d1 d2 : Nat) (W : World), MdF W.heap.size W (.slice a1 L1 c1) (.slice v1 n1 d1) L1 X n1 s1 → MdF W.heap.size W (.slice a2 L2 c2) (.slice v2 n2 d2) L2 Y n2 s2 → Calls Try.prog 7 #[.agg #[.slice a1 L1 c1, .slice v1 n1 d1], .agg #[.slice a2 L2 c2, .slice v2 n2 d2]] W fun e w' => e = .returned (.bool q0) ∧ Below W.heap.size W w') :=
    fun a1 a2 v1 v2 c1 c2 d1 d2 W h1 h2 => (implModuleSame_any a1 v1 a2 v2 c1 d1 c2 d2 L1 L2 n1 n2 X Y s1 s2 W.heap.size W h1 h2 (Nat.le_refl _) l3 l4 l5 l6 HX.out HY.out).mono fun e w' ⟨q, he, hq, hb⟩ => ⟨by rw [he, Bool.eq_iff_iff.2 (hq.trans hq0.symm)], hb⟩
  clear hq0
  have KP : ∀ V, Below w2.heap.size w2 V → (Below w2.heap.size w2 V ∧ (∀ i, V.cell? ⟨w.heap.size, i, none⟩ = (#[.slice a1 L1 c1, .slice v1 n1 d1] : Array Value)[i]?) ∧ (∀ i, V.cell? ⟨w.heap.size + 1, i, none⟩ = (#[.slice a2 L2 c2, .slice v2 n2 d2] : Array Value)[i]?)) := fun V hV => ⟨hV, has_below k2 hV (by omega), has_below j2 hV (by omega)⟩
  have b2' := (Below.refl w2.heap.size w2).drew
  go_wp2_with fail
  clear k2 j2
  go_region_held3 (fun V => Below w2.heap.size w2 V ∧ (∀ i, V.cell? ⟨w.heap.size, i, none⟩ = (#[.slice a1 L1 c1, .slice v1 n1 d1] : Array Value)[i]?) ∧ (∀ i, V.cell? ⟨w.heap.size + 1, i, none⟩ = (#[.slice a2 L2 c2, .slice v2 n2 d2] : Array Value)[i]?)) (first | assumption | exact KP _ b2' | exact KP _ (by assumption)) (first | (go_at_call_of 6 a1; refine (HT1.out _ (below_next B2 (And.left (by assumption)))).mono ?_; rintro e wA ⟨x1, y1, rfl, sA, bA⟩; have hA := below_next (w := w2) (And.left (by assumption)) bA) | (go_at_call_of 6 a2; refine (HT2.out _ (below_next B2 (And.left (by assumption)))).mono ?_; rintro e wB ⟨x3, y3, rfl, sB, bB⟩; have hB := below_next (w := w2) (And.left (by assumption)) bB) | (go_at_call 5; refine (HSP.out _ _ _ _ _ _ _ _ _ ((sA.below bB (Nat.le_refl _)).mono bB.size) sB).mono ?_; rintro e w3 ⟨rfl, b3⟩; have hB3 := below_next (w := w2) hB b3))
  have B3 := below_next B2 hB3
  obtain ⟨_, k3, j3⟩ := KP _ hB3
  have z3 := Nat.le_trans z2 hB3.size
  clear KP b2' hB3 hA hB bA bB sA sB b3 HSP
  go_wp2_with fail
  refine (HT1.out _ B3).mono ?_
  rintro e w4 ⟨x5, y5, rfl, s4, b4⟩
  have B4 := below_next B3 b4
  have k4 := has_below k3 b4 (by omega)
  have j4 := has_below j3 b4 (by omega)
  have z4 := Nat.le_trans z3 b4.size
  clear b4 k3 j3
  have Bx : Below w4.heap.size w4 (w4.alloc (.cells #[.slice (some ⟨x5, 0, none⟩) L1 L1, .slice (some ⟨y5, 0, none⟩) n1 n1] 30)) := (Below.refl _ _).alloc (Nat.le_refl _) _
  have k4' := has_below k4 Bx (by omega)
  have j4' := has_below j4 Bx (by omega)
  have p4' := one_cells (t := 30) (Below.refl (w4.alloc (.cells #[.slice (some ⟨x5, 0, none⟩) L1 L1, .slice (some ⟨y5, 0, none⟩) n1 n1] 30)).heap.size (w4.alloc (.cells #[.slice (some ⟨x5, 0, none⟩) L1 L1, .slice (some ⟨y5, 0, none⟩) n1 n1] 30))) (by simp)
  have s4' := (s4.below Bx (Nat.le_refl _)).mono Bx.size
  have B4' := below_next B4 Bx
  clear k4 j4 s4 Bx
  go_wp2_with fail
  obtain ⟨W4, hW4⟩ : ∃ W, W = w4.alloc (.cells #[.slice (some ⟨x5, 0, none⟩) L1 L1, .slice (some ⟨y5, 0, none⟩) n1 n1] 30) := ⟨_, rfl⟩
  have Z4 : W4.heap.size = w4.heap.size + 1 := by rw [hW4]; simp
  rw [← hW4] at k4' j4' p4' s4' B4' ⊢
  clear hW4
  refine (HT2.out _ B4').mono ?_
  rintro e w5 ⟨x7, y7, rfl, s5, b5⟩
  have B5 := below_next B4' b5
  have k5 := has_below k4' b5 (by omega)
  have j5 := has_below j4' b5 (by omega)
  have p5 := has_below p4' b5 (by omega)
  have z5 := Nat.le_trans (Nat.le_of_eq Z4.symm) b5.size
  have t5 := (s4'.below b5 (Nat.le_refl _)).mono b5.size
  clear b5 k4' j4' p4' s4' B4'
  have Bx : Below w5.heap.size w5 (w5.alloc (.cells #[.slice (some ⟨x7, 0, none⟩) L2 L2, .slice (some ⟨y7, 0, none⟩) n2 n2] 30)) := (Below.refl _ _).alloc (Nat.le_refl _) _
  have k5' := has_below k5 Bx (by omega)
  have j5' := has_below j5 Bx (by omega)
  have p5' := has_below p5 Bx (by omega)
  have o5' := one_cells (t := 30) (Below.refl (w5.alloc (.cells #[.slice (some ⟨x7, 0, none⟩) L2 L2, .slice (some ⟨y7, 0, none⟩) n2 n2] 30)).heap.size (w5.alloc (.cells #[.slice (some ⟨x7, 0, none⟩) L2 L2, .slice (some ⟨y7, 0, none⟩) n2 n2] 30))) (by simp)
  have s5' := (s5.below Bx (Nat.le_refl _)).mono Bx.size
  have t5' := (t5.below Bx (Nat.le_refl _)).mono Bx.size
  have B5' := below_next B5 Bx
  clear k5 j5 p5 s5 t5 Bx
  go_wp2_with fail
  obtain ⟨W5, hW5⟩ : ∃ W, W = w5.alloc (.cells #[.slice (some ⟨x7, 0, none⟩) L2 L2, .slice (some ⟨y7, 0, none⟩) n2 n2] 30) := ⟨_, rfl⟩
  have Z5 : W5.heap.size = w5.heap.size + 1 := by rw [hW5]; simp
  rw [← hW5] at k5' j5' p5' o5' s5' t5' B5' ⊢
  clear hW5
  refine (HIM.out _ _ _ _ _ _ _ _ _ t5' s5').mono ?_
  rintro e w6 ⟨rfl, b6⟩
  have B6 := below_next B5' b6
  have k6 := has_below k5' b6 (by omega)
  have j6 := has_below j5' b6 (by omega)
  have p6 := has_below p5' b6 (by omega)
  have o6 := has_below o5' b6 (by omega)
  have s6 := (s5'.below b6 (Nat.le_refl _)).mono b6.size
  have t6 := (t5'.below b6 (Nat.le_refl _)).mono b6.size
  have z6 := Nat.le_trans (Nat.le_of_eq Z5.symm) b6.size
  clear b6 k5' j5' p5' o5' s5' t5' B5' HIM
  have KP : ∀ V, Below w6.heap.size w6 V → (Below w6.heap.size w6 V ∧ (∀ i, V.cell? ⟨w.heap.size, i, none⟩ = (#[.slice a1 L1 c1, .slice v1 n1 d1] : Array Value)[i]?) ∧ (∀ i, V.cell? ⟨w.heap.size + 1, i, none⟩ = (#[.slice a2 L2 c2, .slice v2 n2 d2] : Array Value)[i]?) ∧ (∀ i, V.cell? ⟨w4.heap.size, i, none⟩ = (#[.slice (some ⟨x5, 0, none⟩) L1 L1, .slice (some ⟨y5, 0, none⟩) n1 n1] : Array Value)[i]?) ∧ (∀ i, V.cell? ⟨w5.heap.size, i, none⟩ = (#[.slice (some ⟨x7, 0, none⟩) L2 L2, .slice (some ⟨y7, 0, none⟩) n2 n2] : Array Value)[i]?)) := fun V hV => ⟨hV, has_below k6 hV (by omega), has_below j6 hV (by omega), has_below p6 hV (by omega), has_below o6 hV (by omega)⟩
  have b6' := (Below.refl w6.heap.size w6).drew
  go_wp2_with fail
  clear k6 j6 p6 o6
  go_region_held3 (fun V => Below w6.heap.size w6 V ∧ (∀ i, V.cell? ⟨w.heap.size, i, none⟩ = (#[.slice a1 L1 c1, .slice v1 n1 d1] : Array Value)[i]?) ∧ (∀ i, V.cell? ⟨w.heap.size + 1, i, none⟩ = (#[.slice a2 L2 c2, .slice v2 n2 d2] : Array Value)[i]?) ∧ (∀ i, V.cell? ⟨w4.heap.size, i, none⟩ = (#[.slice (some ⟨x5, 0, none⟩) L1 L1, .slice (some ⟨y5, 0, none⟩) n1 n1] : Array Value)[i]?) ∧ (∀ i, V.cell? ⟨w5.heap.size, i, none⟩ = (#[.slice (some ⟨x7, 0, none⟩) L2 L2, .slice (some ⟨y7, 0, none⟩) n2 n2] : Array Value)[i]?)) (first | assumption | exact KP _ b6' | exact KP _ (by assumption)) (first | (go_at_call 6; refine (HT1.out _ (below_next B6 (And.left (by assumption)))).mono ?_; rintro e wA ⟨x1, y1, rfl, sA, bA⟩; have hA := below_next (w := w6) (And.left (by assumption)) bA) | (go_at_call 8; refine (eqModule_same _ _ _ _ _ _ _ _ _ _ X s1 _ _ ((t6.below hA (Nat.le_refl _)).mono hA.size) sA (Nat.le_refl _) l3 l5 HX.out).mono ?_; rintro e w7 ⟨rfl, b7⟩; have hB7 := below_next (w := w6) hA b7))
  all_goals
    have B7 := below_next B6 hB7
    have s7 := (s6.below hB7 (Nat.le_refl _)).mono hB7.size
    have KP7 : ∀ V, Below w7.heap.size w7 V → (Below w7.heap.size w7 V ∧ (∀ i, V.cell? ⟨w.heap.size, i, none⟩ = (#[.slice a1 L1 c1, .slice v1 n1 d1] : Array Value)[i]?) ∧ (∀ i, V.cell? ⟨w.heap.size + 1, i, none⟩ = (#[.slice a2 L2 c2, .slice v2 n2 d2] : Array Value)[i]?) ∧ (∀ i, V.cell? ⟨w4.heap.size, i, none⟩ = (#[.slice (some ⟨x5, 0, none⟩) L1 L1, .slice (some ⟨y5, 0, none⟩) n1 n1] : Array Value)[i]?) ∧ (∀ i, V.cell? ⟨w5.heap.size, i, none⟩ = (#[.slice (some ⟨x7, 0, none⟩) L2 L2, .slice (some ⟨y7, 0, none⟩) n2 n2] : Array Value)[i]?)) := fun V hV => ⟨hV, (KP _ (below_next hB7 hV)).2⟩
    have b7' := (Below.refl w7.heap.size w7).drew
    clear sA bA hA hB7 KP b6' b7
    go_wp2_with fail
    go_region_held3 (fun V => Below w7.heap.size w7 V ∧ (∀ i, V.cell? ⟨w.heap.size, i, none⟩ = (#[.slice a1 L1 c1, .slice v1 n1 d1] : Array Value)[i]?) ∧ (∀ i, V.cell? ⟨w.heap.size + 1, i, none⟩ = (#[.slice a2 L2 c2, .slice v2 n2 d2] : Array Value)[i]?) ∧ (∀ i, V.cell? ⟨w4.heap.size, i, none⟩ = (#[.slice (some ⟨x5, 0, none⟩) L1 L1, .slice (some ⟨y5, 0, none⟩) n1 n1] : Array Value)[i]?) ∧ (∀ i, V.cell? ⟨w5.heap.size, i, none⟩ = (#[.slice (some ⟨x7, 0, none⟩) L2 L2, .slice (some ⟨y7, 0, none⟩) n2 n2] : Array Value)[i]?)) (first | assumption | exact KP7 _ b7' | exact KP7 _ (by assumption)) (first | (go_at_call 6; refine (HT2.out _ (below_next B7 (And.left (by assumption)))).mono ?_; rintro e wA ⟨x1, y1, rfl, sA, bA⟩; have hA := below_next (w := w7) (And.left (by assumption)) bA) | (go_at_call 8; refine (eqModule_same _ _ _ _ _ _ _ _ _ _ Y s2 _ _ ((s7.below hA (Nat.le_refl _)).mono hA.size) sA (Nat.le_refl _) l4 l6 HY.out).mono ?_; rintro e w8 ⟨rfl, b8⟩; have hB8 := below_next (w := w7) hA b8))
    all_goals
      go_wp2
      go_ret
      exact ⟨rfl, below_next B7 hB8⟩
end Go.Proofs.Ytekhgakededicaa
