/- The law FnExactJumps, walked. -/
import Derived.Test.YtpjliclgjplebaaProg
import Derived.Test.YtpjliclgjplebaaKJmC
import Derived.Test.YtpjliclgjplebaaKSlotsB
import Derived.Deep.RegionHeld3
namespace Go.Proofs.Ytpjliclgjplebaa
set_option maxRecDepth 20000
open Go.RowKit
set_option linter.unusedSimpArgs false
set_option linter.unusedVariables false

theorem one_cellsJ {w w' : World} {A : Array Value} {t : TypeId} {C : Nat} (hB : Below C (w.alloc (.cells A t)) w') (hC : w.heap.size < C) : ∀ i, w'.cell? ⟨w.heap.size, i, none⟩ = A[i]? := by
  intro i
  rw [hB.cell (p := ⟨w.heap.size, i, none⟩) hC]; simp [go_sem]
theorem has_belowJ {w w' : World} {C b : Nat} {A : Array Value} (h : ∀ i, w.cell? ⟨b, i, none⟩ = A[i]?) (hb : Below C w w') (hC : b < C) : ∀ i, w'.cell? ⟨b, i, none⟩ = A[i]? := fun i => by
  rw [hb.cell (p := ⟨b, i, none⟩) hC]; exact h i
theorem below_boxJ {w W : World} {o : Obj} (h : Below w.heap.size w W) : Below w.heap.size w (W.alloc o) := h.alloc h.size o
set_option maxHeartbeats 4000000 in
theorem fnExactJumps_by (pa sl : Int) (au : Option Addr) (un cu : Nat) (ac : Option Addr) (cn cc : Nat) (ub : Nat → Bool) (ui co ca : Nat → Int) (Tr : Nat) (w : World) (n : Nat) (z : Nat → Int) (hnn : un ≤ 1048576 → cn ≤ 1048576 → n ≤ 1048576) (hs : SlF Tr w (.slice au un cu) un (2 * un) (upF ub ui)) (hrt : SlF Tr w (.slice ac cn cc) cn (2 * cn) (inF co ca)) (hl1 : un ≤ 9223372036854775807) (hl2 : cn ≤ 9223372036854775807)
    (hspec : un ≤ 1048576 → cn ≤ 1048576 → ∀ (au : Option Addr) (cu : Nat) (ac : Option Addr) (cc : Nat) (W : World) (T : Nat), SlF T W (.slice au un cu) un (2 * un) (upF ub ui) → SlF T W (.slice ac cn cc) cn (2 * cn) (inF co ca) → Calls Try.prog 6 #[.agg #[.int .i64 pa, .int .i64 sl, .slice au un cu, .slice ac cn cc]] W fun e w' => ∃ v, e = .returned v ∧ OwnF W.heap.size w'.heap.size 3 w' v n n (fun i => .int .i64 (z i)) ∧ Below W.heap.size W w')
    (himpl : un ≤ 1048576 → cn ≤ 1048576 → ∀ (au : Option Addr) (cu : Nat) (ac : Option Addr) (cc : Nat) (W : World) (T : Nat), SlF T W (.slice au un cu) un (2 * un) (upF ub ui) → SlF T W (.slice ac cn cc) cn (2 * cn) (inF co ca) → Calls Try.prog 8 #[.agg #[.int .i64 pa, .int .i64 sl, .slice au un cu, .slice ac cn cc]] W fun e w' => ∃ v, e = .returned v ∧ OwnF W.heap.size w'.heap.size 3 w' v n n (fun i => .int .i64 (z i)) ∧ Below W.heap.size W w') :
    Calls Try.prog 3 #[.agg #[.int .i64 pa, .int .i64 sl, .slice au un cu, .slice ac cn cc]] w fun e w' => e = .returned (.bool true) ∧ Below w.heap.size w w' := by
  by_cases h : (un : Int) + cn ≤ 1048576
  · have hn : un ≤ 1048576 := by omega
    have hn2 : cn ≤ 1048576 := by omega
    have h0 : ¬ (1048576 - (un : Int) - cn) < 0 := by omega
    have hnn := hnn hn hn2
    have k0 : ¬ (1 + (n : Int)) < 0 := by omega
    have k0' : ¬ (1 + 2 * (un : Int) + 2 * cn) < 0 := by omega
    have HSZ : ∀ W, _ := fun W => szProto_any pa sl au un cu ac cn cc 1048576 W (by omega) (by omega) hl1 hl2
    rw [if_pos h] at HSZ
    have HTA : Hid (∀ W, Below w.heap.size w W → _) := fun W (hW : Below w.heap.size w W) => toProto_tag pa sl au un cu ac cn cc ub ui co ca w.heap.size W (hs.here.below hW (Nat.le_refl _)) (hrt.here.below hW (Nat.le_refl _)) hW.size hn hn2
    have HSP : Hid _ := hspec hn hn2
    have HIM : Hid _ := himpl hn hn2
    clear hs hrt h hl1 hl2 hspec himpl
    go_enter Try.func3, Try.ntmps3
    go_wp2_with fail
    refine (HSZ _).mono ?_
    rintro e w1 ⟨rfl, b1⟩
    have B1 := below_first b1
    have k1 := one_cellsJ b1 (by simp)
    have z1 := size_first b1
    clear b1
    go_wp2_with fail
    refine (HTA.out _ B1).mono ?_
    rintro e w2 ⟨x1, x2, rfl, p1, p2, p3, p4, p5, b2⟩
    have o2 : PtOwn w1.heap.size w2.heap.size w2 x1 x2 un cn ub ui co ca := ⟨p1, p2, p3, p4, p5⟩
    clear p1 p2 p3 p4 p5
    have B2 := below_next B1 b2
    have k2 := has_belowJ k1 b2 z1
    have z2 := Nat.lt_of_lt_of_le z1 b2.size
    have s2 := o2.ups un
    have r2 := o2.code cn
    clear b2 k1 o2
    go_wp2_with fail
    refine (HSP.out (some ⟨x1, 0, none⟩) un (some ⟨x2, 0, none⟩) cn _ _ s2 r2).mono ?_
    rintro e w3 ⟨v3, rfl, o3, b3⟩
    obtain ⟨a1, c1, rfl⟩ := o3.sl.head
    have B3 := below_next B2 b3
    have k3 := has_belowJ k2 b3 z2
    have z3 := Nat.lt_of_lt_of_le z2 b3.size
    clear b3 k2 s2 r2
    go_wp2_with fail
    refine (HTA.out _ B3).mono ?_
    rintro e w4 ⟨x3, x4, rfl, p1, p2, p3, p4, p5, b4⟩
    have o4 : PtOwn w3.heap.size w4.heap.size w4 x3 x4 un cn ub ui co ca := ⟨p1, p2, p3, p4, p5⟩
    clear p1 p2 p3 p4 p5
    have B4 := below_next B3 b4
    have k4 := has_belowJ k3 b4 z3
    have z4 : w3.heap.size ≤ w4.heap.size := b4.size
    have z04 : w.heap.size < w4.heap.size := by omega
    have S4 := o3.sl.below b4 (Nat.le_refl _)
    clear k3 b4 o3
    have A4 : Below w4.heap.size w4 (w4.alloc (.cells #[.int .i64 pa, .int .i64 sl, .slice (some ⟨x3, 0, none⟩) un un, .slice (some ⟨x4, 0, none⟩) cn cn] 32)) := (Below.refl _ _).alloc (Nat.le_refl _) _
    have s4 := (o4.below A4 (Nat.le_refl _)).ups un
    have r4 := (o4.below A4 (Nat.le_refl _)).code cn
    go_wp2_with fail
    refine (HIM.out (some ⟨x3, 0, none⟩) un (some ⟨x4, 0, none⟩) cn _ _ s4 r4).mono ?_
    rintro e w5 ⟨v5, rfl, o5, b5⟩
    obtain ⟨a3, c3, rfl⟩ := o5.sl.head
    simp only [World.size_alloc] at o5
    have b5f := below_first b5
    have B5 := below_next (below_boxJ B4) b5
    have k5 := has_belowJ k4 b5f z04
    have p5 := one_cellsJ b5 (by simp)
    have z5 : w4.heap.size < w5.heap.size := size_first b5
    have o4' := o4.below b5f (Nat.le_refl _)
    have S5 := S4.below b5f (by omega)
    clear k4 b5 b5f o4 S4 A4 s4 r4
    go_wp2_with fail
    refine (eqIntS_same _ _ _ _ n z _ o5.sl S5 hnn).mono ?_
    rintro e w6 ⟨rfl, b6⟩
    have B6 := below_next B5 b6
    have k6 := has_belowJ k5 b6 (by omega)
    have p6 := has_belowJ p5 b6 (by omega)
    have z6 : w5.heap.size ≤ w6.heap.size := b6.size
    have o6 := o5.below b6 (Nat.le_refl _)
    have ox := o4'.below b6 (by omega)
    have S6 := S5.below b6 (by omega)
    clear k5 p5 b6 o5 o4' S5
    go_wp2_with fail
    have KP : ∀ V, Below w6.heap.size w6 V → (Below w6.heap.size w6 V ∧ (∀ i, V.cell? ⟨w.heap.size, i, none⟩ = (#[.int .i64 pa, .int .i64 sl, .slice au un cu, .slice ac cn cc] : Array Value)[i]?) ∧ (∀ i, V.cell? ⟨w4.heap.size, i, none⟩ = (#[.int .i64 pa, .int .i64 sl, .slice (some ⟨x3, 0, none⟩) un un, .slice (some ⟨x4, 0, none⟩) cn cn] : Array Value)[i]?)) := fun V hV => ⟨hV, has_belowJ k6 hV (by omega), has_belowJ p6 hV (by omega)⟩
    have b6' := (Below.refl w6.heap.size w6).drew
    have HK : Hid (∀ V, Below w6.heap.size w6 V → (∀ i, V.cell? ⟨w.heap.size, i, none⟩ = (#[.int .i64 pa, .int .i64 sl, .slice au un cu, .slice ac cn cc] : Array Value)[i]?) ∧ (∀ i, V.cell? ⟨w4.heap.size, i, none⟩ = (#[.int .i64 pa, .int .i64 sl, .slice (some ⟨x3, 0, none⟩) un un, .slice (some ⟨x4, 0, none⟩) cn cn] : Array Value)[i]?)) := fun V hV => ⟨has_belowJ k6 hV (by omega), has_belowJ p6 hV (by omega)⟩
    have F6 := ox.ups un
    have R6' := ox.code cn
    have HS6 : Hid (SlF w3.heap.size w6 (.slice a1 n c1) n n (fun i => .int .i64 (z i))) := S6
    have Ho6 : Hid (OwnF (w4.heap.size + 1) w5.heap.size 3 w6 (.slice a3 n c3) n n (fun i => .int .i64 (z i))) := o6
    have Hox : Hid (PtOwn w3.heap.size w4.heap.size w6 x3 x4 un cn ub ui co ca) := ox
    clear k6 p6 HSZ HSP S6 o6 ox
    go_region_held3 (fun V => Below w6.heap.size w6 V ∧ (∀ i, V.cell? ⟨w.heap.size, i, none⟩ = (#[.int .i64 pa, .int .i64 sl, .slice au un cu, .slice ac cn cc] : Array Value)[i]?) ∧ (∀ i, V.cell? ⟨w4.heap.size, i, none⟩ = (#[.int .i64 pa, .int .i64 sl, .slice (some ⟨x3, 0, none⟩) un un, .slice (some ⟨x4, 0, none⟩) cn cn] : Array Value)[i]?)) (first | assumption | exact KP _ b6' | exact KP _ (by assumption)) (first | (go_at_call 7; refine (HTA.out _ (below_next B6 (And.left (by assumption)))).mono ?_; rintro e w7 ⟨x5, x6, rfl, p1, p2, p3, p4, p5, bb⟩; have o7 : PtOwn _ w7.heap.size w7 x5 x6 un cn ub ui co ca := ⟨p1, p2, p3, p4, p5⟩; clear p1 p2 p3 p4 p5; have hB7 := below_next (w := w6) (And.left (by assumption)) bb; clear bb) | (go_at_call 10; refine (eqProto_twin pa sl _ un _ _ cn _ _ _ _ _ ub ui co ca w7.heap.size _ (Nat.le_refl _) ((F6.below hB7 (by omega)).mono (by have := hB7.size; omega)) ((R6'.below hB7 (by omega)).mono (by have := hB7.size; omega)) (o7.ups un) (o7.code cn) hn hn2).mono ?_; rintro e w8 ⟨rfl, bb⟩; have hB8 := below_next (w := w6) hB7 bb; clear bb))
    all_goals
      have B8 := below_next B6 hB8
      obtain ⟨k8, p8⟩ := HK.out _ hB8
      have z8 := hB8.size
      have o8 := Ho6.out.below hB8 (by omega)
      have ox8 := Hox.out.below hB8 (by omega)
      have S8 := HS6.out.below hB8 (by omega)
      clear HK KP hB7 hB8 o7 F6 R6' HS6 Ho6 Hox b6'
      go_wp2_with fail
      refine (markProto_any pa sl x3 x4 un un cn cn ub ui co ca w3.heap.size w4.heap.size 1 _ ox8 (by omega) hn hn2 (by omega) (by omega)).mono ?_
      rintro e w9 ⟨rfl, A9⟩
      have k9 := has_apartJ k8 A9 (by omega) (by omega)
      have S9 := S8.apart A9 (by omega)
      have zb := B3.size
      have B9 := B8.trans (A9.below (by omega) (by omega))
      have z9 := A9.size
      have o9 := o8.apart A9 (by omega)
      clear k8 p8 S8 A9 ox8 o8
      go_wp2_with fail
      refine (eqIntS_same _ _ _ _ n z _ o9.sl S9 hnn).mono ?_
      rintro e w10 ⟨rfl, b10⟩
      have B10 := below_next B9 b10
      have z10 := b10.size
      have k10 := has_belowJ k9 b10 (by omega)
      have S10 := S9.below b10 (by omega)
      have o10 := o9.below b10 (by omega)
      clear k9 S9 o9 b10
      go_wp2_with fail
      refine (markIntS_any (w4.heap.size + 1) w5.heap.size _ n z 1 _ o10 hnn (by omega) (by omega)).mono ?_
      rintro e w11 ⟨rfl, h11, U11⟩
      have A11 := U11.apart (Nat.le_refl _) (Nat.le_refl _)
      have k11 := has_apartJ k10 A11 (by omega) (by omega)
      have S11 := S10.apart A11 (by omega)
      have B11 := B10.trans (A11.below (by omega) (by omega))
      have z11 := A11.size
      clear k10 S10 A11 U11 o10
      go_wp2_with fail
      refine (heldIntS_any _ _ n 1 _ h11.sl hnn (by omega) (by omega)).mono ?_
      rintro e w12 ⟨rfl, b12⟩
      have z12 := b12.size
      have k12 := has_belowJ k11 b12 (by omega)
      have h12 := h11.below b12 (by omega)
      have S12 := S11.below b12 (by omega)
      have B12 := below_next B11 b12
      clear k11 h11 S11 b12
      go_wp2_with fail
      refine (HTA.out _ B12).mono ?_
      rintro e w13 ⟨x7, x8, rfl, p1, p2, p3, p4, p5, b13⟩
      have o13 : PtOwn w12.heap.size w13.heap.size w13 x7 x8 un cn ub ui co ca := ⟨p1, p2, p3, p4, p5⟩
      clear p1 p2 p3 p4 p5
      have z13 := b13.size
      have h13 := h12.below b13 (by omega)
      have S13 := S12.below b13 (by omega)
      have B13 := below_next B12 b13
      have s13 := o13.ups un
      have l13 := o13.code cn
      clear k12 h12 S12 b13 o13
      go_wp2_with fail
      refine (HIM.out (some ⟨x7, 0, none⟩) un (some ⟨x8, 0, none⟩) cn _ _ s13 l13).mono ?_
      rintro e w14 ⟨v14, rfl, o14, b14⟩
      obtain ⟨a5, c5, rfl⟩ := o14.sl.head
      have z14 := b14.size
      have h14 := h13.below b14 (by omega)
      have S14 := S13.below b14 (by omega)
      have B14 := below_next B13 b14
      clear h13 S13 b14 s13 l13
      go_wp2_with fail
      refine (eqIntS_same _ _ _ _ n z _ o14.sl S14 hnn).mono ?_
      rintro e w15 ⟨rfl, b15⟩
      have z15 := b15.size
      have h15 := h14.below b15 (by omega)
      have B15 := below_next B14 b15
      clear h14 S14 b15 o14
      go_wp2_with fail
      refine (heldIntS_any _ _ n 1 _ h15.sl hnn (by omega) (by omega)).mono ?_
      rintro e w16 ⟨rfl, b16⟩
      have B16 := below_next B15 b16
      go_wp2
      go_ret
      exact ⟨rfl, B16⟩
  · have HSZ : ∀ W, _ := fun W => szProto_any pa sl au un cu ac cn cc 1048576 W (by omega) (by omega) hl1 hl2
    rw [if_neg h] at HSZ
    clear hs hrt h hspec himpl
    go_enter Try.func3, Try.ntmps3
    go_wp2_with (go_at_call 5; refine (HSZ _).mono ?_; rintro e w1 ⟨rfl, b1⟩)
    go_ret
    exact ⟨rfl, below_first b1⟩
end Go.Proofs.Ytpjliclgjplebaa
