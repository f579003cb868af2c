/- The law FnExactImage, walked. -/
import Derived.Test.YtmckcnmlhgpnhaaGreatProg
import Derived.Test.YtmckcnmlhgpnhaaGreatKImB
import Derived.Test.YtmckcnmlhgpnhaaGreatKLawD
namespace Go.Proofs.YtmckcnmlhgpnhaaGreat
set_option maxRecDepth 20000
open Go.RowKit
set_option linter.unusedSimpArgs false
set_option linter.unusedVariables false

set_option maxHeartbeats 4000000 in
theorem fnExactImage_by (aw : Option Addr) (cw : Nat) (ws : List Int) (semi toh top : Int) (cyc : Bool) (scan old copied serial : Int) (ar : Option Addr) (cr : Nat) (rs : List (Int × Int)) (y : Nat → Int) (Tr : Nat) (w : World) (q : Bool) (n : Nat) (z : Nat → Int) (hnn : ws.length ≤ 1048576 → rs.length ≤ 1048576 → n ≤ 1048576) (hs : Sl w (.slice aw ws.length cw) ws) (hrt : SlF Tr w (.slice ar rs.length cr) rs.length (2 * rs.length) (fun i => .int .i64 (y i))) (hl1 : ws.length ≤ 9223372036854775807) (hl2 : rs.length ≤ 9223372036854775807)
    (hspec : ws.length ≤ 1048576 → rs.length ≤ 1048576 → ∀ (aw : Option Addr) (cw : Nat) (ar : Option Addr) (cr : Nat) (W : World) (T : Nat), Sl W (.slice aw ws.length cw) ws → ws.length ≤ cw → SlF T W (.slice ar rs.length cr) rs.length (2 * rs.length) (fun i => .int .i64 (y i)) → Calls Tryz.prog 20 #[.agg #[.slice aw ws.length cw, .int .i64 semi, .int .i64 toh, .int .i64 top, .bool cyc, .int .i64 scan, .int .i64 old, .int .i64 copied, .int .i64 serial, .slice ar rs.length cr]] W fun e w' => ∃ v, e = .returned (.tuple #[v, .bool q]) ∧ OwnF W.heap.size w'.heap.size 5 w' v n n (fun i => .int .u8 (z i)) ∧ Below W.heap.size W w')
    (himpl : ws.length ≤ 1048576 → rs.length ≤ 1048576 → ∀ (aw : Option Addr) (cw : Nat) (ar : Option Addr) (cr : Nat) (W : World) (T : Nat), Sl W (.slice aw ws.length cw) ws → ws.length ≤ cw → SlF T W (.slice ar rs.length cr) rs.length (2 * rs.length) (fun i => .int .i64 (y i)) → Calls Tryz.prog 21 #[.agg #[.slice aw ws.length cw, .int .i64 semi, .int .i64 toh, .int .i64 top, .bool cyc, .int .i64 scan, .int .i64 old, .int .i64 copied, .int .i64 serial, .slice ar rs.length cr]] W fun e w' => ∃ v, e = .returned (.tuple #[v, .bool q]) ∧ OwnF W.heap.size w'.heap.size 5 w' v n n (fun i => .int .u8 (z i)) ∧ Below W.heap.size W w') :
    Calls Tryz.prog 5 #[.agg #[.slice aw ws.length cw, .int .i64 semi, .int .i64 toh, .int .i64 top, .bool cyc, .int .i64 scan, .int .i64 old, .int .i64 copied, .int .i64 serial, .slice ar rs.length cr]] w fun e w' => e = .returned (.bool true) ∧ Below w.heap.size w w' := by
  by_cases h : (ws.length : Int) + rs.length ≤ 1048576
  · have hn : ws.length ≤ 1048576 := by omega
    have hn2 : rs.length ≤ 1048576 := by omega
    have h0 : ¬ (1048576 - (ws.length : Int) - rs.length) < 0 := by omega
    have hnn := hnn hn hn2
    have k0 : ¬ (1 + (n : Int)) < 0 := by omega
    have k0' : ¬ (1 + (ws.length : Int) + 2 * rs.length) < 0 := by omega
    have HSZ : ∀ W, _ := fun W => szArena_any aw ws.length cw semi toh top cyc scan old copied serial ar rs.length cr W hl1 hl2
    rw [if_pos h] at HSZ
    have HTA : Hid (∀ W, Below w.heap.size w W → _) := fun W (hW : Below w.heap.size w W) => toArena_own aw cw ws semi toh top cyc scan old copied serial ar cr rs y w.heap.size W (hs.below hW) hn (hrt.here.below hW (Nat.le_refl _)) hn2
    have HSP : Hid _ := hspec hn hn2
    have HIM : Hid _ := himpl hn hn2
    clear hs hrt h hl1 hl2 hspec himpl
    go_enter Tryz.func5, Tryz.ntmps5
    go_wp2_with fail
    refine (HSZ _).mono ?_
    rintro e w1 ⟨rfl, b1⟩
    have B1 := below_first b1
    have k1 := one_cells b1 (by simp)
    have z1 := size_first b1
    clear b1
    go_wp2_with fail
    refine (HTA.out _ B1).mono ?_
    rintro e w2 ⟨x1, x2, rfl, o2, b2⟩
    have B2 := below_next B1 b2
    have k2 := has_below k1 b2 z1
    have z2 := Nat.lt_of_lt_of_le z1 b2.size
    obtain ⟨s2, r2⟩ := ownAr_sl o2
    clear b2 k1 o2
    go_wp2_with fail
    refine (HSP.out (some ⟨x1, 0, none⟩) ws.length (some ⟨x2, 0, none⟩) rs.length _ _ s2 (Nat.le_refl _) r2).mono ?_
    rintro e w3 ⟨v3, rfl, o3, b3⟩
    obtain ⟨a1, c1, rfl⟩ := o3.sl.head
    have B3 := below_next B2 b3
    have k3 := has_below k2 b3 z2
    have z3 := Nat.lt_of_lt_of_le z2 b3.size
    clear b3 k2 s2 r2
    go_wp2_with fail
    refine (HTA.out _ B3).mono ?_
    rintro e w4 ⟨x3, x4, rfl, o4, b4⟩
    have B4 := below_next B3 b4
    have k4 := has_below k3 b4 z3
    have z4 : w3.heap.size ≤ w4.heap.size := b4.size
    have z04 : w.heap.size < w4.heap.size := by omega
    have S4 := o3.sl.below b4 (Nat.le_refl _)
    clear k3 b4 o3
    have A4 : Below w4.heap.size w4 (w4.alloc (.cells #[.slice (some ⟨x3, 0, none⟩) ws.length ws.length, .int .i64 semi, .int .i64 toh, .int .i64 top, .bool cyc, .int .i64 scan, .int .i64 old, .int .i64 copied, .int .i64 serial, .slice (some ⟨x4, 0, none⟩) rs.length rs.length] 30)) := (Below.refl _ _).alloc (Nat.le_refl _) _
    obtain ⟨s4, r4⟩ := ownAr_sl (o4.below A4 (Nat.le_refl _))
    go_wp2_with fail
    refine (HIM.out (some ⟨x3, 0, none⟩) ws.length (some ⟨x4, 0, none⟩) rs.length _ _ s4 (Nat.le_refl _) r4).mono ?_
    rintro e w5 ⟨v5, rfl, o5, b5⟩
    obtain ⟨a3, c3, rfl⟩ := o5.sl.head
    simp only [World.size_alloc] at o5
    have b5f := below_first b5
    have B5 := below_next (below_box B4) b5
    have k5 := has_below k4 b5f z04
    have p5 := one_cells b5 (by simp)
    have z5 : w4.heap.size < w5.heap.size := size_first b5
    have o4' := o4.below b5f (Nat.le_refl _)
    have S5 := S4.below b5f (by omega)
    clear k4 b5 b5f o4 S4 A4 s4 r4
    go_wp2_with fail
    refine (eqByteS_same _ _ _ _ n z _ o5.sl S5 hnn).mono ?_
    rintro e w6 ⟨rfl, b6⟩
    have B6 := below_next B5 b6
    have k6 := has_below k5 b6 (by omega)
    have p6 := has_below p5 b6 (by omega)
    have z6 : w5.heap.size ≤ w6.heap.size := b6.size
    have o6 := o5.below b6 (Nat.le_refl _)
    have ox := o4'.below b6 (by omega)
    have S6 := S5.below b6 (by omega)
    clear k5 p5 b6 o5 o4' S5
    go_wp2_with fail
    have KP : ∀ V, Below w6.heap.size w6 V → (Below w6.heap.size w6 V ∧ (∀ i, V.cell? ⟨w.heap.size, i, none⟩ = (#[.slice aw ws.length cw, .int .i64 semi, .int .i64 toh, .int .i64 top, .bool cyc, .int .i64 scan, .int .i64 old, .int .i64 copied, .int .i64 serial, .slice ar rs.length cr] : Array Value)[i]?) ∧ (∀ i, V.cell? ⟨w4.heap.size, i, none⟩ = (#[.slice (some ⟨x3, 0, none⟩) ws.length ws.length, .int .i64 semi, .int .i64 toh, .int .i64 top, .bool cyc, .int .i64 scan, .int .i64 old, .int .i64 copied, .int .i64 serial, .slice (some ⟨x4, 0, none⟩) rs.length rs.length] : Array Value)[i]?)) := fun V hV => ⟨hV, has_below k6 hV (by omega), has_below p6 hV (by omega)⟩
    have b6' := (Below.refl w6.heap.size w6).drew
    have HK : Hid (∀ V, Below w6.heap.size w6 V → (∀ i, V.cell? ⟨w.heap.size, i, none⟩ = (#[.slice aw ws.length cw, .int .i64 semi, .int .i64 toh, .int .i64 top, .bool cyc, .int .i64 scan, .int .i64 old, .int .i64 copied, .int .i64 serial, .slice ar rs.length cr] : Array Value)[i]?) ∧ (∀ i, V.cell? ⟨w4.heap.size, i, none⟩ = (#[.slice (some ⟨x3, 0, none⟩) ws.length ws.length, .int .i64 semi, .int .i64 toh, .int .i64 top, .bool cyc, .int .i64 scan, .int .i64 old, .int .i64 copied, .int .i64 serial, .slice (some ⟨x4, 0, none⟩) rs.length rs.length] : Array Value)[i]?)) := fun V hV => ⟨has_below k6 hV (by omega), has_below p6 hV (by omega)⟩
    have F6 := ox.sl.1
    have R6' := ox.sl.2
    have HS6 : Hid (SlF w3.heap.size w6 (.slice a1 n c1) n n (fun i => .int .u8 (z i))) := S6
    have Ho6 : Hid (OwnF (w4.heap.size + 1) w5.heap.size 5 w6 (.slice a3 n c3) n n (fun i => .int .u8 (z i))) := o6
    have Hox : Hid (OwnAr w3.heap.size w4.heap.size w6 (.slice (some ⟨x3, 0, none⟩) ws.length ws.length) (.slice (some ⟨x4, 0, none⟩) rs.length rs.length) ws.length rs.length (wordAt ws) y) := ox
    clear k6 p6 HSZ HSP S6 o6 ox
    go_region_held3 (fun V => Below w6.heap.size w6 V ∧ (∀ i, V.cell? ⟨w.heap.size, i, none⟩ = (#[.slice aw ws.length cw, .int .i64 semi, .int .i64 toh, .int .i64 top, .bool cyc, .int .i64 scan, .int .i64 old, .int .i64 copied, .int .i64 serial, .slice ar rs.length cr] : Array Value)[i]?) ∧ (∀ i, V.cell? ⟨w4.heap.size, i, none⟩ = (#[.slice (some ⟨x3, 0, none⟩) ws.length ws.length, .int .i64 semi, .int .i64 toh, .int .i64 top, .bool cyc, .int .i64 scan, .int .i64 old, .int .i64 copied, .int .i64 serial, .slice (some ⟨x4, 0, none⟩) rs.length rs.length] : Array Value)[i]?)) (first | assumption | exact KP _ b6' | exact KP _ (by assumption)) (first | (go_at_call 12; refine (HTA.out _ (below_next B6 (And.left (by assumption)))).mono ?_; rintro e w7 ⟨x5, x6, rfl, o7, bb⟩; have hB7 := below_next (w := w6) (And.left (by assumption)) bb; clear bb) | (go_at_call 14; refine (eqArena_same _ _ _ _ _ _ _ _ ws.length rs.length (wordAt ws) y _ _ _ _ _ _ _ _ _ (F6.below hB7 (by omega)) o7.sl.1 hn (R6'.below hB7 (by omega)) o7.sl.2 hn2).mono ?_; rintro e w8 ⟨rfl, bb⟩; have hB8 := below_next (w := w6) hB7 bb; clear bb))
    all_goals
      have B8 := below_next B6 hB8
      obtain ⟨k8, p8⟩ := HK.out _ hB8
      have z8 := hB8.size
      have o8 := Ho6.out.below hB8 (by omega)
      have ox8 := Hox.out.below hB8 (by omega)
      have S8 := HS6.out.below hB8 (by omega)
      clear HK KP hB7 hB8 o7 F6 R6' HS6 Ho6 Hox b6'
      obtain ⟨y1, t1, y2, t2, g1, g2, g3, g4, g5, gg6, g7⟩ := ox8
      go_wp2_with fail
      refine (markArena_any y1 t1 y2 t2 w3.heap.size w4.heap.size _ _ ws.length rs.length (wordAt ws) y _ _ _ _ _ _ _ _ _ gg6 hn g7 hn2 g5 (by omega) g2 (by omega) g4 (by omega)).mono ?_
      rintro e w9 ⟨rfl, _, _, A9⟩
      have k9 := has_apart k8 A9 (by omega) (by omega)
      have S9 := S8.apart A9 (by omega)
      have zb := B3.size
      have B9 := B8.trans (A9.below (by omega) (by omega))
      have z9 := A9.size
      have o9 := o8.apart A9 (by omega)
      clear k8 p8 S8 A9 gg6 g7 o8
      go_wp2_with fail
      refine (eqByteS_same _ _ _ _ n z _ o9.sl S9 hnn).mono ?_
      rintro e w10 ⟨rfl, b10⟩
      have B10 := below_next B9 b10
      have z10 := b10.size
      have k10 := has_below k9 b10 (by omega)
      have S10 := S9.below b10 (by omega)
      have o10 := o9.below b10 (by omega)
      clear k9 S9 o9 b10
      go_wp2_with fail
      refine (markByteS_any (w4.heap.size + 1) w5.heap.size _ n z 1 _ o10 hnn (by omega) (by omega)).mono ?_
      rintro e w11 ⟨rfl, h11, U11⟩
      have A11 := U11.apart (Nat.le_refl _) (Nat.le_refl _)
      have k11 := has_apart k10 A11 (by omega) (by omega)
      have S11 := S10.apart A11 (by omega)
      have B11 := B10.trans (A11.below (by omega) (by omega))
      have z11 := A11.size
      clear k10 S10 A11 U11 o10
      go_wp2_with fail
      refine (heldByteS_any _ _ n 1 _ h11.sl hnn (by omega) (by omega)).mono ?_
      rintro e w12 ⟨rfl, b12⟩
      have z12 := b12.size
      have k12 := has_below k11 b12 (by omega)
      have h12 := h11.below b12 (by omega)
      have S12 := S11.below b12 (by omega)
      have B12 := below_next B11 b12
      clear k11 h11 S11 b12
      go_wp2_with fail
      refine (HTA.out _ B12).mono ?_
      rintro e w13 ⟨x7, x8, rfl, o13, b13⟩
      have z13 := b13.size
      have h13 := h12.below b13 (by omega)
      have S13 := S12.below b13 (by omega)
      have B13 := below_next B12 b13
      obtain ⟨s13, l13⟩ := ownAr_sl o13
      clear k12 h12 S12 b13 o13
      go_wp2_with fail
      refine (HIM.out (some ⟨x7, 0, none⟩) ws.length (some ⟨x8, 0, none⟩) rs.length _ _ s13 (Nat.le_refl _) l13).mono ?_
      rintro e w14 ⟨v14, rfl, o14, b14⟩
      obtain ⟨a5, c5, rfl⟩ := o14.sl.head
      have z14 := b14.size
      have h14 := h13.below b14 (by omega)
      have S14 := S13.below b14 (by omega)
      have B14 := below_next B13 b14
      clear h13 S13 b14 s13 l13
      go_wp2_with fail
      refine (eqByteS_same _ _ _ _ n z _ o14.sl S14 hnn).mono ?_
      rintro e w15 ⟨rfl, b15⟩
      have z15 := b15.size
      have h15 := h14.below b15 (by omega)
      have B15 := below_next B14 b15
      clear h14 S14 b15 o14
      go_wp2_with fail
      refine (heldByteS_any _ _ n 1 _ h15.sl hnn (by omega) (by omega)).mono ?_
      rintro e w16 ⟨rfl, b16⟩
      have B16 := below_next B15 b16
      go_wp2
      go_ret
      exact ⟨rfl, B16⟩
  · have HSZ : ∀ W, _ := fun W => szArena_any aw ws.length cw semi toh top cyc scan old copied serial ar rs.length cr W hl1 hl2
    rw [if_neg h] at HSZ
    clear hs hrt h hspec himpl
    go_enter Tryz.func5, Tryz.ntmps5
    go_wp2_with (go_at_call 10; refine (HSZ _).mono ?_; rintro e w1 ⟨rfl, b1⟩)
    go_ret
    exact ⟨rfl, below_first b1⟩
end Go.Proofs.YtmckcnmlhgpnhaaGreat
