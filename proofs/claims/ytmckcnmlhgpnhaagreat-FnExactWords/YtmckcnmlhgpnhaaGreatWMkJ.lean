/- - -/
import Derived.Test.YtmckcnmlhgpnhaaGreatWMdE
import Derived.Deep.RegionHeld3
namespace Go.Proofs.YtmckcnmlhgpnhaaGreat
set_option maxRecDepth 20000
open Go.RowKit
set_option linter.unusedSimpArgs false
set_option linter.unusedVariables false
set_option maxHeartbeats 4000000 in
theorem zpl (a1 : Option Addr) (L c1 : Nat) (a2 : Option Addr) (n c2 : Nat) (pa sl : Int) (au : Option Addr) (un cu : Nat) (ac : Option Addr) (cn cc : Nat) (op : Int) (w : World) (hL : L <= 100) (hn : n <= 255) (hs0 : 0 <= sl) (hs : sl <= 20) (hu : un <= 12) (hc : cn <= 4000) :
 Calls Tryz.prog 181 #[.agg #[.slice a1 L c1, .slice a2 n c2], .agg #[.int .i64 pa, .int .i64 sl, .slice au un cu, .slice ac cn cc], .int .i64 op] w fun e w' => e = .returned (.tuple #[.int .i64 (zv L n sl un cn op).1, .int .i64 (zv L n sl un cn op).2]) /\ Below w.heap.size w w' := by
 have B2 : Below w.heap.size w ((w.alloc (.cells #[.slice a1 L c1, .slice a2 n c2] 47)).alloc (.cells #[.int .i64 pa, .int .i64 sl, .slice au un cu, .slice ac cn cc] 176)) := ((Below.refl _ _).alloc (Nat.le_refl _) _).alloc (by simp) _
 have hL' : (L : Int) <= 100 := by omega
 have hn' : (n : Int) <= 255 := by omega
 have hu' : (un : Int) <= 12 := by omega
 have hc' : (cn : Int) <= 4000 := by omega
 by_cases h1 : op = 1
 · subst h1
   go_enter Tryz.func181, Tryz.ntmps181
   go_wp2
   go_ret2
   exact ⟨by simp [zv], B2⟩
 by_cases h2 : op = 2
 · subst h2
   go_enter Tryz.func181, Tryz.ntmps181
   go_wp2
   go_ret2
   exact ⟨by simp [zv], B2⟩
 by_cases h3 : op = 3
 · subst h3
   go_enter Tryz.func181, Tryz.ntmps181
   go_wp2
   go_ret2
   exact ⟨by simp [zv], B2⟩
 by_cases h4 : op = 4
 · subst h4
   go_enter Tryz.func181, Tryz.ntmps181
   go_wp2
   go_quiet (fail)
   go_wp2
   go_ret2
   exact ⟨by simp [zv], below_drewN B2 _⟩
 by_cases h5 : op = 5
 · subst h5
   go_enter Tryz.func181, Tryz.ntmps181
   go_wp2
   go_quiet (fail)
   go_wp2
   go_ret2
   exact ⟨by simp [zv], below_drewN B2 _⟩
 by_cases h6 : op = 6
 · subst h6
   go_enter Tryz.func181, Tryz.ntmps181
   go_wp2
   go_quiet (fail)
   go_wp2
   go_ret2
   exact ⟨by simp [zv], below_drewN B2 _⟩
 by_cases h7 : op = 7
 · subst h7
   go_enter Tryz.func181, Tryz.ntmps181
   go_wp2
   go_quiet (fail)
   go_wp2
   go_ret2
   exact ⟨by simp [zv], below_drewN B2 _⟩
 by_cases h8 : op = 8
 · subst h8
   go_enter Tryz.func181, Tryz.ntmps181
   go_wp2
   go_quiet (fail)
   go_wp2
   go_ret2
   exact ⟨by simp [zv], below_drewN B2 _⟩
 by_cases h9 : op = 9
 · subst h9
   go_enter Tryz.func181, Tryz.ntmps181
   go_wp2
   go_quiet (fail)
   go_wp2
   go_ret2
   exact ⟨by simp [zv], below_drewN B2 _⟩
 by_cases h10 : op = 10
 · subst h10
   go_enter Tryz.func181, Tryz.ntmps181
   go_wp2
   go_quiet (fail)
   go_wp2
   go_ret2
   exact ⟨by simp [zv], below_drewN B2 _⟩
 by_cases h11 : op = 11
 · subst h11
   go_enter Tryz.func181, Tryz.ntmps181
   go_wp2
   go_quiet (fail)
   go_wp2
   go_ret2
   exact ⟨by simp [zv], below_drewN B2 _⟩
 by_cases h12 : op = 12
 · subst h12
   go_enter Tryz.func181, Tryz.ntmps181
   go_wp2
   go_quiet (fail)
   go_wp2
   go_ret2
   exact ⟨by simp [zv], below_drewN B2 _⟩
 by_cases h13 : op = 13
 · subst h13
   go_enter Tryz.func181, Tryz.ntmps181
   go_wp2
   go_ret2
   exact ⟨by simp [zv], B2⟩
 by_cases h14 : op = 14
 · subst h14
   go_enter Tryz.func181, Tryz.ntmps181
   go_wp2
   go_ret2
   exact ⟨by simp [zv], B2⟩
 by_cases h15 : op = 15
 · subst h15
   go_enter Tryz.func181, Tryz.ntmps181
   go_wp2
   go_ret2
   exact ⟨by simp [zv], B2⟩
 by_cases h16 : op = 16
 · subst h16
   go_enter Tryz.func181, Tryz.ntmps181
   go_wp2
   go_ret2
   exact ⟨by simp [zv], B2⟩
 by_cases h17 : op = 17
 · subst h17
   go_enter Tryz.func181, Tryz.ntmps181
   go_wp2
   go_ret2
   exact ⟨by simp [zv], B2⟩
 by_cases h18 : op = 18
 · subst h18
   go_enter Tryz.func181, Tryz.ntmps181
   go_wp2
   go_quiet (fail)
   go_wp2
   go_ret2
   exact ⟨by simp [zv], below_drewN B2 _⟩
 by_cases h19 : op = 19
 · subst h19
   go_enter Tryz.func181, Tryz.ntmps181
   go_wp2
   go_quiet (fail)
   go_wp2
   go_ret2
   exact ⟨by simp [zv], below_drewN B2 _⟩
 by_cases h20 : op = 20
 · subst h20
   go_enter Tryz.func181, Tryz.ntmps181
   go_wp2
   go_quiet (fail)
   go_wp2
   go_ret2
   exact ⟨by simp [zv], below_drewN B2 _⟩
 by_cases h21 : op = 21
 · subst h21
   go_enter Tryz.func181, Tryz.ntmps181
   go_wp2
   go_quiet (fail)
   go_wp2
   go_ret2
   exact ⟨by simp [zv], below_drewN B2 _⟩
 by_cases h22 : op = 22
 · subst h22
   go_enter Tryz.func181, Tryz.ntmps181
   go_wp2
   go_ret2
   exact ⟨by simp [zv], B2⟩
 by_cases h23 : op = 23
 · subst h23
   go_enter Tryz.func181, Tryz.ntmps181
   go_wp2
   go_ret2
   exact ⟨by simp [zv], B2⟩
 by_cases h24 : op = 24
 · subst h24
   go_enter Tryz.func181, Tryz.ntmps181
   go_wp2
   go_ret2
   exact ⟨by simp [zv], B2⟩
 by_cases h25 : op = 25
 · subst h25
   go_enter Tryz.func181, Tryz.ntmps181
   go_wp2
   go_ret2
   exact ⟨by simp [zv], B2⟩
 by_cases h26 : op = 26
 · subst h26
   go_enter Tryz.func181, Tryz.ntmps181
   go_wp2
   go_ret2
   exact ⟨by simp [zv], B2⟩
 by_cases h27 : op = 27
 · subst h27
   go_enter Tryz.func181, Tryz.ntmps181
   go_wp2
   go_ret2
   exact ⟨by simp [zv], B2⟩
 have e1 : (op == 1) = false := by simp [h1]
 have e2 : (op == 2) = false := by simp [h2]
 have e3 : (op == 3) = false := by simp [h3]
 have e4 : (op == 4) = false := by simp [h4]
 have e5 : (op == 5) = false := by simp [h5]
 have e6 : (op == 6) = false := by simp [h6]
 have e7 : (op == 7) = false := by simp [h7]
 have e8 : (op == 8) = false := by simp [h8]
 have e9 : (op == 9) = false := by simp [h9]
 have e10 : (op == 10) = false := by simp [h10]
 have e11 : (op == 11) = false := by simp [h11]
 have e12 : (op == 12) = false := by simp [h12]
 have e13 : (op == 13) = false := by simp [h13]
 have e14 : (op == 14) = false := by simp [h14]
 have e15 : (op == 15) = false := by simp [h15]
 have e16 : (op == 16) = false := by simp [h16]
 have e17 : (op == 17) = false := by simp [h17]
 have e18 : (op == 18) = false := by simp [h18]
 have e19 : (op == 19) = false := by simp [h19]
 have e20 : (op == 20) = false := by simp [h20]
 have e21 : (op == 21) = false := by simp [h21]
 have e22 : (op == 22) = false := by simp [h22]
 have e23 : (op == 23) = false := by simp [h23]
 have e24 : (op == 24) = false := by simp [h24]
 have e25 : (op == 25) = false := by simp [h25]
 have e26 : (op == 26) = false := by simp [h26]
 have e27 : (op == 27) = false := by simp [h27]
 go_enter Tryz.func181, Tryz.ntmps181
 go_wp2
 go_ret2
 exact ⟨by simp [zv, *], B2⟩
set_option maxHeartbeats 1000000 in
theorem zl4 (pa sl : Int) (au : Option Addr) (un cu : Nat) (ac : Option Addr) (cn cc : Nat) (co ca : Nat -> Int) (T : Nat) (w : World) (hs2 : SlF T w (.slice ac cn cc) cn (2 * cn) (inF co ca)) (hT : T <= w.heap.size) (hu : un <= 1048576) (hc : cn <= 1048576) (ub : Nat -> Bool) (ui : Nat -> Int) :
 Calls Tryz.prog 180 #[.agg #[.int .i64 pa, .int .i64 sl, .slice au un cu, .slice ac cn cc]] w fun e w' => zf7 (zey ⟨pa, sl, un, ub, ui, cn, co, ca⟩) w e w' := by
 have B1 : Below w.heap.size w (w.alloc (.cells #[.int .i64 pa, .int .i64 sl, .slice au un cu, .slice ac cn cc] 176)) := (Below.refl _ _).alloc (Nat.le_refl _) _
 have hu' : (un : Int) <= 1048576 := by omega
 have hc' : (cn : Int) <= 1048576 := by omega
 by_cases g0 : 0 <= pa
 rotate_left
 · go_enter Tryz.func180, Tryz.ntmps180
   go_wp2
   go_ret
   exact ⟨false, rfl, ⟨fun h => (by cases h), fun h => (by have := h.1; simp only at this; omega)⟩, B1⟩
 by_cases g1 : pa <= sl
 rotate_left
 · have g1' : sl < pa := by omega
   go_enter Tryz.func180, Tryz.ntmps180
   go_wp2
   go_ret
   exact ⟨false, rfl, ⟨fun h => (by cases h), fun h => (by have := h.2.1; simp only at this; omega)⟩, B1⟩
 by_cases g2 : sl <= 20
 rotate_left
 · have g2' : 20 < sl := by omega
   go_enter Tryz.func180, Tryz.ntmps180
   go_wp2
   go_ret
   exact ⟨false, rfl, ⟨fun h => (by cases h), fun h => (by have := h.2.2.1; simp only at this; omega)⟩, B1⟩
 by_cases g3 : un <= 12
 rotate_left
 · have g3' : 12 < (un : Int) := by omega
   go_enter Tryz.func180, Tryz.ntmps180
   go_wp2
   go_ret
   exact ⟨false, rfl, ⟨fun h => (by cases h), fun h => absurd h.2.2.2.1 g3⟩, B1⟩
 have g3' : (un : Int) <= 12 := by omega
 by_cases g4 : 1 <= cn
 rotate_left
 · have g4' : (cn : Int) < 1 := by omega
   go_enter Tryz.func180, Tryz.ntmps180
   go_wp2
   go_ret
   exact ⟨false, rfl, ⟨fun h => (by cases h), fun h => absurd h.2.2.2.2.1 g4⟩, B1⟩
 have g4' : 1 <= (cn : Int) := by omega
 by_cases g5 : cn <= 4000
 rotate_left
 · have g5' : 4000 < (cn : Int) := by omega
   go_enter Tryz.func180, Tryz.ntmps180
   go_wp2
   go_ret
   exact ⟨false, rfl, ⟨fun h => (by cases h), fun h => absurd h.2.2.2.2.2.1 g5⟩, B1⟩
 have g5' : (cn : Int) <= 4000 := by omega
 obtain ⟨b, off, cap', hv, lb, lb', hc2⟩ := SlF.parts (hs2.below B1 hT) (k := 0) (by omega)
 simp only [Value.slice.injEq] at hv
 obtain ⟨rfl, _, rfl⟩ := hv
 have hx : (w.alloc (.cells #[.int .i64 pa, .int .i64 sl, .slice au un cu, .slice (some ⟨b, off, none⟩) cn cc] 176)).cell? ⟨b, off + (cn - 1) * 2, none⟩ = some (.int .i64 (co (cn - 1))) := by rw [hc2 ((cn - 1) * 2) (by omega), zhh]
 have e1 : ((cn : Int) - 1).toNat = cn - 1 := by omega
 obtain ⟨z, hz⟩ : ∃ z, co (cn - 1) = z := ⟨_, rfl⟩
 rw [hz] at hx
 clear hs2 hc2
 by_cases g6 : z = 24
 · subst g6
   go_enter Tryz.func180, Tryz.ntmps180
   go_wp2
   go_ret
   exact ⟨true, rfl, ⟨fun _ => ⟨g0, g1, g2, g3, g4, g5, hz⟩, fun _ => rfl⟩, B1⟩
 · have g6' : (z == 24) = false := by simp [g6]
   go_enter Tryz.func180, Tryz.ntmps180
   go_wp2
   go_ret
   exact ⟨false, rfl, ⟨fun h => (by cases h), fun h => absurd (hz ▸ h.2.2.2.2.2.2) g6⟩, B1⟩
theorem zr9 (a1 : Option Addr) (L c1 : Nat) (a2 : Option Addr) (n c2 : Nat) (s : Nat -> ByteArray) (T : Nat) (w : World) (hs : TxF T w (.slice a2 n c2) n s) (hT : T <= w.heap.size) (hn : n <= 1048576) (hsz : ∀ j, j < n -> (s j).size <= 9223372036854775807) :
 Calls Tryz.prog 140 #[.agg #[.slice a1 L c1, .slice a2 n c2]] w fun e w' => zf7 (zh7 n s) w e w' := by
 have HS : Hid (TxF T w (.slice a2 n c2) n s) := hs
 have HZ : Hid (∀ j, j < n -> (s j).size <= 9223372036854775807) := hsz
 have hn' : (n : Int) <= 1048576 := by omega
 clear hs hsz
 go_enter Tryz.func140, Tryz.ntmps140
 go_wp2
 go_loopw [8] (fun i wr => ∃ k : Nat, k <= n /\ i = .int .i64 k /\ Hid (∀ p, p < k -> (s p).size <= 160) /\ Below w.heap.size w wr /\ (∀ i, wr.cell? ⟨w.heap.size, i, none⟩ = (#[.slice a1 L c1, .slice a2 n c2] : Array Value)[i]?)) (fun i _ => n - (intOf i).toNat)
 case atStart => exact ⟨0, Nat.zero_le _, rfl, fun p hp => by omega, (Below.refl _ _).alloc (Nat.le_refl _) _, fun i => by simp [go_sem]⟩
 case round =>
  obtain ⟨k, hk, rfl, HP, hF, K1⟩ := hrel
  by_cases hlt : k < n
  · have hlt' : (k : Int) < (n : Int) := by omega
    obtain ⟨br, offr, cap', hv, _, lbr, hcr⟩ := SlF.parts (HS.out.below hF hT) (k := 0) (by omega)
    simp only [Value.slice.injEq] at hv
    obtain ⟨rfl, _, rfl⟩ := hv
    have hc1 : wr.cell? ⟨br, offr + k, none⟩ = some (.string (s k)) := hcr k hlt
    have hz : ((s k).size : Int) <= 9223372036854775807 := by have := HZ.out k hlt; omega
    clear hcr HS
    by_cases g : (s k).size <= 160
    · have HV : Hid (∀ p, p < k + 1 -> (s p).size <= 160) := zb1 HP.out g
      have g' : ((s k).size : Int) <= 160 := by omega
      clear g
      generalize s k = tx at hc1 g' hz
      go_wp2
      go_roundw
      case rel => exact ⟨k + 1, by omega, by go_num, HV, hF, K1⟩
      case measure => simp [intOf]; omega
    · have HV : Hid (¬ zh7 n s) := fun h => g (h.2 k hlt)
      have g' : 160 < ((s k).size : Int) := by omega
      clear g
      generalize s k = tx at hc1 g' hz
      go_wp2
      go_ret
      exact ⟨false, rfl, ⟨fun h => (by cases h), fun h => absurd h HV.out⟩, hF⟩
  · have hge : (n : Int) <= (k : Int) := by omega
    go_wp2
    go_ret
    exact ⟨_, rfl, ⟨fun h => ⟨by have := of_decide_eq_true h; omega, fun j hj => HP.out j (by omega)⟩, fun h => decide_eq_true (by have := h.1; omega)⟩, hF⟩
set_option maxHeartbeats 1000000 in
theorem zr8 (pa sl : Int) (au : Option Addr) (un cu : Nat) (ac : Option Addr) (cn cc : Nat) (ar : Option Addr) (m cr : Nat) (ub : Nat -> Bool) (ui : Nat -> Int) (T : Nat) (w : World) (hs : SlF T w (.slice ar m cr) m (2 * m) (upF ub ui)) (hT : T <= w.heap.size) (hm : m <= 1048576) (hu : un <= 1048576) :
 Calls Tryz.prog 182 #[.agg #[.int .i64 pa, .int .i64 sl, .slice au un cu, .slice ac cn cc], .slice ar m cr] w fun e w' => zf7 (∀ k, k < m -> zeg sl un ub ui k) w e w' := by
 have HS : Hid (SlF T w (.slice ar m cr) m (2 * m) (upF ub ui)) := hs
 have hm' : (m : Int) <= 1048576 := by omega
 have hu' : (un : Int) <= 1048576 := by omega
 clear hs
 go_enter Tryz.func182, Tryz.ntmps182
 go_wp2
 go_loopw [10] (fun i wr => ∃ k : Nat, k <= m /\ i = .int .i64 k /\ Hid (∀ p, p < k -> zeg sl un ub ui p) /\ Below w.heap.size w wr /\ (∀ i, wr.cell? ⟨w.heap.size, i, none⟩ = (#[.int .i64 pa, .int .i64 sl, .slice au un cu, .slice ac cn cc] : Array Value)[i]?) /\ w.heap.size + 1 <= wr.heap.size) (fun i _ => m - (intOf i).toNat)
 case atStart => exact ⟨0, Nat.zero_le _, rfl, fun p hp => by omega, (Below.refl _ _).alloc (Nat.le_refl _) _, fun i => by simp [go_sem], by simp⟩
 case round =>
  obtain ⟨k, hk, rfl, HP, hF, K1, z1⟩ := hrel
  by_cases hlt : k < m
  · have hlt' : (k : Int) < (m : Int) := by omega
    obtain ⟨br, offr, cap', hv, _, lbr, hcr⟩ := SlF.parts (HS.out.below hF hT) (k := 0) (by omega)
    simp only [Value.slice.injEq] at hv
    obtain ⟨rfl, _, rfl⟩ := hv
    have q1 : wr.cell? ⟨br, offr + k * 2, none⟩ = some (.bool (ub k)) := by rw [hcr (k * 2) (by omega), zkc]
    have q2 : wr.cell? ⟨br, offr + k * 2 + 1, none⟩ = some (.int .i64 (ui k)) := by rw [Nat.add_assoc, hcr (k * 2 + 1) (by omega), zkd]
    have lw : w.heap.size < wr.heap.size := by omega
    have BX : Below w.heap.size w (wr.alloc (.cells #[.bool (ub k), .int .i64 (ui k)] 206)) := hF.alloc hF.size _
    have NU : Hid (zeg sl un ub ui k ↔ 0 <= ui k /\ ui k < (if ub k = true then sl else (un : Int))) := Iff.rfl
    clear hcr HS
    obtain ⟨yb, hyb⟩ : ∃ y, ub k = y := ⟨_, rfl⟩
    obtain ⟨yi, hyi⟩ : ∃ y, ui k = y := ⟨_, rfl⟩
    rw [hyb, hyi] at NU BX
    rw [hyb] at q1
    rw [hyi] at q2
    have K1' := zam K1 ((Below.refl wr.heap.size wr).alloc (Nat.le_refl _) (.cells #[.bool yb, .int .i64 yi] 206)) lw
    by_cases g0 : 0 <= yi
    rotate_left
    · have HV : Hid (¬ zeg sl un ub ui k) := fun h => g0 (NU.out.1 h).1
      have g0' : yi < 0 := by omega
      clear g0
      cases yb <;>
       (go_wp2
        go_ret
        exact ⟨false, rfl, ⟨fun h => (by cases h), fun h => absurd (h k hlt) HV.out⟩, BX⟩)
    cases yb with
    | true =>
      by_cases g1 : yi < sl
      · have HV : Hid (∀ p, p < k + 1 -> zeg sl un ub ui p) := zb1 HP.out (NU.out.2 ⟨g0, by simpa using g1⟩)
        go_wp2
        go_roundw
        case rel => exact ⟨k + 1, by omega, by go_num, HV, BX, K1', by simp; omega⟩
        case measure => simp [intOf]; omega
      · have HV : Hid (¬ zeg sl un ub ui k) := fun h => g1 (by simpa using (NU.out.1 h).2)
        have g1' : sl <= yi := by omega
        clear g1
        go_wp2
        go_ret
        exact ⟨false, rfl, ⟨fun h => (by cases h), fun h => absurd (h k hlt) HV.out⟩, BX⟩
    | false =>
      by_cases g1 : yi < (un : Int)
      · have HV : Hid (∀ p, p < k + 1 -> zeg sl un ub ui p) := zb1 HP.out (NU.out.2 ⟨g0, by simpa using g1⟩)
        go_wp2
        go_roundw
        case rel => exact ⟨k + 1, by omega, by go_num, HV, BX, K1', by simp; omega⟩
        case measure => simp [intOf]; omega
      · have HV : Hid (¬ zeg sl un ub ui k) := fun h => g1 (by simpa using (NU.out.1 h).2)
        have g1' : (un : Int) <= yi := by omega
        clear g1
        go_wp2
        go_ret
        exact ⟨false, rfl, ⟨fun h => (by cases h), fun h => absurd (h k hlt) HV.out⟩, BX⟩
  · have hge : (m : Int) <= (k : Int) := by omega
    go_wp2
    go_ret
    exact ⟨true, rfl, ⟨fun _ j hj => HP.out j (by omega), fun _ => rfl⟩, hF⟩
set_option maxHeartbeats 2000000 in
theorem zpk (a1 : Option Addr) (L c1 : Nat) (a2 : Option Addr) (n c2 : Nat) (X : Nat -> PtD) (T : Nat) (w : World) (h1 : PtF T w (.slice a1 L c1) L X) (hT : T <= w.heap.size) (hL : L <= 1048576) (hX : ∀ j, j < L -> PLe (X j) 1048576) :
 Calls Tryz.prog 141 #[.agg #[.slice a1 L c1, .slice a2 n c2]] w fun e w' => zf7 (zgq L X) w e w' := by
 have H1 : Hid (PtF T w (.slice a1 L c1) L X) := h1
 have HX : Hid (∀ j, j < L -> PLe (X j) 1048576) := hX
 have hL' : (L : Int) <= 1048576 := by omega
 have B1 : Below w.heap.size w (w.alloc (.cells #[.slice a1 L c1, .slice a2 n c2] 47)) := (Below.refl _ _).alloc (Nat.le_refl _) _
 clear h1 hX
 by_cases g0 : 1 <= L
 rotate_left
 · have g0' : (L : Int) < 1 := by omega
   go_enter Tryz.func141, Tryz.ntmps141
   go_wp2
   go_ret
   exact ⟨false, rfl, ⟨fun h => (by cases h), fun h => absurd h.1 g0⟩, B1⟩
 have g0' : 1 <= (L : Int) := by omega
 by_cases g1 : L <= 100
 rotate_left
 · have g1' : 100 < (L : Int) := by omega
   go_enter Tryz.func141, Tryz.ntmps141
   go_wp2
   go_ret
   exact ⟨false, rfl, ⟨fun h => (by cases h), fun h => absurd h.2.1 g1⟩, B1⟩
 have g1' : (L : Int) <= 100 := by omega
 go_enter Tryz.func141, Tryz.ntmps141
 go_wp2
 go_loopw [18] (fun i wr => ∃ k : Nat, k <= L /\ i = .int .i64 k /\ Hid (∀ p, p < k -> zey (X p)) /\ Below w.heap.size w wr /\ (∀ i, wr.cell? ⟨w.heap.size, i, none⟩ = (#[.slice a1 L c1, .slice a2 n c2] : Array Value)[i]?) /\ w.heap.size + 1 <= wr.heap.size) (fun i _ => L - (intOf i).toNat)
 case atStart => exact ⟨0, Nat.zero_le _, rfl, fun p hp => by omega, B1, fun i => by simp [go_sem], by simp⟩
 case round =>
  obtain ⟨k, hk, rfl, HP, hF, K1, z1⟩ := hrel
  by_cases hlt : k < L
  · have hlt' : (k : Int) < (L : Int) := by omega
    obtain ⟨b, off, rfl, lb, lz, hc⟩ := H1.out.at_ hlt
    obtain ⟨ax, cx, ax', cx', c0, c1, c2, c3, sx, sx'⟩ := (hc k hlt).below hF hT lb
    obtain ⟨x1, x2⟩ := HX.out k hlt
    obtain ⟨x, hx⟩ : ∃ x, X k = x := ⟨_, rfl⟩
    rw [hx] at c0 c1 c2 c3 sx sx' x1 x2
    obtain ⟨pa, sl, un, ub, ui, cn, co, ca⟩ := x
    simp only at c0 c1 c2 c3 sx sx' x1 x2
    have hT2 : T <= wr.heap.size := Nat.le_trans hT hF.size
    have lw : w.heap.size < wr.heap.size := by omega
    have BX : Below wr.heap.size wr (wr.alloc (.cells #[.int .i64 pa, .int .i64 sl, .slice ax un cx, .slice ax' cn cx'] 176)) := (Below.refl _ _).alloc (Nat.le_refl _) _
    have HC : Hid (Calls _ _ _ _ _) := zl4 pa sl ax un cx ax' cn cx' co ca T _ (sx'.below BX hT2) (Nat.le_trans hT2 BX.size) x1 x2 ub ui
    have BF := zc hF BX
    have K1' := zam K1 BX lw
    clear hc sx sx' H1 HX
    go_wp2_with fail
    refine HC.out.mono ?_
    rintro e w1 ⟨q, rfl, hq, b1⟩
    rw [<- hx] at hq
    have HQ : Hid (q = true ↔ zey (X k)) := hq
    have BG := zc BF b1
    have K2 := zam K1' b1 (by simp; omega)
    have z2 : w.heap.size + 1 <= w1.heap.size := by have := b1.size; simp at this; omega
    clear hq b1 HC K1' BX BF K1 c0 c1 c2 c3 hx
    cases q with
    | true =>
      have HV : Hid (∀ p, p < k + 1 -> zey (X p)) := zb1 HP.out (HQ.out.1 rfl)
      go_wp2
      go_roundw
      case rel => exact ⟨k + 1, by omega, by go_num, HV, BG, K2, z2⟩
      case measure => simp [intOf]; omega
    | false =>
      have HV : Hid (¬ zgq L X) := fun h => absurd (HQ.out.2 (h.2.2.1 k hlt)) (by simp)
      go_wp2
      go_ret
      exact ⟨false, rfl, ⟨fun h => (by cases h), fun h => absurd h HV.out⟩, BG⟩
  · have hge : (L : Int) <= (k : Int) := by omega
    have HU : Hid (∀ i, i < L -> zey (X i)) := fun i hi => HP.out i (by omega)
    obtain ⟨b, off, rfl, lb, lz, hc⟩ := H1.out.at_ (j := 0) (by omega)
    obtain ⟨ax, cx, ax', cx', c0, c1, c2, c3, sx, sx'⟩ := (hc 0 (by omega)).below hF hT lb
    obtain ⟨x1, x2⟩ := HX.out 0 (by omega)
    obtain ⟨x, hx⟩ : ∃ x, X 0 = x := ⟨_, rfl⟩
    rw [hx] at c0 c1 c2 c3 x1 x2
    obtain ⟨pa, sl, un, ub, ui, cn, co, ca⟩ := x
    simp only [Nat.zero_mul, Nat.add_zero] at c0 c1 c2 c3 x1 x2
    have NP : Hid (zgq L X ↔ pa = 0 /\ (un : Int) = 0) := by
     show zgq L X ↔ _
     constructor
     · intro h
       have h3 := h.2.2.2.1
       have h4 := h.2.2.2.2
       rw [hx] at h3 h4
       simp only at h3 h4
       omega
     · intro h
       refine ⟨g0, g1, HU.out, ?_, ?_⟩
       · rw [hx]; exact h.1
       · rw [hx]; simp only; omega
    have x1' : (un : Int) <= 1048576 := by omega
    clear hc sx sx' H1 HX HP HU hx
    by_cases g2 : pa = 0
    · subst g2
      by_cases g3 : (un : Int) = 0
      · have HV : Hid (zgq L X) := NP.out.2 ⟨rfl, g3⟩
        have g3' : ((un : Int) == 0) = true := by simp [g3]
        go_wp2
        go_ret
        exact ⟨true, by simp [g3'], ⟨fun _ => HV.out, fun _ => rfl⟩, hF⟩
      · have HV : Hid (¬ zgq L X) := fun h => g3 (NP.out.1 h).2
        have g3' : ((un : Int) == 0) = false := by simp; omega
        clear g3
        go_wp2
        go_ret
        exact ⟨false, by simp [g3'], ⟨fun h => (by cases h), fun h => absurd h HV.out⟩, hF⟩
    · have HV : Hid (¬ zgq L X) := fun h => g2 (NP.out.1 h).1
      have g2' : (pa == 0) = false := by simp [g2]
      clear g2
      go_wp2
      go_ret
      exact ⟨false, by simp [g2'], ⟨fun h => (by cases h), fun h => absurd h HV.out⟩, hF⟩
end Go.Proofs.YtmckcnmlhgpnhaaGreat
