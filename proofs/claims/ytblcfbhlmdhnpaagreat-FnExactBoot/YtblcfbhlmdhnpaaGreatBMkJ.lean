/- - -/
import Derived.Test.YtblcfbhlmdhnpaaGreatBMkI
namespace Go.Proofs.YtblcfbhlmdhnpaaGreat
set_option maxRecDepth 20000
open Go.RowKit
set_option linter.unusedSimpArgs false
set_option linter.unusedVariables false
set_option maxHeartbeats 1000000 in
theorem zft (pa sl : Int) (au : Option Addr) (un cu : Nat) (ac : Option Addr) (cn cc : Nat) (ar : Option Addr) (m cr : Nat) (ub : Nat -> Bool) (ui : Nat -> Int) (T : Nat) (w : World) (hs : SlF T w (.slice ar m cr) m (2 * m) (upF ub ui)) (hT : T <= w.heap.size) (hm : m <= 1048576) (hu : un <= 1048576) :
 Calls Tryz.prog 85 #[.agg #[.int .i64 pa, .int .i64 sl, .slice au un cu, .slice ac cn cc], .slice ar m cr] w fun e w' => zbw (∀ k, k < m -> zai sl un ub ui k) w e w' := by
 have HS : Hid (SlF T w (.slice ar m cr) m (2 * m) (upF ub ui)) := hs
 have hm' : (m : Int) <= 1048576 := by omega
 have hu' : (un : Int) <= 1048576 := by omega
 clear hs
 go_enter Tryz.func85, Tryz.ntmps85
 go_wp2
 go_loopw [10] (fun i wr => ∃ k : Nat, k <= m /\ i = .int .i64 k /\ Hid (∀ p, p < k -> zai sl un ub ui p) /\ Below w.heap.size w wr /\ (∀ i, wr.cell? ⟨w.heap.size, i, none⟩ = (#[.int .i64 pa, .int .i64 sl, .slice au un cu, .slice ac cn cc] : Array Value)[i]?) /\ w.heap.size + 1 <= wr.heap.size) (fun i _ => m - (intOf i).toNat)
 case atStart => exact ⟨0, Nat.zero_le _, rfl, fun p hp => by omega, (Below.refl _ _).alloc (Nat.le_refl _) _, fun i => by simp [go_sem], by simp⟩
 case round =>
  obtain ⟨k, hk, rfl, HP, hF, K1, z1⟩ := hrel
  by_cases hlt : k < m
  · have hlt' : (k : Int) < (m : Int) := by omega
    obtain ⟨br, offr, cap', hv, _, lbr, hcr⟩ := SlF.parts (HS.out.below hF hT) (k := 0) (by omega)
    simp only [Value.slice.injEq] at hv
    obtain ⟨rfl, _, rfl⟩ := hv
    have q1 : wr.cell? ⟨br, offr + k * 2, none⟩ = some (.bool (ub k)) := by rw [hcr (k * 2) (by omega), zb1]
    have q2 : wr.cell? ⟨br, offr + k * 2 + 1, none⟩ = some (.int .i64 (ui k)) := by rw [Nat.add_assoc, hcr (k * 2 + 1) (by omega), zb2]
    have lw : w.heap.size < wr.heap.size := by omega
    have BX : Below w.heap.size w (wr.alloc (.cells #[.bool (ub k), .int .i64 (ui k)] 99)) := hF.alloc hF.size _
    have NU : Hid (zai sl un ub ui k ↔ 0 <= ui k /\ ui k < (if ub k = true then sl else (un : Int))) := Iff.rfl
    clear hcr HS
    obtain ⟨yb, hyb⟩ : ∃ y, ub k = y := ⟨_, rfl⟩
    obtain ⟨yi, hyi⟩ : ∃ y, ui k = y := ⟨_, rfl⟩
    rw [hyb, hyi] at NU BX
    rw [hyb] at q1
    rw [hyi] at q2
    have K1' := zh K1 ((Below.refl wr.heap.size wr).alloc (Nat.le_refl _) (.cells #[.bool yb, .int .i64 yi] 99)) lw
    by_cases g0 : 0 <= yi
    rotate_left
    · have HV : Hid (¬ zai sl un ub ui k) := fun h => g0 (NU.out.1 h).1
      have g0' : yi < 0 := by omega
      clear g0
      cases yb <;>
       (go_wp2
        go_ret
        exact ⟨false, rfl, ⟨fun h => (by cases h), fun h => absurd (h k hlt) HV.out⟩, BX⟩)
    cases yb with
    | true =>
      by_cases g1 : yi < sl
      · have HV : Hid (∀ p, p < k + 1 -> zai sl un ub ui p) := zu HP.out (NU.out.2 ⟨g0, by simpa using g1⟩)
        go_wp2
        go_roundw
        case rel => exact ⟨k + 1, by omega, by go_num, HV, BX, K1', by simp; omega⟩
        case measure => simp [intOf]; omega
      · have HV : Hid (¬ zai sl un ub ui k) := fun h => g1 (by simpa using (NU.out.1 h).2)
        have g1' : sl <= yi := by omega
        clear g1
        go_wp2
        go_ret
        exact ⟨false, rfl, ⟨fun h => (by cases h), fun h => absurd (h k hlt) HV.out⟩, BX⟩
    | false =>
      by_cases g1 : yi < (un : Int)
      · have HV : Hid (∀ p, p < k + 1 -> zai sl un ub ui p) := zu HP.out (NU.out.2 ⟨g0, by simpa using g1⟩)
        go_wp2
        go_roundw
        case rel => exact ⟨k + 1, by omega, by go_num, HV, BX, K1', by simp; omega⟩
        case measure => simp [intOf]; omega
      · have HV : Hid (¬ zai sl un ub ui k) := fun h => g1 (by simpa using (NU.out.1 h).2)
        have g1' : (un : Int) <= yi := by omega
        clear g1
        go_wp2
        go_ret
        exact ⟨false, rfl, ⟨fun h => (by cases h), fun h => absurd (h k hlt) HV.out⟩, BX⟩
  · have hge : (m : Int) <= (k : Int) := by omega
    go_wp2
    go_ret
    exact ⟨true, rfl, ⟨fun _ j hj => HP.out j (by omega), fun _ => rfl⟩, hF⟩
set_option maxHeartbeats 2000000 in
theorem ze9 (a1 : Option Addr) (L c1 : Nat) (a2 : Option Addr) (n c2 : Nat) (X : Nat -> PtD) (T : Nat) (w : World) (h1 : PtF T w (.slice a1 L c1) L X) (hT : T <= w.heap.size) (hL : L <= 1048576) (hX : ∀ j, j < L -> PLe (X j) 1048576) :
 Calls Tryz.prog 53 #[.agg #[.slice a1 L c1, .slice a2 n c2]] w fun e w' => zbw (za8 L X) w e w' := by
 have H1 : Hid (PtF T w (.slice a1 L c1) L X) := h1
 have HX : Hid (∀ j, j < L -> PLe (X j) 1048576) := hX
 have hL' : (L : Int) <= 1048576 := by omega
 have B1 : Below w.heap.size w (w.alloc (.cells #[.slice a1 L c1, .slice a2 n c2] 29)) := (Below.refl _ _).alloc (Nat.le_refl _) _
 clear h1 hX
 by_cases g0 : 1 <= L
 rotate_left
 · have g0' : (L : Int) < 1 := by omega
   go_enter Tryz.func53, Tryz.ntmps53
   go_wp2
   go_ret
   exact ⟨false, rfl, ⟨fun h => (by cases h), fun h => absurd h.1 g0⟩, B1⟩
 have g0' : 1 <= (L : Int) := by omega
 by_cases g1 : L <= 100
 rotate_left
 · have g1' : 100 < (L : Int) := by omega
   go_enter Tryz.func53, Tryz.ntmps53
   go_wp2
   go_ret
   exact ⟨false, rfl, ⟨fun h => (by cases h), fun h => absurd h.2.1 g1⟩, B1⟩
 have g1' : (L : Int) <= 100 := by omega
 go_enter Tryz.func53, Tryz.ntmps53
 go_wp2
 go_loopw [18] (fun i wr => ∃ k : Nat, k <= L /\ i = .int .i64 k /\ Hid (∀ p, p < k -> zan (X p)) /\ Below w.heap.size w wr /\ (∀ i, wr.cell? ⟨w.heap.size, i, none⟩ = (#[.slice a1 L c1, .slice a2 n c2] : Array Value)[i]?) /\ w.heap.size + 1 <= wr.heap.size) (fun i _ => L - (intOf i).toNat)
 case atStart => exact ⟨0, Nat.zero_le _, rfl, fun p hp => by omega, B1, fun i => by simp [go_sem], by simp⟩
 case round =>
  obtain ⟨k, hk, rfl, HP, hF, K1, z1⟩ := hrel
  by_cases hlt : k < L
  · have hlt' : (k : Int) < (L : Int) := by omega
    obtain ⟨b, off, rfl, lb, lz, hc⟩ := H1.out.at_ hlt
    obtain ⟨ax, cx, ax', cx', c0, c1, c2, c3, sx, sx'⟩ := (hc k hlt).below hF hT lb
    obtain ⟨x1, x2⟩ := HX.out k hlt
    obtain ⟨x, hx⟩ : ∃ x, X k = x := ⟨_, rfl⟩
    rw [hx] at c0 c1 c2 c3 sx sx' x1 x2
    obtain ⟨pa, sl, un, ub, ui, cn, co, ca⟩ := x
    simp only at c0 c1 c2 c3 sx sx' x1 x2
    have hT2 : T <= wr.heap.size := Nat.le_trans hT hF.size
    have lw : w.heap.size < wr.heap.size := by omega
    have BX : Below wr.heap.size wr (wr.alloc (.cells #[.int .i64 pa, .int .i64 sl, .slice ax un cx, .slice ax' cn cx'] 58)) := (Below.refl _ _).alloc (Nat.le_refl _) _
    have HC : Hid (Calls _ _ _ _ _) := zdy pa sl ax un cx ax' cn cx' co ca T _ (sx'.below BX hT2) (Nat.le_trans hT2 BX.size) x1 x2 ub ui
    have BF := zb hF BX
    have K1' := zh K1 BX lw
    clear hc sx sx' H1 HX
    go_wp2_with fail
    refine HC.out.mono ?_
    rintro e w1 ⟨q, rfl, hq, b1⟩
    rw [<- hx] at hq
    have HQ : Hid (q = true ↔ zan (X k)) := hq
    have BG := zb BF b1
    have K2 := zh K1' b1 (by simp; omega)
    have z2 : w.heap.size + 1 <= w1.heap.size := by have := b1.size; simp at this; omega
    clear hq b1 HC K1' BX BF K1 c0 c1 c2 c3 hx
    cases q with
    | true =>
      have HV : Hid (∀ p, p < k + 1 -> zan (X p)) := zu HP.out (HQ.out.1 rfl)
      go_wp2
      go_roundw
      case rel => exact ⟨k + 1, by omega, by go_num, HV, BG, K2, z2⟩
      case measure => simp [intOf]; omega
    | false =>
      have HV : Hid (¬ za8 L X) := fun h => absurd (HQ.out.2 (h.2.2.1 k hlt)) (by simp)
      go_wp2
      go_ret
      exact ⟨false, rfl, ⟨fun h => (by cases h), fun h => absurd h HV.out⟩, BG⟩
  · have hge : (L : Int) <= (k : Int) := by omega
    have HU : Hid (∀ i, i < L -> zan (X i)) := fun i hi => HP.out i (by omega)
    obtain ⟨b, off, rfl, lb, lz, hc⟩ := H1.out.at_ (j := 0) (by omega)
    obtain ⟨ax, cx, ax', cx', c0, c1, c2, c3, sx, sx'⟩ := (hc 0 (by omega)).below hF hT lb
    obtain ⟨x1, x2⟩ := HX.out 0 (by omega)
    obtain ⟨x, hx⟩ : ∃ x, X 0 = x := ⟨_, rfl⟩
    rw [hx] at c0 c1 c2 c3 x1 x2
    obtain ⟨pa, sl, un, ub, ui, cn, co, ca⟩ := x
    simp only [Nat.zero_mul, Nat.add_zero] at c0 c1 c2 c3 x1 x2
    have NP : Hid (za8 L X ↔ pa = 0 /\ (un : Int) = 0) := by
     show za8 L X ↔ _
     constructor
     · intro h
       have h3 := h.2.2.2.1
       have h4 := h.2.2.2.2
       rw [hx] at h3 h4
       simp only at h3 h4
       omega
     · intro h
       refine ⟨g0, g1, HU.out, ?_, ?_⟩
       · rw [hx]; exact h.1
       · rw [hx]; simp only; omega
    have x1' : (un : Int) <= 1048576 := by omega
    clear hc sx sx' H1 HX HP HU hx
    by_cases g2 : pa = 0
    · subst g2
      by_cases g3 : (un : Int) = 0
      · have HV : Hid (za8 L X) := NP.out.2 ⟨rfl, g3⟩
        have g3' : ((un : Int) == 0) = true := by simp [g3]
        go_wp2
        go_ret
        exact ⟨true, by simp [g3'], ⟨fun _ => HV.out, fun _ => rfl⟩, hF⟩
      · have HV : Hid (¬ za8 L X) := fun h => g3 (NP.out.1 h).2
        have g3' : ((un : Int) == 0) = false := by simp; omega
        clear g3
        go_wp2
        go_ret
        exact ⟨false, by simp [g3'], ⟨fun h => (by cases h), fun h => absurd h HV.out⟩, hF⟩
    · have HV : Hid (¬ za8 L X) := fun h => g2 (NP.out.1 h).1
      have g2' : (pa == 0) = false := by simp [g2]
      clear g2
      go_wp2
      go_ret
      exact ⟨false, by simp [g2'], ⟨fun h => (by cases h), fun h => absurd h HV.out⟩, hF⟩
end Go.Proofs.YtblcfbhlmdhnpaaGreat
