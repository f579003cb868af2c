/- - -/
import Derived.Test.YtmckcnmlhgpnhaaGreatWMdE
import Derived.Deep.RegionHeld3
namespace Go.Proofs.YtmckcnmlhgpnhaaGreat
set_option maxRecDepth 20000
open Go.RowKit
set_option linter.unusedSimpArgs false
set_option linter.unusedVariables false
theorem zab (x a b : Int) (w : World) (h : a <= x /\ x <= b) :
 Calls Tryz.prog 104 #[.int .i64 x, .int .i64 a, .int .i64 b] w fun e w' => e = .returned (.bool true) /\ w' = w :=
 (zw x a b w).mono fun e w' ⟨h1, h2⟩ => ⟨by rw [h1]; simp [inB, h], h2⟩
theorem zay (x a b : Int) (w : World) (h : ¬ (a <= x /\ x <= b)) :
 Calls Tryz.prog 104 #[.int .i64 x, .int .i64 a, .int .i64 b] w fun e w' => e = .returned (.bool false) /\ w' = w :=
 (zw x a b w).mono fun e w' ⟨h1, h2⟩ => ⟨by rw [h1]; simp only [inB, h, decide_false], h2⟩
set_option maxHeartbeats 4000000 in
theorem zv4 (a1 : Option Addr) (L c1 : Nat) (a2 : Option Addr) (n c2 : Nat) (pa sl : Int) (au : Option Addr) (un cu : Nat) (ac : Option Addr) (cn cc : Nat) (op av : Int) (X : Nat -> PtD) (T : Nat) (w : World) (h1 : PtF T w (.slice a1 L c1) L X) (hT : T <= w.heap.size) (hL : L <= 100) (hn : n <= 255) (hs0 : 0 <= sl) (hs : sl <= 20) (hu : un <= 12) (hc : cn <= 4000) (hX : ∀ j, j < L -> (X j).un <= 12) (hr : -9223372036854775808 <= av /\ av <= 9223372036854775807) :
 Calls Tryz.prog 138 #[.agg #[.slice a1 L c1, .slice a2 n c2], .agg #[.int .i64 pa, .int .i64 sl, .slice au un cu, .slice ac cn cc], .agg #[.int .i64 op, .int .i64 av]] w fun e w' => zf7 (zaa L n X sl un cn op av) w e w' := by
 have B3 : Below w.heap.size w (((w.alloc (.cells #[.slice a1 L c1, .slice a2 n c2] 47)).alloc (.cells #[.int .i64 pa, .int .i64 sl, .slice au un cu, .slice ac cn cc] 176)).alloc (.cells #[.int .i64 op, .int .i64 av] 178)) := (((Below.refl _ _).alloc (Nat.le_refl _) _).alloc (by simp) _).alloc (by simp; omega) _
 have H1 : Hid (PtF T w (.slice a1 L c1) L X) := h1
 have HX : Hid (∀ j, j < L -> (X j).un <= 12) := hX
 have hL' : (L : Int) <= 100 := by omega
 have hn' : (n : Int) <= 255 := by omega
 have hu' : (un : Int) <= 12 := by omega
 have hc' : (cn : Int) <= 4000 := by omega
 clear h1 hX
 by_cases h1 : op = 1
 · subst h1
   by_cases g : av = 0
   · subst g
     go_enter Tryz.func138, Tryz.ntmps138
     go_wp2_with (first | (go_at_call 104; refine (zab _ _ _ _ (by omega)).mono ?_; rintro e w' ⟨rfl, rfl⟩) | (go_at_call 104; refine (zay _ _ _ _ (by omega)).mono ?_; rintro e w' ⟨rfl, rfl⟩))
     go_ret
     exact ⟨true, rfl, by simp [zaa, zv], B3⟩
   · have g' : (av == 0) = false := by simp [g]
     go_enter Tryz.func138, Tryz.ntmps138
     go_wp2_with (first | (go_at_call 104; refine (zab _ _ _ _ (by omega)).mono ?_; rintro e w' ⟨rfl, rfl⟩) | (go_at_call 104; refine (zay _ _ _ _ (by omega)).mono ?_; rintro e w' ⟨rfl, rfl⟩))
     go_ret
     exact ⟨false, by simp [g'], by simp [zaa, zv]; omega, B3⟩
 by_cases h2 : op = 2
 · subst h2
   by_cases g : av = 0
   · subst g
     go_enter Tryz.func138, Tryz.ntmps138
     go_wp2
     go_ret
     exact ⟨true, rfl, by simp [zaa, zv], B3⟩
   · have g' : (av == 0) = false := by simp [g]
     by_cases f : av = 1
     · subst f
       go_enter Tryz.func138, Tryz.ntmps138
       go_wp2
       go_ret
       exact ⟨true, rfl, by simp [zaa, zv], B3⟩
     · have f' : (av == 1) = false := by simp [f]
       go_enter Tryz.func138, Tryz.ntmps138
       go_wp2
       go_ret
       exact ⟨false, by simp [g', f'], by simp [zaa, zv]; omega, B3⟩
 by_cases h3 : op = 3
 · subst h3
   go_enter Tryz.func138, Tryz.ntmps138
   go_wp2
   go_ret
   exact ⟨true, rfl, by simp [zaa, zv]; omega, B3⟩
 by_cases h4 : op = 4
 · subst h4
   go_enter Tryz.func138, Tryz.ntmps138
   go_wp2_with (go_at_call 104; refine (zw _ _ _ _).mono ?_; rintro e w' ⟨rfl, rfl⟩)
   go_ret
   exact ⟨_, rfl, by simp [zaa, zv, inB], B3⟩
 by_cases h5 : op = 5
 · subst h5
   go_enter Tryz.func138, Tryz.ntmps138
   go_wp2_with (go_at_call 104; refine (zw _ _ _ _).mono ?_; rintro e w' ⟨rfl, rfl⟩)
   go_ret
   exact ⟨_, rfl, by simp [zaa, zv, inB], B3⟩
 by_cases h6 : op = 6
 · subst h6
   go_enter Tryz.func138, Tryz.ntmps138
   go_wp2_with (go_at_call 104; refine (zw _ _ _ _).mono ?_; rintro e w' ⟨rfl, rfl⟩)
   go_ret
   exact ⟨_, rfl, by simp [zaa, zv, inB], B3⟩
 by_cases h7 : op = 7
 · subst h7
   go_enter Tryz.func138, Tryz.ntmps138
   go_wp2_with (go_at_call 104; refine (zw _ _ _ _).mono ?_; rintro e w' ⟨rfl, rfl⟩)
   go_ret
   exact ⟨_, rfl, by simp [zaa, zv, inB], B3⟩
 by_cases h8 : op = 8
 · subst h8
   go_enter Tryz.func138, Tryz.ntmps138
   go_wp2_with (go_at_call 104; refine (zw _ _ _ _).mono ?_; rintro e w' ⟨rfl, rfl⟩)
   go_ret
   exact ⟨_, rfl, by simp [zaa, zv, inB], B3⟩
 by_cases h9 : op = 9
 · subst h9
   go_enter Tryz.func138, Tryz.ntmps138
   go_wp2_with (go_at_call 104; refine (zw _ _ _ _).mono ?_; rintro e w' ⟨rfl, rfl⟩)
   go_ret
   exact ⟨_, rfl, by simp [zaa, zv, inB], B3⟩
 by_cases h10 : op = 10
 · subst h10
   go_enter Tryz.func138, Tryz.ntmps138
   go_wp2_with (go_at_call 104; refine (zw _ _ _ _).mono ?_; rintro e w' ⟨rfl, rfl⟩)
   go_ret
   exact ⟨_, rfl, by simp [zaa, zv, inB], B3⟩
 by_cases h11 : op = 11
 · subst h11
   go_enter Tryz.func138, Tryz.ntmps138
   go_wp2_with (go_at_call 104; refine (zw _ _ _ _).mono ?_; rintro e w' ⟨rfl, rfl⟩)
   go_ret
   exact ⟨_, rfl, by simp [zaa, zv, inB], B3⟩
 by_cases h12 : op = 12
 · subst h12
   by_cases g1 : 0 <= av /\ av <= (L : Int) - 1
   rotate_left
   · have f1 : ¬ (0 <= av /\ av <= (L : Int) - 1) := g1
     go_enter Tryz.func138, Tryz.ntmps138
     go_wp2_with (go_at_call 104; refine (zay _ _ _ _ f1).mono ?_; rintro e w' ⟨rfl, rfl⟩)
     go_ret
     exact ⟨false, rfl, ⟨fun h => (by cases h), fun h => absurd ⟨by simpa [zv] using h.1, by simpa [zv] using h.2.1⟩ g1⟩, B3⟩
   obtain ⟨g4, g5⟩ := g1
   obtain ⟨j, rfl⟩ := Int.eq_ofNat_of_zero_le g4
   have hj : j < L := by omega
   obtain ⟨b, off, rfl, lb, lz, hcx⟩ := H1.out.at_ hj
   obtain ⟨ax, cx, ax', cx', d0, d1, d2, d3, sx, sx'⟩ := (hcx j hj).below B3 hT lb
   have xu := HX.out j hj
   have NY : Hid (zaa L n X sl un cn 12 (j : Int) ↔ ∀ p, p < (X j).un -> zeg sl un (X j).ub (X j).ui p) := by
    show zaa L n X sl un cn 12 (j : Int) ↔ _
    exact ⟨fun h => h.2.2 rfl, fun h => ⟨by simp [zv], by simp [zv]; omega, fun _ => h⟩⟩
   clear hcx sx' H1 HX d0 d1 d3
   obtain ⟨x, hx⟩ : ∃ x, X j = x := ⟨_, rfl⟩
   rw [hx] at NY d2 sx xu
   obtain ⟨pa', sl', un', ub', ui', cn', co', ca'⟩ := x
   simp only at NY d2 sx xu
   have HS : Hid (SlF T _ (.slice ax un' cx) un' (2 * un') (upF ub' ui')) := sx
   have xu' : (un' : Int) <= 12 := by omega
   clear sx hx
   go_enter Tryz.func138, Tryz.ntmps138
   go_wp2_with (go_at_call 104; refine (zab _ _ _ _ ⟨g4, g5⟩).mono ?_; rintro e w' ⟨rfl, rfl⟩)
   obtain ⟨W3, hW3⟩ : ∃ W, W = (((w.alloc (.cells #[.slice (some ⟨b, off, none⟩) L c1, .slice a2 n c2] 47)).alloc (.cells #[.int .i64 pa, .int .i64 sl, .slice au un cu, .slice ac cn cc] 176)).alloc (.cells #[.int .i64 12, .int .i64 (j : Int)] 178)) := ⟨_, rfl⟩
   have K2 : ∀ i, W3.cell? ⟨w.heap.size + 1, i, none⟩ = (#[.int .i64 pa, .int .i64 sl, .slice au un cu, .slice ac cn cc] : Array Value)[i]? := fun i => by rw [hW3]; simp [go_sem]
   have z3 : w.heap.size + 1 + 1 + 1 = W3.heap.size := by rw [hW3]; simp
   rw [<- hW3] at HS B3 d2 ⊢
   clear hW3
   have Z3 : Hid (w.heap.size + 1 + 1 + 1 = W3.heap.size) := z3
   clear z3
   go_loopw [8] (fun i wr => ∃ k : Nat, k <= un' /\ i = .int .i64 k /\ Hid (∀ p, p < k -> zeg sl un ub' ui' p) /\ wr = W3) (fun i _ => un' - (intOf i).toNat)
   case atStart => exact ⟨0, Nat.zero_le _, rfl, fun p hp => by omega, rfl⟩
   case round =>
    obtain ⟨k, hk, rfl, HP, rfl⟩ := hrel
    by_cases hlt : k < un'
    · have hlt' : (k : Int) < (un' : Int) := by omega
      obtain ⟨br, offr, cap', hv, _, lbr, hcr⟩ := SlF.parts HS.out (k := 0) (by omega)
      simp only [Value.slice.injEq] at hv
      obtain ⟨rfl, _, rfl⟩ := hv
      have q1 : wr.cell? ⟨br, offr + k * 2, none⟩ = some (.bool (ub' k)) := by rw [hcr (k * 2) (by omega), zkc]
      have q2 : wr.cell? ⟨br, offr + k * 2 + 1, none⟩ = some (.int .i64 (ui' k)) := by rw [Nat.add_assoc, hcr (k * 2 + 1) (by omega), zkd]
      have NU : Hid (zeg sl un ub' ui' k ↔ 0 <= ui' k /\ ui' k < (if ub' k = true then sl else (un : Int))) := Iff.rfl
      have NF : Hid (¬ zeg sl un ub' ui' k -> ¬ zaa L n X sl un cn 12 (j : Int)) := fun h hi => h (NY.out.1 hi k hlt)
      clear hcr HS
      obtain ⟨yb, hyb⟩ : ∃ y, ub' k = y := ⟨_, rfl⟩
      obtain ⟨yi, hyi⟩ : ∃ y, ui' k = y := ⟨_, rfl⟩
      rw [hyb, hyi] at NU
      rw [hyb] at q1
      rw [hyi] at q2
      cases yb with
      | true =>
        by_cases g6 : 0 <= yi /\ yi <= sl - 1
        · have HV : Hid (∀ p, p < k + 1 -> zeg sl un ub' ui' p) := zb1 HP.out (NU.out.2 ⟨g6.1, by simp; omega⟩)
          go_wp2_with (go_at_call 104; refine (zab _ _ _ _ g6).mono ?_; rintro e w' ⟨rfl, rfl⟩)
          go_roundw
          case rel => exact ⟨k + 1, by omega, by go_num, HV, by first | rfl | trivial⟩
          case measure => simp [intOf]; omega
        · have HV : Hid (¬ zaa L n X sl un cn 12 (j : Int)) := NF.out fun h => g6 ⟨(NU.out.1 h).1, by have := (NU.out.1 h).2; simp at this; omega⟩
          go_wp2_with (go_at_call 104; refine (zay _ _ _ _ g6).mono ?_; rintro e w' ⟨rfl, rfl⟩)
          go_ret
          exact ⟨false, rfl, ⟨fun h => (by cases h), fun h => absurd h HV.out⟩, B3⟩
      | false =>
        by_cases g6 : 0 <= yi /\ yi <= (un : Int) - 1
        · have HV : Hid (∀ p, p < k + 1 -> zeg sl un ub' ui' p) := zb1 HP.out (NU.out.2 ⟨g6.1, by simp; omega⟩)
          go_wp2_with (go_at_call 104; refine (zab _ _ _ _ g6).mono ?_; rintro e w' ⟨rfl, rfl⟩)
          go_roundw
          case rel => exact ⟨k + 1, by omega, by go_num, HV, by first | rfl | trivial⟩
          case measure => simp [intOf]; omega
        · have HV : Hid (¬ zaa L n X sl un cn 12 (j : Int)) := NF.out fun h => g6 ⟨(NU.out.1 h).1, by have := (NU.out.1 h).2; simp at this; omega⟩
          go_wp2_with (go_at_call 104; refine (zay _ _ _ _ g6).mono ?_; rintro e w' ⟨rfl, rfl⟩)
          go_ret
          exact ⟨false, rfl, ⟨fun h => (by cases h), fun h => absurd h HV.out⟩, B3⟩
    · have hge : (un' : Int) <= (k : Int) := by omega
      go_wp2
      go_ret
      exact ⟨true, rfl, ⟨fun _ => NY.out.2 fun p hp => HP.out p (by omega), fun _ => rfl⟩, B3⟩
 by_cases h13 : op = 13
 · subst h13
   by_cases g : av = 0
   · subst g
     go_enter Tryz.func138, Tryz.ntmps138
     go_wp2_with (first | (go_at_call 104; refine (zab _ _ _ _ (by omega)).mono ?_; rintro e w' ⟨rfl, rfl⟩) | (go_at_call 104; refine (zay _ _ _ _ (by omega)).mono ?_; rintro e w' ⟨rfl, rfl⟩))
     go_ret
     exact ⟨true, rfl, by simp [zaa, zv], B3⟩
   · have g' : (av == 0) = false := by simp [g]
     go_enter Tryz.func138, Tryz.ntmps138
     go_wp2_with (first | (go_at_call 104; refine (zab _ _ _ _ (by omega)).mono ?_; rintro e w' ⟨rfl, rfl⟩) | (go_at_call 104; refine (zay _ _ _ _ (by omega)).mono ?_; rintro e w' ⟨rfl, rfl⟩))
     go_ret
     exact ⟨false, by simp [g'], by simp [zaa, zv]; omega, B3⟩
 by_cases h14 : op = 14
 · subst h14
   by_cases g : av = 0
   · subst g
     go_enter Tryz.func138, Tryz.ntmps138
     go_wp2_with (first | (go_at_call 104; refine (zab _ _ _ _ (by omega)).mono ?_; rintro e w' ⟨rfl, rfl⟩) | (go_at_call 104; refine (zay _ _ _ _ (by omega)).mono ?_; rintro e w' ⟨rfl, rfl⟩))
     go_ret
     exact ⟨true, rfl, by simp [zaa, zv], B3⟩
   · have g' : (av == 0) = false := by simp [g]
     go_enter Tryz.func138, Tryz.ntmps138
     go_wp2_with (first | (go_at_call 104; refine (zab _ _ _ _ (by omega)).mono ?_; rintro e w' ⟨rfl, rfl⟩) | (go_at_call 104; refine (zay _ _ _ _ (by omega)).mono ?_; rintro e w' ⟨rfl, rfl⟩))
     go_ret
     exact ⟨false, by simp [g'], by simp [zaa, zv]; omega, B3⟩
 by_cases h15 : op = 15
 · subst h15
   by_cases g : av = 0
   · subst g
     go_enter Tryz.func138, Tryz.ntmps138
     go_wp2_with (first | (go_at_call 104; refine (zab _ _ _ _ (by omega)).mono ?_; rintro e w' ⟨rfl, rfl⟩) | (go_at_call 104; refine (zay _ _ _ _ (by omega)).mono ?_; rintro e w' ⟨rfl, rfl⟩))
     go_ret
     exact ⟨true, rfl, by simp [zaa, zv], B3⟩
   · have g' : (av == 0) = false := by simp [g]
     go_enter Tryz.func138, Tryz.ntmps138
     go_wp2_with (first | (go_at_call 104; refine (zab _ _ _ _ (by omega)).mono ?_; rintro e w' ⟨rfl, rfl⟩) | (go_at_call 104; refine (zay _ _ _ _ (by omega)).mono ?_; rintro e w' ⟨rfl, rfl⟩))
     go_ret
     exact ⟨false, by simp [g'], by simp [zaa, zv]; omega, B3⟩
 by_cases h16 : op = 16
 · subst h16
   go_enter Tryz.func138, Tryz.ntmps138
   go_wp2_with (go_at_call 104; refine (zw _ _ _ _).mono ?_; rintro e w' ⟨rfl, rfl⟩)
   go_ret
   exact ⟨_, rfl, by simp [zaa, zv, inB], B3⟩
 by_cases h17 : op = 17
 · subst h17
   go_enter Tryz.func138, Tryz.ntmps138
   go_wp2_with (go_at_call 104; refine (zw _ _ _ _).mono ?_; rintro e w' ⟨rfl, rfl⟩)
   go_ret
   exact ⟨_, rfl, by simp [zaa, zv, inB], B3⟩
 by_cases h18 : op = 18
 · subst h18
   go_enter Tryz.func138, Tryz.ntmps138
   go_wp2_with (go_at_call 104; refine (zw _ _ _ _).mono ?_; rintro e w' ⟨rfl, rfl⟩)
   go_ret
   exact ⟨_, rfl, by simp [zaa, zv, inB], B3⟩
 by_cases h19 : op = 19
 · subst h19
   go_enter Tryz.func138, Tryz.ntmps138
   go_wp2_with (go_at_call 104; refine (zw _ _ _ _).mono ?_; rintro e w' ⟨rfl, rfl⟩)
   go_ret
   exact ⟨_, rfl, by simp [zaa, zv, inB], B3⟩
 by_cases h20 : op = 20
 · subst h20
   go_enter Tryz.func138, Tryz.ntmps138
   go_wp2_with (go_at_call 104; refine (zw _ _ _ _).mono ?_; rintro e w' ⟨rfl, rfl⟩)
   go_ret
   exact ⟨_, rfl, by simp [zaa, zv, inB], B3⟩
 by_cases h21 : op = 21
 · subst h21
   go_enter Tryz.func138, Tryz.ntmps138
   go_wp2_with (go_at_call 104; refine (zw _ _ _ _).mono ?_; rintro e w' ⟨rfl, rfl⟩)
   go_ret
   exact ⟨_, rfl, by simp [zaa, zv, inB], B3⟩
 by_cases h22 : op = 22
 · subst h22
   by_cases g : av = 0
   · subst g
     go_enter Tryz.func138, Tryz.ntmps138
     go_wp2_with (first | (go_at_call 104; refine (zab _ _ _ _ (by omega)).mono ?_; rintro e w' ⟨rfl, rfl⟩) | (go_at_call 104; refine (zay _ _ _ _ (by omega)).mono ?_; rintro e w' ⟨rfl, rfl⟩))
     go_ret
     exact ⟨true, rfl, by simp [zaa, zv], B3⟩
   · have g' : (av == 0) = false := by simp [g]
     go_enter Tryz.func138, Tryz.ntmps138
     go_wp2_with (first | (go_at_call 104; refine (zab _ _ _ _ (by omega)).mono ?_; rintro e w' ⟨rfl, rfl⟩) | (go_at_call 104; refine (zay _ _ _ _ (by omega)).mono ?_; rintro e w' ⟨rfl, rfl⟩))
     go_ret
     exact ⟨false, by simp [g'], by simp [zaa, zv]; omega, B3⟩
 by_cases h23 : op = 23
 · subst h23
   go_enter Tryz.func138, Tryz.ntmps138
   go_wp2_with (go_at_call 104; refine (zw _ _ _ _).mono ?_; rintro e w' ⟨rfl, rfl⟩)
   go_ret
   exact ⟨_, rfl, by simp [zaa, zv, inB], B3⟩
 by_cases h24 : op = 24
 · subst h24
   by_cases g : av = 0
   · subst g
     go_enter Tryz.func138, Tryz.ntmps138
     go_wp2_with (first | (go_at_call 104; refine (zab _ _ _ _ (by omega)).mono ?_; rintro e w' ⟨rfl, rfl⟩) | (go_at_call 104; refine (zay _ _ _ _ (by omega)).mono ?_; rintro e w' ⟨rfl, rfl⟩))
     go_ret
     exact ⟨true, rfl, by simp [zaa, zv], B3⟩
   · have g' : (av == 0) = false := by simp [g]
     go_enter Tryz.func138, Tryz.ntmps138
     go_wp2_with (first | (go_at_call 104; refine (zab _ _ _ _ (by omega)).mono ?_; rintro e w' ⟨rfl, rfl⟩) | (go_at_call 104; refine (zay _ _ _ _ (by omega)).mono ?_; rintro e w' ⟨rfl, rfl⟩))
     go_ret
     exact ⟨false, by simp [g'], by simp [zaa, zv]; omega, B3⟩
 by_cases h25 : op = 25
 · subst h25
   by_cases g : av = 0
   · subst g
     go_enter Tryz.func138, Tryz.ntmps138
     go_wp2_with (first | (go_at_call 104; refine (zab _ _ _ _ (by omega)).mono ?_; rintro e w' ⟨rfl, rfl⟩) | (go_at_call 104; refine (zay _ _ _ _ (by omega)).mono ?_; rintro e w' ⟨rfl, rfl⟩))
     go_ret
     exact ⟨true, rfl, by simp [zaa, zv], B3⟩
   · have g' : (av == 0) = false := by simp [g]
     go_enter Tryz.func138, Tryz.ntmps138
     go_wp2_with (first | (go_at_call 104; refine (zab _ _ _ _ (by omega)).mono ?_; rintro e w' ⟨rfl, rfl⟩) | (go_at_call 104; refine (zay _ _ _ _ (by omega)).mono ?_; rintro e w' ⟨rfl, rfl⟩))
     go_ret
     exact ⟨false, by simp [g'], by simp [zaa, zv]; omega, B3⟩
 by_cases h26 : op = 26
 · subst h26
   by_cases g : av = 0
   · subst g
     go_enter Tryz.func138, Tryz.ntmps138
     go_wp2_with (first | (go_at_call 104; refine (zab _ _ _ _ (by omega)).mono ?_; rintro e w' ⟨rfl, rfl⟩) | (go_at_call 104; refine (zay _ _ _ _ (by omega)).mono ?_; rintro e w' ⟨rfl, rfl⟩))
     go_ret
     exact ⟨true, rfl, by simp [zaa, zv], B3⟩
   · have g' : (av == 0) = false := by simp [g]
     go_enter Tryz.func138, Tryz.ntmps138
     go_wp2_with (first | (go_at_call 104; refine (zab _ _ _ _ (by omega)).mono ?_; rintro e w' ⟨rfl, rfl⟩) | (go_at_call 104; refine (zay _ _ _ _ (by omega)).mono ?_; rintro e w' ⟨rfl, rfl⟩))
     go_ret
     exact ⟨false, by simp [g'], by simp [zaa, zv]; omega, B3⟩
 by_cases h27 : op = 27
 · subst h27
   go_enter Tryz.func138, Tryz.ntmps138
   go_wp2_with (go_at_call 104; refine (zw _ _ _ _).mono ?_; rintro e w' ⟨rfl, rfl⟩)
   go_ret
   exact ⟨_, rfl, by simp [zaa, zv, inB], B3⟩
 have e1 : (op == 1) = false := by simp [h1]
 have e2 : (op == 2) = false := by simp [h2]
 have e3 : (op == 3) = false := by simp [h3]
 have e4 : (op == 4) = false := by simp [h4]
 have e5 : (op == 5) = false := by simp [h5]
 have e6 : (op == 6) = false := by simp [h6]
 have e7 : (op == 7) = false := by simp [h7]
 have e8 : (op == 8) = false := by simp [h8]
 have e9 : (op == 9) = false := by simp [h9]
 have e10 : (op == 10) = false := by simp [h10]
 have e11 : (op == 11) = false := by simp [h11]
 have e12 : (op == 12) = false := by simp [h12]
 have e13 : (op == 13) = false := by simp [h13]
 have e14 : (op == 14) = false := by simp [h14]
 have e15 : (op == 15) = false := by simp [h15]
 have e16 : (op == 16) = false := by simp [h16]
 have e17 : (op == 17) = false := by simp [h17]
 have e18 : (op == 18) = false := by simp [h18]
 have e19 : (op == 19) = false := by simp [h19]
 have e20 : (op == 20) = false := by simp [h20]
 have e21 : (op == 21) = false := by simp [h21]
 have e22 : (op == 22) = false := by simp [h22]
 have e23 : (op == 23) = false := by simp [h23]
 have e24 : (op == 24) = false := by simp [h24]
 have e25 : (op == 25) = false := by simp [h25]
 have e26 : (op == 26) = false := by simp [h26]
 have e27 : (op == 27) = false := by simp [h27]
 have hno : ¬ (1 <= op /\ op <= 27) := by omega
 go_enter Tryz.func138, Tryz.ntmps138
 go_wp2_with (go_at_call 104; refine (zay _ _ _ _ hno).mono ?_; rintro e w' ⟨rfl, rfl⟩)
 go_ret
 exact ⟨false, rfl, by simp [zaa, zv, *]; omega, B3⟩
set_option maxHeartbeats 4000000 in
theorem zkh (a1 : Option Addr) (L c1 : Nat) (a2 : Option Addr) (n c2 : Nat) (X : Nat -> PtD) (s : Nat -> ByteArray) (T : Nat) (w : World) (h1 : MdF T w (.slice a1 L c1) (.slice a2 n c2) L X n s) (hT : T <= w.heap.size) (hL : L <= 1048576) (hn : n <= 1048576) (hX : ∀ j, j < L -> PLe (X j) 1048576) (hR : ∀ j, j < L -> PLr (X j)) (hsz : ∀ j, j < n -> (s j).size <= 9223372036854775807) :
 Calls Tryz.prog 103 #[.agg #[.slice a1 L c1, .slice a2 n c2]] w fun e w' => zf7 (MOk L X n s) w e w' := by
 have B1 : Below w.heap.size w (w.alloc (.cells #[.slice a1 L c1, .slice a2 n c2] 47)) := (Below.refl _ _).alloc (Nat.le_refl _) _
 have H1 : Hid (PtF T w (.slice a1 L c1) L X) := h1.1
 have H2 : Hid (TxF T w (.slice a2 n c2) n s) := h1.2
 have HX : Hid (∀ j, j < L -> PLe (X j) 1048576) := hX
 have HR : Hid (∀ j, j < L -> PLr (X j)) := hR
 have HZ : Hid (∀ j, j < n -> (s j).size <= 9223372036854775807) := hsz
 have hL' : (L : Int) <= 1048576 := by omega
 have hn' : (n : Int) <= 1048576 := by omega
 clear h1 hX hR hsz
 by_cases g0 : 1 <= (L : Int) /\ (L : Int) <= 100
 rotate_left
 · go_enter Tryz.func103, Tryz.ntmps103
   go_wp2_with (go_at_call 104; refine (zay _ _ _ _ g0).mono ?_; rintro e w' ⟨rfl, rfl⟩)
   go_ret
   exact ⟨false, rfl, ⟨fun h => (by cases h), fun h => absurd ⟨by have := h.2.1.1; omega, by have := h.2.1.2.1; omega⟩ g0⟩, B1⟩
 by_cases g1 : (n : Int) <= 255
 rotate_left
 · have g1' : 255 < (n : Int) := by omega
   go_enter Tryz.func103, Tryz.ntmps103
   go_wp2_with (go_at_call 104; refine (zab _ _ _ _ g0).mono ?_; rintro e w' ⟨rfl, rfl⟩)
   go_ret
   exact ⟨false, rfl, ⟨fun h => (by cases h), fun h => by have := h.1.1; omega⟩, B1⟩
 obtain ⟨b, off, rfl, lb, lz, hc⟩ := H1.out.at_ (j := 0) (by omega)
 have HD : Hid (∀ i, i < L -> zh5 T w b (off + i * 4) (X i)) := hc
 obtain ⟨ax, cx, ax', cx', d0, d1, d2, d3, sx, sx'⟩ := (hc 0 (by omega)).below B1 hT lb
 obtain ⟨x1, x2⟩ := HX.out 0 (by omega)
 have NP : Hid (MOk L X n s -> (X 0).pa = 0 /\ (X 0).un = 0) := fun h => h.2.1.2.2.2
 have NM : Hid ((X 0).pa = 0 -> (X 0).un = 0 -> zh7 n s -> (∀ i, i < L -> zey (X i)) -> (∀ i, i < L -> ze5 L n X (X i)) -> MOk L X n s) := fun h2 h3 h4 h5 h6 => ⟨h4, ⟨by omega, by omega, h5, h2, h3⟩, h6⟩
 obtain ⟨x, hx⟩ : ∃ x, X 0 = x := ⟨_, rfl⟩
 rw [hx] at d0 d1 d2 d3 x1 x2 NP NM
 obtain ⟨pa, sl, un, ub, ui, cn, co, ca⟩ := x
 simp only [Nat.zero_mul, Nat.add_zero] at d0 d1 d2 d3 x1 x2 NP NM
 have x1' : (un : Int) <= 1048576 := by omega
 clear hc sx sx' H1 hx
 by_cases g2 : pa = 0
 rotate_left
 · have HV : Hid (¬ MOk L X n s) := fun h => g2 (NP.out h).1
   have g2' : (pa != 0) = true := by simp [g2]
   clear g2
   go_enter Tryz.func103, Tryz.ntmps103
   go_wp2_with (go_at_call 104; refine (zab _ _ _ _ g0).mono ?_; rintro e w' ⟨rfl, rfl⟩)
   go_ret
   exact ⟨false, rfl, ⟨fun h => (by cases h), fun h => absurd h HV.out⟩, B1⟩
 subst g2
 by_cases g3 : un = 0
 rotate_left
 · have HV : Hid (¬ MOk L X n s) := fun h => g3 (NP.out h).2
   have g3' : ((un : Int) != 0) = true := by simp; omega
   clear g3
   go_enter Tryz.func103, Tryz.ntmps103
   go_wp2_with (go_at_call 104; refine (zab _ _ _ _ g0).mono ?_; rintro e w' ⟨rfl, rfl⟩)
   go_ret
   exact ⟨false, rfl, ⟨fun h => (by cases h), fun h => absurd h HV.out⟩, B1⟩
 subst g3
 have NM2 : Hid (zh7 n s -> (∀ i, i < L -> zey (X i)) -> (∀ i, i < L -> ze5 L n X (X i)) -> MOk L X n s) := NM.out rfl rfl
 clear NM NP
 go_enter Tryz.func103, Tryz.ntmps103
 go_wp2_with (go_at_call 104; refine (zab _ _ _ _ g0).mono ?_; rintro e w' ⟨rfl, rfl⟩)
 obtain ⟨W0, hW0⟩ : ∃ W, W = w.alloc (.cells #[.slice (some ⟨b, off, none⟩) L c1, .slice a2 n c2] 47) := ⟨_, rfl⟩
 have K0 : ∀ i, W0.cell? ⟨w.heap.size, i, none⟩ = (#[.slice (some ⟨b, off, none⟩) L c1, .slice a2 n c2] : Array Value)[i]? := fun i => by rw [hW0]; simp [go_sem]
 have z0 : w.heap.size + 1 <= W0.heap.size := by rw [hW0]; simp
 rw [<- hW0] at B1 ⊢
 clear hW0 d0 d1 d2 d3
 go_loopw [3] (fun i wr => ∃ k : Nat, k <= n /\ i = .int .i64 k /\ Hid (∀ p, p < k -> (s p).size <= 160) /\ wr = W0) (fun i _ => n - (intOf i).toNat)
 case atStart => exact ⟨0, Nat.zero_le _, rfl, fun p hp => by omega, rfl⟩
 case round =>
  obtain ⟨k, hk, rfl, HP, rfl⟩ := hrel
  by_cases hlt : k < n
  · have hlt' : (k : Int) < (n : Int) := by omega
    obtain ⟨br, offr, cap', hv, _, lbr, hcr⟩ := SlF.parts (H2.out.below B1 hT) (k := 0) (by omega)
    simp only [Value.slice.injEq] at hv
    obtain ⟨rfl, _, rfl⟩ := hv
    have hc1 : wr.cell? ⟨br, offr + k, none⟩ = some (.string (s k)) := hcr k hlt
    have hz : ((s k).size : Int) <= 9223372036854775807 := by have := HZ.out k hlt; omega
    clear hcr H2
    by_cases g : (s k).size <= 160
    · have HV : Hid (∀ p, p < k + 1 -> (s p).size <= 160) := zb1 HP.out g
      have g' : ((s k).size : Int) <= 160 := by omega
      clear g
      generalize s k = tx at hc1 g' hz
      go_wp2
      go_roundw
      case rel => exact ⟨k + 1, by omega, by go_num, HV, by first | rfl | trivial⟩
      case measure => simp [intOf]; omega
    · have HV : Hid (¬ MOk L X n s) := fun h => g (h.1.2 k hlt)
      have g' : 160 < ((s k).size : Int) := by omega
      clear g
      generalize s k = tx at hc1 g' hz
      go_wp2
      go_ret
      exact ⟨false, rfl, ⟨fun h => (by cases h), fun h => absurd h HV.out⟩, B1⟩
  have hge : (n : Int) <= (k : Int) := by omega
  have HTx : Hid (zh7 n s) := ⟨by omega, fun j hj => HP.out j (by omega)⟩
  have HF0 : Hid (Below w.heap.size w wr) := B1
  clear HP H2 HZ
  rename World => wo
  go_wp2
  go_loopw [4] (fun i wr => ∃ k : Nat, k <= L /\ i = .int .i64 k /\ Hid (∀ p, p < k -> zey (X p)) /\ Below w.heap.size w wr /\ (∀ i, wr.cell? ⟨w.heap.size, i, none⟩ = (#[.slice (some ⟨b, off, none⟩) L c1, .slice a2 n c2] : Array Value)[i]?) /\ w.heap.size + 1 <= wr.heap.size) (fun i _ => L - (intOf i).toNat)
  case atStart => exact ⟨0, Nat.zero_le _, rfl, fun p hp => by omega, B1, K0, z0⟩
  case round =>
   clear B1 K0 z0 hge hk
   obtain ⟨k, hk, rfl, HP, hF, K1, z1⟩ := hrel
   by_cases hlt : k < L
   · have hlt' : (k : Int) < (L : Int) := by omega
     obtain ⟨ax, cx, ax', cx', d0, d1, d2, d3, sx, sx'⟩ := (HD.out k hlt).below hF hT lb
     obtain ⟨x1, x2⟩ := HX.out k hlt
     have NQ : Hid (MOk L X n s -> zey (X k)) := fun h => h.2.1.2.2.1 k hlt
     obtain ⟨x, hx⟩ : ∃ x, X k = x := ⟨_, rfl⟩
     have NX : Hid (zey x -> zey (X k)) := fun h => by rw [hx]; exact h
     rw [hx] at d0 d1 d2 d3 sx' x1 x2 NQ
     obtain ⟨pa, sl, un, ub, ui, cn, co, ca⟩ := x
     simp only at d0 d1 d2 d3 sx' x1 x2
     have hT2 : T <= wr.heap.size := Nat.le_trans hT hF.size
     have lw : w.heap.size < wr.heap.size := by omega
     have x1' : (un : Int) <= 1048576 := by omega
     have x2' : (cn : Int) <= 1048576 := by omega
     have BX : Below wr.heap.size wr (wr.alloc (.cells #[.int .i64 pa, .int .i64 sl, .slice ax un cx, .slice ax' cn cx'] 176)) := (Below.refl _ _).alloc (Nat.le_refl _) _
     have BF := zc hF BX
     have K1' := zam K1 BX lw
     have z2 : w.heap.size + 1 <= (wr.alloc (.cells #[.int .i64 pa, .int .i64 sl, .slice ax un cx, .slice ax' cn cx'] 176)).heap.size := by simp; omega
     clear hx sx
     by_cases f0 : 0 <= sl /\ sl <= 20
     rotate_left
     · have HV : Hid (¬ MOk L X n s) := fun h => by obtain ⟨m1, m2, m3, _⟩ := NQ.out h; simp only at m1 m2 m3; omega
       go_wp2_with (go_at_call 104; refine (zay _ _ _ _ f0).mono ?_; rintro e w' ⟨rfl, rfl⟩)
       go_ret
       exact ⟨false, rfl, ⟨fun h => (by cases h), fun h => absurd h HV.out⟩, BF⟩
     by_cases f1 : 0 <= pa /\ pa <= sl
     rotate_left
     · have HV : Hid (¬ MOk L X n s) := fun h => by obtain ⟨m1, m2, m3, _⟩ := NQ.out h; simp only at m1 m2 m3; omega
       go_wp2_with (first | (go_at_call_of 104 pa; refine (zay _ _ _ _ f1).mono ?_; rintro e w' ⟨rfl, rfl⟩) | (go_at_call 104; refine (zab _ _ _ _ f0).mono ?_; rintro e w' ⟨rfl, rfl⟩))
       go_ret
       exact ⟨false, rfl, ⟨fun h => (by cases h), fun h => absurd h HV.out⟩, BF⟩
     by_cases f2 : (un : Int) <= 12
     rotate_left
     · have HV : Hid (¬ MOk L X n s) := fun h => by obtain ⟨m1, m2, m3, m4, _⟩ := NQ.out h; simp only at m4; omega
       have f2' : 12 < (un : Int) := by omega
       go_wp2_with (first | (go_at_call_of 104 pa; refine (zab _ _ _ _ f1).mono ?_; rintro e w' ⟨rfl, rfl⟩) | (go_at_call 104; refine (zab _ _ _ _ f0).mono ?_; rintro e w' ⟨rfl, rfl⟩))
       go_ret
       exact ⟨false, rfl, ⟨fun h => (by cases h), fun h => absurd h HV.out⟩, BF⟩
     by_cases f3 : 1 <= (cn : Int) /\ (cn : Int) <= 4000
     rotate_left
     · have HV : Hid (¬ MOk L X n s) := fun h => by obtain ⟨m1, m2, m3, m4, m5, m6, _⟩ := NQ.out h; simp only at m5 m6; omega
       go_wp2_with (first | (go_at_call_of 104 pa; refine (zab _ _ _ _ f1).mono ?_; rintro e w' ⟨rfl, rfl⟩) | (go_at_call_of 104 cn; refine (zay _ _ _ _ f3).mono ?_; rintro e w' ⟨rfl, rfl⟩) | (go_at_call 104; refine (zab _ _ _ _ f0).mono ?_; rintro e w' ⟨rfl, rfl⟩))
       go_ret
       exact ⟨false, rfl, ⟨fun h => (by cases h), fun h => absurd h HV.out⟩, BF⟩
     obtain ⟨bc, oc, cap', hv, _, lbr, hcr⟩ := SlF.parts (sx'.below BX hT2) (k := 0) (by omega)
     simp only [Value.slice.injEq] at hv
     obtain ⟨rfl, _, rfl⟩ := hv
     have q1 : (wr.alloc (.cells #[.int .i64 pa, .int .i64 sl, .slice ax un cx, .slice (some ⟨bc, oc, none⟩) cn cx'] 176)).cell? ⟨bc, oc + (cn - 1) * 2, none⟩ = some (.int .i64 (co (cn - 1))) := by rw [hcr ((cn - 1) * 2) (by omega), zhh]
     have e1 : ((cn : Int) - 1).toNat = cn - 1 := by omega
     obtain ⟨z, hz⟩ : ∃ z, co (cn - 1) = z := ⟨_, rfl⟩
     rw [hz] at q1
     clear hcr sx'
     by_cases f4 : z = 24
     · subst f4
       have HV : Hid (∀ p, p < k + 1 -> zey (X p)) := zb1 HP.out (NX.out ⟨f1.1, f1.2, f0.2, by simp only; omega, by simp only; omega, by simp only; omega, hz⟩)
       clear NX NQ hz
       go_wp2_with (first | (go_at_call_of 104 pa; refine (zab _ _ _ _ f1).mono ?_; rintro e w' ⟨rfl, rfl⟩) | (go_at_call_of 104 cn; refine (zab _ _ _ _ f3).mono ?_; rintro e w' ⟨rfl, rfl⟩) | (go_at_call 104; refine (zab _ _ _ _ f0).mono ?_; rintro e w' ⟨rfl, rfl⟩))
       go_roundw
       case rel => exact ⟨k + 1, by omega, by go_num, HV, BF, K1', z2⟩
       case measure => simp [intOf]; omega
     · have HV : Hid (¬ MOk L X n s) := fun h => f4 (hz ▸ (NQ.out h).2.2.2.2.2.2)
       have f4' : (z != 24) = true := by simp [f4]
       clear NX NQ hz f4
       go_wp2_with (first | (go_at_call_of 104 pa; refine (zab _ _ _ _ f1).mono ?_; rintro e w' ⟨rfl, rfl⟩) | (go_at_call_of 104 cn; refine (zab _ _ _ _ f3).mono ?_; rintro e w' ⟨rfl, rfl⟩) | (go_at_call 104; refine (zab _ _ _ _ f0).mono ?_; rintro e w' ⟨rfl, rfl⟩))
       go_ret
       exact ⟨false, rfl, ⟨fun h => (by cases h), fun h => absurd h HV.out⟩, BF⟩
   have hge : (L : Int) <= (k : Int) := by omega
   have HMs : Hid (∀ i, i < L -> zey (X i)) := fun i hi => HP.out i (by omega)
   have NM3 : Hid ((∀ i, i < L -> ze5 L n X (X i)) -> MOk L X n s) := NM2.out HTx.out HMs.out
   clear HP NM2
   obtain ⟨wv, hwv⟩ : ∃ W, W = wr := ⟨_, rfl⟩
   rw [<- hwv] at hF K1 z1 ⊢
   clear hwv
   go_wp2
   go_loopw [6] (fun i wr => ∃ k : Nat, k <= L /\ i = .int .i64 k /\ Hid (∀ p, p < k -> ze5 L n X (X p)) /\ Below w.heap.size w wr /\ (∀ i, wr.cell? ⟨w.heap.size, i, none⟩ = (#[.slice (some ⟨b, off, none⟩) L c1, .slice a2 n c2] : Array Value)[i]?) /\ w.heap.size + 1 <= wr.heap.size) (fun i _ => L - (intOf i).toNat)
   case atStart => exact ⟨0, Nat.zero_le _, rfl, fun p hp => by omega, hF, K1, z1⟩
   case round =>
    clear hF K1 z1 hge hk
    obtain ⟨k, hk, rfl, HP, hF, K1, z1⟩ := hrel
    by_cases hlt : k < L
    · have hlt' : (k : Int) < (L : Int) := by omega
      have hD' : PtF T wr (.slice (some ⟨b, off, none⟩) L c1) L X := ⟨_, _, rfl, .inr ⟨b, off, rfl, lb, Nat.lt_of_lt_of_le lz hF.size, fun i hi => (HD.out i hi).below hF hT lb⟩⟩
      obtain ⟨ax, cx, ax', cx', d0, d1, d2, d3, sx, sx'⟩ := (HD.out k hlt).below hF hT lb
      obtain ⟨m1, m2, m3, m4, m5, m6, m7⟩ := HMs.out k hlt
      have HRk : Hid (∀ p, p < (X k).cn -> -9223372036854775808 <= (X k).ca p /\ (X k).ca p <= 9223372036854775807) := (HR.out k hlt).2
      have NC : Hid (ze5 L n X (X k) ↔ ∀ p, p < (X k).cn -> zaa L n X (X k).sl (X k).un (X k).cn ((X k).co p) ((X k).ca p)) := Iff.rfl
      obtain ⟨x, hx⟩ : ∃ x, X k = x := ⟨_, rfl⟩
      have NX : Hid (ze5 L n X (X k) ↔ ze5 L n X x) := by rw [hx]; exact Iff.rfl
      rw [hx] at d0 d1 d2 d3 sx' m1 m2 m3 m4 m5 m6 HRk
      obtain ⟨pa, sl, un, ub, ui, cn, co, ca⟩ := x
      simp only at d0 d1 d2 d3 sx' m1 m2 m3 m4 m5 m6 HRk
      have m0 : 0 <= sl := by omega
      have m6' : (cn : Int) <= 4000 := by omega
      have hT2 : T <= wr.heap.size := Nat.le_trans hT hF.size
      have lw : w.heap.size < wr.heap.size := by omega
      have BX : Below wr.heap.size wr (wr.alloc (.cells #[.int .i64 pa, .int .i64 sl, .slice ax un cx, .slice ax' cn cx'] 176)) := (Below.refl _ _).alloc (Nat.le_refl _) _
      obtain ⟨WP, hWP⟩ : ∃ W, W = wr.alloc (.cells #[.int .i64 pa, .int .i64 sl, .slice ax un cx, .slice ax' cn cx'] 176) := ⟨_, rfl⟩
      have KP : ∀ i, WP.cell? ⟨wr.heap.size, i, none⟩ = (#[.int .i64 pa, .int .i64 sl, .slice ax un cx, .slice ax' cn cx'] : Array Value)[i]? := fun i => by rw [hWP]; simp [go_sem]
      have zP : wr.heap.size + 1 <= WP.heap.size := by rw [hWP]; simp
      have HWP : Hid (WP = wr.alloc (.cells #[.int .i64 pa, .int .i64 sl, .slice ax un cx, .slice ax' cn cx'] 176)) := hWP
      rw [<- hWP] at BX
      have BF := zc hF BX
      have KM := zam K1 BX lw
      have HS : Hid (SlF T WP (.slice ax' cn cx') cn (2 * cn) (inF co ca)) := sx'.below BX hT2
      have HPt : Hid (PtF T WP (.slice (some ⟨b, off, none⟩) L c1) L X) := hD'.below BX hT2
      clear hx sx sx' hD' m7 hWP NC
      go_wp2
      rw [<- HWP.out]
      obtain ⟨B9, hB9⟩ : ∃ y, y = wr.heap.size := ⟨_, rfl⟩
      rw [<- hB9] at KP zP ⊢
      have lB : w.heap.size < B9 := by omega
      clear HWP hB9 d0 d1 d2 d3 BX K1 z1
      have hT3 : T <= WP.heap.size := Nat.le_trans hT BF.size
      clear hT2 lw
      go_loopw [8] (fun i wr => ∃ j : Nat, j <= cn /\ i = .int .i64 j /\ Hid (∀ p, p < j -> zaa L n X sl un cn (co p) (ca p)) /\ Below WP.heap.size WP wr) (fun i _ => cn - (intOf i).toNat)
      case atStart => exact ⟨0, Nat.zero_le _, rfl, fun p hp => by omega, Below.refl _ _⟩
      case round =>
       clear hF
       obtain ⟨j, hj, rfl, HI, hG⟩ := hrel
       have K2 := zam KM hG (by omega)
       have K3 := zam KP hG (by omega)
       have BH := zc BF hG
       by_cases hlj : j < cn
       · have hlj' : (j : Int) < (cn : Int) := by omega
         obtain ⟨bc, oc, cap', hv, _, lbr, hcr⟩ := SlF.parts (HS.out.below hG hT3) (k := 0) (by omega)
         simp only [Value.slice.injEq] at hv
         obtain ⟨rfl, _, rfl⟩ := hv
         have q1 : wr.cell? ⟨bc, oc + j * 2, none⟩ = some (.int .i64 (co j)) := by rw [hcr (j * 2) (by omega), zhh]
         have q2 : wr.cell? ⟨bc, oc + j * 2 + 1, none⟩ = some (.int .i64 (ca j)) := by rw [Nat.add_assoc, hcr (j * 2 + 1) (by omega), zke]
         have HC : Hid (∀ W, Below wr.heap.size wr W -> _) := fun W (hW : Below wr.heap.size wr W) => zv4 (some ⟨b, off, none⟩) L c1 a2 n c2 pa sl ax un cx (some ⟨bc, oc, none⟩) cn cx' (co j) (ca j) X T W ((HPt.out.below hG hT3).below hW (Nat.le_trans hT3 hG.size)) (Nat.le_trans (Nat.le_trans hT3 hG.size) hW.size) (by omega) (by omega) m0 m3 m4 m6 (fun i hi => (HMs.out i hi).2.2.2.1) (HRk.out j hlj)
         clear hcr
         generalize hop : co j = op at q1 HC
         generalize hav : ca j = av at q2 HC
         go_wp2
         go_region_with (go_at_call 138; refine (HC.out _ (Below.refl _ _).drew).mono ?_; rintro e w2 ⟨q, rfl, hq, b2⟩)
         all_goals
          have HQ : Hid (q = true ↔ zaa L n X sl un cn (co j) (ca j)) := by rw [hop, hav]; exact hq
          have b2' : Below wr.heap.size wr w2 := zc (Below.refl _ _).drew b2
          have BG2 := zc hG b2'
          have BH2 := zc BH b2'
          clear hq b2 b2' HC hop hav
          cases q with
          | true =>
            have HV : Hid (∀ p, p < j + 1 -> zaa L n X sl un cn (co p) (ca p)) := zb1 HI.out (HQ.out.1 rfl)
            go_wp2
            go_roundw
            case rel => exact ⟨j + 1, by omega, by go_num, HV, BG2⟩
            case measure => simp [intOf]; omega
          | false =>
            have HV : Hid (¬ MOk L X n s) := fun h => absurd (HQ.out.2 ((NX.out.1 (h.2.2 k hlt)) j hlj)) (by simp)
            go_wp2
            go_ret
            exact ⟨false, rfl, ⟨fun h => (by cases h), fun h => absurd h HV.out⟩, BH2⟩
       · have hge : (cn : Int) <= (j : Int) := by omega
         have HV : Hid (∀ p, p < k + 1 -> ze5 L n X (X p)) := zb1 HP.out (NX.out.2 fun p hp => HI.out p (by simp only at hp; omega))
         have z4 : w.heap.size + 1 <= wr.heap.size := by have := hG.size; omega
         go_wp2
         go_roundw
         case rel => exact ⟨k + 1, by omega, by go_num, HV, BH, K2, z4⟩
         case measure => simp [intOf]; omega
    · have hge : (L : Int) <= (k : Int) := by omega
      go_wp2
      go_ret
      exact ⟨true, rfl, ⟨fun _ => NM3.out fun i hi => HP.out i (by omega), fun _ => rfl⟩, hF⟩
end Go.Proofs.YtmckcnmlhgpnhaaGreat
