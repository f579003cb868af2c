/- - -/
import Derived.Test.YtblcfbhlmdhnpaaGreatBMkI
namespace Go.Proofs.YtblcfbhlmdhnpaaGreat
set_option maxRecDepth 20000
open Go.RowKit
set_option linter.unusedSimpArgs false
set_option linter.unusedVariables false
theorem zg (x a b : Int) (w : World) (h : a <= x /\ x <= b) :
 Calls Tryz.prog 39 #[.int .i64 x, .int .i64 a, .int .i64 b] w fun e w' => e = .returned (.bool true) /\ w' = w :=
 (zl x a b w).mono fun e w' ⟨h1, h2⟩ => ⟨by rw [h1]; simp [inB, h], h2⟩
theorem zn (x a b : Int) (w : World) (h : ¬ (a <= x /\ x <= b)) :
 Calls Tryz.prog 39 #[.int .i64 x, .int .i64 a, .int .i64 b] w fun e w' => e = .returned (.bool false) /\ w' = w :=
 (zl x a b w).mono fun e w' ⟨h1, h2⟩ => ⟨by rw [h1]; simp only [inB, h, decide_false], h2⟩
set_option maxHeartbeats 4000000 in
theorem zgq (a1 : Option Addr) (L c1 : Nat) (a2 : Option Addr) (n c2 : Nat) (pa sl : Int) (au : Option Addr) (un cu : Nat) (ac : Option Addr) (cn cc : Nat) (op av : Int) (X : Nat -> PtD) (T : Nat) (w : World) (h1 : PtF T w (.slice a1 L c1) L X) (hT : T <= w.heap.size) (hL : L <= 100) (hn : n <= 255) (hs0 : 0 <= sl) (hs : sl <= 20) (hu : un <= 12) (hc : cn <= 4000) (hX : ∀ j, j < L -> (X j).un <= 12) (hr : -9223372036854775808 <= av /\ av <= 9223372036854775807) :
 Calls Tryz.prog 40 #[.agg #[.slice a1 L c1, .slice a2 n c2], .agg #[.int .i64 pa, .int .i64 sl, .slice au un cu, .slice ac cn cc], .agg #[.int .i64 op, .int .i64 av]] w fun e w' => zbw (zf L n X sl un cn op av) w e w' := by
 have B3 : Below w.heap.size w (((w.alloc (.cells #[.slice a1 L c1, .slice a2 n c2] 29)).alloc (.cells #[.int .i64 pa, .int .i64 sl, .slice au un cu, .slice ac cn cc] 58)).alloc (.cells #[.int .i64 op, .int .i64 av] 80)) := (((Below.refl _ _).alloc (Nat.le_refl _) _).alloc (by simp) _).alloc (by simp; omega) _
 have H1 : Hid (PtF T w (.slice a1 L c1) L X) := h1
 have HX : Hid (∀ j, j < L -> (X j).un <= 12) := hX
 have hL' : (L : Int) <= 100 := by omega
 have hn' : (n : Int) <= 255 := by omega
 have hu' : (un : Int) <= 12 := by omega
 have hc' : (cn : Int) <= 4000 := by omega
 clear h1 hX
 by_cases h1 : op = 1
 · subst h1
   by_cases g : av = 0
   · subst g
     go_enter Tryz.func40, Tryz.ntmps40
     go_wp2_with (first | (go_at_call 39; refine (zg _ _ _ _ (by omega)).mono ?_; rintro e w' ⟨rfl, rfl⟩) | (go_at_call 39; refine (zn _ _ _ _ (by omega)).mono ?_; rintro e w' ⟨rfl, rfl⟩))
     go_ret
     exact ⟨true, rfl, by simp [zf, zd], B3⟩
   · have g' : (av == 0) = false := by simp [g]
     go_enter Tryz.func40, Tryz.ntmps40
     go_wp2_with (first | (go_at_call 39; refine (zg _ _ _ _ (by omega)).mono ?_; rintro e w' ⟨rfl, rfl⟩) | (go_at_call 39; refine (zn _ _ _ _ (by omega)).mono ?_; rintro e w' ⟨rfl, rfl⟩))
     go_ret
     exact ⟨false, by simp [g'], by simp [zf, zd]; omega, B3⟩
 by_cases h2 : op = 2
 · subst h2
   by_cases g : av = 0
   · subst g
     go_enter Tryz.func40, Tryz.ntmps40
     go_wp2
     go_ret
     exact ⟨true, rfl, by simp [zf, zd], B3⟩
   · have g' : (av == 0) = false := by simp [g]
     by_cases f : av = 1
     · subst f
       go_enter Tryz.func40, Tryz.ntmps40
       go_wp2
       go_ret
       exact ⟨true, rfl, by simp [zf, zd], B3⟩
     · have f' : (av == 1) = false := by simp [f]
       go_enter Tryz.func40, Tryz.ntmps40
       go_wp2
       go_ret
       exact ⟨false, by simp [g', f'], by simp [zf, zd]; omega, B3⟩
 by_cases h3 : op = 3
 · subst h3
   go_enter Tryz.func40, Tryz.ntmps40
   go_wp2
   go_ret
   exact ⟨true, rfl, by simp [zf, zd]; omega, B3⟩
 by_cases h4 : op = 4
 · subst h4
   go_enter Tryz.func40, Tryz.ntmps40
   go_wp2_with (go_at_call 39; refine (zl _ _ _ _).mono ?_; rintro e w' ⟨rfl, rfl⟩)
   go_ret
   exact ⟨_, rfl, by simp [zf, zd, inB], B3⟩
 by_cases h5 : op = 5
 · subst h5
   go_enter Tryz.func40, Tryz.ntmps40
   go_wp2_with (go_at_call 39; refine (zl _ _ _ _).mono ?_; rintro e w' ⟨rfl, rfl⟩)
   go_ret
   exact ⟨_, rfl, by simp [zf, zd, inB], B3⟩
 by_cases h6 : op = 6
 · subst h6
   go_enter Tryz.func40, Tryz.ntmps40
   go_wp2_with (go_at_call 39; refine (zl _ _ _ _).mono ?_; rintro e w' ⟨rfl, rfl⟩)
   go_ret
   exact ⟨_, rfl, by simp [zf, zd, inB], B3⟩
 by_cases h7 : op = 7
 · subst h7
   go_enter Tryz.func40, Tryz.ntmps40
   go_wp2_with (go_at_call 39; refine (zl _ _ _ _).mono ?_; rintro e w' ⟨rfl, rfl⟩)
   go_ret
   exact ⟨_, rfl, by simp [zf, zd, inB], B3⟩
 by_cases h8 : op = 8
 · subst h8
   go_enter Tryz.func40, Tryz.ntmps40
   go_wp2_with (go_at_call 39; refine (zl _ _ _ _).mono ?_; rintro e w' ⟨rfl, rfl⟩)
   go_ret
   exact ⟨_, rfl, by simp [zf, zd, inB], B3⟩
 by_cases h9 : op = 9
 · subst h9
   go_enter Tryz.func40, Tryz.ntmps40
   go_wp2_with (go_at_call 39; refine (zl _ _ _ _).mono ?_; rintro e w' ⟨rfl, rfl⟩)
   go_ret
   exact ⟨_, rfl, by simp [zf, zd, inB], B3⟩
 by_cases h10 : op = 10
 · subst h10
   go_enter Tryz.func40, Tryz.ntmps40
   go_wp2_with (go_at_call 39; refine (zl _ _ _ _).mono ?_; rintro e w' ⟨rfl, rfl⟩)
   go_ret
   exact ⟨_, rfl, by simp [zf, zd, inB], B3⟩
 by_cases h11 : op = 11
 · subst h11
   go_enter Tryz.func40, Tryz.ntmps40
   go_wp2_with (go_at_call 39; refine (zl _ _ _ _).mono ?_; rintro e w' ⟨rfl, rfl⟩)
   go_ret
   exact ⟨_, rfl, by simp [zf, zd, inB], B3⟩
 by_cases h12 : op = 12
 · subst h12
   by_cases g1 : 0 <= av /\ av <= (L : Int) - 1
   rotate_left
   · have f1 : ¬ (0 <= av /\ av <= (L : Int) - 1) := g1
     go_enter Tryz.func40, Tryz.ntmps40
     go_wp2_with (go_at_call 39; refine (zn _ _ _ _ f1).mono ?_; rintro e w' ⟨rfl, rfl⟩)
     go_ret
     exact ⟨false, rfl, ⟨fun h => (by cases h), fun h => absurd ⟨by simpa [zd] using h.1, by simpa [zd] using h.2.1⟩ g1⟩, B3⟩
   obtain ⟨g4, g5⟩ := g1
   obtain ⟨j, rfl⟩ := Int.eq_ofNat_of_zero_le g4
   have hj : j < L := by omega
   obtain ⟨b, off, rfl, lb, lz, hcx⟩ := H1.out.at_ hj
   obtain ⟨ax, cx, ax', cx', d0, d1, d2, d3, sx, sx'⟩ := (hcx j hj).below B3 hT lb
   have xu := HX.out j hj
   have NY : Hid (zf L n X sl un cn 12 (j : Int) ↔ ∀ p, p < (X j).un -> zai sl un (X j).ub (X j).ui p) := by
    show zf L n X sl un cn 12 (j : Int) ↔ _
    exact ⟨fun h => h.2.2 rfl, fun h => ⟨by simp [zd], by simp [zd]; omega, fun _ => h⟩⟩
   clear hcx sx' H1 HX d0 d1 d3
   obtain ⟨x, hx⟩ : ∃ x, X j = x := ⟨_, rfl⟩
   rw [hx] at NY d2 sx xu
   obtain ⟨pa', sl', un', ub', ui', cn', co', ca'⟩ := x
   simp only at NY d2 sx xu
   have HS : Hid (SlF T _ (.slice ax un' cx) un' (2 * un') (upF ub' ui')) := sx
   have xu' : (un' : Int) <= 12 := by omega
   clear sx hx
   go_enter Tryz.func40, Tryz.ntmps40
   go_wp2_with (go_at_call 39; refine (zg _ _ _ _ ⟨g4, g5⟩).mono ?_; rintro e w' ⟨rfl, rfl⟩)
   obtain ⟨W3, hW3⟩ : ∃ W, W = (((w.alloc (.cells #[.slice (some ⟨b, off, none⟩) L c1, .slice a2 n c2] 29)).alloc (.cells #[.int .i64 pa, .int .i64 sl, .slice au un cu, .slice ac cn cc] 58)).alloc (.cells #[.int .i64 12, .int .i64 (j : Int)] 80)) := ⟨_, rfl⟩
   have K2 : ∀ i, W3.cell? ⟨w.heap.size + 1, i, none⟩ = (#[.int .i64 pa, .int .i64 sl, .slice au un cu, .slice ac cn cc] : Array Value)[i]? := fun i => by rw [hW3]; simp [go_sem]
   have z3 : w.heap.size + 1 + 1 + 1 = W3.heap.size := by rw [hW3]; simp
   rw [<- hW3] at HS B3 d2 ⊢
   clear hW3
   have Z3 : Hid (w.heap.size + 1 + 1 + 1 = W3.heap.size) := z3
   clear z3
   go_loopw [8] (fun i wr => ∃ k : Nat, k <= un' /\ i = .int .i64 k /\ Hid (∀ p, p < k -> zai sl un ub' ui' p) /\ wr = W3) (fun i _ => un' - (intOf i).toNat)
   case atStart => exact ⟨0, Nat.zero_le _, rfl, fun p hp => by omega, rfl⟩
   case round =>
    obtain ⟨k, hk, rfl, HP, rfl⟩ := hrel
    by_cases hlt : k < un'
    · have hlt' : (k : Int) < (un' : Int) := by omega
      obtain ⟨br, offr, cap', hv, _, lbr, hcr⟩ := SlF.parts HS.out (k := 0) (by omega)
      simp only [Value.slice.injEq] at hv
      obtain ⟨rfl, _, rfl⟩ := hv
      have q1 : wr.cell? ⟨br, offr + k * 2, none⟩ = some (.bool (ub' k)) := by rw [hcr (k * 2) (by omega), zb1]
      have q2 : wr.cell? ⟨br, offr + k * 2 + 1, none⟩ = some (.int .i64 (ui' k)) := by rw [Nat.add_assoc, hcr (k * 2 + 1) (by omega), zb2]
      have NU : Hid (zai sl un ub' ui' k ↔ 0 <= ui' k /\ ui' k < (if ub' k = true then sl else (un : Int))) := Iff.rfl
      have NF : Hid (¬ zai sl un ub' ui' k -> ¬ zf L n X sl un cn 12 (j : Int)) := fun h hi => h (NY.out.1 hi k hlt)
      clear hcr HS
      obtain ⟨yb, hyb⟩ : ∃ y, ub' k = y := ⟨_, rfl⟩
      obtain ⟨yi, hyi⟩ : ∃ y, ui' k = y := ⟨_, rfl⟩
      rw [hyb, hyi] at NU
      rw [hyb] at q1
      rw [hyi] at q2
      cases yb with
      | true =>
        by_cases g6 : 0 <= yi /\ yi <= sl - 1
        · have HV : Hid (∀ p, p < k + 1 -> zai sl un ub' ui' p) := zu HP.out (NU.out.2 ⟨g6.1, by simp; omega⟩)
          go_wp2_with (go_at_call 39; refine (zg _ _ _ _ g6).mono ?_; rintro e w' ⟨rfl, rfl⟩)
          go_roundw
          case rel => exact ⟨k + 1, by omega, by go_num, HV, by first | rfl | trivial⟩
          case measure => simp [intOf]; omega
        · have HV : Hid (¬ zf L n X sl un cn 12 (j : Int)) := NF.out fun h => g6 ⟨(NU.out.1 h).1, by have := (NU.out.1 h).2; simp at this; omega⟩
          go_wp2_with (go_at_call 39; refine (zn _ _ _ _ g6).mono ?_; rintro e w' ⟨rfl, rfl⟩)
          go_ret
          exact ⟨false, rfl, ⟨fun h => (by cases h), fun h => absurd h HV.out⟩, B3⟩
      | false =>
        by_cases g6 : 0 <= yi /\ yi <= (un : Int) - 1
        · have HV : Hid (∀ p, p < k + 1 -> zai sl un ub' ui' p) := zu HP.out (NU.out.2 ⟨g6.1, by simp; omega⟩)
          go_wp2_with (go_at_call 39; refine (zg _ _ _ _ g6).mono ?_; rintro e w' ⟨rfl, rfl⟩)
          go_roundw
          case rel => exact ⟨k + 1, by omega, by go_num, HV, by first | rfl | trivial⟩
          case measure => simp [intOf]; omega
        · have HV : Hid (¬ zf L n X sl un cn 12 (j : Int)) := NF.out fun h => g6 ⟨(NU.out.1 h).1, by have := (NU.out.1 h).2; simp at this; omega⟩
          go_wp2_with (go_at_call 39; refine (zn _ _ _ _ g6).mono ?_; rintro e w' ⟨rfl, rfl⟩)
          go_ret
          exact ⟨false, rfl, ⟨fun h => (by cases h), fun h => absurd h HV.out⟩, B3⟩
    · have hge : (un' : Int) <= (k : Int) := by omega
      go_wp2
      go_ret
      exact ⟨true, rfl, ⟨fun _ => NY.out.2 fun p hp => HP.out p (by omega), fun _ => rfl⟩, B3⟩
 by_cases h13 : op = 13
 · subst h13
   by_cases g : av = 0
   · subst g
     go_enter Tryz.func40, Tryz.ntmps40
     go_wp2_with (first | (go_at_call 39; refine (zg _ _ _ _ (by omega)).mono ?_; rintro e w' ⟨rfl, rfl⟩) | (go_at_call 39; refine (zn _ _ _ _ (by omega)).mono ?_; rintro e w' ⟨rfl, rfl⟩))
     go_ret
     exact ⟨true, rfl, by simp [zf, zd], B3⟩
   · have g' : (av == 0) = false := by simp [g]
     go_enter Tryz.func40, Tryz.ntmps40
     go_wp2_with (first | (go_at_call 39; refine (zg _ _ _ _ (by omega)).mono ?_; rintro e w' ⟨rfl, rfl⟩) | (go_at_call 39; refine (zn _ _ _ _ (by omega)).mono ?_; rintro e w' ⟨rfl, rfl⟩))
     go_ret
     exact ⟨false, by simp [g'], by simp [zf, zd]; omega, B3⟩
 by_cases h14 : op = 14
 · subst h14
   by_cases g : av = 0
   · subst g
     go_enter Tryz.func40, Tryz.ntmps40
     go_wp2_with (first | (go_at_call 39; refine (zg _ _ _ _ (by omega)).mono ?_; rintro e w' ⟨rfl, rfl⟩) | (go_at_call 39; refine (zn _ _ _ _ (by omega)).mono ?_; rintro e w' ⟨rfl, rfl⟩))
     go_ret
     exact ⟨true, rfl, by simp [zf, zd], B3⟩
   · have g' : (av == 0) = false := by simp [g]
     go_enter Tryz.func40, Tryz.ntmps40
     go_wp2_with (first | (go_at_call 39; refine (zg _ _ _ _ (by omega)).mono ?_; rintro e w' ⟨rfl, rfl⟩) | (go_at_call 39; refine (zn _ _ _ _ (by omega)).mono ?_; rintro e w' ⟨rfl, rfl⟩))
     go_ret
     exact ⟨false, by simp [g'], by simp [zf, zd]; omega, B3⟩
 by_cases h15 : op = 15
 · subst h15
   by_cases g : av = 0
   · subst g
     go_enter Tryz.func40, Tryz.ntmps40
     go_wp2_with (first | (go_at_call 39; refine (zg _ _ _ _ (by omega)).mono ?_; rintro e w' ⟨rfl, rfl⟩) | (go_at_call 39; refine (zn _ _ _ _ (by omega)).mono ?_; rintro e w' ⟨rfl, rfl⟩))
     go_ret
     exact ⟨true, rfl, by simp [zf, zd], B3⟩
   · have g' : (av == 0) = false := by simp [g]
     go_enter Tryz.func40, Tryz.ntmps40
     go_wp2_with (first | (go_at_call 39; refine (zg _ _ _ _ (by omega)).mono ?_; rintro e w' ⟨rfl, rfl⟩) | (go_at_call 39; refine (zn _ _ _ _ (by omega)).mono ?_; rintro e w' ⟨rfl, rfl⟩))
     go_ret
     exact ⟨false, by simp [g'], by simp [zf, zd]; omega, B3⟩
 by_cases h16 : op = 16
 · subst h16
   go_enter Tryz.func40, Tryz.ntmps40
   go_wp2_with (go_at_call 39; refine (zl _ _ _ _).mono ?_; rintro e w' ⟨rfl, rfl⟩)
   go_ret
   exact ⟨_, rfl, by simp [zf, zd, inB], B3⟩
 by_cases h17 : op = 17
 · subst h17
   go_enter Tryz.func40, Tryz.ntmps40
   go_wp2_with (go_at_call 39; refine (zl _ _ _ _).mono ?_; rintro e w' ⟨rfl, rfl⟩)
   go_ret
   exact ⟨_, rfl, by simp [zf, zd, inB], B3⟩
 by_cases h18 : op = 18
 · subst h18
   go_enter Tryz.func40, Tryz.ntmps40
   go_wp2_with (go_at_call 39; refine (zl _ _ _ _).mono ?_; rintro e w' ⟨rfl, rfl⟩)
   go_ret
   exact ⟨_, rfl, by simp [zf, zd, inB], B3⟩
 by_cases h19 : op = 19
 · subst h19
   go_enter Tryz.func40, Tryz.ntmps40
   go_wp2_with (go_at_call 39; refine (zl _ _ _ _).mono ?_; rintro e w' ⟨rfl, rfl⟩)
   go_ret
   exact ⟨_, rfl, by simp [zf, zd, inB], B3⟩
 by_cases h20 : op = 20
 · subst h20
   go_enter Tryz.func40, Tryz.ntmps40
   go_wp2_with (go_at_call 39; refine (zl _ _ _ _).mono ?_; rintro e w' ⟨rfl, rfl⟩)
   go_ret
   exact ⟨_, rfl, by simp [zf, zd, inB], B3⟩
 by_cases h21 : op = 21
 · subst h21
   go_enter Tryz.func40, Tryz.ntmps40
   go_wp2_with (go_at_call 39; refine (zl _ _ _ _).mono ?_; rintro e w' ⟨rfl, rfl⟩)
   go_ret
   exact ⟨_, rfl, by simp [zf, zd, inB], B3⟩
 by_cases h22 : op = 22
 · subst h22
   by_cases g : av = 0
   · subst g
     go_enter Tryz.func40, Tryz.ntmps40
     go_wp2_with (first | (go_at_call 39; refine (zg _ _ _ _ (by omega)).mono ?_; rintro e w' ⟨rfl, rfl⟩) | (go_at_call 39; refine (zn _ _ _ _ (by omega)).mono ?_; rintro e w' ⟨rfl, rfl⟩))
     go_ret
     exact ⟨true, rfl, by simp [zf, zd], B3⟩
   · have g' : (av == 0) = false := by simp [g]
     go_enter Tryz.func40, Tryz.ntmps40
     go_wp2_with (first | (go_at_call 39; refine (zg _ _ _ _ (by omega)).mono ?_; rintro e w' ⟨rfl, rfl⟩) | (go_at_call 39; refine (zn _ _ _ _ (by omega)).mono ?_; rintro e w' ⟨rfl, rfl⟩))
     go_ret
     exact ⟨false, by simp [g'], by simp [zf, zd]; omega, B3⟩
 by_cases h23 : op = 23
 · subst h23
   go_enter Tryz.func40, Tryz.ntmps40
   go_wp2_with (go_at_call 39; refine (zl _ _ _ _).mono ?_; rintro e w' ⟨rfl, rfl⟩)
   go_ret
   exact ⟨_, rfl, by simp [zf, zd, inB], B3⟩
 by_cases h24 : op = 24
 · subst h24
   by_cases g : av = 0
   · subst g
     go_enter Tryz.func40, Tryz.ntmps40
     go_wp2_with (first | (go_at_call 39; refine (zg _ _ _ _ (by omega)).mono ?_; rintro e w' ⟨rfl, rfl⟩) | (go_at_call 39; refine (zn _ _ _ _ (by omega)).mono ?_; rintro e w' ⟨rfl, rfl⟩))
     go_ret
     exact ⟨true, rfl, by simp [zf, zd], B3⟩
   · have g' : (av == 0) = false := by simp [g]
     go_enter Tryz.func40, Tryz.ntmps40
     go_wp2_with (first | (go_at_call 39; refine (zg _ _ _ _ (by omega)).mono ?_; rintro e w' ⟨rfl, rfl⟩) | (go_at_call 39; refine (zn _ _ _ _ (by omega)).mono ?_; rintro e w' ⟨rfl, rfl⟩))
     go_ret
     exact ⟨false, by simp [g'], by simp [zf, zd]; omega, B3⟩
 by_cases h25 : op = 25
 · subst h25
   by_cases g : av = 0
   · subst g
     go_enter Tryz.func40, Tryz.ntmps40
     go_wp2_with (first | (go_at_call 39; refine (zg _ _ _ _ (by omega)).mono ?_; rintro e w' ⟨rfl, rfl⟩) | (go_at_call 39; refine (zn _ _ _ _ (by omega)).mono ?_; rintro e w' ⟨rfl, rfl⟩))
     go_ret
     exact ⟨true, rfl, by simp [zf, zd], B3⟩
   · have g' : (av == 0) = false := by simp [g]
     go_enter Tryz.func40, Tryz.ntmps40
     go_wp2_with (first | (go_at_call 39; refine (zg _ _ _ _ (by omega)).mono ?_; rintro e w' ⟨rfl, rfl⟩) | (go_at_call 39; refine (zn _ _ _ _ (by omega)).mono ?_; rintro e w' ⟨rfl, rfl⟩))
     go_ret
     exact ⟨false, by simp [g'], by simp [zf, zd]; omega, B3⟩
 by_cases h26 : op = 26
 · subst h26
   by_cases g : av = 0
   · subst g
     go_enter Tryz.func40, Tryz.ntmps40
     go_wp2_with (first | (go_at_call 39; refine (zg _ _ _ _ (by omega)).mono ?_; rintro e w' ⟨rfl, rfl⟩) | (go_at_call 39; refine (zn _ _ _ _ (by omega)).mono ?_; rintro e w' ⟨rfl, rfl⟩))
     go_ret
     exact ⟨true, rfl, by simp [zf, zd], B3⟩
   · have g' : (av == 0) = false := by simp [g]
     go_enter Tryz.func40, Tryz.ntmps40
     go_wp2_with (first | (go_at_call 39; refine (zg _ _ _ _ (by omega)).mono ?_; rintro e w' ⟨rfl, rfl⟩) | (go_at_call 39; refine (zn _ _ _ _ (by omega)).mono ?_; rintro e w' ⟨rfl, rfl⟩))
     go_ret
     exact ⟨false, by simp [g'], by simp [zf, zd]; omega, B3⟩
 by_cases h27 : op = 27
 · subst h27
   go_enter Tryz.func40, Tryz.ntmps40
   go_wp2_with (go_at_call 39; refine (zl _ _ _ _).mono ?_; rintro e w' ⟨rfl, rfl⟩)
   go_ret
   exact ⟨_, rfl, by simp [zf, zd, inB], B3⟩
 have e1 : (op == 1) = false := by simp [h1]
 have e2 : (op == 2) = false := by simp [h2]
 have e3 : (op == 3) = false := by simp [h3]
 have e4 : (op == 4) = false := by simp [h4]
 have e5 : (op == 5) = false := by simp [h5]
 have e6 : (op == 6) = false := by simp [h6]
 have e7 : (op == 7) = false := by simp [h7]
 have e8 : (op == 8) = false := by simp [h8]
 have e9 : (op == 9) = false := by simp [h9]
 have e10 : (op == 10) = false := by simp [h10]
 have e11 : (op == 11) = false := by simp [h11]
 have e12 : (op == 12) = false := by simp [h12]
 have e13 : (op == 13) = false := by simp [h13]
 have e14 : (op == 14) = false := by simp [h14]
 have e15 : (op == 15) = false := by simp [h15]
 have e16 : (op == 16) = false := by simp [h16]
 have e17 : (op == 17) = false := by simp [h17]
 have e18 : (op == 18) = false := by simp [h18]
 have e19 : (op == 19) = false := by simp [h19]
 have e20 : (op == 20) = false := by simp [h20]
 have e21 : (op == 21) = false := by simp [h21]
 have e22 : (op == 22) = false := by simp [h22]
 have e23 : (op == 23) = false := by simp [h23]
 have e24 : (op == 24) = false := by simp [h24]
 have e25 : (op == 25) = false := by simp [h25]
 have e26 : (op == 26) = false := by simp [h26]
 have e27 : (op == 27) = false := by simp [h27]
 have hno : ¬ (1 <= op /\ op <= 27) := by omega
 go_enter Tryz.func40, Tryz.ntmps40
 go_wp2_with (go_at_call 39; refine (zn _ _ _ _ hno).mono ?_; rintro e w' ⟨rfl, rfl⟩)
 go_ret
 exact ⟨false, rfl, by simp [zf, zd, *]; omega, B3⟩
end Go.Proofs.YtblcfbhlmdhnpaaGreat
