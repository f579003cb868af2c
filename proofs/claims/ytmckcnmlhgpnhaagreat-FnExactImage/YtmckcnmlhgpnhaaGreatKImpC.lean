/- The program's measures of an arena. -/
import Derived.Test.YtmckcnmlhgpnhaaGreatProg
import Derived.Test.YtmckcnmlhgpnhaaGreatKNumbersF
import Derived.Test.YtmckcnmlhgpnhaaGreatKFindA
import Derived.Test.YtmckcnmlhgpnhaaGreatKChainA
namespace Go.Proofs.YtmckcnmlhgpnhaaGreat
set_option maxRecDepth 20000
open Go.RowKit
set_option linter.unusedSimpArgs false
set_option linter.unusedVariables false

theorem begin_is (aw : Option Addr) (cw : Nat) (ws : List Int) (semi toh top : Int) (cyc : Bool) (scan old copied serial : Int) (ar : Option Addr) (cr : Nat) (rs : List (Int × Int)) (h F : Int) (w : World) (h0 : 0 ≤ h) (h1 : h ≤ 1) (s0 : 256 ≤ semi) (s1 : semi ≤ 4000) (hF : h * semi + 1 = F) :
    Calls Tryz.prog 62 #[.agg #[.slice aw ws.length cw, .int .i64 semi, .int .i64 toh, .int .i64 top, .bool cyc, .int .i64 scan, .int .i64 old, .int .i64 copied, .int .i64 serial, .slice ar rs.length cr], .int .i64 h] w fun e w' => e = .returned (.int .i64 F) ∧ Below w.heap.size w w' := by
  have hh : h = 0 ∨ h = 1 := by omega
  rcases hh with rfl | rfl
  all_goals
    subst hF
    go_enter Tryz.func62, Tryz.ntmps62
    go_wp2
    go_ret
    refine ⟨ret_int ?_, below_first (Below.refl _ _)⟩
    go_light
    omega
theorem end_is (aw : Option Addr) (cw : Nat) (ws : List Int) (semi toh top : Int) (cyc : Bool) (scan old copied serial : Int) (ar : Option Addr) (cr : Nat) (rs : List (Int × Int)) (h E : Int) (w : World) (h0 : 0 ≤ h) (h1 : h ≤ 1) (s0 : 256 ≤ semi) (s1 : semi ≤ 4000) (hE : (h + 1) * semi = E) :
    Calls Tryz.prog 144 #[.agg #[.slice aw ws.length cw, .int .i64 semi, .int .i64 toh, .int .i64 top, .bool cyc, .int .i64 scan, .int .i64 old, .int .i64 copied, .int .i64 serial, .slice ar rs.length cr], .int .i64 h] w fun e w' => e = .returned (.int .i64 E) ∧ Below w.heap.size w w' := by
  have hh : h = 0 ∨ h = 1 := by omega
  rcases hh with rfl | rfl
  all_goals
    subst hE
    go_enter Tryz.func144, Tryz.ntmps144
    go_wp2
    go_ret
    refine ⟨ret_int ?_, below_first (Below.refl _ _)⟩
    go_light
    omega
theorem other_is (aw : Option Addr) (cw : Nat) (ws : List Int) (semi toh top : Int) (cyc : Bool) (scan old copied serial : Int) (ar : Option Addr) (cr : Nat) (rs : List (Int × Int)) (w : World) (t0 : 0 ≤ toh) (t1 : toh ≤ 1) :
    Calls Tryz.prog 109 #[.agg #[.slice aw ws.length cw, .int .i64 semi, .int .i64 toh, .int .i64 top, .bool cyc, .int .i64 scan, .int .i64 old, .int .i64 copied, .int .i64 serial, .slice ar rs.length cr]] w fun e w' => e = .returned (.int .i64 (1 - toh)) ∧ Below w.heap.size w w' := by
  go_enter Tryz.func109, Tryz.ntmps109
  go_wp2
  go_ret
  exact ⟨rfl, below_first (Below.refl _ _)⟩
theorem limits_is (aw : Option Addr) (cw : Nat) (ws : List Int) (semi toh top : Int) (cyc : Bool) (scan old copied serial : Int) (ar : Option Addr) (cr : Nat) (rs : List (Int × Int)) (h x F E : Int) (w : World) (h0 : 0 ≤ h) (h1 : h ≤ 1) (s0 : 256 ≤ semi) (s1 : semi ≤ 4000) (hF : h * semi + 1 = F) (hE : (h + 1) * semi = E) :
    Calls Tryz.prog 113 #[.agg #[.slice aw ws.length cw, .int .i64 semi, .int .i64 toh, .int .i64 top, .bool cyc, .int .i64 scan, .int .i64 old, .int .i64 copied, .int .i64 serial, .slice ar rs.length cr], .int .i64 h, .int .i64 x] w fun e w' => e = .returned (.bool (inB x F E)) ∧ Below w.heap.size w w' := by
  have HF : Hid (h * semi + 1 = F) := hF
  have HE : Hid ((h + 1) * semi = E) := hE
  clear hF hE
  by_cases hx : F ≤ x
  · by_cases hy : x ≤ E
    · have e : inB x F E = true := decide_eq_true ⟨hx, hy⟩
      rw [e]
      go_enter Tryz.func113, Tryz.ntmps113
      go_wp2_with (first | (go_at_call 62; refine (begin_is _ _ _ _ _ _ _ _ _ _ _ _ _ _ h F _ h0 h1 s0 s1 HF.out).mono ?_; rintro e w1 ⟨rfl, b1⟩; have KA1 := one_cells b1 (by simp); have B1 := below_first b1) | (go_at_call 144; refine (end_is _ _ _ _ _ _ _ _ _ _ _ _ _ _ h E _ h0 h1 s0 s1 HE.out).mono ?_; rintro e w2 ⟨rfl, b2⟩))
      go_ret
      exact ⟨rfl, below_next B1 b2⟩
    · have e : inB x F E = false := decide_eq_false (fun g => hy g.2)
      have hy' : decide (x ≤ E) = false := decide_eq_false hy
      rw [e]
      clear hy
      go_enter Tryz.func113, Tryz.ntmps113
      go_wp2_with (first | (go_at_call 62; refine (begin_is _ _ _ _ _ _ _ _ _ _ _ _ _ _ h F _ h0 h1 s0 s1 HF.out).mono ?_; rintro e w1 ⟨rfl, b1⟩; have KA1 := one_cells b1 (by simp); have B1 := below_first b1) | (go_at_call 144; refine (end_is _ _ _ _ _ _ _ _ _ _ _ _ _ _ h E _ h0 h1 s0 s1 HE.out).mono ?_; rintro e w2 ⟨rfl, b2⟩))
      go_ret
      exact ⟨rfl, below_next B1 b2⟩
  · have e : inB x F E = false := decide_eq_false (fun g => hx g.1)
    have hx' : decide (F ≤ x) = false := decide_eq_false hx
    rw [e]
    clear hx
    go_enter Tryz.func113, Tryz.ntmps113
    go_wp2_with (go_at_call 62; refine (begin_is _ _ _ _ _ _ _ _ _ _ _ _ _ _ h F _ h0 h1 s0 s1 HF.out).mono ?_; rintro e w1 ⟨rfl, b1⟩; have KA1 := one_cells b1 (by simp); have B1 := below_first b1)
    go_ret
    exact ⟨rfl, B1⟩
theorem inUse_is (aw : Option Addr) (cw : Nat) (ws : List Int) (semi toh top : Int) (cyc : Bool) (scan old copied serial : Int) (ar : Option Addr) (cr : Nat) (rs : List (Int × Int)) (x F : Int) (w : World) (t0 : 0 ≤ toh) (t1 : toh ≤ 1) (s0 : 256 ≤ semi) (s1 : semi ≤ 4000) (hF : toh * semi + 1 = F) :
    Calls Tryz.prog 175 #[.agg #[.slice aw ws.length cw, .int .i64 semi, .int .i64 toh, .int .i64 top, .bool cyc, .int .i64 scan, .int .i64 old, .int .i64 copied, .int .i64 serial, .slice ar rs.length cr], .int .i64 x] w fun e w' => e = .returned (.bool (decide (F ≤ x ∧ x < top))) ∧ Below w.heap.size w w' := by
  have HF : Hid (toh * semi + 1 = F) := hF
  clear hF
  by_cases hx : F ≤ x
  · by_cases hy : x < top
    · rw [decide_eq_true (show F ≤ x ∧ x < top from ⟨hx, hy⟩)]
      go_enter Tryz.func175, Tryz.ntmps175
      go_wp2_with (go_at_call 62; refine (begin_is _ _ _ _ _ _ _ _ _ _ _ _ _ _ toh F _ t0 t1 s0 s1 HF.out).mono ?_; rintro e w1 ⟨rfl, b1⟩; have KA1 := one_cells b1 (by simp); have B1 := below_first b1)
      go_ret
      exact ⟨rfl, B1⟩
    · rw [decide_eq_false (show ¬ (F ≤ x ∧ x < top) from fun g => hy g.2)]
      have hy' : decide (x < top) = false := decide_eq_false hy
      clear hy
      go_enter Tryz.func175, Tryz.ntmps175
      go_wp2_with (go_at_call 62; refine (begin_is _ _ _ _ _ _ _ _ _ _ _ _ _ _ toh F _ t0 t1 s0 s1 HF.out).mono ?_; rintro e w1 ⟨rfl, b1⟩; have KA1 := one_cells b1 (by simp); have B1 := below_first b1)
      go_ret
      exact ⟨rfl, B1⟩
  · rw [decide_eq_false (show ¬ (F ≤ x ∧ x < top) from fun g => hx g.1)]
    have hx' : decide (F ≤ x) = false := decide_eq_false hx
    clear hx
    go_enter Tryz.func175, Tryz.ntmps175
    go_wp2_with (go_at_call 62; refine (begin_is _ _ _ _ _ _ _ _ _ _ _ _ _ _ toh F _ t0 t1 s0 s1 HF.out).mono ?_; rintro e w1 ⟨rfl, b1⟩; have KA1 := one_cells b1 (by simp); have B1 := below_first b1)
    go_ret
    exact ⟨rfl, B1⟩
theorem uncopied_no (aw : Option Addr) (cw : Nat) (ws : List Int) (semi toh top : Int) (scan old copied serial : Int) (ar : Option Addr) (cr : Nat) (rs : List (Int × Int)) (w : World) :
    Calls Tryz.prog 196 #[.agg #[.slice aw ws.length cw, .int .i64 semi, .int .i64 toh, .int .i64 top, .bool false, .int .i64 scan, .int .i64 old, .int .i64 copied, .int .i64 serial, .slice ar rs.length cr]] w fun e w' => e = .returned (.int .i64 0) ∧ Below w.heap.size w w' := by
  go_enter Tryz.func196, Tryz.ntmps196
  go_wp2
  go_ret
  exact ⟨rfl, below_first (Below.refl _ _)⟩
theorem sub_wrap {a b : Int} (h0 : -100000 ≤ a - b) (h1 : a - b ≤ 100000) : IntKind.i64.wrap (a - b) = a - b := by rw [IntKind.wrap_i64]; omega
set_option maxHeartbeats 2000000 in
theorem uncopied_is (aw : Option Addr) (cw : Nat) (ws : List Int) (semi toh top : Int) (scan old copied serial : Int) (ar : Option Addr) (cr : Nat) (rs : List (Int × Int)) (F : Int) (w : World) (t0 : 0 ≤ toh) (t1 : toh ≤ 1) (s0 : 256 ≤ semi) (s1 : semi ≤ 4000) (hF : (1 - toh) * semi + 1 = F) (o0 : 0 ≤ old) (o1 : old ≤ 8000) (c0 : 0 ≤ copied) (c1 : copied ≤ 8000) :
    Calls Tryz.prog 196 #[.agg #[.slice aw ws.length cw, .int .i64 semi, .int .i64 toh, .int .i64 top, .bool true, .int .i64 scan, .int .i64 old, .int .i64 copied, .int .i64 serial, .slice ar rs.length cr]] w fun e w' => e = .returned (.int .i64 (old - F - copied)) ∧ Below w.heap.size w w' := by
  have HF : Hid ((1 - toh) * semi + 1 = F) := hF
  have hF1 : 1 ≤ F ∧ F ≤ 4001 := by
    have hh : toh = 0 ∨ toh = 1 := by omega
    rcases hh with rfl | rfl <;> omega
  obtain ⟨f0, f1⟩ := hF1
  have u0 : 0 ≤ 1 - toh := by omega
  have u1 : 1 - toh ≤ 1 := by omega
  have v1 := sub_wrap (a := old) (b := F) (by omega) (by omega)
  have v2 := sub_wrap (a := old - F) (b := copied) (by omega) (by omega)
  clear hF
  have KP : ∀ W, Below (w.alloc (.cells #[.slice aw ws.length cw, .int .i64 semi, .int .i64 toh, .int .i64 top, .bool true, .int .i64 scan, .int .i64 old, .int .i64 copied, .int .i64 serial, .slice ar rs.length cr] 30)).heap.size (w.alloc (.cells #[.slice aw ws.length cw, .int .i64 semi, .int .i64 toh, .int .i64 top, .bool true, .int .i64 scan, .int .i64 old, .int .i64 copied, .int .i64 serial, .slice ar rs.length cr] 30)) W → (Below (w.alloc (.cells #[.slice aw ws.length cw, .int .i64 semi, .int .i64 toh, .int .i64 top, .bool true, .int .i64 scan, .int .i64 old, .int .i64 copied, .int .i64 serial, .slice ar rs.length cr] 30)).heap.size (w.alloc (.cells #[.slice aw ws.length cw, .int .i64 semi, .int .i64 toh, .int .i64 top, .bool true, .int .i64 scan, .int .i64 old, .int .i64 copied, .int .i64 serial, .slice ar rs.length cr] 30)) W ∧ (∀ i, W.cell? ⟨w.heap.size, i, none⟩ = (#[.slice aw ws.length cw, .int .i64 semi, .int .i64 toh, .int .i64 top, .bool true, .int .i64 scan, .int .i64 old, .int .i64 copied, .int .i64 serial, .slice ar rs.length cr] : Array Value)[i]?)) := fun W hW => ⟨hW, one_cells hW (by simp)⟩
  go_enter Tryz.func196, Tryz.ntmps196
  go_wp2
  have b1' := (Below.refl (w.alloc (.cells #[.slice aw ws.length cw, .int .i64 semi, .int .i64 toh, .int .i64 top, .bool true, .int .i64 scan, .int .i64 old, .int .i64 copied, .int .i64 serial, .slice ar rs.length cr] 30)).heap.size (w.alloc (.cells #[.slice aw ws.length cw, .int .i64 semi, .int .i64 toh, .int .i64 top, .bool true, .int .i64 scan, .int .i64 old, .int .i64 copied, .int .i64 serial, .slice ar rs.length cr] 30))).drew
  go_region_held3 (fun W => Below (w.alloc (.cells #[.slice aw ws.length cw, .int .i64 semi, .int .i64 toh, .int .i64 top, .bool true, .int .i64 scan, .int .i64 old, .int .i64 copied, .int .i64 serial, .slice ar rs.length cr] 30)).heap.size (w.alloc (.cells #[.slice aw ws.length cw, .int .i64 semi, .int .i64 toh, .int .i64 top, .bool true, .int .i64 scan, .int .i64 old, .int .i64 copied, .int .i64 serial, .slice ar rs.length cr] 30)) W ∧ (∀ i, W.cell? ⟨w.heap.size, i, none⟩ = (#[.slice aw ws.length cw, .int .i64 semi, .int .i64 toh, .int .i64 top, .bool true, .int .i64 scan, .int .i64 old, .int .i64 copied, .int .i64 serial, .slice ar rs.length cr] : Array Value)[i]?)) (first | exact KP _ (by assumption) | exact KP _ b1') (first | (go_at_call 109; refine (other_is _ _ _ _ _ _ _ _ _ _ _ _ _ _ _ t0 t1).mono ?_; rintro e w' ⟨rfl, hb⟩; have hB3 := below_next (w := (w.alloc (.cells #[.slice aw ws.length cw, .int .i64 semi, .int .i64 toh, .int .i64 top, .bool true, .int .i64 scan, .int .i64 old, .int .i64 copied, .int .i64 serial, .slice ar rs.length cr] 30))) (And.left (by assumption)) hb; clear hb) | (go_at_call 62; refine (begin_is _ _ _ _ _ _ _ _ _ _ _ _ _ _ (1 - toh) F _ u0 u1 s0 s1 HF.out).mono ?_; rintro e w' ⟨rfl, hb⟩; have hB3 := below_next (w := (w.alloc (.cells #[.slice aw ws.length cw, .int .i64 semi, .int .i64 toh, .int .i64 top, .bool true, .int .i64 scan, .int .i64 old, .int .i64 copied, .int .i64 serial, .slice ar rs.length cr] 30))) (And.left (by assumption)) hb; clear hb))
  all_goals
    go_wp2
    go_ret
    exact ⟨rfl, below_first (by assumption)⟩
set_option maxHeartbeats 2000000 in
theorem free_is (aw : Option Addr) (cw : Nat) (ws : List Int) (semi toh top : Int) (scan old copied serial : Int) (ar : Option Addr) (cr : Nat) (rs : List (Int × Int)) (F E : Int) (w : World) (t0 : 0 ≤ toh) (t1 : toh ≤ 1) (s0 : 256 ≤ semi) (s1 : semi ≤ 4000) (hF : (1 - toh) * semi + 1 = F) (hE : (toh + 1) * semi = E) (p0 : 0 ≤ top) (p1 : top ≤ 8000) (o0 : 0 ≤ old) (o1 : old ≤ 8000) (c0 : 0 ≤ copied) (c1 : copied ≤ 8000) :
    Calls Tryz.prog 167 #[.agg #[.slice aw ws.length cw, .int .i64 semi, .int .i64 toh, .int .i64 top, .bool true, .int .i64 scan, .int .i64 old, .int .i64 copied, .int .i64 serial, .slice ar rs.length cr]] w fun e w' => e = .returned (.int .i64 (E - top - (old - F - copied))) ∧ Below w.heap.size w w' := by
  have HF : Hid ((1 - toh) * semi + 1 = F) := hF
  have HE : Hid ((toh + 1) * semi = E) := hE
  have hF1 : 1 ≤ F ∧ F ≤ 4001 ∧ 256 ≤ E ∧ E ≤ 8000 := by
    have hh : toh = 0 ∨ toh = 1 := by omega
    rcases hh with rfl | rfl <;> omega
  obtain ⟨f0, f1, f2, f3⟩ := hF1
  have v1 := sub_wrap (a := E) (b := top) (by omega) (by omega)
  have v2 := sub_wrap (a := E - top) (b := old - F - copied) (by omega) (by omega)
  clear hF hE
  have KP : ∀ W, Below (w.alloc (.cells #[.slice aw ws.length cw, .int .i64 semi, .int .i64 toh, .int .i64 top, .bool true, .int .i64 scan, .int .i64 old, .int .i64 copied, .int .i64 serial, .slice ar rs.length cr] 30)).heap.size (w.alloc (.cells #[.slice aw ws.length cw, .int .i64 semi, .int .i64 toh, .int .i64 top, .bool true, .int .i64 scan, .int .i64 old, .int .i64 copied, .int .i64 serial, .slice ar rs.length cr] 30)) W → (Below (w.alloc (.cells #[.slice aw ws.length cw, .int .i64 semi, .int .i64 toh, .int .i64 top, .bool true, .int .i64 scan, .int .i64 old, .int .i64 copied, .int .i64 serial, .slice ar rs.length cr] 30)).heap.size (w.alloc (.cells #[.slice aw ws.length cw, .int .i64 semi, .int .i64 toh, .int .i64 top, .bool true, .int .i64 scan, .int .i64 old, .int .i64 copied, .int .i64 serial, .slice ar rs.length cr] 30)) W ∧ (∀ i, W.cell? ⟨w.heap.size, i, none⟩ = (#[.slice aw ws.length cw, .int .i64 semi, .int .i64 toh, .int .i64 top, .bool true, .int .i64 scan, .int .i64 old, .int .i64 copied, .int .i64 serial, .slice ar rs.length cr] : Array Value)[i]?)) := fun W hW => ⟨hW, one_cells hW (by simp)⟩
  go_enter Tryz.func167, Tryz.ntmps167
  go_wp2
  have b1' := (Below.refl (w.alloc (.cells #[.slice aw ws.length cw, .int .i64 semi, .int .i64 toh, .int .i64 top, .bool true, .int .i64 scan, .int .i64 old, .int .i64 copied, .int .i64 serial, .slice ar rs.length cr] 30)).heap.size (w.alloc (.cells #[.slice aw ws.length cw, .int .i64 semi, .int .i64 toh, .int .i64 top, .bool true, .int .i64 scan, .int .i64 old, .int .i64 copied, .int .i64 serial, .slice ar rs.length cr] 30))).drew
  go_region_held3 (fun W => Below (w.alloc (.cells #[.slice aw ws.length cw, .int .i64 semi, .int .i64 toh, .int .i64 top, .bool true, .int .i64 scan, .int .i64 old, .int .i64 copied, .int .i64 serial, .slice ar rs.length cr] 30)).heap.size (w.alloc (.cells #[.slice aw ws.length cw, .int .i64 semi, .int .i64 toh, .int .i64 top, .bool true, .int .i64 scan, .int .i64 old, .int .i64 copied, .int .i64 serial, .slice ar rs.length cr] 30)) W ∧ (∀ i, W.cell? ⟨w.heap.size, i, none⟩ = (#[.slice aw ws.length cw, .int .i64 semi, .int .i64 toh, .int .i64 top, .bool true, .int .i64 scan, .int .i64 old, .int .i64 copied, .int .i64 serial, .slice ar rs.length cr] : Array Value)[i]?)) (first | exact KP _ (by assumption) | exact KP _ b1') (first | (go_at_call 144; refine (end_is _ _ _ _ _ _ _ _ _ _ _ _ _ _ toh E _ t0 t1 s0 s1 HE.out).mono ?_; rintro e w' ⟨rfl, hb⟩; have hB3 := below_next (w := (w.alloc (.cells #[.slice aw ws.length cw, .int .i64 semi, .int .i64 toh, .int .i64 top, .bool true, .int .i64 scan, .int .i64 old, .int .i64 copied, .int .i64 serial, .slice ar rs.length cr] 30))) (And.left (by assumption)) hb; clear hb) | (go_at_call 196; refine (uncopied_is _ _ _ _ _ _ _ _ _ _ _ _ _ F _ t0 t1 s0 s1 HF.out o0 o1 c0 c1).mono ?_; rintro e w' ⟨rfl, hb⟩; have hB3 := below_next (w := (w.alloc (.cells #[.slice aw ws.length cw, .int .i64 semi, .int .i64 toh, .int .i64 top, .bool true, .int .i64 scan, .int .i64 old, .int .i64 copied, .int .i64 serial, .slice ar rs.length cr] 30))) (And.left (by assumption)) hb; clear hb))
  all_goals
    go_wp2
    go_ret
    exact ⟨rfl, below_first (by assumption)⟩
set_option maxHeartbeats 2000000 in
theorem free_no (aw : Option Addr) (cw : Nat) (ws : List Int) (semi toh top : Int) (scan old copied serial : Int) (ar : Option Addr) (cr : Nat) (rs : List (Int × Int)) (E : Int) (w : World) (t0 : 0 ≤ toh) (t1 : toh ≤ 1) (s0 : 256 ≤ semi) (s1 : semi ≤ 4000) (hE : (toh + 1) * semi = E) (p0 : 0 ≤ top) (p1 : top ≤ 8000) :
    Calls Tryz.prog 167 #[.agg #[.slice aw ws.length cw, .int .i64 semi, .int .i64 toh, .int .i64 top, .bool false, .int .i64 scan, .int .i64 old, .int .i64 copied, .int .i64 serial, .slice ar rs.length cr]] w fun e w' => e = .returned (.int .i64 (E - top)) ∧ Below w.heap.size w w' := by
  have HE : Hid ((toh + 1) * semi = E) := hE
  have hF1 : 256 ≤ E ∧ E ≤ 8000 := by
    have hh : toh = 0 ∨ toh = 1 := by omega
    rcases hh with rfl | rfl <;> omega
  obtain ⟨f2, f3⟩ := hF1
  have v1 := sub_wrap (a := E) (b := top) (by omega) (by omega)
  have v2 := sub_wrap (a := E - top) (b := 0) (by omega) (by omega)
  clear hE
  have KP : ∀ W, Below (w.alloc (.cells #[.slice aw ws.length cw, .int .i64 semi, .int .i64 toh, .int .i64 top, .bool false, .int .i64 scan, .int .i64 old, .int .i64 copied, .int .i64 serial, .slice ar rs.length cr] 30)).heap.size (w.alloc (.cells #[.slice aw ws.length cw, .int .i64 semi, .int .i64 toh, .int .i64 top, .bool false, .int .i64 scan, .int .i64 old, .int .i64 copied, .int .i64 serial, .slice ar rs.length cr] 30)) W → (Below (w.alloc (.cells #[.slice aw ws.length cw, .int .i64 semi, .int .i64 toh, .int .i64 top, .bool false, .int .i64 scan, .int .i64 old, .int .i64 copied, .int .i64 serial, .slice ar rs.length cr] 30)).heap.size (w.alloc (.cells #[.slice aw ws.length cw, .int .i64 semi, .int .i64 toh, .int .i64 top, .bool false, .int .i64 scan, .int .i64 old, .int .i64 copied, .int .i64 serial, .slice ar rs.length cr] 30)) W ∧ (∀ i, W.cell? ⟨w.heap.size, i, none⟩ = (#[.slice aw ws.length cw, .int .i64 semi, .int .i64 toh, .int .i64 top, .bool false, .int .i64 scan, .int .i64 old, .int .i64 copied, .int .i64 serial, .slice ar rs.length cr] : Array Value)[i]?)) := fun W hW => ⟨hW, one_cells hW (by simp)⟩
  go_enter Tryz.func167, Tryz.ntmps167
  go_wp2
  have b1' := (Below.refl (w.alloc (.cells #[.slice aw ws.length cw, .int .i64 semi, .int .i64 toh, .int .i64 top, .bool false, .int .i64 scan, .int .i64 old, .int .i64 copied, .int .i64 serial, .slice ar rs.length cr] 30)).heap.size (w.alloc (.cells #[.slice aw ws.length cw, .int .i64 semi, .int .i64 toh, .int .i64 top, .bool false, .int .i64 scan, .int .i64 old, .int .i64 copied, .int .i64 serial, .slice ar rs.length cr] 30))).drew
  go_region_held3 (fun W => Below (w.alloc (.cells #[.slice aw ws.length cw, .int .i64 semi, .int .i64 toh, .int .i64 top, .bool false, .int .i64 scan, .int .i64 old, .int .i64 copied, .int .i64 serial, .slice ar rs.length cr] 30)).heap.size (w.alloc (.cells #[.slice aw ws.length cw, .int .i64 semi, .int .i64 toh, .int .i64 top, .bool false, .int .i64 scan, .int .i64 old, .int .i64 copied, .int .i64 serial, .slice ar rs.length cr] 30)) W ∧ (∀ i, W.cell? ⟨w.heap.size, i, none⟩ = (#[.slice aw ws.length cw, .int .i64 semi, .int .i64 toh, .int .i64 top, .bool false, .int .i64 scan, .int .i64 old, .int .i64 copied, .int .i64 serial, .slice ar rs.length cr] : Array Value)[i]?)) (first | exact KP _ (by assumption) | exact KP _ b1') (first | (go_at_call 144; refine (end_is _ _ _ _ _ _ _ _ _ _ _ _ _ _ toh E _ t0 t1 s0 s1 HE.out).mono ?_; rintro e w' ⟨rfl, hb⟩; have hB3 := below_next (w := (w.alloc (.cells #[.slice aw ws.length cw, .int .i64 semi, .int .i64 toh, .int .i64 top, .bool false, .int .i64 scan, .int .i64 old, .int .i64 copied, .int .i64 serial, .slice ar rs.length cr] 30))) (And.left (by assumption)) hb; clear hb) | (go_at_call 196; refine (uncopied_no _ _ _ _ _ _ _ _ _ _ _ _ _ _).mono ?_; rintro e w' ⟨rfl, hb⟩; have hB3 := below_next (w := (w.alloc (.cells #[.slice aw ws.length cw, .int .i64 semi, .int .i64 toh, .int .i64 top, .bool false, .int .i64 scan, .int .i64 old, .int .i64 copied, .int .i64 serial, .slice ar rs.length cr] 30))) (And.left (by assumption)) hb; clear hb))
  all_goals
    go_wp2
    go_ret
    exact ⟨ret_int (by go_light; omega), below_first (by assumption)⟩
end Go.Proofs.YtmckcnmlhgpnhaaGreat

/- The program's readers of an arena. -/
namespace Go.Proofs.YtmckcnmlhgpnhaaGreat
set_option maxRecDepth 20000
open Go.RowKit
set_option linter.unusedSimpArgs false
set_option linter.unusedVariables false

theorem implReadHead_any (x : Int) (w : World) (h0 : 0 ≤ x) (h1 : x < 18446744073709551616) :
    Calls Tryz.prog 115 #[.int .u64 x] w fun e w' => e = .returned (.tuple #[.agg #[.int .i64 (rdK x), .int .i64 (rdS x), .int .i64 (rdN x)], .bool (rdOk x)]) ∧ Below w.heap.size w w' := by
  by_cases h : rdOk x = true
  · have := implReadHead_yes x w h0 h1 h
    simpa only [rdK, rdS, rdN, h, if_true] using this
  · have h' : rdOk x = false := by rwa [Bool.not_eq_true] at h
    have := implReadHead_no x w h0 h1 h'
    simpa [rdK, rdS, rdN, h'] using this
theorem implForwarded_any (x : Int) (w : World) (h0 : 0 ≤ x) (h1 : x < 18446744073709551616) :
    Calls Tryz.prog 158 #[.int .u64 x] w fun e w' => e = .returned (.tuple #[.int .i64 (fwP x), .bool (fwOk x)]) ∧ w' = w := by
  by_cases h : fwOk x = true
  · have g := of_decide_eq_true h
    have := implForwarded_yes x w g.1 g.2
    simpa only [fwP, h, if_true] using this
  · rw [Bool.not_eq_true] at h
    have e : fwP x = 0 := by simp [fwP, h]
    rw [e, h]
    have g := of_decide_eq_false h
    by_cases h2 : x < 9223372036854775808
    · exact implForwarded_low x w h0 h2
    · exact implForwarded_far x w (by omega) h1
theorem getVal_at (v : Value) (ws : List Int) (x : Int) (p : Nat) (w : World) (hx : x = p) (hs : Sl w v ws) (hn : ws.length ≤ 1048576) (hw : Words64 ws) (h : p + 1 < ws.length) :
    Calls Tryz.prog 145 #[v, .int .i64 x] w fun e w' => e = .returned (.tuple #[.agg #[.int .i64 (rvT ws p), .int .i64 (rvN ws p)], .bool (rvOk ws p)]) ∧ Below w.heap.size w w' := by
  subst hx
  have hx := word_in hw p
  have hg : getV ws (p : Int) = rvOk ws p := by
    unfold getV rvOk wordAt
    rw [decide_eq_true (show 0 ≤ (p : Int) ∧ (p : Int) + 1 < ws.length by omega)]
    simp
  by_cases hr : rvOk ws p = true
  · obtain ⟨g1, g2⟩ := vOk_small hx.1 hx.2 hr
    have := implGetVal_t v ws p w hs hn hw (by rw [hg]; exact hr)
    have e1 : rvT ws p = wrap64 (ws.getD ((p : Int)).toNat 0) := by rw [Int.toNat_natCast]; simp only [rvT, hr, if_true]; exact g2.symm
    have e2 : rvN ws p = wrap64 (ws.getD (((p : Int)).toNat + 1) 0) := by rw [Int.toNat_natCast]; simp only [rvN, hr, if_true]; rfl
    rw [e1, e2, hr]
    exact this
  · rw [Bool.not_eq_true] at hr
    have e1 : rvT ws p = 0 := by simp [rvT, hr]
    have e2 : rvN ws p = 0 := by simp [rvN, hr]
    rw [e1, e2, hr]
    exact implGetVal_f v ws p w hs hn hw (by rw [hg]; exact hr)
theorem headAt_at (aw : Option Addr) (cw : Nat) (ws : List Int) (semi toh top : Int) (cyc : Bool) (scan old copied serial : Int) (ar : Option Addr) (cr : Nat) (rs : List (Int × Int)) (x : Int) (p : Nat) (w : World) (hx : x = p) (hs : Sl w (.slice aw ws.length cw) ws) (hn : ws.length ≤ 1048576) (hw : Words64 ws) (h : p < ws.length) :
    Calls Tryz.prog 81 #[.agg #[.slice aw ws.length cw, .int .i64 semi, .int .i64 toh, .int .i64 top, .bool cyc, .int .i64 scan, .int .i64 old, .int .i64 copied, .int .i64 serial, .slice ar rs.length cr], .int .i64 x] w fun e w' => e = .returned (.agg #[.int .i64 (rdK (wordAt ws p)), .int .i64 (rdS (wordAt ws p)), .int .i64 (rdN (wordAt ws p))]) ∧ Below w.heap.size w w' := by
  subst hx
  obtain ⟨b, off, rfl, hl, hc⟩ := arena_opened hs h
  have q := hc p h
  have q' := fun o o2 => cell_alloc_lt' (o := o2) (Nat.lt_of_lt_of_le hl (show w.heap.size ≤ (w.alloc o).heap.size by simp)) (q o)
  have h1 : (p : Int) < (ws.length : Int) := by omega
  have hx := word_in hw p
  clear hc q
  go_enter Tryz.func81, Tryz.ntmps81
  go_wp2_with fail
  refine (implReadHead_any _ _ hx.1 hx.2).mono ?_
  rintro e w1 ⟨rfl, b1⟩
  obtain ⟨c1, f1⟩ := bcell b1
  have z1 := size_second b1
  have B1 := below_second b1
  go_wp2
  have p0 : (w1.cell? ⟨w.heap.size + 1, 0, none⟩).isSome = true := by rw [c1 _ _ (by simp)]; simp [go_sem]
  have p1 : (w1.cell? ⟨w.heap.size + 1, 1, none⟩).isSome = true := by rw [c1 _ _ (by simp)]; simp [go_sem]
  have p2 : (w1.cell? ⟨w.heap.size + 1, 2, none⟩).isSome = true := by rw [c1 _ _ (by simp)]; simp [go_sem]
  have hne : w.heap.size + 1 ≠ w1.heap.size := by omega
  refine bodyPost_ret (v := .agg #[.int .i64 (rdK (wordAt ws p)), .int .i64 (rdS (wordAt ws p)), .int .i64 (rdN (wordAt ws p))]) (by simp [results, Tryz.results81, go_sem, p0, p1, p2, hne, World.cell?_alloc_lt, z1]) rfl ⟨rfl, ?_⟩
  have hle : w.heap.size ≤ w.heap.size + 1 := Nat.le_succ _
  refine Below.alloc ?_ (by simpa using B1.size) _
  exact ((B1.setCell (p := ⟨w.heap.size + 1, 0, none⟩) hle _).setCell (p := ⟨w.heap.size + 1, 1, none⟩) hle _).setCell (p := ⟨w.heap.size + 1, 2, none⟩) hle _
theorem wordsAt_at (aw : Option Addr) (cw : Nat) (ws : List Int) (semi toh top : Int) (cyc : Bool) (scan old copied serial : Int) (ar : Option Addr) (cr : Nat) (rs : List (Int × Int)) (x : Int) (p : Nat) (w : World) (hx : x = p) (hs : Sl w (.slice aw ws.length cw) ws) (hn : ws.length ≤ 1048576) (hw : Words64 ws) (h : p < ws.length) :
    Calls Tryz.prog 51 #[.agg #[.slice aw ws.length cw, .int .i64 semi, .int .i64 toh, .int .i64 top, .bool cyc, .int .i64 scan, .int .i64 old, .int .i64 copied, .int .i64 serial, .slice ar rs.length cr], .int .i64 x] w fun e w' => e = .returned (.int .i64 (rdS (wordAt ws p) + 1)) ∧ Below w.heap.size w w' := by
  have HX : Hid (x = (p : Int)) := hx
  have hfs := field_size
  obtain ⟨r0, r1⟩ := rdS_bound (wordAt ws p)
  clear hx
  go_enter Tryz.func51, Tryz.ntmps51
  go_wp2_with (go_at_call 81; refine (headAt_at _ _ _ _ _ _ _ _ _ _ _ _ _ _ x p _ HX.out (sl_alloc hs _) hn hw h).mono ?_; rintro e w1 ⟨rfl, b1⟩)
  go_ret
  exact ⟨rfl, below_first b1⟩
theorem slotAt_at (aw : Option Addr) (cw : Nat) (ws : List Int) (semi toh top : Int) (cyc : Bool) (scan old copied serial : Int) (ar : Option Addr) (cr : Nat) (rs : List (Int × Int)) (x : Int) (p : Nat) (w : World) (hx : x = p) (hs : Sl w (.slice aw ws.length cw) ws) (hn : ws.length ≤ 1048576) (hw : Words64 ws) (h : p + 1 < ws.length) :
    Calls Tryz.prog 122 #[.agg #[.slice aw ws.length cw, .int .i64 semi, .int .i64 toh, .int .i64 top, .bool cyc, .int .i64 scan, .int .i64 old, .int .i64 copied, .int .i64 serial, .slice ar rs.length cr], .int .i64 x] w fun e w' => e = .returned (.agg #[.int .i64 (rvT ws p), .int .i64 (rvN ws p)]) ∧ Below w.heap.size w w' := by
  have HX : Hid (x = (p : Int)) := hx
  clear hx
  go_enter Tryz.func122, Tryz.ntmps122
  go_wp2_with fail
  refine (getVal_at _ ws x p _ HX.out (sl_alloc (sl_alloc hs _) _) hn hw h).mono ?_
  rintro e w1 ⟨rfl, b1⟩
  obtain ⟨c1, f1⟩ := bcell b1
  have z1 := size_second b1
  have B1 := below_second b1
  go_wp2
  have p0 : (w1.cell? ⟨w.heap.size + 1, 0, none⟩).isSome = true := by rw [c1 _ _ (by simp)]; simp [go_sem]
  have p1 : (w1.cell? ⟨w.heap.size + 1, 1, none⟩).isSome = true := by rw [c1 _ _ (by simp)]; simp [go_sem]
  have hne : w.heap.size + 1 ≠ w1.heap.size := by omega
  refine bodyPost_ret (v := .agg #[.int .i64 (rvT ws p), .int .i64 (rvN ws p)]) (by simp [results, Tryz.results122, go_sem, p0, p1, hne, World.cell?_alloc_lt, z1]) rfl ⟨rfl, ?_⟩
  have hle : w.heap.size ≤ w.heap.size + 1 := Nat.le_succ _
  refine Below.alloc ?_ (by simpa using B1.size) _
  exact (B1.setCell (p := ⟨w.heap.size + 1, 0, none⟩) hle _).setCell (p := ⟨w.heap.size + 1, 1, none⟩) hle _
theorem object_at (b off cw : Nat) (ws : List Int) (semi toh top : Int) (cyc : Bool) (scan old copied serial : Int) (ar : Option Addr) (cr : Nat) (rs : List (Int × Int)) (t m : Int) (P : Nat) (w : World) (hP : m = P) (hb : b < w.heap.size) (hc : ∀ i, i < ws.length → w.cell? ⟨b, off + i, none⟩ = some (.int .u64 (wordAt ws i))) (hn : ws.length ≤ 1048576) (hw : Words64 ws) (h : P < ws.length) :
    Calls Tryz.prog 120 #[(.agg #[.slice (some ⟨b, off, none⟩) ws.length cw, .int .i64 semi, .int .i64 toh, .int .i64 top, .bool cyc, .int .i64 scan, .int .i64 old, .int .i64 copied, .int .i64 serial, .slice ar rs.length cr]), .agg #[.int .i64 t, .int .i64 m]] w fun e w' => e = .returned (.int .i64 (leadsAt ws P)) ∧ Below w.heap.size w w' := by
  have m0 : 0 ≤ m := by omega
  have m1 : m < (ws.length : Int) := by omega
  have m2 : m.toNat = P := by omega
  have HP : Hid (m = (P : Int)) := hP
  have hx := word_in hw P
  have q : ∀ o o2, ((w.alloc o).alloc o2).cell? ⟨b, off + P, none⟩ = some (.int .u64 (wordAt ws P)) := fun o o2 => cell_alloc_lt (lt_alloc hb) (cell_alloc_lt hb (hc P h))
  clear hP hc
  by_cases hf : fwOk (wordAt ws P) = true
  · have e : leadsAt ws P = fwP (wordAt ws P) := by simp [leadsAt, hf]
    rw [e]
    go_enter Tryz.func120, Tryz.ntmps120
    go_wp2_with (go_at_call 158; refine (implForwarded_any _ _ hx.1 hx.2).mono ?_; rintro e w1 ⟨rfl, rfl⟩)
    go_ret
    exact ⟨rfl, below_second (Below.refl _ _)⟩
  · rw [Bool.not_eq_true] at hf
    have e : leadsAt ws P = m := by simp [leadsAt, hf]; exact HP.out.symm
    rw [e]
    go_enter Tryz.func120, Tryz.ntmps120
    go_wp2_with (go_at_call 158; refine (implForwarded_any _ _ hx.1 hx.2).mono ?_; rintro e w1 ⟨rfl, rfl⟩)
    go_ret
    exact ⟨rfl, below_second (Below.refl _ _)⟩
theorem refKind_any (t : Int) (w : World) :
    Calls Tryz.prog 203 #[.int .i64 t] w fun e w' => e = .returned (.int .i64 (kindOf t)) ∧ w' = w := by
  go_enter Tryz.func203, Tryz.ntmps203
  go_wp2
  all_goals
    go_ret
    refine ⟨ret_int ?_, rfl⟩
    go_light
    simp [kindOf]
    simp at *
    simp [*]
end Go.Proofs.YtmckcnmlhgpnhaaGreat

/- The program's measuresOk. -/
namespace Go.Proofs.YtmckcnmlhgpnhaaGreat
set_option maxRecDepth 20000
open Go.RowKit
set_option linter.unusedSimpArgs false
set_option linter.unusedVariables false

def mOk (wl : Nat) (semi toh top serial : Int) (rl : Nat) : Bool := num1 wl semi toh serial rl && num2 semi toh top
theorem mOk_semi {wl : Nat} {semi toh top serial : Int} {rl : Nat} (h : ¬ (256 ≤ semi ∧ semi ≤ 4000 ∧ (wl : Int) = 2 * semi)) : mOk wl semi toh top serial rl = false := by
  have : num1 wl semi toh serial rl = false := decide_eq_false (fun g => h ⟨g.1, g.2.1, g.2.2.1⟩)
  simp [mOk, this]
theorem mOk_to {wl : Nat} {semi toh top serial : Int} {rl : Nat} (h : ¬ (0 ≤ toh ∧ toh ≤ 1)) : mOk wl semi toh top serial rl = false := by
  have : num1 wl semi toh serial rl = false := decide_eq_false (fun g => h ⟨g.2.2.2.1, g.2.2.2.2.1⟩)
  simp [mOk, this]
theorem mOk_rest {wl : Nat} {semi toh top serial : Int} {rl : Nat} (h : 256 ≤ semi ∧ semi ≤ 4000 ∧ (wl : Int) = 2 * semi) (h' : 0 ≤ toh ∧ toh ≤ 1) : mOk wl semi toh top serial rl = (inB top (toh * semi + 1) ((toh + 1) * semi) && decide (1 ≤ serial) && decide (serial ≤ 1000000000) && decide ((rl : Int) ≤ 24)) := by
  unfold mOk num1 num2
  rw [Bool.eq_iff_iff]
  simp only [Bool.and_eq_true, decide_eq_true_eq]
  constructor
  · rintro ⟨a, g⟩
    exact ⟨⟨⟨g, by omega⟩, by omega⟩, by omega⟩
  · rintro ⟨⟨⟨g, c⟩, d⟩, e⟩
    exact ⟨⟨h.1, h.2.1, h.2.2, h'.1, h'.2, c, d, by omega⟩, g⟩
set_option maxHeartbeats 1000000 in
theorem measuresOk_semi (aw : Option Addr) (cw : Nat) (ws : List Int) (semi toh top : Int) (cyc : Bool) (scan old copied serial : Int) (ar : Option Addr) (cr : Nat) (rs : List (Int × Int)) (w : World) (hn : ws.length ≤ 1048576) (h : ¬ (256 ≤ semi ∧ semi ≤ 4000 ∧ (ws.length : Int) = 2 * semi)) :
    Calls Tryz.prog 112 #[.agg #[.slice aw ws.length cw, .int .i64 semi, .int .i64 toh, .int .i64 top, .bool cyc, .int .i64 scan, .int .i64 old, .int .i64 copied, .int .i64 serial, .slice ar rs.length cr]] w fun e w' => e = .returned (.bool false) ∧ Below w.heap.size w w' := by
  have hn' : (ws.length : Int) ≤ 1048576 := by omega
  by_cases h1 : semi < 256
  · go_enter Tryz.func112, Tryz.ntmps112
    go_wp2
    go_ret
    exact ⟨rfl, below_first (Below.refl _ _)⟩
  · have d1 : decide (semi < 256) = false := decide_eq_false h1
    by_cases h2 : 4000 < semi
    · clear h1
      go_enter Tryz.func112, Tryz.ntmps112
      go_wp2
      go_ret
      exact ⟨rfl, below_first (Below.refl _ _)⟩
    · have d2 : decide (4000 < semi) = false := decide_eq_false h2
      have d3 : ((ws.length : Int) != 2 * semi) = true := by simp; omega
      have s0 : 256 ≤ semi := by omega
      have s1 : semi ≤ 4000 := by omega
      clear h1 h2 h
      go_enter Tryz.func112, Tryz.ntmps112
      go_wp2
      go_ret
      exact ⟨rfl, below_first (Below.refl _ _)⟩
set_option maxHeartbeats 1000000 in
theorem measuresOk_to (aw : Option Addr) (cw : Nat) (ws : List Int) (semi toh top : Int) (cyc : Bool) (scan old copied serial : Int) (ar : Option Addr) (cr : Nat) (rs : List (Int × Int)) (w : World) (hn : ws.length ≤ 1048576) (s0 : 256 ≤ semi) (s1 : semi ≤ 4000) (d3 : ((ws.length : Int) != 2 * semi) = false) (h : ¬ (0 ≤ toh ∧ toh ≤ 1)) :
    Calls Tryz.prog 112 #[.agg #[.slice aw ws.length cw, .int .i64 semi, .int .i64 toh, .int .i64 top, .bool cyc, .int .i64 scan, .int .i64 old, .int .i64 copied, .int .i64 serial, .slice ar rs.length cr]] w fun e w' => e = .returned (.bool false) ∧ Below w.heap.size w w' := by
  have hn' : (ws.length : Int) ≤ 1048576 := by omega
  have d1 : decide (semi < 256) = false := decide_eq_false (by omega)
  have d2 : decide (4000 < semi) = false := decide_eq_false (by omega)
  have e0 : (toh != 0) = true := by simp; omega
  have e1 : (toh != 1) = true := by simp; omega
  clear h
  go_enter Tryz.func112, Tryz.ntmps112
  go_wp2
  go_ret
  exact ⟨rfl, below_first (Below.refl _ _)⟩
set_option maxHeartbeats 1000000 in
theorem measuresOk_rest (aw : Option Addr) (cw : Nat) (ws : List Int) (semi toh top : Int) (cyc : Bool) (scan old copied serial : Int) (ar : Option Addr) (cr : Nat) (rs : List (Int × Int)) (F E : Int) (q : Bool) (w : World) (hn : ws.length ≤ 1048576) (hn2 : rs.length ≤ 1048576) (s0 : 256 ≤ semi) (s1 : semi ≤ 4000) (d3 : ((ws.length : Int) != 2 * semi) = false) (t0 : 0 ≤ toh) (t1 : toh ≤ 1) (hF : toh * semi + 1 = F) (hE : (toh + 1) * semi = E) (hq : (inB top F E && decide (1 ≤ serial) && decide (serial ≤ 1000000000) && decide ((rs.length : Int) ≤ 24)) = q) :
    Calls Tryz.prog 112 #[.agg #[.slice aw ws.length cw, .int .i64 semi, .int .i64 toh, .int .i64 top, .bool cyc, .int .i64 scan, .int .i64 old, .int .i64 copied, .int .i64 serial, .slice ar rs.length cr]] w fun e w' => e = .returned (.bool q) ∧ Below w.heap.size w w' := by
  have hn' : (ws.length : Int) ≤ 1048576 := by omega
  have hn2' : (rs.length : Int) ≤ 1048576 := by omega
  have d1 : decide (semi < 256) = false := decide_eq_false (by omega)
  have d2 : decide (4000 < semi) = false := decide_eq_false (by omega)
  have HF : Hid (toh * semi + 1 = F) := hF
  have HE : Hid ((toh + 1) * semi = E) := hE
  have hto : (toh != 0) = false ∨ ((toh != 0) = true ∧ (toh != 1) = false) := by simp; omega
  clear hF hE
  cases hi : inB top F E with
  | false =>
    rw [hi] at hq
    simp at hq
    subst hq
    rcases hto with e0 | ⟨e0, e1⟩
    all_goals
      go_enter Tryz.func112, Tryz.ntmps112
      go_wp2_with (go_at_call 113; refine (limits_is _ _ _ _ _ _ _ _ _ _ _ _ _ _ toh top F E _ t0 t1 s0 s1 HF.out HE.out).mono ?_; rw [hi]; rintro e w1 ⟨rfl, b1⟩; have KA1 := one_cells b1 (by simp))
      go_ret
      exact ⟨rfl, below_first b1⟩
  | true =>
    rw [hi] at hq
    by_cases h1 : 1 ≤ serial
    · by_cases h2 : serial ≤ 1000000000
      · by_cases h3 : (rs.length : Int) ≤ 24
        · obtain rfl : true = q := by rw [← hq]; simp [h1, h2]; omega
          rcases hto with e0 | ⟨e0, e1⟩
          all_goals
            go_enter Tryz.func112, Tryz.ntmps112
            go_wp2_with (go_at_call 113; refine (limits_is _ _ _ _ _ _ _ _ _ _ _ _ _ _ toh top F E _ t0 t1 s0 s1 HF.out HE.out).mono ?_; rw [hi]; rintro e w1 ⟨rfl, b1⟩; have KA1 := one_cells b1 (by simp))
            go_ret
            exact ⟨rfl, below_first b1⟩
        · have d5 : decide ((rs.length : Int) ≤ 24) = false := decide_eq_false h3
          obtain rfl : false = q := by rw [← hq, d5]; simp
          clear h3
          rcases hto with e0 | ⟨e0, e1⟩
          all_goals
            go_enter Tryz.func112, Tryz.ntmps112
            go_wp2_with (go_at_call 113; refine (limits_is _ _ _ _ _ _ _ _ _ _ _ _ _ _ toh top F E _ t0 t1 s0 s1 HF.out HE.out).mono ?_; rw [hi]; rintro e w1 ⟨rfl, b1⟩; have KA1 := one_cells b1 (by simp))
            go_ret
            exact ⟨rfl, below_first b1⟩
      · have d5 : decide (serial ≤ 1000000000) = false := decide_eq_false h2
        obtain rfl : false = q := by rw [← hq, d5]; simp
        clear h2
        rcases hto with e0 | ⟨e0, e1⟩
        all_goals
          go_enter Tryz.func112, Tryz.ntmps112
          go_wp2_with (go_at_call 113; refine (limits_is _ _ _ _ _ _ _ _ _ _ _ _ _ _ toh top F E _ t0 t1 s0 s1 HF.out HE.out).mono ?_; rw [hi]; rintro e w1 ⟨rfl, b1⟩; have KA1 := one_cells b1 (by simp))
          go_ret
          exact ⟨rfl, below_first b1⟩
    · have d5 : decide (1 ≤ serial) = false := decide_eq_false h1
      obtain rfl : false = q := by rw [← hq, d5]; simp
      clear h1
      rcases hto with e0 | ⟨e0, e1⟩
      all_goals
        go_enter Tryz.func112, Tryz.ntmps112
        go_wp2_with (go_at_call 113; refine (limits_is _ _ _ _ _ _ _ _ _ _ _ _ _ _ toh top F E _ t0 t1 s0 s1 HF.out HE.out).mono ?_; rw [hi]; rintro e w1 ⟨rfl, b1⟩; have KA1 := one_cells b1 (by simp))
        go_ret
        exact ⟨rfl, below_first b1⟩
theorem measuresOk_any (aw : Option Addr) (cw : Nat) (ws : List Int) (semi toh top : Int) (cyc : Bool) (scan old copied serial : Int) (ar : Option Addr) (cr : Nat) (rs : List (Int × Int)) (w : World) (hn : ws.length ≤ 1048576) (hn2 : rs.length ≤ 1048576) :
    Calls Tryz.prog 112 #[.agg #[.slice aw ws.length cw, .int .i64 semi, .int .i64 toh, .int .i64 top, .bool cyc, .int .i64 scan, .int .i64 old, .int .i64 copied, .int .i64 serial, .slice ar rs.length cr]] w fun e w' => e = .returned (.bool (mOk ws.length semi toh top serial rs.length)) ∧ Below w.heap.size w w' := by
  by_cases h : 256 ≤ semi ∧ semi ≤ 4000 ∧ (ws.length : Int) = 2 * semi
  · have d3 : ((ws.length : Int) != 2 * semi) = false := by simp; exact h.2.2
    by_cases h' : 0 ≤ toh ∧ toh ≤ 1
    · rw [mOk_rest h h']
      exact measuresOk_rest aw cw ws semi toh top cyc scan old copied serial ar cr rs _ _ _ w hn hn2 h.1 h.2.1 d3 h'.1 h'.2 rfl rfl rfl
    · rw [mOk_to h']
      exact measuresOk_to aw cw ws semi toh top cyc scan old copied serial ar cr rs w hn h.1 h.2.1 d3 h'
  · rw [mOk_semi h]
    exact measuresOk_semi aw cw ws semi toh top cyc scan old copied serial ar cr rs w hn h
end Go.Proofs.YtmckcnmlhgpnhaaGreat
