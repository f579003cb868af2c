/- The model's l2Free. -/
import Derived.Test.YtaapiedminakcaaGreatProg
import Derived.Test.YtaapiedminakcaaGreatKLawC
namespace Go.Proofs.YtaapiedminakcaaGreat
set_option maxRecDepth 20000
open Go.RowKit
set_option linter.unusedSimpArgs false
set_option linter.unusedVariables false

set_option maxHeartbeats 2000000 in
theorem l2Free_is (aw : Option Addr) (cw : Nat) (ws : List Int) (semi toh top : Int) (scan old copied serial : Int) (ar : Option Addr) (cr : Nat) (rs : List (Int × Int)) (F E : Int) (w : World) (t0 : 0 ≤ toh) (t1 : toh ≤ 1) (s0 : 256 ≤ semi) (s1 : semi ≤ 4000) (hF : (1 - toh) * semi + 1 = F) (hE : (toh + 1) * semi = E) (p0 : 0 ≤ top) (p1 : top ≤ 8000) (o0 : 0 ≤ old) (o1 : old ≤ 8000) (c0 : 0 ≤ copied) (c1 : copied ≤ 8000) :
    Calls Tryz.prog 85 #[.agg #[.slice aw ws.length cw, .int .i64 semi, .int .i64 toh, .int .i64 top, .bool true, .int .i64 scan, .int .i64 old, .int .i64 copied, .int .i64 serial, .slice ar rs.length cr]] w fun e w' => e = .returned (.int .i64 (E - top - (old - F - copied))) ∧ Below w.heap.size w w' := by
  have HF : Hid ((1 - toh) * semi + 1 = F) := hF
  have HE : Hid ((toh + 1) * semi = E) := hE
  have hF1 : 1 ≤ F ∧ F ≤ 4001 ∧ 256 ≤ E ∧ E ≤ 8000 := by
    have hh : toh = 0 ∨ toh = 1 := by omega
    rcases hh with rfl | rfl <;> omega
  obtain ⟨f0, f1, f2, f3⟩ := hF1
  have u0 : 0 ≤ 1 - toh := by omega
  have u1 : 1 - toh ≤ 1 := by omega
  have v1 := sub_wrap (a := E) (b := top) (by omega) (by omega)
  have v2 := sub_wrap (a := old) (b := F) (by omega) (by omega)
  have v3 := sub_wrap (a := old - F) (b := copied) (by omega) (by omega)
  have v4 := sub_wrap (a := E - top) (b := old - F - copied) (by omega) (by omega)
  have v5 := sub_wrap (a := 1) (b := toh) (by omega) (by omega)
  have HU0 : Hid (0 ≤ IntKind.i64.wrap (1 - toh)) := by show 0 ≤ IntKind.i64.wrap (1 - toh); rw [v5]; exact u0
  have HU1 : Hid (IntKind.i64.wrap (1 - toh) ≤ 1) := by show IntKind.i64.wrap (1 - toh) ≤ 1; rw [v5]; exact u1
  have HU2 : Hid (IntKind.i64.wrap (1 - toh) * semi + 1 = F) := by show IntKind.i64.wrap (1 - toh) * semi + 1 = F; rw [v5]; exact hF
  clear hF hE v5
  have KP : ∀ W, Below (w.alloc (.cells #[.slice aw ws.length cw, .int .i64 semi, .int .i64 toh, .int .i64 top, .bool true, .int .i64 scan, .int .i64 old, .int .i64 copied, .int .i64 serial, .slice ar rs.length cr] 30)).heap.size (w.alloc (.cells #[.slice aw ws.length cw, .int .i64 semi, .int .i64 toh, .int .i64 top, .bool true, .int .i64 scan, .int .i64 old, .int .i64 copied, .int .i64 serial, .slice ar rs.length cr] 30)) W → (Below (w.alloc (.cells #[.slice aw ws.length cw, .int .i64 semi, .int .i64 toh, .int .i64 top, .bool true, .int .i64 scan, .int .i64 old, .int .i64 copied, .int .i64 serial, .slice ar rs.length cr] 30)).heap.size (w.alloc (.cells #[.slice aw ws.length cw, .int .i64 semi, .int .i64 toh, .int .i64 top, .bool true, .int .i64 scan, .int .i64 old, .int .i64 copied, .int .i64 serial, .slice ar rs.length cr] 30)) W ∧ (∀ i, W.cell? ⟨w.heap.size, i, none⟩ = (#[.slice aw ws.length cw, .int .i64 semi, .int .i64 toh, .int .i64 top, .bool true, .int .i64 scan, .int .i64 old, .int .i64 copied, .int .i64 serial, .slice ar rs.length cr] : Array Value)[i]?)) := fun W hW => ⟨hW, one_cells hW (by simp)⟩
  go_enter Tryz.func85, Tryz.ntmps85
  go_wp2
  have b1' := (Below.refl (w.alloc (.cells #[.slice aw ws.length cw, .int .i64 semi, .int .i64 toh, .int .i64 top, .bool true, .int .i64 scan, .int .i64 old, .int .i64 copied, .int .i64 serial, .slice ar rs.length cr] 30)).heap.size (w.alloc (.cells #[.slice aw ws.length cw, .int .i64 semi, .int .i64 toh, .int .i64 top, .bool true, .int .i64 scan, .int .i64 old, .int .i64 copied, .int .i64 serial, .slice ar rs.length cr] 30))).drew
  go_region_held3 (fun W => Below (w.alloc (.cells #[.slice aw ws.length cw, .int .i64 semi, .int .i64 toh, .int .i64 top, .bool true, .int .i64 scan, .int .i64 old, .int .i64 copied, .int .i64 serial, .slice ar rs.length cr] 30)).heap.size (w.alloc (.cells #[.slice aw ws.length cw, .int .i64 semi, .int .i64 toh, .int .i64 top, .bool true, .int .i64 scan, .int .i64 old, .int .i64 copied, .int .i64 serial, .slice ar rs.length cr] 30)) W ∧ (∀ i, W.cell? ⟨w.heap.size, i, none⟩ = (#[.slice aw ws.length cw, .int .i64 semi, .int .i64 toh, .int .i64 top, .bool true, .int .i64 scan, .int .i64 old, .int .i64 copied, .int .i64 serial, .slice ar rs.length cr] : Array Value)[i]?)) (first | exact KP _ (by assumption) | exact KP _ b1') (first | (go_at_call 123; refine (l2End_is _ _ _ _ _ _ _ _ _ _ _ _ _ _ E _ t0 t1 s0 s1 HE.out).mono ?_; rintro e w1 ⟨rfl, hb⟩; have hB3 := below_next (w := (w.alloc (.cells #[.slice aw ws.length cw, .int .i64 semi, .int .i64 toh, .int .i64 top, .bool true, .int .i64 scan, .int .i64 old, .int .i64 copied, .int .i64 serial, .slice ar rs.length cr] 30))) (And.left (by assumption)) hb; clear hb))
  all_goals
    have k1 := one_cells hB3 (by simp)
    go_wp2
    have b2' := hB3.drew
    clear k1 b1'
    go_region_held3 (fun W => Below (w.alloc (.cells #[.slice aw ws.length cw, .int .i64 semi, .int .i64 toh, .int .i64 top, .bool true, .int .i64 scan, .int .i64 old, .int .i64 copied, .int .i64 serial, .slice ar rs.length cr] 30)).heap.size (w.alloc (.cells #[.slice aw ws.length cw, .int .i64 semi, .int .i64 toh, .int .i64 top, .bool true, .int .i64 scan, .int .i64 old, .int .i64 copied, .int .i64 serial, .slice ar rs.length cr] 30)) W ∧ (∀ i, W.cell? ⟨w.heap.size, i, none⟩ = (#[.slice aw ws.length cw, .int .i64 semi, .int .i64 toh, .int .i64 top, .bool true, .int .i64 scan, .int .i64 old, .int .i64 copied, .int .i64 serial, .slice ar rs.length cr] : Array Value)[i]?)) (first | exact KP _ (by assumption) | exact KP _ b2') (first | (go_at_call 79; refine (l2Start_is _ _ _ _ _ _ _ _ _ _ _ _ _ _ _ F _ (by first | exact HU0.out | exact u0) (by first | exact HU1.out | exact u1) s0 s1 (by first | exact HU2.out | exact HF.out)).mono ?_; rintro e w2 ⟨rfl, hb⟩; have hB4 := below_next (w := (w.alloc (.cells #[.slice aw ws.length cw, .int .i64 semi, .int .i64 toh, .int .i64 top, .bool true, .int .i64 scan, .int .i64 old, .int .i64 copied, .int .i64 serial, .slice ar rs.length cr] 30))) (And.left (by assumption)) hb; clear hb))
    all_goals
      go_wp2
      go_ret
      exact ⟨rfl, below_first hB4⟩
set_option maxHeartbeats 2000000 in
theorem l2Free_no (aw : Option Addr) (cw : Nat) (ws : List Int) (semi toh top : Int) (scan old copied serial : Int) (ar : Option Addr) (cr : Nat) (rs : List (Int × Int)) (E : Int) (w : World) (t0 : 0 ≤ toh) (t1 : toh ≤ 1) (s0 : 256 ≤ semi) (s1 : semi ≤ 4000) (hE : (toh + 1) * semi = E) (p0 : 0 ≤ top) (p1 : top ≤ 8000) :
    Calls Tryz.prog 85 #[.agg #[.slice aw ws.length cw, .int .i64 semi, .int .i64 toh, .int .i64 top, .bool false, .int .i64 scan, .int .i64 old, .int .i64 copied, .int .i64 serial, .slice ar rs.length cr]] w fun e w' => e = .returned (.int .i64 (E - top)) ∧ Below w.heap.size w w' := by
  have HE : Hid ((toh + 1) * semi = E) := hE
  have hF1 : 256 ≤ E ∧ E ≤ 8000 := by
    have hh : toh = 0 ∨ toh = 1 := by omega
    rcases hh with rfl | rfl <;> omega
  obtain ⟨f2, f3⟩ := hF1
  have v1 := sub_wrap (a := E) (b := top) (by omega) (by omega)
  clear hE
  have KP : ∀ W, Below (w.alloc (.cells #[.slice aw ws.length cw, .int .i64 semi, .int .i64 toh, .int .i64 top, .bool false, .int .i64 scan, .int .i64 old, .int .i64 copied, .int .i64 serial, .slice ar rs.length cr] 30)).heap.size (w.alloc (.cells #[.slice aw ws.length cw, .int .i64 semi, .int .i64 toh, .int .i64 top, .bool false, .int .i64 scan, .int .i64 old, .int .i64 copied, .int .i64 serial, .slice ar rs.length cr] 30)) W → (Below (w.alloc (.cells #[.slice aw ws.length cw, .int .i64 semi, .int .i64 toh, .int .i64 top, .bool false, .int .i64 scan, .int .i64 old, .int .i64 copied, .int .i64 serial, .slice ar rs.length cr] 30)).heap.size (w.alloc (.cells #[.slice aw ws.length cw, .int .i64 semi, .int .i64 toh, .int .i64 top, .bool false, .int .i64 scan, .int .i64 old, .int .i64 copied, .int .i64 serial, .slice ar rs.length cr] 30)) W ∧ (∀ i, W.cell? ⟨w.heap.size, i, none⟩ = (#[.slice aw ws.length cw, .int .i64 semi, .int .i64 toh, .int .i64 top, .bool false, .int .i64 scan, .int .i64 old, .int .i64 copied, .int .i64 serial, .slice ar rs.length cr] : Array Value)[i]?)) := fun W hW => ⟨hW, one_cells hW (by simp)⟩
  go_enter Tryz.func85, Tryz.ntmps85
  go_wp2
  have b1' := (Below.refl (w.alloc (.cells #[.slice aw ws.length cw, .int .i64 semi, .int .i64 toh, .int .i64 top, .bool false, .int .i64 scan, .int .i64 old, .int .i64 copied, .int .i64 serial, .slice ar rs.length cr] 30)).heap.size (w.alloc (.cells #[.slice aw ws.length cw, .int .i64 semi, .int .i64 toh, .int .i64 top, .bool false, .int .i64 scan, .int .i64 old, .int .i64 copied, .int .i64 serial, .slice ar rs.length cr] 30))).drew
  go_region_held3 (fun W => Below (w.alloc (.cells #[.slice aw ws.length cw, .int .i64 semi, .int .i64 toh, .int .i64 top, .bool false, .int .i64 scan, .int .i64 old, .int .i64 copied, .int .i64 serial, .slice ar rs.length cr] 30)).heap.size (w.alloc (.cells #[.slice aw ws.length cw, .int .i64 semi, .int .i64 toh, .int .i64 top, .bool false, .int .i64 scan, .int .i64 old, .int .i64 copied, .int .i64 serial, .slice ar rs.length cr] 30)) W ∧ (∀ i, W.cell? ⟨w.heap.size, i, none⟩ = (#[.slice aw ws.length cw, .int .i64 semi, .int .i64 toh, .int .i64 top, .bool false, .int .i64 scan, .int .i64 old, .int .i64 copied, .int .i64 serial, .slice ar rs.length cr] : Array Value)[i]?)) (first | exact KP _ (by assumption) | exact KP _ b1') (first | (go_at_call 123; refine (l2End_is _ _ _ _ _ _ _ _ _ _ _ _ _ _ E _ t0 t1 s0 s1 HE.out).mono ?_; rintro e w1 ⟨rfl, hb⟩; have hB3 := below_next (w := (w.alloc (.cells #[.slice aw ws.length cw, .int .i64 semi, .int .i64 toh, .int .i64 top, .bool false, .int .i64 scan, .int .i64 old, .int .i64 copied, .int .i64 serial, .slice ar rs.length cr] 30))) (And.left (by assumption)) hb; clear hb))
  all_goals
    have k1 := one_cells hB3 (by simp)
    go_wp2
    go_ret
    exact ⟨rfl, below_first hB3⟩
end Go.Proofs.YtaapiedminakcaaGreat

/- Free of both packages, at every arena. -/
namespace Go.Proofs.YtaapiedminakcaaGreat
set_option maxRecDepth 20000
open Go.RowKit
set_option linter.unusedSimpArgs false
set_option linter.unusedVariables false

/-- How many words of a right arena are free. -/
def freeOf (semi toh top : Int) (cyc : Bool) (old copied : Int) : Int := if cyc = true then (toh + 1) * semi - top - (old - ((1 - toh) * semi + 1) - copied) else (toh + 1) * semi - top
/-- What a right arena's numbers are at the most. -/
theorem ar_bounds {ws : List Int} {semi toh top : Int} {cyc : Bool} {scan old copied serial : Int} {y : Nat → Int} {rl : Nat} (h : ArOk ws semi toh top cyc scan old copied serial y rl) :
    256 ≤ semi ∧ semi ≤ 4000 ∧ 0 ≤ toh ∧ toh ≤ 1 ∧ 0 ≤ top ∧ top ≤ 8000 ∧ (cyc = true → 0 ≤ old ∧ old ≤ 8000 ∧ 0 ≤ copied ∧ copied ≤ 8000) := by
  have hnum := h.1
  obtain ⟨s0, s1, hl, t0, t1, hrl, h1, h2, hold⟩ := num_facts hnum
  obtain ⟨g1, g2, g3, g4, g5⟩ := num_halves s0 s1 hl t0 t1 h1 h2
  refine ⟨s0, s1, t0, t1, g3, by omega, fun hc => ?_⟩
  obtain ⟨a, b⟩ := hold hc
  have h5 := (g5 old a b).1
  have h6 : num3 semi toh top old copied = true := by
    unfold numOk at hnum
    rw [hc] at hnum
    simp only [if_true, Bool.and_eq_true] at hnum
    exact hnum.2
  have h7 := of_decide_eq_true h6
  unfold firstOf at h7
  omega
theorem specFree_yes (aw : Option Addr) (cw : Nat) (ws : List Int) (semi toh top : Int) (cyc : Bool) (scan old copied serial : Int) (ar : Option Addr) (cr : Nat) (rs : List (Int × Int)) (y : Nat → Int) (Tr : Nat) (w : World) (hs : Sl w (.slice aw ws.length cw) ws) (hn : ws.length ≤ 1048576) (hw : Words64 ws) (hrt : SlF Tr w (.slice ar rs.length cr) rs.length (2 * rs.length) (fun i => .int .i64 (y i))) (hn2 : rs.length ≤ 1048576) (hok : ArOk ws semi toh top cyc scan old copied serial y rs.length) :
    Calls Tryz.prog 34 #[.agg #[.slice aw ws.length cw, .int .i64 semi, .int .i64 toh, .int .i64 top, .bool cyc, .int .i64 scan, .int .i64 old, .int .i64 copied, .int .i64 serial, .slice ar rs.length cr]] w fun e w' => e = .returned (.int .i64 (freeOf semi toh top cyc old copied)) ∧ Below w.heap.size w w' := by
  obtain ⟨s0, s1, t0, t1, p0, p1, hc⟩ := ar_bounds hok
  have HS : Hid (Sl w (.slice aw ws.length cw) ws) := hs
  have HR : Hid (SlF w.heap.size w (.slice ar rs.length cr) rs.length (2 * rs.length) (fun i => .int .i64 (y i))) := hrt.here
  have HQ : Hid (ArOk ws semi toh top cyc scan old copied serial y rs.length) := hok
  clear hs hrt hok
  cases cyc with
  | false =>
    have e1 : freeOf semi toh top false old copied = (toh + 1) * semi - top := by simp [freeOf]
    rw [e1]
    clear e1 hc
    go_enter Tryz.func34, Tryz.ntmps34
    go_wp2_with fail
    refine (specArenaOk_at _ _ _ _ _ _ _ _ _ _ _ _ _ _ y w.heap.size _ (HS.out.below ((Below.refl _ _).alloc (Nat.le_refl _) _)) hn hw (HR.out.below ((Below.refl _ _).alloc (Nat.le_refl _) _) (Nat.le_refl _)) hn2).mono ?_
    rintro e w1 ⟨q, rfl, hq, b1⟩
    obtain rfl := hq.2 HQ.out
    have k1 := one_cells b1 (by simp)
    have B1 := below_first b1
    clear b1 HS HR hq
    go_wp2_with fail
    refine (l2Free_no aw cw ws semi toh top scan old copied serial ar cr rs _ _ t0 t1 s0 s1 rfl p0 p1).mono ?_
    rintro e w2 ⟨rfl, b2⟩
    go_wp2
    go_ret
    exact ⟨rfl, below_next B1 b2⟩
  | true =>
    obtain ⟨o0, o1, c0, c1⟩ := hc rfl
    have e1 : freeOf semi toh top true old copied = (toh + 1) * semi - top - (old - ((1 - toh) * semi + 1) - copied) := by simp [freeOf]
    rw [e1]
    clear e1 hc
    go_enter Tryz.func34, Tryz.ntmps34
    go_wp2_with fail
    refine (specArenaOk_at _ _ _ _ _ _ _ _ _ _ _ _ _ _ y w.heap.size _ (HS.out.below ((Below.refl _ _).alloc (Nat.le_refl _) _)) hn hw (HR.out.below ((Below.refl _ _).alloc (Nat.le_refl _) _) (Nat.le_refl _)) hn2).mono ?_
    rintro e w1 ⟨q, rfl, hq, b1⟩
    obtain rfl := hq.2 HQ.out
    have k1 := one_cells b1 (by simp)
    have B1 := below_first b1
    clear b1 HS HR hq
    go_wp2_with fail
    refine (l2Free_is aw cw ws semi toh top scan old copied serial ar cr rs _ _ _ t0 t1 s0 s1 rfl rfl p0 p1 o0 o1 c0 c1).mono ?_
    rintro e w2 ⟨rfl, b2⟩
    go_wp2
    go_ret
    exact ⟨rfl, below_next B1 b2⟩
theorem specFree_no (aw : Option Addr) (cw : Nat) (ws : List Int) (semi toh top : Int) (cyc : Bool) (scan old copied serial : Int) (ar : Option Addr) (cr : Nat) (rs : List (Int × Int)) (y : Nat → Int) (Tr : Nat) (w : World) (hs : Sl w (.slice aw ws.length cw) ws) (hn : ws.length ≤ 1048576) (hw : Words64 ws) (hrt : SlF Tr w (.slice ar rs.length cr) rs.length (2 * rs.length) (fun i => .int .i64 (y i))) (hn2 : rs.length ≤ 1048576) (hok : ¬ ArOk ws semi toh top cyc scan old copied serial y rs.length) :
    Calls Tryz.prog 34 #[.agg #[.slice aw ws.length cw, .int .i64 semi, .int .i64 toh, .int .i64 top, .bool cyc, .int .i64 scan, .int .i64 old, .int .i64 copied, .int .i64 serial, .slice ar rs.length cr]] w fun e w' => e = .returned (.int .i64 0) ∧ Below w.heap.size w w' := by
  have HS : Hid (Sl w (.slice aw ws.length cw) ws) := hs
  have HR : Hid (SlF w.heap.size w (.slice ar rs.length cr) rs.length (2 * rs.length) (fun i => .int .i64 (y i))) := hrt.here
  have HQ : Hid (¬ ArOk ws semi toh top cyc scan old copied serial y rs.length) := hok
  clear hs hrt hok
  go_enter Tryz.func34, Tryz.ntmps34
  go_wp2_with fail
  refine (specArenaOk_at _ _ _ _ _ _ _ _ _ _ _ _ _ _ y w.heap.size _ (HS.out.below ((Below.refl _ _).alloc (Nat.le_refl _) _)) hn hw (HR.out.below ((Below.refl _ _).alloc (Nat.le_refl _) _) (Nat.le_refl _)) hn2).mono ?_
  rintro e w1 ⟨q, rfl, hq, b1⟩
  obtain rfl : q = false := by
    cases q with
    | false => rfl
    | true => exact absurd (hq.1 rfl) HQ.out
  go_wp2
  go_ret
  exact ⟨rfl, below_first b1⟩
theorem implFree_yes (aw : Option Addr) (cw : Nat) (ws : List Int) (semi toh top : Int) (cyc : Bool) (scan old copied serial : Int) (ar : Option Addr) (cr : Nat) (rs : List (Int × Int)) (y : Nat → Int) (Tr : Nat) (w : World) (hs : Sl w (.slice aw ws.length cw) ws) (hcw : ws.length ≤ cw) (hn : ws.length ≤ 1048576) (hw : Words64 ws) (hrt : SlF Tr w (.slice ar rs.length cr) rs.length (2 * rs.length) (fun i => .int .i64 (y i))) (hn2 : rs.length ≤ 1048576) (hok : ArOk ws semi toh top cyc scan old copied serial y rs.length) :
    Calls Tryz.prog 35 #[.agg #[.slice aw ws.length cw, .int .i64 semi, .int .i64 toh, .int .i64 top, .bool cyc, .int .i64 scan, .int .i64 old, .int .i64 copied, .int .i64 serial, .slice ar rs.length cr]] w fun e w' => e = .returned (.int .i64 (freeOf semi toh top cyc old copied)) ∧ Below w.heap.size w w' := by
  obtain ⟨s0, s1, t0, t1, p0, p1, hc⟩ := ar_bounds hok
  have HS : Hid (Sl w (.slice aw ws.length cw) ws) := hs
  have HR : Hid (SlF w.heap.size w (.slice ar rs.length cr) rs.length (2 * rs.length) (fun i => .int .i64 (y i))) := hrt.here
  have HQ : Hid (ArOk ws semi toh top cyc scan old copied serial y rs.length) := hok
  clear hs hrt hok
  cases cyc with
  | false =>
    have e1 : freeOf semi toh top false old copied = (toh + 1) * semi - top := by simp [freeOf]
    rw [e1]
    clear e1 hc
    go_enter Tryz.func35, Tryz.ntmps35
    go_wp2_with fail
    refine (implArenaOk_at _ _ _ _ _ _ _ _ _ _ _ _ _ _ y w.heap.size _ (HS.out.below ((Below.refl _ _).alloc (Nat.le_refl _) _)) hcw hn hw (HR.out.below ((Below.refl _ _).alloc (Nat.le_refl _) _) (Nat.le_refl _)) hn2).mono ?_
    rintro e w1 ⟨q, rfl, hq, b1⟩
    obtain rfl := hq.2 HQ.out
    have k1 := one_cells b1 (by simp)
    have B1 := below_first b1
    clear b1 HS HR hq
    go_wp2_with fail
    refine (free_no aw cw ws semi toh top scan old copied serial ar cr rs _ _ t0 t1 s0 s1 rfl p0 p1).mono ?_
    rintro e w2 ⟨rfl, b2⟩
    go_wp2
    go_ret
    exact ⟨rfl, below_next B1 b2⟩
  | true =>
    obtain ⟨o0, o1, c0, c1⟩ := hc rfl
    have e1 : freeOf semi toh top true old copied = (toh + 1) * semi - top - (old - ((1 - toh) * semi + 1) - copied) := by simp [freeOf]
    rw [e1]
    clear e1 hc
    go_enter Tryz.func35, Tryz.ntmps35
    go_wp2_with fail
    refine (implArenaOk_at _ _ _ _ _ _ _ _ _ _ _ _ _ _ y w.heap.size _ (HS.out.below ((Below.refl _ _).alloc (Nat.le_refl _) _)) hcw hn hw (HR.out.below ((Below.refl _ _).alloc (Nat.le_refl _) _) (Nat.le_refl _)) hn2).mono ?_
    rintro e w1 ⟨q, rfl, hq, b1⟩
    obtain rfl := hq.2 HQ.out
    have k1 := one_cells b1 (by simp)
    have B1 := below_first b1
    clear b1 HS HR hq
    go_wp2_with fail
    refine (free_is aw cw ws semi toh top scan old copied serial ar cr rs _ _ _ t0 t1 s0 s1 rfl rfl p0 p1 o0 o1 c0 c1).mono ?_
    rintro e w2 ⟨rfl, b2⟩
    go_wp2
    go_ret
    exact ⟨rfl, below_next B1 b2⟩
theorem implFree_no (aw : Option Addr) (cw : Nat) (ws : List Int) (semi toh top : Int) (cyc : Bool) (scan old copied serial : Int) (ar : Option Addr) (cr : Nat) (rs : List (Int × Int)) (y : Nat → Int) (Tr : Nat) (w : World) (hs : Sl w (.slice aw ws.length cw) ws) (hcw : ws.length ≤ cw) (hn : ws.length ≤ 1048576) (hw : Words64 ws) (hrt : SlF Tr w (.slice ar rs.length cr) rs.length (2 * rs.length) (fun i => .int .i64 (y i))) (hn2 : rs.length ≤ 1048576) (hok : ¬ ArOk ws semi toh top cyc scan old copied serial y rs.length) :
    Calls Tryz.prog 35 #[.agg #[.slice aw ws.length cw, .int .i64 semi, .int .i64 toh, .int .i64 top, .bool cyc, .int .i64 scan, .int .i64 old, .int .i64 copied, .int .i64 serial, .slice ar rs.length cr]] w fun e w' => e = .returned (.int .i64 0) ∧ Below w.heap.size w w' := by
  have HS : Hid (Sl w (.slice aw ws.length cw) ws) := hs
  have HR : Hid (SlF w.heap.size w (.slice ar rs.length cr) rs.length (2 * rs.length) (fun i => .int .i64 (y i))) := hrt.here
  have HQ : Hid (¬ ArOk ws semi toh top cyc scan old copied serial y rs.length) := hok
  clear hs hrt hok
  go_enter Tryz.func35, Tryz.ntmps35
  go_wp2_with fail
  refine (implArenaOk_at _ _ _ _ _ _ _ _ _ _ _ _ _ _ y w.heap.size _ (HS.out.below ((Below.refl _ _).alloc (Nat.le_refl _) _)) hcw hn hw (HR.out.below ((Below.refl _ _).alloc (Nat.le_refl _) _) (Nat.le_refl _)) hn2).mono ?_
  rintro e w1 ⟨q, rfl, hq, b1⟩
  obtain rfl : q = false := by
    cases q with
    | false => rfl
    | true => exact absurd (hq.1 rfl) HQ.out
  go_wp2
  go_ret
  exact ⟨rfl, below_first b1⟩

set_option maxHeartbeats 2000000 in
theorem fnExactFree_by (aw : Option Addr) (cw : Nat) (ws : List Int) (semi toh top : Int) (cyc : Bool) (scan old copied serial : Int) (ar : Option Addr) (cr : Nat) (rs : List (Int × Int))  (y : Nat → Int) (Tr : Nat) (w : World) (ans : Int) (hs : Sl w (.slice aw ws.length cw) ws) (hrt : SlF Tr w (.slice ar rs.length cr) rs.length (2 * rs.length) (fun i => .int .i64 (y i))) (hl1 : ws.length ≤ 9223372036854775807) (hl2 : rs.length ≤ 9223372036854775807)
    (hspec : ws.length ≤ 1048576 → rs.length ≤ 1048576 → ∀ (aw : Option Addr) (cw : Nat) (ar : Option Addr) (cr : Nat) (W : World) (T : Nat), Sl W (.slice aw ws.length cw) ws → SlF T W (.slice ar rs.length cr) rs.length (2 * rs.length) (fun i => .int .i64 (y i)) → Calls Tryz.prog 34 #[.agg #[.slice aw ws.length cw, .int .i64 semi, .int .i64 toh, .int .i64 top, .bool cyc, .int .i64 scan, .int .i64 old, .int .i64 copied, .int .i64 serial, .slice ar rs.length cr]] W fun e w' => e = .returned (.int .i64 ans) ∧ Below W.heap.size W w')
    (himpl : ws.length ≤ 1048576 → rs.length ≤ 1048576 → ∀ (aw : Option Addr) (cw : Nat) (ar : Option Addr) (cr : Nat) (W : World) (T : Nat), Sl W (.slice aw ws.length cw) ws → ws.length ≤ cw → SlF T W (.slice ar rs.length cr) rs.length (2 * rs.length) (fun i => .int .i64 (y i)) → Calls Tryz.prog 35 #[.agg #[.slice aw ws.length cw, .int .i64 semi, .int .i64 toh, .int .i64 top, .bool cyc, .int .i64 scan, .int .i64 old, .int .i64 copied, .int .i64 serial, .slice ar rs.length cr]] W fun e w' => e = .returned (.int .i64 ans) ∧ Below W.heap.size W w') :
    Calls Tryz.prog 6 #[.agg #[.slice aw ws.length cw, .int .i64 semi, .int .i64 toh, .int .i64 top, .bool cyc, .int .i64 scan, .int .i64 old, .int .i64 copied, .int .i64 serial, .slice ar rs.length cr]] w fun e w' => e = .returned (.bool true) ∧ Below w.heap.size w w' := by
  by_cases h : (ws.length : Int) + rs.length ≤ 1048576
  · have hn : ws.length ≤ 1048576 := by omega
    have hn2 : rs.length ≤ 1048576 := by omega
    have h0 : ¬ (1048576 - (ws.length : Int) - rs.length) < 0 := by omega
    have HSZ : ∀ W, _ := fun W => szArena_any aw ws.length cw semi toh top cyc scan old copied serial ar rs.length cr W hl1 hl2
    rw [if_pos h] at HSZ
    have HTA : Hid (∀ W, Below w.heap.size w W → _) := fun W (hW : Below w.heap.size w W) => toArena_at aw cw ws semi toh top cyc scan old copied serial ar cr rs y w.heap.size W (hs.below hW) hn (hrt.here.below hW (Nat.le_refl _)) hn2
    have HSP : Hid _ := hspec hn hn2
    have HIM : Hid _ := himpl hn hn2
    clear hs hrt h hl1 hl2 hspec himpl
    go_enter Tryz.func6, Tryz.ntmps6
    go_wp2_with fail
    refine (HSZ _).mono ?_
    rintro e w1 ⟨rfl, b1⟩
    have B1 := below_first b1
    have k1 := one_cells b1 (by simp)
    have z1 := size_first b1
    clear b1
    go_wp2_with fail
    refine (HTA.out _ B1).mono ?_
    rintro e w2 ⟨x1, x2, rfl, s2, r2, b2⟩
    have B2 := below_next B1 b2
    have k2 := has_below k1 b2 z1
    have z2 := Nat.lt_of_lt_of_le z1 b2.size
    clear b2 k1
    go_wp2_with fail
    refine (HSP.out (some ⟨x1, 0, none⟩) ws.length (some ⟨x2, 0, none⟩) rs.length _ _ s2 r2).mono ?_
    rintro e w3 ⟨rfl, b3⟩
    have B3 := below_next B2 b3
    have k3 := has_below k2 b3 z2
    have z3 := Nat.lt_of_lt_of_le z2 b3.size
    clear b3 k2 s2 r2
    go_wp2_with fail
    refine (HTA.out _ B3).mono ?_
    rintro e w4 ⟨x3, x4, rfl, s4, r4, b4⟩
    have B4 := below_next B3 b4
    have k4 := has_below k3 b4 z3
    have z4 := Nat.lt_of_lt_of_le z3 b4.size
    clear b4 k3
    have A4 := s4.below ((Below.refl w4.heap.size w4).alloc (Nat.le_refl _) (.cells #[.slice (some ⟨x3, 0, none⟩) ws.length ws.length, .int .i64 semi, .int .i64 toh, .int .i64 top, .bool cyc, .int .i64 scan, .int .i64 old, .int .i64 copied, .int .i64 serial, .slice (some ⟨x4, 0, none⟩) rs.length rs.length] 30))
    have R4 := r4.below ((Below.refl w4.heap.size w4).alloc (Nat.le_refl _) (.cells #[.slice (some ⟨x3, 0, none⟩) ws.length ws.length, .int .i64 semi, .int .i64 toh, .int .i64 top, .bool cyc, .int .i64 scan, .int .i64 old, .int .i64 copied, .int .i64 serial, .slice (some ⟨x4, 0, none⟩) rs.length rs.length] 30)) (Nat.le_refl _)
    go_wp2_with fail
    refine (HIM.out (some ⟨x3, 0, none⟩) ws.length (some ⟨x4, 0, none⟩) rs.length _ _ A4 (Nat.le_refl _) R4).mono ?_
    rintro e w5 ⟨rfl, b5⟩
    have B5 := below_next (below_box B4) b5
    have k5 := has_below (has_below k4 ((Below.refl w4.heap.size w4).alloc (Nat.le_refl _) _) z4) b5 (by simp; omega)
    have p5 := one_cells b5 (by simp)
    have z5 := size_first b5
    have S5 := A4.below b5
    have R5 := R4.below b5 (by simp)
    clear A4 R4 s4 r4 k4 b5
    have F5 := sl_f S5
    have R5' := R5.here
    go_wp2_with fail
    have KP : ∀ V, Below w5.heap.size w5 V → (Below w5.heap.size w5 V ∧ (∀ i, V.cell? ⟨w.heap.size, i, none⟩ = (#[.slice aw ws.length cw, .int .i64 semi, .int .i64 toh, .int .i64 top, .bool cyc, .int .i64 scan, .int .i64 old, .int .i64 copied, .int .i64 serial, .slice ar rs.length cr] : Array Value)[i]?) ∧ (∀ i, V.cell? ⟨w4.heap.size, i, none⟩ = (#[.slice (some ⟨x3, 0, none⟩) ws.length ws.length, .int .i64 semi, .int .i64 toh, .int .i64 top, .bool cyc, .int .i64 scan, .int .i64 old, .int .i64 copied, .int .i64 serial, .slice (some ⟨x4, 0, none⟩) rs.length rs.length] : Array Value)[i]?)) := fun V hV => ⟨hV, has_below k5 hV (by omega), has_below p5 hV z5⟩
    have b5' := (Below.refl w5.heap.size w5).drew
    clear k5 p5 S5 R5 HSZ HSP HIM
    go_region_held3 (fun V => Below w5.heap.size w5 V ∧ (∀ i, V.cell? ⟨w.heap.size, i, none⟩ = (#[.slice aw ws.length cw, .int .i64 semi, .int .i64 toh, .int .i64 top, .bool cyc, .int .i64 scan, .int .i64 old, .int .i64 copied, .int .i64 serial, .slice ar rs.length cr] : Array Value)[i]?) ∧ (∀ i, V.cell? ⟨w4.heap.size, i, none⟩ = (#[.slice (some ⟨x3, 0, none⟩) ws.length ws.length, .int .i64 semi, .int .i64 toh, .int .i64 top, .bool cyc, .int .i64 scan, .int .i64 old, .int .i64 copied, .int .i64 serial, .slice (some ⟨x4, 0, none⟩) rs.length rs.length] : Array Value)[i]?)) (first | assumption | exact KP _ b5' | exact KP _ (by assumption)) (first | (go_at_call 22; refine (HTA.out _ (below_next B5 (And.left (by assumption)))).mono ?_; rintro e w6 ⟨x5, x6, rfl, s6, r6, bb⟩; have hB6 := below_next (w := w5) (And.left (by assumption)) bb; clear bb) | (go_at_call 24; refine (eqArena_same _ _ _ _ _ _ _ _ ws.length rs.length (wordAt ws) y _ _ _ _ _ _ _ _ _ (F5.below hB6 (Nat.le_refl _)) (sl_f s6) hn (R5'.below hB6 (Nat.le_refl _)) r6 hn2).mono ?_; rintro e w7 ⟨rfl, bb⟩; have hB7 := below_next (w := w5) hB6 bb; clear bb))
    all_goals
      go_wp2
      go_ret
      exact ⟨rfl, below_next B5 hB7⟩
  · have HSZ : ∀ W, _ := fun W => szArena_any aw ws.length cw semi toh top cyc scan old copied serial ar rs.length cr W hl1 hl2
    rw [if_neg h] at HSZ
    clear hs hrt h hspec himpl
    go_enter Tryz.func6, Tryz.ntmps6
    go_wp2_with (go_at_call 20; refine (HSZ _).mono ?_; rintro e w1 ⟨rfl, b1⟩)
    go_ret
    exact ⟨rfl, below_first b1⟩

end Go.Proofs.YtaapiedminakcaaGreat
