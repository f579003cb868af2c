/- The model's l2Numbers answers 'numOk'. -/
import Derived.Test.YtmckcnmlhgpnhaaGreatProg
import Derived.Test.YtmckcnmlhgpnhaaGreatKArenaA
import Derived.WalkKit
import Derived.WalkSpells
import Derived.WalkLawsBesides
import Derived.Below
import Derived.Outline
import Derived.Deep.Light
import Derived.Deep.CutRange
import Derived.Deep.RegionWith
import Derived.Deep.RegionHeld
import Derived.Deep.RegionHeld3
namespace Go.Proofs.YtmckcnmlhgpnhaaGreat
set_option maxRecDepth 20000
open Go.RowKit
set_option linter.unusedSimpArgs false
set_option linter.unusedVariables false

def num1 (wl : Nat) (semi toh serial : Int) (rl : Nat) : Bool := decide (256 ≤ semi ∧ semi ≤ 4000 ∧ (wl : Int) = 2 * semi ∧ 0 ≤ toh ∧ toh ≤ 1 ∧ 1 ≤ serial ∧ serial ≤ 1000000000 ∧ rl ≤ 24)
def num2 (semi toh top : Int) : Bool := inB top (toh * semi + 1) ((toh + 1) * semi)
/-- The beginning of the other half. -/
def firstOf (semi toh : Int) : Int := (1 - toh) * semi + 1
def num3 (semi toh top old copied : Int) : Bool := decide (firstOf semi toh ≤ old ∧ old ≤ (2 - toh) * semi ∧ 0 ≤ copied ∧ copied ≤ old - firstOf semi toh ∧ top + old - firstOf semi toh - copied ≤ (toh + 1) * semi)
def num4 (scan old copied : Int) : Bool := decide (scan = 0 ∧ old = 0 ∧ copied = 0)
def numOk (wl : Nat) (semi toh top : Int) (cyc : Bool) (scan old copied serial : Int) (rl : Nat) : Bool :=
  num1 wl semi toh serial rl && num2 semi toh top && (if cyc = true then num3 semi toh top old copied else num4 scan old copied)

theorem num3_yes {semi toh top old copied : Int} (h3 : inB old ((1 - toh) * semi + 1) ((2 - toh) * semi) = true) (h4 : inB copied 0 (old - ((1 - toh) * semi + 1)) = true) :
    num3 semi toh top old copied = decide (top + old - ((1 - toh) * semi + 1) - copied ≤ (toh + 1) * semi) := by
  simp only [inB, decide_eq_true_eq] at h3 h4
  unfold num3 firstOf
  simp only [h3.1, h3.2, h4.1, h4.2, true_and]
theorem num3_no3 {semi toh top old copied : Int} (h3 : inB old ((1 - toh) * semi + 1) ((2 - toh) * semi) = false) : num3 semi toh top old copied = false := by
  simp only [inB, decide_eq_false_iff_not] at h3
  unfold num3 firstOf
  exact decide_eq_false fun h => h3 ⟨h.1, h.2.1⟩
theorem num3_no4 {semi toh top old copied : Int} (h4 : inB copied 0 (old - ((1 - toh) * semi + 1)) = false) : num3 semi toh top old copied = false := by
  simp only [inB, decide_eq_false_iff_not] at h4
  unfold num3 firstOf
  exact decide_eq_false fun h => h4 ⟨h.2.2.1, h.2.2.2.1⟩

set_option maxHeartbeats 2000000 in
theorem numbers_b (aw : Option Addr) (cw : Nat) (ws : List Int) (semi toh top : Int) (cyc : Bool) (scan old copied serial : Int) (ar : Option Addr) (cr : Nat) (rs : List (Int × Int)) (w : World) (hn' : (ws.length : Int) ≤ 1048576) (hn2' : (rs.length : Int) ≤ 1048576) (s0 : 256 ≤ semi) (s1 : semi ≤ 4000) (t0 : 0 ≤ toh) (t1 : toh ≤ 1) (f1 : inB semi 256 4000 = true) (f2 : inB toh 0 1 = true) (f3 : inB serial 1 1000000000 = true) (hr1 : ¬ (24 : Int) < (rs.length : Int)) (hl' : 2 * semi = (ws.length : Int)) (h2 : num2 semi toh top = false) :
    Calls Tryz.prog 90 #[.agg #[.slice aw ws.length cw, .int .i64 semi, .int .i64 toh, .int .i64 top, .bool cyc, .int .i64 scan, .int .i64 old, .int .i64 copied, .int .i64 serial, .slice ar rs.length cr]] w fun e w' => e = .returned (.bool false) ∧ Below w.heap.size w w' := by
  go_enter Tryz.func90, Tryz.ntmps90
  go_upto_region 3 with (go_at_call 104; refine (l1In_any _ _ _ _).mono ?_; rintro e w' ⟨rfl, rfl⟩)
  go_cut [44] from 35 to 43 (fun s44 wc => ∃ q, s44 = .bool q ∧ q = (!num2 semi toh top) ∧ Below (w.alloc (.cells #[.slice aw ws.length cw, .int .i64 semi, .int .i64 toh, .int .i64 top, .bool cyc, .int .i64 scan, .int .i64 old, .int .i64 copied, .int .i64 serial, .slice ar rs.length cr] 30)).heap.size (w.alloc (.cells #[.slice aw ws.length cw, .int .i64 semi, .int .i64 toh, .int .i64 top, .bool cyc, .int .i64 scan, .int .i64 old, .int .i64 copied, .int .i64 serial, .slice ar rs.length cr] 30)) wc)
  case first =>
    go_region_held (fun w' => w'.cell? ⟨w.heap.size, 0, none⟩ = some (.slice aw ws.length cw) ∧ w'.cell? ⟨w.heap.size, 1, none⟩ = some (.int .i64 semi) ∧ w'.cell? ⟨w.heap.size, 2, none⟩ = some (.int .i64 toh) ∧ w'.cell? ⟨w.heap.size, 3, none⟩ = some (.int .i64 top) ∧ w'.cell? ⟨w.heap.size, 4, none⟩ = some (.bool cyc) ∧ w'.cell? ⟨w.heap.size, 5, none⟩ = some (.int .i64 scan) ∧ w'.cell? ⟨w.heap.size, 6, none⟩ = some (.int .i64 old) ∧ w'.cell? ⟨w.heap.size, 7, none⟩ = some (.int .i64 copied) ∧ w'.cell? ⟨w.heap.size, 8, none⟩ = some (.int .i64 serial) ∧ w'.cell? ⟨w.heap.size, 9, none⟩ = some (.slice ar rs.length cr)) (go_keep) (first | (go_at_call 57; refine (l2Start_any _ _ _ _ _ _ _ _ _ _ _ _ _ _ _ _ t0 t1 s0 s1).mono ?_; rintro e w' ⟨rfl, hb⟩; have hB := below_next (w := (w.alloc (.cells #[.slice aw ws.length cw, .int .i64 semi, .int .i64 toh, .int .i64 top, .bool cyc, .int .i64 scan, .int .i64 old, .int .i64 copied, .int .i64 serial, .slice ar rs.length cr] 30))) (by first | exact Below.refl _ _ | exact (Below.refl _ _).drew | assumption) hb; obtain ⟨hc, hf⟩ := bcell hB) | (go_at_call 124; refine (l2End_any _ _ _ _ _ _ _ _ _ _ _ _ _ _ _ t0 t1 s0 s1).mono ?_; rintro e w' ⟨rfl, hb⟩; have hB := below_next (w := (w.alloc (.cells #[.slice aw ws.length cw, .int .i64 semi, .int .i64 toh, .int .i64 top, .bool cyc, .int .i64 scan, .int .i64 old, .int .i64 copied, .int .i64 serial, .slice ar rs.length cr] 30))) (by first | exact Below.refl _ _ | exact (Below.refl _ _).drew | assumption) hb; obtain ⟨hc, hf⟩ := bcell hB) | (go_at_call 104; refine (l1In_any _ _ _ _).mono ?_; rintro e w' ⟨rfl, rfl⟩))
    all_goals (go_wp2_with fail; go_meet; exact ⟨_, rfl, rfl, hB⟩)
  case rest =>
  obtain ⟨q, rfl, hq, B1⟩ := hcut
  obtain rfl : q = true := by rw [hq, h2]; rfl
  clear hq
  obtain ⟨c1, f1'⟩ := bcell B1
  have z1 := size_first B1
  go_wp2
  go_ret
  exact ⟨rfl, below_first B1⟩

set_option maxHeartbeats 2000000 in
theorem numbers_c (aw : Option Addr) (cw : Nat) (ws : List Int) (semi toh top : Int) (scan old copied serial : Int) (ar : Option Addr) (cr : Nat) (rs : List (Int × Int)) (w : World) (hn' : (ws.length : Int) ≤ 1048576) (hn2' : (rs.length : Int) ≤ 1048576) (s0 : 256 ≤ semi) (s1 : semi ≤ 4000) (t0 : 0 ≤ toh) (t1 : toh ≤ 1) (f1 : inB semi 256 4000 = true) (f2 : inB toh 0 1 = true) (f3 : inB serial 1 1000000000 = true) (hr1 : ¬ (24 : Int) < (rs.length : Int)) (hl' : 2 * semi = (ws.length : Int)) (h2 : num2 semi toh top = true) :
    Calls Tryz.prog 90 #[.agg #[.slice aw ws.length cw, .int .i64 semi, .int .i64 toh, .int .i64 top, .bool false, .int .i64 scan, .int .i64 old, .int .i64 copied, .int .i64 serial, .slice ar rs.length cr]] w fun e w' => e = .returned (.bool (num4 scan old copied)) ∧ Below w.heap.size w w' := by
  go_enter Tryz.func90, Tryz.ntmps90
  go_upto_region 3 with (go_at_call 104; refine (l1In_any _ _ _ _).mono ?_; rintro e w' ⟨rfl, rfl⟩)
  go_cut [44] from 35 to 43 (fun s44 wc => ∃ q, s44 = .bool q ∧ q = (!num2 semi toh top) ∧ Below (w.alloc (.cells #[.slice aw ws.length cw, .int .i64 semi, .int .i64 toh, .int .i64 top, .bool false, .int .i64 scan, .int .i64 old, .int .i64 copied, .int .i64 serial, .slice ar rs.length cr] 30)).heap.size (w.alloc (.cells #[.slice aw ws.length cw, .int .i64 semi, .int .i64 toh, .int .i64 top, .bool false, .int .i64 scan, .int .i64 old, .int .i64 copied, .int .i64 serial, .slice ar rs.length cr] 30)) wc)
  case first =>
    go_region_held (fun w' => w'.cell? ⟨w.heap.size, 0, none⟩ = some (.slice aw ws.length cw) ∧ w'.cell? ⟨w.heap.size, 1, none⟩ = some (.int .i64 semi) ∧ w'.cell? ⟨w.heap.size, 2, none⟩ = some (.int .i64 toh) ∧ w'.cell? ⟨w.heap.size, 3, none⟩ = some (.int .i64 top) ∧ w'.cell? ⟨w.heap.size, 4, none⟩ = some (.bool false) ∧ w'.cell? ⟨w.heap.size, 5, none⟩ = some (.int .i64 scan) ∧ w'.cell? ⟨w.heap.size, 6, none⟩ = some (.int .i64 old) ∧ w'.cell? ⟨w.heap.size, 7, none⟩ = some (.int .i64 copied) ∧ w'.cell? ⟨w.heap.size, 8, none⟩ = some (.int .i64 serial) ∧ w'.cell? ⟨w.heap.size, 9, none⟩ = some (.slice ar rs.length cr)) (go_keep) (first | (go_at_call 57; refine (l2Start_any _ _ _ _ _ _ _ _ _ _ _ _ _ _ _ _ t0 t1 s0 s1).mono ?_; rintro e w' ⟨rfl, hb⟩; have hB := below_next (w := (w.alloc (.cells #[.slice aw ws.length cw, .int .i64 semi, .int .i64 toh, .int .i64 top, .bool false, .int .i64 scan, .int .i64 old, .int .i64 copied, .int .i64 serial, .slice ar rs.length cr] 30))) (by first | exact Below.refl _ _ | exact (Below.refl _ _).drew | assumption) hb; obtain ⟨hc, hf⟩ := bcell hB) | (go_at_call 124; refine (l2End_any _ _ _ _ _ _ _ _ _ _ _ _ _ _ _ t0 t1 s0 s1).mono ?_; rintro e w' ⟨rfl, hb⟩; have hB := below_next (w := (w.alloc (.cells #[.slice aw ws.length cw, .int .i64 semi, .int .i64 toh, .int .i64 top, .bool false, .int .i64 scan, .int .i64 old, .int .i64 copied, .int .i64 serial, .slice ar rs.length cr] 30))) (by first | exact Below.refl _ _ | exact (Below.refl _ _).drew | assumption) hb; obtain ⟨hc, hf⟩ := bcell hB) | (go_at_call 104; refine (l1In_any _ _ _ _).mono ?_; rintro e w' ⟨rfl, rfl⟩))
    all_goals (go_wp2_with fail; go_meet; exact ⟨_, rfl, rfl, hB⟩)
  case rest =>
  obtain ⟨q, rfl, hq, B1⟩ := hcut
  obtain rfl : q = false := by rw [hq, h2]; rfl
  clear hq
  obtain ⟨c1, f1'⟩ := bcell B1
  have z1 := size_first B1
  go_wp2
  all_goals
    go_ret
    refine ⟨ret_bool ?_, below_first B1⟩
    go_light
    clear c1 f1' B1
    rw [Bool.eq_iff_iff]
    simp [num4] at *
    try omega

set_option maxHeartbeats 2000000 in
theorem numbers_d (aw : Option Addr) (cw : Nat) (ws : List Int) (semi toh top : Int) (scan old copied serial : Int) (ar : Option Addr) (cr : Nat) (rs : List (Int × Int)) (w : World) (hn' : (ws.length : Int) ≤ 1048576) (hn2' : (rs.length : Int) ≤ 1048576) (s0 : 256 ≤ semi) (s1 : semi ≤ 4000) (t0 : 0 ≤ toh) (t1 : toh ≤ 1) (f1 : inB semi 256 4000 = true) (f2 : inB toh 0 1 = true) (f3 : inB serial 1 1000000000 = true) (hr1 : ¬ (24 : Int) < (rs.length : Int)) (hl' : 2 * semi = (ws.length : Int)) (m1 : (toh + 1) * semi ≤ 8000) (m2 : 0 ≤ toh * semi) (p0 : 1 ≤ top) (p1 : top ≤ 8000) (m3 : 0 ≤ (1 - toh) * semi) (m4 : (1 - toh) * semi ≤ 4000) (m5 : 0 ≤ (2 - toh) * semi) (m6 : (2 - toh) * semi ≤ 8000) (u0 : 0 ≤ 1 - toh) (u1 : 1 - toh ≤ 1) (h2 : num2 semi toh top = true) (h3 : inB old ((1 - toh) * semi + 1) ((2 - toh) * semi) = false) :
    Calls Tryz.prog 90 #[.agg #[.slice aw ws.length cw, .int .i64 semi, .int .i64 toh, .int .i64 top, .bool true, .int .i64 scan, .int .i64 old, .int .i64 copied, .int .i64 serial, .slice ar rs.length cr]] w fun e w' => e = .returned (.bool false) ∧ Below w.heap.size w w' := by
  go_enter Tryz.func90, Tryz.ntmps90
  go_upto_region 3 with (go_at_call 104; refine (l1In_any _ _ _ _).mono ?_; rintro e w' ⟨rfl, rfl⟩)
  go_cut [44] from 35 to 43 (fun s44 wc => ∃ q, s44 = .bool q ∧ q = (!num2 semi toh top) ∧ Below (w.alloc (.cells #[.slice aw ws.length cw, .int .i64 semi, .int .i64 toh, .int .i64 top, .bool true, .int .i64 scan, .int .i64 old, .int .i64 copied, .int .i64 serial, .slice ar rs.length cr] 30)).heap.size (w.alloc (.cells #[.slice aw ws.length cw, .int .i64 semi, .int .i64 toh, .int .i64 top, .bool true, .int .i64 scan, .int .i64 old, .int .i64 copied, .int .i64 serial, .slice ar rs.length cr] 30)) wc)
  case first =>
    go_region_held (fun w' => w'.cell? ⟨w.heap.size, 0, none⟩ = some (.slice aw ws.length cw) ∧ w'.cell? ⟨w.heap.size, 1, none⟩ = some (.int .i64 semi) ∧ w'.cell? ⟨w.heap.size, 2, none⟩ = some (.int .i64 toh) ∧ w'.cell? ⟨w.heap.size, 3, none⟩ = some (.int .i64 top) ∧ w'.cell? ⟨w.heap.size, 4, none⟩ = some (.bool true) ∧ w'.cell? ⟨w.heap.size, 5, none⟩ = some (.int .i64 scan) ∧ w'.cell? ⟨w.heap.size, 6, none⟩ = some (.int .i64 old) ∧ w'.cell? ⟨w.heap.size, 7, none⟩ = some (.int .i64 copied) ∧ w'.cell? ⟨w.heap.size, 8, none⟩ = some (.int .i64 serial) ∧ w'.cell? ⟨w.heap.size, 9, none⟩ = some (.slice ar rs.length cr)) (go_keep) (first | (go_at_call 57; refine (l2Start_any _ _ _ _ _ _ _ _ _ _ _ _ _ _ _ _ t0 t1 s0 s1).mono ?_; rintro e w' ⟨rfl, hb⟩; have hB := below_next (w := (w.alloc (.cells #[.slice aw ws.length cw, .int .i64 semi, .int .i64 toh, .int .i64 top, .bool true, .int .i64 scan, .int .i64 old, .int .i64 copied, .int .i64 serial, .slice ar rs.length cr] 30))) (by first | exact Below.refl _ _ | exact (Below.refl _ _).drew | assumption) hb; obtain ⟨hc, hf⟩ := bcell hB) | (go_at_call 124; refine (l2End_any _ _ _ _ _ _ _ _ _ _ _ _ _ _ _ t0 t1 s0 s1).mono ?_; rintro e w' ⟨rfl, hb⟩; have hB := below_next (w := (w.alloc (.cells #[.slice aw ws.length cw, .int .i64 semi, .int .i64 toh, .int .i64 top, .bool true, .int .i64 scan, .int .i64 old, .int .i64 copied, .int .i64 serial, .slice ar rs.length cr] 30))) (by first | exact Below.refl _ _ | exact (Below.refl _ _).drew | assumption) hb; obtain ⟨hc, hf⟩ := bcell hB) | (go_at_call 104; refine (l1In_any _ _ _ _).mono ?_; rintro e w' ⟨rfl, rfl⟩))
    all_goals (go_wp2_with fail; go_meet; exact ⟨_, rfl, rfl, hB⟩)
  case rest =>
  obtain ⟨q, rfl, hq, B1⟩ := hcut
  obtain rfl : q = false := by rw [hq, h2]; rfl
  clear hq
  obtain ⟨c1, f1'⟩ := bcell B1
  have z1 := size_first B1
  go_wp2_with fail
  refine (l2Start_any _ _ _ _ _ _ _ _ _ _ _ _ _ _ _ _ u0 u1 s0 s1).mono ?_
  rintro e w2 ⟨rfl, b2⟩
  have B2 := below_next B1 b2
  obtain ⟨c2, f2'⟩ := bcell B2
  have z2 := Nat.lt_of_lt_of_le z1 b2.size
  go_wp2_with (go_at_call 104; refine (l1In_any _ _ _ _).mono ?_; rintro e w' ⟨rfl, rfl⟩)
  go_ret
  exact ⟨rfl, below_first B2⟩

set_option maxHeartbeats 2000000 in
theorem numbers_e (aw : Option Addr) (cw : Nat) (ws : List Int) (semi toh top : Int) (scan old copied serial : Int) (ar : Option Addr) (cr : Nat) (rs : List (Int × Int)) (w : World) (hn' : (ws.length : Int) ≤ 1048576) (hn2' : (rs.length : Int) ≤ 1048576) (s0 : 256 ≤ semi) (s1 : semi ≤ 4000) (t0 : 0 ≤ toh) (t1 : toh ≤ 1) (f1 : inB semi 256 4000 = true) (f2 : inB toh 0 1 = true) (f3 : inB serial 1 1000000000 = true) (hr1 : ¬ (24 : Int) < (rs.length : Int)) (hl' : 2 * semi = (ws.length : Int)) (m1 : (toh + 1) * semi ≤ 8000) (m2 : 0 ≤ toh * semi) (p0 : 1 ≤ top) (p1 : top ≤ 8000) (m3 : 0 ≤ (1 - toh) * semi) (m4 : (1 - toh) * semi ≤ 4000) (m5 : 0 ≤ (2 - toh) * semi) (m6 : (2 - toh) * semi ≤ 8000) (u0 : 0 ≤ 1 - toh) (u1 : 1 - toh ≤ 1) (h2 : num2 semi toh top = true) (h3 : inB old ((1 - toh) * semi + 1) ((2 - toh) * semi) = true) (o2 : 0 ≤ old) (o3 : old ≤ 8000) (h4 : inB copied 0 (old - ((1 - toh) * semi + 1)) = false) :
    Calls Tryz.prog 90 #[.agg #[.slice aw ws.length cw, .int .i64 semi, .int .i64 toh, .int .i64 top, .bool true, .int .i64 scan, .int .i64 old, .int .i64 copied, .int .i64 serial, .slice ar rs.length cr]] w fun e w' => e = .returned (.bool false) ∧ Below w.heap.size w w' := by
  go_enter Tryz.func90, Tryz.ntmps90
  go_upto_region 3 with (go_at_call 104; refine (l1In_any _ _ _ _).mono ?_; rintro e w' ⟨rfl, rfl⟩)
  go_cut [44] from 35 to 43 (fun s44 wc => ∃ q, s44 = .bool q ∧ q = (!num2 semi toh top) ∧ Below (w.alloc (.cells #[.slice aw ws.length cw, .int .i64 semi, .int .i64 toh, .int .i64 top, .bool true, .int .i64 scan, .int .i64 old, .int .i64 copied, .int .i64 serial, .slice ar rs.length cr] 30)).heap.size (w.alloc (.cells #[.slice aw ws.length cw, .int .i64 semi, .int .i64 toh, .int .i64 top, .bool true, .int .i64 scan, .int .i64 old, .int .i64 copied, .int .i64 serial, .slice ar rs.length cr] 30)) wc)
  case first =>
    go_region_held (fun w' => w'.cell? ⟨w.heap.size, 0, none⟩ = some (.slice aw ws.length cw) ∧ w'.cell? ⟨w.heap.size, 1, none⟩ = some (.int .i64 semi) ∧ w'.cell? ⟨w.heap.size, 2, none⟩ = some (.int .i64 toh) ∧ w'.cell? ⟨w.heap.size, 3, none⟩ = some (.int .i64 top) ∧ w'.cell? ⟨w.heap.size, 4, none⟩ = some (.bool true) ∧ w'.cell? ⟨w.heap.size, 5, none⟩ = some (.int .i64 scan) ∧ w'.cell? ⟨w.heap.size, 6, none⟩ = some (.int .i64 old) ∧ w'.cell? ⟨w.heap.size, 7, none⟩ = some (.int .i64 copied) ∧ w'.cell? ⟨w.heap.size, 8, none⟩ = some (.int .i64 serial) ∧ w'.cell? ⟨w.heap.size, 9, none⟩ = some (.slice ar rs.length cr)) (go_keep) (first | (go_at_call 57; refine (l2Start_any _ _ _ _ _ _ _ _ _ _ _ _ _ _ _ _ t0 t1 s0 s1).mono ?_; rintro e w' ⟨rfl, hb⟩; have hB := below_next (w := (w.alloc (.cells #[.slice aw ws.length cw, .int .i64 semi, .int .i64 toh, .int .i64 top, .bool true, .int .i64 scan, .int .i64 old, .int .i64 copied, .int .i64 serial, .slice ar rs.length cr] 30))) (by first | exact Below.refl _ _ | exact (Below.refl _ _).drew | assumption) hb; obtain ⟨hc, hf⟩ := bcell hB) | (go_at_call 124; refine (l2End_any _ _ _ _ _ _ _ _ _ _ _ _ _ _ _ t0 t1 s0 s1).mono ?_; rintro e w' ⟨rfl, hb⟩; have hB := below_next (w := (w.alloc (.cells #[.slice aw ws.length cw, .int .i64 semi, .int .i64 toh, .int .i64 top, .bool true, .int .i64 scan, .int .i64 old, .int .i64 copied, .int .i64 serial, .slice ar rs.length cr] 30))) (by first | exact Below.refl _ _ | exact (Below.refl _ _).drew | assumption) hb; obtain ⟨hc, hf⟩ := bcell hB) | (go_at_call 104; refine (l1In_any _ _ _ _).mono ?_; rintro e w' ⟨rfl, rfl⟩))
    all_goals (go_wp2_with fail; go_meet; exact ⟨_, rfl, rfl, hB⟩)
  case rest =>
  obtain ⟨q, rfl, hq, B1⟩ := hcut
  obtain rfl : q = false := by rw [hq, h2]; rfl
  clear hq
  obtain ⟨c1, f1'⟩ := bcell B1
  have z1 := size_first B1
  go_wp2_with fail
  refine (l2Start_any _ _ _ _ _ _ _ _ _ _ _ _ _ _ _ _ u0 u1 s0 s1).mono ?_
  rintro e w2 ⟨rfl, b2⟩
  have B2 := below_next B1 b2
  obtain ⟨c2, f2'⟩ := bcell B2
  have z2 := Nat.lt_of_lt_of_le z1 b2.size
  go_wp2_with (go_at_call 104; refine (l1In_any _ _ _ _).mono ?_; rintro e w' ⟨rfl, rfl⟩)
  go_ret
  exact ⟨rfl, below_first B2⟩
end Go.Proofs.YtmckcnmlhgpnhaaGreat

/- l2Numbers: its last way, and all ways together. -/
namespace Go.Proofs.YtmckcnmlhgpnhaaGreat
set_option maxRecDepth 20000
open Go.RowKit
set_option linter.unusedSimpArgs false
set_option linter.unusedVariables false

theorem numf_wrap {top old F copied E : Int} (p0 : 1 ≤ top) (p1 : top ≤ 8000) (o2 : 0 ≤ old) (o3 : old ≤ 8000) (F0 : 1 ≤ F) (F1 : F ≤ 4001) (y0 : 0 ≤ copied) (y2 : copied ≤ 8000) :
    decide (IntKind.i64.wrap (IntKind.i64.wrap (IntKind.i64.wrap (top + old) - F) - copied) ≤ E) = decide (top + old - F - copied ≤ E) := by
  have a1 : IntKind.i64.wrap (top + old) = top + old := by rw [IntKind.wrap_i64]; omega
  have a2 : IntKind.i64.wrap (top + old - F) = top + old - F := by rw [IntKind.wrap_i64]; omega
  have a3 : IntKind.i64.wrap (top + old - F - copied) = top + old - F - copied := by rw [IntKind.wrap_i64]; omega
  rw [a1, a2, a3]
set_option maxHeartbeats 2000000 in
theorem numbers_f (aw : Option Addr) (cw : Nat) (ws : List Int) (semi toh top : Int) (scan old copied serial : Int) (ar : Option Addr) (cr : Nat) (rs : List (Int × Int)) (w : World) (hn' : (ws.length : Int) ≤ 1048576) (hn2' : (rs.length : Int) ≤ 1048576) (s0 : 256 ≤ semi) (s1 : semi ≤ 4000) (t0 : 0 ≤ toh) (t1 : toh ≤ 1) (f1 : inB semi 256 4000 = true) (f2 : inB toh 0 1 = true) (f3 : inB serial 1 1000000000 = true) (hr1 : ¬ (24 : Int) < (rs.length : Int)) (hl' : 2 * semi = (ws.length : Int)) (S E F G : Int) (hS : Hid (toh * semi + 1 = S)) (hE : Hid ((toh + 1) * semi = E)) (hF : Hid ((1 - toh) * semi + 1 = F)) (hG : (2 - toh) * semi = G) (E0 : 0 ≤ E) (E1 : E ≤ 8000) (F0 : 1 ≤ F) (F1 : F ≤ 4001) (p0 : 1 ≤ top) (p1 : top ≤ 8000) (G0 : 0 ≤ G) (G1 : G ≤ 8000) (u0 : 0 ≤ 1 - toh) (u1 : 1 - toh ≤ 1) (h2 : inB top S E = true) (h3 : inB old F G = true) (o2 : 0 ≤ old) (o3 : old ≤ 8000) (h4 : inB copied 0 (old - F) = true) (y0 : 0 ≤ copied) (y2 : copied ≤ 8000) :
    Calls Tryz.prog 90 #[.agg #[.slice aw ws.length cw, .int .i64 semi, .int .i64 toh, .int .i64 top, .bool true, .int .i64 scan, .int .i64 old, .int .i64 copied, .int .i64 serial, .slice ar rs.length cr]] w fun e w' => e = .returned (.bool (decide (top + old - F - copied ≤ E))) ∧ Below w.heap.size w w' := by
  go_enter Tryz.func90, Tryz.ntmps90
  go_upto_region 3 with (go_at_call 104; refine (l1In_any _ _ _ _).mono ?_; rintro e w' ⟨rfl, rfl⟩)
  go_cut [44] from 35 to 43 (fun s44 wc => ∃ q, s44 = .bool q ∧ q = (!inB top S E) ∧ Below (w.alloc (.cells #[.slice aw ws.length cw, .int .i64 semi, .int .i64 toh, .int .i64 top, .bool true, .int .i64 scan, .int .i64 old, .int .i64 copied, .int .i64 serial, .slice ar rs.length cr] 30)).heap.size (w.alloc (.cells #[.slice aw ws.length cw, .int .i64 semi, .int .i64 toh, .int .i64 top, .bool true, .int .i64 scan, .int .i64 old, .int .i64 copied, .int .i64 serial, .slice ar rs.length cr] 30)) wc)
  case first =>
    go_region_held (fun w' => w'.cell? ⟨w.heap.size, 0, none⟩ = some (.slice aw ws.length cw) ∧ w'.cell? ⟨w.heap.size, 1, none⟩ = some (.int .i64 semi) ∧ w'.cell? ⟨w.heap.size, 2, none⟩ = some (.int .i64 toh) ∧ w'.cell? ⟨w.heap.size, 3, none⟩ = some (.int .i64 top) ∧ w'.cell? ⟨w.heap.size, 4, none⟩ = some (.bool true) ∧ w'.cell? ⟨w.heap.size, 5, none⟩ = some (.int .i64 scan) ∧ w'.cell? ⟨w.heap.size, 6, none⟩ = some (.int .i64 old) ∧ w'.cell? ⟨w.heap.size, 7, none⟩ = some (.int .i64 copied) ∧ w'.cell? ⟨w.heap.size, 8, none⟩ = some (.int .i64 serial) ∧ w'.cell? ⟨w.heap.size, 9, none⟩ = some (.slice ar rs.length cr)) (go_keep) (first | (go_at_call 57; refine (l2Start_is _ _ _ _ _ _ _ _ _ _ _ _ _ _ _ _ _ t0 t1 s0 s1 hS.out).mono ?_; rintro e w' ⟨rfl, hb⟩; have hB := below_next (w := (w.alloc (.cells #[.slice aw ws.length cw, .int .i64 semi, .int .i64 toh, .int .i64 top, .bool true, .int .i64 scan, .int .i64 old, .int .i64 copied, .int .i64 serial, .slice ar rs.length cr] 30))) (by first | exact Below.refl _ _ | exact (Below.refl _ _).drew | assumption) hb; obtain ⟨hc, hf⟩ := bcell hB) | (go_at_call 124; refine (l2End_is _ _ _ _ _ _ _ _ _ _ _ _ _ _ _ _ t0 t1 s0 s1 hE.out).mono ?_; rintro e w' ⟨rfl, hb⟩; have hB := below_next (w := (w.alloc (.cells #[.slice aw ws.length cw, .int .i64 semi, .int .i64 toh, .int .i64 top, .bool true, .int .i64 scan, .int .i64 old, .int .i64 copied, .int .i64 serial, .slice ar rs.length cr] 30))) (by first | exact Below.refl _ _ | exact (Below.refl _ _).drew | assumption) hb; obtain ⟨hc, hf⟩ := bcell hB) | (go_at_call 104; refine (l1In_any _ _ _ _).mono ?_; rintro e w' ⟨rfl, rfl⟩))
    all_goals (go_wp2_with fail; go_meet; exact ⟨_, rfl, by simp [h2], hB⟩)
  case rest =>
  obtain ⟨q, rfl, hq, B1⟩ := hcut
  obtain rfl : q = false := by rw [hq, h2]; rfl
  clear hq
  obtain ⟨c1, f1'⟩ := bcell B1
  have z1 := size_first B1
  go_wp2_with fail
  refine (l2Start_is _ _ _ _ _ _ _ _ _ _ _ _ _ _ _ _ _ u0 u1 s0 s1 hF.out).mono ?_
  rintro e w2 ⟨rfl, b2⟩
  have B2 := below_next B1 b2
  obtain ⟨c2, f2'⟩ := bcell B2
  have z2 := Nat.lt_of_lt_of_le z1 b2.size
  obtain ⟨r0, r1, r2, r3, r4, r5, r6, r7, r8, r9⟩ := box_cells B2
  clear c1 f1' c2 f2' z1 z2
  go_upto_region 10 with (go_at_call 104; refine (l1In_any _ _ _ _).mono ?_; rintro e w' ⟨rfl, rfl⟩)
  clear G0 G1 h3 h4 h2 hr1 hl' hn' hn2' f1 f2 f3 u0 u1 hG hF hS
  go_region_held3 (fun w' => Below (w.alloc (.cells #[.slice aw ws.length cw, .int .i64 semi, .int .i64 toh, .int .i64 top, .bool true, .int .i64 scan, .int .i64 old, .int .i64 copied, .int .i64 serial, .slice ar rs.length cr] 30)).heap.size (w.alloc (.cells #[.slice aw ws.length cw, .int .i64 semi, .int .i64 toh, .int .i64 top, .bool true, .int .i64 scan, .int .i64 old, .int .i64 copied, .int .i64 serial, .slice ar rs.length cr] 30)) w' ∧ w'.cell? ⟨w.heap.size, 0, none⟩ = some (.slice aw ws.length cw) ∧ w'.cell? ⟨w.heap.size, 1, none⟩ = some (.int .i64 semi) ∧ w'.cell? ⟨w.heap.size, 2, none⟩ = some (.int .i64 toh) ∧ w'.cell? ⟨w.heap.size, 3, none⟩ = some (.int .i64 top) ∧ w'.cell? ⟨w.heap.size, 4, none⟩ = some (.bool true) ∧ w'.cell? ⟨w.heap.size, 5, none⟩ = some (.int .i64 scan) ∧ w'.cell? ⟨w.heap.size, 6, none⟩ = some (.int .i64 old) ∧ w'.cell? ⟨w.heap.size, 7, none⟩ = some (.int .i64 copied) ∧ w'.cell? ⟨w.heap.size, 8, none⟩ = some (.int .i64 serial) ∧ w'.cell? ⟨w.heap.size, 9, none⟩ = some (.slice ar rs.length cr)) (first | exact ⟨hB, box_cells hB⟩ | (refine ⟨B2.drew, ?_⟩; go_keep) | go_keep) (first | (go_at_call 124; refine (l2End_is _ _ _ _ _ _ _ _ _ _ _ _ _ _ _ _ t0 t1 s0 s1 hE.out).mono ?_; rintro e w' ⟨rfl, hb⟩; have hB := below_next (w := (w.alloc (.cells #[.slice aw ws.length cw, .int .i64 semi, .int .i64 toh, .int .i64 top, .bool true, .int .i64 scan, .int .i64 old, .int .i64 copied, .int .i64 serial, .slice ar rs.length cr] 30))) (Below.drew (by assumption)) hb))
  all_goals
    go_wp2
    go_ret
    exact ⟨ret_bool (numf_wrap p0 p1 o2 o3 F0 F1 y0 y2), below_first hB⟩

set_option maxHeartbeats 2000000 in
theorem l2Numbers_any (aw : Option Addr) (cw : Nat) (ws : List Int) (semi toh top : Int) (cyc : Bool) (scan old copied serial : Int) (ar : Option Addr) (cr : Nat) (rs : List (Int × Int)) (w : World) (hn : ws.length ≤ 1048576) (hn2 : rs.length ≤ 1048576) :
    Calls Tryz.prog 90 #[.agg #[.slice aw ws.length cw, .int .i64 semi, .int .i64 toh, .int .i64 top, .bool cyc, .int .i64 scan, .int .i64 old, .int .i64 copied, .int .i64 serial, .slice ar rs.length cr]] w fun e w' => e = .returned (.bool (numOk ws.length semi toh top cyc scan old copied serial rs.length)) ∧ Below w.heap.size w w' := by
  have hn' : (ws.length : Int) ≤ 1048576 := by omega
  have hn2' : (rs.length : Int) ≤ 1048576 := by omega
  by_cases h1 : num1 ws.length semi toh serial rs.length = true
  · have h1' := h1
    simp only [num1, decide_eq_true_eq] at h1'
    obtain ⟨s0, s1, hl, t0, t1, e0, e1, hr0⟩ := h1'
    have f1 : inB semi 256 4000 = true := decide_eq_true ⟨s0, s1⟩
    have f2 : inB toh 0 1 = true := decide_eq_true ⟨t0, t1⟩
    have f3 : inB serial 1 1000000000 = true := decide_eq_true ⟨e0, e1⟩
    have hr1 : ¬ (24 : Int) < (rs.length : Int) := by omega
    by_cases h2 : num2 semi toh top = true
    · have h2' := h2
      simp only [num2, inB, decide_eq_true_eq] at h2'
      have ht : toh = 0 ∨ toh = 1 := by omega
      have m1 : (toh + 1) * semi ≤ 8000 := by rcases ht with rfl | rfl <;> omega
      have m2 : 0 ≤ toh * semi := Int.mul_nonneg t0 (by omega)
      have m3 : 0 ≤ (1 - toh) * semi := Int.mul_nonneg (by omega) (by omega)
      have m4 : (1 - toh) * semi ≤ 4000 := by rcases ht with rfl | rfl <;> omega
      have m5 : 0 ≤ (2 - toh) * semi := Int.mul_nonneg (by omega) (by omega)
      have m6 : (2 - toh) * semi ≤ 8000 := by rcases ht with rfl | rfl <;> omega
      cases cyc with
      | false =>
        have := numbers_c aw cw ws semi toh top scan old copied serial ar cr rs w hn' hn2' s0 s1 t0 t1 f1 f2 f3 hr1 hl.symm h2
        simpa [numOk, h1, h2] using this
      | true =>
        have hno : numOk ws.length semi toh top true scan old copied serial rs.length = num3 semi toh top old copied := by simp [numOk, h1, h2]
        rw [hno]
        by_cases h3 : inB old ((1 - toh) * semi + 1) ((2 - toh) * semi) = true
        · have h3' := h3
          simp only [inB, decide_eq_true_eq] at h3'
          by_cases h4 : inB copied 0 (old - ((1 - toh) * semi + 1)) = true
          · have h4' := h4
            simp only [inB, decide_eq_true_eq] at h4'
            rw [num3_yes h3 h4]
            exact numbers_f aw cw ws semi toh top scan old copied serial ar cr rs w hn' hn2' s0 s1 t0 t1 f1 f2 f3 hr1 hl.symm _ _ _ _ rfl rfl rfl rfl (by omega) m1 (by omega) (by omega) (by omega) (by omega) m5 m6 (by omega) (by omega) h2 h3 (by omega) (by omega) h4 (by omega) (by omega)
          · rw [Bool.not_eq_true] at h4
            rw [num3_no4 h4]
            exact numbers_e aw cw ws semi toh top scan old copied serial ar cr rs w hn' hn2' s0 s1 t0 t1 f1 f2 f3 hr1 hl.symm m1 m2 (by omega) (by omega) m3 m4 m5 m6 (by omega) (by omega) h2 h3 (by omega) (by omega) h4
        · rw [Bool.not_eq_true] at h3
          rw [num3_no3 h3]
          exact numbers_d aw cw ws semi toh top scan old copied serial ar cr rs w hn' hn2' s0 s1 t0 t1 f1 f2 f3 hr1 hl.symm m1 m2 (by omega) (by omega) m3 m4 m5 m6 (by omega) (by omega) h2 h3
    · rw [Bool.not_eq_true] at h2
      have hno : numOk ws.length semi toh top cyc scan old copied serial rs.length = false := by simp [numOk, h2]
      rw [hno]
      exact numbers_b aw cw ws semi toh top cyc scan old copied serial ar cr rs w hn' hn2' s0 s1 t0 t1 f1 f2 f3 hr1 hl.symm h2
  · rw [Bool.not_eq_true] at h1
    have hno : numOk ws.length semi toh top cyc scan old copied serial rs.length = false := by simp [numOk, h1]
    simp only [num1, decide_eq_false_iff_not] at h1
    go_enter Tryz.func90, Tryz.ntmps90
    go_upto_region 3 with (go_at_call 104; refine (l1In_any _ _ _ _).mono ?_; rintro e w' ⟨rfl, rfl⟩)
    all_goals first
      | (go_ret; exact ⟨ret_bool hno.symm, (Below.refl _ _).alloc (Nat.le_refl _) _⟩)
      | (exfalso; apply h1; go_light; simp only [inB, decide_eq_true_eq] at *; unfold wrap64 at *; omega)
end Go.Proofs.YtmckcnmlhgpnhaaGreat
