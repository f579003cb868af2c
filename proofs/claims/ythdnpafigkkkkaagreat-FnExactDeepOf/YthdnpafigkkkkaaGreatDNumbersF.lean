/- - -/
import Derived.Test.YthdnpafigkkkkaaGreatDArenaA
import Derived.Deep.CutRange
import Derived.Deep.RegionWith
import Derived.Deep.RegionHeld
import Derived.Deep.RegionHeld3
namespace Go.Proofs.YthdnpafigkkkkaaGreat
set_option maxRecDepth 20000
open Go.RowKit
set_option linter.unusedSimpArgs false
set_option linter.unusedVariables false
def zej (wl : Nat) (sm toh sr : Int) (rl : Nat) : Bool := decide (256 <= sm /\ sm <= 4000 /\ (wl : Int) = 2 * sm /\ 0 <= toh /\ toh <= 1 /\ 1 <= sr /\ sr <= 1000000000 /\ rl <= 24)
def zdi (sm toh top : Int) : Bool := inB top (toh * sm + 1) ((toh + 1) * sm)
def zb7 (sm toh : Int) : Int := (1 - toh) * sm + 1
def zew (sm toh top old cp : Int) : Bool := decide (zb7 sm toh <= old /\ old <= (2 - toh) * sm /\ 0 <= cp /\ cp <= old - zb7 sm toh /\ top + old - zb7 sm toh - cp <= (toh + 1) * sm)
def zfs (sn old cp : Int) : Bool := decide (sn = 0 /\ old = 0 /\ cp = 0)
def zcm (wl : Nat) (sm toh top : Int) (cyc : Bool) (sn old cp sr : Int) (rl : Nat) : Bool :=
 zej wl sm toh sr rl && zdi sm toh top && (if cyc = true then zew sm toh top old cp else zfs sn old cp)
theorem zs2 {sm toh top old cp : Int} (h3 : inB old ((1 - toh) * sm + 1) ((2 - toh) * sm) = true) (h4 : inB cp 0 (old - ((1 - toh) * sm + 1)) = true) :
 zew sm toh top old cp = decide (top + old - ((1 - toh) * sm + 1) - cp <= (toh + 1) * sm) := by
 simp only [inB, decide_eq_true_eq] at h3 h4
 unfold zew zb7
 simp only [h3.1, h3.2, h4.1, h4.2, true_and]
theorem zs3 {sm toh top old cp : Int} (h3 : inB old ((1 - toh) * sm + 1) ((2 - toh) * sm) = false) : zew sm toh top old cp = false := by
 simp only [inB, decide_eq_false_iff_not] at h3
 unfold zew zb7
 exact decide_eq_false fun h => h3 ⟨h.1, h.2.1⟩
theorem zs4 {sm toh top old cp : Int} (h4 : inB cp 0 (old - ((1 - toh) * sm + 1)) = false) : zew sm toh top old cp = false := by
 simp only [inB, decide_eq_false_iff_not] at h4
 unfold zew zb7
 exact decide_eq_false fun h => h4 ⟨h.2.2.1, h.2.2.2.1⟩
set_option maxHeartbeats 2000000 in
theorem zrp (aw : Option Addr) (cw : Nat) (ws : List Int) (sm toh top : Int) (cyc : Bool) (sn old cp sr : Int) (ar : Option Addr) (cr : Nat) (rs : List (Int × Int)) (w : World) (hn' : (ws.length : Int) <= 1048576) (hn2' : (rs.length : Int) <= 1048576) (s0 : 256 <= sm) (s1 : sm <= 4000) (t0 : 0 <= toh) (t1 : toh <= 1) (f1 : inB sm 256 4000 = true) (f2 : inB toh 0 1 = true) (f3 : inB sr 1 1000000000 = true) (hr1 : ¬ (24 : Int) < (rs.length : Int)) (hl' : 2 * sm = (ws.length : Int)) (h2 : zdi sm toh top = false) :
 Calls Tryz.prog 45 #[.agg #[.slice aw ws.length cw, .int .i64 sm, .int .i64 toh, .int .i64 top, .bool cyc, .int .i64 sn, .int .i64 old, .int .i64 cp, .int .i64 sr, .slice ar rs.length cr]] w fun e w' => e = .returned (.bool false) /\ Below w.heap.size w w' := by
 go_enter Tryz.func45, Tryz.ntmps45
 go_upto_region 3 with (go_at_call 31; refine (zr _ _ _ _).mono ?_; rintro e w' ⟨rfl, rfl⟩)
 go_cut [44] from 35 to 43 (fun s44 wc => ∃ q, s44 = .bool q /\ q = (!zdi sm toh top) /\ Below (w.alloc (.cells #[.slice aw ws.length cw, .int .i64 sm, .int .i64 toh, .int .i64 top, .bool cyc, .int .i64 sn, .int .i64 old, .int .i64 cp, .int .i64 sr, .slice ar rs.length cr] 41)).heap.size (w.alloc (.cells #[.slice aw ws.length cw, .int .i64 sm, .int .i64 toh, .int .i64 top, .bool cyc, .int .i64 sn, .int .i64 old, .int .i64 cp, .int .i64 sr, .slice ar rs.length cr] 41)) wc)
 case first =>
  go_region_held (fun w' => w'.cell? ⟨w.heap.size, 0, none⟩ = some (.slice aw ws.length cw) /\ w'.cell? ⟨w.heap.size, 1, none⟩ = some (.int .i64 sm) /\ w'.cell? ⟨w.heap.size, 2, none⟩ = some (.int .i64 toh) /\ w'.cell? ⟨w.heap.size, 3, none⟩ = some (.int .i64 top) /\ w'.cell? ⟨w.heap.size, 4, none⟩ = some (.bool cyc) /\ w'.cell? ⟨w.heap.size, 5, none⟩ = some (.int .i64 sn) /\ w'.cell? ⟨w.heap.size, 6, none⟩ = some (.int .i64 old) /\ w'.cell? ⟨w.heap.size, 7, none⟩ = some (.int .i64 cp) /\ w'.cell? ⟨w.heap.size, 8, none⟩ = some (.int .i64 sr) /\ w'.cell? ⟨w.heap.size, 9, none⟩ = some (.slice ar rs.length cr)) (go_keep) (first | (go_at_call 65; refine (zcv _ _ _ _ _ _ _ _ _ _ _ _ _ _ _ _ t0 t1 s0 s1).mono ?_; rintro e w' ⟨rfl, hb⟩; have hB := zb (w := (w.alloc (.cells #[.slice aw ws.length cw, .int .i64 sm, .int .i64 toh, .int .i64 top, .bool cyc, .int .i64 sn, .int .i64 old, .int .i64 cp, .int .i64 sr, .slice ar rs.length cr] 41))) (by first | exact Below.refl _ _ | exact (Below.refl _ _).drew | assumption) hb; obtain ⟨hc, hf⟩ := zp hB) | (go_at_call 66; refine (zet _ _ _ _ _ _ _ _ _ _ _ _ _ _ _ t0 t1 s0 s1).mono ?_; rintro e w' ⟨rfl, hb⟩; have hB := zb (w := (w.alloc (.cells #[.slice aw ws.length cw, .int .i64 sm, .int .i64 toh, .int .i64 top, .bool cyc, .int .i64 sn, .int .i64 old, .int .i64 cp, .int .i64 sr, .slice ar rs.length cr] 41))) (by first | exact Below.refl _ _ | exact (Below.refl _ _).drew | assumption) hb; obtain ⟨hc, hf⟩ := zp hB) | (go_at_call 31; refine (zr _ _ _ _).mono ?_; rintro e w' ⟨rfl, rfl⟩))
  all_goals (go_wp2_with fail; go_meet; exact ⟨_, rfl, rfl, hB⟩)
 case rest =>
 obtain ⟨q, rfl, hq, B1⟩ := hcut
 obtain rfl : q = true := by rw [hq, h2]; rfl
 clear hq
 obtain ⟨c1, f1'⟩ := zp B1
 have z1 := zv B1
 go_wp2
 go_ret
 exact ⟨rfl, zc B1⟩
set_option maxHeartbeats 2000000 in
theorem zrq (aw : Option Addr) (cw : Nat) (ws : List Int) (sm toh top : Int) (sn old cp sr : Int) (ar : Option Addr) (cr : Nat) (rs : List (Int × Int)) (w : World) (hn' : (ws.length : Int) <= 1048576) (hn2' : (rs.length : Int) <= 1048576) (s0 : 256 <= sm) (s1 : sm <= 4000) (t0 : 0 <= toh) (t1 : toh <= 1) (f1 : inB sm 256 4000 = true) (f2 : inB toh 0 1 = true) (f3 : inB sr 1 1000000000 = true) (hr1 : ¬ (24 : Int) < (rs.length : Int)) (hl' : 2 * sm = (ws.length : Int)) (h2 : zdi sm toh top = true) :
 Calls Tryz.prog 45 #[.agg #[.slice aw ws.length cw, .int .i64 sm, .int .i64 toh, .int .i64 top, .bool false, .int .i64 sn, .int .i64 old, .int .i64 cp, .int .i64 sr, .slice ar rs.length cr]] w fun e w' => e = .returned (.bool (zfs sn old cp)) /\ Below w.heap.size w w' := by
 go_enter Tryz.func45, Tryz.ntmps45
 go_upto_region 3 with (go_at_call 31; refine (zr _ _ _ _).mono ?_; rintro e w' ⟨rfl, rfl⟩)
 go_cut [44] from 35 to 43 (fun s44 wc => ∃ q, s44 = .bool q /\ q = (!zdi sm toh top) /\ Below (w.alloc (.cells #[.slice aw ws.length cw, .int .i64 sm, .int .i64 toh, .int .i64 top, .bool false, .int .i64 sn, .int .i64 old, .int .i64 cp, .int .i64 sr, .slice ar rs.length cr] 41)).heap.size (w.alloc (.cells #[.slice aw ws.length cw, .int .i64 sm, .int .i64 toh, .int .i64 top, .bool false, .int .i64 sn, .int .i64 old, .int .i64 cp, .int .i64 sr, .slice ar rs.length cr] 41)) wc)
 case first =>
  go_region_held (fun w' => w'.cell? ⟨w.heap.size, 0, none⟩ = some (.slice aw ws.length cw) /\ w'.cell? ⟨w.heap.size, 1, none⟩ = some (.int .i64 sm) /\ w'.cell? ⟨w.heap.size, 2, none⟩ = some (.int .i64 toh) /\ w'.cell? ⟨w.heap.size, 3, none⟩ = some (.int .i64 top) /\ w'.cell? ⟨w.heap.size, 4, none⟩ = some (.bool false) /\ w'.cell? ⟨w.heap.size, 5, none⟩ = some (.int .i64 sn) /\ w'.cell? ⟨w.heap.size, 6, none⟩ = some (.int .i64 old) /\ w'.cell? ⟨w.heap.size, 7, none⟩ = some (.int .i64 cp) /\ w'.cell? ⟨w.heap.size, 8, none⟩ = some (.int .i64 sr) /\ w'.cell? ⟨w.heap.size, 9, none⟩ = some (.slice ar rs.length cr)) (go_keep) (first | (go_at_call 65; refine (zcv _ _ _ _ _ _ _ _ _ _ _ _ _ _ _ _ t0 t1 s0 s1).mono ?_; rintro e w' ⟨rfl, hb⟩; have hB := zb (w := (w.alloc (.cells #[.slice aw ws.length cw, .int .i64 sm, .int .i64 toh, .int .i64 top, .bool false, .int .i64 sn, .int .i64 old, .int .i64 cp, .int .i64 sr, .slice ar rs.length cr] 41))) (by first | exact Below.refl _ _ | exact (Below.refl _ _).drew | assumption) hb; obtain ⟨hc, hf⟩ := zp hB) | (go_at_call 66; refine (zet _ _ _ _ _ _ _ _ _ _ _ _ _ _ _ t0 t1 s0 s1).mono ?_; rintro e w' ⟨rfl, hb⟩; have hB := zb (w := (w.alloc (.cells #[.slice aw ws.length cw, .int .i64 sm, .int .i64 toh, .int .i64 top, .bool false, .int .i64 sn, .int .i64 old, .int .i64 cp, .int .i64 sr, .slice ar rs.length cr] 41))) (by first | exact Below.refl _ _ | exact (Below.refl _ _).drew | assumption) hb; obtain ⟨hc, hf⟩ := zp hB) | (go_at_call 31; refine (zr _ _ _ _).mono ?_; rintro e w' ⟨rfl, rfl⟩))
  all_goals (go_wp2_with fail; go_meet; exact ⟨_, rfl, rfl, hB⟩)
 case rest =>
 obtain ⟨q, rfl, hq, B1⟩ := hcut
 obtain rfl : q = false := by rw [hq, h2]; rfl
 clear hq
 obtain ⟨c1, f1'⟩ := zp B1
 have z1 := zv B1
 go_wp2
 all_goals
  go_ret
  refine ⟨za8 ?_, zc B1⟩
  go_light
  clear c1 f1' B1
  rw [Bool.eq_iff_iff]
  simp [zfs] at *
  try omega
set_option maxHeartbeats 2000000 in
theorem zrr (aw : Option Addr) (cw : Nat) (ws : List Int) (sm toh top : Int) (sn old cp sr : Int) (ar : Option Addr) (cr : Nat) (rs : List (Int × Int)) (w : World) (hn' : (ws.length : Int) <= 1048576) (hn2' : (rs.length : Int) <= 1048576) (s0 : 256 <= sm) (s1 : sm <= 4000) (t0 : 0 <= toh) (t1 : toh <= 1) (f1 : inB sm 256 4000 = true) (f2 : inB toh 0 1 = true) (f3 : inB sr 1 1000000000 = true) (hr1 : ¬ (24 : Int) < (rs.length : Int)) (hl' : 2 * sm = (ws.length : Int)) (m1 : (toh + 1) * sm <= 8000) (m2 : 0 <= toh * sm) (p0 : 1 <= top) (p1 : top <= 8000) (m3 : 0 <= (1 - toh) * sm) (m4 : (1 - toh) * sm <= 4000) (m5 : 0 <= (2 - toh) * sm) (m6 : (2 - toh) * sm <= 8000) (u0 : 0 <= 1 - toh) (u1 : 1 - toh <= 1) (h2 : zdi sm toh top = true) (h3 : inB old ((1 - toh) * sm + 1) ((2 - toh) * sm) = false) :
 Calls Tryz.prog 45 #[.agg #[.slice aw ws.length cw, .int .i64 sm, .int .i64 toh, .int .i64 top, .bool true, .int .i64 sn, .int .i64 old, .int .i64 cp, .int .i64 sr, .slice ar rs.length cr]] w fun e w' => e = .returned (.bool false) /\ Below w.heap.size w w' := by
 go_enter Tryz.func45, Tryz.ntmps45
 go_upto_region 3 with (go_at_call 31; refine (zr _ _ _ _).mono ?_; rintro e w' ⟨rfl, rfl⟩)
 go_cut [44] from 35 to 43 (fun s44 wc => ∃ q, s44 = .bool q /\ q = (!zdi sm toh top) /\ Below (w.alloc (.cells #[.slice aw ws.length cw, .int .i64 sm, .int .i64 toh, .int .i64 top, .bool true, .int .i64 sn, .int .i64 old, .int .i64 cp, .int .i64 sr, .slice ar rs.length cr] 41)).heap.size (w.alloc (.cells #[.slice aw ws.length cw, .int .i64 sm, .int .i64 toh, .int .i64 top, .bool true, .int .i64 sn, .int .i64 old, .int .i64 cp, .int .i64 sr, .slice ar rs.length cr] 41)) wc)
 case first =>
  go_region_held (fun w' => w'.cell? ⟨w.heap.size, 0, none⟩ = some (.slice aw ws.length cw) /\ w'.cell? ⟨w.heap.size, 1, none⟩ = some (.int .i64 sm) /\ w'.cell? ⟨w.heap.size, 2, none⟩ = some (.int .i64 toh) /\ w'.cell? ⟨w.heap.size, 3, none⟩ = some (.int .i64 top) /\ w'.cell? ⟨w.heap.size, 4, none⟩ = some (.bool true) /\ w'.cell? ⟨w.heap.size, 5, none⟩ = some (.int .i64 sn) /\ w'.cell? ⟨w.heap.size, 6, none⟩ = some (.int .i64 old) /\ w'.cell? ⟨w.heap.size, 7, none⟩ = some (.int .i64 cp) /\ w'.cell? ⟨w.heap.size, 8, none⟩ = some (.int .i64 sr) /\ w'.cell? ⟨w.heap.size, 9, none⟩ = some (.slice ar rs.length cr)) (go_keep) (first | (go_at_call 65; refine (zcv _ _ _ _ _ _ _ _ _ _ _ _ _ _ _ _ t0 t1 s0 s1).mono ?_; rintro e w' ⟨rfl, hb⟩; have hB := zb (w := (w.alloc (.cells #[.slice aw ws.length cw, .int .i64 sm, .int .i64 toh, .int .i64 top, .bool true, .int .i64 sn, .int .i64 old, .int .i64 cp, .int .i64 sr, .slice ar rs.length cr] 41))) (by first | exact Below.refl _ _ | exact (Below.refl _ _).drew | assumption) hb; obtain ⟨hc, hf⟩ := zp hB) | (go_at_call 66; refine (zet _ _ _ _ _ _ _ _ _ _ _ _ _ _ _ t0 t1 s0 s1).mono ?_; rintro e w' ⟨rfl, hb⟩; have hB := zb (w := (w.alloc (.cells #[.slice aw ws.length cw, .int .i64 sm, .int .i64 toh, .int .i64 top, .bool true, .int .i64 sn, .int .i64 old, .int .i64 cp, .int .i64 sr, .slice ar rs.length cr] 41))) (by first | exact Below.refl _ _ | exact (Below.refl _ _).drew | assumption) hb; obtain ⟨hc, hf⟩ := zp hB) | (go_at_call 31; refine (zr _ _ _ _).mono ?_; rintro e w' ⟨rfl, rfl⟩))
  all_goals (go_wp2_with fail; go_meet; exact ⟨_, rfl, rfl, hB⟩)
 case rest =>
 obtain ⟨q, rfl, hq, B1⟩ := hcut
 obtain rfl : q = false := by rw [hq, h2]; rfl
 clear hq
 obtain ⟨c1, f1'⟩ := zp B1
 have z1 := zv B1
 go_wp2_with fail
 refine (zcv _ _ _ _ _ _ _ _ _ _ _ _ _ _ _ _ u0 u1 s0 s1).mono ?_
 rintro e w2 ⟨rfl, b2⟩
 have B2 := zb B1 b2
 obtain ⟨c2, f2'⟩ := zp B2
 have z2 := Nat.lt_of_lt_of_le z1 b2.size
 go_wp2_with (go_at_call 31; refine (zr _ _ _ _).mono ?_; rintro e w' ⟨rfl, rfl⟩)
 go_ret
 exact ⟨rfl, zc B2⟩
set_option maxHeartbeats 2000000 in
theorem zrs (aw : Option Addr) (cw : Nat) (ws : List Int) (sm toh top : Int) (sn old cp sr : Int) (ar : Option Addr) (cr : Nat) (rs : List (Int × Int)) (w : World) (hn' : (ws.length : Int) <= 1048576) (hn2' : (rs.length : Int) <= 1048576) (s0 : 256 <= sm) (s1 : sm <= 4000) (t0 : 0 <= toh) (t1 : toh <= 1) (f1 : inB sm 256 4000 = true) (f2 : inB toh 0 1 = true) (f3 : inB sr 1 1000000000 = true) (hr1 : ¬ (24 : Int) < (rs.length : Int)) (hl' : 2 * sm = (ws.length : Int)) (m1 : (toh + 1) * sm <= 8000) (m2 : 0 <= toh * sm) (p0 : 1 <= top) (p1 : top <= 8000) (m3 : 0 <= (1 - toh) * sm) (m4 : (1 - toh) * sm <= 4000) (m5 : 0 <= (2 - toh) * sm) (m6 : (2 - toh) * sm <= 8000) (u0 : 0 <= 1 - toh) (u1 : 1 - toh <= 1) (h2 : zdi sm toh top = true) (h3 : inB old ((1 - toh) * sm + 1) ((2 - toh) * sm) = true) (o2 : 0 <= old) (o3 : old <= 8000) (h4 : inB cp 0 (old - ((1 - toh) * sm + 1)) = false) :
 Calls Tryz.prog 45 #[.agg #[.slice aw ws.length cw, .int .i64 sm, .int .i64 toh, .int .i64 top, .bool true, .int .i64 sn, .int .i64 old, .int .i64 cp, .int .i64 sr, .slice ar rs.length cr]] w fun e w' => e = .returned (.bool false) /\ Below w.heap.size w w' := by
 go_enter Tryz.func45, Tryz.ntmps45
 go_upto_region 3 with (go_at_call 31; refine (zr _ _ _ _).mono ?_; rintro e w' ⟨rfl, rfl⟩)
 go_cut [44] from 35 to 43 (fun s44 wc => ∃ q, s44 = .bool q /\ q = (!zdi sm toh top) /\ Below (w.alloc (.cells #[.slice aw ws.length cw, .int .i64 sm, .int .i64 toh, .int .i64 top, .bool true, .int .i64 sn, .int .i64 old, .int .i64 cp, .int .i64 sr, .slice ar rs.length cr] 41)).heap.size (w.alloc (.cells #[.slice aw ws.length cw, .int .i64 sm, .int .i64 toh, .int .i64 top, .bool true, .int .i64 sn, .int .i64 old, .int .i64 cp, .int .i64 sr, .slice ar rs.length cr] 41)) wc)
 case first =>
  go_region_held (fun w' => w'.cell? ⟨w.heap.size, 0, none⟩ = some (.slice aw ws.length cw) /\ w'.cell? ⟨w.heap.size, 1, none⟩ = some (.int .i64 sm) /\ w'.cell? ⟨w.heap.size, 2, none⟩ = some (.int .i64 toh) /\ w'.cell? ⟨w.heap.size, 3, none⟩ = some (.int .i64 top) /\ w'.cell? ⟨w.heap.size, 4, none⟩ = some (.bool true) /\ w'.cell? ⟨w.heap.size, 5, none⟩ = some (.int .i64 sn) /\ w'.cell? ⟨w.heap.size, 6, none⟩ = some (.int .i64 old) /\ w'.cell? ⟨w.heap.size, 7, none⟩ = some (.int .i64 cp) /\ w'.cell? ⟨w.heap.size, 8, none⟩ = some (.int .i64 sr) /\ w'.cell? ⟨w.heap.size, 9, none⟩ = some (.slice ar rs.length cr)) (go_keep) (first | (go_at_call 65; refine (zcv _ _ _ _ _ _ _ _ _ _ _ _ _ _ _ _ t0 t1 s0 s1).mono ?_; rintro e w' ⟨rfl, hb⟩; have hB := zb (w := (w.alloc (.cells #[.slice aw ws.length cw, .int .i64 sm, .int .i64 toh, .int .i64 top, .bool true, .int .i64 sn, .int .i64 old, .int .i64 cp, .int .i64 sr, .slice ar rs.length cr] 41))) (by first | exact Below.refl _ _ | exact (Below.refl _ _).drew | assumption) hb; obtain ⟨hc, hf⟩ := zp hB) | (go_at_call 66; refine (zet _ _ _ _ _ _ _ _ _ _ _ _ _ _ _ t0 t1 s0 s1).mono ?_; rintro e w' ⟨rfl, hb⟩; have hB := zb (w := (w.alloc (.cells #[.slice aw ws.length cw, .int .i64 sm, .int .i64 toh, .int .i64 top, .bool true, .int .i64 sn, .int .i64 old, .int .i64 cp, .int .i64 sr, .slice ar rs.length cr] 41))) (by first | exact Below.refl _ _ | exact (Below.refl _ _).drew | assumption) hb; obtain ⟨hc, hf⟩ := zp hB) | (go_at_call 31; refine (zr _ _ _ _).mono ?_; rintro e w' ⟨rfl, rfl⟩))
  all_goals (go_wp2_with fail; go_meet; exact ⟨_, rfl, rfl, hB⟩)
 case rest =>
 obtain ⟨q, rfl, hq, B1⟩ := hcut
 obtain rfl : q = false := by rw [hq, h2]; rfl
 clear hq
 obtain ⟨c1, f1'⟩ := zp B1
 have z1 := zv B1
 go_wp2_with fail
 refine (zcv _ _ _ _ _ _ _ _ _ _ _ _ _ _ _ _ u0 u1 s0 s1).mono ?_
 rintro e w2 ⟨rfl, b2⟩
 have B2 := zb B1 b2
 obtain ⟨c2, f2'⟩ := zp B2
 have z2 := Nat.lt_of_lt_of_le z1 b2.size
 go_wp2_with (go_at_call 31; refine (zr _ _ _ _).mono ?_; rintro e w' ⟨rfl, rfl⟩)
 go_ret
 exact ⟨rfl, zc B2⟩
theorem zrn {top old F cp E : Int} (p0 : 1 <= top) (p1 : top <= 8000) (o2 : 0 <= old) (o3 : old <= 8000) (F0 : 1 <= F) (F1 : F <= 4001) (y0 : 0 <= cp) (y2 : cp <= 8000) :
 decide (IntKind.i64.wrap (IntKind.i64.wrap (IntKind.i64.wrap (top + old) - F) - cp) <= E) = decide (top + old - F - cp <= E) := by
 have a1 : IntKind.i64.wrap (top + old) = top + old := by rw [IntKind.wrap_i64]; omega
 have a2 : IntKind.i64.wrap (top + old - F) = top + old - F := by rw [IntKind.wrap_i64]; omega
 have a3 : IntKind.i64.wrap (top + old - F - cp) = top + old - F - cp := by rw [IntKind.wrap_i64]; omega
 rw [a1, a2, a3]
set_option maxHeartbeats 2000000 in
theorem zro (aw : Option Addr) (cw : Nat) (ws : List Int) (sm toh top : Int) (sn old cp sr : Int) (ar : Option Addr) (cr : Nat) (rs : List (Int × Int)) (w : World) (hn' : (ws.length : Int) <= 1048576) (hn2' : (rs.length : Int) <= 1048576) (s0 : 256 <= sm) (s1 : sm <= 4000) (t0 : 0 <= toh) (t1 : toh <= 1) (f1 : inB sm 256 4000 = true) (f2 : inB toh 0 1 = true) (f3 : inB sr 1 1000000000 = true) (hr1 : ¬ (24 : Int) < (rs.length : Int)) (hl' : 2 * sm = (ws.length : Int)) (S E F G : Int) (hS : Hid (toh * sm + 1 = S)) (hE : Hid ((toh + 1) * sm = E)) (hF : Hid ((1 - toh) * sm + 1 = F)) (hG : (2 - toh) * sm = G) (E0 : 0 <= E) (E1 : E <= 8000) (F0 : 1 <= F) (F1 : F <= 4001) (p0 : 1 <= top) (p1 : top <= 8000) (G0 : 0 <= G) (G1 : G <= 8000) (u0 : 0 <= 1 - toh) (u1 : 1 - toh <= 1) (h2 : inB top S E = true) (h3 : inB old F G = true) (o2 : 0 <= old) (o3 : old <= 8000) (h4 : inB cp 0 (old - F) = true) (y0 : 0 <= cp) (y2 : cp <= 8000) :
 Calls Tryz.prog 45 #[.agg #[.slice aw ws.length cw, .int .i64 sm, .int .i64 toh, .int .i64 top, .bool true, .int .i64 sn, .int .i64 old, .int .i64 cp, .int .i64 sr, .slice ar rs.length cr]] w fun e w' => e = .returned (.bool (decide (top + old - F - cp <= E))) /\ Below w.heap.size w w' := by
 go_enter Tryz.func45, Tryz.ntmps45
 go_upto_region 3 with (go_at_call 31; refine (zr _ _ _ _).mono ?_; rintro e w' ⟨rfl, rfl⟩)
 go_cut [44] from 35 to 43 (fun s44 wc => ∃ q, s44 = .bool q /\ q = (!inB top S E) /\ Below (w.alloc (.cells #[.slice aw ws.length cw, .int .i64 sm, .int .i64 toh, .int .i64 top, .bool true, .int .i64 sn, .int .i64 old, .int .i64 cp, .int .i64 sr, .slice ar rs.length cr] 41)).heap.size (w.alloc (.cells #[.slice aw ws.length cw, .int .i64 sm, .int .i64 toh, .int .i64 top, .bool true, .int .i64 sn, .int .i64 old, .int .i64 cp, .int .i64 sr, .slice ar rs.length cr] 41)) wc)
 case first =>
  go_region_held (fun w' => w'.cell? ⟨w.heap.size, 0, none⟩ = some (.slice aw ws.length cw) /\ w'.cell? ⟨w.heap.size, 1, none⟩ = some (.int .i64 sm) /\ w'.cell? ⟨w.heap.size, 2, none⟩ = some (.int .i64 toh) /\ w'.cell? ⟨w.heap.size, 3, none⟩ = some (.int .i64 top) /\ w'.cell? ⟨w.heap.size, 4, none⟩ = some (.bool true) /\ w'.cell? ⟨w.heap.size, 5, none⟩ = some (.int .i64 sn) /\ w'.cell? ⟨w.heap.size, 6, none⟩ = some (.int .i64 old) /\ w'.cell? ⟨w.heap.size, 7, none⟩ = some (.int .i64 cp) /\ w'.cell? ⟨w.heap.size, 8, none⟩ = some (.int .i64 sr) /\ w'.cell? ⟨w.heap.size, 9, none⟩ = some (.slice ar rs.length cr)) (go_keep) (first | (go_at_call 65; refine (zcs _ _ _ _ _ _ _ _ _ _ _ _ _ _ _ _ _ t0 t1 s0 s1 hS.out).mono ?_; rintro e w' ⟨rfl, hb⟩; have hB := zb (w := (w.alloc (.cells #[.slice aw ws.length cw, .int .i64 sm, .int .i64 toh, .int .i64 top, .bool true, .int .i64 sn, .int .i64 old, .int .i64 cp, .int .i64 sr, .slice ar rs.length cr] 41))) (by first | exact Below.refl _ _ | exact (Below.refl _ _).drew | assumption) hb; obtain ⟨hc, hf⟩ := zp hB) | (go_at_call 66; refine (zla _ _ _ _ _ _ _ _ _ _ _ _ _ _ _ _ t0 t1 s0 s1 hE.out).mono ?_; rintro e w' ⟨rfl, hb⟩; have hB := zb (w := (w.alloc (.cells #[.slice aw ws.length cw, .int .i64 sm, .int .i64 toh, .int .i64 top, .bool true, .int .i64 sn, .int .i64 old, .int .i64 cp, .int .i64 sr, .slice ar rs.length cr] 41))) (by first | exact Below.refl _ _ | exact (Below.refl _ _).drew | assumption) hb; obtain ⟨hc, hf⟩ := zp hB) | (go_at_call 31; refine (zr _ _ _ _).mono ?_; rintro e w' ⟨rfl, rfl⟩))
  all_goals (go_wp2_with fail; go_meet; exact ⟨_, rfl, by simp [h2], hB⟩)
 case rest =>
 obtain ⟨q, rfl, hq, B1⟩ := hcut
 obtain rfl : q = false := by rw [hq, h2]; rfl
 clear hq
 obtain ⟨c1, f1'⟩ := zp B1
 have z1 := zv B1
 go_wp2_with fail
 refine (zcs _ _ _ _ _ _ _ _ _ _ _ _ _ _ _ _ _ u0 u1 s0 s1 hF.out).mono ?_
 rintro e w2 ⟨rfl, b2⟩
 have B2 := zb B1 b2
 obtain ⟨c2, f2'⟩ := zp B2
 have z2 := Nat.lt_of_lt_of_le z1 b2.size
 obtain ⟨r0, r1, r2, r3, r4, r5, r6, r7, r8, r9⟩ := zbn B2
 clear c1 f1' c2 f2' z1 z2
 go_upto_region 10 with (go_at_call 31; refine (zr _ _ _ _).mono ?_; rintro e w' ⟨rfl, rfl⟩)
 clear G0 G1 h3 h4 h2 hr1 hl' hn' hn2' f1 f2 f3 u0 u1 hG hF hS
 go_region_held3 (fun w' => Below (w.alloc (.cells #[.slice aw ws.length cw, .int .i64 sm, .int .i64 toh, .int .i64 top, .bool true, .int .i64 sn, .int .i64 old, .int .i64 cp, .int .i64 sr, .slice ar rs.length cr] 41)).heap.size (w.alloc (.cells #[.slice aw ws.length cw, .int .i64 sm, .int .i64 toh, .int .i64 top, .bool true, .int .i64 sn, .int .i64 old, .int .i64 cp, .int .i64 sr, .slice ar rs.length cr] 41)) w' /\ w'.cell? ⟨w.heap.size, 0, none⟩ = some (.slice aw ws.length cw) /\ w'.cell? ⟨w.heap.size, 1, none⟩ = some (.int .i64 sm) /\ w'.cell? ⟨w.heap.size, 2, none⟩ = some (.int .i64 toh) /\ w'.cell? ⟨w.heap.size, 3, none⟩ = some (.int .i64 top) /\ w'.cell? ⟨w.heap.size, 4, none⟩ = some (.bool true) /\ w'.cell? ⟨w.heap.size, 5, none⟩ = some (.int .i64 sn) /\ w'.cell? ⟨w.heap.size, 6, none⟩ = some (.int .i64 old) /\ w'.cell? ⟨w.heap.size, 7, none⟩ = some (.int .i64 cp) /\ w'.cell? ⟨w.heap.size, 8, none⟩ = some (.int .i64 sr) /\ w'.cell? ⟨w.heap.size, 9, none⟩ = some (.slice ar rs.length cr)) (first | exact ⟨hB, zbn hB⟩ | (refine ⟨B2.drew, ?_⟩; go_keep) | go_keep) (first | (go_at_call 66; refine (zla _ _ _ _ _ _ _ _ _ _ _ _ _ _ _ _ t0 t1 s0 s1 hE.out).mono ?_; rintro e w' ⟨rfl, hb⟩; have hB := zb (w := (w.alloc (.cells #[.slice aw ws.length cw, .int .i64 sm, .int .i64 toh, .int .i64 top, .bool true, .int .i64 sn, .int .i64 old, .int .i64 cp, .int .i64 sr, .slice ar rs.length cr] 41))) (Below.drew (by assumption)) hb))
 all_goals
  go_wp2
  go_ret
  exact ⟨za8 (zrn p0 p1 o2 o3 F0 F1 y0 y2), zc hB⟩
set_option maxHeartbeats 2000000 in
theorem zgn (aw : Option Addr) (cw : Nat) (ws : List Int) (sm toh top : Int) (cyc : Bool) (sn old cp sr : Int) (ar : Option Addr) (cr : Nat) (rs : List (Int × Int)) (w : World) (hn : ws.length <= 1048576) (hn2 : rs.length <= 1048576) :
 Calls Tryz.prog 45 #[.agg #[.slice aw ws.length cw, .int .i64 sm, .int .i64 toh, .int .i64 top, .bool cyc, .int .i64 sn, .int .i64 old, .int .i64 cp, .int .i64 sr, .slice ar rs.length cr]] w fun e w' => e = .returned (.bool (zcm ws.length sm toh top cyc sn old cp sr rs.length)) /\ Below w.heap.size w w' := by
 have hn' : (ws.length : Int) <= 1048576 := by omega
 have hn2' : (rs.length : Int) <= 1048576 := by omega
 by_cases h1 : zej ws.length sm toh sr rs.length = true
 · have h1' := h1
   simp only [zej, decide_eq_true_eq] at h1'
   obtain ⟨s0, s1, hl, t0, t1, e0, e1, hr0⟩ := h1'
   have f1 : inB sm 256 4000 = true := decide_eq_true ⟨s0, s1⟩
   have f2 : inB toh 0 1 = true := decide_eq_true ⟨t0, t1⟩
   have f3 : inB sr 1 1000000000 = true := decide_eq_true ⟨e0, e1⟩
   have hr1 : ¬ (24 : Int) < (rs.length : Int) := by omega
   by_cases h2 : zdi sm toh top = true
   · have h2' := h2
     simp only [zdi, inB, decide_eq_true_eq] at h2'
     have ht : toh = 0 \/ toh = 1 := by omega
     have m1 : (toh + 1) * sm <= 8000 := by rcases ht with rfl | rfl <;> omega
     have m2 : 0 <= toh * sm := Int.mul_nonneg t0 (by omega)
     have m3 : 0 <= (1 - toh) * sm := Int.mul_nonneg (by omega) (by omega)
     have m4 : (1 - toh) * sm <= 4000 := by rcases ht with rfl | rfl <;> omega
     have m5 : 0 <= (2 - toh) * sm := Int.mul_nonneg (by omega) (by omega)
     have m6 : (2 - toh) * sm <= 8000 := by rcases ht with rfl | rfl <;> omega
     cases cyc with
     | false =>
       have := zrq aw cw ws sm toh top sn old cp sr ar cr rs w hn' hn2' s0 s1 t0 t1 f1 f2 f3 hr1 hl.symm h2
       simpa [zcm, h1, h2] using this
     | true =>
       have hno : zcm ws.length sm toh top true sn old cp sr rs.length = zew sm toh top old cp := by simp [zcm, h1, h2]
       rw [hno]
       by_cases h3 : inB old ((1 - toh) * sm + 1) ((2 - toh) * sm) = true
       · have h3' := h3
         simp only [inB, decide_eq_true_eq] at h3'
         by_cases h4 : inB cp 0 (old - ((1 - toh) * sm + 1)) = true
         · have h4' := h4
           simp only [inB, decide_eq_true_eq] at h4'
           rw [zs2 h3 h4]
           exact zro aw cw ws sm toh top sn old cp sr ar cr rs w hn' hn2' s0 s1 t0 t1 f1 f2 f3 hr1 hl.symm _ _ _ _ rfl rfl rfl rfl (by omega) m1 (by omega) (by omega) (by omega) (by omega) m5 m6 (by omega) (by omega) h2 h3 (by omega) (by omega) h4 (by omega) (by omega)
         · rw [Bool.not_eq_true] at h4
           rw [zs4 h4]
           exact zrs aw cw ws sm toh top sn old cp sr ar cr rs w hn' hn2' s0 s1 t0 t1 f1 f2 f3 hr1 hl.symm m1 m2 (by omega) (by omega) m3 m4 m5 m6 (by omega) (by omega) h2 h3 (by omega) (by omega) h4
       · rw [Bool.not_eq_true] at h3
         rw [zs3 h3]
         exact zrr aw cw ws sm toh top sn old cp sr ar cr rs w hn' hn2' s0 s1 t0 t1 f1 f2 f3 hr1 hl.symm m1 m2 (by omega) (by omega) m3 m4 m5 m6 (by omega) (by omega) h2 h3
   · rw [Bool.not_eq_true] at h2
     have hno : zcm ws.length sm toh top cyc sn old cp sr rs.length = false := by simp [zcm, h2]
     rw [hno]
     exact zrp aw cw ws sm toh top cyc sn old cp sr ar cr rs w hn' hn2' s0 s1 t0 t1 f1 f2 f3 hr1 hl.symm h2
 · rw [Bool.not_eq_true] at h1
   have hno : zcm ws.length sm toh top cyc sn old cp sr rs.length = false := by simp [zcm, h1]
   simp only [zej, decide_eq_false_iff_not] at h1
   go_enter Tryz.func45, Tryz.ntmps45
   go_upto_region 3 with (go_at_call 31; refine (zr _ _ _ _).mono ?_; rintro e w' ⟨rfl, rfl⟩)
   all_goals first
    | (go_ret; exact ⟨za8 hno.symm, (Below.refl _ _).alloc (Nat.le_refl _) _⟩)
    | (exfalso; apply h1; go_light; simp only [inB, decide_eq_true_eq] at *; unfold wrap64 at *; omega)
end Go.Proofs.YthdnpafigkkkkaaGreat
