/- - -/
import Derived.Test.YtmckcnmlhgpnhaaGreatWArenaA
import Derived.Deep.CutRange
import Derived.Deep.RegionWith
import Derived.Deep.RegionHeld
import Derived.Deep.RegionHeld3
namespace Go.Proofs.YtmckcnmlhgpnhaaGreat
set_option maxRecDepth 20000
open Go.RowKit
set_option linter.unusedSimpArgs false
set_option linter.unusedVariables false
def ze1 (wl : Nat) (smz toh sr : Int) (rl : Nat) : Bool := decide (256 <= smz /\ smz <= 4000 /\ (wl : Int) = 2 * smz /\ 0 <= toh /\ toh <= 1 /\ 1 <= sr /\ sr <= 1000000000 /\ rl <= 24)
def zdz (smz toh top : Int) : Bool := inB top (toh * smz + 1) ((toh + 1) * smz)
def zci (smz toh : Int) : Int := (1 - toh) * smz + 1
def zfj (smz toh top old cpz : Int) : Bool := decide (zci smz toh <= old /\ old <= (2 - toh) * smz /\ 0 <= cpz /\ cpz <= old - zci smz toh /\ top + old - zci smz toh - cpz <= (toh + 1) * smz)
def zgm (sn old cpz : Int) : Bool := decide (sn = 0 /\ old = 0 /\ cpz = 0)
def zcy (wl : Nat) (smz toh top : Int) (cyc : Bool) (sn old cpz sr : Int) (rl : Nat) : Bool :=
 ze1 wl smz toh sr rl && zdz smz toh top && (if cyc = true then zfj smz toh top old cpz else zgm sn old cpz)
theorem zu5 {smz toh top old cpz : Int} (h3 : inB old ((1 - toh) * smz + 1) ((2 - toh) * smz) = true) (h4 : inB cpz 0 (old - ((1 - toh) * smz + 1)) = true) :
 zfj smz toh top old cpz = decide (top + old - ((1 - toh) * smz + 1) - cpz <= (toh + 1) * smz) := by
 simp only [inB, decide_eq_true_eq] at h3 h4
 unfold zfj zci
 simp only [h3.1, h3.2, h4.1, h4.2, true_and]
theorem zu6 {smz toh top old cpz : Int} (h3 : inB old ((1 - toh) * smz + 1) ((2 - toh) * smz) = false) : zfj smz toh top old cpz = false := by
 simp only [inB, decide_eq_false_iff_not] at h3
 unfold zfj zci
 exact decide_eq_false fun h => h3 ⟨h.1, h.2.1⟩
theorem zu7 {smz toh top old cpz : Int} (h4 : inB cpz 0 (old - ((1 - toh) * smz + 1)) = false) : zfj smz toh top old cpz = false := by
 simp only [inB, decide_eq_false_iff_not] at h4
 unfold zfj zci
 exact decide_eq_false fun h => h4 ⟨h.2.2.1, h.2.2.2.1⟩
set_option maxHeartbeats 2000000 in
theorem zti (aw : Option Addr) (cw : Nat) (ws : List Int) (smz toh top : Int) (cyc : Bool) (sn old cpz sr : Int) (ar : Option Addr) (cr : Nat) (rs : List (Int × Int)) (w : World) (hn' : (ws.length : Int) <= 1048576) (hn2' : (rs.length : Int) <= 1048576) (s0 : 256 <= smz) (s1 : smz <= 4000) (t0 : 0 <= toh) (t1 : toh <= 1) (f1 : inB smz 256 4000 = true) (f2 : inB toh 0 1 = true) (f3 : inB sr 1 1000000000 = true) (hr1 : ¬ (24 : Int) < (rs.length : Int)) (hl' : 2 * smz = (ws.length : Int)) (h2 : zdz smz toh top = false) :
 Calls Tryz.prog 90 #[.agg #[.slice aw ws.length cw, .int .i64 smz, .int .i64 toh, .int .i64 top, .bool cyc, .int .i64 sn, .int .i64 old, .int .i64 cpz, .int .i64 sr, .slice ar rs.length cr]] w fun e w' => e = .returned (.bool false) /\ Below w.heap.size w w' := by
 go_enter Tryz.func90, Tryz.ntmps90
 go_upto_region 3 with (go_at_call 104; refine (zw _ _ _ _).mono ?_; rintro e w' ⟨rfl, rfl⟩)
 go_cut [44] from 35 to 43 (fun s44 wc => ∃ q, s44 = .bool q /\ q = (!zdz smz toh top) /\ Below (w.alloc (.cells #[.slice aw ws.length cw, .int .i64 smz, .int .i64 toh, .int .i64 top, .bool cyc, .int .i64 sn, .int .i64 old, .int .i64 cpz, .int .i64 sr, .slice ar rs.length cr] 30)).heap.size (w.alloc (.cells #[.slice aw ws.length cw, .int .i64 smz, .int .i64 toh, .int .i64 top, .bool cyc, .int .i64 sn, .int .i64 old, .int .i64 cpz, .int .i64 sr, .slice ar rs.length cr] 30)) wc)
 case first =>
  go_region_held (fun w' => w'.cell? ⟨w.heap.size, 0, none⟩ = some (.slice aw ws.length cw) /\ w'.cell? ⟨w.heap.size, 1, none⟩ = some (.int .i64 smz) /\ w'.cell? ⟨w.heap.size, 2, none⟩ = some (.int .i64 toh) /\ w'.cell? ⟨w.heap.size, 3, none⟩ = some (.int .i64 top) /\ w'.cell? ⟨w.heap.size, 4, none⟩ = some (.bool cyc) /\ w'.cell? ⟨w.heap.size, 5, none⟩ = some (.int .i64 sn) /\ w'.cell? ⟨w.heap.size, 6, none⟩ = some (.int .i64 old) /\ w'.cell? ⟨w.heap.size, 7, none⟩ = some (.int .i64 cpz) /\ w'.cell? ⟨w.heap.size, 8, none⟩ = some (.int .i64 sr) /\ w'.cell? ⟨w.heap.size, 9, none⟩ = some (.slice ar rs.length cr)) (go_keep) (first | (go_at_call 57; refine (zc5 _ _ _ _ _ _ _ _ _ _ _ _ _ _ _ _ t0 t1 s0 s1).mono ?_; rintro e w' ⟨rfl, hb⟩; have hB := zc (w := (w.alloc (.cells #[.slice aw ws.length cw, .int .i64 smz, .int .i64 toh, .int .i64 top, .bool cyc, .int .i64 sn, .int .i64 old, .int .i64 cpz, .int .i64 sr, .slice ar rs.length cr] 30))) (by first | exact Below.refl _ _ | exact (Below.refl _ _).drew | assumption) hb; obtain ⟨hc, hf⟩ := zo hB) | (go_at_call 124; refine (zfe _ _ _ _ _ _ _ _ _ _ _ _ _ _ _ t0 t1 s0 s1).mono ?_; rintro e w' ⟨rfl, hb⟩; have hB := zc (w := (w.alloc (.cells #[.slice aw ws.length cw, .int .i64 smz, .int .i64 toh, .int .i64 top, .bool cyc, .int .i64 sn, .int .i64 old, .int .i64 cpz, .int .i64 sr, .slice ar rs.length cr] 30))) (by first | exact Below.refl _ _ | exact (Below.refl _ _).drew | assumption) hb; obtain ⟨hc, hf⟩ := zo hB) | (go_at_call 104; refine (zw _ _ _ _).mono ?_; rintro e w' ⟨rfl, rfl⟩))
  all_goals (go_wp2_with fail; go_meet; exact ⟨_, rfl, rfl, hB⟩)
 case rest =>
 obtain ⟨q, rfl, hq, B1⟩ := hcut
 obtain rfl : q = true := by rw [hq, h2]; rfl
 clear hq
 obtain ⟨c1, f1'⟩ := zo B1
 have z1 := zq B1
 go_wp2
 go_ret
 exact ⟨rfl, zd B1⟩
set_option maxHeartbeats 2000000 in
theorem ztj (aw : Option Addr) (cw : Nat) (ws : List Int) (smz toh top : Int) (sn old cpz sr : Int) (ar : Option Addr) (cr : Nat) (rs : List (Int × Int)) (w : World) (hn' : (ws.length : Int) <= 1048576) (hn2' : (rs.length : Int) <= 1048576) (s0 : 256 <= smz) (s1 : smz <= 4000) (t0 : 0 <= toh) (t1 : toh <= 1) (f1 : inB smz 256 4000 = true) (f2 : inB toh 0 1 = true) (f3 : inB sr 1 1000000000 = true) (hr1 : ¬ (24 : Int) < (rs.length : Int)) (hl' : 2 * smz = (ws.length : Int)) (h2 : zdz smz toh top = true) :
 Calls Tryz.prog 90 #[.agg #[.slice aw ws.length cw, .int .i64 smz, .int .i64 toh, .int .i64 top, .bool false, .int .i64 sn, .int .i64 old, .int .i64 cpz, .int .i64 sr, .slice ar rs.length cr]] w fun e w' => e = .returned (.bool (zgm sn old cpz)) /\ Below w.heap.size w w' := by
 go_enter Tryz.func90, Tryz.ntmps90
 go_upto_region 3 with (go_at_call 104; refine (zw _ _ _ _).mono ?_; rintro e w' ⟨rfl, rfl⟩)
 go_cut [44] from 35 to 43 (fun s44 wc => ∃ q, s44 = .bool q /\ q = (!zdz smz toh top) /\ Below (w.alloc (.cells #[.slice aw ws.length cw, .int .i64 smz, .int .i64 toh, .int .i64 top, .bool false, .int .i64 sn, .int .i64 old, .int .i64 cpz, .int .i64 sr, .slice ar rs.length cr] 30)).heap.size (w.alloc (.cells #[.slice aw ws.length cw, .int .i64 smz, .int .i64 toh, .int .i64 top, .bool false, .int .i64 sn, .int .i64 old, .int .i64 cpz, .int .i64 sr, .slice ar rs.length cr] 30)) wc)
 case first =>
  go_region_held (fun w' => w'.cell? ⟨w.heap.size, 0, none⟩ = some (.slice aw ws.length cw) /\ w'.cell? ⟨w.heap.size, 1, none⟩ = some (.int .i64 smz) /\ w'.cell? ⟨w.heap.size, 2, none⟩ = some (.int .i64 toh) /\ w'.cell? ⟨w.heap.size, 3, none⟩ = some (.int .i64 top) /\ w'.cell? ⟨w.heap.size, 4, none⟩ = some (.bool false) /\ w'.cell? ⟨w.heap.size, 5, none⟩ = some (.int .i64 sn) /\ w'.cell? ⟨w.heap.size, 6, none⟩ = some (.int .i64 old) /\ w'.cell? ⟨w.heap.size, 7, none⟩ = some (.int .i64 cpz) /\ w'.cell? ⟨w.heap.size, 8, none⟩ = some (.int .i64 sr) /\ w'.cell? ⟨w.heap.size, 9, none⟩ = some (.slice ar rs.length cr)) (go_keep) (first | (go_at_call 57; refine (zc5 _ _ _ _ _ _ _ _ _ _ _ _ _ _ _ _ t0 t1 s0 s1).mono ?_; rintro e w' ⟨rfl, hb⟩; have hB := zc (w := (w.alloc (.cells #[.slice aw ws.length cw, .int .i64 smz, .int .i64 toh, .int .i64 top, .bool false, .int .i64 sn, .int .i64 old, .int .i64 cpz, .int .i64 sr, .slice ar rs.length cr] 30))) (by first | exact Below.refl _ _ | exact (Below.refl _ _).drew | assumption) hb; obtain ⟨hc, hf⟩ := zo hB) | (go_at_call 124; refine (zfe _ _ _ _ _ _ _ _ _ _ _ _ _ _ _ t0 t1 s0 s1).mono ?_; rintro e w' ⟨rfl, hb⟩; have hB := zc (w := (w.alloc (.cells #[.slice aw ws.length cw, .int .i64 smz, .int .i64 toh, .int .i64 top, .bool false, .int .i64 sn, .int .i64 old, .int .i64 cpz, .int .i64 sr, .slice ar rs.length cr] 30))) (by first | exact Below.refl _ _ | exact (Below.refl _ _).drew | assumption) hb; obtain ⟨hc, hf⟩ := zo hB) | (go_at_call 104; refine (zw _ _ _ _).mono ?_; rintro e w' ⟨rfl, rfl⟩))
  all_goals (go_wp2_with fail; go_meet; exact ⟨_, rfl, rfl, hB⟩)
 case rest =>
 obtain ⟨q, rfl, hq, B1⟩ := hcut
 obtain rfl : q = false := by rw [hq, h2]; rfl
 clear hq
 obtain ⟨c1, f1'⟩ := zo B1
 have z1 := zq B1
 go_wp2
 all_goals
  go_ret
  refine ⟨zbh ?_, zd B1⟩
  go_light
  clear c1 f1' B1
  rw [Bool.eq_iff_iff]
  simp [zgm] at *
  try omega
set_option maxHeartbeats 2000000 in
theorem ztk (aw : Option Addr) (cw : Nat) (ws : List Int) (smz toh top : Int) (sn old cpz sr : Int) (ar : Option Addr) (cr : Nat) (rs : List (Int × Int)) (w : World) (hn' : (ws.length : Int) <= 1048576) (hn2' : (rs.length : Int) <= 1048576) (s0 : 256 <= smz) (s1 : smz <= 4000) (t0 : 0 <= toh) (t1 : toh <= 1) (f1 : inB smz 256 4000 = true) (f2 : inB toh 0 1 = true) (f3 : inB sr 1 1000000000 = true) (hr1 : ¬ (24 : Int) < (rs.length : Int)) (hl' : 2 * smz = (ws.length : Int)) (m1 : (toh + 1) * smz <= 8000) (m2 : 0 <= toh * smz) (p0 : 1 <= top) (p1 : top <= 8000) (m3 : 0 <= (1 - toh) * smz) (m4 : (1 - toh) * smz <= 4000) (m5 : 0 <= (2 - toh) * smz) (m6 : (2 - toh) * smz <= 8000) (u0 : 0 <= 1 - toh) (u1 : 1 - toh <= 1) (h2 : zdz smz toh top = true) (h3 : inB old ((1 - toh) * smz + 1) ((2 - toh) * smz) = false) :
 Calls Tryz.prog 90 #[.agg #[.slice aw ws.length cw, .int .i64 smz, .int .i64 toh, .int .i64 top, .bool true, .int .i64 sn, .int .i64 old, .int .i64 cpz, .int .i64 sr, .slice ar rs.length cr]] w fun e w' => e = .returned (.bool false) /\ Below w.heap.size w w' := by
 go_enter Tryz.func90, Tryz.ntmps90
 go_upto_region 3 with (go_at_call 104; refine (zw _ _ _ _).mono ?_; rintro e w' ⟨rfl, rfl⟩)
 go_cut [44] from 35 to 43 (fun s44 wc => ∃ q, s44 = .bool q /\ q = (!zdz smz toh top) /\ Below (w.alloc (.cells #[.slice aw ws.length cw, .int .i64 smz, .int .i64 toh, .int .i64 top, .bool true, .int .i64 sn, .int .i64 old, .int .i64 cpz, .int .i64 sr, .slice ar rs.length cr] 30)).heap.size (w.alloc (.cells #[.slice aw ws.length cw, .int .i64 smz, .int .i64 toh, .int .i64 top, .bool true, .int .i64 sn, .int .i64 old, .int .i64 cpz, .int .i64 sr, .slice ar rs.length cr] 30)) wc)
 case first =>
  go_region_held (fun w' => w'.cell? ⟨w.heap.size, 0, none⟩ = some (.slice aw ws.length cw) /\ w'.cell? ⟨w.heap.size, 1, none⟩ = some (.int .i64 smz) /\ w'.cell? ⟨w.heap.size, 2, none⟩ = some (.int .i64 toh) /\ w'.cell? ⟨w.heap.size, 3, none⟩ = some (.int .i64 top) /\ w'.cell? ⟨w.heap.size, 4, none⟩ = some (.bool true) /\ w'.cell? ⟨w.heap.size, 5, none⟩ = some (.int .i64 sn) /\ w'.cell? ⟨w.heap.size, 6, none⟩ = some (.int .i64 old) /\ w'.cell? ⟨w.heap.size, 7, none⟩ = some (.int .i64 cpz) /\ w'.cell? ⟨w.heap.size, 8, none⟩ = some (.int .i64 sr) /\ w'.cell? ⟨w.heap.size, 9, none⟩ = some (.slice ar rs.length cr)) (go_keep) (first | (go_at_call 57; refine (zc5 _ _ _ _ _ _ _ _ _ _ _ _ _ _ _ _ t0 t1 s0 s1).mono ?_; rintro e w' ⟨rfl, hb⟩; have hB := zc (w := (w.alloc (.cells #[.slice aw ws.length cw, .int .i64 smz, .int .i64 toh, .int .i64 top, .bool true, .int .i64 sn, .int .i64 old, .int .i64 cpz, .int .i64 sr, .slice ar rs.length cr] 30))) (by first | exact Below.refl _ _ | exact (Below.refl _ _).drew | assumption) hb; obtain ⟨hc, hf⟩ := zo hB) | (go_at_call 124; refine (zfe _ _ _ _ _ _ _ _ _ _ _ _ _ _ _ t0 t1 s0 s1).mono ?_; rintro e w' ⟨rfl, hb⟩; have hB := zc (w := (w.alloc (.cells #[.slice aw ws.length cw, .int .i64 smz, .int .i64 toh, .int .i64 top, .bool true, .int .i64 sn, .int .i64 old, .int .i64 cpz, .int .i64 sr, .slice ar rs.length cr] 30))) (by first | exact Below.refl _ _ | exact (Below.refl _ _).drew | assumption) hb; obtain ⟨hc, hf⟩ := zo hB) | (go_at_call 104; refine (zw _ _ _ _).mono ?_; rintro e w' ⟨rfl, rfl⟩))
  all_goals (go_wp2_with fail; go_meet; exact ⟨_, rfl, rfl, hB⟩)
 case rest =>
 obtain ⟨q, rfl, hq, B1⟩ := hcut
 obtain rfl : q = false := by rw [hq, h2]; rfl
 clear hq
 obtain ⟨c1, f1'⟩ := zo B1
 have z1 := zq B1
 go_wp2_with fail
 refine (zc5 _ _ _ _ _ _ _ _ _ _ _ _ _ _ _ _ u0 u1 s0 s1).mono ?_
 rintro e w2 ⟨rfl, b2⟩
 have B2 := zc B1 b2
 obtain ⟨c2, f2'⟩ := zo B2
 have z2 := Nat.lt_of_lt_of_le z1 b2.size
 go_wp2_with (go_at_call 104; refine (zw _ _ _ _).mono ?_; rintro e w' ⟨rfl, rfl⟩)
 go_ret
 exact ⟨rfl, zd B2⟩
set_option maxHeartbeats 2000000 in
theorem ztl (aw : Option Addr) (cw : Nat) (ws : List Int) (smz toh top : Int) (sn old cpz sr : Int) (ar : Option Addr) (cr : Nat) (rs : List (Int × Int)) (w : World) (hn' : (ws.length : Int) <= 1048576) (hn2' : (rs.length : Int) <= 1048576) (s0 : 256 <= smz) (s1 : smz <= 4000) (t0 : 0 <= toh) (t1 : toh <= 1) (f1 : inB smz 256 4000 = true) (f2 : inB toh 0 1 = true) (f3 : inB sr 1 1000000000 = true) (hr1 : ¬ (24 : Int) < (rs.length : Int)) (hl' : 2 * smz = (ws.length : Int)) (m1 : (toh + 1) * smz <= 8000) (m2 : 0 <= toh * smz) (p0 : 1 <= top) (p1 : top <= 8000) (m3 : 0 <= (1 - toh) * smz) (m4 : (1 - toh) * smz <= 4000) (m5 : 0 <= (2 - toh) * smz) (m6 : (2 - toh) * smz <= 8000) (u0 : 0 <= 1 - toh) (u1 : 1 - toh <= 1) (h2 : zdz smz toh top = true) (h3 : inB old ((1 - toh) * smz + 1) ((2 - toh) * smz) = true) (o2 : 0 <= old) (o3 : old <= 8000) (h4 : inB cpz 0 (old - ((1 - toh) * smz + 1)) = false) :
 Calls Tryz.prog 90 #[.agg #[.slice aw ws.length cw, .int .i64 smz, .int .i64 toh, .int .i64 top, .bool true, .int .i64 sn, .int .i64 old, .int .i64 cpz, .int .i64 sr, .slice ar rs.length cr]] w fun e w' => e = .returned (.bool false) /\ Below w.heap.size w w' := by
 go_enter Tryz.func90, Tryz.ntmps90
 go_upto_region 3 with (go_at_call 104; refine (zw _ _ _ _).mono ?_; rintro e w' ⟨rfl, rfl⟩)
 go_cut [44] from 35 to 43 (fun s44 wc => ∃ q, s44 = .bool q /\ q = (!zdz smz toh top) /\ Below (w.alloc (.cells #[.slice aw ws.length cw, .int .i64 smz, .int .i64 toh, .int .i64 top, .bool true, .int .i64 sn, .int .i64 old, .int .i64 cpz, .int .i64 sr, .slice ar rs.length cr] 30)).heap.size (w.alloc (.cells #[.slice aw ws.length cw, .int .i64 smz, .int .i64 toh, .int .i64 top, .bool true, .int .i64 sn, .int .i64 old, .int .i64 cpz, .int .i64 sr, .slice ar rs.length cr] 30)) wc)
 case first =>
  go_region_held (fun w' => w'.cell? ⟨w.heap.size, 0, none⟩ = some (.slice aw ws.length cw) /\ w'.cell? ⟨w.heap.size, 1, none⟩ = some (.int .i64 smz) /\ w'.cell? ⟨w.heap.size, 2, none⟩ = some (.int .i64 toh) /\ w'.cell? ⟨w.heap.size, 3, none⟩ = some (.int .i64 top) /\ w'.cell? ⟨w.heap.size, 4, none⟩ = some (.bool true) /\ w'.cell? ⟨w.heap.size, 5, none⟩ = some (.int .i64 sn) /\ w'.cell? ⟨w.heap.size, 6, none⟩ = some (.int .i64 old) /\ w'.cell? ⟨w.heap.size, 7, none⟩ = some (.int .i64 cpz) /\ w'.cell? ⟨w.heap.size, 8, none⟩ = some (.int .i64 sr) /\ w'.cell? ⟨w.heap.size, 9, none⟩ = some (.slice ar rs.length cr)) (go_keep) (first | (go_at_call 57; refine (zc5 _ _ _ _ _ _ _ _ _ _ _ _ _ _ _ _ t0 t1 s0 s1).mono ?_; rintro e w' ⟨rfl, hb⟩; have hB := zc (w := (w.alloc (.cells #[.slice aw ws.length cw, .int .i64 smz, .int .i64 toh, .int .i64 top, .bool true, .int .i64 sn, .int .i64 old, .int .i64 cpz, .int .i64 sr, .slice ar rs.length cr] 30))) (by first | exact Below.refl _ _ | exact (Below.refl _ _).drew | assumption) hb; obtain ⟨hc, hf⟩ := zo hB) | (go_at_call 124; refine (zfe _ _ _ _ _ _ _ _ _ _ _ _ _ _ _ t0 t1 s0 s1).mono ?_; rintro e w' ⟨rfl, hb⟩; have hB := zc (w := (w.alloc (.cells #[.slice aw ws.length cw, .int .i64 smz, .int .i64 toh, .int .i64 top, .bool true, .int .i64 sn, .int .i64 old, .int .i64 cpz, .int .i64 sr, .slice ar rs.length cr] 30))) (by first | exact Below.refl _ _ | exact (Below.refl _ _).drew | assumption) hb; obtain ⟨hc, hf⟩ := zo hB) | (go_at_call 104; refine (zw _ _ _ _).mono ?_; rintro e w' ⟨rfl, rfl⟩))
  all_goals (go_wp2_with fail; go_meet; exact ⟨_, rfl, rfl, hB⟩)
 case rest =>
 obtain ⟨q, rfl, hq, B1⟩ := hcut
 obtain rfl : q = false := by rw [hq, h2]; rfl
 clear hq
 obtain ⟨c1, f1'⟩ := zo B1
 have z1 := zq B1
 go_wp2_with fail
 refine (zc5 _ _ _ _ _ _ _ _ _ _ _ _ _ _ _ _ u0 u1 s0 s1).mono ?_
 rintro e w2 ⟨rfl, b2⟩
 have B2 := zc B1 b2
 obtain ⟨c2, f2'⟩ := zo B2
 have z2 := Nat.lt_of_lt_of_le z1 b2.size
 go_wp2_with (go_at_call 104; refine (zw _ _ _ _).mono ?_; rintro e w' ⟨rfl, rfl⟩)
 go_ret
 exact ⟨rfl, zd B2⟩
theorem ztg {top old F cpz E : Int} (p0 : 1 <= top) (p1 : top <= 8000) (o2 : 0 <= old) (o3 : old <= 8000) (F0 : 1 <= F) (F1 : F <= 4001) (y0 : 0 <= cpz) (y2 : cpz <= 8000) :
 decide (IntKind.i64.wrap (IntKind.i64.wrap (IntKind.i64.wrap (top + old) - F) - cpz) <= E) = decide (top + old - F - cpz <= E) := by
 have a1 : IntKind.i64.wrap (top + old) = top + old := by rw [IntKind.wrap_i64]; omega
 have a2 : IntKind.i64.wrap (top + old - F) = top + old - F := by rw [IntKind.wrap_i64]; omega
 have a3 : IntKind.i64.wrap (top + old - F - cpz) = top + old - F - cpz := by rw [IntKind.wrap_i64]; omega
 rw [a1, a2, a3]
set_option maxHeartbeats 2000000 in
theorem zth (aw : Option Addr) (cw : Nat) (ws : List Int) (smz toh top : Int) (sn old cpz sr : Int) (ar : Option Addr) (cr : Nat) (rs : List (Int × Int)) (w : World) (hn' : (ws.length : Int) <= 1048576) (hn2' : (rs.length : Int) <= 1048576) (s0 : 256 <= smz) (s1 : smz <= 4000) (t0 : 0 <= toh) (t1 : toh <= 1) (f1 : inB smz 256 4000 = true) (f2 : inB toh 0 1 = true) (f3 : inB sr 1 1000000000 = true) (hr1 : ¬ (24 : Int) < (rs.length : Int)) (hl' : 2 * smz = (ws.length : Int)) (S E F G : Int) (hS : Hid (toh * smz + 1 = S)) (hE : Hid ((toh + 1) * smz = E)) (hF : Hid ((1 - toh) * smz + 1 = F)) (hG : (2 - toh) * smz = G) (E0 : 0 <= E) (E1 : E <= 8000) (F0 : 1 <= F) (F1 : F <= 4001) (p0 : 1 <= top) (p1 : top <= 8000) (G0 : 0 <= G) (G1 : G <= 8000) (u0 : 0 <= 1 - toh) (u1 : 1 - toh <= 1) (h2 : inB top S E = true) (h3 : inB old F G = true) (o2 : 0 <= old) (o3 : old <= 8000) (h4 : inB cpz 0 (old - F) = true) (y0 : 0 <= cpz) (y2 : cpz <= 8000) :
 Calls Tryz.prog 90 #[.agg #[.slice aw ws.length cw, .int .i64 smz, .int .i64 toh, .int .i64 top, .bool true, .int .i64 sn, .int .i64 old, .int .i64 cpz, .int .i64 sr, .slice ar rs.length cr]] w fun e w' => e = .returned (.bool (decide (top + old - F - cpz <= E))) /\ Below w.heap.size w w' := by
 go_enter Tryz.func90, Tryz.ntmps90
 go_upto_region 3 with (go_at_call 104; refine (zw _ _ _ _).mono ?_; rintro e w' ⟨rfl, rfl⟩)
 go_cut [44] from 35 to 43 (fun s44 wc => ∃ q, s44 = .bool q /\ q = (!inB top S E) /\ Below (w.alloc (.cells #[.slice aw ws.length cw, .int .i64 smz, .int .i64 toh, .int .i64 top, .bool true, .int .i64 sn, .int .i64 old, .int .i64 cpz, .int .i64 sr, .slice ar rs.length cr] 30)).heap.size (w.alloc (.cells #[.slice aw ws.length cw, .int .i64 smz, .int .i64 toh, .int .i64 top, .bool true, .int .i64 sn, .int .i64 old, .int .i64 cpz, .int .i64 sr, .slice ar rs.length cr] 30)) wc)
 case first =>
  go_region_held (fun w' => w'.cell? ⟨w.heap.size, 0, none⟩ = some (.slice aw ws.length cw) /\ w'.cell? ⟨w.heap.size, 1, none⟩ = some (.int .i64 smz) /\ w'.cell? ⟨w.heap.size, 2, none⟩ = some (.int .i64 toh) /\ w'.cell? ⟨w.heap.size, 3, none⟩ = some (.int .i64 top) /\ w'.cell? ⟨w.heap.size, 4, none⟩ = some (.bool true) /\ w'.cell? ⟨w.heap.size, 5, none⟩ = some (.int .i64 sn) /\ w'.cell? ⟨w.heap.size, 6, none⟩ = some (.int .i64 old) /\ w'.cell? ⟨w.heap.size, 7, none⟩ = some (.int .i64 cpz) /\ w'.cell? ⟨w.heap.size, 8, none⟩ = some (.int .i64 sr) /\ w'.cell? ⟨w.heap.size, 9, none⟩ = some (.slice ar rs.length cr)) (go_keep) (first | (go_at_call 57; refine (zco _ _ _ _ _ _ _ _ _ _ _ _ _ _ _ _ _ t0 t1 s0 s1 hS.out).mono ?_; rintro e w' ⟨rfl, hb⟩; have hB := zc (w := (w.alloc (.cells #[.slice aw ws.length cw, .int .i64 smz, .int .i64 toh, .int .i64 top, .bool true, .int .i64 sn, .int .i64 old, .int .i64 cpz, .int .i64 sr, .slice ar rs.length cr] 30))) (by first | exact Below.refl _ _ | exact (Below.refl _ _).drew | assumption) hb; obtain ⟨hc, hf⟩ := zo hB) | (go_at_call 124; refine (zmk _ _ _ _ _ _ _ _ _ _ _ _ _ _ _ _ t0 t1 s0 s1 hE.out).mono ?_; rintro e w' ⟨rfl, hb⟩; have hB := zc (w := (w.alloc (.cells #[.slice aw ws.length cw, .int .i64 smz, .int .i64 toh, .int .i64 top, .bool true, .int .i64 sn, .int .i64 old, .int .i64 cpz, .int .i64 sr, .slice ar rs.length cr] 30))) (by first | exact Below.refl _ _ | exact (Below.refl _ _).drew | assumption) hb; obtain ⟨hc, hf⟩ := zo hB) | (go_at_call 104; refine (zw _ _ _ _).mono ?_; rintro e w' ⟨rfl, rfl⟩))
  all_goals (go_wp2_with fail; go_meet; exact ⟨_, rfl, by simp [h2], hB⟩)
 case rest =>
 obtain ⟨q, rfl, hq, B1⟩ := hcut
 obtain rfl : q = false := by rw [hq, h2]; rfl
 clear hq
 obtain ⟨c1, f1'⟩ := zo B1
 have z1 := zq B1
 go_wp2_with fail
 refine (zco _ _ _ _ _ _ _ _ _ _ _ _ _ _ _ _ _ u0 u1 s0 s1 hF.out).mono ?_
 rintro e w2 ⟨rfl, b2⟩
 have B2 := zc B1 b2
 obtain ⟨c2, f2'⟩ := zo B2
 have z2 := Nat.lt_of_lt_of_le z1 b2.size
 obtain ⟨r0, r1, r2, r3, r4, r5, r6, r7, r8, r9⟩ := zbx B2
 clear c1 f1' c2 f2' z1 z2
 go_upto_region 10 with (go_at_call 104; refine (zw _ _ _ _).mono ?_; rintro e w' ⟨rfl, rfl⟩)
 clear G0 G1 h3 h4 h2 hr1 hl' hn' hn2' f1 f2 f3 u0 u1 hG hF hS
 go_region_held3 (fun w' => Below (w.alloc (.cells #[.slice aw ws.length cw, .int .i64 smz, .int .i64 toh, .int .i64 top, .bool true, .int .i64 sn, .int .i64 old, .int .i64 cpz, .int .i64 sr, .slice ar rs.length cr] 30)).heap.size (w.alloc (.cells #[.slice aw ws.length cw, .int .i64 smz, .int .i64 toh, .int .i64 top, .bool true, .int .i64 sn, .int .i64 old, .int .i64 cpz, .int .i64 sr, .slice ar rs.length cr] 30)) w' /\ w'.cell? ⟨w.heap.size, 0, none⟩ = some (.slice aw ws.length cw) /\ w'.cell? ⟨w.heap.size, 1, none⟩ = some (.int .i64 smz) /\ w'.cell? ⟨w.heap.size, 2, none⟩ = some (.int .i64 toh) /\ w'.cell? ⟨w.heap.size, 3, none⟩ = some (.int .i64 top) /\ w'.cell? ⟨w.heap.size, 4, none⟩ = some (.bool true) /\ w'.cell? ⟨w.heap.size, 5, none⟩ = some (.int .i64 sn) /\ w'.cell? ⟨w.heap.size, 6, none⟩ = some (.int .i64 old) /\ w'.cell? ⟨w.heap.size, 7, none⟩ = some (.int .i64 cpz) /\ w'.cell? ⟨w.heap.size, 8, none⟩ = some (.int .i64 sr) /\ w'.cell? ⟨w.heap.size, 9, none⟩ = some (.slice ar rs.length cr)) (first | exact ⟨hB, zbx hB⟩ | (refine ⟨B2.drew, ?_⟩; go_keep) | go_keep) (first | (go_at_call 124; refine (zmk _ _ _ _ _ _ _ _ _ _ _ _ _ _ _ _ t0 t1 s0 s1 hE.out).mono ?_; rintro e w' ⟨rfl, hb⟩; have hB := zc (w := (w.alloc (.cells #[.slice aw ws.length cw, .int .i64 smz, .int .i64 toh, .int .i64 top, .bool true, .int .i64 sn, .int .i64 old, .int .i64 cpz, .int .i64 sr, .slice ar rs.length cr] 30))) (Below.drew (by assumption)) hb))
 all_goals
  go_wp2
  go_ret
  exact ⟨zbh (ztg p0 p1 o2 o3 F0 F1 y0 y2), zd hB⟩
set_option maxHeartbeats 2000000 in
theorem zhm (aw : Option Addr) (cw : Nat) (ws : List Int) (smz toh top : Int) (cyc : Bool) (sn old cpz sr : Int) (ar : Option Addr) (cr : Nat) (rs : List (Int × Int)) (w : World) (hn : ws.length <= 1048576) (hn2 : rs.length <= 1048576) :
 Calls Tryz.prog 90 #[.agg #[.slice aw ws.length cw, .int .i64 smz, .int .i64 toh, .int .i64 top, .bool cyc, .int .i64 sn, .int .i64 old, .int .i64 cpz, .int .i64 sr, .slice ar rs.length cr]] w fun e w' => e = .returned (.bool (zcy ws.length smz toh top cyc sn old cpz sr rs.length)) /\ Below w.heap.size w w' := by
 have hn' : (ws.length : Int) <= 1048576 := by omega
 have hn2' : (rs.length : Int) <= 1048576 := by omega
 by_cases h1 : ze1 ws.length smz toh sr rs.length = true
 · have h1' := h1
   simp only [ze1, decide_eq_true_eq] at h1'
   obtain ⟨s0, s1, hl, t0, t1, e0, e1, hr0⟩ := h1'
   have f1 : inB smz 256 4000 = true := decide_eq_true ⟨s0, s1⟩
   have f2 : inB toh 0 1 = true := decide_eq_true ⟨t0, t1⟩
   have f3 : inB sr 1 1000000000 = true := decide_eq_true ⟨e0, e1⟩
   have hr1 : ¬ (24 : Int) < (rs.length : Int) := by omega
   by_cases h2 : zdz smz toh top = true
   · have h2' := h2
     simp only [zdz, inB, decide_eq_true_eq] at h2'
     have ht : toh = 0 \/ toh = 1 := by omega
     have m1 : (toh + 1) * smz <= 8000 := by rcases ht with rfl | rfl <;> omega
     have m2 : 0 <= toh * smz := Int.mul_nonneg t0 (by omega)
     have m3 : 0 <= (1 - toh) * smz := Int.mul_nonneg (by omega) (by omega)
     have m4 : (1 - toh) * smz <= 4000 := by rcases ht with rfl | rfl <;> omega
     have m5 : 0 <= (2 - toh) * smz := Int.mul_nonneg (by omega) (by omega)
     have m6 : (2 - toh) * smz <= 8000 := by rcases ht with rfl | rfl <;> omega
     cases cyc with
     | false =>
       have := ztj aw cw ws smz toh top sn old cpz sr ar cr rs w hn' hn2' s0 s1 t0 t1 f1 f2 f3 hr1 hl.symm h2
       simpa [zcy, h1, h2] using this
     | true =>
       have hno : zcy ws.length smz toh top true sn old cpz sr rs.length = zfj smz toh top old cpz := by simp [zcy, h1, h2]
       rw [hno]
       by_cases h3 : inB old ((1 - toh) * smz + 1) ((2 - toh) * smz) = true
       · have h3' := h3
         simp only [inB, decide_eq_true_eq] at h3'
         by_cases h4 : inB cpz 0 (old - ((1 - toh) * smz + 1)) = true
         · have h4' := h4
           simp only [inB, decide_eq_true_eq] at h4'
           rw [zu5 h3 h4]
           exact zth aw cw ws smz toh top sn old cpz sr ar cr rs w hn' hn2' s0 s1 t0 t1 f1 f2 f3 hr1 hl.symm _ _ _ _ rfl rfl rfl rfl (by omega) m1 (by omega) (by omega) (by omega) (by omega) m5 m6 (by omega) (by omega) h2 h3 (by omega) (by omega) h4 (by omega) (by omega)
         · rw [Bool.not_eq_true] at h4
           rw [zu7 h4]
           exact ztl aw cw ws smz toh top sn old cpz sr ar cr rs w hn' hn2' s0 s1 t0 t1 f1 f2 f3 hr1 hl.symm m1 m2 (by omega) (by omega) m3 m4 m5 m6 (by omega) (by omega) h2 h3 (by omega) (by omega) h4
       · rw [Bool.not_eq_true] at h3
         rw [zu6 h3]
         exact ztk aw cw ws smz toh top sn old cpz sr ar cr rs w hn' hn2' s0 s1 t0 t1 f1 f2 f3 hr1 hl.symm m1 m2 (by omega) (by omega) m3 m4 m5 m6 (by omega) (by omega) h2 h3
   · rw [Bool.not_eq_true] at h2
     have hno : zcy ws.length smz toh top cyc sn old cpz sr rs.length = false := by simp [zcy, h2]
     rw [hno]
     exact zti aw cw ws smz toh top cyc sn old cpz sr ar cr rs w hn' hn2' s0 s1 t0 t1 f1 f2 f3 hr1 hl.symm h2
 · rw [Bool.not_eq_true] at h1
   have hno : zcy ws.length smz toh top cyc sn old cpz sr rs.length = false := by simp [zcy, h1]
   simp only [ze1, decide_eq_false_iff_not] at h1
   go_enter Tryz.func90, Tryz.ntmps90
   go_upto_region 3 with (go_at_call 104; refine (zw _ _ _ _).mono ?_; rintro e w' ⟨rfl, rfl⟩)
   all_goals first
    | (go_ret; exact ⟨zbh hno.symm, (Below.refl _ _).alloc (Nat.le_refl _) _⟩)
    | (exfalso; apply h1; go_light; simp only [inB, decide_eq_true_eq] at *; unfold wrap64 at *; omega)
end Go.Proofs.YtmckcnmlhgpnhaaGreat
