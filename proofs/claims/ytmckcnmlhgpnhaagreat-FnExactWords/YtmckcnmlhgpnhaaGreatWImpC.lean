/- - -/
import Derived.Test.YtmckcnmlhgpnhaaGreatWNumbersF
import Derived.Test.YtmckcnmlhgpnhaaGreatWFindA
import Derived.Test.YtmckcnmlhgpnhaaGreatWChainA
namespace Go.Proofs.YtmckcnmlhgpnhaaGreat
set_option maxRecDepth 20000
open Go.RowKit
set_option linter.unusedSimpArgs false
set_option linter.unusedVariables false
theorem zdu (aw : Option Addr) (cw : Nat) (ws : List Int) (smz toh top : Int) (cyc : Bool) (sn old cpz sr : Int) (ar : Option Addr) (cr : Nat) (rs : List (Int × Int)) (h F : Int) (w : World) (h0 : 0 <= h) (h1 : h <= 1) (s0 : 256 <= smz) (s1 : smz <= 4000) (hF : h * smz + 1 = F) :
 Calls Tryz.prog 62 #[.agg #[.slice aw ws.length cw, .int .i64 smz, .int .i64 toh, .int .i64 top, .bool cyc, .int .i64 sn, .int .i64 old, .int .i64 cpz, .int .i64 sr, .slice ar rs.length cr], .int .i64 h] w fun e w' => e = .returned (.int .i64 F) /\ Below w.heap.size w w' := by
 have hh : h = 0 \/ h = 1 := by omega
 rcases hh with rfl | rfl
 all_goals
  subst hF
  go_enter Tryz.func62, Tryz.ntmps62
  go_wp2
  go_ret
  refine ⟨zby ?_, zd (Below.refl _ _)⟩
  go_light
  omega
theorem zna (aw : Option Addr) (cw : Nat) (ws : List Int) (smz toh top : Int) (cyc : Bool) (sn old cpz sr : Int) (ar : Option Addr) (cr : Nat) (rs : List (Int × Int)) (h E : Int) (w : World) (h0 : 0 <= h) (h1 : h <= 1) (s0 : 256 <= smz) (s1 : smz <= 4000) (hE : (h + 1) * smz = E) :
 Calls Tryz.prog 144 #[.agg #[.slice aw ws.length cw, .int .i64 smz, .int .i64 toh, .int .i64 top, .bool cyc, .int .i64 sn, .int .i64 old, .int .i64 cpz, .int .i64 sr, .slice ar rs.length cr], .int .i64 h] w fun e w' => e = .returned (.int .i64 E) /\ Below w.heap.size w w' := by
 have hh : h = 0 \/ h = 1 := by omega
 rcases hh with rfl | rfl
 all_goals
  subst hE
  go_enter Tryz.func144, Tryz.ntmps144
  go_wp2
  go_ret
  refine ⟨zby ?_, zd (Below.refl _ _)⟩
  go_light
  omega
theorem zf4 (aw : Option Addr) (cw : Nat) (ws : List Int) (smz toh top : Int) (cyc : Bool) (sn old cpz sr : Int) (ar : Option Addr) (cr : Nat) (rs : List (Int × Int)) (w : World) (t0 : 0 <= toh) (t1 : toh <= 1) :
 Calls Tryz.prog 109 #[.agg #[.slice aw ws.length cw, .int .i64 smz, .int .i64 toh, .int .i64 top, .bool cyc, .int .i64 sn, .int .i64 old, .int .i64 cpz, .int .i64 sr, .slice ar rs.length cr]] w fun e w' => e = .returned (.int .i64 (1 - toh)) /\ Below w.heap.size w w' := by
 go_enter Tryz.func109, Tryz.ntmps109
 go_wp2
 go_ret
 exact ⟨rfl, zd (Below.refl _ _)⟩
theorem zdl (aw : Option Addr) (cw : Nat) (ws : List Int) (smz toh top : Int) (cyc : Bool) (sn old cpz sr : Int) (ar : Option Addr) (cr : Nat) (rs : List (Int × Int)) (h x F E : Int) (w : World) (h0 : 0 <= h) (h1 : h <= 1) (s0 : 256 <= smz) (s1 : smz <= 4000) (hF : h * smz + 1 = F) (hE : (h + 1) * smz = E) :
 Calls Tryz.prog 113 #[.agg #[.slice aw ws.length cw, .int .i64 smz, .int .i64 toh, .int .i64 top, .bool cyc, .int .i64 sn, .int .i64 old, .int .i64 cpz, .int .i64 sr, .slice ar rs.length cr], .int .i64 h, .int .i64 x] w fun e w' => e = .returned (.bool (inB x F E)) /\ Below w.heap.size w w' := by
 have HF : Hid (h * smz + 1 = F) := hF
 have HE : Hid ((h + 1) * smz = E) := hE
 clear hF hE
 by_cases hx : F <= x
 · by_cases hy : x <= E
   · have e : inB x F E = true := decide_eq_true ⟨hx, hy⟩
     rw [e]
     go_enter Tryz.func113, Tryz.ntmps113
     go_wp2_with (first | (go_at_call 62; refine (zdu _ _ _ _ _ _ _ _ _ _ _ _ _ _ h F _ h0 h1 s0 s1 HF.out).mono ?_; rintro e w1 ⟨rfl, b1⟩; have KA1 := zp b1 (by simp); have B1 := zd b1) | (go_at_call 144; refine (zna _ _ _ _ _ _ _ _ _ _ _ _ _ _ h E _ h0 h1 s0 s1 HE.out).mono ?_; rintro e w2 ⟨rfl, b2⟩))
     go_ret
     exact ⟨rfl, zc B1 b2⟩
   · have e : inB x F E = false := decide_eq_false (fun g => hy g.2)
     have hy' : decide (x <= E) = false := decide_eq_false hy
     rw [e]
     clear hy
     go_enter Tryz.func113, Tryz.ntmps113
     go_wp2_with (first | (go_at_call 62; refine (zdu _ _ _ _ _ _ _ _ _ _ _ _ _ _ h F _ h0 h1 s0 s1 HF.out).mono ?_; rintro e w1 ⟨rfl, b1⟩; have KA1 := zp b1 (by simp); have B1 := zd b1) | (go_at_call 144; refine (zna _ _ _ _ _ _ _ _ _ _ _ _ _ _ h E _ h0 h1 s0 s1 HE.out).mono ?_; rintro e w2 ⟨rfl, b2⟩))
     go_ret
     exact ⟨rfl, zc B1 b2⟩
 · have e : inB x F E = false := decide_eq_false (fun g => hx g.1)
   have hx' : decide (F <= x) = false := decide_eq_false hx
   rw [e]
   clear hx
   go_enter Tryz.func113, Tryz.ntmps113
   go_wp2_with (go_at_call 62; refine (zdu _ _ _ _ _ _ _ _ _ _ _ _ _ _ h F _ h0 h1 s0 s1 HF.out).mono ?_; rintro e w1 ⟨rfl, b1⟩; have KA1 := zp b1 (by simp); have B1 := zd b1)
   go_ret
   exact ⟨rfl, B1⟩
theorem zcl (aw : Option Addr) (cw : Nat) (ws : List Int) (smz toh top : Int) (cyc : Bool) (sn old cpz sr : Int) (ar : Option Addr) (cr : Nat) (rs : List (Int × Int)) (x F : Int) (w : World) (t0 : 0 <= toh) (t1 : toh <= 1) (s0 : 256 <= smz) (s1 : smz <= 4000) (hF : toh * smz + 1 = F) :
 Calls Tryz.prog 175 #[.agg #[.slice aw ws.length cw, .int .i64 smz, .int .i64 toh, .int .i64 top, .bool cyc, .int .i64 sn, .int .i64 old, .int .i64 cpz, .int .i64 sr, .slice ar rs.length cr], .int .i64 x] w fun e w' => e = .returned (.bool (decide (F <= x /\ x < top))) /\ Below w.heap.size w w' := by
 have HF : Hid (toh * smz + 1 = F) := hF
 clear hF
 by_cases hx : F <= x
 · by_cases hy : x < top
   · rw [decide_eq_true (show F <= x /\ x < top from ⟨hx, hy⟩)]
     go_enter Tryz.func175, Tryz.ntmps175
     go_wp2_with (go_at_call 62; refine (zdu _ _ _ _ _ _ _ _ _ _ _ _ _ _ toh F _ t0 t1 s0 s1 HF.out).mono ?_; rintro e w1 ⟨rfl, b1⟩; have KA1 := zp b1 (by simp); have B1 := zd b1)
     go_ret
     exact ⟨rfl, B1⟩
   · rw [decide_eq_false (show ¬ (F <= x /\ x < top) from fun g => hy g.2)]
     have hy' : decide (x < top) = false := decide_eq_false hy
     clear hy
     go_enter Tryz.func175, Tryz.ntmps175
     go_wp2_with (go_at_call 62; refine (zdu _ _ _ _ _ _ _ _ _ _ _ _ _ _ toh F _ t0 t1 s0 s1 HF.out).mono ?_; rintro e w1 ⟨rfl, b1⟩; have KA1 := zp b1 (by simp); have B1 := zd b1)
     go_ret
     exact ⟨rfl, B1⟩
 · rw [decide_eq_false (show ¬ (F <= x /\ x < top) from fun g => hx g.1)]
   have hx' : decide (F <= x) = false := decide_eq_false hx
   clear hx
   go_enter Tryz.func175, Tryz.ntmps175
   go_wp2_with (go_at_call 62; refine (zdu _ _ _ _ _ _ _ _ _ _ _ _ _ _ toh F _ t0 t1 s0 s1 HF.out).mono ?_; rintro e w1 ⟨rfl, b1⟩; have KA1 := zp b1 (by simp); have B1 := zd b1)
   go_ret
   exact ⟨rfl, B1⟩
theorem ze2 {a b : Int} (h0 : -100000 <= a - b) (h1 : a - b <= 100000) : IntKind.i64.wrap (a - b) = a - b := by rw [IntKind.wrap_i64]; omega
set_option maxHeartbeats 2000000 in
theorem zo8 (aw : Option Addr) (cw : Nat) (ws : List Int) (smz toh top : Int) (sn old cpz sr : Int) (ar : Option Addr) (cr : Nat) (rs : List (Int × Int)) (F : Int) (w : World) (t0 : 0 <= toh) (t1 : toh <= 1) (s0 : 256 <= smz) (s1 : smz <= 4000) (hF : (1 - toh) * smz + 1 = F) (o0 : 0 <= old) (o1 : old <= 8000) (c0 : 0 <= cpz) (c1 : cpz <= 8000) :
 Calls Tryz.prog 196 #[.agg #[.slice aw ws.length cw, .int .i64 smz, .int .i64 toh, .int .i64 top, .bool true, .int .i64 sn, .int .i64 old, .int .i64 cpz, .int .i64 sr, .slice ar rs.length cr]] w fun e w' => e = .returned (.int .i64 (old - F - cpz)) /\ Below w.heap.size w w' := by
 have HF : Hid ((1 - toh) * smz + 1 = F) := hF
 have hF1 : 1 <= F /\ F <= 4001 := by
  have hh : toh = 0 \/ toh = 1 := by omega
  rcases hh with rfl | rfl <;> omega
 obtain ⟨f0, f1⟩ := hF1
 have u0 : 0 <= 1 - toh := by omega
 have u1 : 1 - toh <= 1 := by omega
 have v1 := ze2 (a := old) (b := F) (by omega) (by omega)
 have v2 := ze2 (a := old - F) (b := cpz) (by omega) (by omega)
 clear hF
 have KP : ∀ W, Below (w.alloc (.cells #[.slice aw ws.length cw, .int .i64 smz, .int .i64 toh, .int .i64 top, .bool true, .int .i64 sn, .int .i64 old, .int .i64 cpz, .int .i64 sr, .slice ar rs.length cr] 30)).heap.size (w.alloc (.cells #[.slice aw ws.length cw, .int .i64 smz, .int .i64 toh, .int .i64 top, .bool true, .int .i64 sn, .int .i64 old, .int .i64 cpz, .int .i64 sr, .slice ar rs.length cr] 30)) W -> (Below (w.alloc (.cells #[.slice aw ws.length cw, .int .i64 smz, .int .i64 toh, .int .i64 top, .bool true, .int .i64 sn, .int .i64 old, .int .i64 cpz, .int .i64 sr, .slice ar rs.length cr] 30)).heap.size (w.alloc (.cells #[.slice aw ws.length cw, .int .i64 smz, .int .i64 toh, .int .i64 top, .bool true, .int .i64 sn, .int .i64 old, .int .i64 cpz, .int .i64 sr, .slice ar rs.length cr] 30)) W /\ (∀ i, W.cell? ⟨w.heap.size, i, none⟩ = (#[.slice aw ws.length cw, .int .i64 smz, .int .i64 toh, .int .i64 top, .bool true, .int .i64 sn, .int .i64 old, .int .i64 cpz, .int .i64 sr, .slice ar rs.length cr] : Array Value)[i]?)) := fun W hW => ⟨hW, zp hW (by simp)⟩
 go_enter Tryz.func196, Tryz.ntmps196
 go_wp2
 have b1' := (Below.refl (w.alloc (.cells #[.slice aw ws.length cw, .int .i64 smz, .int .i64 toh, .int .i64 top, .bool true, .int .i64 sn, .int .i64 old, .int .i64 cpz, .int .i64 sr, .slice ar rs.length cr] 30)).heap.size (w.alloc (.cells #[.slice aw ws.length cw, .int .i64 smz, .int .i64 toh, .int .i64 top, .bool true, .int .i64 sn, .int .i64 old, .int .i64 cpz, .int .i64 sr, .slice ar rs.length cr] 30))).drew
 go_region_held3 (fun W => Below (w.alloc (.cells #[.slice aw ws.length cw, .int .i64 smz, .int .i64 toh, .int .i64 top, .bool true, .int .i64 sn, .int .i64 old, .int .i64 cpz, .int .i64 sr, .slice ar rs.length cr] 30)).heap.size (w.alloc (.cells #[.slice aw ws.length cw, .int .i64 smz, .int .i64 toh, .int .i64 top, .bool true, .int .i64 sn, .int .i64 old, .int .i64 cpz, .int .i64 sr, .slice ar rs.length cr] 30)) W /\ (∀ i, W.cell? ⟨w.heap.size, i, none⟩ = (#[.slice aw ws.length cw, .int .i64 smz, .int .i64 toh, .int .i64 top, .bool true, .int .i64 sn, .int .i64 old, .int .i64 cpz, .int .i64 sr, .slice ar rs.length cr] : Array Value)[i]?)) (first | exact KP _ (by assumption) | exact KP _ b1') (first | (go_at_call 109; refine (zf4 _ _ _ _ _ _ _ _ _ _ _ _ _ _ _ t0 t1).mono ?_; rintro e w' ⟨rfl, hb⟩; have hB3 := zc (w := (w.alloc (.cells #[.slice aw ws.length cw, .int .i64 smz, .int .i64 toh, .int .i64 top, .bool true, .int .i64 sn, .int .i64 old, .int .i64 cpz, .int .i64 sr, .slice ar rs.length cr] 30))) (And.left (by assumption)) hb; clear hb) | (go_at_call 62; refine (zdu _ _ _ _ _ _ _ _ _ _ _ _ _ _ (1 - toh) F _ u0 u1 s0 s1 HF.out).mono ?_; rintro e w' ⟨rfl, hb⟩; have hB3 := zc (w := (w.alloc (.cells #[.slice aw ws.length cw, .int .i64 smz, .int .i64 toh, .int .i64 top, .bool true, .int .i64 sn, .int .i64 old, .int .i64 cpz, .int .i64 sr, .slice ar rs.length cr] 30))) (And.left (by assumption)) hb; clear hb))
 all_goals
  go_wp2
  go_ret
  exact ⟨rfl, zd (by assumption)⟩
set_option maxHeartbeats 2000000 in
theorem zp2 (aw : Option Addr) (cw : Nat) (ws : List Int) (smz toh top : Int) (sn old cpz sr : Int) (ar : Option Addr) (cr : Nat) (rs : List (Int × Int)) (F E : Int) (w : World) (t0 : 0 <= toh) (t1 : toh <= 1) (s0 : 256 <= smz) (s1 : smz <= 4000) (hF : (1 - toh) * smz + 1 = F) (hE : (toh + 1) * smz = E) (p0 : 0 <= top) (p1 : top <= 8000) (o0 : 0 <= old) (o1 : old <= 8000) (c0 : 0 <= cpz) (c1 : cpz <= 8000) :
 Calls Tryz.prog 167 #[.agg #[.slice aw ws.length cw, .int .i64 smz, .int .i64 toh, .int .i64 top, .bool true, .int .i64 sn, .int .i64 old, .int .i64 cpz, .int .i64 sr, .slice ar rs.length cr]] w fun e w' => e = .returned (.int .i64 (E - top - (old - F - cpz))) /\ Below w.heap.size w w' := by
 have HF : Hid ((1 - toh) * smz + 1 = F) := hF
 have HE : Hid ((toh + 1) * smz = E) := hE
 have hF1 : 1 <= F /\ F <= 4001 /\ 256 <= E /\ E <= 8000 := by
  have hh : toh = 0 \/ toh = 1 := by omega
  rcases hh with rfl | rfl <;> omega
 obtain ⟨f0, f1, f2, f3⟩ := hF1
 have v1 := ze2 (a := E) (b := top) (by omega) (by omega)
 have v2 := ze2 (a := E - top) (b := old - F - cpz) (by omega) (by omega)
 clear hF hE
 have KP : ∀ W, Below (w.alloc (.cells #[.slice aw ws.length cw, .int .i64 smz, .int .i64 toh, .int .i64 top, .bool true, .int .i64 sn, .int .i64 old, .int .i64 cpz, .int .i64 sr, .slice ar rs.length cr] 30)).heap.size (w.alloc (.cells #[.slice aw ws.length cw, .int .i64 smz, .int .i64 toh, .int .i64 top, .bool true, .int .i64 sn, .int .i64 old, .int .i64 cpz, .int .i64 sr, .slice ar rs.length cr] 30)) W -> (Below (w.alloc (.cells #[.slice aw ws.length cw, .int .i64 smz, .int .i64 toh, .int .i64 top, .bool true, .int .i64 sn, .int .i64 old, .int .i64 cpz, .int .i64 sr, .slice ar rs.length cr] 30)).heap.size (w.alloc (.cells #[.slice aw ws.length cw, .int .i64 smz, .int .i64 toh, .int .i64 top, .bool true, .int .i64 sn, .int .i64 old, .int .i64 cpz, .int .i64 sr, .slice ar rs.length cr] 30)) W /\ (∀ i, W.cell? ⟨w.heap.size, i, none⟩ = (#[.slice aw ws.length cw, .int .i64 smz, .int .i64 toh, .int .i64 top, .bool true, .int .i64 sn, .int .i64 old, .int .i64 cpz, .int .i64 sr, .slice ar rs.length cr] : Array Value)[i]?)) := fun W hW => ⟨hW, zp hW (by simp)⟩
 go_enter Tryz.func167, Tryz.ntmps167
 go_wp2
 have b1' := (Below.refl (w.alloc (.cells #[.slice aw ws.length cw, .int .i64 smz, .int .i64 toh, .int .i64 top, .bool true, .int .i64 sn, .int .i64 old, .int .i64 cpz, .int .i64 sr, .slice ar rs.length cr] 30)).heap.size (w.alloc (.cells #[.slice aw ws.length cw, .int .i64 smz, .int .i64 toh, .int .i64 top, .bool true, .int .i64 sn, .int .i64 old, .int .i64 cpz, .int .i64 sr, .slice ar rs.length cr] 30))).drew
 go_region_held3 (fun W => Below (w.alloc (.cells #[.slice aw ws.length cw, .int .i64 smz, .int .i64 toh, .int .i64 top, .bool true, .int .i64 sn, .int .i64 old, .int .i64 cpz, .int .i64 sr, .slice ar rs.length cr] 30)).heap.size (w.alloc (.cells #[.slice aw ws.length cw, .int .i64 smz, .int .i64 toh, .int .i64 top, .bool true, .int .i64 sn, .int .i64 old, .int .i64 cpz, .int .i64 sr, .slice ar rs.length cr] 30)) W /\ (∀ i, W.cell? ⟨w.heap.size, i, none⟩ = (#[.slice aw ws.length cw, .int .i64 smz, .int .i64 toh, .int .i64 top, .bool true, .int .i64 sn, .int .i64 old, .int .i64 cpz, .int .i64 sr, .slice ar rs.length cr] : Array Value)[i]?)) (first | exact KP _ (by assumption) | exact KP _ b1') (first | (go_at_call 144; refine (zna _ _ _ _ _ _ _ _ _ _ _ _ _ _ toh E _ t0 t1 s0 s1 HE.out).mono ?_; rintro e w' ⟨rfl, hb⟩; have hB3 := zc (w := (w.alloc (.cells #[.slice aw ws.length cw, .int .i64 smz, .int .i64 toh, .int .i64 top, .bool true, .int .i64 sn, .int .i64 old, .int .i64 cpz, .int .i64 sr, .slice ar rs.length cr] 30))) (And.left (by assumption)) hb; clear hb) | (go_at_call 196; refine (zo8 _ _ _ _ _ _ _ _ _ _ _ _ _ F _ t0 t1 s0 s1 HF.out o0 o1 c0 c1).mono ?_; rintro e w' ⟨rfl, hb⟩; have hB3 := zc (w := (w.alloc (.cells #[.slice aw ws.length cw, .int .i64 smz, .int .i64 toh, .int .i64 top, .bool true, .int .i64 sn, .int .i64 old, .int .i64 cpz, .int .i64 sr, .slice ar rs.length cr] 30))) (And.left (by assumption)) hb; clear hb))
 all_goals
  go_wp2
  go_ret
  exact ⟨rfl, zd (by assumption)⟩
theorem zcb (x : Int) (w : World) (h0 : 0 <= x) (h1 : x < 18446744073709551616) :
 Calls Tryz.prog 115 #[.int .u64 x] w fun e w' => e = .returned (.tuple #[.agg #[.int .i64 (rdK x), .int .i64 (rdS x), .int .i64 (rdN x)], .bool (zai x)]) /\ Below w.heap.size w w' := by
 by_cases h : zai x = true
 · have := zje x w h0 h1 h
   simpa only [rdK, rdS, rdN, h, if_true] using this
 · have h' : zai x = false := by rwa [Bool.not_eq_true] at h
   have := zjs x w h0 h1 h'
   simpa [rdK, rdS, rdN, h'] using this
theorem zc9 (x : Int) (w : World) (h0 : 0 <= x) (h1 : x < 18446744073709551616) :
 Calls Tryz.prog 158 #[.int .u64 x] w fun e w' => e = .returned (.tuple #[.int .i64 (fwP x), .bool (zca x)]) /\ w' = w := by
 by_cases h : zca x = true
 · have g := of_decide_eq_true h
   have := zip x w g.1 g.2
   simpa only [fwP, h, if_true] using this
 · rw [Bool.not_eq_true] at h
   have e : fwP x = 0 := by simp [fwP, h]
   rw [e, h]
   have g := of_decide_eq_false h
   by_cases h2 : x < 9223372036854775808
   · exact ziq x w h0 h2
   · exact zir x w (by omega) h1
theorem zd5 (v : Value) (ws : List Int) (x : Int) (p : Nat) (w : World) (hx : x = p) (hs : Sl w v ws) (hn : ws.length <= 1048576) (hw : zg ws) (h : p + 1 < ws.length) :
 Calls Tryz.prog 145 #[v, .int .i64 x] w fun e w' => e = .returned (.tuple #[.agg #[.int .i64 (rvT ws p), .int .i64 (rvN ws p)], .bool (zcn ws p)]) /\ Below w.heap.size w w' := by
 subst hx
 have hx := zac hw p
 have hg : zku ws (p : Int) = zcn ws p := by
  unfold zku zcn za
  rw [decide_eq_true (show 0 <= (p : Int) /\ (p : Int) + 1 < ws.length by omega)]
  simp
 by_cases hr : zcn ws p = true
 · obtain ⟨g1, g2⟩ := zhu hx.1 hx.2 hr
   have := zmo v ws p w hs hn hw (by rw [hg]; exact hr)
   have e1 : rvT ws p = wrap64 (ws.getD ((p : Int)).toNat 0) := by rw [Int.toNat_natCast]; simp only [rvT, hr, if_true]; exact g2.symm
   have e2 : rvN ws p = wrap64 (ws.getD (((p : Int)).toNat + 1) 0) := by rw [Int.toNat_natCast]; simp only [rvN, hr, if_true]; rfl
   rw [e1, e2, hr]
   exact this
 · rw [Bool.not_eq_true] at hr
   have e1 : rvT ws p = 0 := by simp [rvT, hr]
   have e2 : rvN ws p = 0 := by simp [rvN, hr]
   rw [e1, e2, hr]
   exact zmp v ws p w hs hn hw (by rw [hg]; exact hr)
theorem zc3 (aw : Option Addr) (cw : Nat) (ws : List Int) (smz toh top : Int) (cyc : Bool) (sn old cpz sr : Int) (ar : Option Addr) (cr : Nat) (rs : List (Int × Int)) (x : Int) (p : Nat) (w : World) (hx : x = p) (hs : Sl w (.slice aw ws.length cw) ws) (hn : ws.length <= 1048576) (hw : zg ws) (h : p < ws.length) :
 Calls Tryz.prog 81 #[.agg #[.slice aw ws.length cw, .int .i64 smz, .int .i64 toh, .int .i64 top, .bool cyc, .int .i64 sn, .int .i64 old, .int .i64 cpz, .int .i64 sr, .slice ar rs.length cr], .int .i64 x] w fun e w' => e = .returned (.agg #[.int .i64 (rdK (za ws p)), .int .i64 (rdS (za ws p)), .int .i64 (rdN (za ws p))]) /\ Below w.heap.size w w' := by
 subst hx
 obtain ⟨b, off, rfl, hl, hc⟩ := zcx hs h
 have q := hc p h
 have q' := fun o o2 => ze0 (o := o2) (Nat.lt_of_lt_of_le hl (show w.heap.size <= (w.alloc o).heap.size by simp)) (q o)
 have h1 : (p : Int) < (ws.length : Int) := by omega
 have hx := zac hw p
 clear hc q
 go_enter Tryz.func81, Tryz.ntmps81
 go_wp2_with fail
 refine (zcb _ _ hx.1 hx.2).mono ?_
 rintro e w1 ⟨rfl, b1⟩
 obtain ⟨c1, f1⟩ := zo b1
 have z1 := zeh b1
 have B1 := zae b1
 go_wp2
 have p0 : (w1.cell? ⟨w.heap.size + 1, 0, none⟩).isSome = true := by rw [c1 _ _ (by simp)]; simp [go_sem]
 have p1 : (w1.cell? ⟨w.heap.size + 1, 1, none⟩).isSome = true := by rw [c1 _ _ (by simp)]; simp [go_sem]
 have p2 : (w1.cell? ⟨w.heap.size + 1, 2, none⟩).isSome = true := by rw [c1 _ _ (by simp)]; simp [go_sem]
 have hne : w.heap.size + 1 ≠ w1.heap.size := by omega
 refine bodyPost_ret (v := .agg #[.int .i64 (rdK (za ws p)), .int .i64 (rdS (za ws p)), .int .i64 (rdN (za ws p))]) (by simp [results, Tryz.results81, go_sem, p0, p1, p2, hne, World.cell?_alloc_lt, z1]) rfl ⟨rfl, ?_⟩
 have hle : w.heap.size <= w.heap.size + 1 := Nat.le_succ _
 refine Below.alloc ?_ (by simpa using B1.size) _
 exact ((B1.setCell (p := ⟨w.heap.size + 1, 0, none⟩) hle _).setCell (p := ⟨w.heap.size + 1, 1, none⟩) hle _).setCell (p := ⟨w.heap.size + 1, 2, none⟩) hle _
theorem zj6 (aw : Option Addr) (cw : Nat) (ws : List Int) (smz toh top : Int) (cyc : Bool) (sn old cpz sr : Int) (ar : Option Addr) (cr : Nat) (rs : List (Int × Int)) (x : Int) (p : Nat) (w : World) (hx : x = p) (hs : Sl w (.slice aw ws.length cw) ws) (hn : ws.length <= 1048576) (hw : zg ws) (h : p < ws.length) :
 Calls Tryz.prog 51 #[.agg #[.slice aw ws.length cw, .int .i64 smz, .int .i64 toh, .int .i64 top, .bool cyc, .int .i64 sn, .int .i64 old, .int .i64 cpz, .int .i64 sr, .slice ar rs.length cr], .int .i64 x] w fun e w' => e = .returned (.int .i64 (rdS (za ws p) + 1)) /\ Below w.heap.size w w' := by
 have HX : Hid (x = (p : Int)) := hx
 have hfs := zfl
 obtain ⟨r0, r1⟩ := za5 (za ws p)
 clear hx
 go_enter Tryz.func51, Tryz.ntmps51
 go_wp2_with (go_at_call 81; refine (zc3 _ _ _ _ _ _ _ _ _ _ _ _ _ _ x p _ HX.out (zas hs _) hn hw h).mono ?_; rintro e w1 ⟨rfl, b1⟩)
 go_ret
 exact ⟨rfl, zd b1⟩
theorem zgg (aw : Option Addr) (cw : Nat) (ws : List Int) (smz toh top : Int) (cyc : Bool) (sn old cpz sr : Int) (ar : Option Addr) (cr : Nat) (rs : List (Int × Int)) (x : Int) (p : Nat) (w : World) (hx : x = p) (hs : Sl w (.slice aw ws.length cw) ws) (hn : ws.length <= 1048576) (hw : zg ws) (h : p + 1 < ws.length) :
 Calls Tryz.prog 122 #[.agg #[.slice aw ws.length cw, .int .i64 smz, .int .i64 toh, .int .i64 top, .bool cyc, .int .i64 sn, .int .i64 old, .int .i64 cpz, .int .i64 sr, .slice ar rs.length cr], .int .i64 x] w fun e w' => e = .returned (.agg #[.int .i64 (rvT ws p), .int .i64 (rvN ws p)]) /\ Below w.heap.size w w' := by
 have HX : Hid (x = (p : Int)) := hx
 clear hx
 go_enter Tryz.func122, Tryz.ntmps122
 go_wp2_with fail
 refine (zd5 _ ws x p _ HX.out (zas (zas hs _) _) hn hw h).mono ?_
 rintro e w1 ⟨rfl, b1⟩
 obtain ⟨c1, f1⟩ := zo b1
 have z1 := zeh b1
 have B1 := zae b1
 go_wp2
 have p0 : (w1.cell? ⟨w.heap.size + 1, 0, none⟩).isSome = true := by rw [c1 _ _ (by simp)]; simp [go_sem]
 have p1 : (w1.cell? ⟨w.heap.size + 1, 1, none⟩).isSome = true := by rw [c1 _ _ (by simp)]; simp [go_sem]
 have hne : w.heap.size + 1 ≠ w1.heap.size := by omega
 refine bodyPost_ret (v := .agg #[.int .i64 (rvT ws p), .int .i64 (rvN ws p)]) (by simp [results, Tryz.results122, go_sem, p0, p1, hne, World.cell?_alloc_lt, z1]) rfl ⟨rfl, ?_⟩
 have hle : w.heap.size <= w.heap.size + 1 := Nat.le_succ _
 refine Below.alloc ?_ (by simpa using B1.size) _
 exact (B1.setCell (p := ⟨w.heap.size + 1, 0, none⟩) hle _).setCell (p := ⟨w.heap.size + 1, 1, none⟩) hle _
theorem zfh (b off cw : Nat) (ws : List Int) (smz toh top : Int) (cyc : Bool) (sn old cpz sr : Int) (ar : Option Addr) (cr : Nat) (rs : List (Int × Int)) (t m : Int) (P : Nat) (w : World) (hP : m = P) (hb : b < w.heap.size) (hc : ∀ i, i < ws.length -> w.cell? ⟨b, off + i, none⟩ = some (.int .u64 (za ws i))) (hn : ws.length <= 1048576) (hw : zg ws) (h : P < ws.length) :
 Calls Tryz.prog 120 #[(.agg #[.slice (some ⟨b, off, none⟩) ws.length cw, .int .i64 smz, .int .i64 toh, .int .i64 top, .bool cyc, .int .i64 sn, .int .i64 old, .int .i64 cpz, .int .i64 sr, .slice ar rs.length cr]), .agg #[.int .i64 t, .int .i64 m]] w fun e w' => e = .returned (.int .i64 (zi ws P)) /\ Below w.heap.size w w' := by
 have m0 : 0 <= m := by omega
 have m1 : m < (ws.length : Int) := by omega
 have m2 : m.toNat = P := by omega
 have HP : Hid (m = (P : Int)) := hP
 have hx := zac hw P
 have q : ∀ o o2, ((w.alloc o).alloc o2).cell? ⟨b, off + P, none⟩ = some (.int .u64 (za ws P)) := fun o o2 => zx (zc6 hb) (zx hb (hc P h))
 clear hP hc
 by_cases hf : zca (za ws P) = true
 · have e : zi ws P = fwP (za ws P) := by simp [zi, hf]
   rw [e]
   go_enter Tryz.func120, Tryz.ntmps120
   go_wp2_with (go_at_call 158; refine (zc9 _ _ hx.1 hx.2).mono ?_; rintro e w1 ⟨rfl, rfl⟩)
   go_ret
   exact ⟨rfl, zae (Below.refl _ _)⟩
 · rw [Bool.not_eq_true] at hf
   have e : zi ws P = m := by simp [zi, hf]; exact HP.out.symm
   rw [e]
   go_enter Tryz.func120, Tryz.ntmps120
   go_wp2_with (go_at_call 158; refine (zc9 _ _ hx.1 hx.2).mono ?_; rintro e w1 ⟨rfl, rfl⟩)
   go_ret
   exact ⟨rfl, zae (Below.refl _ _)⟩
theorem zo7 (t : Int) (w : World) :
 Calls Tryz.prog 203 #[.int .i64 t] w fun e w' => e = .returned (.int .i64 (za2 t)) /\ w' = w := by
 go_enter Tryz.func203, Tryz.ntmps203
 go_wp2
 all_goals
  go_ret
  refine ⟨zby ?_, rfl⟩
  go_light
  simp [za2]
  simp at *
  simp [*]
def mOk (wl : Nat) (smz toh top sr : Int) (rl : Nat) : Bool := ze1 wl smz toh sr rl && zdz smz toh top
theorem zve {wl : Nat} {smz toh top sr : Int} {rl : Nat} (h : ¬ (256 <= smz /\ smz <= 4000 /\ (wl : Int) = 2 * smz)) : mOk wl smz toh top sr rl = false := by
 have : ze1 wl smz toh sr rl = false := decide_eq_false (fun g => h ⟨g.1, g.2.1, g.2.2.1⟩)
 simp [mOk, this]
theorem zxr {wl : Nat} {smz toh top sr : Int} {rl : Nat} (h : ¬ (0 <= toh /\ toh <= 1)) : mOk wl smz toh top sr rl = false := by
 have : ze1 wl smz toh sr rl = false := decide_eq_false (fun g => h ⟨g.2.2.2.1, g.2.2.2.2.1⟩)
 simp [mOk, this]
theorem zvf {wl : Nat} {smz toh top sr : Int} {rl : Nat} (h : 256 <= smz /\ smz <= 4000 /\ (wl : Int) = 2 * smz) (h' : 0 <= toh /\ toh <= 1) : mOk wl smz toh top sr rl = (inB top (toh * smz + 1) ((toh + 1) * smz) && decide (1 <= sr) && decide (sr <= 1000000000) && decide ((rl : Int) <= 24)) := by
 unfold mOk ze1 zdz
 rw [Bool.eq_iff_iff]
 simp only [Bool.and_eq_true, decide_eq_true_eq]
 constructor
 · rintro ⟨a, g⟩
   exact ⟨⟨⟨g, by omega⟩, by omega⟩, by omega⟩
 · rintro ⟨⟨⟨g, c⟩, d⟩, e⟩
   exact ⟨⟨h.1, h.2.1, h.2.2, h'.1, h'.2, c, d, by omega⟩, g⟩
set_option maxHeartbeats 1000000 in
theorem zj4 (aw : Option Addr) (cw : Nat) (ws : List Int) (smz toh top : Int) (cyc : Bool) (sn old cpz sr : Int) (ar : Option Addr) (cr : Nat) (rs : List (Int × Int)) (w : World) (hn : ws.length <= 1048576) (h : ¬ (256 <= smz /\ smz <= 4000 /\ (ws.length : Int) = 2 * smz)) :
 Calls Tryz.prog 112 #[.agg #[.slice aw ws.length cw, .int .i64 smz, .int .i64 toh, .int .i64 top, .bool cyc, .int .i64 sn, .int .i64 old, .int .i64 cpz, .int .i64 sr, .slice ar rs.length cr]] w fun e w' => e = .returned (.bool false) /\ Below w.heap.size w w' := by
 have hn' : (ws.length : Int) <= 1048576 := by omega
 by_cases h1 : smz < 256
 · go_enter Tryz.func112, Tryz.ntmps112
   go_wp2
   go_ret
   exact ⟨rfl, zd (Below.refl _ _)⟩
 · have d1 : decide (smz < 256) = false := decide_eq_false h1
   by_cases h2 : 4000 < smz
   · clear h1
     go_enter Tryz.func112, Tryz.ntmps112
     go_wp2
     go_ret
     exact ⟨rfl, zd (Below.refl _ _)⟩
   · have d2 : decide (4000 < smz) = false := decide_eq_false h2
     have d3 : ((ws.length : Int) != 2 * smz) = true := by simp; omega
     have s0 : 256 <= smz := by omega
     have s1 : smz <= 4000 := by omega
     clear h1 h2 h
     go_enter Tryz.func112, Tryz.ntmps112
     go_wp2
     go_ret
     exact ⟨rfl, zd (Below.refl _ _)⟩
set_option maxHeartbeats 1000000 in
theorem zlv (aw : Option Addr) (cw : Nat) (ws : List Int) (smz toh top : Int) (cyc : Bool) (sn old cpz sr : Int) (ar : Option Addr) (cr : Nat) (rs : List (Int × Int)) (w : World) (hn : ws.length <= 1048576) (s0 : 256 <= smz) (s1 : smz <= 4000) (d3 : ((ws.length : Int) != 2 * smz) = false) (h : ¬ (0 <= toh /\ toh <= 1)) :
 Calls Tryz.prog 112 #[.agg #[.slice aw ws.length cw, .int .i64 smz, .int .i64 toh, .int .i64 top, .bool cyc, .int .i64 sn, .int .i64 old, .int .i64 cpz, .int .i64 sr, .slice ar rs.length cr]] w fun e w' => e = .returned (.bool false) /\ Below w.heap.size w w' := by
 have hn' : (ws.length : Int) <= 1048576 := by omega
 have d1 : decide (smz < 256) = false := decide_eq_false (by omega)
 have d2 : decide (4000 < smz) = false := decide_eq_false (by omega)
 have e0 : (toh != 0) = true := by simp; omega
 have e1 : (toh != 1) = true := by simp; omega
 clear h
 go_enter Tryz.func112, Tryz.ntmps112
 go_wp2
 go_ret
 exact ⟨rfl, zd (Below.refl _ _)⟩
set_option maxHeartbeats 1000000 in
theorem zj5 (aw : Option Addr) (cw : Nat) (ws : List Int) (smz toh top : Int) (cyc : Bool) (sn old cpz sr : Int) (ar : Option Addr) (cr : Nat) (rs : List (Int × Int)) (F E : Int) (q : Bool) (w : World) (hn : ws.length <= 1048576) (hn2 : rs.length <= 1048576) (s0 : 256 <= smz) (s1 : smz <= 4000) (d3 : ((ws.length : Int) != 2 * smz) = false) (t0 : 0 <= toh) (t1 : toh <= 1) (hF : toh * smz + 1 = F) (hE : (toh + 1) * smz = E) (hq : (inB top F E && decide (1 <= sr) && decide (sr <= 1000000000) && decide ((rs.length : Int) <= 24)) = q) :
 Calls Tryz.prog 112 #[.agg #[.slice aw ws.length cw, .int .i64 smz, .int .i64 toh, .int .i64 top, .bool cyc, .int .i64 sn, .int .i64 old, .int .i64 cpz, .int .i64 sr, .slice ar rs.length cr]] w fun e w' => e = .returned (.bool q) /\ Below w.heap.size w w' := by
 have hn' : (ws.length : Int) <= 1048576 := by omega
 have hn2' : (rs.length : Int) <= 1048576 := by omega
 have d1 : decide (smz < 256) = false := decide_eq_false (by omega)
 have d2 : decide (4000 < smz) = false := decide_eq_false (by omega)
 have HF : Hid (toh * smz + 1 = F) := hF
 have HE : Hid ((toh + 1) * smz = E) := hE
 have hto : (toh != 0) = false \/ ((toh != 0) = true /\ (toh != 1) = false) := by simp; omega
 clear hF hE
 cases hi : inB top F E with
 | false =>
   rw [hi] at hq
   simp at hq
   subst hq
   rcases hto with e0 | ⟨e0, e1⟩
   all_goals
    go_enter Tryz.func112, Tryz.ntmps112
    go_wp2_with (go_at_call 113; refine (zdl _ _ _ _ _ _ _ _ _ _ _ _ _ _ toh top F E _ t0 t1 s0 s1 HF.out HE.out).mono ?_; rw [hi]; rintro e w1 ⟨rfl, b1⟩; have KA1 := zp b1 (by simp))
    go_ret
    exact ⟨rfl, zd b1⟩
 | true =>
   rw [hi] at hq
   by_cases h1 : 1 <= sr
   · by_cases h2 : sr <= 1000000000
     · by_cases h3 : (rs.length : Int) <= 24
       · obtain rfl : true = q := by rw [<- hq]; simp [h1, h2]; omega
         rcases hto with e0 | ⟨e0, e1⟩
         all_goals
          go_enter Tryz.func112, Tryz.ntmps112
          go_wp2_with (go_at_call 113; refine (zdl _ _ _ _ _ _ _ _ _ _ _ _ _ _ toh top F E _ t0 t1 s0 s1 HF.out HE.out).mono ?_; rw [hi]; rintro e w1 ⟨rfl, b1⟩; have KA1 := zp b1 (by simp))
          go_ret
          exact ⟨rfl, zd b1⟩
       · have d5 : decide ((rs.length : Int) <= 24) = false := decide_eq_false h3
         obtain rfl : false = q := by rw [<- hq, d5]; simp
         clear h3
         rcases hto with e0 | ⟨e0, e1⟩
         all_goals
          go_enter Tryz.func112, Tryz.ntmps112
          go_wp2_with (go_at_call 113; refine (zdl _ _ _ _ _ _ _ _ _ _ _ _ _ _ toh top F E _ t0 t1 s0 s1 HF.out HE.out).mono ?_; rw [hi]; rintro e w1 ⟨rfl, b1⟩; have KA1 := zp b1 (by simp))
          go_ret
          exact ⟨rfl, zd b1⟩
     · have d5 : decide (sr <= 1000000000) = false := decide_eq_false h2
       obtain rfl : false = q := by rw [<- hq, d5]; simp
       clear h2
       rcases hto with e0 | ⟨e0, e1⟩
       all_goals
        go_enter Tryz.func112, Tryz.ntmps112
        go_wp2_with (go_at_call 113; refine (zdl _ _ _ _ _ _ _ _ _ _ _ _ _ _ toh top F E _ t0 t1 s0 s1 HF.out HE.out).mono ?_; rw [hi]; rintro e w1 ⟨rfl, b1⟩; have KA1 := zp b1 (by simp))
        go_ret
        exact ⟨rfl, zd b1⟩
   · have d5 : decide (1 <= sr) = false := decide_eq_false h1
     obtain rfl : false = q := by rw [<- hq, d5]; simp
     clear h1
     rcases hto with e0 | ⟨e0, e1⟩
     all_goals
      go_enter Tryz.func112, Tryz.ntmps112
      go_wp2_with (go_at_call 113; refine (zdl _ _ _ _ _ _ _ _ _ _ _ _ _ _ toh top F E _ t0 t1 s0 s1 HF.out HE.out).mono ?_; rw [hi]; rintro e w1 ⟨rfl, b1⟩; have KA1 := zp b1 (by simp))
      go_ret
      exact ⟨rfl, zd b1⟩
theorem zg1 (aw : Option Addr) (cw : Nat) (ws : List Int) (smz toh top : Int) (cyc : Bool) (sn old cpz sr : Int) (ar : Option Addr) (cr : Nat) (rs : List (Int × Int)) (w : World) (hn : ws.length <= 1048576) (hn2 : rs.length <= 1048576) :
 Calls Tryz.prog 112 #[.agg #[.slice aw ws.length cw, .int .i64 smz, .int .i64 toh, .int .i64 top, .bool cyc, .int .i64 sn, .int .i64 old, .int .i64 cpz, .int .i64 sr, .slice ar rs.length cr]] w fun e w' => e = .returned (.bool (mOk ws.length smz toh top sr rs.length)) /\ Below w.heap.size w w' := by
 by_cases h : 256 <= smz /\ smz <= 4000 /\ (ws.length : Int) = 2 * smz
 · have d3 : ((ws.length : Int) != 2 * smz) = false := by simp; exact h.2.2
   by_cases h' : 0 <= toh /\ toh <= 1
   · rw [zvf h h']
     exact zj5 aw cw ws smz toh top cyc sn old cpz sr ar cr rs _ _ _ w hn hn2 h.1 h.2.1 d3 h'.1 h'.2 rfl rfl rfl
   · rw [zxr h']
     exact zlv aw cw ws smz toh top cyc sn old cpz sr ar cr rs w hn h.1 h.2.1 d3 h'
 · rw [zve h]
   exact zj4 aw cw ws smz toh top cyc sn old cpz sr ar cr rs w hn h
end Go.Proofs.YtmckcnmlhgpnhaaGreat
