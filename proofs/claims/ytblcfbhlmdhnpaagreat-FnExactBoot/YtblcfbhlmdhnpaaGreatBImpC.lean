/- - -/
import Derived.Test.YtblcfbhlmdhnpaaGreatBNumbersF
import Derived.Test.YtblcfbhlmdhnpaaGreatBSameA
namespace Go.Proofs.YtblcfbhlmdhnpaaGreat
set_option maxRecDepth 20000
open Go.RowKit
set_option linter.unusedSimpArgs false
set_option linter.unusedVariables false
theorem zg1 (aw : Option Addr) (cw : Nat) (ws : List Int) (smz toh top : Int) (cyc : Bool) (sn old cp srz : Int) (ar : Option Addr) (cr : Nat) (rs : List (Int × Int)) (h F : Int) (w : World) (h0 : 0 <= h) (h1 : h <= 1) (s0 : 256 <= smz) (s1 : smz <= 4000) (hF : h * smz + 1 = F) :
 Calls Tryz.prog 51 #[.agg #[.slice aw ws.length cw, .int .i64 smz, .int .i64 toh, .int .i64 top, .bool cyc, .int .i64 sn, .int .i64 old, .int .i64 cp, .int .i64 srz, .slice ar rs.length cr], .int .i64 h] w fun e w' => e = .returned (.int .i64 F) /\ Below w.heap.size w w' := by
 have hh : h = 0 \/ h = 1 := by omega
 rcases hh with rfl | rfl
 all_goals
  subst hF
  go_enter Tryz.func51, Tryz.ntmps51
  go_wp2
  go_ret
  refine ⟨zc5 ?_, zw (Below.refl _ _)⟩
  go_light
  omega
theorem zh2 (aw : Option Addr) (cw : Nat) (ws : List Int) (smz toh top : Int) (cyc : Bool) (sn old cp srz : Int) (ar : Option Addr) (cr : Nat) (rs : List (Int × Int)) (h E : Int) (w : World) (h0 : 0 <= h) (h1 : h <= 1) (s0 : 256 <= smz) (s1 : smz <= 4000) (hE : (h + 1) * smz = E) :
 Calls Tryz.prog 117 #[.agg #[.slice aw ws.length cw, .int .i64 smz, .int .i64 toh, .int .i64 top, .bool cyc, .int .i64 sn, .int .i64 old, .int .i64 cp, .int .i64 srz, .slice ar rs.length cr], .int .i64 h] w fun e w' => e = .returned (.int .i64 E) /\ Below w.heap.size w w' := by
 have hh : h = 0 \/ h = 1 := by omega
 rcases hh with rfl | rfl
 all_goals
  subst hE
  go_enter Tryz.func117, Tryz.ntmps117
  go_wp2
  go_ret
  refine ⟨zc5 ?_, zw (Below.refl _ _)⟩
  go_light
  omega
theorem ze6 (aw : Option Addr) (cw : Nat) (ws : List Int) (smz toh top : Int) (sn old cp srz : Int) (ar : Option Addr) (cr : Nat) (rs : List (Int × Int)) (w : World) :
 Calls Tryz.prog 118 #[.agg #[.slice aw ws.length cw, .int .i64 smz, .int .i64 toh, .int .i64 top, .bool false, .int .i64 sn, .int .i64 old, .int .i64 cp, .int .i64 srz, .slice ar rs.length cr]] w fun e w' => e = .returned (.int .i64 0) /\ Below w.heap.size w w' := by
 go_enter Tryz.func118, Tryz.ntmps118
 go_wp2
 go_ret
 exact ⟨rfl, zw (Below.refl _ _)⟩
theorem zab {a b : Int} (h0 : -100000 <= a - b) (h1 : a - b <= 100000) : IntKind.i64.wrap (a - b) = a - b := by rw [IntKind.wrap_i64]; omega
set_option maxHeartbeats 2000000 in
theorem zhl (aw : Option Addr) (cw : Nat) (ws : List Int) (smz toh top : Int) (sn old cp srz : Int) (ar : Option Addr) (cr : Nat) (rs : List (Int × Int)) (E : Int) (w : World) (t0 : 0 <= toh) (t1 : toh <= 1) (s0 : 256 <= smz) (s1 : smz <= 4000) (hE : (toh + 1) * smz = E) (p0 : 0 <= top) (p1 : top <= 8000) :
 Calls Tryz.prog 109 #[.agg #[.slice aw ws.length cw, .int .i64 smz, .int .i64 toh, .int .i64 top, .bool false, .int .i64 sn, .int .i64 old, .int .i64 cp, .int .i64 srz, .slice ar rs.length cr]] w fun e w' => e = .returned (.int .i64 (E - top)) /\ Below w.heap.size w w' := by
 have HE : Hid ((toh + 1) * smz = E) := hE
 have hF1 : 256 <= E /\ E <= 8000 := by
  have hh : toh = 0 \/ toh = 1 := by omega
  rcases hh with rfl | rfl <;> omega
 obtain ⟨f2, f3⟩ := hF1
 have v1 := zab (a := E) (b := top) (by omega) (by omega)
 have v2 := zab (a := E - top) (b := 0) (by omega) (by omega)
 clear hE
 have KP : ∀ W, Below (w.alloc (.cells #[.slice aw ws.length cw, .int .i64 smz, .int .i64 toh, .int .i64 top, .bool false, .int .i64 sn, .int .i64 old, .int .i64 cp, .int .i64 srz, .slice ar rs.length cr] 33)).heap.size (w.alloc (.cells #[.slice aw ws.length cw, .int .i64 smz, .int .i64 toh, .int .i64 top, .bool false, .int .i64 sn, .int .i64 old, .int .i64 cp, .int .i64 srz, .slice ar rs.length cr] 33)) W -> (Below (w.alloc (.cells #[.slice aw ws.length cw, .int .i64 smz, .int .i64 toh, .int .i64 top, .bool false, .int .i64 sn, .int .i64 old, .int .i64 cp, .int .i64 srz, .slice ar rs.length cr] 33)).heap.size (w.alloc (.cells #[.slice aw ws.length cw, .int .i64 smz, .int .i64 toh, .int .i64 top, .bool false, .int .i64 sn, .int .i64 old, .int .i64 cp, .int .i64 srz, .slice ar rs.length cr] 33)) W /\ (∀ i, W.cell? ⟨w.heap.size, i, none⟩ = (#[.slice aw ws.length cw, .int .i64 smz, .int .i64 toh, .int .i64 top, .bool false, .int .i64 sn, .int .i64 old, .int .i64 cp, .int .i64 srz, .slice ar rs.length cr] : Array Value)[i]?)) := fun W hW => ⟨hW, zbx hW (by simp)⟩
 go_enter Tryz.func109, Tryz.ntmps109
 go_wp2
 have b1' := (Below.refl (w.alloc (.cells #[.slice aw ws.length cw, .int .i64 smz, .int .i64 toh, .int .i64 top, .bool false, .int .i64 sn, .int .i64 old, .int .i64 cp, .int .i64 srz, .slice ar rs.length cr] 33)).heap.size (w.alloc (.cells #[.slice aw ws.length cw, .int .i64 smz, .int .i64 toh, .int .i64 top, .bool false, .int .i64 sn, .int .i64 old, .int .i64 cp, .int .i64 srz, .slice ar rs.length cr] 33))).drew
 go_region_held3 (fun W => Below (w.alloc (.cells #[.slice aw ws.length cw, .int .i64 smz, .int .i64 toh, .int .i64 top, .bool false, .int .i64 sn, .int .i64 old, .int .i64 cp, .int .i64 srz, .slice ar rs.length cr] 33)).heap.size (w.alloc (.cells #[.slice aw ws.length cw, .int .i64 smz, .int .i64 toh, .int .i64 top, .bool false, .int .i64 sn, .int .i64 old, .int .i64 cp, .int .i64 srz, .slice ar rs.length cr] 33)) W /\ (∀ i, W.cell? ⟨w.heap.size, i, none⟩ = (#[.slice aw ws.length cw, .int .i64 smz, .int .i64 toh, .int .i64 top, .bool false, .int .i64 sn, .int .i64 old, .int .i64 cp, .int .i64 srz, .slice ar rs.length cr] : Array Value)[i]?)) (first | exact KP _ (by assumption) | exact KP _ b1') (first | (go_at_call 117; refine (zh2 _ _ _ _ _ _ _ _ _ _ _ _ _ _ toh E _ t0 t1 s0 s1 HE.out).mono ?_; rintro e w' ⟨rfl, hb⟩; have hB3 := zb (w := (w.alloc (.cells #[.slice aw ws.length cw, .int .i64 smz, .int .i64 toh, .int .i64 top, .bool false, .int .i64 sn, .int .i64 old, .int .i64 cp, .int .i64 srz, .slice ar rs.length cr] 33))) (And.left (by assumption)) hb; clear hb) | (go_at_call 118; refine (ze6 _ _ _ _ _ _ _ _ _ _ _ _ _ _).mono ?_; rintro e w' ⟨rfl, hb⟩; have hB3 := zb (w := (w.alloc (.cells #[.slice aw ws.length cw, .int .i64 smz, .int .i64 toh, .int .i64 top, .bool false, .int .i64 sn, .int .i64 old, .int .i64 cp, .int .i64 srz, .slice ar rs.length cr] 33))) (And.left (by assumption)) hb; clear hb))
 all_goals
  go_wp2
  go_ret
  exact ⟨zc5 (by go_light; omega), zw (by assumption)⟩
end Go.Proofs.YtblcfbhlmdhnpaaGreat
