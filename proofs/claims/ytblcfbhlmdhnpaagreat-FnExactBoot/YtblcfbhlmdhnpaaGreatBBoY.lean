/- - -/
import Derived.Test.YtblcfbhlmdhnpaaGreatBImpC
namespace Go.Proofs.YtblcfbhlmdhnpaaGreat
set_option maxRecDepth 20000
open Go.RowKit
set_option linter.unusedSimpArgs false
set_option linter.unusedVariables false
set_option maxHeartbeats 2000000 in
theorem zef (aw : Option Addr) (cw : Nat) (ws : List Int) (smz toh top : Int) (sn old cp srz : Int) (ar : Option Addr) (cr : Nat) (rs : List (Int × Int)) (E : Int) (w : World) (t0 : 0 <= toh) (t1 : toh <= 1) (s0 : 256 <= smz) (s1 : smz <= 4000) (hE : (toh + 1) * smz = E) (p0 : 0 <= top) (p1 : top <= 8000) :
 Calls Tryz.prog 45 #[.agg #[.slice aw ws.length cw, .int .i64 smz, .int .i64 toh, .int .i64 top, .bool false, .int .i64 sn, .int .i64 old, .int .i64 cp, .int .i64 srz, .slice ar rs.length cr]] w fun e w' => e = .returned (.int .i64 (E - top)) /\ Below w.heap.size w w' := by
 have HE : Hid ((toh + 1) * smz = E) := hE
 have hF1 : 256 <= E /\ E <= 8000 := by
  have hh : toh = 0 \/ toh = 1 := by omega
  rcases hh with rfl | rfl <;> omega
 obtain ⟨f2, f3⟩ := hF1
 have v1 := zab (a := E) (b := top) (by omega) (by omega)
 clear hE
 have KP : ∀ W, Below (w.alloc (.cells #[.slice aw ws.length cw, .int .i64 smz, .int .i64 toh, .int .i64 top, .bool false, .int .i64 sn, .int .i64 old, .int .i64 cp, .int .i64 srz, .slice ar rs.length cr] 33)).heap.size (w.alloc (.cells #[.slice aw ws.length cw, .int .i64 smz, .int .i64 toh, .int .i64 top, .bool false, .int .i64 sn, .int .i64 old, .int .i64 cp, .int .i64 srz, .slice ar rs.length cr] 33)) W -> (Below (w.alloc (.cells #[.slice aw ws.length cw, .int .i64 smz, .int .i64 toh, .int .i64 top, .bool false, .int .i64 sn, .int .i64 old, .int .i64 cp, .int .i64 srz, .slice ar rs.length cr] 33)).heap.size (w.alloc (.cells #[.slice aw ws.length cw, .int .i64 smz, .int .i64 toh, .int .i64 top, .bool false, .int .i64 sn, .int .i64 old, .int .i64 cp, .int .i64 srz, .slice ar rs.length cr] 33)) W /\ (∀ i, W.cell? ⟨w.heap.size, i, none⟩ = (#[.slice aw ws.length cw, .int .i64 smz, .int .i64 toh, .int .i64 top, .bool false, .int .i64 sn, .int .i64 old, .int .i64 cp, .int .i64 srz, .slice ar rs.length cr] : Array Value)[i]?)) := fun W hW => ⟨hW, zbx hW (by simp)⟩
 go_enter Tryz.func45, Tryz.ntmps45
 go_wp2
 have b1' := (Below.refl (w.alloc (.cells #[.slice aw ws.length cw, .int .i64 smz, .int .i64 toh, .int .i64 top, .bool false, .int .i64 sn, .int .i64 old, .int .i64 cp, .int .i64 srz, .slice ar rs.length cr] 33)).heap.size (w.alloc (.cells #[.slice aw ws.length cw, .int .i64 smz, .int .i64 toh, .int .i64 top, .bool false, .int .i64 sn, .int .i64 old, .int .i64 cp, .int .i64 srz, .slice ar rs.length cr] 33))).drew
 go_region_held3 (fun W => Below (w.alloc (.cells #[.slice aw ws.length cw, .int .i64 smz, .int .i64 toh, .int .i64 top, .bool false, .int .i64 sn, .int .i64 old, .int .i64 cp, .int .i64 srz, .slice ar rs.length cr] 33)).heap.size (w.alloc (.cells #[.slice aw ws.length cw, .int .i64 smz, .int .i64 toh, .int .i64 top, .bool false, .int .i64 sn, .int .i64 old, .int .i64 cp, .int .i64 srz, .slice ar rs.length cr] 33)) W /\ (∀ i, W.cell? ⟨w.heap.size, i, none⟩ = (#[.slice aw ws.length cw, .int .i64 smz, .int .i64 toh, .int .i64 top, .bool false, .int .i64 sn, .int .i64 old, .int .i64 cp, .int .i64 srz, .slice ar rs.length cr] : Array Value)[i]?)) (first | exact KP _ (by assumption) | exact KP _ b1') (first | (go_at_call 78; refine (zgy _ _ _ _ _ _ _ _ _ _ _ _ _ _ E _ t0 t1 s0 s1 HE.out).mono ?_; rintro e w1 ⟨rfl, hb⟩; have hB3 := zb (w := (w.alloc (.cells #[.slice aw ws.length cw, .int .i64 smz, .int .i64 toh, .int .i64 top, .bool false, .int .i64 sn, .int .i64 old, .int .i64 cp, .int .i64 srz, .slice ar rs.length cr] 33))) (And.left (by assumption)) hb; clear hb))
 all_goals
  have k1 := zbx hB3 (by simp)
  go_wp2
  go_ret
  exact ⟨rfl, zw hB3⟩
end Go.Proofs.YtblcfbhlmdhnpaaGreat
