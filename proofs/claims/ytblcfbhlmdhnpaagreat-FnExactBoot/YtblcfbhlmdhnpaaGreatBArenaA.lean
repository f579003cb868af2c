/- - -/
import Derived.Test.YtblcfbhlmdhnpaaGreatBSliceA
import Derived.Test.YtblcfbhlmdhnpaaGreatBReadA
namespace Go.Proofs.YtblcfbhlmdhnpaaGreat
set_option maxRecDepth 20000
open Go.RowKit
set_option linter.unusedSimpArgs false
set_option linter.unusedVariables false
def zj (ws : List Int) (p : Nat) : Int := ws.getD p 0
theorem zez (aw : Option Addr) (cw : Nat) (ws : List Int) (smz toh top : Int) (cyc : Bool) (sn old cp srz : Int) (ar : Option Addr) (cr : Nat) (rs : List (Int × Int)) (h : Int) (w : World) (h0 : 0 <= h) (h1 : h <= 1) (s0 : 256 <= smz) (s1 : smz <= 4000) :
 Calls Tryz.prog 41 #[.agg #[.slice aw ws.length cw, .int .i64 smz, .int .i64 toh, .int .i64 top, .bool cyc, .int .i64 sn, .int .i64 old, .int .i64 cp, .int .i64 srz, .slice ar rs.length cr], .int .i64 h] w fun e w' => e = .returned (.int .i64 (h * smz + 1)) /\ Below w.heap.size w w' := by
 have m0 : 0 <= h * smz := Int.mul_nonneg h0 (by omega)
 have m1 : h * smz <= 4000 := by
  have : h = 0 \/ h = 1 := by omega
  rcases this with rfl | rfl <;> omega
 go_enter Tryz.func41, Tryz.ntmps41
 go_wp2
 go_ret
 exact ⟨rfl, (Below.refl _ _).alloc (Nat.le_refl _) _⟩
theorem zf8 (aw : Option Addr) (cw : Nat) (ws : List Int) (smz toh top : Int) (cyc : Bool) (sn old cp srz : Int) (ar : Option Addr) (cr : Nat) (rs : List (Int × Int)) (w : World) (h0 : 0 <= toh) (h1 : toh <= 1) (s0 : 256 <= smz) (s1 : smz <= 4000) :
 Calls Tryz.prog 78 #[.agg #[.slice aw ws.length cw, .int .i64 smz, .int .i64 toh, .int .i64 top, .bool cyc, .int .i64 sn, .int .i64 old, .int .i64 cp, .int .i64 srz, .slice ar rs.length cr]] w fun e w' => e = .returned (.int .i64 ((toh + 1) * smz)) /\ Below w.heap.size w w' := by
 have m0 : 0 <= (toh + 1) * smz := Int.mul_nonneg (by omega) (by omega)
 have m1 : (toh + 1) * smz <= 8000 := by
  have : toh = 0 \/ toh = 1 := by omega
  rcases this with rfl | rfl <;> omega
 go_enter Tryz.func78, Tryz.ntmps78
 go_wp2
 go_ret
 exact ⟨rfl, (Below.refl _ _).alloc (Nat.le_refl _) _⟩
theorem zcu (aw : Option Addr) (cw : Nat) (ws : List Int) (smz toh top : Int) (cyc : Bool) (sn old cp srz : Int) (ar : Option Addr) (cr : Nat) (rs : List (Int × Int)) (h F : Int) (w : World) (h0 : 0 <= h) (h1 : h <= 1) (s0 : 256 <= smz) (s1 : smz <= 4000) (hF : h * smz + 1 = F) :
 Calls Tryz.prog 41 #[.agg #[.slice aw ws.length cw, .int .i64 smz, .int .i64 toh, .int .i64 top, .bool cyc, .int .i64 sn, .int .i64 old, .int .i64 cp, .int .i64 srz, .slice ar rs.length cr], .int .i64 h] w fun e w' => e = .returned (.int .i64 F) /\ Below w.heap.size w w' := by
 subst hF
 exact zez aw cw ws smz toh top cyc sn old cp srz ar cr rs h w h0 h1 s0 s1
theorem zgy (aw : Option Addr) (cw : Nat) (ws : List Int) (smz toh top : Int) (cyc : Bool) (sn old cp srz : Int) (ar : Option Addr) (cr : Nat) (rs : List (Int × Int)) (E : Int) (w : World) (h0 : 0 <= toh) (h1 : toh <= 1) (s0 : 256 <= smz) (s1 : smz <= 4000) (hE : (toh + 1) * smz = E) :
 Calls Tryz.prog 78 #[.agg #[.slice aw ws.length cw, .int .i64 smz, .int .i64 toh, .int .i64 top, .bool cyc, .int .i64 sn, .int .i64 old, .int .i64 cp, .int .i64 srz, .slice ar rs.length cr]] w fun e w' => e = .returned (.int .i64 E) /\ Below w.heap.size w w' := by
 subst hE
 exact zf8 aw cw ws smz toh top cyc sn old cp srz ar cr rs w h0 h1 s0 s1
end Go.Proofs.YtblcfbhlmdhnpaaGreat
