/- - -/
import Derived.Test.YtblcfbhlmdhnpaaGreatBBoZ
import Derived.Test.YtblcfbhlmdhnpaaGreatBMcBox
import Derived.Test.YtblcfbhlmdhnpaaGreatBImpC
namespace Go.Proofs.YtblcfbhlmdhnpaaGreat
set_option maxRecDepth 20000
open Go.RowKit
set_option linter.unusedSimpArgs false
set_option linter.unusedVariables false
set_option maxHeartbeats 1000000 in
theorem ze7 (bm : Nat) (w : World) (c6 : w.cell? ⟨bm, 6, none⟩ = some (.bool false)) :
 Calls Tryz.prog 123 #[.pointer (some ⟨bm, 2, none⟩)] w fun e w' => e = .returned (.tuple #[]) /\ Below w.heap.size w w' := by
 go_enter Tryz.func123, Tryz.ntmps123
 go_wp2
 go_quiet (fail)
 go_wp2
 go_end0
 exact ⟨rfl, below_drewN (Below.refl _ _) _⟩
set_option maxHeartbeats 1000000 in
theorem zej (bm : Nat) (w : World) (lb : bm < w.heap.size) (c6 : w.cell? ⟨bm, 6, none⟩ = some (.bool false)) :
 Calls Tryz.prog 116 #[.pointer (some ⟨bm, 2, none⟩), .int .i64 2] w fun e w' => e = .returned (.int .i64 0) /\ Below w.heap.size w w' := by
 go_enter Tryz.func116, Tryz.ntmps116
 go_wp2_with fail
 refine (ze7 bm _ c6).mono ?_
 rintro e w1 ⟨rfl, b1⟩
 have c6' : w1.cell? ⟨bm, 6, none⟩ = some (.bool false) := (b1.cell (p := ⟨bm, 6, none⟩) lb).trans c6
 clear c6
 go_wp2_with fail
 go_loopw [5] (fun u5 wr => u5 = .int .i64 0 /\ wr = w1) (fun _ _ => 0)
 case atStart => exact ⟨rfl, rfl⟩
 case round =>
  obtain ⟨rfl, rfl⟩ := hrel
  go_wp2
  go_ret
  exact ⟨rfl, b1⟩
theorem zhn (bw br nw : Nat) (smz : Int) (T : Nat) (ser : Int) (w : World) (s0 : 256 <= smz) (s1 : smz <= 4000) :
 Calls Tryz.prog 51 #[.agg #[.slice (some ⟨bw, 0, none⟩) nw nw, .int .i64 smz, .int .i64 0, .int .i64 (T : Int), .bool false, .int .i64 0, .int .i64 0, .int .i64 0, .int .i64 (ser), .slice (some ⟨br, 0, none⟩) 6 6], .int .i64 0] w fun e w' => e = .returned (.int .i64 1) /\ Below w.heap.size w w' := by
 have := zg1 (some ⟨bw, 0, none⟩) nw (List.replicate nw 0) smz 0 (T : Int) false 0 0 0 ser (some ⟨br, 0, none⟩) 6 (List.replicate 6 (0, 0)) 0 1 w (by omega) (by omega) s0 s1 (by omega)
 rw [List.length_replicate] at this
 exact this
theorem zgl (bw br nw : Nat) (smz : Int) (T : Nat) (ser : Int) (w : World) (s0 : 256 <= smz) (s1 : smz <= 4000) (hT : T <= 8000) :
 Calls Tryz.prog 109 #[.agg #[.slice (some ⟨bw, 0, none⟩) nw nw, .int .i64 smz, .int .i64 0, .int .i64 (T : Int), .bool false, .int .i64 0, .int .i64 0, .int .i64 0, .int .i64 (ser), .slice (some ⟨br, 0, none⟩) 6 6]] w fun e w' => e = .returned (.int .i64 (smz - (T : Int))) /\ Below w.heap.size w w' := by
 have := zhl (some ⟨bw, 0, none⟩) nw (List.replicate nw 0) smz 0 (T : Int) 0 0 0 ser (some ⟨br, 0, none⟩) 6 (List.replicate 6 (0, 0)) smz w (by omega) (by omega) s0 s1 (by omega) (by omega) (by omega)
 rw [List.length_replicate] at this
 exact this
set_option maxHeartbeats 2000000 in
theorem zek (a1 : Option Addr) (L c1 : Nat) (a2 : Option Addr) (n c2 bw br nw : Nat) (smz : Int) (bm T : Nat) (ser : Int) (w : World) (X : za w bm 37 #[.slice a1 L c1, .slice a2 n c2, .slice (some ⟨bw, 0, none⟩) nw nw, .int .i64 smz, .int .i64 0, .int .i64 (T : Int), .bool false, .int .i64 0, .int .i64 0, .int .i64 0, .int .i64 (ser), .slice (some ⟨br, 0, none⟩) 6 6, .bool false, .bool false, .bool false, .int .i64 0, .int .i64 0, .int .i64 0, .int .i64 0, .slice none 0 0]) (s0 : 256 <= smz) (s1 : smz <= 4000) (t1 : 1 <= T) (t2 : 2 * ((T : Int) - 1) <= smz - 1) :
 Calls Tryz.prog 108 #[.pointer (some ⟨bm, 2, none⟩)] w fun e w' => e = .returned (.tuple #[]) /\ Below w.heap.size w w' := by
 have KA := X.cell
 have lbm := X.lt
 have v1 := zab (a := (T : Int)) (b := 1) (by omega) (by omega)
 have v2 := zab (a := smz) (b := 1) (by omega) (by omega)
 have v3 : IntKind.i64.wrap (2 * ((T : Int) - 1)) = 2 * ((T : Int) - 1) := by rw [IntKind.wrap_i64]; omega
 have KP : ∀ V, Below w.heap.size w V -> (Below w.heap.size w V /\ (∀ i, V.cell? ⟨bm, i, none⟩ = (#[.slice a1 L c1, .slice a2 n c2, .slice (some ⟨bw, 0, none⟩) nw nw, .int .i64 smz, .int .i64 0, .int .i64 (T : Int), .bool false, .int .i64 0, .int .i64 0, .int .i64 0, .int .i64 (ser), .slice (some ⟨br, 0, none⟩) 6 6, .bool false, .bool false, .bool false, .int .i64 0, .int .i64 0, .int .i64 0, .int .i64 0, .slice none 0 0] : Array Value)[i]?)) := fun V hV => ⟨hV, (X.below hV lbm).cell⟩
 have bd' := (Below.refl w.heap.size w).drew
 have HX : Hid (za w bm 37 #[.slice a1 L c1, .slice a2 n c2, .slice (some ⟨bw, 0, none⟩) nw nw, .int .i64 smz, .int .i64 0, .int .i64 (T : Int), .bool false, .int .i64 0, .int .i64 0, .int .i64 0, .int .i64 (ser), .slice (some ⟨br, 0, none⟩) 6 6, .bool false, .bool false, .bool false, .int .i64 0, .int .i64 0, .int .i64 0, .int .i64 0, .slice none 0 0]) := X
 clear X
 go_enter Tryz.func108, Tryz.ntmps108
 go_wp2_with fail
 go_region_held3 (fun V => Below w.heap.size w V /\ (∀ i, V.cell? ⟨bm, i, none⟩ = (#[.slice a1 L c1, .slice a2 n c2, .slice (some ⟨bw, 0, none⟩) nw nw, .int .i64 smz, .int .i64 0, .int .i64 (T : Int), .bool false, .int .i64 0, .int .i64 0, .int .i64 0, .int .i64 (ser), .slice (some ⟨br, 0, none⟩) 6 6, .bool false, .bool false, .bool false, .int .i64 0, .int .i64 0, .int .i64 0, .int .i64 0, .slice none 0 0] : Array Value)[i]?)) (first | assumption | exact KP _ bd' | exact KP _ (by assumption)) (first | (go_at_call 51; refine (zhn bw br nw smz T ser _ s0 s1).mono ?_; rintro e wl ⟨rfl, bb⟩; have hBl := zb (w := w) (And.left (by assumption)) bb; clear bb))
 rename_i hHl
 clear hHl KP bd' KA
 have Xl := HX.out.below hBl lbm
 have KA := Xl.cell
 have c6 : wl.cell? ⟨bm, 6, none⟩ = some (.bool false) := KA 6
 have h3 : ¬ (smz - 1 < 2 * ((T : Int) - 1)) := by omega
 go_wp2_with fail
 refine (zej bm _ Xl.lt c6).mono ?_
 rintro e w2 ⟨rfl, b2⟩
 go_wp2
 go_end0
 exact ⟨rfl, zb hBl b2⟩
end Go.Proofs.YtblcfbhlmdhnpaaGreat
