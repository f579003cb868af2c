/- - -/
import Derived.Test.YtmckcnmlhgpnhaaGreatWArnA
import Derived.Laws.MakeOwn
import Derived.Deep.CutRange
namespace Go.Proofs.YtmckcnmlhgpnhaaGreat
set_option maxRecDepth 20000
open Go.RowKit
set_option linter.unusedSimpArgs false
set_option linter.unusedVariables false
theorem zx5 : (Tryz.prog.info? 48).map (fun i => (i.zero, i.size, i.bytes)) = some (some (.agg #[.int .i64 0, .int .i64 0]), 2, 16) := by kernel_rfl
theorem zvx (l : Int) (h0 : 0 <= l) (h1 : l <= 1048576) (w : World) : (Instr.makeSlice 28 (.int .i64 l) (.int .i64 l)).run Tryz.prog w = .ok (.slice (some ⟨w.heap.size, 0, none⟩) l.toNat l.toNat) (w.alloc (.cells (madeCells #[.int .i64 0, .int .i64 0] (l.toNat * 2)) 48)) := by
 obtain ⟨i, hi, hzz⟩ := Option.map_eq_some_iff.1 zx5
 simp only [Prod.mk.injEq] at hzz
 obtain ⟨hz, hs, hb⟩ := hzz
 have := run_make (P := Tryz.prog) w 28 48 i _ Tryz.underlying28 hi hz .i64 .i64 l l h0 (Int.le_refl _) (by rw [hb]; omega) (by omega)
 rw [hs] at this
 exact this
theorem zr3 (w : World) (n : Nat) (t : TypeId) : (w.alloc (.cells (madeCells #[.int .i64 0, .int .i64 0] n) t)).rowIs w.heap.size t n (fun _ => .int .i64 0) :=
 ⟨_, Go.Deep.blk_alloc_new _ _, size_madeCells _ _, fun i hi => by
  have h : i % 2 = 0 \/ i % 2 = 1 := by omega
  rcases h with h | h <;> simp [madeCells, hi, h]⟩
def ze8 (B T : Nat) (w : World) (vw vr : Value) (n m : Nat) (z y : Nat -> Int) : Prop :=
 ∃ b1 t1 b2 t2, B <= b1 /\ t1 <= T /\ B <= b2 /\ t2 <= T /\ (t1 <= b2 \/ t2 <= b1) /\ zaz b1 t1 100 w vw n n (fun i => .int .u64 (z i)) /\ zaz b2 t2 48 w vr m (2 * m) (fun i => .int .i64 (y i))
theorem ze8.below {B T C : Nat} {w w' : World} {vw vr : Value} {n m : Nat} {z y : Nat -> Int} (h : ze8 B T w vw vr n m z y) (hb : Below C w w') (hT : T <= C) : ze8 B T w' vw vr n m z y := by
 obtain ⟨b1, t1, b2, t2, h1, h2, h3, h4, h5, h6, h7⟩ := h
 exact ⟨b1, t1, b2, t2, h1, h2, h3, h4, h5, h6.below hb (by omega), h7.below hb (by omega)⟩
theorem ze8.sl {B T : Nat} {w : World} {vw vr : Value} {n m : Nat} {z y : Nat -> Int} (h : ze8 B T w vw vr n m z y) : SlF T w vw n n (fun i => .int .u64 (z i)) /\ SlF T w vr m (2 * m) (fun i => .int .i64 (y i)) := by
 obtain ⟨b1, t1, b2, t2, h1, h2, h3, h4, h5, h6, h7⟩ := h
 exact ⟨h6.sl.mono h2, h7.sl.mono h4⟩
theorem zt8 (vw vr : Value) (smz toh top : Int) (cyc : Bool) (sn old cpz sr : Int) (half : Int) (w : World) (s0 : 0 <= smz) (s1 : smz <= 4000) (h0 : 0 <= half) (h1 : half <= 1) :
 Calls Tryz.prog 62 #[.agg #[vw, .int .i64 smz, .int .i64 toh, .int .i64 top, .bool cyc, .int .i64 sn, .int .i64 old, .int .i64 cpz, .int .i64 sr, vr], .int .i64 half] w fun e w' => e = .returned (.int .i64 (half * smz + 1)) /\ Below w.heap.size w w' := by
 have ht : half = 0 \/ half = 1 := by omega
 rcases ht with rfl | rfl
 all_goals
  go_enter Tryz.func62, Tryz.ntmps62
  go_wp2
  go_ret
  exact ⟨zby (by omega), (Below.refl _ _).alloc (Nat.le_refl _) _⟩
end Go.Proofs.YtmckcnmlhgpnhaaGreat
