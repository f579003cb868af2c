/- - -/
import Derived.Test.YtblcfbhlmdhnpaaGreatBArnA
import Derived.Laws.MakeOwn
import Derived.Deep.CutRange
namespace Go.Proofs.YtblcfbhlmdhnpaaGreat
set_option maxRecDepth 20000
open Go.RowKit
set_option linter.unusedSimpArgs false
set_option linter.unusedVariables false
theorem zh8 : (Tryz.prog.info? 88).map (fun i => (i.zero, i.size, i.bytes)) = some (some (.int .u64 0), 1, 8) := by kernel_rfl
theorem zh9 : (Tryz.prog.info? 35).map (fun i => (i.zero, i.size, i.bytes)) = some (some (.agg #[.int .i64 0, .int .i64 0]), 2, 16) := by kernel_rfl
theorem zdl (l : Int) (h0 : 0 <= l) (h1 : l <= 1048576) (w : World) : (Instr.makeSlice 30 (.int .i64 l) (.int .i64 l)).run Tryz.prog w = .ok (.slice (some ⟨w.heap.size, 0, none⟩) l.toNat l.toNat) (w.alloc (.cells (madeCells #[.int .u64 0] l.toNat) 88)) := by
 obtain ⟨i, hi, hzz⟩ := Option.map_eq_some_iff.1 zh8
 simp only [Prod.mk.injEq] at hzz
 obtain ⟨hz, hs, hb⟩ := hzz
 have := run_make (P := Tryz.prog) w 30 88 i _ Tryz.underlying30 hi hz .i64 .i64 l l h0 (Int.le_refl _) (by rw [hb]; omega) (by omega)
 rw [hs, Nat.mul_one] at this
 exact this
theorem zd6 (l : Int) (h0 : 0 <= l) (h1 : l <= 1048576) (w : World) : (Instr.makeSlice 31 (.int .i64 l) (.int .i64 l)).run Tryz.prog w = .ok (.slice (some ⟨w.heap.size, 0, none⟩) l.toNat l.toNat) (w.alloc (.cells (madeCells #[.int .i64 0, .int .i64 0] (l.toNat * 2)) 35)) := by
 obtain ⟨i, hi, hzz⟩ := Option.map_eq_some_iff.1 zh9
 simp only [Prod.mk.injEq] at hzz
 obtain ⟨hz, hs, hb⟩ := hzz
 have := run_make (P := Tryz.prog) w 31 35 i _ Tryz.underlying31 hi hz .i64 .i64 l l h0 (Int.le_refl _) (by rw [hb]; omega) (by omega)
 rw [hs] at this
 exact this
theorem zcq (w : World) (n : Nat) (t : TypeId) : (w.alloc (.cells (madeCells #[.int .i64 0, .int .i64 0] n) t)).rowIs w.heap.size t n (fun _ => .int .i64 0) :=
 ⟨_, Go.Deep.blk_alloc_new _ _, size_madeCells _ _, fun i hi => by
  have h : i % 2 = 0 \/ i % 2 = 1 := by omega
  rcases h with h | h <;> simp [madeCells, hi, h]⟩
def zbj (B T : Nat) (w : World) (vw vr : Value) (n m : Nat) (z y : Nat -> Int) : Prop :=
 ∃ b1 t1 b2 t2, B <= b1 /\ t1 <= T /\ B <= b2 /\ t2 <= T /\ (t1 <= b2 \/ t2 <= b1) /\ zy b1 t1 88 w vw n n (fun i => .int .u64 (z i)) /\ zy b2 t2 35 w vr m (2 * m) (fun i => .int .i64 (y i))
theorem zbj.below {B T C : Nat} {w w' : World} {vw vr : Value} {n m : Nat} {z y : Nat -> Int} (h : zbj B T w vw vr n m z y) (hb : Below C w w') (hT : T <= C) : zbj B T w' vw vr n m z y := by
 obtain ⟨b1, t1, b2, t2, h1, h2, h3, h4, h5, h6, h7⟩ := h
 exact ⟨b1, t1, b2, t2, h1, h2, h3, h4, h5, h6.below hb (by omega), h7.below hb (by omega)⟩
theorem zbj.sl {B T : Nat} {w : World} {vw vr : Value} {n m : Nat} {z y : Nat -> Int} (h : zbj B T w vw vr n m z y) : SlF T w vw n n (fun i => .int .u64 (z i)) /\ SlF T w vr m (2 * m) (fun i => .int .i64 (y i)) := by
 obtain ⟨b1, t1, b2, t2, h1, h2, h3, h4, h5, h6, h7⟩ := h
 exact ⟨h6.sl.mono h2, h7.sl.mono h4⟩
theorem zd7 {w W : World} {b1 b2 n m : Nat} (h1 : W.rowIs b1 88 n (fun _ => .int .u64 0)) (h2 : W.rowIs b2 35 (m * 2) (fun _ => .int .i64 0)) (hB1 : w.heap.size <= b1) (hB2 : w.heap.size <= b2) (hne : b1 ≠ b2) :
 zbj w.heap.size W.heap.size W (.slice (some ⟨b1, 0, none⟩) n n) (.slice (some ⟨b2, 0, none⟩) m m) n m (fun _ => 0) (fun _ => 0) :=
 ⟨b1, b1 + 1, b2, b2 + 1, hB1, h1.lt, hB2, h2.lt, by omega, ⟨_, _, rfl, .inr ⟨b1, n, _, rfl, Nat.le_refl _, by omega, Nat.le_refl _, h1, fun _ _ => rfl⟩⟩, ⟨_, _, rfl, .inr ⟨b2, m * 2, _, rfl, Nat.le_refl _, by omega, by omega, h2, fun _ _ => rfl⟩⟩⟩
theorem zhy (w : World) (o : Obj) (n m : Nat) (t : TypeId) :
 (((w.alloc o).alloc (.cells (madeCells #[.int .u64 0] n) 88)).alloc (.cells (madeCells #[.int .i64 0, .int .i64 0] (m * 2)) 35)).rowIs (w.heap.size + 1) 88 n (fun _ => .int .u64 0) /\
 (((w.alloc o).alloc (.cells (madeCells #[.int .u64 0] n) 88)).alloc (.cells (madeCells #[.int .i64 0, .int .i64 0] (m * 2)) 35)).rowIs (w.heap.size + 1 + 1) 35 (m * 2) (fun _ => .int .i64 0) := by
 refine ⟨?_, ?_⟩
 · have := (World.rowIs_made (w.alloc o) (.int .u64 0) n 88).alloc (.cells (madeCells #[.int .i64 0, .int .i64 0] (m * 2)) 35)
   simpa using this
 · have := zcq ((w.alloc o).alloc (.cells (madeCells #[.int .u64 0] n) 88)) (m * 2) 35
   simpa using this
theorem zhz (w : World) (o : Obj) (n m : Nat) (t : TypeId) :
 (((w.alloc o).alloc (.cells (madeCells #[.int .i64 0, .int .i64 0] (m * 2)) 35)).alloc (.cells (madeCells #[.int .u64 0] n) 88)).rowIs (w.heap.size + 1 + 1) 88 n (fun _ => .int .u64 0) /\
 (((w.alloc o).alloc (.cells (madeCells #[.int .i64 0, .int .i64 0] (m * 2)) 35)).alloc (.cells (madeCells #[.int .u64 0] n) 88)).rowIs (w.heap.size + 1) 35 (m * 2) (fun _ => .int .i64 0) := by
 refine ⟨?_, ?_⟩
 · have := World.rowIs_made ((w.alloc o).alloc (.cells (madeCells #[.int .i64 0, .int .i64 0] (m * 2)) 35)) (.int .u64 0) n 88
   simpa using this
 · have := (zcq (w.alloc o) (m * 2) 35).alloc (.cells (madeCells #[.int .u64 0] n) 88)
   simpa using this
theorem zd8 (w : World) (o1 o2 o3 : Obj) : Below w.heap.size w ((((w.alloc o1).alloc o2).alloc o3)) :=
 (((Below.refl _ _).alloc (Nat.le_refl _) _).alloc (by simp) _).alloc (by simp; omega) _
theorem za2 (smz roots : Int) (w : World) (h0 : 256 <= smz) (h1 : smz <= 4000) (h2 : 0 <= roots) (h3 : roots <= 24) :
 Calls Tryz.prog 15 #[.int .i64 smz, .int .i64 roots] w fun e w' => ∃ vw vr, e = .returned (.tuple #[.agg #[vw, .int .i64 smz, .int .i64 0, .int .i64 1, .bool false, .int .i64 0, .int .i64 0, .int .i64 0, .int .i64 1, vr], .bool true]) /\
  zbj w.heap.size w'.heap.size w' vw vr (2 * smz).toNat roots.toNat (fun _ => 0) (fun _ => 0) /\ Below w.heap.size w w' := by
 have m1 := zdl (2 * smz) (by omega) (by omega)
 have m2 := zd6 roots (by omega) (by omega)
 have f1 : inB smz 256 4000 = true := decide_eq_true ⟨h0, h1⟩
 have f2 : inB roots 0 24 = true := decide_eq_true ⟨h2, h3⟩
 go_enter Tryz.func15, Tryz.ntmps15
 go_wp2_with (go_at_call 39; refine (zl _ _ _ _).mono ?_; rintro e w' ⟨rfl, rfl⟩)
 go_region
 · go_wp2
   refine bodyPost_ret (v := .tuple #[.agg #[.slice (some ⟨w.heap.size + 1, 0, none⟩) (2 * smz).toNat (2 * smz).toNat, .int .i64 smz, .int .i64 0, .int .i64 1, .bool false, .int .i64 0, .int .i64 0, .int .i64 0, .int .i64 1, .slice (some ⟨w.heap.size + 1 + 1, 0, none⟩) roots.toNat roots.toNat], .bool true]) (by simp [results, Tryz.results15, go_sem]) rfl ⟨_, _, rfl, ?_, (zd8 w _ _ _).drew⟩
   have hr := zhy w (.cells #[.slice (some ⟨w.heap.size + 1, 0, none⟩) (2 * smz).toNat (2 * smz).toNat, .int .i64 smz, .int .i64 0, .int .i64 1, .bool false, .int .i64 0, .int .i64 0, .int .i64 0, .int .i64 1, .slice (some ⟨w.heap.size + 1 + 1, 0, none⟩) roots.toNat roots.toNat] 33) (2 * smz).toNat roots.toNat 33
   exact zd7 hr.1.drew hr.2.drew (by omega) (by omega) (by omega)
 · go_wp2
   refine bodyPost_ret (v := .tuple #[.agg #[.slice (some ⟨w.heap.size + 1 + 1, 0, none⟩) (2 * smz).toNat (2 * smz).toNat, .int .i64 smz, .int .i64 0, .int .i64 1, .bool false, .int .i64 0, .int .i64 0, .int .i64 0, .int .i64 1, .slice (some ⟨w.heap.size + 1, 0, none⟩) roots.toNat roots.toNat], .bool true]) (by simp [results, Tryz.results15, go_sem]) rfl ⟨_, _, rfl, ?_, (zd8 w _ _ _).drew⟩
   have hr := zhz w (.cells #[.slice (some ⟨w.heap.size + 1 + 1, 0, none⟩) (2 * smz).toNat (2 * smz).toNat, .int .i64 smz, .int .i64 0, .int .i64 1, .bool false, .int .i64 0, .int .i64 0, .int .i64 0, .int .i64 1, .slice (some ⟨w.heap.size + 1, 0, none⟩) roots.toNat roots.toNat] 33) (2 * smz).toNat roots.toNat 33
   exact zd7 hr.1.drew hr.2.drew (by omega) (by omega) (by omega)
theorem zcr (smz roots : Int) (w : World) (h : (inB smz 256 4000 && inB roots 0 24) = false) :
 Calls Tryz.prog 15 #[.int .i64 smz, .int .i64 roots] w fun e w' => e = .returned (.tuple #[.agg #[.slice none 0 0, .int .i64 0, .int .i64 0, .int .i64 0, .bool false, .int .i64 0, .int .i64 0, .int .i64 0, .int .i64 0, .slice none 0 0], .bool false]) /\ Below w.heap.size w w' := by
 by_cases f1 : inB smz 256 4000 = true
 · have f2 : inB roots 0 24 = false := by simpa [f1] using h
   clear h
   go_enter Tryz.func15, Tryz.ntmps15
   go_wp2_with (go_at_call 39; refine (zl _ _ _ _).mono ?_; rintro e w' ⟨rfl, rfl⟩)
   refine bodyPost_ret (v := .tuple #[.agg #[.slice none 0 0, .int .i64 0, .int .i64 0, .int .i64 0, .bool false, .int .i64 0, .int .i64 0, .int .i64 0, .int .i64 0, .slice none 0 0], .bool false]) (by simp [results, Tryz.results15, go_sem]) rfl ⟨rfl, (Below.refl _ _).alloc (Nat.le_refl _) _⟩
 · rw [Bool.not_eq_true] at f1
   clear h
   go_enter Tryz.func15, Tryz.ntmps15
   go_wp2_with (go_at_call 39; refine (zl _ _ _ _).mono ?_; rintro e w' ⟨rfl, rfl⟩)
   refine bodyPost_ret (v := .tuple #[.agg #[.slice none 0 0, .int .i64 0, .int .i64 0, .int .i64 0, .bool false, .int .i64 0, .int .i64 0, .int .i64 0, .int .i64 0, .slice none 0 0], .bool false]) (by simp [results, Tryz.results15, go_sem]) rfl ⟨rfl, (Below.refl _ _).alloc (Nat.le_refl _) _⟩
end Go.Proofs.YtblcfbhlmdhnpaaGreat
