/- - -/
import Derived.Test.YtblcfbhlmdhnpaaGreatBNewA
namespace Go.Proofs.YtblcfbhlmdhnpaaGreat
set_option maxRecDepth 20000
open Go.RowKit
set_option linter.unusedSimpArgs false
set_option linter.unusedVariables false
theorem zcy (w : World) (o : Obj) (k : Nat) (h : k = w.heap.size) : (w.alloc o).heap[k]? = some o := by subst h; exact Go.Deep.blk_alloc_new _ _
theorem zie (w : World) (Z o1 o2 o3 : Obj) : ((((w.alloc Z).alloc o1).alloc o2).alloc o3).heap[w.heap.size]? = some Z /\ ((((w.alloc Z).alloc o1).alloc o2).alloc o3).heap[w.heap.size + 1]? = some o1 /\ ((((w.alloc Z).alloc o1).alloc o2).alloc o3).heap[w.heap.size + 1 + 1]? = some o2 /\ ((((w.alloc Z).alloc o1).alloc o2).alloc o3).heap[w.heap.size + 1 + 1 + 1]? = some o3 /\ Below w.heap.size w ((((w.alloc Z).alloc o1).alloc o2).alloc o3) := by
 refine ⟨?_, ?_, ?_, ?_, (zd8 w _ _ _).alloc (by simp <;> omega) _⟩
 · rw [Go.Deep.blk_alloc_lt _ _ _ (by simp <;> omega), Go.Deep.blk_alloc_lt _ _ _ (by simp <;> omega), Go.Deep.blk_alloc_lt _ _ _ (by simp <;> omega)]; exact zcy _ _ _ rfl
 · rw [Go.Deep.blk_alloc_lt _ _ _ (by simp <;> omega), Go.Deep.blk_alloc_lt _ _ _ (by simp <;> omega)]; exact zcy _ _ _ (by simp <;> omega)
 · rw [Go.Deep.blk_alloc_lt _ _ _ (by simp <;> omega)]; exact zcy _ _ _ (by simp <;> omega)
 · exact zcy _ _ _ (by simp <;> omega)
theorem zq (w : World) (Z o1 o2 o3 o4 : Obj) : (((((w.alloc Z).alloc o1).alloc o2).alloc o3).drew.alloc o4).heap[w.heap.size + 1]? = some o1 /\ (((((w.alloc Z).alloc o1).alloc o2).alloc o3).drew.alloc o4).heap[w.heap.size + 1 + 1]? = some o2 /\ (((((w.alloc Z).alloc o1).alloc o2).alloc o3).drew.alloc o4).heap[w.heap.size + 1 + 1 + 1]? = some o3 /\ Below w.heap.size w (((((w.alloc Z).alloc o1).alloc o2).alloc o3).drew.alloc o4) := by
 have F := zie w Z o1 o2 o3
 refine ⟨?_, ?_, ?_, F.2.2.2.2.drew.alloc (by simp <;> omega) _⟩
 · rw [Go.Deep.blk_alloc_lt _ _ _ (by simp <;> omega)]; exact F.2.1
 · rw [Go.Deep.blk_alloc_lt _ _ _ (by simp <;> omega)]; exact F.2.2.1
 · rw [Go.Deep.blk_alloc_lt _ _ _ (by simp <;> omega)]; exact F.2.2.2.1
theorem zde {W : World} {b n : Nat} (h : W.heap[b]? = some (.cells (madeCells #[.int .u64 0] n) 88)) : W.rowIs b 88 n (fun _ => .int .u64 0) :=
 ⟨_, h, size_madeCells _ _, fun i hi => by simp [madeCells, hi, Nat.mod_one]⟩
theorem zdf {W : World} {b n : Nat} (h : W.heap[b]? = some (.cells (madeCells #[.int .i64 0, .int .i64 0] n) 35)) : W.rowIs b 35 n (fun _ => .int .i64 0) :=
 ⟨_, h, size_madeCells _ _, fun i hi => by
  have h : i % 2 = 0 \/ i % 2 = 1 := by omega
  rcases h with h | h <;> simp [madeCells, hi, h]⟩
theorem zcz (smz roots : Int) (w : World) (h : (inB smz 256 4000 && inB roots 0 24) = false) :
 Calls Tryz.prog 24 #[.int .i64 smz, .int .i64 roots] w fun e w' => e = .returned (.tuple #[.agg #[.slice none 0 0, .int .i64 0, .int .i64 0, .int .i64 0, .bool false, .int .i64 0, .int .i64 0, .int .i64 0, .int .i64 0, .slice none 0 0], .bool false]) /\ Below w.heap.size w w' := by
 have h' : smz < 256 \/ 4000 < smz \/ roots < 0 \/ 24 < roots := by
  simp only [inB, Bool.and_eq_false_iff, decide_eq_false_iff_not] at h
  omega
 clear h
 by_cases d1 : smz < 256
 · go_enter Tryz.func24, Tryz.ntmps24
   go_wp2
   refine bodyPost_ret (v := .tuple #[.agg #[.slice none 0 0, .int .i64 0, .int .i64 0, .int .i64 0, .bool false, .int .i64 0, .int .i64 0, .int .i64 0, .int .i64 0, .slice none 0 0], .bool false]) (by simp [results, Tryz.results24, go_sem]) rfl ⟨rfl, (Below.refl _ _).alloc (Nat.le_refl _) _⟩
 by_cases d2 : 4000 < smz
 · go_enter Tryz.func24, Tryz.ntmps24
   go_wp2
   refine bodyPost_ret (v := .tuple #[.agg #[.slice none 0 0, .int .i64 0, .int .i64 0, .int .i64 0, .bool false, .int .i64 0, .int .i64 0, .int .i64 0, .int .i64 0, .slice none 0 0], .bool false]) (by simp [results, Tryz.results24, go_sem]) rfl ⟨rfl, (Below.refl _ _).alloc (Nat.le_refl _) _⟩
 by_cases d3 : roots < 0
 · clear h'
   go_enter Tryz.func24, Tryz.ntmps24
   go_wp2
   refine bodyPost_ret (v := .tuple #[.agg #[.slice none 0 0, .int .i64 0, .int .i64 0, .int .i64 0, .bool false, .int .i64 0, .int .i64 0, .int .i64 0, .int .i64 0, .slice none 0 0], .bool false]) (by simp [results, Tryz.results24, go_sem]) rfl ⟨rfl, (Below.refl _ _).alloc (Nat.le_refl _) _⟩
 have d4 : 24 < roots := by omega
 clear h'
 go_enter Tryz.func24, Tryz.ntmps24
 go_wp2
 refine bodyPost_ret (v := .tuple #[.agg #[.slice none 0 0, .int .i64 0, .int .i64 0, .int .i64 0, .bool false, .int .i64 0, .int .i64 0, .int .i64 0, .int .i64 0, .slice none 0 0], .bool false]) (by simp [results, Tryz.results24, go_sem]) rfl ⟨rfl, (Below.refl _ _).alloc (Nat.le_refl _) _⟩
end Go.Proofs.YtblcfbhlmdhnpaaGreat
