/- NewArena of the program. -/
import Derived.Test.YtkcnahmimhljpaaProg
import Derived.Test.YtkcnahmimhljpaaNewA
import Derived.Deep.CutRange
namespace Go.Proofs.Ytkcnahmimhljpaa
set_option maxRecDepth 20000
open Go.RowKit
set_option linter.unusedSimpArgs false
set_option linter.unusedVariables false

theorem blk_at (w : World) (o : Obj) (k : Nat) (h : k = w.heap.size) : (w.alloc o).heap[k]? = some o := by subst h; exact Go.Deep.blk_alloc_new _ _
theorem four (w : World) (Z o1 o2 o3 : Obj) : ((((w.alloc Z).alloc o1).alloc o2).alloc o3).heap[w.heap.size]? = some Z ∧ ((((w.alloc Z).alloc o1).alloc o2).alloc o3).heap[w.heap.size + 1]? = some o1 ∧ ((((w.alloc Z).alloc o1).alloc o2).alloc o3).heap[w.heap.size + 1 + 1]? = some o2 ∧ ((((w.alloc Z).alloc o1).alloc o2).alloc o3).heap[w.heap.size + 1 + 1 + 1]? = some o3 ∧ Below w.heap.size w ((((w.alloc Z).alloc o1).alloc o2).alloc o3) := by
  refine ⟨?_, ?_, ?_, ?_, (below3 w _ _ _).alloc (by simp <;> omega) _⟩
  · rw [Go.Deep.blk_alloc_lt _ _ _ (by simp <;> omega), Go.Deep.blk_alloc_lt _ _ _ (by simp <;> omega), Go.Deep.blk_alloc_lt _ _ _ (by simp <;> omega)]; exact blk_at _ _ _ rfl
  · rw [Go.Deep.blk_alloc_lt _ _ _ (by simp <;> omega), Go.Deep.blk_alloc_lt _ _ _ (by simp <;> omega)]; exact blk_at _ _ _ (by simp <;> omega)
  · rw [Go.Deep.blk_alloc_lt _ _ _ (by simp <;> omega)]; exact blk_at _ _ _ (by simp <;> omega)
  · exact blk_at _ _ _ (by simp <;> omega)
theorem five (w : World) (Z o1 o2 o3 o4 : Obj) : (((((w.alloc Z).alloc o1).alloc o2).alloc o3).drew.alloc o4).heap[w.heap.size + 1]? = some o1 ∧ (((((w.alloc Z).alloc o1).alloc o2).alloc o3).drew.alloc o4).heap[w.heap.size + 1 + 1]? = some o2 ∧ (((((w.alloc Z).alloc o1).alloc o2).alloc o3).drew.alloc o4).heap[w.heap.size + 1 + 1 + 1]? = some o3 ∧ Below w.heap.size w (((((w.alloc Z).alloc o1).alloc o2).alloc o3).drew.alloc o4) := by
  have F := four w Z o1 o2 o3
  refine ⟨?_, ?_, ?_, F.2.2.2.2.drew.alloc (by simp <;> omega) _⟩
  · rw [Go.Deep.blk_alloc_lt _ _ _ (by simp <;> omega)]; exact F.2.1
  · rw [Go.Deep.blk_alloc_lt _ _ _ (by simp <;> omega)]; exact F.2.2.1
  · rw [Go.Deep.blk_alloc_lt _ _ _ (by simp <;> omega)]; exact F.2.2.2.1
theorem rowW {W : World} {b n : Nat} (h : W.heap[b]? = some (.cells (madeCells #[.int .u64 0] n) 55)) : W.rowIs b 55 n (fun _ => .int .u64 0) :=
  ⟨_, h, size_madeCells _ _, fun i hi => by simp [madeCells, hi, Nat.mod_one]⟩
theorem rowV {W : World} {b n : Nat} (h : W.heap[b]? = some (.cells (madeCells #[.int .i64 0, .int .i64 0] n) 58)) : W.rowIs b 58 n (fun _ => .int .i64 0) :=
  ⟨_, h, size_madeCells _ _, fun i hi => by
    have h : i % 2 = 0 ∨ i % 2 = 1 := by omega
    rcases h with h | h <;> simp [madeCells, hi, h]⟩
set_option maxHeartbeats 1000000 in
theorem implNewArena_yes (semi roots : Int) (w : World) (h0 : 256 ≤ semi) (h1 : semi ≤ 4000) (h2 : 0 ≤ roots) (h3 : roots ≤ 24) :
    Calls Try.prog 11 #[.int .i64 semi, .int .i64 roots] w fun e w' => ∃ vw vr, e = .returned (.tuple #[.agg #[vw, .int .i64 semi, .int .i64 0, .int .i64 1, .bool false, .int .i64 0, .int .i64 0, .int .i64 0, .int .i64 1, vr], .bool true]) ∧
      OwnAr w.heap.size w'.heap.size w' vw vr (2 * semi).toNat roots.toNat (fun _ => 0) (fun _ => 0) ∧ Below w.heap.size w w' := by
  have m1 := makeWords (2 * semi) (by omega) (by omega)
  have m2 := makeVals roots (by omega) (by omega)
  have d1 : ¬ semi < 256 := by omega
  have d2 : ¬ 4000 < semi := by omega
  have d3 : ¬ roots < 0 := by omega
  have d4 : ¬ 24 < roots := by omega
  go_enter Try.func11, Try.ntmps11
  go_upto_region 3 with fail
  go_region
  all_goals
    go_wp2_with (go_in)
    go_light
    first | (refine bodyPost_ret (v := .tuple #[.agg #[.slice (some ⟨w.heap.size + 1, 0, none⟩) (2 * semi).toNat (2 * semi).toNat, .int .i64 semi, .int .i64 0, .int .i64 1, .bool false, .int .i64 0, .int .i64 0, .int .i64 0, .int .i64 1, .slice (some ⟨w.heap.size + 1 + 1, 0, none⟩) roots.toNat roots.toNat], .bool true]) (by simp [results, Try.results11, go_sem]) rfl ⟨_, _, rfl, ownAr_mk (rowW (by first | exact (five _ _ _ _ _ _).1 | exact (five _ _ _ _ _ _).2.1 | exact (five _ _ _ _ _ _).2.2.1)) (rowV (by first | exact (five _ _ _ _ _ _).1 | exact (five _ _ _ _ _ _).2.1 | exact (five _ _ _ _ _ _).2.2.1)) (by omega) (by omega) (by omega), (five _ _ _ _ _ _).2.2.2⟩) | (refine bodyPost_ret (v := .tuple #[.agg #[.slice (some ⟨w.heap.size + 1, 0, none⟩) (2 * semi).toNat (2 * semi).toNat, .int .i64 semi, .int .i64 0, .int .i64 1, .bool false, .int .i64 0, .int .i64 0, .int .i64 0, .int .i64 1, .slice (some ⟨w.heap.size + 1 + 1 + 1, 0, none⟩) roots.toNat roots.toNat], .bool true]) (by simp [results, Try.results11, go_sem]) rfl ⟨_, _, rfl, ownAr_mk (rowW (by first | exact (five _ _ _ _ _ _).1 | exact (five _ _ _ _ _ _).2.1 | exact (five _ _ _ _ _ _).2.2.1)) (rowV (by first | exact (five _ _ _ _ _ _).1 | exact (five _ _ _ _ _ _).2.1 | exact (five _ _ _ _ _ _).2.2.1)) (by omega) (by omega) (by omega), (five _ _ _ _ _ _).2.2.2⟩) | (refine bodyPost_ret (v := .tuple #[.agg #[.slice (some ⟨w.heap.size + 1 + 1, 0, none⟩) (2 * semi).toNat (2 * semi).toNat, .int .i64 semi, .int .i64 0, .int .i64 1, .bool false, .int .i64 0, .int .i64 0, .int .i64 0, .int .i64 1, .slice (some ⟨w.heap.size + 1, 0, none⟩) roots.toNat roots.toNat], .bool true]) (by simp [results, Try.results11, go_sem]) rfl ⟨_, _, rfl, ownAr_mk (rowW (by first | exact (five _ _ _ _ _ _).1 | exact (five _ _ _ _ _ _).2.1 | exact (five _ _ _ _ _ _).2.2.1)) (rowV (by first | exact (five _ _ _ _ _ _).1 | exact (five _ _ _ _ _ _).2.1 | exact (five _ _ _ _ _ _).2.2.1)) (by omega) (by omega) (by omega), (five _ _ _ _ _ _).2.2.2⟩) | (refine bodyPost_ret (v := .tuple #[.agg #[.slice (some ⟨w.heap.size + 1 + 1, 0, none⟩) (2 * semi).toNat (2 * semi).toNat, .int .i64 semi, .int .i64 0, .int .i64 1, .bool false, .int .i64 0, .int .i64 0, .int .i64 0, .int .i64 1, .slice (some ⟨w.heap.size + 1 + 1 + 1, 0, none⟩) roots.toNat roots.toNat], .bool true]) (by simp [results, Try.results11, go_sem]) rfl ⟨_, _, rfl, ownAr_mk (rowW (by first | exact (five _ _ _ _ _ _).1 | exact (five _ _ _ _ _ _).2.1 | exact (five _ _ _ _ _ _).2.2.1)) (rowV (by first | exact (five _ _ _ _ _ _).1 | exact (five _ _ _ _ _ _).2.1 | exact (five _ _ _ _ _ _).2.2.1)) (by omega) (by omega) (by omega), (five _ _ _ _ _ _).2.2.2⟩) | (refine bodyPost_ret (v := .tuple #[.agg #[.slice (some ⟨w.heap.size + 1 + 1 + 1, 0, none⟩) (2 * semi).toNat (2 * semi).toNat, .int .i64 semi, .int .i64 0, .int .i64 1, .bool false, .int .i64 0, .int .i64 0, .int .i64 0, .int .i64 1, .slice (some ⟨w.heap.size + 1, 0, none⟩) roots.toNat roots.toNat], .bool true]) (by simp [results, Try.results11, go_sem]) rfl ⟨_, _, rfl, ownAr_mk (rowW (by first | exact (five _ _ _ _ _ _).1 | exact (five _ _ _ _ _ _).2.1 | exact (five _ _ _ _ _ _).2.2.1)) (rowV (by first | exact (five _ _ _ _ _ _).1 | exact (five _ _ _ _ _ _).2.1 | exact (five _ _ _ _ _ _).2.2.1)) (by omega) (by omega) (by omega), (five _ _ _ _ _ _).2.2.2⟩) | (refine bodyPost_ret (v := .tuple #[.agg #[.slice (some ⟨w.heap.size + 1 + 1 + 1, 0, none⟩) (2 * semi).toNat (2 * semi).toNat, .int .i64 semi, .int .i64 0, .int .i64 1, .bool false, .int .i64 0, .int .i64 0, .int .i64 0, .int .i64 1, .slice (some ⟨w.heap.size + 1 + 1, 0, none⟩) roots.toNat roots.toNat], .bool true]) (by simp [results, Try.results11, go_sem]) rfl ⟨_, _, rfl, ownAr_mk (rowW (by first | exact (five _ _ _ _ _ _).1 | exact (five _ _ _ _ _ _).2.1 | exact (five _ _ _ _ _ _).2.2.1)) (rowV (by first | exact (five _ _ _ _ _ _).1 | exact (five _ _ _ _ _ _).2.1 | exact (five _ _ _ _ _ _).2.2.1)) (by omega) (by omega) (by omega), (five _ _ _ _ _ _).2.2.2⟩)

theorem implNewArena_no (semi roots : Int) (w : World) (h : (inB semi 256 4000 && inB roots 0 24) = false) :
    Calls Try.prog 11 #[.int .i64 semi, .int .i64 roots] w fun e w' => e = .returned (.tuple #[.agg #[.slice none 0 0, .int .i64 0, .int .i64 0, .int .i64 0, .bool false, .int .i64 0, .int .i64 0, .int .i64 0, .int .i64 0, .slice none 0 0], .bool false]) ∧ Below w.heap.size w w' := by
  have h' : semi < 256 ∨ 4000 < semi ∨ roots < 0 ∨ 24 < roots := by
    simp only [inB, Bool.and_eq_false_iff, decide_eq_false_iff_not] at h
    omega
  clear h
  by_cases d1 : semi < 256
  · go_enter Try.func11, Try.ntmps11
    go_wp2
    refine bodyPost_ret (v := .tuple #[.agg #[.slice none 0 0, .int .i64 0, .int .i64 0, .int .i64 0, .bool false, .int .i64 0, .int .i64 0, .int .i64 0, .int .i64 0, .slice none 0 0], .bool false]) (by simp [results, Try.results11, go_sem]) rfl ⟨rfl, (Below.refl _ _).alloc (Nat.le_refl _) _⟩
  by_cases d2 : 4000 < semi
  · go_enter Try.func11, Try.ntmps11
    go_wp2
    refine bodyPost_ret (v := .tuple #[.agg #[.slice none 0 0, .int .i64 0, .int .i64 0, .int .i64 0, .bool false, .int .i64 0, .int .i64 0, .int .i64 0, .int .i64 0, .slice none 0 0], .bool false]) (by simp [results, Try.results11, go_sem]) rfl ⟨rfl, (Below.refl _ _).alloc (Nat.le_refl _) _⟩
  by_cases d3 : roots < 0
  · clear h'
    go_enter Try.func11, Try.ntmps11
    go_wp2
    refine bodyPost_ret (v := .tuple #[.agg #[.slice none 0 0, .int .i64 0, .int .i64 0, .int .i64 0, .bool false, .int .i64 0, .int .i64 0, .int .i64 0, .int .i64 0, .slice none 0 0], .bool false]) (by simp [results, Try.results11, go_sem]) rfl ⟨rfl, (Below.refl _ _).alloc (Nat.le_refl _) _⟩
  have d4 : 24 < roots := by omega
  clear h'
  go_enter Try.func11, Try.ntmps11
  go_wp2
  refine bodyPost_ret (v := .tuple #[.agg #[.slice none 0 0, .int .i64 0, .int .i64 0, .int .i64 0, .bool false, .int .i64 0, .int .i64 0, .int .i64 0, .int .i64 0, .slice none 0 0], .bool false]) (by simp [results, Try.results11, go_sem]) rfl ⟨rfl, (Below.refl _ _).alloc (Nat.le_refl _) _⟩
end Go.Proofs.Ytkcnahmimhljpaa
