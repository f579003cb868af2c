/- GetVal of both packages: the same plain answer at every slice and place. -/
import Derived.Test.YthoncomjemknnaaProg
import Derived.Test.YthoncomjemknnaaValA
import Derived.Test.YthoncomjemknnaaSliceA
import Derived.WalkKit
import Derived.WalkSpells
import Derived.WalkLawsBesides
import Derived.Below
import Derived.Outline
import Derived.Deep.Light
import Derived.RegionTactic
import Derived.BigRegion
namespace Go.Proofs.Ythoncomjemknnaa
set_option maxRecDepth 20000
open Go.RowKit
set_option linter.unusedSimpArgs false
set_option linter.unusedVariables false

theorem hasPair_any (a : Option Addr) (n cap : Nat) (i : Int) (w : World) (hn : n ≤ 1048576) :
    Calls Try.prog 21 #[.slice a n cap, .int .i64 i] w fun e w' => e = .returned (.bool (decide (0 ≤ i ∧ i + 1 < n))) ∧ w' = w := by
  have hn' : (n : Int) ≤ 1048576 := by omega
  go_enter Try.func21, Try.ntmps21
  go_wp2
  all_goals
    go_ret
    refine ⟨ret_bool ?_, rfl⟩
    go_light
    rw [Bool.eq_iff_iff]
    simp at * <;> omega

theorem below_2d {w w' : World} {A B : Obj} (hb : Below ((w.alloc A).alloc B).drew.heap.size ((w.alloc A).alloc B).drew w') : Below w.heap.size w w' :=
  ((((Below.refl _ _).alloc (Nat.le_refl _) _).alloc (by simp) _).drew).trans (hb.mono (by simp; omega))
theorem below_2 {w w' : World} {A B : Obj} (hb : Below ((w.alloc A).alloc B).heap.size ((w.alloc A).alloc B) w') : Below w.heap.size w w' :=
  (((Below.refl _ _).alloc (Nat.le_refl _) _).alloc (by simp) _).trans (hb.mono (by simp; omega))
theorem implGetVal_yes (b off cap n : Nat) (k : Nat) (x y : Int) (w : World) (hk : k + 1 < n) (hn : n ≤ 1048576) (h1 : w.cell? ⟨b, off + k, none⟩ = some (.int .u64 x)) (h2 : w.cell? ⟨b, off + (k + 1), none⟩ = some (.int .u64 y)) (hbl : b < w.heap.size) (hv : vOk (wrap64 x) (wrap64 y) = true) :
    Calls Try.prog 10 #[.slice (some ⟨b, off, none⟩) n cap, .int .i64 k] w fun e w' => e = .returned (.tuple #[.agg #[.int .i64 (wrap64 x), .int .i64 (wrap64 y)], .bool true]) ∧ Below w.heap.size w w' := by
  have hn' : (n : Int) ≤ 1048576 := by omega
  have hk' : (k : Int) + 1 < (n : Int) := by omega
  have hk0 : (k : Int) < (n : Int) := by omega
  have hd : decide (0 ≤ (k : Int) ∧ (k : Int) + 1 < (n : Int)) = true := by simp; omega
  go_enter Try.func10, Try.ntmps10
  go_wp2_with (go_at_call 21; refine (hasPair_any _ _ _ _ _ hn).mono ?_; rintro e w' ⟨rfl, rfl⟩)
  go_region
  go_wp2_with (go_at_call 22; refine (implValOk_any _ _ _).mono ?_; rintro e w' ⟨rfl, hb⟩; obtain ⟨hc, hf⟩ := bcell hb)
  have q0 : (w'.cell? ⟨w.heap.size, 0, none⟩).isSome = true := by rw [hc _ _ (by simp; omega)]; simp [go_sem]
  have q1 : (w'.cell? ⟨w.heap.size, 1, none⟩).isSome = true := by rw [hc _ _ (by simp; omega)]; simp [go_sem]
  refine bodyPost_ret (v := .tuple #[.agg #[.int .i64 (wrap64 x), .int .i64 (wrap64 y)], .bool true]) (by simp [results, Try.results10, go_sem, q0, q1]) rfl ⟨rfl, ?_⟩
  exact ((below_2d hb).setCell (by simp) _).setCell (by simp) _
theorem implGetVal_no (b off cap n : Nat) (k : Nat) (x y : Int) (w : World) (hk : k + 1 < n) (hn : n ≤ 1048576) (h1 : w.cell? ⟨b, off + k, none⟩ = some (.int .u64 x)) (h2 : w.cell? ⟨b, off + (k + 1), none⟩ = some (.int .u64 y)) (hbl : b < w.heap.size) (hv : vOk (wrap64 x) (wrap64 y) = false) :
    Calls Try.prog 10 #[.slice (some ⟨b, off, none⟩) n cap, .int .i64 k] w fun e w' => e = .returned (.tuple #[.agg #[.int .i64 0, .int .i64 0], .bool false]) ∧ Below w.heap.size w w' := by
  have hn' : (n : Int) ≤ 1048576 := by omega
  have hk' : (k : Int) + 1 < (n : Int) := by omega
  have hk0 : (k : Int) < (n : Int) := by omega
  have hd : decide (0 ≤ (k : Int) ∧ (k : Int) + 1 < (n : Int)) = true := by simp; omega
  go_enter Try.func10, Try.ntmps10
  go_wp2_with (go_at_call 21; refine (hasPair_any _ _ _ _ _ hn).mono ?_; rintro e w' ⟨rfl, rfl⟩)
  go_region
  go_wp2_with (go_at_call 22; refine (implValOk_any _ _ _).mono ?_; rintro e w' ⟨rfl, hb⟩; obtain ⟨hc, hf⟩ := bcell hb)
  have q0 : (w'.cell? ⟨w.heap.size, 0, none⟩).isSome = true := by rw [hc _ _ (by simp; omega)]; simp [go_sem]
  have q1 : (w'.cell? ⟨w.heap.size, 1, none⟩).isSome = true := by rw [hc _ _ (by simp; omega)]; simp [go_sem]
  refine bodyPost_ret (v := .tuple #[.agg #[.int .i64 0, .int .i64 0], .bool false]) (by simp [results, Try.results10, go_sem, q0, q1]) rfl ⟨rfl, ?_⟩
  exact ((below_2d hb).setCell (by simp) _).setCell (by simp) _
theorem implGetVal_out (a : Option Addr) (n cap : Nat) (i : Int) (w : World) (hn : n ≤ 1048576) (hi : ¬ (0 ≤ i ∧ i + 1 < n)) :
    Calls Try.prog 10 #[.slice a n cap, .int .i64 i] w fun e w' => e = .returned (.tuple #[.agg #[.int .i64 0, .int .i64 0], .bool false]) ∧ Below w.heap.size w w' := by
  have hd : decide (0 ≤ i ∧ i + 1 < (n : Int)) = false := decide_eq_false hi
  go_enter Try.func10, Try.ntmps10
  go_wp2_with (go_at_call 21; refine (hasPair_any _ _ _ _ _ hn).mono ?_; rintro e w' ⟨rfl, rfl⟩; rw [hd])
  exact bodyPost_ret (v := .tuple #[.agg #[.int .i64 0, .int .i64 0], .bool false]) (by simp [results, Try.results10, go_sem]) rfl ⟨rfl, (Below.refl _ _).alloc (Nat.le_refl _) _⟩
theorem cell_alloc_lt {w : World} {o : Obj} {b i : Nat} {v : Value} (hb : b < w.heap.size) (h : w.cell? ⟨b, i, none⟩ = some v) : (w.alloc o).cell? ⟨b, i, none⟩ = some v := by
  rw [World.cell?_alloc_lt w o ⟨b, i, none⟩ hb]; exact h
theorem lt_alloc {w : World} {o : Obj} {b : Nat} (hb : b < w.heap.size) : b < (w.alloc o).heap.size := by simp; omega
def getV (zs : List Int) (i : Int) : Bool := decide (0 ≤ i ∧ i + 1 < zs.length) && vOk (wrap64 (zs.getD i.toNat 0)) (wrap64 (zs.getD (i.toNat + 1) 0))
theorem vOk_small {x y : Int} (h0 : 0 ≤ x) (h1 : x < 18446744073709551616) (h : vOk (wrap64 x) y = true) : x ≤ 15 ∧ wrap64 x = x := by
  simp only [vOk, decide_eq_true_eq] at h
  unfold wrap64 at *
  omega
theorem wrap64_small {x : Int} (h0 : 0 ≤ x) (h1 : x ≤ 15) : wrap64 x = x := by unfold wrap64; omega
theorem Words64.at {zs : List Int} (h : Words64 zs) (i : Nat) : 0 ≤ zs.getD i 0 ∧ zs.getD i 0 < 18446744073709551616 := by
  by_cases hi : i < zs.length
  · simp only [List.getD_eq_getElem?_getD, List.getElem?_eq_getElem hi, Option.getD_some]
    exact h _ (List.getElem_mem hi)
  · simp [List.getElem?_eq_none (Nat.le_of_not_lt hi)]
theorem implGetVal_t (v : Value) (zs : List Int) (i : Int) (w : World) (hs : Sl w v zs) (hn : zs.length ≤ 1048576) (hw : Words64 zs) (h : getV zs i = true) :
    Calls Try.prog 10 #[v, .int .i64 i] w fun e w' => e = .returned (.tuple #[.agg #[.int .i64 (wrap64 (zs.getD i.toNat 0)), .int .i64 (wrap64 (zs.getD (i.toNat + 1) 0))], .bool true]) ∧ Below w.heap.size w w' := by
  simp only [getV, Bool.and_eq_true, decide_eq_true_eq] at h
  obtain ⟨⟨hi0, hi1⟩, hv⟩ := h
  obtain ⟨k, rfl⟩ := Int.eq_ofNat_of_zero_le hi0
  obtain ⟨b, off, cap, rfl, hb, hc⟩ := hs.parts (k := k) (by omega)
  rw [Int.toNat_natCast] at hv ⊢
  exact implGetVal_yes b off cap zs.length k _ _ w (by omega) hn (hc k (by omega)) (hc (k + 1) (by omega)) hb hv
theorem implGetVal_f (v : Value) (zs : List Int) (i : Int) (w : World) (hs : Sl w v zs) (hn : zs.length ≤ 1048576) (hw : Words64 zs) (h : getV zs i = false) :
    Calls Try.prog 10 #[v, .int .i64 i] w fun e w' => e = .returned (.tuple #[.agg #[.int .i64 0, .int .i64 0], .bool false]) ∧ Below w.heap.size w w' := by
  by_cases hi : 0 ≤ i ∧ i + 1 < zs.length
  · simp only [getV, decide_eq_true hi, Bool.true_and] at h
    obtain ⟨hi0, hi1⟩ := hi
    obtain ⟨k, rfl⟩ := Int.eq_ofNat_of_zero_le hi0
    obtain ⟨b, off, cap, rfl, hb, hc⟩ := hs.parts (k := k) (by omega)
    rw [Int.toNat_natCast] at h
    exact implGetVal_no b off cap zs.length k _ _ w (by omega) hn (hc k (by omega)) (hc (k + 1) (by omega)) hb h
  · obtain ⟨a, cap, rfl⟩ := hs.head
    exact implGetVal_out a zs.length cap i w hn hi
end Go.Proofs.Ythoncomjemknnaa
