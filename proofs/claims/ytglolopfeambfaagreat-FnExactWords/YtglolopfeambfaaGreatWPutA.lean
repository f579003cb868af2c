/- - -/
import Derived.Test.YtglolopfeambfaaGreatWSliceA
import Derived.RegionTactic
import Derived.BigRegion
import Derived.Laws.CopyOwn
import Derived.Deep.AppendSrc
namespace Go.Proofs.YtglolopfeambfaaGreat
set_option maxRecDepth 20000
open Go.RowKit
set_option linter.unusedSimpArgs false
def isR (t : Int) : Bool := decide (t = 3 \/ t = 4 \/ t = 5 \/ t = 6 \/ t = 8 \/ t = 9)
def vOk (t n : Int) : Bool := decide ((t = 0 /\ n = 0) \/ (t = 1 /\ (n = 0 \/ n = 1)) \/ t = 2 \/ (t = 7 /\ 1 <= n /\ n <= 20) \/ ((t = 3 \/ t = 4 \/ t = 5 \/ t = 6 \/ t = 8 \/ t = 9) /\ 0 < n))
def zaz (t : Int) : Int := if t = 3 then 1 else if t = 4 then 2 else if t = 5 then 4 else if t = 6 then 6 else if t = 8 then 3 else if t = 9 then 5 else 0
theorem zjk (t : Int) (w : World) :
 Calls Tryz.prog 57 #[.int .i64 t] w fun e w' => e = .returned (.int .i64 (zaz t)) /\ w' = w := by
 go_enter Tryz.func57, Tryz.ntmps57
 go_wp2
 all_goals
  go_ret
  refine ⟨zbs ?_, rfl⟩
  go_light
  simp [zaz] at *
  try simp [*]
theorem zr9 (t : Int) : (zaz t != 0) = isR t := by
 unfold zaz isR
 rw [Bool.eq_iff_iff]
 simp only [bne_iff_ne, ne_eq, decide_eq_true_eq]
 repeat (first | omega | split)
theorem zan (t n : Int) (w : World) :
 Calls Tryz.prog 32 #[.agg #[.int .i64 t, .int .i64 n]] w fun e w' => e = .returned (.bool (isR t)) /\ Below w.heap.size w w' := by
 go_enter Tryz.func32, Tryz.ntmps32
 go_wp2_with (go_at_call 57; refine (zjk _ _).mono ?_; rintro e w' ⟨rfl, rfl⟩)
 go_ret
 exact ⟨zbd (zr9 t), (Below.refl _ _).alloc (Nat.le_refl _) _⟩
theorem za3 (t n : Int) (w : World) :
 Calls Tryz.prog 67 #[.agg #[.int .i64 t, .int .i64 n]] w fun e w' => e = .returned (.bool (isR t)) /\ Below w.heap.size w w' := by
 go_enter Tryz.func67, Tryz.ntmps67
 go_wp2
 all_goals
  go_ret
  refine ⟨zbd ?_, (Below.refl _ _).alloc (Nat.le_refl _) _⟩
  go_light
  rw [Bool.eq_iff_iff]
  simp [isR] at * <;> omega
theorem zcx (t n : Int) (w : World) :
 Calls Tryz.prog 55 #[.agg #[.int .i64 t, .int .i64 n]] w fun e w' => e = .returned (.bool (vOk t n)) /\ Below w.heap.size w w' := by
 go_enter Tryz.func55, Tryz.ntmps55
 go_wp2_with (first | (go_at_call 31; refine (zu _ _ _ _).mono ?_; rintro e w' ⟨rfl, rfl⟩) | (go_at_call 32; refine (zan _ _ _).mono ?_; rintro e w' ⟨rfl, hb⟩; obtain ⟨hc, hf⟩ := zn hb; first | (have hz := zp hb; have hB := zc hb) | (have hz := Nat.lt_of_lt_of_le (by assumption) hb.size; have hB := zb (w := w) (by assumption) hb) | (have hB := zb (w := w) (by assumption) hb) | (have hB : Below w.heap.size w w' := hb)))
 all_goals
  go_ret
  refine ⟨zbd ?_, by first | exact (Below.refl _ _).alloc (Nat.le_refl _) _ | assumption⟩
  go_light
  try clear hb hc hf hz hB
  rw [Bool.eq_iff_iff]
  simp [vOk, isR, inB] at * <;> omega
theorem zdq (t n : Int) (w : World) :
 Calls Tryz.prog 117 #[.agg #[.int .i64 t, .int .i64 n]] w fun e w' => e = .returned (.bool (vOk t n)) /\ Below w.heap.size w w' := by
 go_enter Tryz.func117, Tryz.ntmps117
 go_wp2_with (first | (go_at_call 67; refine (za3 _ _ _).mono ?_; rintro e w' ⟨rfl, hb⟩; obtain ⟨hc, hf⟩ := zn hb; first | (have hz := zp hb; have hB := zc hb) | (have hz := Nat.lt_of_lt_of_le (by assumption) hb.size; have hB := zb (w := w) (by assumption) hb) | (have hB := zb (w := w) (by assumption) hb) | (have hB : Below w.heap.size w w' := hb)))
 all_goals
  go_ret
  refine ⟨zbd ?_, by first | exact (Below.refl _ _).alloc (Nat.le_refl _) _ | assumption⟩
  go_light
  try clear hb hc hf hz hB
  rw [Bool.eq_iff_iff]
  simp [vOk, isR, inB] at * <;> omega
theorem zkx (t n : Int) (w : World) :
 Calls Tryz.prog 17 #[.agg #[.int .i64 t, .int .i64 n]] w fun e w' => e = .returned (.agg #[.int .i64 t, .int .i64 n]) /\ Below w.heap.size w w' := by
 go_enter Tryz.func17, Tryz.ntmps17
 go_wp2
 exact bodyPost_ret (v := .agg #[.int .i64 t, .int .i64 n]) (by simp [results, Tryz.results17, go_sem]) rfl ⟨rfl, (((Below.refl _ _).alloc (Nat.le_refl _) _).alloc (by simp) _).alloc (by simp; omega) _⟩
set_option linter.unusedVariables false
theorem zgf (a : Option Addr) (n cap : Nat) (i : Int) (w : World) (hn : n <= 1048576) :
 Calls Tryz.prog 120 #[.slice a n cap, .int .i64 i] w fun e w' => e = .returned (.bool (decide (0 <= i /\ i + 1 < n))) /\ w' = w := by
 have hn' : (n : Int) <= 1048576 := by omega
 go_enter Tryz.func120, Tryz.ntmps120
 go_wp2
 all_goals
  go_ret
  refine ⟨zbd ?_, rfl⟩
  go_light
  rw [Bool.eq_iff_iff]
  simp at * <;> omega
theorem zg2 {w w' : World} {A B : Obj} (hb : Below ((w.alloc A).alloc B).drew.heap.size ((w.alloc A).alloc B).drew w') : Below w.heap.size w w' :=
 ((((Below.refl _ _).alloc (Nat.le_refl _) _).alloc (by simp) _).drew).trans (hb.mono (by simp; omega))
theorem zkh (b off cap n : Nat) (k : Nat) (x y : Int) (w : World) (hk : k + 1 < n) (hn : n <= 1048576) (h1 : w.cell? ⟨b, off + k, none⟩ = some (.int .u64 x)) (h2 : w.cell? ⟨b, off + (k + 1), none⟩ = some (.int .u64 y)) (hbl : b < w.heap.size) (hv : vOk (wrap64 x) (wrap64 y) = true) :
 Calls Tryz.prog 97 #[.slice (some ⟨b, off, none⟩) n cap, .int .i64 k] w fun e w' => e = .returned (.tuple #[.agg #[.int .i64 (wrap64 x), .int .i64 (wrap64 y)], .bool true]) /\ Below w.heap.size w w' := by
 have hn' : (n : Int) <= 1048576 := by omega
 have hk' : (k : Int) + 1 < (n : Int) := by omega
 have hk0 : (k : Int) < (n : Int) := by omega
 have hd : decide (0 <= (k : Int) /\ (k : Int) + 1 < (n : Int)) = true := by simp; omega
 go_enter Tryz.func97, Tryz.ntmps97
 go_wp2_with (go_at_call 120; refine (zgf _ _ _ _ _ hn).mono ?_; rintro e w' ⟨rfl, rfl⟩)
 go_region
 go_wp2_with (go_at_call 117; refine (zdq _ _ _).mono ?_; rintro e w' ⟨rfl, hb⟩; obtain ⟨hc, hf⟩ := zn hb)
 have q0 : (w'.cell? ⟨w.heap.size, 0, none⟩).isSome = true := by rw [hc _ _ (by simp; omega)]; simp [go_sem]
 have q1 : (w'.cell? ⟨w.heap.size, 1, none⟩).isSome = true := by rw [hc _ _ (by simp; omega)]; simp [go_sem]
 refine bodyPost_ret (v := .tuple #[.agg #[.int .i64 (wrap64 x), .int .i64 (wrap64 y)], .bool true]) (by simp [results, Tryz.results97, go_sem, q0, q1]) rfl ⟨rfl, ?_⟩
 exact ((zg2 hb).setCell (by simp) _).setCell (by simp) _
theorem zlc (b off cap n : Nat) (k : Nat) (x y : Int) (w : World) (hk : k + 1 < n) (hn : n <= 1048576) (h1 : w.cell? ⟨b, off + k, none⟩ = some (.int .u64 x)) (h2 : w.cell? ⟨b, off + (k + 1), none⟩ = some (.int .u64 y)) (hbl : b < w.heap.size) (hv : vOk (wrap64 x) (wrap64 y) = false) :
 Calls Tryz.prog 97 #[.slice (some ⟨b, off, none⟩) n cap, .int .i64 k] w fun e w' => e = .returned (.tuple #[.agg #[.int .i64 0, .int .i64 0], .bool false]) /\ Below w.heap.size w w' := by
 have hn' : (n : Int) <= 1048576 := by omega
 have hk' : (k : Int) + 1 < (n : Int) := by omega
 have hk0 : (k : Int) < (n : Int) := by omega
 have hd : decide (0 <= (k : Int) /\ (k : Int) + 1 < (n : Int)) = true := by simp; omega
 go_enter Tryz.func97, Tryz.ntmps97
 go_wp2_with (go_at_call 120; refine (zgf _ _ _ _ _ hn).mono ?_; rintro e w' ⟨rfl, rfl⟩)
 go_region
 go_wp2_with (go_at_call 117; refine (zdq _ _ _).mono ?_; rintro e w' ⟨rfl, hb⟩; obtain ⟨hc, hf⟩ := zn hb)
 have q0 : (w'.cell? ⟨w.heap.size, 0, none⟩).isSome = true := by rw [hc _ _ (by simp; omega)]; simp [go_sem]
 have q1 : (w'.cell? ⟨w.heap.size, 1, none⟩).isSome = true := by rw [hc _ _ (by simp; omega)]; simp [go_sem]
 refine bodyPost_ret (v := .tuple #[.agg #[.int .i64 0, .int .i64 0], .bool false]) (by simp [results, Tryz.results97, go_sem, q0, q1]) rfl ⟨rfl, ?_⟩
 exact ((zg2 hb).setCell (by simp) _).setCell (by simp) _
theorem zp5 (b off cap n : Nat) (k : Nat) (x y : Int) (w : World) (hk : k + 1 < n) (hn : n <= 1048576) (h1 : w.cell? ⟨b, off + k, none⟩ = some (.int .u64 x)) (h2 : w.cell? ⟨b, off + (k + 1), none⟩ = some (.int .u64 y)) (hbl : b < w.heap.size) (hx0 : 0 <= x) (hx : x <= 15) (hv : vOk x (wrap64 y) = true) :
 Calls Tryz.prog 35 #[.slice (some ⟨b, off, none⟩) n cap, .int .i64 k] w fun e w' => e = .returned (.tuple #[.agg #[.int .i64 x, .int .i64 (wrap64 y)], .bool true]) /\ Below w.heap.size w w' := by
 have hn' : (n : Int) <= 1048576 := by omega
 have hk' : (k : Int) + 1 < (n : Int) := by omega
 have hk0 : (k : Int) < (n : Int) := by omega
 go_enter Tryz.func35, Tryz.ntmps35
 go_wp2
 go_region
 go_wp2_with (go_at_call 55; refine (zcx _ _ _).mono ?_; rintro e w' ⟨rfl, hb⟩; obtain ⟨hc, hf⟩ := zn hb)
 have q0 : (w'.cell? ⟨w.heap.size, 0, none⟩).isSome = true := by rw [hc _ _ (by simp; omega)]; simp [go_sem]
 have q1 : (w'.cell? ⟨w.heap.size, 1, none⟩).isSome = true := by rw [hc _ _ (by simp; omega)]; simp [go_sem]
 refine bodyPost_ret (v := .tuple #[.agg #[.int .i64 x, .int .i64 (wrap64 y)], .bool true]) (by simp [results, Tryz.results35, go_sem, q0, q1]) rfl ⟨rfl, ?_⟩
 exact ((zg2 hb).setCell (by simp) _).setCell (by simp) _
theorem zr8 (b off cap n : Nat) (k : Nat) (x y : Int) (w : World) (hk : k + 1 < n) (hn : n <= 1048576) (h1 : w.cell? ⟨b, off + k, none⟩ = some (.int .u64 x)) (h2 : w.cell? ⟨b, off + (k + 1), none⟩ = some (.int .u64 y)) (hbl : b < w.heap.size) (hx0 : 0 <= x) (hx : x <= 15) (hv : vOk x (wrap64 y) = false) :
 Calls Tryz.prog 35 #[.slice (some ⟨b, off, none⟩) n cap, .int .i64 k] w fun e w' => e = .returned (.tuple #[.agg #[.int .i64 0, .int .i64 0], .bool false]) /\ Below w.heap.size w w' := by
 have hn' : (n : Int) <= 1048576 := by omega
 have hk' : (k : Int) + 1 < (n : Int) := by omega
 have hk0 : (k : Int) < (n : Int) := by omega
 go_enter Tryz.func35, Tryz.ntmps35
 go_wp2
 go_region
 go_wp2_with (go_at_call 55; refine (zcx _ _ _).mono ?_; rintro e w' ⟨rfl, hb⟩; obtain ⟨hc, hf⟩ := zn hb)
 have q0 : (w'.cell? ⟨w.heap.size, 0, none⟩).isSome = true := by rw [hc _ _ (by simp; omega)]; simp [go_sem]
 have q1 : (w'.cell? ⟨w.heap.size, 1, none⟩).isSome = true := by rw [hc _ _ (by simp; omega)]; simp [go_sem]
 refine bodyPost_ret (v := .tuple #[.agg #[.int .i64 0, .int .i64 0], .bool false]) (by simp [results, Tryz.results35, go_sem, q0, q1]) rfl ⟨rfl, ?_⟩
 exact ((zg2 hb).setCell (by simp) _).setCell (by simp) _
theorem zp6 (b off cap n : Nat) (k : Nat) (x y : Int) (w : World) (hk : k + 1 < n) (hn : n <= 1048576) (h1 : w.cell? ⟨b, off + k, none⟩ = some (.int .u64 x)) (h2 : w.cell? ⟨b, off + (k + 1), none⟩ = some (.int .u64 y)) (hbl : b < w.heap.size) (hx : 15 < x) :
 Calls Tryz.prog 35 #[.slice (some ⟨b, off, none⟩) n cap, .int .i64 k] w fun e w' => e = .returned (.tuple #[.agg #[.int .i64 0, .int .i64 0], .bool false]) /\ Below w.heap.size w w' := by
 have hn' : (n : Int) <= 1048576 := by omega
 have hk' : (k : Int) + 1 < (n : Int) := by omega
 have hk0 : (k : Int) < (n : Int) := by omega
 go_enter Tryz.func35, Tryz.ntmps35
 go_wp2
 exact bodyPost_ret (v := .tuple #[.agg #[.int .i64 0, .int .i64 0], .bool false]) (by simp [results, Tryz.results35, go_sem]) rfl ⟨rfl, (Below.refl _ _).alloc (Nat.le_refl _) _⟩
theorem zki (a : Option Addr) (n cap : Nat) (i : Int) (w : World) (hn : n <= 1048576) (hi : ¬ (0 <= i /\ i + 1 < n)) :
 Calls Tryz.prog 97 #[.slice a n cap, .int .i64 i] w fun e w' => e = .returned (.tuple #[.agg #[.int .i64 0, .int .i64 0], .bool false]) /\ Below w.heap.size w w' := by
 have hd : decide (0 <= i /\ i + 1 < (n : Int)) = false := decide_eq_false hi
 go_enter Tryz.func97, Tryz.ntmps97
 go_wp2_with (go_at_call 120; refine (zgf _ _ _ _ _ hn).mono ?_; rintro e w' ⟨rfl, rfl⟩; rw [hd])
 exact bodyPost_ret (v := .tuple #[.agg #[.int .i64 0, .int .i64 0], .bool false]) (by simp [results, Tryz.results97, go_sem]) rfl ⟨rfl, (Below.refl _ _).alloc (Nat.le_refl _) _⟩
theorem zv {w : World} {o : Obj} {b i : Nat} {v : Value} (hb : b < w.heap.size) (h : w.cell? ⟨b, i, none⟩ = some v) : (w.alloc o).cell? ⟨b, i, none⟩ = some v := by
 rw [World.cell?_alloc_lt w o ⟨b, i, none⟩ hb]; exact h
theorem zc3 {w : World} {o : Obj} {b : Nat} (hb : b < w.heap.size) : b < (w.alloc o).heap.size := by simp; omega
def zkj (zs : List Int) (i : Int) : Bool := decide (0 <= i /\ i + 1 < zs.length) && vOk (wrap64 (zs.getD i.toNat 0)) (wrap64 (zs.getD (i.toNat + 1) 0))
theorem zhk {x y : Int} (h0 : 0 <= x) (h1 : x < 18446744073709551616) (h : vOk (wrap64 x) y = true) : x <= 15 /\ wrap64 x = x := by
 simp only [vOk, decide_eq_true_eq] at h
 unfold wrap64 at *
 omega
theorem zl8 {x : Int} (h0 : 0 <= x) (h1 : x <= 15) : wrap64 x = x := by unfold wrap64; omega
theorem ze.at {zs : List Int} (h : ze zs) (i : Nat) : 0 <= zs.getD i 0 /\ zs.getD i 0 < 18446744073709551616 := by
 by_cases hi : i < zs.length
 · simp only [List.getD_eq_getElem?_getD, List.getElem?_eq_getElem hi, Option.getD_some]
   exact h _ (List.getElem_mem hi)
 · simp [List.getElem?_eq_none (Nat.le_of_not_lt hi)]
theorem zl9 (v : Value) (zs : List Int) (i : Int) (w : World) (hs : Sl w v zs) (hn : zs.length <= 1048576) (hw : ze zs) (h : zkj zs i = true) :
 Calls Tryz.prog 97 #[v, .int .i64 i] w fun e w' => e = .returned (.tuple #[.agg #[.int .i64 (wrap64 (zs.getD i.toNat 0)), .int .i64 (wrap64 (zs.getD (i.toNat + 1) 0))], .bool true]) /\ Below w.heap.size w w' := by
 simp only [zkj, Bool.and_eq_true, decide_eq_true_eq] at h
 obtain ⟨⟨hi0, hi1⟩, hv⟩ := h
 obtain ⟨k, rfl⟩ := Int.eq_ofNat_of_zero_le hi0
 obtain ⟨b, off, cap, rfl, hb, hc⟩ := hs.parts (k := k) (by omega)
 rw [Int.toNat_natCast] at hv ⊢
 exact zkh b off cap zs.length k _ _ w (by omega) hn (hc k (by omega)) (hc (k + 1) (by omega)) hb hv
theorem zma (v : Value) (zs : List Int) (i : Int) (w : World) (hs : Sl w v zs) (hn : zs.length <= 1048576) (hw : ze zs) (h : zkj zs i = false) :
 Calls Tryz.prog 97 #[v, .int .i64 i] w fun e w' => e = .returned (.tuple #[.agg #[.int .i64 0, .int .i64 0], .bool false]) /\ Below w.heap.size w w' := by
 by_cases hi : 0 <= i /\ i + 1 < zs.length
 · simp only [zkj, decide_eq_true hi, Bool.true_and] at h
   obtain ⟨hi0, hi1⟩ := hi
   obtain ⟨k, rfl⟩ := Int.eq_ofNat_of_zero_le hi0
   obtain ⟨b, off, cap, rfl, hb, hc⟩ := hs.parts (k := k) (by omega)
   rw [Int.toNat_natCast] at h
   exact zlc b off cap zs.length k _ _ w (by omega) hn (hc k (by omega)) (hc (k + 1) (by omega)) hb h
 · obtain ⟨a, cap, rfl⟩ := hs.head
   exact zki a zs.length cap i w hn hi
def cellsOf (zs : List Int) : List Value := zs.map (Value.int .u64)
theorem Own.parts {B : Nat} {w : World} {v : Value} {zs : List Int} (h : Own B w v zs) {k : Nat} (hk : k < zs.length) :
 ∃ b n cap f, v = .slice (some ⟨b, 0, none⟩) zs.length cap /\ B <= b /\ zs.length <= n /\ w.rowIs b 105 n f /\ ∀ i, i < zs.length -> f i = .int .u64 (zs.getD i 0) := by
 obtain ⟨a, cap, rfl, h⟩ := h
 rcases h with rfl | ⟨b, n, f, rfl, r⟩
 · simp at hk
 · exact ⟨b, n, cap, f, rfl, r⟩
end Go.Proofs.YtglolopfeambfaaGreat
