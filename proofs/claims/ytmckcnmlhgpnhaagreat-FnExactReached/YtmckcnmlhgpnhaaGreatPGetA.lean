/- - -/
import Derived.Test.YtmckcnmlhgpnhaaGreatPSliceA
import Derived.RegionTactic
import Derived.BigRegion
namespace Go.Proofs.YtmckcnmlhgpnhaaGreat
set_option maxRecDepth 20000
open Go.RowKit
set_option linter.unusedSimpArgs false
def isR (t : Int) : Bool := decide (t = 3 \/ t = 4 \/ t = 5 \/ t = 6 \/ t = 8 \/ t = 9)
def vOk (t n : Int) : Bool := decide ((t = 0 /\ n = 0) \/ (t = 1 /\ (n = 0 \/ n = 1)) \/ t = 2 \/ (t = 7 /\ 1 <= n /\ n <= 20) \/ ((t = 3 \/ t = 4 \/ t = 5 \/ t = 6 \/ t = 8 \/ t = 9) /\ 0 < n))
def zat (t : Int) : Int := if t = 3 then 1 else if t = 4 then 2 else if t = 5 then 4 else if t = 6 then 6 else if t = 8 then 3 else if t = 9 then 5 else 0
theorem ziv (t : Int) (w : World) :
 Calls Tryz.prog 97 #[.int .i64 t] w fun e w' => e = .returned (.int .i64 (zat t)) /\ w' = w := by
 go_enter Tryz.func97, Tryz.ntmps97
 go_wp2
 all_goals
  go_ret
  refine ⟨zbu ?_, rfl⟩
  go_light
  simp [zat] at *
  try simp [*]
theorem zqq (t : Int) : (zat t != 0) = isR t := by
 unfold zat isR
 rw [Bool.eq_iff_iff]
 simp only [bne_iff_ne, ne_eq, decide_eq_true_eq]
 repeat (first | omega | split)
theorem zak (t n : Int) (w : World) :
 Calls Tryz.prog 42 #[.agg #[.int .i64 t, .int .i64 n]] w fun e w' => e = .returned (.bool (isR t)) /\ Below w.heap.size w w' := by
 go_enter Tryz.func42, Tryz.ntmps42
 go_wp2_with (go_at_call 97; refine (ziv _ _).mono ?_; rintro e w' ⟨rfl, rfl⟩)
 go_ret
 exact ⟨za7 (zqq t), (Below.refl _ _).alloc (Nat.le_refl _) _⟩
theorem zax (t n : Int) (w : World) :
 Calls Tryz.prog 119 #[.agg #[.int .i64 t, .int .i64 n]] w fun e w' => e = .returned (.bool (isR t)) /\ Below w.heap.size w w' := by
 go_enter Tryz.func119, Tryz.ntmps119
 go_wp2
 all_goals
  go_ret
  refine ⟨za7 ?_, (Below.refl _ _).alloc (Nat.le_refl _) _⟩
  go_light
  rw [Bool.eq_iff_iff]
  simp [isR] at * <;> omega
theorem zco (t n : Int) (w : World) :
 Calls Tryz.prog 95 #[.agg #[.int .i64 t, .int .i64 n]] w fun e w' => e = .returned (.bool (vOk t n)) /\ Below w.heap.size w w' := by
 go_enter Tryz.func95, Tryz.ntmps95
 go_wp2_with (first | (go_at_call 104; refine (zag _ _ _ _).mono ?_; rintro e w' ⟨rfl, rfl⟩) | (go_at_call 42; refine (zak _ _ _).mono ?_; rintro e w' ⟨rfl, hb⟩; obtain ⟨hc, hf⟩ := zz hb; first | (have hz := zp hb; have hB := zd hb) | (have hz := Nat.lt_of_lt_of_le (by assumption) hb.size; have hB := zc (w := w) (by assumption) hb) | (have hB := zc (w := w) (by assumption) hb) | (have hB : Below w.heap.size w w' := hb)))
 all_goals
  go_ret
  refine ⟨za7 ?_, by first | exact (Below.refl _ _).alloc (Nat.le_refl _) _ | assumption⟩
  go_light
  try clear hb hc hf hz hB
  rw [Bool.eq_iff_iff]
  simp [vOk, isR, inB] at * <;> omega
theorem zdj (t n : Int) (w : World) :
 Calls Tryz.prog 173 #[.agg #[.int .i64 t, .int .i64 n]] w fun e w' => e = .returned (.bool (vOk t n)) /\ Below w.heap.size w w' := by
 go_enter Tryz.func173, Tryz.ntmps173
 go_wp2_with (first | (go_at_call 119; refine (zax _ _ _).mono ?_; rintro e w' ⟨rfl, hb⟩; obtain ⟨hc, hf⟩ := zz hb; first | (have hz := zp hb; have hB := zd hb) | (have hz := Nat.lt_of_lt_of_le (by assumption) hb.size; have hB := zc (w := w) (by assumption) hb) | (have hB := zc (w := w) (by assumption) hb) | (have hB : Below w.heap.size w w' := hb)))
 all_goals
  go_ret
  refine ⟨za7 ?_, by first | exact (Below.refl _ _).alloc (Nat.le_refl _) _ | assumption⟩
  go_light
  try clear hb hc hf hz hB
  rw [Bool.eq_iff_iff]
  simp [vOk, isR, inB] at * <;> omega
theorem zqr (t n : Int) (w : World) :
 Calls Tryz.prog 59 #[.agg #[.int .i64 t, .int .i64 n]] w fun e w' => e = .returned (.agg #[.int .i64 t, .int .i64 n]) /\ Below w.heap.size w w' := by
 go_enter Tryz.func59, Tryz.ntmps59
 go_wp2
 exact bodyPost_ret (v := .agg #[.int .i64 t, .int .i64 n]) (by simp [results, Tryz.results59, go_sem]) rfl ⟨rfl, (((Below.refl _ _).alloc (Nat.le_refl _) _).alloc (by simp) _).alloc (by simp; omega) _⟩
set_option linter.unusedVariables false
theorem zf1 (a : Option Addr) (n cap : Nat) (i : Int) (w : World) (hn : n <= 1048576) :
 Calls Tryz.prog 185 #[.slice a n cap, .int .i64 i] w fun e w' => e = .returned (.bool (decide (0 <= i /\ i + 1 < n))) /\ w' = w := by
 have hn' : (n : Int) <= 1048576 := by omega
 go_enter Tryz.func185, Tryz.ntmps185
 go_wp2
 all_goals
  go_ret
  refine ⟨za7 ?_, rfl⟩
  go_light
  rw [Bool.eq_iff_iff]
  simp at * <;> omega
theorem zgl {w w' : World} {A B : Obj} (hb : Below ((w.alloc A).alloc B).drew.heap.size ((w.alloc A).alloc B).drew w') : Below w.heap.size w w' :=
 ((((Below.refl _ _).alloc (Nat.le_refl _) _).alloc (by simp) _).drew).trans (hb.mono (by simp; omega))
theorem zjh (b off cap n : Nat) (k : Nat) (x y : Int) (w : World) (hk : k + 1 < n) (hn : n <= 1048576) (h1 : w.cell? ⟨b, off + k, none⟩ = some (.int .u64 x)) (h2 : w.cell? ⟨b, off + (k + 1), none⟩ = some (.int .u64 y)) (hbl : b < w.heap.size) (hv : vOk (wrap64 x) (wrap64 y) = true) :
 Calls Tryz.prog 145 #[.slice (some ⟨b, off, none⟩) n cap, .int .i64 k] w fun e w' => e = .returned (.tuple #[.agg #[.int .i64 (wrap64 x), .int .i64 (wrap64 y)], .bool true]) /\ Below w.heap.size w w' := by
 have hn' : (n : Int) <= 1048576 := by omega
 have hk' : (k : Int) + 1 < (n : Int) := by omega
 have hk0 : (k : Int) < (n : Int) := by omega
 have hd : decide (0 <= (k : Int) /\ (k : Int) + 1 < (n : Int)) = true := by simp; omega
 go_enter Tryz.func145, Tryz.ntmps145
 go_wp2_with (go_at_call 185; refine (zf1 _ _ _ _ _ hn).mono ?_; rintro e w' ⟨rfl, rfl⟩)
 go_region
 go_wp2_with (go_at_call 173; refine (zdj _ _ _).mono ?_; rintro e w' ⟨rfl, hb⟩; obtain ⟨hc, hf⟩ := zz hb)
 have q0 : (w'.cell? ⟨w.heap.size, 0, none⟩).isSome = true := by rw [hc _ _ (by simp; omega)]; simp [go_sem]
 have q1 : (w'.cell? ⟨w.heap.size, 1, none⟩).isSome = true := by rw [hc _ _ (by simp; omega)]; simp [go_sem]
 refine bodyPost_ret (v := .tuple #[.agg #[.int .i64 (wrap64 x), .int .i64 (wrap64 y)], .bool true]) (by simp [results, Tryz.results145, go_sem, q0, q1]) rfl ⟨rfl, ?_⟩
 exact ((zgl hb).setCell (by simp) _).setCell (by simp) _
theorem zkb (b off cap n : Nat) (k : Nat) (x y : Int) (w : World) (hk : k + 1 < n) (hn : n <= 1048576) (h1 : w.cell? ⟨b, off + k, none⟩ = some (.int .u64 x)) (h2 : w.cell? ⟨b, off + (k + 1), none⟩ = some (.int .u64 y)) (hbl : b < w.heap.size) (hv : vOk (wrap64 x) (wrap64 y) = false) :
 Calls Tryz.prog 145 #[.slice (some ⟨b, off, none⟩) n cap, .int .i64 k] w fun e w' => e = .returned (.tuple #[.agg #[.int .i64 0, .int .i64 0], .bool false]) /\ Below w.heap.size w w' := by
 have hn' : (n : Int) <= 1048576 := by omega
 have hk' : (k : Int) + 1 < (n : Int) := by omega
 have hk0 : (k : Int) < (n : Int) := by omega
 have hd : decide (0 <= (k : Int) /\ (k : Int) + 1 < (n : Int)) = true := by simp; omega
 go_enter Tryz.func145, Tryz.ntmps145
 go_wp2_with (go_at_call 185; refine (zf1 _ _ _ _ _ hn).mono ?_; rintro e w' ⟨rfl, rfl⟩)
 go_region
 go_wp2_with (go_at_call 173; refine (zdj _ _ _).mono ?_; rintro e w' ⟨rfl, hb⟩; obtain ⟨hc, hf⟩ := zz hb)
 have q0 : (w'.cell? ⟨w.heap.size, 0, none⟩).isSome = true := by rw [hc _ _ (by simp; omega)]; simp [go_sem]
 have q1 : (w'.cell? ⟨w.heap.size, 1, none⟩).isSome = true := by rw [hc _ _ (by simp; omega)]; simp [go_sem]
 refine bodyPost_ret (v := .tuple #[.agg #[.int .i64 0, .int .i64 0], .bool false]) (by simp [results, Tryz.results145, go_sem, q0, q1]) rfl ⟨rfl, ?_⟩
 exact ((zgl hb).setCell (by simp) _).setCell (by simp) _
theorem zoo (b off cap n : Nat) (k : Nat) (x y : Int) (w : World) (hk : k + 1 < n) (hn : n <= 1048576) (h1 : w.cell? ⟨b, off + k, none⟩ = some (.int .u64 x)) (h2 : w.cell? ⟨b, off + (k + 1), none⟩ = some (.int .u64 y)) (hbl : b < w.heap.size) (hx0 : 0 <= x) (hx : x <= 15) (hv : vOk x (wrap64 y) = true) :
 Calls Tryz.prog 45 #[.slice (some ⟨b, off, none⟩) n cap, .int .i64 k] w fun e w' => e = .returned (.tuple #[.agg #[.int .i64 x, .int .i64 (wrap64 y)], .bool true]) /\ Below w.heap.size w w' := by
 have hn' : (n : Int) <= 1048576 := by omega
 have hk' : (k : Int) + 1 < (n : Int) := by omega
 have hk0 : (k : Int) < (n : Int) := by omega
 go_enter Tryz.func45, Tryz.ntmps45
 go_wp2
 go_region
 go_wp2_with (go_at_call 95; refine (zco _ _ _).mono ?_; rintro e w' ⟨rfl, hb⟩; obtain ⟨hc, hf⟩ := zz hb)
 have q0 : (w'.cell? ⟨w.heap.size, 0, none⟩).isSome = true := by rw [hc _ _ (by simp; omega)]; simp [go_sem]
 have q1 : (w'.cell? ⟨w.heap.size, 1, none⟩).isSome = true := by rw [hc _ _ (by simp; omega)]; simp [go_sem]
 refine bodyPost_ret (v := .tuple #[.agg #[.int .i64 x, .int .i64 (wrap64 y)], .bool true]) (by simp [results, Tryz.results45, go_sem, q0, q1]) rfl ⟨rfl, ?_⟩
 exact ((zgl hb).setCell (by simp) _).setCell (by simp) _
theorem zqp (b off cap n : Nat) (k : Nat) (x y : Int) (w : World) (hk : k + 1 < n) (hn : n <= 1048576) (h1 : w.cell? ⟨b, off + k, none⟩ = some (.int .u64 x)) (h2 : w.cell? ⟨b, off + (k + 1), none⟩ = some (.int .u64 y)) (hbl : b < w.heap.size) (hx0 : 0 <= x) (hx : x <= 15) (hv : vOk x (wrap64 y) = false) :
 Calls Tryz.prog 45 #[.slice (some ⟨b, off, none⟩) n cap, .int .i64 k] w fun e w' => e = .returned (.tuple #[.agg #[.int .i64 0, .int .i64 0], .bool false]) /\ Below w.heap.size w w' := by
 have hn' : (n : Int) <= 1048576 := by omega
 have hk' : (k : Int) + 1 < (n : Int) := by omega
 have hk0 : (k : Int) < (n : Int) := by omega
 go_enter Tryz.func45, Tryz.ntmps45
 go_wp2
 go_region
 go_wp2_with (go_at_call 95; refine (zco _ _ _).mono ?_; rintro e w' ⟨rfl, hb⟩; obtain ⟨hc, hf⟩ := zz hb)
 have q0 : (w'.cell? ⟨w.heap.size, 0, none⟩).isSome = true := by rw [hc _ _ (by simp; omega)]; simp [go_sem]
 have q1 : (w'.cell? ⟨w.heap.size, 1, none⟩).isSome = true := by rw [hc _ _ (by simp; omega)]; simp [go_sem]
 refine bodyPost_ret (v := .tuple #[.agg #[.int .i64 0, .int .i64 0], .bool false]) (by simp [results, Tryz.results45, go_sem, q0, q1]) rfl ⟨rfl, ?_⟩
 exact ((zgl hb).setCell (by simp) _).setCell (by simp) _
theorem zop (b off cap n : Nat) (k : Nat) (x y : Int) (w : World) (hk : k + 1 < n) (hn : n <= 1048576) (h1 : w.cell? ⟨b, off + k, none⟩ = some (.int .u64 x)) (h2 : w.cell? ⟨b, off + (k + 1), none⟩ = some (.int .u64 y)) (hbl : b < w.heap.size) (hx : 15 < x) :
 Calls Tryz.prog 45 #[.slice (some ⟨b, off, none⟩) n cap, .int .i64 k] w fun e w' => e = .returned (.tuple #[.agg #[.int .i64 0, .int .i64 0], .bool false]) /\ Below w.heap.size w w' := by
 have hn' : (n : Int) <= 1048576 := by omega
 have hk' : (k : Int) + 1 < (n : Int) := by omega
 have hk0 : (k : Int) < (n : Int) := by omega
 go_enter Tryz.func45, Tryz.ntmps45
 go_wp2
 exact bodyPost_ret (v := .tuple #[.agg #[.int .i64 0, .int .i64 0], .bool false]) (by simp [results, Tryz.results45, go_sem]) rfl ⟨rfl, (Below.refl _ _).alloc (Nat.le_refl _) _⟩
theorem zji (a : Option Addr) (n cap : Nat) (i : Int) (w : World) (hn : n <= 1048576) (hi : ¬ (0 <= i /\ i + 1 < n)) :
 Calls Tryz.prog 145 #[.slice a n cap, .int .i64 i] w fun e w' => e = .returned (.tuple #[.agg #[.int .i64 0, .int .i64 0], .bool false]) /\ Below w.heap.size w w' := by
 have hd : decide (0 <= i /\ i + 1 < (n : Int)) = false := decide_eq_false hi
 go_enter Tryz.func145, Tryz.ntmps145
 go_wp2_with (go_at_call 185; refine (zf1 _ _ _ _ _ hn).mono ?_; rintro e w' ⟨rfl, rfl⟩; rw [hd])
 exact bodyPost_ret (v := .tuple #[.agg #[.int .i64 0, .int .i64 0], .bool false]) (by simp [results, Tryz.results145, go_sem]) rfl ⟨rfl, (Below.refl _ _).alloc (Nat.le_refl _) _⟩
theorem zt {w : World} {o : Obj} {b i : Nat} {v : Value} (hb : b < w.heap.size) (h : w.cell? ⟨b, i, none⟩ = some v) : (w.alloc o).cell? ⟨b, i, none⟩ = some v := by
 rw [World.cell?_alloc_lt w o ⟨b, i, none⟩ hb]; exact h
theorem zcv {w : World} {o : Obj} {b : Nat} (hb : b < w.heap.size) : b < (w.alloc o).heap.size := by simp; omega
def zjj (zs : List Int) (i : Int) : Bool := decide (0 <= i /\ i + 1 < zs.length) && vOk (wrap64 (zs.getD i.toNat 0)) (wrap64 (zs.getD (i.toNat + 1) 0))
theorem zg4 {x y : Int} (h0 : 0 <= x) (h1 : x < 18446744073709551616) (h : vOk (wrap64 x) y = true) : x <= 15 /\ wrap64 x = x := by
 simp only [vOk, decide_eq_true_eq] at h
 unfold wrap64 at *
 omega
theorem zk3 {x : Int} (h0 : 0 <= x) (h1 : x <= 15) : wrap64 x = x := by unfold wrap64; omega
theorem zi.at {zs : List Int} (h : zi zs) (i : Nat) : 0 <= zs.getD i 0 /\ zs.getD i 0 < 18446744073709551616 := by
 by_cases hi : i < zs.length
 · simp only [List.getD_eq_getElem?_getD, List.getElem?_eq_getElem hi, Option.getD_some]
   exact h _ (List.getElem_mem hi)
 · simp [List.getElem?_eq_none (Nat.le_of_not_lt hi)]
theorem zk4 (v : Value) (zs : List Int) (i : Int) (w : World) (hs : Sl w v zs) (hn : zs.length <= 1048576) (hw : zi zs) (h : zjj zs i = true) :
 Calls Tryz.prog 145 #[v, .int .i64 i] w fun e w' => e = .returned (.tuple #[.agg #[.int .i64 (wrap64 (zs.getD i.toNat 0)), .int .i64 (wrap64 (zs.getD (i.toNat + 1) 0))], .bool true]) /\ Below w.heap.size w w' := by
 simp only [zjj, Bool.and_eq_true, decide_eq_true_eq] at h
 obtain ⟨⟨hi0, hi1⟩, hv⟩ := h
 obtain ⟨k, rfl⟩ := Int.eq_ofNat_of_zero_le hi0
 obtain ⟨b, off, cap, rfl, hb, hc⟩ := hs.parts (k := k) (by omega)
 rw [Int.toNat_natCast] at hv ⊢
 exact zjh b off cap zs.length k _ _ w (by omega) hn (hc k (by omega)) (hc (k + 1) (by omega)) hb hv
theorem zk5 (v : Value) (zs : List Int) (i : Int) (w : World) (hs : Sl w v zs) (hn : zs.length <= 1048576) (hw : zi zs) (h : zjj zs i = false) :
 Calls Tryz.prog 145 #[v, .int .i64 i] w fun e w' => e = .returned (.tuple #[.agg #[.int .i64 0, .int .i64 0], .bool false]) /\ Below w.heap.size w w' := by
 by_cases hi : 0 <= i /\ i + 1 < zs.length
 · simp only [zjj, decide_eq_true hi, Bool.true_and] at h
   obtain ⟨hi0, hi1⟩ := hi
   obtain ⟨k, rfl⟩ := Int.eq_ofNat_of_zero_le hi0
   obtain ⟨b, off, cap, rfl, hb, hc⟩ := hs.parts (k := k) (by omega)
   rw [Int.toNat_natCast] at h
   exact zkb b off cap zs.length k _ _ w (by omega) hn (hc k (by omega)) (hc (k + 1) (by omega)) hb h
 · obtain ⟨a, cap, rfl⟩ := hs.head
   exact zji a zs.length cap i w hn hi
end Go.Proofs.YtmckcnmlhgpnhaaGreat
