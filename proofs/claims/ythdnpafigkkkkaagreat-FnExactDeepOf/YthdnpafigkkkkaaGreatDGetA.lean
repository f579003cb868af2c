/- - -/
import Derived.Test.YthdnpafigkkkkaaGreatDSliceA
import Derived.RegionTactic
import Derived.BigRegion
namespace Go.Proofs.YthdnpafigkkkkaaGreat
set_option maxRecDepth 20000
open Go.RowKit
set_option linter.unusedSimpArgs false
def isR (t : Int) : Bool := decide (t = 3 \/ t = 4 \/ t = 5 \/ t = 6 \/ t = 8 \/ t = 9)
def vOk (t n : Int) : Bool := decide ((t = 0 /\ n = 0) \/ (t = 1 /\ (n = 0 \/ n = 1)) \/ t = 2 \/ (t = 7 /\ 1 <= n /\ n <= 20) \/ ((t = 3 \/ t = 4 \/ t = 5 \/ t = 6 \/ t = 8 \/ t = 9) /\ 0 < n))
def za5 (t : Int) : Int := if t = 3 then 1 else if t = 4 then 2 else if t = 5 then 4 else if t = 6 then 6 else if t = 8 then 3 else if t = 9 then 5 else 0
theorem ziu (t : Int) (w : World) :
 Calls Tryz.prog 78 #[.int .i64 t] w fun e w' => e = .returned (.int .i64 (za5 t)) /\ w' = w := by
 go_enter Tryz.func78, Tryz.ntmps78
 go_wp2
 all_goals
  go_ret
  refine ⟨zb5 ?_, rfl⟩
  go_light
  simp [za5] at *
  try simp [*]
theorem zre (t : Int) : (za5 t != 0) = isR t := by
 unfold za5 isR
 rw [Bool.eq_iff_iff]
 simp only [bne_iff_ne, ne_eq, decide_eq_true_eq]
 repeat (first | omega | split)
theorem zbv (t n : Int) (w : World) :
 Calls Tryz.prog 77 #[.agg #[.int .i64 t, .int .i64 n]] w fun e w' => e = .returned (.bool (isR t)) /\ Below w.heap.size w w' := by
 go_enter Tryz.func77, Tryz.ntmps77
 go_wp2_with (go_at_call 78; refine (ziu _ _).mono ?_; rintro e w' ⟨rfl, rfl⟩)
 go_ret
 exact ⟨za8 (zre t), (Below.refl _ _).alloc (Nat.le_refl _) _⟩
theorem zbj (t n : Int) (w : World) :
 Calls Tryz.prog 114 #[.agg #[.int .i64 t, .int .i64 n]] w fun e w' => e = .returned (.bool (isR t)) /\ Below w.heap.size w w' := by
 go_enter Tryz.func114, Tryz.ntmps114
 go_wp2
 all_goals
  go_ret
  refine ⟨za8 ?_, (Below.refl _ _).alloc (Nat.le_refl _) _⟩
  go_light
  rw [Bool.eq_iff_iff]
  simp [isR] at * <;> omega
theorem zcp (t n : Int) (w : World) :
 Calls Tryz.prog 51 #[.agg #[.int .i64 t, .int .i64 n]] w fun e w' => e = .returned (.bool (vOk t n)) /\ Below w.heap.size w w' := by
 go_enter Tryz.func51, Tryz.ntmps51
 go_wp2_with (first | (go_at_call 31; refine (zr _ _ _ _).mono ?_; rintro e w' ⟨rfl, rfl⟩) | (go_at_call 77; refine (zbv _ _ _).mono ?_; rintro e w' ⟨rfl, hb⟩; obtain ⟨hc, hf⟩ := zp hb; first | (have hz := zv hb; have hB := zc hb) | (have hz := Nat.lt_of_lt_of_le (by assumption) hb.size; have hB := zb (w := w) (by assumption) hb) | (have hB := zb (w := w) (by assumption) hb) | (have hB : Below w.heap.size w w' := hb)))
 all_goals
  go_ret
  refine ⟨za8 ?_, by first | exact (Below.refl _ _).alloc (Nat.le_refl _) _ | assumption⟩
  go_light
  try clear hb hc hf hz hB
  rw [Bool.eq_iff_iff]
  simp [vOk, isR, inB] at * <;> omega
theorem zdf (t n : Int) (w : World) :
 Calls Tryz.prog 113 #[.agg #[.int .i64 t, .int .i64 n]] w fun e w' => e = .returned (.bool (vOk t n)) /\ Below w.heap.size w w' := by
 go_enter Tryz.func113, Tryz.ntmps113
 go_wp2_with (first | (go_at_call 114; refine (zbj _ _ _).mono ?_; rintro e w' ⟨rfl, hb⟩; obtain ⟨hc, hf⟩ := zp hb; first | (have hz := zv hb; have hB := zc hb) | (have hz := Nat.lt_of_lt_of_le (by assumption) hb.size; have hB := zb (w := w) (by assumption) hb) | (have hB := zb (w := w) (by assumption) hb) | (have hB : Below w.heap.size w w' := hb)))
 all_goals
  go_ret
  refine ⟨za8 ?_, by first | exact (Below.refl _ _).alloc (Nat.le_refl _) _ | assumption⟩
  go_light
  try clear hb hc hf hz hB
  rw [Bool.eq_iff_iff]
  simp [vOk, isR, inB] at * <;> omega
theorem zj2 (t n : Int) (w : World) :
 Calls Tryz.prog 17 #[.agg #[.int .i64 t, .int .i64 n]] w fun e w' => e = .returned (.agg #[.int .i64 t, .int .i64 n]) /\ Below w.heap.size w w' := by
 go_enter Tryz.func17, Tryz.ntmps17
 go_wp2
 exact bodyPost_ret (v := .agg #[.int .i64 t, .int .i64 n]) (by simp [results, Tryz.results17, go_sem]) rfl ⟨rfl, (((Below.refl _ _).alloc (Nat.le_refl _) _).alloc (by simp) _).alloc (by simp; omega) _⟩
set_option linter.unusedVariables false
theorem zfr (a : Option Addr) (n cap : Nat) (i : Int) (w : World) (hn : n <= 1048576) :
 Calls Tryz.prog 117 #[.slice a n cap, .int .i64 i] w fun e w' => e = .returned (.bool (decide (0 <= i /\ i + 1 < n))) /\ w' = w := by
 have hn' : (n : Int) <= 1048576 := by omega
 go_enter Tryz.func117, Tryz.ntmps117
 go_wp2
 all_goals
  go_ret
  refine ⟨za8 ?_, rfl⟩
  go_light
  rw [Bool.eq_iff_iff]
  simp at * <;> omega
theorem zgd {w w' : World} {A B : Obj} (hb : Below ((w.alloc A).alloc B).drew.heap.size ((w.alloc A).alloc B).drew w') : Below w.heap.size w w' :=
 ((((Below.refl _ _).alloc (Nat.le_refl _) _).alloc (by simp) _).drew).trans (hb.mono (by simp; omega))
theorem zjk (b off cap n : Nat) (k : Nat) (x y : Int) (w : World) (hk : k + 1 < n) (hn : n <= 1048576) (h1 : w.cell? ⟨b, off + k, none⟩ = some (.int .u64 x)) (h2 : w.cell? ⟨b, off + (k + 1), none⟩ = some (.int .u64 y)) (hbl : b < w.heap.size) (hv : vOk (wrap64 x) (wrap64 y) = true) :
 Calls Tryz.prog 90 #[.slice (some ⟨b, off, none⟩) n cap, .int .i64 k] w fun e w' => e = .returned (.tuple #[.agg #[.int .i64 (wrap64 x), .int .i64 (wrap64 y)], .bool true]) /\ Below w.heap.size w w' := by
 have hn' : (n : Int) <= 1048576 := by omega
 have hk' : (k : Int) + 1 < (n : Int) := by omega
 have hk0 : (k : Int) < (n : Int) := by omega
 have hd : decide (0 <= (k : Int) /\ (k : Int) + 1 < (n : Int)) = true := by simp; omega
 go_enter Tryz.func90, Tryz.ntmps90
 go_wp2_with (go_at_call 117; refine (zfr _ _ _ _ _ hn).mono ?_; rintro e w' ⟨rfl, rfl⟩)
 go_region
 go_wp2_with (go_at_call 113; refine (zdf _ _ _).mono ?_; rintro e w' ⟨rfl, hb⟩; obtain ⟨hc, hf⟩ := zp hb)
 have q0 : (w'.cell? ⟨w.heap.size, 0, none⟩).isSome = true := by rw [hc _ _ (by simp; omega)]; simp [go_sem]
 have q1 : (w'.cell? ⟨w.heap.size, 1, none⟩).isSome = true := by rw [hc _ _ (by simp; omega)]; simp [go_sem]
 refine bodyPost_ret (v := .tuple #[.agg #[.int .i64 (wrap64 x), .int .i64 (wrap64 y)], .bool true]) (by simp [results, Tryz.results90, go_sem, q0, q1]) rfl ⟨rfl, ?_⟩
 exact ((zgd hb).setCell (by simp) _).setCell (by simp) _
theorem zkg (b off cap n : Nat) (k : Nat) (x y : Int) (w : World) (hk : k + 1 < n) (hn : n <= 1048576) (h1 : w.cell? ⟨b, off + k, none⟩ = some (.int .u64 x)) (h2 : w.cell? ⟨b, off + (k + 1), none⟩ = some (.int .u64 y)) (hbl : b < w.heap.size) (hv : vOk (wrap64 x) (wrap64 y) = false) :
 Calls Tryz.prog 90 #[.slice (some ⟨b, off, none⟩) n cap, .int .i64 k] w fun e w' => e = .returned (.tuple #[.agg #[.int .i64 0, .int .i64 0], .bool false]) /\ Below w.heap.size w w' := by
 have hn' : (n : Int) <= 1048576 := by omega
 have hk' : (k : Int) + 1 < (n : Int) := by omega
 have hk0 : (k : Int) < (n : Int) := by omega
 have hd : decide (0 <= (k : Int) /\ (k : Int) + 1 < (n : Int)) = true := by simp; omega
 go_enter Tryz.func90, Tryz.ntmps90
 go_wp2_with (go_at_call 117; refine (zfr _ _ _ _ _ hn).mono ?_; rintro e w' ⟨rfl, rfl⟩)
 go_region
 go_wp2_with (go_at_call 113; refine (zdf _ _ _).mono ?_; rintro e w' ⟨rfl, hb⟩; obtain ⟨hc, hf⟩ := zp hb)
 have q0 : (w'.cell? ⟨w.heap.size, 0, none⟩).isSome = true := by rw [hc _ _ (by simp; omega)]; simp [go_sem]
 have q1 : (w'.cell? ⟨w.heap.size, 1, none⟩).isSome = true := by rw [hc _ _ (by simp; omega)]; simp [go_sem]
 refine bodyPost_ret (v := .tuple #[.agg #[.int .i64 0, .int .i64 0], .bool false]) (by simp [results, Tryz.results90, go_sem, q0, q1]) rfl ⟨rfl, ?_⟩
 exact ((zgd hb).setCell (by simp) _).setCell (by simp) _
theorem zo6 (b off cap n : Nat) (k : Nat) (x y : Int) (w : World) (hk : k + 1 < n) (hn : n <= 1048576) (h1 : w.cell? ⟨b, off + k, none⟩ = some (.int .u64 x)) (h2 : w.cell? ⟨b, off + (k + 1), none⟩ = some (.int .u64 y)) (hbl : b < w.heap.size) (hx0 : 0 <= x) (hx : x <= 15) (hv : vOk x (wrap64 y) = true) :
 Calls Tryz.prog 53 #[.slice (some ⟨b, off, none⟩) n cap, .int .i64 k] w fun e w' => e = .returned (.tuple #[.agg #[.int .i64 x, .int .i64 (wrap64 y)], .bool true]) /\ Below w.heap.size w w' := by
 have hn' : (n : Int) <= 1048576 := by omega
 have hk' : (k : Int) + 1 < (n : Int) := by omega
 have hk0 : (k : Int) < (n : Int) := by omega
 go_enter Tryz.func53, Tryz.ntmps53
 go_wp2
 go_region
 go_wp2_with (go_at_call 51; refine (zcp _ _ _).mono ?_; rintro e w' ⟨rfl, hb⟩; obtain ⟨hc, hf⟩ := zp hb)
 have q0 : (w'.cell? ⟨w.heap.size, 0, none⟩).isSome = true := by rw [hc _ _ (by simp; omega)]; simp [go_sem]
 have q1 : (w'.cell? ⟨w.heap.size, 1, none⟩).isSome = true := by rw [hc _ _ (by simp; omega)]; simp [go_sem]
 refine bodyPost_ret (v := .tuple #[.agg #[.int .i64 x, .int .i64 (wrap64 y)], .bool true]) (by simp [results, Tryz.results53, go_sem, q0, q1]) rfl ⟨rfl, ?_⟩
 exact ((zgd hb).setCell (by simp) _).setCell (by simp) _
theorem zrd (b off cap n : Nat) (k : Nat) (x y : Int) (w : World) (hk : k + 1 < n) (hn : n <= 1048576) (h1 : w.cell? ⟨b, off + k, none⟩ = some (.int .u64 x)) (h2 : w.cell? ⟨b, off + (k + 1), none⟩ = some (.int .u64 y)) (hbl : b < w.heap.size) (hx0 : 0 <= x) (hx : x <= 15) (hv : vOk x (wrap64 y) = false) :
 Calls Tryz.prog 53 #[.slice (some ⟨b, off, none⟩) n cap, .int .i64 k] w fun e w' => e = .returned (.tuple #[.agg #[.int .i64 0, .int .i64 0], .bool false]) /\ Below w.heap.size w w' := by
 have hn' : (n : Int) <= 1048576 := by omega
 have hk' : (k : Int) + 1 < (n : Int) := by omega
 have hk0 : (k : Int) < (n : Int) := by omega
 go_enter Tryz.func53, Tryz.ntmps53
 go_wp2
 go_region
 go_wp2_with (go_at_call 51; refine (zcp _ _ _).mono ?_; rintro e w' ⟨rfl, hb⟩; obtain ⟨hc, hf⟩ := zp hb)
 have q0 : (w'.cell? ⟨w.heap.size, 0, none⟩).isSome = true := by rw [hc _ _ (by simp; omega)]; simp [go_sem]
 have q1 : (w'.cell? ⟨w.heap.size, 1, none⟩).isSome = true := by rw [hc _ _ (by simp; omega)]; simp [go_sem]
 refine bodyPost_ret (v := .tuple #[.agg #[.int .i64 0, .int .i64 0], .bool false]) (by simp [results, Tryz.results53, go_sem, q0, q1]) rfl ⟨rfl, ?_⟩
 exact ((zgd hb).setCell (by simp) _).setCell (by simp) _
theorem zo7 (b off cap n : Nat) (k : Nat) (x y : Int) (w : World) (hk : k + 1 < n) (hn : n <= 1048576) (h1 : w.cell? ⟨b, off + k, none⟩ = some (.int .u64 x)) (h2 : w.cell? ⟨b, off + (k + 1), none⟩ = some (.int .u64 y)) (hbl : b < w.heap.size) (hx : 15 < x) :
 Calls Tryz.prog 53 #[.slice (some ⟨b, off, none⟩) n cap, .int .i64 k] w fun e w' => e = .returned (.tuple #[.agg #[.int .i64 0, .int .i64 0], .bool false]) /\ Below w.heap.size w w' := by
 have hn' : (n : Int) <= 1048576 := by omega
 have hk' : (k : Int) + 1 < (n : Int) := by omega
 have hk0 : (k : Int) < (n : Int) := by omega
 go_enter Tryz.func53, Tryz.ntmps53
 go_wp2
 exact bodyPost_ret (v := .tuple #[.agg #[.int .i64 0, .int .i64 0], .bool false]) (by simp [results, Tryz.results53, go_sem]) rfl ⟨rfl, (Below.refl _ _).alloc (Nat.le_refl _) _⟩
theorem zjl (a : Option Addr) (n cap : Nat) (i : Int) (w : World) (hn : n <= 1048576) (hi : ¬ (0 <= i /\ i + 1 < n)) :
 Calls Tryz.prog 90 #[.slice a n cap, .int .i64 i] w fun e w' => e = .returned (.tuple #[.agg #[.int .i64 0, .int .i64 0], .bool false]) /\ Below w.heap.size w w' := by
 have hd : decide (0 <= i /\ i + 1 < (n : Int)) = false := decide_eq_false hi
 go_enter Tryz.func90, Tryz.ntmps90
 go_wp2_with (go_at_call 117; refine (zfr _ _ _ _ _ hn).mono ?_; rintro e w' ⟨rfl, rfl⟩; rw [hd])
 exact bodyPost_ret (v := .tuple #[.agg #[.int .i64 0, .int .i64 0], .bool false]) (by simp [results, Tryz.results90, go_sem]) rfl ⟨rfl, (Below.refl _ _).alloc (Nat.le_refl _) _⟩
theorem zu {w : World} {o : Obj} {b i : Nat} {v : Value} (hb : b < w.heap.size) (h : w.cell? ⟨b, i, none⟩ = some v) : (w.alloc o).cell? ⟨b, i, none⟩ = some v := by
 rw [World.cell?_alloc_lt w o ⟨b, i, none⟩ hb]; exact h
theorem zcw {w : World} {o : Obj} {b : Nat} (hb : b < w.heap.size) : b < (w.alloc o).heap.size := by simp; omega
def zjm (zs : List Int) (i : Int) : Bool := decide (0 <= i /\ i + 1 < zs.length) && vOk (wrap64 (zs.getD i.toNat 0)) (wrap64 (zs.getD (i.toNat + 1) 0))
theorem zgw {x y : Int} (h0 : 0 <= x) (h1 : x < 18446744073709551616) (h : vOk (wrap64 x) y = true) : x <= 15 /\ wrap64 x = x := by
 simp only [vOk, decide_eq_true_eq] at h
 unfold wrap64 at *
 omega
theorem zld {x : Int} (h0 : 0 <= x) (h1 : x <= 15) : wrap64 x = x := by unfold wrap64; omega
theorem zg.at {zs : List Int} (h : zg zs) (i : Nat) : 0 <= zs.getD i 0 /\ zs.getD i 0 < 18446744073709551616 := by
 by_cases hi : i < zs.length
 · simp only [List.getD_eq_getElem?_getD, List.getElem?_eq_getElem hi, Option.getD_some]
   exact h _ (List.getElem_mem hi)
 · simp [List.getElem?_eq_none (Nat.le_of_not_lt hi)]
theorem zle (v : Value) (zs : List Int) (i : Int) (w : World) (hs : Sl w v zs) (hn : zs.length <= 1048576) (hw : zg zs) (h : zjm zs i = true) :
 Calls Tryz.prog 90 #[v, .int .i64 i] w fun e w' => e = .returned (.tuple #[.agg #[.int .i64 (wrap64 (zs.getD i.toNat 0)), .int .i64 (wrap64 (zs.getD (i.toNat + 1) 0))], .bool true]) /\ Below w.heap.size w w' := by
 simp only [zjm, Bool.and_eq_true, decide_eq_true_eq] at h
 obtain ⟨⟨hi0, hi1⟩, hv⟩ := h
 obtain ⟨k, rfl⟩ := Int.eq_ofNat_of_zero_le hi0
 obtain ⟨b, off, cap, rfl, hb, hc⟩ := hs.parts (k := k) (by omega)
 rw [Int.toNat_natCast] at hv ⊢
 exact zjk b off cap zs.length k _ _ w (by omega) hn (hc k (by omega)) (hc (k + 1) (by omega)) hb hv
theorem zlf (v : Value) (zs : List Int) (i : Int) (w : World) (hs : Sl w v zs) (hn : zs.length <= 1048576) (hw : zg zs) (h : zjm zs i = false) :
 Calls Tryz.prog 90 #[v, .int .i64 i] w fun e w' => e = .returned (.tuple #[.agg #[.int .i64 0, .int .i64 0], .bool false]) /\ Below w.heap.size w w' := by
 by_cases hi : 0 <= i /\ i + 1 < zs.length
 · simp only [zjm, decide_eq_true hi, Bool.true_and] at h
   obtain ⟨hi0, hi1⟩ := hi
   obtain ⟨k, rfl⟩ := Int.eq_ofNat_of_zero_le hi0
   obtain ⟨b, off, cap, rfl, hb, hc⟩ := hs.parts (k := k) (by omega)
   rw [Int.toNat_natCast] at h
   exact zkg b off cap zs.length k _ _ w (by omega) hn (hc k (by omega)) (hc (k + 1) (by omega)) hb h
 · obtain ⟨a, cap, rfl⟩ := hs.head
   exact zjl a zs.length cap i w hn hi
end Go.Proofs.YthdnpafigkkkkaaGreat
