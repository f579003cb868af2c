/- - -/
import Derived.Test.YtiglkhkfbgjjoaaDoorQPrP
import Derived.Test.YtiglkhkfbgjjoaaDoorQTkQ
namespace Go.Proofs.YtiglkhkfbgjjoaaDoor
set_option maxRecDepth 20000
open Go.RowKit Go.PlainAid
set_option linter.unusedSimpArgs false
set_option linter.unusedVariables false
def smN (rec : Int -> List ByteArray) (y : Nat -> Int) : Nat -> Nat
 | 0 => 0
 | m + 1 => smN rec y m + ((rec (y m)).length + 1)
theorem zd2 {X : Nat -> KnD} {rec : Int -> List ByteArray} {y : Nat -> Int} {n : Nat} : ∀ (m : Nat) {e : Nat}, chn X n ((List.range m).map y) e -> (∀ j, j < m -> (rec (y j)).length + 1 <= 8 * ((y j).toNat + 1 - stt X (y j).toNat)) -> smN rec y m <= 8 * (e - n)
 | 0, e, h, hr => Nat.zero_le _
 | m + 1, e, h, hr => by
   rw [List.range_succ, List.map_append] at h
   obtain ⟨p, h1, h2⟩ := (zaq X).1 h
   obtain ⟨k0, k1, k2⟩ := (zba X).1 h2
   have i1 := zd2 m h1 (fun j hj => hr j (by omega))
   have i2 := hr m (by omega)
   have i3 := zai X h1
   have i4 := zas X (y m).toNat
   show smN rec y m + _ <= _
   omega
theorem zd (rec : Int -> List ByteArray) (y : Nat -> Int) : ∀ m, (cmN rec y m).length <= smN rec y m /\ (flN rec y m).length <= smN rec y m
 | 0 => ⟨Nat.le_refl _, Nat.le_refl _⟩
 | m + 1 => by
   have ih := zd rec y m
   have hc : (if m = 0 then ([] : List ByteArray) else [⟨#[44]⟩]).length <= 1 := by split <;> simp
   constructor
   · show (cmN rec y m ++ (_ ++ rec (y m))).length <= smN rec y m + _
     rw [List.length_append, List.length_append]
     omega
   · show (flN rec y m ++ rec (y m)).length <= smN rec y m + _
     rw [List.length_append]
     omega
theorem zci (rec : Int -> List ByteArray) (y : Nat -> Int) : ∀ m, smN rec y (m + 1) = ((rec (y 0)).length + 1) + smN rec (fun j => y (j + 1)) m
 | 0 => by simp [smN]
 | m + 1 => by
   have ih := zci rec y m
   show smN rec y (m + 1) + ((rec (y (m + 1))).length + 1) = ((rec (y 0)).length + 1) + (smN rec (fun j => y (j + 1)) m + ((rec (y (m + 1))).length + 1))
   rw [ih]
   omega
theorem zhi (rec : Int -> List ByteArray) (x : KnD) (hk : (shp x.k x.len).length = x.len) (hc : zt x.k ≠ 0) : (bod rec x).length <= smN rec x.y x.len + 6 := by
 obtain ⟨k, t, i, l, y⟩ := x
 simp only at hk hc ⊢
 have h1 : ∀ m, l = m + 1 -> (rec (y m)).length + smN rec y m + 1 = smN rec y l := fun m h => by rw [h]; show _ = smN rec y m + _; omega
 have hk2 : 1 <= k /\ k <= 24 := by
  unfold zt at hc
  by_cases h : 1 <= k /\ k <= 24
  · exact h
  · exfalso
    apply hc
    repeat (first | omega | split)
 obtain ⟨n, rfl⟩ : ∃ n : Nat, k = n := ⟨k.toNat, by omega⟩
 have a1 : n < 25 := by omega
 have a2 : 0 < n := by omega
 have c1 := fun m => (zd rec y m).1
 have f1 := fun m => (zd rec y m).2
 have s1 : smN rec y 1 = (rec (y 0)).length + 1 := by simp [smN]
 have s2 : smN rec y 2 = (rec (y 0)).length + 1 + ((rec (y 1)).length + 1) := by simp [smN]
 have s3 : smN rec y 3 = (rec (y 0)).length + 1 + ((rec (y 1)).length + 1) + ((rec (y 2)).length + 1) := by simp [smN]
 match n, a1, a2 with
 | 1, _, _ | 2, _, _ | 3, _, _ | 4, _, _ | 5, _, _ | 22, _, _ => simp [bod] <;> omega
 | 6, _, _ =>
   have hl : l = l - 1 + 1 := by simp [shp] at hk; omega
   have := h1 (l - 1) hl
   have := c1 (l - 1)
   simp [bod]
   omega
 | 7, _, _ =>
   have := c1 l
   simp [bod]
   omega
 | 9, _, _ =>
   obtain ⟨l', rfl⟩ : ∃ l', l = l' + 1 := ⟨l - 1, by simp [shp] at hk; omega⟩
   have h2 := zci rec y l'
   have h3 := (zd rec (fun j => y (j + 1)) l').1
   simp [bod]
   omega
 | 21, _, _ =>
   have := f1 l
   simp [bod]
   omega
 | 8, _, _ | 10, _, _ | 12, _, _ | 13, _, _ | 24, _, _ =>
   obtain rfl : l = 2 := by simp [shp] at hk; omega
   simp [bod]
   omega
 | 11, _, _ | 14, _, _ | 15, _, _ | 19, _, _ | 23, _, _ =>
   obtain rfl : l = 1 := by simp [shp] at hk; omega
   simp [bod]
   omega
 | 20, _, _ =>
   obtain rfl : l = 1 := by simp [shp] at hk; omega
   simp [bod]
   omega
 | 16, _, _ =>
   obtain rfl : l = 3 := by simp [shp] at hk; omega
   simp [bod]
   omega
 | 18, _, _ =>
   obtain rfl : l = 2 := by simp [shp] at hk; omega
   simp [bod]
   omega
 | 17, _, _ =>
   have hl : l = 2 \/ l = 3 := by
    simp [shp] at hk
    split at hk <;> simp at hk <;> omega
   rcases hl with rfl | rfl
   · simp [bod]
     omega
   · simp [bod]
     omega
theorem zc3 {X : Nat -> KnD} {L : Nat} (hg : ∀ j, j < L -> zao X j) : ∀ (N i : Nat), i < N -> i < L -> (tkn X N i).length + 1 <= 8 * (i + 1 - stt X i)
 | 0, i, h, _ => absurd h (Nat.not_lt_zero _)
 | N + 1, i, h, hL => by
   obtain ⟨g1, _, _, g4⟩ := hg i hL
   unfold zi at g4
   rw [Bool.and_eq_true, decide_eq_true_iff, zp] at g4
   have h1 := zaw g4.2
   rw [zp] at h1
   have h2 := zhi (fun q => tkn X N q.toNat) (X i) h1 g4.1
   have h3 := zd2 (X := X) (rec := fun q => tkn X N q.toNat) (y := (X i).y) (X i).len g1 (fun j hj => by
    have h4 := zat X g1 ((X i).y j) (by
     have h5 := zy X (i := i) (j := j) (by rw [zo]; exact hj)
     rw [<- h5]
     exact List.getElem_mem _)
    exact zc3 hg N _ (by omega) (by omega))
   have h5 := zas X i
   show (bod (fun q => tkn X N q.toNat) (X i)).length + 1 <= _
   omega
end Go.Proofs.YtiglkhkfbgjjoaaDoor
