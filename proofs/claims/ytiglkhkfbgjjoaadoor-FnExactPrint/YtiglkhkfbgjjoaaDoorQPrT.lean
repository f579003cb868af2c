/- - -/
import Derived.Test.YtiglkhkfbgjjoaaDoorQPrS
import Derived.Lib.ItoaLen
namespace Go.Proofs.YtiglkhkfbgjjoaaDoor
set_option maxRecDepth 20000
open Go.RowKit Go.PlainAid
set_option linter.unusedSimpArgs false
set_option linter.unusedVariables false
def SZ (l : List ByteArray) : Prop := ∀ b ∈ l, b.size <= 200
theorem zbc : SZ [] := fun b h => by cases h
theorem za4 {b : ByteArray} {l : List ByteArray} (h : b.size <= 200) (k : SZ l) : SZ (b :: l) := fun x hx => by
 rcases List.mem_cons.1 hx with rfl | hx
 · exact h
 · exact k x hx
theorem zbd {l r : List ByteArray} (h : SZ l) (k : SZ r) : SZ (l ++ r) := fun x hx => by
 rcases List.mem_append.1 hx with hx | hx
 · exact h x hx
 · exact k x hx
theorem zc7 {l : List ByteArray} (h : SZ l) (n : Nat) : (l.getD n ⟨#[]⟩).size <= 200 := by
 rw [List.getD_eq_getElem?_getD]
 cases e : l[n]? with
 | none => exact Nat.zero_le _
 | some b => exact h b (List.mem_of_getElem? e)
theorem zjy : SZ opL := by
 unfold opL
 repeat' first | exact zbc | refine za4 (by decide) ?_
theorem zjz : SZ tnL := by
 unfold tnL
 repeat' first | exact zbc | refine za4 (by decide) ?_
theorem zb8 {rec : Int -> List ByteArray} {y : Nat -> Int} : ∀ m, (∀ j, j < m -> SZ (rec (y j))) -> SZ (cmN rec y m) /\ SZ (flN rec y m)
 | 0, h => ⟨zbc, zbc⟩
 | m + 1, h => by
   obtain ⟨h1, h2⟩ := zb8 m (fun j hj => h j (by omega))
   refine ⟨zbd h1 (zbd ?_ (h m (by omega))), zbd h2 (h m (by omega))⟩
   split
   · exact zbc
   · exact za4 (by decide) zbc
theorem zgq {k : Int} {t : ByteArray} (h : zl k t = true) : t.size <= 160 := by
 unfold zl at h
 split at h
 · simp [zac] at h
   exact h.2
 · split at h
   · simp [zaa] at h
     omega
   · have := of_decide_eq_true h
     omega
theorem zix {rec : Int -> List ByteArray} {x : KnD} (ht : zl x.k x.t = true) (hi : zm x.k x.i = true) (hq : zt x.k ≠ 0) (hn : (shp x.k x.len).length = x.len) (hr : ∀ j, j < x.len -> SZ (rec (x.y j))) : SZ (bod rec x) := by
 have hts := zgq ht
 obtain ⟨k, t, i, l, y⟩ := x
 dsimp only at *
 have hop : ∀ k i, (opB k i).size <= 200 := fun k i => by
  unfold opB
  split
  · decide
  · split
    · decide
    · exact zc7 zjy _
 have h34 : (⟨#[34]⟩ ++ t ++ ⟨#[34]⟩ : ByteArray).size <= 200 := by
  rw [ByteArray.size_append, ByteArray.size_append]
  have : (⟨#[34]⟩ : ByteArray).size = 1 := rfl
  omega
 have hit : k = 3 -> (⟨(Lib.itoa i).toArray⟩ : ByteArray).size <= 200 := fun h => by
  subst h
  have h2 : 0 <= i /\ i <= 999999999999999 := by simpa [zm] using hi
  have := Lib.itoa_length_le i (by omega) (by omega)
  show (Lib.itoa i).toArray.size <= 200
  rw [List.size_toArray]
  omega
 have hl17 : k = 17 -> l = 2 \/ l = 3 := fun h => by
  subst h
  simp [shp] at hn
  split at hn <;> simp at hn <;> omega
 rcases zbu hq with rfl | rfl | rfl | rfl | rfl | rfl | rfl | rfl | rfl | rfl | rfl | rfl | rfl | rfl | rfl | rfl | rfl | rfl | rfl | rfl | rfl | rfl | rfl | rfl
 case inr.inr.inr.inr.inr.inr.inr.inr.inr.inr.inr.inr.inr.inr.inr.inr.inl =>
  rcases hl17 rfl with rfl | rfl
  · simp [bod]
    exact za4 (by decide) (zbd (hr _ (by omega)) (hr _ (by omega)))
  · simp [bod]
    exact za4 (by decide) (zbd (hr _ (by omega)) (zbd (hr _ (by omega)) (za4 (by decide) (hr _ (by omega)))))
 all_goals (try simp [shp] at hn)
 all_goals simp [bod]
 all_goals
  repeat' first
   | exact zbc
   | exact hr _ (by omega)
   | exact (zb8 _ (fun j hj => hr j (by omega))).1
   | exact (zb8 _ (fun j hj => hr (j + 1) (by omega))).1
   | exact (zb8 _ (fun j hj => hr j (by omega))).2
   | exact hop _ _
   | exact zc7 zjz _
   | exact h34
   | exact hit rfl
   | (show ByteArray.size _ <= 200; omega)
   | decide
   | (split <;> decide)
   | apply zbd
   | apply za4
theorem zd7 {X : Nat -> KnD} {L : Nat} (hg : ∀ j, j < L -> zao X j) : ∀ (N i : Nat), i < N -> i < L -> SZ (tkn X N i)
 | 0, i, h, _ => absurd h (Nat.not_lt_zero _)
 | N + 1, i, h, hL => by
   obtain ⟨g1, g2, g3, g4⟩ := hg i hL
   unfold zi at g4
   rw [Bool.and_eq_true, decide_eq_true_iff, zp] at g4
   have h1 := zaw g4.2
   rw [zp] at h1
   exact zix g2 g3 g4.1 h1 (fun j hj => by
    have h4 := zat X g1 ((X i).y j) (by
     have h5 := zy X (i := i) (j := j) (by rw [zo]; exact hj)
     rw [<- h5]
     exact List.getElem_mem _)
    exact zd7 hg N _ (by omega) (by omega))
theorem ze4 : ∀ (l : List ByteArray), SZ l -> Lib.lens (l.map (·.data.toList)) <= 200 * l.length
 | [], _ => Nat.le_refl _
 | b :: l, h => by
   have h1 := ze4 l (fun x hx => h x (List.mem_cons_of_mem _ hx))
   have h2 := h b (List.mem_cons_self ..)
   have h3 : b.data.toList.length = b.size := by
    show b.data.toList.length = b.data.size
    exact Array.length_toList
   simp only [Lib.lens, List.map_cons, List.sum_cons, List.length_cons] at h1 ⊢
   omega
theorem ze5 {l : List ByteArray} (h : SZ l) : (Lib.join (l.map (·.data.toList)) [32]).length <= 201 * l.length := by
 cases l with
 | nil => exact Nat.le_refl _
 | cons b l =>
   have h1 := ze4 _ h
   simp only [List.map_cons] at h1 ⊢
   rw [Lib.join_length]
   simp only [List.length_cons, List.length_nil, List.length_map] at h1 ⊢
   omega
theorem zgr {X : Nat -> KnD} {L : Nat} {top : Int} (h : TOK X L top) : (Lib.join ((zad X top.toNat).map (·.data.toList)) [32]).length <= 5000000 := by
 obtain ⟨h1, h2, h3, hg⟩ := zd8 h
 have hp : top.toNat < L := by omega
 have hl := zcn hg hp
 have g1 := (hg _ hp).1
 have hs : SZ (zad X top.toNat) := (zb8 _ (fun j hj => by
  have h4 := zat X g1 ((X top.toNat).y j) (by
   have h5 := zy X (i := top.toNat) (j := j) (by rw [zo]; exact hj)
   rw [<- h5]
   exact List.getElem_mem _)
  exact zd7 hg _ _ (by omega) (by omega))).2
 have := ze5 hs
 omega
end Go.Proofs.YtiglkhkfbgjjoaaDoor
