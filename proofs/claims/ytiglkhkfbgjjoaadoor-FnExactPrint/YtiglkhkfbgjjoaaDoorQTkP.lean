/- - -/
import Derived.Test.YtiglkhkfbgjjoaaDoorQTrA
import Derived.Test.YtiglkhkfbgjjoaaDoorQLxA
namespace Go.Proofs.YtiglkhkfbgjjoaaDoor
set_option maxRecDepth 20000
open Go.RowKit Go.PlainAid
set_option linter.unusedSimpArgs false
set_option linter.unusedVariables false
def zt (k : Int) : Int := if 1 <= k /\ k <= 13 then 1 else if 14 <= k /\ k <= 20 then 2 else if k = 21 then 3 else if k = 22 then 4 else if k = 23 \/ k = 24 then 5 else 0
def zk (c k : Int) : Bool := if c = 6 then decide (k = 9) else decide (zt k = c /\ c ≠ 0)
theorem zgm {c k : Int} (h : zk c k = true) : zt k ≠ 0 := by
 unfold zk at h
 split at h
 · have := of_decide_eq_true h
   subst this
   decide
 · have := of_decide_eq_true h
   omega
def shp (k : Int) (n : Nat) : List Int :=
 if k = 6 then List.replicate (n - 1) 4 ++ [3]
 else if k = 7 then List.replicate n 5
 else if k = 8 \/ k = 10 \/ k = 12 \/ k = 13 \/ k = 24 then [1, 1]
 else if k = 9 then 1 :: List.replicate (n - 1) 1
 else if k = 11 \/ k = 14 \/ k = 15 \/ k = 19 \/ k = 23 then [1]
 else if k = 16 then [1, 1, 1]
 else if k = 17 then (if n = 3 then [1, 3, 3] else [1, 3])
 else if k = 18 then [1, 3]
 else if k = 20 then [6]
 else if k = 21 then List.replicate n 2
 else []
def zu : List Int -> List Int -> Bool
 | [], [] => true
 | c :: cs, k :: ks => zk c k && zu cs ks
 | _, _ => false
theorem zaw : ∀ {cs ks : List Int}, zu cs ks = true -> cs.length = ks.length
 | [], [], _ => rfl
 | c :: cs, k :: ks, h => by
   simp only [zu, Bool.and_eq_true] at h
   simp [zaw h.2]
 | [], _ :: _, h => by simp [zu] at h
 | _ :: _, [], h => by simp [zu] at h
theorem zc4 : ∀ {cs ks : List Int}, zu cs ks = true ↔ cs.length = ks.length /\ ∀ i (h1 : i < cs.length) (h2 : i < ks.length), zk cs[i] ks[i] = true
 | [], [] => by simp [zu]
 | c :: cs, k :: ks => by
   simp only [zu, Bool.and_eq_true, zc4 (cs := cs) (ks := ks), List.length_cons]
   constructor
   · rintro ⟨h0, h1, h2⟩
     refine ⟨by omega, fun i hi hj => ?_⟩
     cases i with
     | zero => exact h0
     | succ i => exact h2 i (by simpa using hi) (by simpa using hj)
   · rintro ⟨h1, h2⟩
     exact ⟨h2 0 (by simp) (by simp), by omega, fun i hi hj => h2 (i + 1) (by simpa using hi) (by simpa using hj)⟩
 | [], _ :: _ => by simp [zu]
 | _ :: _, [] => by simp [zu]
def zaa (t : ByteArray) : Bool := decide (1 <= t.size /\ t.size <= 12) && !isW t && decide (∀ i, i < t.size -> ltB (bt t i) = true)
def zac (t : ByteArray) : Bool := decide (∀ i, i < t.size -> plB (bt t i) = true) && decide (t.size <= 160)
def zl (k : Int) (t : ByteArray) : Bool := if k = 4 then zac t else if k = 5 \/ k = 22 \/ k = 14 \/ k = 15 then zaa t else decide (t.size = 0)
def zm (k i : Int) : Bool := if k = 2 then decide (i = 0 \/ i = 1) else if k = 3 then decide (0 <= i /\ i <= 999999999999999) else if k = 10 then decide (1 <= i /\ i <= 10) else if k = 11 then decide (1 <= i /\ i <= 3) else decide (i = 0)
def zi (k : Int) (ks : List Int) : Bool := decide (zt k ≠ 0) && zu (shp k ks.length) ks
section
variable (X : Nat -> KnD)
def zj (i : Nat) : List Int := (List.range (X i).len).map (X i).y
def zq (i : Nat) : List Int := (zj X i).map fun q => (X q.toNat).k
theorem zo (i : Nat) : (zj X i).length = (X i).len := by simp [zj]
theorem zy {i j : Nat} (h : j < (zj X i).length) : (zj X i)[j] = (X i).y j := by simp [zj]
def zcj : Nat -> Nat -> Nat
 | 0, i => i
 | n + 1, i => if 0 < (X i).len /\ 0 <= (X i).y 0 /\ ((X i).y 0).toNat < i then zcj n ((X i).y 0).toNat else i
theorem zb0 : ∀ (n m i : Nat), i <= n -> i <= m -> zcj X n i = zcj X m i
 | 0, 0, i, _, _ => rfl
 | 0, m + 1, i, h1, h2 => by
   show i = if _ then _ else i
   rw [if_neg (by omega)]
 | n + 1, 0, i, h1, h2 => by
   show (if _ then _ else i) = i
   rw [if_neg (by omega)]
 | n + 1, m + 1, i, h1, h2 => by
   show (if _ then zcj X n _ else i) = if _ then zcj X m _ else i
   split
   · rename_i h
     exact zb0 n m _ (by omega) (by omega)
   · rfl
def stt (i : Nat) : Nat := zcj X i i
theorem zd3 (i : Nat) : stt X i = if 0 < (X i).len /\ 0 <= (X i).y 0 /\ ((X i).y 0).toNat < i then stt X ((X i).y 0).toNat else i := by
 unfold stt
 rw [zb0 X i (i + 1) i (Nat.le_refl _) (Nat.le_succ _)]
 show (if _ then zcj X i _ else i) = _
 split
 · rename_i h
   exact zb0 X _ _ _ (by omega) (Nat.le_refl _)
 · rfl
theorem zas (i : Nat) : stt X i <= i := by
 induction i using Nat.strongRecOn with
 | _ i ih =>
   rw [zd3]
   split
   · rename_i h
     have := ih _ h.2.2
     omega
   · exact Nat.le_refl _
def chn : Nat -> List Int -> Nat -> Prop
 | n, [], m => n = m
 | n, k :: ks, m => 0 <= k /\ stt X k.toNat = n /\ chn (k.toNat + 1) ks m
theorem zai : ∀ {ks : List Int} {n m : Nat}, chn X n ks m -> n <= m
 | [], n, m, h => Nat.le_of_eq h
 | k :: ks, n, m, ⟨_, h1, h2⟩ => by
   have := zai h2
   have := zas X k.toNat
   omega
theorem zaq : ∀ {l r : List Int} {n m : Nat}, chn X n (l ++ r) m ↔ ∃ p, chn X n l p /\ chn X p r m
 | [], r, n, m => ⟨fun h => ⟨n, rfl, h⟩, fun ⟨p, h1, h2⟩ => by cases h1; exact h2⟩
 | k :: l, r, n, m => by
   show (0 <= k /\ stt X k.toNat = n /\ chn X (k.toNat + 1) (l ++ r) m) ↔ _
   rw [zaq]
   constructor
   · rintro ⟨h0, h1, p, h2, h3⟩
     exact ⟨p, ⟨h0, h1, h2⟩, h3⟩
   · rintro ⟨p, ⟨h0, h1, h2⟩, h3⟩
     exact ⟨h0, h1, p, h2, h3⟩
theorem zba {k : Int} {n m : Nat} : chn X n [k] m ↔ 0 <= k /\ stt X k.toNat = n /\ k.toNat + 1 = m := Iff.rfl
theorem zck : ∀ {ks : List Int} {n m m' : Nat}, chn X n ks m -> chn X n ks m' -> m = m'
 | [], n, m, m', h, h' => by cases h; cases h'; rfl
 | k :: ks, n, m, m', h, h' => zck h.2.2 h'.2.2
theorem zcl : ∀ (N : Nat) {ks l : List Int} {a b m : Nat}, ks.length = N -> chn X a l m -> chn X b ks m -> a <= b -> ∃ pre, l = pre ++ ks /\ chn X a pre b
 | 0, ks, l, a, b, m, hN, hl, hk, hab => by
   obtain rfl : ks = [] := List.eq_nil_of_length_eq_zero hN
   cases hk
   exact ⟨l, by simp, hl⟩
 | N + 1, ks, l, a, b, m, hN, hl, hk, hab => by
   obtain ⟨ks', k, rfl⟩ : ∃ ks' k, ks = ks' ++ [k] := ⟨ks.dropLast, ks.getLast (by intro h; simp [h] at hN), (List.dropLast_concat_getLast _).symm⟩
   obtain ⟨q, h1, h2⟩ := (zaq X).1 hk
   obtain ⟨k0, k1, k2⟩ := (zba X).1 h2
   have hq := zai X h1
   have hs := zas X k.toNat
   have hne : l ≠ [] := by
    rintro rfl
    have : a = m := hl
    omega
   obtain ⟨l', k', rfl⟩ : ∃ l' k', l = l' ++ [k'] := ⟨l.dropLast, l.getLast hne, (List.dropLast_concat_getLast _).symm⟩
   obtain ⟨q', g1, g2⟩ := (zaq X).1 hl
   obtain ⟨j0, j1, j2⟩ := (zba X).1 g2
   obtain rfl : k' = k := by omega
   obtain rfl : q' = q := by omega
   obtain ⟨pre, e1, e2⟩ := zcl N (by simpa using hN) g1 h1 hab
   exact ⟨pre, by rw [e1]; simp, e2⟩
def zal (i : Nat) : Prop := chn X (stt X i) (zj X i) i
theorem zat : ∀ {ks : List Int} {n m : Nat}, chn X n ks m -> ∀ q ∈ ks, 0 <= q /\ q.toNat < m /\ n <= stt X q.toNat
 | k :: ks, n, m, ⟨h0, h1, h2⟩, q, hq => by
   have hle := zai X h2
   rcases List.mem_cons.1 hq with rfl | hq
   · exact ⟨h0, by omega, by omega⟩
   · have := zat h2 q hq
     have := zas X k.toNat
     omega
theorem zcp {i p : Nat} (h : chn X p (zj X i) i) : stt X i = p := by
 have hl := zo X i
 cases hk : zj X i with
 | nil =>
   rw [hk] at h hl
   have e : p = i := h
   rw [zd3, if_neg (by simp at hl; omega)]
   exact e.symm
 | cons k ks =>
   have hk0 : k = (X i).y 0 := by
    have := zy X (i := i) (j := 0) (by rw [hk]; simp)
    simp only [hk] at this
    exact this
   rw [hk] at h hl
   obtain ⟨h0, h1, h2⟩ := h
   have := zai X h2
   rw [zd3, if_pos ⟨by simp at hl; omega, by rw [<- hk0]; exact h0, by rw [<- hk0]; omega⟩, <- hk0]
   exact h1
def zao (i : Nat) : Prop := zal X i /\ zl (X i).k (X i).t = true /\ zm (X i).k (X i).i = true /\ zi (X i).k (zq X i) = true
def FIT (L : Nat) (i : Int) (c : Int) (n : Nat) : Prop := 0 <= i /\ i.toNat < L /\ zk c (X i.toNat).k = true /\ stt X i.toNat = n /\ ∀ j, n <= j -> j <= i.toNat -> zao X j
def TOK (L : Nat) (top : Int) : Prop := L <= 3000 /\ FIT X L top 3 0 /\ top + 1 = L
def NUM (L : Nat) (top : Int) : Prop := (∀ j, j < L -> zal X j) /\ chn X 0 [top] L
theorem ze0 (L : Nat) (top : Int) : TOK X L top ↔ L <= 3000 /\ NUM X L top /\ (X top.toNat).k = 21 /\ ∀ j, j < L -> zl (X j).k (X j).t = true /\ zm (X j).k (X j).i = true /\ zi (X j).k (zq X j) = true := by
 have hc : ∀ k, zk 3 k = true ↔ k = 21 := fun k => by
  unfold zk zt
  rw [if_neg (by decide), decide_eq_true_iff]
  constructor
  · rintro ⟨h, _⟩
    split at h
    · omega
    · split at h
      · omega
      · split at h
        · assumption
        · split at h <;> (try split at h) <;> omega
  · rintro rfl
    decide
 constructor
 · rintro ⟨h1, ⟨h2, h3, h4, h5, h6⟩, h7⟩
   exact ⟨h1, ⟨fun j hj => (h6 j (Nat.zero_le _) (by omega)).1, h2, h5, (by show top.toNat + 1 = L; omega)⟩, (hc _).1 h4, fun j hj => (h6 j (Nat.zero_le _) (by omega)).2⟩
 · rintro ⟨h1, ⟨h2, h3, h4, h5⟩, h6, h7⟩
   have h5' : top.toNat + 1 = L := h5
   exact ⟨h1, ⟨h3, by omega, (hc _).2 h6, h4, fun j _ hj => ⟨h2 j (by omega), h7 j (by omega)⟩⟩, by omega⟩
end
end Go.Proofs.YtiglkhkfbgjjoaaDoor
