/- - -/
import Derived.Test.YtiglkhkfbgjjoaaGreatDoorPLxP
import Derived.WalkMore
import Derived.ScopeJumps
namespace Go.Proofs.YtiglkhkfbgjjoaaGreatDoor
set_option maxRecDepth 20000
open Go.RowKit Go.PlainAid
set_option linter.unusedSimpArgs false
set_option linter.unusedVariables false
def za8 (J : Nat -> Act -> World -> Prop) (Q : Exit -> Act -> World -> Prop) : Exit -> Act -> World -> Prop
 | .goto l, a, w => J l a w
 | e, a, w => Q e a w
theorem zhj {P : Program} {a : Act} {w : World} {Q : Exit -> Act -> World -> Prop} {c : Code} (J : Nat -> Nat -> Act -> World -> Prop)
 (first : c.wp P (za8 (fun l a w => ∃ m, J l m a w) Q) a w)
 (pass : ∀ l m a w, J l m a w -> ∃ rest, findLabel c l = some rest /\ rest.wp P (za8 (fun l' a' w' => ∃ m', m' < m /\ J l' m' a' w') Q) a w) : (Code.scope c).wp P Q a w := by
 intro b k cs
 have key : ∀ n l a w, J l n a w -> ∃ e a' w', Q e a' w' /\ ∃ rest, findLabel c l = some rest /\ Arrives P (lone (b.at a (.code rest :: .inScope c :: k)) cs w) b k cs e a' w' := by
  intro n
  induction n using Nat.strongRecOn with
  | _ n ih =>
    intro l a w hJ
    obtain ⟨rest, hf, hp⟩ := pass l n a w hJ
    obtain ⟨e, a₁, w₁, hq, harr⟩ := hp b (.inScope c :: k) cs
    cases e with
    | normal => exact ⟨.normal, a₁, w₁, hq, rest, hf, Steps.trans harr (.one step_inScope)⟩
    | exit id => exact ⟨.exit id, a₁, w₁, hq, rest, hf, fun k' hk => harr k' (by simp [exitTo, hk])⟩
    | goto l' =>
      obtain ⟨m', hlt, hJ'⟩ := hq
      obtain ⟨e₂, a₂, w₂, hq₂, rest', hf', harr₂⟩ := ih m' hlt l' a₁ w₁ hJ'
      have hg : gotoIn l' (.inScope c :: k) = some (.code rest' :: .inScope c :: k) := by simp [gotoIn, hf']
      exact ⟨e₂, a₂, w₂, hq₂, rest, hf, .of_steps (harr _ hg) harr₂⟩
    | ret => exact ⟨_, a₁, w₁, hq, rest, hf, harr⟩
    | panic ch => exact ⟨_, a₁, w₁, hq, rest, hf, harr⟩
    | outgrown => exact ⟨_, a₁, w₁, hq, rest, hf, harr⟩
 obtain ⟨e, a₁, w₁, hq, harr⟩ := first b (.inScope c :: k) cs
 cases e with
 | normal => exact ⟨.normal, a₁, w₁, hq, .head step_scope (Steps.trans harr (.one step_inScope))⟩
 | exit id => exact ⟨.exit id, a₁, w₁, hq, fun k' hk => .head step_scope (harr k' (by simp [exitTo, hk]))⟩
 | goto l' =>
   obtain ⟨m, hJ'⟩ := hq
   obtain ⟨e₂, a₂, w₂, hq₂, rest', hf', harr₂⟩ := key m l' a₁ w₁ hJ'
   have hg : gotoIn l' (.inScope c :: k) = some (.code rest' :: .inScope c :: k) := by simp [gotoIn, hf']
   exact ⟨e₂, a₂, w₂, hq₂, .of_steps (.head step_scope (harr _ hg)) harr₂⟩
 | ret => exact ⟨_, a₁, w₁, hq, .of_steps (.one step_scope) harr⟩
 | panic ch => exact ⟨_, a₁, w₁, hq, .of_steps (.one step_scope) harr⟩
 | outgrown => exact ⟨_, a₁, w₁, hq, .of_steps (.one step_scope) harr⟩
theorem zjk {P : Program} {a : Act} {w : World} {Q : Exit -> Act -> World -> Prop} {X : Code} (J : Nat -> Nat -> Act -> World -> Prop) (m0 : Nat) (h0 : J 0 m0 a w)
 (P0 : ∀ m a w, J 0 m a w -> X.wp P (za8 (fun l' a' w' => ∃ m', m' < m /\ J l' m' a' w') Q) a w)
 (pass : ∀ l m a w, l ≠ 0 -> J l m a w -> ∃ rest, findLabel (Code.seq (Code.label 0) X) l = some rest /\ rest.wp P (za8 (fun l' a' w' => ∃ m', m' < m /\ J l' m' a' w') Q) a w) : (Code.scope (Code.seq (Code.label 0) X)).wp P Q a w := by
 refine zhj J ?_ ?_
 · refine wp_seq (wp_label ?_)
   refine Code.wp_mono ?_ (P0 m0 a w h0)
   intro e a' w' h
   cases e with
   | goto l => obtain ⟨m', _, h⟩ := h; exact ⟨m', h⟩
   | _ => exact h
 · intro l m a w hJ
   by_cases e : l = 0
   · subst e
     exact ⟨.seq .skip X, by simp [findLabel], wp_seq (wp_skip (P0 m a w hJ))⟩
   · exact pass l m a w e hJ
def cls (t : ByteArray) (i : Nat) : Nat -> Prop
 | 1 => zbk t i = true
 | 2 => zbk t i = false /\ ltB (bt t i) = true
 | 3 => zbk t i = false /\ ltB (bt t i) = false /\ dgB (bt t i) = true
 | 4 => zbk t i = false /\ ltB (bt t i) = false /\ dgB (bt t i) = false /\ bt t i = 34
 | 5 => zbk t i = false /\ ltB (bt t i) = false /\ dgB (bt t i) = false /\ ¬ bt t i = 34
 | _ => False
structure ScW (t : ByteArray) (sb : Nat) (w0 w : World) (fr i : Nat) (va : Option Addr) (vc : Nat) (acc : List za) : Prop where
 s : Scn w sb t fr i (.slice va acc.length vc)
 k : zaa (sb + 1) w (.slice va acc.length vc) acc
 b : Below sb w0 w
theorem ScW.read {t : ByteArray} {sb : Nat} {w0 w w' : World} {fr i : Nat} {va : Option Addr} {vc : Nat} {acc : List za} (h : ScW t sb w0 w fr i va vc acc) (hb : Below w.heap.size w w') : ScW t sb w0 w' fr i va vc acc :=
 ⟨h.s.below hb h.s.lt, h.k.below hb, h.b.trans (hb.mono (Nat.le_of_lt h.s.lt))⟩
theorem ScW.grown {t : ByteArray} {sb : Nat} {w0 w w' : World} {fr i j : Nat} {va : Option Addr} {vc : Nat} {acc : List za} (h : ScW t sb w0 w fr i va vc acc) (hs : Scn w' sb t fr j (.slice va acc.length vc)) (hg : w.grownBy w' (some sb)) : ScW t sb w0 w' fr j va vc acc :=
 ⟨hs, h.k.grown hg (Nat.lt_succ_self _), h.b.trans (zl4 hg (Nat.le_of_lt h.s.lt))⟩
theorem ScW.setFrom {t : ByteArray} {sb : Nat} {w0 w : World} {fr i : Nat} {va : Option Addr} {vc : Nat} {acc : List za} (h : ScW t sb w0 w fr i va vc acc) (a : Nat) : ScW t sb w0 (w.setCell ⟨sb, 1, none⟩ (.int .i64 (a : Int))) a i va vc acc :=
 ⟨h.s.setFrom a, h.k.grown (zbt _ _ _ _) (Nat.lt_succ_self _), h.b.setCell (Nat.le_refl _) _⟩
theorem ScW.setAt {t : ByteArray} {sb : Nat} {w0 w : World} {fr i : Nat} {va : Option Addr} {vc : Nat} {acc : List za} (h : ScW t sb w0 w fr i va vc acc) (a : Nat) : ScW t sb w0 (w.setCell ⟨sb, 2, none⟩ (.int .i64 (a : Int))) fr a va vc acc :=
 ⟨h.s.set a, h.k.grown (zbt _ _ _ _) (Nat.lt_succ_self _), h.b.setCell (Nat.le_refl _) _⟩
theorem ScW.drew {t : ByteArray} {sb : Nat} {w0 w : World} {fr i : Nat} {va : Option Addr} {vc : Nat} {acc : List za} (h : ScW t sb w0 w fr i va vc acc) : ScW t sb w0 w.drew fr i va vc acc := ⟨h.s.drew, h.k, h.b.drew⟩
theorem ScW.drewN {t : ByteArray} {sb : Nat} {w0 w : World} {fr i : Nat} {va : Option Addr} {vc : Nat} {acc : List za} (h : ScW t sb w0 w fr i va vc acc) (n : Nat) : ScW t sb w0 (w.drewN n) fr i va vc acc := h.read (below_drewN (Below.refl _ _) n)
def zvt (t : ByteArray) (sb : Nat) (w0 : World) (R : Int × Nat × List za) (l m : Nat) (w : World) : Prop :=
 ∃ (i fr : Nat) (va : Option Addr) (vc : Nat) (acc : List za), ScW t sb w0 w fr i va vc acc /\ acc.length <= i /\ i <= t.size /\ zab t i acc = R /\
   ((l = 0 /\ m = 2 * (t.size - i) + 1) \/ (fr = i /\ i < t.size /\ m = 2 * (t.size - i) /\ bkB (bt t i) = false /\ cls t i l))
def zuc (t : ByteArray) (sb : Nat) (w0 : World) (R : Int × Nat × List za) (e : Ending) (w : World) : Prop :=
 e = .returned (.int .i64 R.1) /\ ∃ (fr i : Nat) (va : Option Addr) (vc : Nat) (acc : List za), ScW t sb w0 w fr i va vc acc /\ (R.1 = 0 -> acc = R.2.2 /\ R.2.1 = 0) /\ (R.1 ≠ 0 -> fr = R.2.1 /\ R.2.2 = [])
theorem zip {t : ByteArray} {i : Nat} (h : i < t.size) : bt t i = ((t.data.toList[i]'(by rw [<- zce]; exact h)).toNat : Int) := by
 unfold bt
 rw [dif_pos h]
 simp
 rfl
theorem ziq {x : UInt8} {n : Nat} (hn : n < 256) : ((x.toNat : Int) = (n : Int)) ↔ x = UInt8.ofNat n := by
 constructor
 · intro h
   have h' : x.toNat = n := by omega
   rw [<- h']
   simp
 · rintro rfl
   simp
   omega
theorem znr (t : ByteArray) (i : Nat) (hi : i <= t.size) : Lib.hasPrefix (t.extract i t.size).data.toList [45, 45] = zbk t i := by
 unfold Lib.hasPrefix
 have hz := zce t
 rw [zby, List.take_of_length_le (by rw [List.length_drop, <- hz]; omega)]
 by_cases h1 : i < t.size
 · rw [List.drop_eq_getElem_cons (by rw [<- hz]; exact h1)]
   by_cases h2 : i + 1 < t.size
   · rw [List.drop_eq_getElem_cons (by rw [<- hz]; exact h2)]
     unfold zbk
     rw [zip h1, zip h2]
     generalize t.data.toList[i]'(by rw [<- hz]; exact h1) = x
     generalize t.data.toList[i + 1]'(by rw [<- hz]; exact h2) = y
     rw [Bool.eq_iff_iff]
     have e1 := ziq (x := x) (n := 45) (by omega)
     have e2 := ziq (x := y) (n := 45) (by omega)
     simp only [List.isPrefixOf, Bool.and_eq_true, beq_iff_eq, Bool.and_true, decide_eq_true_eq]
     constructor
     · rintro ⟨rfl, rfl⟩
       exact ⟨rfl, h2, rfl⟩
     · rintro ⟨a, _, b⟩
       exact ⟨(e1.1 a).symm, (e2.1 b).symm⟩
   · rw [List.drop_of_length_le (by rw [<- hz]; omega)]
     have : zbk t i = false := decide_eq_false (fun h => h2 h.2.1)
     rw [this]
     simp [List.isPrefixOf]
 · rw [List.drop_of_length_le (by rw [<- hz]; omega)]
   have : zbk t i = false := decide_eq_false (fun h => h1 (by omega))
   rw [this]
   rfl
def znq (x : za) : Prop :=
 (x.k = 2 /\ 0 < x.tx.size /\ (∀ r, r < x.tx.size -> ltB (bt x.tx r) = true) /\ isW x.tx = true /\ x.n = 0) \/
 (x.k = 1 /\ 0 < x.tx.size /\ x.tx.size <= 12 /\ (∀ r, r < x.tx.size -> ltB (bt x.tx r) = true) /\ isW x.tx = false /\ x.n = 0) \/
 (x.k = 3 /\ 0 < x.tx.size /\ x.tx.size <= 15 /\ (∀ r, r < x.tx.size -> dgB (bt x.tx r) = true) /\ ¬ (1 < x.tx.size /\ bt x.tx 0 = 48) /\ x.n = zad x.tx 0 x.tx.size) \/
 (x.k = 4 /\ x.tx.size <= 160 /\ (∀ r, r < x.tx.size -> plB (bt x.tx r) = true) /\ x.n = 0) \/
 (x.k = 5 /\ x.tx ∈ mkS /\ x.n = 0)
theorem zkr {t : ByteArray} {i : Nat} (hi : i < t.size) (h : (zh t i).code = 0) : znq (zh t i).x /\ (zh t i).x.at_ = i := by
 unfold zh at h ⊢
 have l1 := zbc (p := ltB) (t := t) (i := i) (by omega)
 have l2 := zbc (p := dgB) (t := t) (i := i) (by omega)
 have l3 := zbc (p := plB) (t := t) (i := i + 1) (by omega)
 have g3 := zcv plB t (i + 1)
 split
 · rename_i h1
   have g1 := zc8 hi h1
   have hz : (t.extract i (ze ltB t i)).size = ze ltB t i - i := by rw [ByteArray.size_extract]; omega
   have hb : ∀ r, r < (t.extract i (ze ltB t i)).size -> ltB (bt (t.extract i (ze ltB t i)) r) = true := fun r hr => by
    rw [zbb t i _ r l1 (by omega)]
    exact zeg (i := i) (by omega) (by omega)
   simp only [h1, if_true] at h
   split
   · rename_i h2
     exact ⟨.inl ⟨rfl, by show 0 < (t.extract i (ze ltB t i)).size; omega, hb, h2, rfl⟩, rfl⟩
   · rename_i h2
     simp only [h2] at h
     split
     · rename_i h3
       simp [h3] at h
     · rename_i h3
       exact ⟨.inr (.inl ⟨rfl, by show 0 < (t.extract i (ze ltB t i)).size; omega, by show (t.extract i (ze ltB t i)).size <= 12; omega, hb, by simpa using h2, rfl⟩), rfl⟩
 · rename_i h1
   simp only [h1, if_false] at h
   split
   · rename_i h2
     have g2 := zc8 hi h2
     simp only [h2, if_true] at h
     have hz : (t.extract i (ze dgB t i)).size = ze dgB t i - i := by rw [ByteArray.size_extract]; omega
     have hb : ∀ r, r < (t.extract i (ze dgB t i)).size -> dgB (bt (t.extract i (ze dgB t i)) r) = true := fun r hr => by
      rw [zbb t i _ r l2 (by omega)]
      exact zeg (i := i) (by omega) (by omega)
     split
     · rename_i h3
       rw [if_pos h3] at h
       simp at h
     · rename_i h3
       simp only [not_or] at h3
       refine ⟨.inr (.inr (.inl ⟨rfl, by show 0 < (t.extract i (ze dgB t i)).size; omega, by show (t.extract i (ze dgB t i)).size <= 15; omega, hb, ?_, ?_⟩)), rfl⟩
       · show ¬ (1 < (t.extract i (ze dgB t i)).size /\ bt (t.extract i (ze dgB t i)) 0 = 48)
         rw [hz, zbb t i _ 0 l2 (by omega), Nat.add_zero]
         exact h3.2.1
       · show zad t i (ze dgB t i - i) = zad (t.extract i (ze dgB t i)) 0 (t.extract i (ze dgB t i)).size
         rw [hz, zem t i _ l2 _ (by omega)]
   · rename_i h2
     simp only [h2, if_false] at h
     split
     · rename_i h3
       simp only [h3, if_true] at h
       split
       · rename_i h4
         rw [if_pos h4] at h
         simp at h
       · rename_i h4
         simp only [not_or, Nat.not_le] at h4
         have hz : (t.extract (i + 1) (ze plB t (i + 1))).size = ze plB t (i + 1) - (i + 1) := by rw [ByteArray.size_extract]; omega
         refine ⟨.inr (.inr (.inr (.inl ⟨rfl, by show (t.extract (i + 1) (ze plB t (i + 1))).size <= 160; omega, fun r hr => ?_, rfl⟩))), rfl⟩
         show plB (bt (t.extract (i + 1) (ze plB t (i + 1))) r) = true
         have hr' : r < (t.extract (i + 1) (ze plB t (i + 1))).size := hr
         rw [zbb t (i + 1) _ r l3 (by omega)]
         exact zeg (i := i + 1) (by omega) (by omega)
     · rename_i h3
       simp only [h3, if_false] at h
       cases hm : zbo t i with
       | none => simp only [hm] at h; simp at h
       | some m => exact ⟨.inr (.inr (.inr (.inr ⟨rfl, (zc9 hm).2.2, rfl⟩))), rfl⟩
def zc1 (i : Nat) (X : List za) : Prop := (∀ x ∈ X, znq x /\ x.at_ < i) /\ ∀ a b (ha : a < b) (hb : b < X.length), (X[a]'(by omega)).at_ < X[b].at_
theorem zc1.snoc {i j : Nat} {X : List za} {x : za} (h : zc1 i X) (hx : znq x) (hi : x.at_ = i) (hj : i < j) : zc1 j (X ++ [x]) := by
 refine ⟨fun y hy => ?_, fun a b ha hb => ?_⟩
 · rcases List.mem_append.1 hy with hy | hy
   · exact ⟨(h.1 y hy).1, by have := (h.1 y hy).2; omega⟩
   · rw [List.mem_singleton] at hy
     subst hy
     exact ⟨hx, by omega⟩
 · have hl : (X ++ [x]).length = X.length + 1 := by simp
   by_cases e : b < X.length
   · rw [List.getElem_append_left (by omega), List.getElem_append_left e]
     exact h.2 a b ha e
   · have e2 : b = X.length := by omega
     subst e2
     rw [List.getElem_append_left (by omega), List.getElem_append_right (by omega)]
     simp only [Nat.sub_self, List.getElem_cons_zero]
     rw [hi]
     exact (h.1 _ (List.getElem_mem _)).2
theorem zc1.mono {i j : Nat} {X : List za} (h : zc1 i X) (hj : i <= j) : zc1 j X := ⟨fun y hy => ⟨(h.1 y hy).1, by have := (h.1 y hy).2; omega⟩, h.2⟩
theorem zhi : zc1 0 [] := ⟨fun _ hy => (by cases hy), fun a b _ hb => by simp at hb⟩
theorem zgi (t : ByteArray) : ∀ n i acc, zc1 i acc -> ∃ j, zc1 j (zcm t n i acc).2.2
 | 0, i, acc, h => ⟨i, h⟩
 | n + 1, i, acc, h => by
   unfold zcm
   split
   · rename_i hi
     split
     · exact zgi t n _ _ (h.mono (by omega))
     · split
       · rename_i h3
         exact zgi t n _ _ (h.mono (by have := ze7 h3; omega))
       · split
         · rename_i h4
           have a := zkr hi h4
           exact zgi t n _ _ (h.snoc a.1 a.2 (zd2 hi h4).1)
         · exact ⟨0, zhi⟩
   · exact ⟨i, h⟩
theorem zmo (t : ByteArray) : ∃ j, zc1 j (zn t).2.2 := by
 have h0 := zhi
 unfold zn
 split
 · exact ⟨0, h0⟩
 · exact zgi t _ 0 [] h0
theorem zmp {p : Int -> Bool} {t : ByteArray} : ∀ n i j, t.size - i = n -> i <= j -> j <= t.size -> (∀ k, i <= k -> k < j -> p (bt t k) = true) -> (j < t.size -> p (bt t j) = false) -> ze p t i = j
 | 0, i, j, hn, h1, h2, h3, h4 => by rw [zbx (by omega)]; omega
 | n + 1, i, j, hn, h1, h2, h3, h4 => by
   by_cases e : i = j
   · subst e; exact zcc (h4 (by omega))
   · rw [zbn (by omega) (h3 i (Nat.le_refl _) (by omega))]
     exact zmp n (i + 1) j (by omega) (by omega) h2 (fun k a b => h3 k (by omega) b) h4
theorem zsv {p : Int -> Bool} {t : ByteArray} {i j : Nat} (h1 : i <= j) (h2 : j <= t.size) (h3 : ∀ k, i <= k -> k < j -> p (bt t k) = true) (h4 : j < t.size -> p (bt t j) = false) : ze p t i = j := zmp _ i j rfl h1 h2 h3 h4
structure StA (A : ByteArray) (p : Nat) (s : ByteArray) : Prop where
 l : p + s.size < A.size
 b : ∀ r, r < s.size -> bt A (p + r) = bt s r
 z : bt A (p + s.size) = 32
theorem zo6 {a b : ByteArray} (hs : a.size = b.size) (h : ∀ r, r < a.size -> bt a r = bt b r) : a = b := by
 apply ByteArray.ext
 apply Array.ext
 · exact hs
 · intro r h1 h2
   have := h r h1
   unfold bt at this
   rw [dif_pos (show r < a.size from h1), dif_pos (show r < b.size from h2)] at this
   have e : (a.data[r]'h1).toNat = (b.data[r]'h2).toNat := Int.ofNat_inj.1 this
   exact UInt8.toNat_inj.1 e
theorem StA.ext {A : ByteArray} {p : Nat} {s : ByteArray} (h : StA A p s) : A.extract p (p + s.size) = s := by
 have hz : (A.extract p (p + s.size)).size = s.size := by rw [ByteArray.size_extract]; have := h.l; omega
 refine zo6 hz fun r hr => ?_
 rw [zbb A p _ r (by have := h.l; omega) (by omega)]
 exact h.b r (by omega)
theorem StA.drop {A : ByteArray} {p : Nat} {s : ByteArray} (h : StA A p s) : A.data.toList.drop p = s.data.toList ++ 32 :: A.data.toList.drop (p + s.size + 1) := by
 have hl := h.l
 have hz := zce A
 have e := h.ext
 have e1 : (A.data.toList.drop p).take s.size = s.data.toList := by
  rw [<- congrArg (fun y : ByteArray => y.data.toList) e, zby]
  congr 1
  omega
 have e2 : A.data.toList.drop (p + s.size) = 32 :: A.data.toList.drop (p + s.size + 1) := by
  rw [List.drop_eq_getElem_cons (by rw [<- hz]; exact hl)]
  have h3 := h.z
  rw [zip hl] at h3
  have h4 := (ziq (n := 32) (by omega)).1 h3
  rw [h4]
  rfl
 rw [<- List.take_append_drop s.size (A.data.toList.drop p), e1, List.drop_drop, e2]
end Go.Proofs.YtiglkhkfbgjjoaaGreatDoor
