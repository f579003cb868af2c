/- Tokens, pure: what the tokens of a text are, and that they are found again with blanks between. No Go here. -/
import Derived.Test.YtiglkhkfbgjjoaaDoorProg
import Derived.Test.YtiglkhkfbgjjoaaDoorXLxS
namespace Go.Proofs.YtiglkhkfbgjjoaaDoor
set_option maxRecDepth 20000
open Go.RowKit Go.PlainAid
set_option linter.unusedSimpArgs false
set_option linter.unusedVariables false

/-- What a token is, by its kind. -/
def TokOk (x : TokD) : Prop :=
  (x.k = 2 ∧ 0 < x.tx.size ∧ (∀ r, r < x.tx.size → ltB (bt x.tx r) = true) ∧ isW x.tx = true ∧ x.n = 0) ∨
  (x.k = 1 ∧ 0 < x.tx.size ∧ x.tx.size ≤ 12 ∧ (∀ r, r < x.tx.size → ltB (bt x.tx r) = true) ∧ isW x.tx = false ∧ x.n = 0) ∨
  (x.k = 3 ∧ 0 < x.tx.size ∧ x.tx.size ≤ 15 ∧ (∀ r, r < x.tx.size → dgB (bt x.tx r) = true) ∧ ¬ (1 < x.tx.size ∧ bt x.tx 0 = 48) ∧ x.n = numF x.tx 0 x.tx.size) ∨
  (x.k = 4 ∧ x.tx.size ≤ 160 ∧ (∀ r, r < x.tx.size → plB (bt x.tx r) = true) ∧ x.n = 0) ∨
  (x.k = 5 ∧ x.tx ∈ mkS ∧ x.n = 0)
theorem tokAt_ok {t : ByteArray} {i : Nat} (hi : i < t.size) (h : (tokAt t i).code = 0) : TokOk (tokAt t i).x ∧ (tokAt t i).x.at_ = i := by
  unfold tokAt at h ⊢
  have l1 := runE_le (p := ltB) (t := t) (i := i) (by omega)
  have l2 := runE_le (p := dgB) (t := t) (i := i) (by omega)
  have l3 := runE_le (p := plB) (t := t) (i := i + 1) (by omega)
  have g3 := runE_ge plB t (i + 1)
  split
  · rename_i h1
    have g1 := runE_gt hi h1
    have hz : (t.extract i (runE ltB t i)).size = runE ltB t i - i := by rw [ByteArray.size_extract]; omega
    have hb : ∀ r, r < (t.extract i (runE ltB t i)).size → ltB (bt (t.extract i (runE ltB t i)) r) = true := fun r hr => by
      rw [bt_extract t i _ r l1 (by omega)]
      exact runE_in (i := i) (by omega) (by omega)
    simp only [h1, if_true] at h
    split
    · rename_i h2
      exact ⟨.inl ⟨rfl, by show 0 < (t.extract i (runE ltB t i)).size; omega, hb, h2, rfl⟩, rfl⟩
    · rename_i h2
      simp only [h2] at h
      split
      · rename_i h3
        simp [h3] at h
      · rename_i h3
        exact ⟨.inr (.inl ⟨rfl, by show 0 < (t.extract i (runE ltB t i)).size; omega, by show (t.extract i (runE ltB t i)).size ≤ 12; omega, hb, by simpa using h2, rfl⟩), rfl⟩
  · rename_i h1
    simp only [h1, if_false] at h
    split
    · rename_i h2
      have g2 := runE_gt hi h2
      simp only [h2, if_true] at h
      have hz : (t.extract i (runE dgB t i)).size = runE dgB t i - i := by rw [ByteArray.size_extract]; omega
      have hb : ∀ r, r < (t.extract i (runE dgB t i)).size → dgB (bt (t.extract i (runE dgB t i)) r) = true := fun r hr => by
        rw [bt_extract t i _ r l2 (by omega)]
        exact runE_in (i := i) (by omega) (by omega)
      split
      · rename_i h3
        rw [if_pos h3] at h
        simp at h
      · rename_i h3
        simp only [not_or] at h3
        refine ⟨.inr (.inr (.inl ⟨rfl, by show 0 < (t.extract i (runE dgB t i)).size; omega, by show (t.extract i (runE dgB t i)).size ≤ 15; omega, hb, ?_, ?_⟩)), rfl⟩
        · show ¬ (1 < (t.extract i (runE dgB t i)).size ∧ bt (t.extract i (runE dgB t i)) 0 = 48)
          rw [hz, bt_extract t i _ 0 l2 (by omega), Nat.add_zero]
          exact h3.2.1
        · show numF t i (runE dgB t i - i) = numF (t.extract i (runE dgB t i)) 0 (t.extract i (runE dgB t i)).size
          rw [hz, numF_extract t i _ l2 _ (by omega)]
    · rename_i h2
      simp only [h2, if_false] at h
      split
      · rename_i h3
        simp only [h3, if_true] at h
        split
        · rename_i h4
          rw [if_pos h4] at h
          simp at h
        · rename_i h4
          simp only [not_or, Nat.not_le] at h4
          have hz : (t.extract (i + 1) (runE plB t (i + 1))).size = runE plB t (i + 1) - (i + 1) := by rw [ByteArray.size_extract]; omega
          refine ⟨.inr (.inr (.inr (.inl ⟨rfl, by show (t.extract (i + 1) (runE plB t (i + 1))).size ≤ 160; omega, fun r hr => ?_, rfl⟩))), rfl⟩
          show plB (bt (t.extract (i + 1) (runE plB t (i + 1))) r) = true
          have hr' : r < (t.extract (i + 1) (runE plB t (i + 1))).size := hr
          rw [bt_extract t (i + 1) _ r l3 (by omega)]
          exact runE_in (i := i + 1) (by omega) (by omega)
      · rename_i h3
        simp only [h3, if_false] at h
        cases hm : mkAt t i with
        | none => simp only [hm] at h; simp at h
        | some m => exact ⟨.inr (.inr (.inr (.inr ⟨rfl, (mkAt_some hm).2.2, rfl⟩))), rfl⟩
/-- The tokens of a text are tokens, their places rise, all ahead of i. -/
def ToksOk (i : Nat) (X : List TokD) : Prop := (∀ x ∈ X, TokOk x ∧ x.at_ < i) ∧ ∀ a b (ha : a < b) (hb : b < X.length), (X[a]'(by omega)).at_ < X[b].at_
theorem ToksOk.snoc {i j : Nat} {X : List TokD} {x : TokD} (h : ToksOk i X) (hx : TokOk x) (hi : x.at_ = i) (hj : i < j) : ToksOk j (X ++ [x]) := by
  refine ⟨fun y hy => ?_, fun a b ha hb => ?_⟩
  · rcases List.mem_append.1 hy with hy | hy
    · exact ⟨(h.1 y hy).1, by have := (h.1 y hy).2; omega⟩
    · rw [List.mem_singleton] at hy
      subst hy
      exact ⟨hx, by omega⟩
  · have hl : (X ++ [x]).length = X.length + 1 := by simp
    by_cases e : b < X.length
    · rw [List.getElem_append_left (by omega), List.getElem_append_left e]
      exact h.2 a b ha e
    · have e2 : b = X.length := by omega
      subst e2
      rw [List.getElem_append_left (by omega), List.getElem_append_right (by omega)]
      simp only [Nat.sub_self, List.getElem_cons_zero]
      rw [hi]
      exact (h.1 _ (List.getElem_mem _)).2
theorem ToksOk.mono {i j : Nat} {X : List TokD} (h : ToksOk i X) (hj : i ≤ j) : ToksOk j X := ⟨fun y hy => ⟨(h.1 y hy).1, by have := (h.1 y hy).2; omega⟩, h.2⟩
theorem toksOk_nil : ToksOk 0 [] := ⟨fun _ hy => (by cases hy), fun a b _ hb => by simp at hb⟩
theorem lexN_ok (t : ByteArray) : ∀ n i acc, ToksOk i acc → ∃ j, ToksOk j (lexN t n i acc).2.2
  | 0, i, acc, h => ⟨i, h⟩
  | n + 1, i, acc, h => by
    unfold lexN
    split
    · rename_i hi
      split
      · exact lexN_ok t n _ _ (h.mono (by omega))
      · split
        · rename_i h3
          exact lexN_ok t n _ _ (h.mono (by have := rem_gt h3; omega))
        · split
          · rename_i h4
            have a := tokAt_ok hi h4
            exact lexN_ok t n _ _ (h.snoc a.1 a.2 (tokAt_end hi h4).1)
          · exact ⟨0, toksOk_nil⟩
    · exact ⟨i, h⟩
theorem lexR_ok (t : ByteArray) : ∃ j, ToksOk j (lexR t).2.2 := by
  have h0 := toksOk_nil
  unfold lexR
  split
  · exact ⟨0, h0⟩
  · exact lexN_ok t _ 0 [] h0
/-- A run is told by its end. -/
theorem runN_is {p : Int → Bool} {t : ByteArray} : ∀ n i j, t.size - i = n → i ≤ j → j ≤ t.size → (∀ k, i ≤ k → k < j → p (bt t k) = true) → (j < t.size → p (bt t j) = false) → runE p t i = j
  | 0, i, j, hn, h1, h2, h3, h4 => by rw [runE_end (by omega)]; omega
  | n + 1, i, j, hn, h1, h2, h3, h4 => by
    by_cases e : i = j
    · subst e; exact runE_no (h4 (by omega))
    · rw [runE_yes (by omega) (h3 i (Nat.le_refl _) (by omega))]
      exact runN_is n (i + 1) j (by omega) (by omega) h2 (fun k a b => h3 k (by omega) b) h4
theorem runE_is {p : Int → Bool} {t : ByteArray} {i j : Nat} (h1 : i ≤ j) (h2 : j ≤ t.size) (h3 : ∀ k, i ≤ k → k < j → p (bt t k) = true) (h4 : j < t.size → p (bt t j) = false) : runE p t i = j := runN_is _ i j rfl h1 h2 h3 h4
/-- The text s stands at p in A, and a blank behind it. -/
structure StA (A : ByteArray) (p : Nat) (s : ByteArray) : Prop where
  l : p + s.size < A.size
  b : ∀ r, r < s.size → bt A (p + r) = bt s r
  z : bt A (p + s.size) = 32
theorem bt_ext {a b : ByteArray} (hs : a.size = b.size) (h : ∀ r, r < a.size → bt a r = bt b r) : a = b := by
  apply ByteArray.ext
  apply Array.ext
  · exact hs
  · intro r h1 h2
    have := h r h1
    unfold bt at this
    rw [dif_pos (show r < a.size from h1), dif_pos (show r < b.size from h2)] at this
    have e : (a.data[r]'h1).toNat = (b.data[r]'h2).toNat := Int.ofNat_inj.1 this
    exact UInt8.toNat_inj.1 e
theorem StA.ext {A : ByteArray} {p : Nat} {s : ByteArray} (h : StA A p s) : A.extract p (p + s.size) = s := by
  have hz : (A.extract p (p + s.size)).size = s.size := by rw [ByteArray.size_extract]; have := h.l; omega
  refine bt_ext hz fun r hr => ?_
  rw [bt_extract A p _ r (by have := h.l; omega) (by omega)]
  exact h.b r (by omega)
/-- How a token is written. -/
def pieceT (x : TokD) : ByteArray := if x.k = 4 then (⟨#[34]⟩ ++ x.tx) ++ ⟨#[34]⟩ else x.tx
theorem pieceT_no {x : TokD} (h : x.k ≠ 4) : pieceT x = x.tx := by unfold pieceT; rw [if_neg h]
theorem bt_at {s : ByteArray} {l : List UInt8} (h : s.data.toList = l) {i : Nat} (hi : i < l.length) : bt s i = ((l[i]).toNat : Int) := by
  subst h
  exact bt_list (by rw [size_list]; exact hi)
theorem piece_q {x : TokD} (h : x.k = 4) : (pieceT x).size = x.tx.size + 2 ∧ bt (pieceT x) 0 = 34 ∧ (∀ r, r < x.tx.size → bt (pieceT x) (r + 1) = bt x.tx r) ∧ bt (pieceT x) (x.tx.size + 1) = 34 := by
  have hl : (pieceT x).data.toList = 34 :: (x.tx.data.toList ++ [34]) := by
    unfold pieceT
    rw [if_pos h]
    simp
  have hz : (pieceT x).size = x.tx.size + 2 := by rw [size_list, hl, size_list x.tx]; simp
  have z := size_list x.tx
  refine ⟨hz, ?_, fun r hr => ?_, ?_⟩
  · rw [bt_at hl (by simp)]; rfl
  · rw [bt_at hl (by simp <;> omega), bt_at (l := x.tx.data.toList) rfl (by omega)]
    simp only [List.getElem_cons_succ]
    rw [List.getElem_append_left (by omega)]
  · rw [bt_at hl (by simp <;> omega)]
    simp only [List.getElem_cons_succ]
    rw [List.getElem_append_right (by omega)]
    simp only [show x.tx.size - x.tx.data.toList.length = 0 by omega]
    rfl
theorem numF_congr {A s : ByteArray} {p : Nat} : ∀ k, (∀ r, r < k → bt A (p + r) = bt s r) → numF A p k = numF s 0 k
  | 0, _ => rfl
  | k + 1, h => by
    show numF A p k * 10 + (bt A (p + k) - 48) = numF s 0 k * 10 + (bt s (0 + k) - 48)
    rw [numF_congr k fun r hr => h r (by omega), h k (by omega), Nat.zero_add]
/-- A mark with a blank behind it is found. -/
theorem mark_again {l : List UInt8} {m : ByteArray} (hm : m ∈ mkS) : mkS.find? (fun y => y.data.toList.isPrefixOf (m.data.toList ++ 32 :: l)) = some m := by
  simp only [mkS, List.mem_cons, List.not_mem_nil, or_false] at hm
  rcases hm with rfl | rfl | rfl | rfl | rfl | rfl | rfl | rfl | rfl | rfl | rfl | rfl | rfl | rfl | rfl | rfl | rfl | rfl | rfl | rfl | rfl <;> rfl
theorem mark_first {m : ByteArray} (hm : m ∈ mkS) : ltB (bt m 0) = false ∧ dgB (bt m 0) = false ∧ bt m 0 ≠ 34 ∧ bkB (bt m 0) = false ∧ (bt m 0 = 45 → m.size = 1) := by
  simp only [mkS, List.mem_cons, List.not_mem_nil, or_false] at hm
  rcases hm with rfl | rfl | rfl | rfl | rfl | rfl | rfl | rfl | rfl | rfl | rfl | rfl | rfl | rfl | rfl | rfl | rfl | rfl | rfl | rfl | rfl <;> decide
theorem StA.drop {A : ByteArray} {p : Nat} {s : ByteArray} (h : StA A p s) : A.data.toList.drop p = s.data.toList ++ 32 :: A.data.toList.drop (p + s.size + 1) := by
  have hl := h.l
  have hz := size_list A
  have e := h.ext
  have e1 : (A.data.toList.drop p).take s.size = s.data.toList := by
    rw [← congrArg (fun y : ByteArray => y.data.toList) e, extract_list]
    congr 1
    omega
  have e2 : A.data.toList.drop (p + s.size) = 32 :: A.data.toList.drop (p + s.size + 1) := by
    rw [List.drop_eq_getElem_cons (by rw [← hz]; exact hl)]
    have h3 := h.z
    rw [bt_list hl] at h3
    have h4 := (byte_is (n := 32) (by omega)).1 h3
    rw [h4]
    rfl
  rw [← List.take_append_drop s.size (A.data.toList.drop p), e1, List.drop_drop, e2]
theorem tok_again {A : ByteArray} {p : Nat} {x : TokD} (hx : TokOk x) (h : StA A p (pieceT x)) :
    p < A.size ∧ bkB (bt A p) = false ∧ remB A p = false ∧ tokAt A p = ⟨0, ⟨x.k, p, x.tx, x.n⟩, p + (pieceT x).size⟩ := by
  obtain ⟨k, at_, tx, n⟩ := x
  have hl := h.l
  rcases hx with ⟨rfl, h1, h2, h3, rfl⟩ | ⟨rfl, h1, h12, h2, h3, rfl⟩ | ⟨rfl, h1, h12, h2, h3, hn⟩ | ⟨rfl, h12, h2, rfl⟩ | ⟨rfl, h1, rfl⟩
  · rw [pieceT_no (by simp)] at h ⊢
    simp only at h h1 h2 h3 ⊢
    have b0 := h.b 0 h1
    rw [Nat.add_zero] at b0
    have c0 : ltB (bt A p) = true := by rw [b0]; exact h2 0 h1
    have c1 := of_decide_eq_true c0
    have hE : runE ltB A p = p + tx.size := runE_is (by omega) (by have := h.l; omega) (fun k a b => by have := h.b (k - p) (by omega); rw [show p + (k - p) = k by omega] at this; rw [this]; exact h2 _ (by omega)) (fun _ => by rw [h.z]; rfl)
    refine ⟨by have := h.l; omega, decide_eq_false (by omega), decide_eq_false (by omega), ?_⟩
    unfold tokAt
    rw [if_pos c0, hE, h.ext, if_pos h3]
  · rw [pieceT_no (by simp)] at h ⊢
    simp only at h h1 h12 h2 h3 ⊢
    have b0 := h.b 0 h1
    rw [Nat.add_zero] at b0
    have c0 : ltB (bt A p) = true := by rw [b0]; exact h2 0 h1
    have c1 := of_decide_eq_true c0
    have hE : runE ltB A p = p + tx.size := runE_is (by omega) (by have := h.l; omega) (fun k a b => by have := h.b (k - p) (by omega); rw [show p + (k - p) = k by omega] at this; rw [this]; exact h2 _ (by omega)) (fun _ => by rw [h.z]; rfl)
    refine ⟨by have := h.l; omega, decide_eq_false (by omega), decide_eq_false (by omega), ?_⟩
    unfold tokAt
    rw [if_pos c0, hE, h.ext, if_neg (by simp [h3]), if_neg (by omega)]
  · rw [pieceT_no (by simp)] at h ⊢
    simp only at h h1 h12 h2 h3 ⊢
    have b0 := h.b 0 h1
    rw [Nat.add_zero] at b0
    have c0 : dgB (bt A p) = true := by rw [b0]; exact h2 0 h1
    have c1 := of_decide_eq_true c0
    simp only at hn
    subst hn
    have cl : ltB (bt A p) = false := decide_eq_false (by omega)
    have hE : runE dgB A p = p + tx.size := runE_is (by omega) (by have := h.l; omega) (fun k a b => by have := h.b (k - p) (by omega); rw [show p + (k - p) = k by omega] at this; rw [this]; exact h2 _ (by omega)) (fun _ => by rw [h.z]; rfl)
    have hz0 : ltB (bt A (p + tx.size)) = false := by rw [h.z]; rfl
    refine ⟨by have := h.l; omega, decide_eq_false (by omega), decide_eq_false (by omega), ?_⟩
    unfold tokAt
    rw [if_neg (by simp [cl]), if_pos c0, hE, if_neg (by rw [hz0, b0]; simp only [show p + tx.size - p = tx.size by omega]; intro hh; rcases hh with a | a | a; omega; exact h3 a; simp at a), h.ext, show p + tx.size - p = tx.size by omega, numF_congr tx.size h.b]
  · obtain ⟨q1, q2, q3, q4⟩ := piece_q (x := ⟨4, at_, tx, 0⟩) rfl
    simp only at q1 q3 q4 h2 h12
    generalize pieceT ⟨4, at_, tx, 0⟩ = P at *
    have b0 := h.b 0 (by omega)
    rw [Nat.add_zero, q2] at b0
    have bz := h.b (tx.size + 1) (by omega)
    rw [q4] at bz
    have bb : ∀ r, r < tx.size → bt A (p + 1 + r) = bt tx r := fun r hr => by
      have := h.b (r + 1) (by omega)
      rw [q3 r hr] at this
      rw [show p + 1 + r = p + (r + 1) by omega]
      exact this
    have hE : runE plB A (p + 1) = p + 1 + tx.size := runE_is (by omega) (by omega) (fun k a b => by have := bb (k - (p + 1)) (by omega); rw [show p + 1 + (k - (p + 1)) = k by omega] at this; rw [this]; exact h2 _ (by omega)) (fun _ => by rw [show p + 1 + tx.size = p + (tx.size + 1) by omega, bz]; rfl)
    have hx : A.extract (p + 1) (p + 1 + tx.size) = tx := by
      have hz : (A.extract (p + 1) (p + 1 + tx.size)).size = tx.size := by rw [ByteArray.size_extract]; omega
      refine bt_ext hz fun r hr => ?_
      rw [bt_extract A (p + 1) _ r (by omega) (by omega)]
      exact bb r (by omega)
    refine ⟨by omega, decide_eq_false (by omega), decide_eq_false (by omega), ?_⟩
    unfold tokAt
    rw [b0, if_neg (by decide), if_neg (by decide), if_pos rfl, hE, if_neg (by rw [show p + 1 + tx.size = p + (tx.size + 1) by omega, bz]; simp only [ne_eq, not_true, false_or]; omega), hx]
    simp only [TkR.mk.injEq, true_and]
    omega
  · rw [pieceT_no (by simp)] at h ⊢
    simp only at h h1 ⊢
    obtain ⟨m1, m2, m3, m4, m5⟩ := mark_first h1
    have hs := mkS_size tx h1
    have b0 := h.b 0 (by omega)
    rw [Nat.add_zero] at b0
    have hk : mkAt A p = some tx := by
      have e2 : isMk A p = fun m => m.data.toList.isPrefixOf (A.data.toList.drop p) := by
        funext m
        exact isMk_list A p m (by have := h.l; omega)
      unfold mkAt
      rw [e2, h.drop]
      exact mark_again h1
    refine ⟨by have := h.l; omega, by rw [b0]; exact m4, decide_eq_false ?_, ?_⟩
    · rintro ⟨a, _, b⟩
      rw [b0] at a
      have := m5 a
      have hz := h.z
      rw [this, b] at hz
      exact absurd hz (by decide)
    · unfold tokAt
      rw [b0, if_neg (by simp [m1]), if_neg (by simp [m2]), if_neg m3, hk]
/-- The bytes of the tokens, a blank behind each. -/
def wrL (X : List TokD) : List UInt8 := X.flatMap fun x => (pieceT x).data.toList ++ [32]
def atP (x : TokD) (p : Nat) : TokD := ⟨x.k, p, x.tx, x.n⟩
theorem lex_again {A : ByteArray} : ∀ (X : List TokD) (P : List UInt8) (acc : List TokD), A.data.toList = P ++ wrL X → (∀ x ∈ X, TokOk x) →
    ∃ Y : List TokD, lexF A P.length acc = (0, 0, acc ++ Y) ∧ Y.length = X.length ∧ ∀ j (h1 : j < X.length) (h2 : j < Y.length), Y[j].k = X[j].k ∧ Y[j].tx = X[j].tx ∧ Y[j].n = X[j].n
  | [], P, acc, hA, _ => by
    refine ⟨[], ?_, rfl, fun j h1 => by simp at h1⟩
    have hz := size_list A
    rw [hA] at hz
    simp [wrL] at hz
    rw [lexF_end (by omega), List.append_nil]
  | x :: X, P, acc, hA, hX => by
    have hz := size_list A
    have hw : wrL (x :: X) = (pieceT x).data.toList ++ ([32] ++ wrL X) := by simp [wrL]
    rw [hw] at hA
    have zp := size_list (pieceT x)
    have hS : StA A P.length (pieceT x) := by
      refine ⟨?_, fun r hr => ?_, ?_⟩
      · rw [hz, hA]; simp <;> omega
      · rw [bt_at hA (by simp <;> omega), bt_at (l := (pieceT x).data.toList) rfl (by omega), List.getElem_append_right (by omega)]
        simp only [show P.length + r - P.length = r by omega]
        rw [List.getElem_append_left (by omega)]
      · rw [bt_at hA (by simp <;> omega), List.getElem_append_right (by omega)]
        simp only [show P.length + (pieceT x).size - P.length = (pieceT x).size by omega]
        rw [List.getElem_append_right (by omega)]
        simp only [show (pieceT x).size - (pieceT x).data.toList.length = 0 by omega]
        rfl
    obtain ⟨a1, a2, a3, a4⟩ := tok_again (hX x (List.mem_cons_self ..)) hS
    have hl := hS.l
    have hb : bkB (bt A (P.length + (pieceT x).size)) = true := by rw [hS.z]; rfl
    have hA2 : A.data.toList = (P ++ ((pieceT x).data.toList ++ [32])) ++ wrL X := by rw [hA]; simp
    obtain ⟨Y, y1, y2, y3⟩ := lex_again X (P ++ ((pieceT x).data.toList ++ [32])) (acc ++ [atP x P.length]) hA2 (fun y hy => hX y (List.mem_cons_of_mem _ hy))
    refine ⟨atP x P.length :: Y, ?_, by simp [y2], fun j h1 h2 => ?_⟩
    · rw [lexF_tok a1 a2 a3 (by rw [a4]), a4]
      simp only
      rw [lexF_blk hl hb]
      have e : P.length + (pieceT x).size + 1 = (P ++ ((pieceT x).data.toList ++ [32])).length := by simp; omega
      rw [e]
      show lexF A _ (acc ++ [atP x P.length]) = _
      rw [y1]
      simp
    · cases j with
      | zero => exact ⟨rfl, rfl, rfl⟩
      | succ j => exact y3 j (by simpa using h1) (by simpa using h2)
end Go.Proofs.YtiglkhkfbgjjoaaDoor
