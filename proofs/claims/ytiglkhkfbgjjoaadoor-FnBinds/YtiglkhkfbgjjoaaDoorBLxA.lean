/- Tokens, pure: classes of bytes, runs, the token at a place, the tokens of a text. No Go here. -/
import Derived.Test.YtiglkhkfbgjjoaaDoorProg
import Derived.Test.YtiglkhkfbgjjoaaDoorBLxW
import Derived.PlainAid
import Derived.Lib.Strings
namespace Go.Proofs.YtiglkhkfbgjjoaaDoor
set_option maxRecDepth 20000
open Go.RowKit Go.PlainAid
set_option linter.unusedSimpArgs false
set_option linter.unusedVariables false

def ltB (r : Int) : Bool := decide ((97 ≤ r ∧ r ≤ 122) ∨ (65 ≤ r ∧ r ≤ 90))
def dgB (r : Int) : Bool := decide (48 ≤ r ∧ r ≤ 57)
def bkB (r : Int) : Bool := decide (r = 9 ∨ r = 10 ∨ r = 32)
def lnB (r : Int) : Bool := decide (r ≠ 10)
def plB (r : Int) : Bool := decide (32 ≤ r ∧ r ≤ 126 ∧ r ≠ 34)

/-- The end of the longest run from i on, n bytes at most. -/
def runN (p : Int → Bool) (t : ByteArray) : Nat → Nat → Nat
  | 0, i => i
  | n + 1, i => if p (bt t i) then runN p t n (i + 1) else i
def runE (p : Int → Bool) (t : ByteArray) (i : Nat) : Nat := runN p t (t.size - i) i
theorem runE_end {p : Int → Bool} {t : ByteArray} {i : Nat} (h : ¬ i < t.size) : runE p t i = i := by
  unfold runE
  rw [show t.size - i = 0 by omega]
  rfl
theorem runE_yes {p : Int → Bool} {t : ByteArray} {i : Nat} (h : i < t.size) (hp : p (bt t i) = true) : runE p t i = runE p t (i + 1) := by
  unfold runE
  rw [show t.size - i = (t.size - (i + 1)) + 1 by omega]
  simp [runN, hp]
theorem runE_no {p : Int → Bool} {t : ByteArray} {i : Nat} (hp : p (bt t i) = false) : runE p t i = i := by
  unfold runE
  cases h : t.size - i with
  | zero => rfl
  | succ n => simp [runN, hp]
theorem runN_ge (p : Int → Bool) (t : ByteArray) : ∀ n i, i ≤ runN p t n i ∧ runN p t n i ≤ i + n
  | 0, i => ⟨Nat.le_refl _, Nat.le_refl _⟩
  | n + 1, i => by
    unfold runN
    split
    · have := runN_ge p t n (i + 1); omega
    · omega
theorem runE_ge (p : Int → Bool) (t : ByteArray) (i : Nat) : i ≤ runE p t i := (runN_ge p t _ i).1
theorem runE_le {p : Int → Bool} {t : ByteArray} {i : Nat} (h : i ≤ t.size) : runE p t i ≤ t.size := by
  have := (runN_ge p t (t.size - i) i).2
  unfold runE
  omega
theorem runE_gt {p : Int → Bool} {t : ByteArray} {i : Nat} (h : i < t.size) (hp : p (bt t i) = true) : i < runE p t i := by
  rw [runE_yes h hp]
  have := runE_ge p t (i + 1)
  omega
theorem runN_in (p : Int → Bool) (t : ByteArray) : ∀ n i k, i ≤ k → k < runN p t n i → p (bt t k) = true
  | 0, i, k, h1, h2 => by unfold runN at h2; omega
  | n + 1, i, k, h1, h2 => by
    unfold runN at h2
    split at h2
    · rename_i h
      by_cases e : k = i
      · rw [e]; exact h
      · exact runN_in p t n (i + 1) k (by omega) h2
    · omega
theorem runE_in {p : Int → Bool} {t : ByteArray} {i k : Nat} (h1 : i ≤ k) (h2 : k < runE p t i) : p (bt t k) = true := runN_in p t _ i k h1 h2
theorem runN_out (p : Int → Bool) (t : ByteArray) : ∀ n i, runN p t n i < i + n → p (bt t (runN p t n i)) = false
  | 0, i, h => by unfold runN at h; omega
  | n + 1, i, h => by
    unfold runN at h ⊢
    split
    · rename_i h1
      rw [if_pos h1] at h
      exact runN_out p t n (i + 1) (by omega)
    · rename_i h1
      exact Bool.eq_false_iff.2 h1
theorem runE_out {p : Int → Bool} {t : ByteArray} {i : Nat} (hi : i ≤ t.size) (h : runE p t i < t.size) : p (bt t (runE p t i)) = false := runN_out p t _ i (by unfold runE at h; omega)

/-- The number of the first k digits from i on. -/
def numF (t : ByteArray) (i : Nat) : Nat → Int
  | 0 => 0
  | k + 1 => numF t i k * 10 + (bt t (i + k) - 48)
theorem numF_in (t : ByteArray) (i : Nat) : ∀ k, (∀ j, j < k → dgB (bt t (i + j)) = true) → 0 ≤ numF t i k ∧ numF t i k < ((10 ^ k : Nat) : Int)
  | 0, _ => by simp [numF]
  | k + 1, h => by
    have h1 := numF_in t i k fun j hj => h j (by omega)
    have h2 := of_decide_eq_true (h k (by omega))
    have h3 : 10 ^ (k + 1) = 10 ^ k * 10 := Nat.pow_succ ..
    unfold numF
    rw [h3]
    omega

/-- A token: its kind, place, text and number. -/
structure TokD where
  k : Int
  at_ : Nat
  tx : ByteArray
  n : Int
/-- What is found at a place: the code, the token, its end. -/
structure TkR where
  code : Int
  x : TokD
  e : Nat

/-- The marks, as the model lists them, and as the program does. -/
def mkS : List ByteArray := [⟨#[123]⟩, ⟨#[125]⟩, ⟨#[40]⟩, ⟨#[41]⟩, ⟨#[91]⟩, ⟨#[93]⟩, ⟨#[59]⟩, ⟨#[44]⟩, ⟨#[46, 46]⟩, ⟨#[46]⟩, ⟨#[61, 61]⟩, ⟨#[61]⟩, ⟨#[126, 61]⟩, ⟨#[60, 61]⟩, ⟨#[60]⟩, ⟨#[43]⟩, ⟨#[45]⟩, ⟨#[42]⟩, ⟨#[47]⟩, ⟨#[37]⟩, ⟨#[35]⟩]
def mkP : List ByteArray := [⟨#[46, 46]⟩, ⟨#[61, 61]⟩, ⟨#[126, 61]⟩, ⟨#[60, 61]⟩, ⟨#[123]⟩, ⟨#[125]⟩, ⟨#[40]⟩, ⟨#[41]⟩, ⟨#[91]⟩, ⟨#[93]⟩, ⟨#[59]⟩, ⟨#[44]⟩, ⟨#[46]⟩, ⟨#[61]⟩, ⟨#[60]⟩, ⟨#[43]⟩, ⟨#[45]⟩, ⟨#[42]⟩, ⟨#[47]⟩, ⟨#[37]⟩, ⟨#[35]⟩]
/-- The mark m stands at i. -/
def isMk (t : ByteArray) (i : Nat) (m : ByteArray) : Bool := decide (i + m.size ≤ t.size) && ((t.extract i (i + m.size)).toList == m.toList)
def mkAt (t : ByteArray) (i : Nat) : Option ByteArray := mkS.find? (isMk t i)

theorem size_list (t : ByteArray) : t.size = t.data.toList.length := by rw [Array.length_toList]; rfl
theorem extract_list (t : ByteArray) (a b : Nat) : (t.extract a b).data.toList = (t.data.toList.drop a).take (b - a) := by
  simp [ByteArray.data_extract]
theorem isMk_list (t : ByteArray) (i : Nat) (m : ByteArray) (hi : i ≤ t.size) : isMk t i m = m.data.toList.isPrefixOf (t.data.toList.drop i) := by
  unfold isMk
  rw [size_list t] at hi
  rw [ByteArray.toList_eq, ByteArray.toList_eq, extract_list, size_list t, size_list m, show i + m.data.toList.length - i = m.data.toList.length by omega]
  generalize t.data.toList = l at *
  generalize m.data.toList = r at *
  rw [Bool.eq_iff_iff]
  simp only [Bool.and_eq_true, decide_eq_true_eq, beq_iff_eq, List.isPrefixOf_iff_prefix]
  constructor
  · rintro ⟨h1, h2⟩
    rw [← h2]
    exact List.take_prefix _ _
  · intro h
    have h1 := h.length_le
    rw [List.length_drop] at h1
    by_cases e : r.length = 0
    · have : r = [] := List.eq_nil_of_length_eq_zero e
      subst this
      exact ⟨by simpa using hi, by simp⟩
    · exact ⟨by omega, List.prefix_iff_eq_take.1 h |>.symm⟩
theorem two_no {x y a b : UInt8} (h : ¬ (a = x ∧ b = y)) : (x == a && (y == b && true)) = false := by
  rw [Bool.and_true, Bool.eq_false_iff]
  simp only [ne_eq, Bool.and_eq_true, beq_iff_eq]
  rintro ⟨rfl, rfl⟩
  exact h ⟨rfl, rfl⟩
theorem find_two (l : List UInt8) : mkP.find? (fun m => m.data.toList.isPrefixOf l) = mkS.find? (fun m => m.data.toList.isPrefixOf l) := by
  rcases l with _ | ⟨a, _ | ⟨b, r⟩⟩
  · rfl
  · simp only [mkP, mkS, List.find?, List.isPrefixOf, Bool.and_false, Bool.and_true]
  · by_cases h1 : a = 46 ∧ b = 46
    · obtain ⟨rfl, rfl⟩ := h1; rfl
    by_cases h2 : a = 61 ∧ b = 61
    · obtain ⟨rfl, rfl⟩ := h2; rfl
    by_cases h3 : a = 126 ∧ b = 61
    · obtain ⟨rfl, rfl⟩ := h3; rfl
    by_cases h4 : a = 60 ∧ b = 61
    · obtain ⟨rfl, rfl⟩ := h4; rfl
    have e1 : ((46 : UInt8) == a && ((46 : UInt8) == b && true)) = false := two_no h1
    have e2 : ((61 : UInt8) == a && ((61 : UInt8) == b && true)) = false := two_no h2
    have e3 : ((126 : UInt8) == a && ((61 : UInt8) == b && true)) = false := two_no h3
    have e4 : ((60 : UInt8) == a && ((61 : UInt8) == b && true)) = false := two_no h4
    simp only [mkP, mkS, List.find?, List.isPrefixOf, e1, e2, e3, e4]
/-- What the program's search finds. -/
theorem mkP_find (t : ByteArray) (i : Nat) (hi : i ≤ t.size) : mkP.find? (fun m => Lib.hasPrefix (t.extract i t.size).data.toList m.data.toList) = mkAt t i := by
  have e1 : (fun m : ByteArray => Lib.hasPrefix (t.extract i t.size).data.toList m.data.toList) = fun m => m.data.toList.isPrefixOf (t.data.toList.drop i) := by
    funext m
    unfold Lib.hasPrefix
    rw [extract_list, List.take_of_length_le (by rw [List.length_drop, ← size_list]; omega)]
  have e2 : isMk t i = fun m => m.data.toList.isPrefixOf (t.data.toList.drop i) := by
    funext m
    exact isMk_list t i m hi
  unfold mkAt
  rw [e1, e2]
  exact find_two _
/-- A mark that is found stands there. -/
theorem mkAt_some {t : ByteArray} {i : Nat} {m : ByteArray} (h : mkAt t i = some m) : i + m.size ≤ t.size ∧ t.extract i (i + m.size) = m ∧ m ∈ mkS := by
  have h1 := List.find?_some h
  simp only [isMk, Bool.and_eq_true, decide_eq_true_eq, beq_iff_eq] at h1
  refine ⟨h1.1, ?_, List.mem_of_find?_eq_some h⟩
  have := h1.2
  rw [ByteArray.toList_eq, ByteArray.toList_eq] at this
  exact ByteArray.ext (Array.toList_inj.1 this)
theorem mkS_size : ∀ m ∈ mkS, 0 < m.size ∧ m.size ≤ 2 := by
  intro m hm
  simp only [mkS, List.mem_cons, List.not_mem_nil, or_false] at hm
  rcases hm with rfl | rfl | rfl | rfl | rfl | rfl | rfl | rfl | rfl | rfl | rfl | rfl | rfl | rfl | rfl | rfl | rfl | rfl | rfl | rfl | rfl <;> decide

/-- The token at a byte that is not passed over. -/
def tokAt (t : ByteArray) (i : Nat) : TkR :=
  if ltB (bt t i) then
    if isW (t.extract i (runE ltB t i)) then ⟨0, ⟨2, i, t.extract i (runE ltB t i), 0⟩, runE ltB t i⟩
    else if 12 < runE ltB t i - i then ⟨4, ⟨1, i, t.extract i (runE ltB t i), 0⟩, runE ltB t i⟩
    else ⟨0, ⟨1, i, t.extract i (runE ltB t i), 0⟩, runE ltB t i⟩
  else if dgB (bt t i) then
    if 15 < runE dgB t i - i ∨ (1 < runE dgB t i - i ∧ bt t i = 48) ∨ (runE dgB t i < t.size ∧ ltB (bt t (runE dgB t i)) = true) then ⟨3, ⟨0, i, ⟨#[]⟩, 0⟩, runE dgB t i⟩
    else ⟨0, ⟨3, i, t.extract i (runE dgB t i), numF t i (runE dgB t i - i)⟩, runE dgB t i⟩
  else if bt t i = 34 then
    if t.size ≤ runE plB t (i + 1) ∨ bt t (runE plB t (i + 1)) ≠ 34 ∨ 160 < runE plB t (i + 1) - i - 1 then ⟨5, ⟨0, i, ⟨#[]⟩, 0⟩, runE plB t (i + 1)⟩
    else ⟨0, ⟨4, i, t.extract (i + 1) (runE plB t (i + 1)), 0⟩, runE plB t (i + 1) + 1⟩
  else match mkAt t i with
    | some m => ⟨0, ⟨5, i, m, 0⟩, i + m.size⟩
    | none => ⟨2, ⟨0, i, ⟨#[]⟩, 0⟩, i⟩
theorem tokAt_end {t : ByteArray} {i : Nat} (hi : i < t.size) (h : (tokAt t i).code = 0) : i < (tokAt t i).e ∧ (tokAt t i).e ≤ t.size := by
  unfold tokAt at h ⊢
  have r1 := runE_le (p := ltB) (t := t) (i := i) (by omega)
  have r2 := runE_le (p := dgB) (t := t) (i := i) (by omega)
  have r3 := runE_le (p := plB) (t := t) (i := i + 1) (by omega)
  have r4 := runE_ge plB t (i + 1)
  split
  · rename_i h1
    have := runE_gt hi h1
    split <;> rename_i h2 <;> simp only [h1, h2, if_true, if_false] at h ⊢
    · omega
    · split <;> simp only [] <;> omega
  · rename_i h1
    simp only [h1, if_false] at h
    split
    · rename_i h2
      have := runE_gt hi h2
      split <;> simp only [] <;> omega
    · rename_i h2
      simp only [h2, if_false] at h
      split
      · rename_i h3
        simp only [h3, if_true] at h
        split
        · rename_i h4
          simp only [h4, if_true] at h
          simp at h
        · rename_i h4
          simp only [not_or, Nat.not_le] at h4
          simp only []
          omega
      · rename_i h3
        simp only [h3, if_false] at h
        cases hm : mkAt t i with
        | none => simp only [hm] at h; simp at h
        | some m =>
          have a := mkAt_some hm
          have b := mkS_size m a.2.2
          simp only []
          omega

/-- A remark begins at i. -/
def remB (t : ByteArray) (i : Nat) : Bool := decide (bt t i = 45 ∧ i + 1 < t.size ∧ bt t (i + 1) = 45)
/-- The tokens of a text from i on, behind those of acc: code, place, tokens. -/
def lexN (t : ByteArray) : Nat → Nat → List TokD → Int × Nat × List TokD
  | 0, i, acc => (0, 0, acc)
  | n + 1, i, acc =>
    if i < t.size then
      if bkB (bt t i) then lexN t n (i + 1) acc
      else if remB t i then lexN t n (runE lnB t i) acc
      else if (tokAt t i).code = 0 then lexN t n (tokAt t i).e (acc ++ [(tokAt t i).x])
      else ((tokAt t i).code, i, [])
    else (0, 0, acc)
def lexF (t : ByteArray) (i : Nat) (acc : List TokD) : Int × Nat × List TokD := lexN t (t.size - i) i acc
theorem rem_gt {t : ByteArray} {i : Nat} (h : remB t i = true) : i < runE lnB t i := by
  have h' := of_decide_eq_true h
  exact runE_gt (by omega) (by simp [lnB, h'.1])
theorem lexN_fuel (t : ByteArray) : ∀ n m i acc, t.size - i ≤ n → t.size - i ≤ m → lexN t n i acc = lexN t m i acc
  | 0, 0, i, acc, _, _ => rfl
  | 0, m + 1, i, acc, h1, h2 => by
    unfold lexN
    rw [if_neg (by omega)]
  | n + 1, 0, i, acc, h1, h2 => by
    unfold lexN
    rw [if_neg (by omega)]
  | n + 1, m + 1, i, acc, h1, h2 => by
    unfold lexN
    split
    · rename_i hi
      split
      · exact lexN_fuel t n m _ _ (by omega) (by omega)
      · split
        · rename_i h3
          have := rem_gt h3
          exact lexN_fuel t n m _ _ (by omega) (by omega)
        · split
          · rename_i h4
            have := (tokAt_end hi h4).1
            exact lexN_fuel t n m _ _ (by omega) (by omega)
          · rfl
    · rfl
theorem lexF_end {t : ByteArray} {i : Nat} {acc : List TokD} (h : ¬ i < t.size) : lexF t i acc = (0, 0, acc) := by
  unfold lexF
  rw [show t.size - i = 0 by omega]
  rfl
theorem lexF_blk {t : ByteArray} {i : Nat} {acc : List TokD} (h : i < t.size) (hb : bkB (bt t i) = true) : lexF t i acc = lexF t (i + 1) acc := by
  unfold lexF
  rw [show t.size - i = (t.size - (i + 1)) + 1 by omega]
  conv => lhs; unfold lexN
  rw [if_pos h, if_pos hb]
theorem lexF_rem {t : ByteArray} {i : Nat} {acc : List TokD} (h : i < t.size) (hb : bkB (bt t i) = false) (hr : remB t i = true) : lexF t i acc = lexF t (runE lnB t i) acc := by
  have := rem_gt hr
  unfold lexF
  rw [show t.size - i = (t.size - (i + 1)) + 1 by omega]
  conv => lhs; unfold lexN
  rw [if_pos h, if_neg (by simp [hb]), if_pos hr]
  exact lexN_fuel t _ _ _ _ (by omega) (by omega)
theorem lexF_tok {t : ByteArray} {i : Nat} {acc : List TokD} (h : i < t.size) (hb : bkB (bt t i) = false) (hr : remB t i = false) (hc : (tokAt t i).code = 0) : lexF t i acc = lexF t (tokAt t i).e (acc ++ [(tokAt t i).x]) := by
  have := (tokAt_end h hc).1
  unfold lexF
  rw [show t.size - i = (t.size - (i + 1)) + 1 by omega]
  conv => lhs; unfold lexN
  rw [if_pos h, if_neg (by simp [hb]), if_neg (by simp [hr]), if_pos hc]
  exact lexN_fuel t _ _ _ _ (by omega) (by omega)
theorem lexF_bad {t : ByteArray} {i : Nat} {acc : List TokD} (h : i < t.size) (hb : bkB (bt t i) = false) (hr : remB t i = false) (hc : (tokAt t i).code ≠ 0) : lexF t i acc = ((tokAt t i).code, i, []) := by
  unfold lexF
  rw [show t.size - i = (t.size - (i + 1)) + 1 by omega]
  conv => lhs; unfold lexN
  rw [if_pos h, if_neg (by simp [hb]), if_neg (by simp [hr]), if_neg hc]
theorem lexN_blks (t : ByteArray) (acc : List TokD) : ∀ n i, t.size - i = n → lexF t (runE bkB t i) acc = lexF t i acc
  | 0, i, h => by rw [runE_end (by omega)]
  | n + 1, i, h => by
    cases hb : bkB (bt t i) with
    | true => rw [runE_yes (by omega) hb, lexF_blk (by omega) hb]; exact lexN_blks t acc n (i + 1) (by omega)
    | false => rw [runE_no hb]
theorem lexF_blks (t : ByteArray) (i : Nat) (acc : List TokD) : lexF t (runE bkB t i) acc = lexF t i acc := lexN_blks t acc _ i rfl
/-- At most as many tokens as bytes. -/
theorem lexN_many (t : ByteArray) : ∀ n i acc, (lexN t n i acc).2.2.length ≤ acc.length + n
  | 0, i, acc => by simp [lexN]
  | n + 1, i, acc => by
    unfold lexN
    split
    · split
      · have := lexN_many t n (i + 1) acc; omega
      · split
        · have := lexN_many t n (runE lnB t i) acc; omega
        · split
          · have := lexN_many t n (tokAt t i).e (acc ++ [(tokAt t i).x]); simp at this; omega
          · simp
    · simp
end Go.Proofs.YtiglkhkfbgjjoaaDoor
