/- What a right tree is, told by its nodes: classes of kinds, shapes of Kids, numbering. No Go here. -/
import Derived.Test.YtiglkhkfbgjjoaaProg
import Derived.Test.YtiglkhkfbgjjoaaOTrA
import Derived.Test.YtiglkhkfbgjjoaaOLxA
namespace Go.Proofs.Ytiglkhkfbgjjoaa
set_option maxRecDepth 20000
open Go.RowKit Go.PlainAid
set_option linter.unusedSimpArgs false
set_option linter.unusedVariables false

/-- The class of a kind: expressions, statements, blocks, parameters, fields. -/
def clsK (k : Int) : Int := if 1 ≤ k ∧ k ≤ 13 then 1 else if 14 ≤ k ∧ k ≤ 20 then 2 else if k = 21 then 3 else if k = 22 then 4 else if k = 23 ∨ k = 24 then 5 else 0
/-- A node of the kind k may stand where the class c is asked; class 6: a call alone. -/
def clsOk (c k : Int) : Bool := if c = 6 then decide (k = 9) else decide (clsK k = c ∧ c ≠ 0)
theorem clsOk_ne {c k : Int} (h : clsOk c k = true) : clsK k ≠ 0 := by
  unfold clsOk at h
  split at h
  · have := of_decide_eq_true h
    subst this
    decide
  · have := of_decide_eq_true h
    omega
/-- The classes that the n Kids of a node of the kind k must have. -/
def shp (k : Int) (n : Nat) : List Int :=
  if k = 6 then List.replicate (n - 1) 4 ++ [3]
  else if k = 7 then List.replicate n 5
  else if k = 8 ∨ k = 10 ∨ k = 12 ∨ k = 13 ∨ k = 24 then [1, 1]
  else if k = 9 then 1 :: List.replicate (n - 1) 1
  else if k = 11 ∨ k = 14 ∨ k = 15 ∨ k = 19 ∨ k = 23 then [1]
  else if k = 16 then [1, 1, 1]
  else if k = 17 then (if n = 3 then [1, 3, 3] else [1, 3])
  else if k = 18 then [1, 3]
  else if k = 20 then [6]
  else if k = 21 then List.replicate n 2
  else []
/-- Kinds fit a row of classes. -/
def fitL : List Int → List Int → Bool
  | [], [] => true
  | c :: cs, k :: ks => clsOk c k && fitL cs ks
  | _, _ => false
theorem fitL_len : ∀ {cs ks : List Int}, fitL cs ks = true → cs.length = ks.length
  | [], [], _ => rfl
  | c :: cs, k :: ks, h => by
    simp only [fitL, Bool.and_eq_true] at h
    simp [fitL_len h.2]
  | [], _ :: _, h => by simp [fitL] at h
  | _ :: _, [], h => by simp [fitL] at h
theorem fitL_at : ∀ {cs ks : List Int}, fitL cs ks = true ↔ cs.length = ks.length ∧ ∀ i (h1 : i < cs.length) (h2 : i < ks.length), clsOk cs[i] ks[i] = true
  | [], [] => by simp [fitL]
  | c :: cs, k :: ks => by
    simp only [fitL, Bool.and_eq_true, fitL_at (cs := cs) (ks := ks), List.length_cons]
    constructor
    · rintro ⟨h0, h1, h2⟩
      refine ⟨by omega, fun i hi hj => ?_⟩
      cases i with
      | zero => exact h0
      | succ i => exact h2 i (by simpa using hi) (by simpa using hj)
    · rintro ⟨h1, h2⟩
      exact ⟨h2 0 (by simp) (by simp), by omega, fun i hi hj => h2 (i + 1) (by simpa using hi) (by simpa using hj)⟩
  | [], _ :: _ => by simp [fitL]
  | _ :: _, [] => by simp [fitL]
/-- A name: its letters. -/
def nameB (t : ByteArray) : Bool := decide (1 ≤ t.size ∧ t.size ≤ 12) && !isW t && decide (∀ i, i < t.size → ltB (bt t i) = true)
def plainB (t : ByteArray) : Bool := decide (∀ i, i < t.size → plB (bt t i) = true) && decide (t.size ≤ 160)
/-- What a node of a kind may have for a text, and for a number. -/
def textB (k : Int) (t : ByteArray) : Bool := if k = 4 then plainB t else if k = 5 ∨ k = 22 ∨ k = 14 ∨ k = 15 then nameB t else decide (t.size = 0)
def intB (k i : Int) : Bool := if k = 2 then decide (i = 0 ∨ i = 1) else if k = 3 then decide (0 ≤ i ∧ i ≤ 999999999999999) else if k = 10 then decide (1 ≤ i ∧ i ≤ 10) else if k = 11 then decide (1 ≤ i ∧ i ≤ 3) else decide (i = 0)
def kofB (k : Int) (ks : List Int) : Bool := decide (clsK k ≠ 0) && fitL (shp k ks.length) ks

section
variable (X : Nat → KnD)
def kidsL (i : Nat) : List Int := (List.range (X i).len).map (X i).y
def kindsL (i : Nat) : List Int := (kidsL X i).map fun q => (X q.toNat).k
theorem kidsL_len (i : Nat) : (kidsL X i).length = (X i).len := by simp [kidsL]
theorem kidsL_at {i j : Nat} (h : j < (kidsL X i).length) : (kidsL X i)[j] = (X i).y j := by simp [kidsL]
/-- Where the nodes of i's Kids begin; n is fuel. -/
def sttN : Nat → Nat → Nat
  | 0, i => i
  | n + 1, i => if 0 < (X i).len ∧ 0 ≤ (X i).y 0 ∧ ((X i).y 0).toNat < i then sttN n ((X i).y 0).toNat else i
theorem sttN_same : ∀ (n m i : Nat), i ≤ n → i ≤ m → sttN X n i = sttN X m i
  | 0, 0, i, _, _ => rfl
  | 0, m + 1, i, h1, h2 => by
    show i = if _ then _ else i
    rw [if_neg (by omega)]
  | n + 1, 0, i, h1, h2 => by
    show (if _ then _ else i) = i
    rw [if_neg (by omega)]
  | n + 1, m + 1, i, h1, h2 => by
    show (if _ then sttN X n _ else i) = if _ then sttN X m _ else i
    split
    · rename_i h
      exact sttN_same n m _ (by omega) (by omega)
    · rfl
def stt (i : Nat) : Nat := sttN X i i
theorem stt_eq (i : Nat) : stt X i = if 0 < (X i).len ∧ 0 ≤ (X i).y 0 ∧ ((X i).y 0).toNat < i then stt X ((X i).y 0).toNat else i := by
  unfold stt
  rw [sttN_same X i (i + 1) i (Nat.le_refl _) (Nat.le_succ _)]
  show (if _ then sttN X i _ else i) = _
  split
  · rename_i h
    exact sttN_same X _ _ _ (by omega) (Nat.le_refl _)
  · rfl
theorem stt_le (i : Nat) : stt X i ≤ i := by
  induction i using Nat.strongRecOn with
  | _ i ih =>
    rw [stt_eq]
    split
    · rename_i h
      have := ih _ h.2.2
      omega
    · exact Nat.le_refl _
/-- The nodes ks stand one behind the other, with all of theirs, from n up to m. -/
def chn : Nat → List Int → Nat → Prop
  | n, [], m => n = m
  | n, k :: ks, m => 0 ≤ k ∧ stt X k.toNat = n ∧ chn (k.toNat + 1) ks m
theorem chn_le : ∀ {ks : List Int} {n m : Nat}, chn X n ks m → n ≤ m
  | [], n, m, h => Nat.le_of_eq h
  | k :: ks, n, m, ⟨_, h1, h2⟩ => by
    have := chn_le h2
    have := stt_le X k.toNat
    omega
theorem chn_app : ∀ {l r : List Int} {n m : Nat}, chn X n (l ++ r) m ↔ ∃ p, chn X n l p ∧ chn X p r m
  | [], r, n, m => ⟨fun h => ⟨n, rfl, h⟩, fun ⟨p, h1, h2⟩ => by cases h1; exact h2⟩
  | k :: l, r, n, m => by
    show (0 ≤ k ∧ stt X k.toNat = n ∧ chn X (k.toNat + 1) (l ++ r) m) ↔ _
    rw [chn_app]
    constructor
    · rintro ⟨h0, h1, p, h2, h3⟩
      exact ⟨p, ⟨h0, h1, h2⟩, h3⟩
    · rintro ⟨p, ⟨h0, h1, h2⟩, h3⟩
      exact ⟨h0, h1, p, h2, h3⟩
theorem chn_one {k : Int} {n m : Nat} : chn X n [k] m ↔ 0 ≤ k ∧ stt X k.toNat = n ∧ k.toNat + 1 = m := Iff.rfl
theorem chn_same : ∀ {ks : List Int} {n m m' : Nat}, chn X n ks m → chn X n ks m' → m = m'
  | [], n, m, m', h, h' => by cases h; cases h'; rfl
  | k :: ks, n, m, m', h, h' => chn_same h.2.2 h'.2.2
/-- From behind a row is known: what ends it is told by where that begins. -/
theorem chn_back : ∀ (N : Nat) {ks l : List Int} {a b m : Nat}, ks.length = N → chn X a l m → chn X b ks m → a ≤ b → ∃ pre, l = pre ++ ks ∧ chn X a pre b
  | 0, ks, l, a, b, m, hN, hl, hk, hab => by
    obtain rfl : ks = [] := List.eq_nil_of_length_eq_zero hN
    cases hk
    exact ⟨l, by simp, hl⟩
  | N + 1, ks, l, a, b, m, hN, hl, hk, hab => by
    obtain ⟨ks', k, rfl⟩ : ∃ ks' k, ks = ks' ++ [k] := ⟨ks.dropLast, ks.getLast (by intro h; simp [h] at hN), (List.dropLast_concat_getLast _).symm⟩
    obtain ⟨q, h1, h2⟩ := (chn_app X).1 hk
    obtain ⟨k0, k1, k2⟩ := (chn_one X).1 h2
    have hq := chn_le X h1
    have hs := stt_le X k.toNat
    have hne : l ≠ [] := by
      rintro rfl
      have : a = m := hl
      omega
    obtain ⟨l', k', rfl⟩ : ∃ l' k', l = l' ++ [k'] := ⟨l.dropLast, l.getLast hne, (List.dropLast_concat_getLast _).symm⟩
    obtain ⟨q', g1, g2⟩ := (chn_app X).1 hl
    obtain ⟨j0, j1, j2⟩ := (chn_one X).1 g2
    obtain rfl : k' = k := by omega
    obtain rfl : q' = q := by omega
    obtain ⟨pre, e1, e2⟩ := chn_back N (by simpa using hN) g1 h1 hab
    exact ⟨pre, by rw [e1]; simp, e2⟩
/-- The numbers of a node's Kids are as they should be. -/
def numAt (i : Nat) : Prop := chn X (stt X i) (kidsL X i) i
theorem chn_lt : ∀ {ks : List Int} {n m : Nat}, chn X n ks m → ∀ q ∈ ks, 0 ≤ q ∧ q.toNat < m ∧ n ≤ stt X q.toNat
  | k :: ks, n, m, ⟨h0, h1, h2⟩, q, hq => by
    have hle := chn_le X h2
    rcases List.mem_cons.1 hq with rfl | hq
    · exact ⟨h0, by omega, by omega⟩
    · have := chn_lt h2 q hq
      have := stt_le X k.toNat
      omega
/-- A row of Kids that ends at i tells where i begins. -/
theorem num_of_chn {i p : Nat} (h : chn X p (kidsL X i) i) : stt X i = p := by
  have hl := kidsL_len X i
  cases hk : kidsL X i with
  | nil =>
    rw [hk] at h hl
    have e : p = i := h
    rw [stt_eq, if_neg (by simp at hl; omega)]
    exact e.symm
  | cons k ks =>
    have hk0 : k = (X i).y 0 := by
      have := kidsL_at X (i := i) (j := 0) (by rw [hk]; simp)
      simp only [hk] at this
      exact this
    rw [hk] at h hl
    obtain ⟨h0, h1, h2⟩ := h
    have := chn_le X h2
    rw [stt_eq, if_pos ⟨by simp at hl; omega, by rw [← hk0]; exact h0, by rw [← hk0]; omega⟩, ← hk0]
    exact h1
/-- A node is right, by itself and its Kids' kinds. -/
def gdAt (i : Nat) : Prop := numAt X i ∧ textB (X i).k (X i).t = true ∧ intB (X i).k (X i).i = true ∧ kofB (X i).k (kindsL X i) = true
/-- The nodes from n to i are just i and all of its Kids', and right; i may stand where the class c is asked. -/
def FIT (L : Nat) (i : Int) (c : Int) (n : Nat) : Prop := 0 ≤ i ∧ i.toNat < L ∧ clsOk c (X i.toNat).k = true ∧ stt X i.toNat = n ∧ ∀ j, n ≤ j → j ≤ i.toNat → gdAt X j
/-- A right tree. -/
def TOK (L : Nat) (top : Int) : Prop := L ≤ 3000 ∧ FIT X L top 3 0 ∧ top + 1 = L
/-- All nodes' numbers are right, and the Top is the last. -/
def NUM (L : Nat) (top : Int) : Prop := (∀ j, j < L → numAt X j) ∧ chn X 0 [top] L
theorem tok_iff (L : Nat) (top : Int) : TOK X L top ↔ L ≤ 3000 ∧ NUM X L top ∧ (X top.toNat).k = 21 ∧ ∀ j, j < L → textB (X j).k (X j).t = true ∧ intB (X j).k (X j).i = true ∧ kofB (X j).k (kindsL X j) = true := by
  have hc : ∀ k, clsOk 3 k = true ↔ k = 21 := fun k => by
    unfold clsOk clsK
    rw [if_neg (by decide), decide_eq_true_iff]
    constructor
    · rintro ⟨h, _⟩
      split at h
      · omega
      · split at h
        · omega
        · split at h
          · assumption
          · split at h <;> (try split at h) <;> omega
    · rintro rfl
      decide
  constructor
  · rintro ⟨h1, ⟨h2, h3, h4, h5, h6⟩, h7⟩
    exact ⟨h1, ⟨fun j hj => (h6 j (Nat.zero_le _) (by omega)).1, h2, h5, (by show top.toNat + 1 = L; omega)⟩, (hc _).1 h4, fun j hj => (h6 j (Nat.zero_le _) (by omega)).2⟩
  · rintro ⟨h1, ⟨h2, h3, h4, h5⟩, h6, h7⟩
    have h5' : top.toNat + 1 = L := h5
    exact ⟨h1, ⟨h3, by omega, (hc _).2 h6, h4, fun j _ hj => ⟨h2 j (by omega), h7 j (by omega)⟩⟩, by omega⟩
end
end Go.Proofs.Ytiglkhkfbgjjoaa
