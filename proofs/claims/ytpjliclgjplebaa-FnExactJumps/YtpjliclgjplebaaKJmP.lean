/- The places that jumps lead to, gathered, sorted and cut, are those in order. No Go here. -/
import Derived.Test.YtpjliclgjplebaaKJmA
import Derived.Lib.SlicesCompact
import Derived.Lib.RowBridge
namespace Go.Proofs.Ytpjliclgjplebaa
set_option maxRecDepth 20000
open Go.RowKit Go.Maps
set_option linter.unusedSimpArgs false
set_option linter.unusedVariables false

theorem insJ_cons (x : Int) (xs : List Int) (s : Int) : insS (x :: xs) s = if x < s then x :: insS xs s else s :: x :: xs := by
  unfold insS
  simp only [lowN]
  split <;> simp
theorem insJ_perm : ∀ (xs : List Int) (s : Int), (insS xs s).Perm (s :: xs)
  | [], s => by simp [insS, lowN]
  | x :: xs, s => by
    rw [insJ_cons]
    split
    · exact ((insJ_perm xs s).cons x).trans (List.Perm.swap s x xs)
    · exact List.Perm.refl _
theorem insJ_sorted : ∀ (xs : List Int) (s : Int), xs.Pairwise (· ≤ ·) → (insS xs s).Pairwise (· ≤ ·)
  | [], s, _ => by simp [insS, lowN]
  | x :: xs, s, h => by
    obtain ⟨h1, h2⟩ := List.pairwise_cons.1 h
    rw [insJ_cons]
    split
    · rename_i hx
      refine List.pairwise_cons.2 ⟨fun a ha => ?_, insJ_sorted xs s h2⟩
      rcases List.mem_cons.1 ((insJ_perm xs s).mem_iff.1 ha) with rfl | ha
      · omega
      · exact h1 a ha
    · rename_i hx
      refine List.pairwise_cons.2 ⟨fun a ha => ?_, h⟩
      rcases List.mem_cons.1 ha with rfl | ha
      · omega
      · have := h1 a ha; omega
/-- Does this instruction jump. -/
def isJ (op : Int) : Prop := 18 ≤ op ∧ op ≤ 21
/-- The places of the first k instructions' jumps, as they come. -/
def jmL (y : Nat → Int) : Nat → List Int
  | 0 => []
  | k + 1 => if y (2 * k) < 18 ∨ 21 < y (2 * k) then jmL y k else jmL y k ++ [y (2 * k + 1)]
theorem jmL_len (y : Nat → Int) : ∀ k, (jmL y k).length ≤ k
  | 0 => Nat.le_refl _
  | k + 1 => by
    have := jmL_len y k
    unfold jmL
    split
    · omega
    · simp; omega
/-- In order, each once. -/
def Asc (l : List Int) : Prop := l.Pairwise (· < ·)
theorem asc_eq {a b : List Int} (ha : Asc a) (hb : Asc b) (h : ∀ x, x ∈ a ↔ x ∈ b) : a = b := by
  have na : a.Nodup := ha.imp (fun h => by omega)
  have nb : b.Nodup := hb.imp (fun h => by omega)
  have hp : a.Perm b := (List.perm_ext_iff_of_nodup na nb).2 h
  exact List.Perm.eq_of_pairwise (le := fun (x y : Int) => x < y) (fun a b _ _ h1 h2 => by omega) ha hb hp
theorem low_mem {out : List Int} {s : Int} (h : Asc out) (hs : s ∈ out) : lowN out s < out.length ∧ out.getD (lowN out s) 0 = s := by
  obtain ⟨i, hi, hx⟩ := List.mem_iff_getElem.1 hs
  have hx' : out.getD i 0 = s := by simp [hi, hx]
  have hle : lowN out s ≤ i := by
    rcases Nat.lt_or_ge i (lowN out s) with c | c
    · have := lowN_lt out s i c; omega
    · exact c
  have hl : lowN out s < out.length := by omega
  refine ⟨hl, ?_⟩
  have hge := lowN_ge out s hl
  rcases Nat.lt_or_ge (lowN out s) i with c | c
  · have := List.pairwise_iff_getElem.1 h _ _ hl hi c
    simp only [List.getD_eq_getElem?_getD, List.getElem?_eq_getElem hl, Option.getD_some] at hge ⊢
    omega
  · rw [show lowN out s = i by omega]; exact hx'
theorem insS_asc {out : List Int} {s : Int} (h : Asc out) (hs : s ∉ out) : Asc (insS out s) := by
  have h1 := insJ_sorted out s (h.imp (fun h => by omega))
  have hn : (insS out s).Nodup := (insJ_perm out s).nodup_iff.2 (List.nodup_cons.2 ⟨hs, h.imp (fun h => by omega)⟩)
  exact (h1.and hn).imp (fun h => by omega)
theorem jmN_asc (y : Nat → Int) : ∀ k, Asc (jmN y k) ∧ ∀ x, x ∈ jmN y k ↔ x ∈ jmL y k
  | 0 => ⟨List.Pairwise.nil, fun x => Iff.rfl⟩
  | k + 1 => by
    obtain ⟨h1, h2⟩ := jmN_asc y k
    show Asc (jmP (jmN y k) (y (2 * k)) (y (2 * k + 1))) ∧ ∀ x, x ∈ jmP (jmN y k) (y (2 * k)) (y (2 * k + 1)) ↔ x ∈ if y (2 * k) < 18 ∨ 21 < y (2 * k) then jmL y k else jmL y k ++ [y (2 * k + 1)]
    unfold jmP
    split
    · exact ⟨h1, h2⟩
    · generalize y (2 * k + 1) = s
      split
      · rename_i hm
        refine ⟨h1, fun x => ?_⟩
        rw [List.mem_append, List.mem_singleton, ← h2]
        refine ⟨.inl, fun h => h.elim id fun e => ?_⟩
        rw [e, ← hm.2]
        rw [List.getD_eq_getElem?_getD, List.getElem?_eq_getElem hm.1]
        exact List.getElem_mem _
      · rename_i hm
        have hs : s ∉ jmN y k := fun h => hm (low_mem h1 h)
        refine ⟨insS_asc h1 hs, fun x => ?_⟩
        rw [(insJ_perm _ _).mem_iff, List.mem_append, List.mem_singleton, List.mem_cons, ← h2]
        exact or_comm
/-- What slices.Compact leaves of a row in order is that row, each once. -/
theorem compact_asc (l : List Int) (h : l.Pairwise (· ≤ ·)) : ∀ m, m ≤ l.length → Asc (Lib.compactUpTo l.toArray m) ∧ ∀ x, x ∈ Lib.compactUpTo l.toArray m ↔ ∃ j, j < m ∧ l.toArray[j]! = x
  | 0, _ => ⟨by simp [Lib.compactUpTo, Asc], by simp [Lib.compactUpTo]⟩
  | m + 1, hm => by
    obtain ⟨h1, h2⟩ := compact_asc l h m (by omega)
    have hle : ∀ i j, i ≤ j → j < l.length → l.toArray[i]! ≤ l.toArray[j]! := fun i j hij hj => by
      rw [getElem!_pos l.toArray i (by simp; omega), getElem!_pos l.toArray j (by simpa using hj)]
      rcases Nat.lt_or_ge i j with c | c
      · simpa using List.pairwise_iff_getElem.1 h i j (by omega) hj c
      · have : i = j := by omega
        subst this; simp
    rw [Lib.compactUpTo_succ]
    cases hk : Lib.keeps l.toArray m with
    | true =>
      rw [if_pos rfl]
      have hk' : m = 0 ∨ l.toArray[m]! ≠ l.toArray[m - 1]! := by simpa [Lib.keeps] using hk
      refine ⟨List.pairwise_append.2 ⟨h1, by simp, fun a ha b hb => ?_⟩, fun x => ?_⟩
      · rw [List.mem_singleton] at hb
        subst hb
        obtain ⟨j, hj, rfl⟩ := (h2 a).1 ha
        rcases hk' with rfl | hne
        · omega
        · have e1 := hle j (m - 1) (by omega) (by omega)
          have e2 := hle (m - 1) m (by omega) (by omega)
          omega
      · rw [List.mem_append, List.mem_singleton, h2]
        constructor
        · rintro (⟨j, hj, e⟩ | rfl)
          · exact ⟨j, by omega, e⟩
          · exact ⟨m, by omega, rfl⟩
        · rintro ⟨j, hj, e⟩
          by_cases c : j = m
          · subst c; exact .inr e.symm
          · exact .inl ⟨j, by omega, e⟩
    | false =>
      rw [if_neg (by simp), List.append_nil]
      have hk' : ¬ (m = 0 ∨ l.toArray[m]! ≠ l.toArray[m - 1]!) := by simpa [Lib.keeps] using hk
      refine ⟨h1, fun x => ?_⟩
      rw [h2]
      constructor
      · rintro ⟨j, hj, e⟩; exact ⟨j, by omega, e⟩
      · rintro ⟨j, hj, e⟩
        by_cases c : j = m
        · subst c
          refine ⟨j - 1, by omega, ?_⟩
          rw [← e]
          by_cases e3 : l.toArray[j]! = l.toArray[j - 1]!
          · exact e3.symm
          · exact absurd (.inr e3) hk'
        · exact ⟨j, by omega, e⟩
theorem jm_sorted (y : Nat → Int) (n : Nat) : Lib.compact ((jmL y n).mergeSort fun x y => decide (x ≤ y)) = jmN y n := by
  have hp := List.mergeSort_perm (jmL y n) fun x y => decide (x ≤ y)
  have p1 : ((jmL y n).mergeSort fun x y => decide (x ≤ y)).Pairwise (· ≤ ·) := (List.pairwise_mergeSort (by intro a b c; simp; omega) (by intro a b; simp; omega) _).imp (by simp)
  generalize (jmL y n).mergeSort (fun x y => decide (x ≤ y)) = z at hp p1
  obtain ⟨h1, h2⟩ := compact_asc z p1 z.length (Nat.le_refl _)
  obtain ⟨h3, h4⟩ := jmN_asc y n
  refine asc_eq h1 h3 fun x => ?_
  rw [h4, ← hp.mem_iff]
  refine (h2 x).trans ?_
  constructor
  · rintro ⟨j, hj, rfl⟩
    rw [getElem!_pos z.toArray j (by simpa using hj)]
    simp
  · intro hx
    obtain ⟨j, hj, rfl⟩ := List.mem_iff_getElem.1 hx
    exact ⟨j, hj, by rw [getElem!_pos z.toArray j (by simpa using hj)]; simp⟩
theorem jmN_nil {y : Nat → Int} {n : Nat} (h : jmL y n = []) : jmN y n = [] := by
  rw [← jm_sorted, h]
  simp [Lib.compact, Lib.compactUpTo]
end Go.Proofs.Ytpjliclgjplebaa
