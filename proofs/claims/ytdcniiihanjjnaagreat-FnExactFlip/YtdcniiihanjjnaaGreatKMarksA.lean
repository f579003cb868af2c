/- Of a tiled arena the marks speak of places that lead into the words. No Go here. -/
import Derived.Test.YtdcniiihanjjnaaGreatKTileD
import Derived.Test.YtdcniiihanjjnaaGreatKLeadsB
namespace Go.Proofs.YtdcniiihanjjnaaGreat
set_option maxRecDepth 20000
open Go.RowKit
set_option linter.unusedVariables false

theorem rd_not_fw {x : Int} (h : rdOk x = true) : fwOk x = false := by
  unfold rdOk at h
  rw [hOk_iff] at h
  unfold HOk at h
  unfold fwOk
  apply decide_eq_false
  omega
theorem leadsAt_head {ws : List Int} {p : Nat} (h : rdOk (wordAt ws p) = true) : leadsAt ws p = p := by
  unfold leadsAt
  rw [if_neg (by simp [rd_not_fw h])]
theorem fwP_nonneg (x : Int) : 0 ≤ fwP x := by
  unfold fwP
  split
  · rename_i h
    simp only [fwOk, decide_eq_true_eq] at h
    omega
  · exact Int.le_refl _
theorem leadsAt_fw {ws : List Int} {p : Nat} (h : fwOk (wordAt ws p) = true) : leadsAt ws p = fwTo ws p := by
  unfold leadsAt fwTo
  rw [if_pos h]
  have := fwP_nonneg (wordAt ws p)
  omega
theorem mk2_ne {ws : List Int} {U O : List Nat} {i : Nat} (h : mk2 ws U O i ≠ 0) : i ∈ O ∨ i ∈ U := by
  by_cases h1 : i ∈ O
  · exact .inl h1
  · by_cases h2 : i ∈ U
    · exact .inr h2
    · exact absurd (by simp [mk2, h1, h2]) h
theorem Tiling.marks {ws : List Int} {serial : Int} {S T : Nat} {cyc : Bool} {F : Nat} {old copied scan : Int} {L O : List Nat} (h : Tiling ws serial S T cyc F old copied scan L O) (hT : T ≤ ws.length) : Marks (mk2 ws L O) ws := by
  intro i hi hne
  have hL : ∀ p ∈ L, rdOk (wordAt ws p) = true ∧ p < T := fun p hp => by
    obtain ⟨_, h2, s, hs, _⟩ := h.use.mem p hp
    exact ⟨(nx1_some hs).1, h2⟩
  rcases mk2_ne hne with ho | hl
  · cases cyc with
    | false => rw [h.still rfl] at ho; simp at ho
    | true =>
      obtain ⟨_, _, s, hs, _⟩ := (h.runs rfl).1.mem i ho
      by_cases hr : rdOk (wordAt ws i) = true
      · rw [leadsAt_head hr]; omega
      · rw [Bool.not_eq_true] at hr
        obtain ⟨g1, g2, _⟩ := nx2_fw hs hr
        rw [leadsAt_fw g1]
        have := (hL _ g2).2
        omega
  · rw [leadsAt_head (hL i hl).1]; omega
/-- What is marked as an object has a head. -/
theorem Tiling.object {ws : List Int} {serial : Int} {S T : Nat} {cyc : Bool} {F : Nat} {old copied scan : Int} {L O : List Nat} (h : Tiling ws serial S T cyc F old copied scan L O) {i : Nat} (hi : mk2 ws L O i = 1 ∨ mk2 ws L O i = 2) : rdOk (wordAt ws i) = true ∧ (i ∈ L ∨ i ∈ O) := by
  by_cases ho : i ∈ O
  · refine ⟨?_, .inr ho⟩
    cases cyc with
    | false => rw [h.still rfl] at ho; simp at ho
    | true =>
      obtain ⟨_, _, s, hs, _⟩ := (h.runs rfl).1.mem i ho
      by_cases hr : rdOk (wordAt ws i) = true
      · exact hr
      · rw [Bool.not_eq_true] at hr
        have g := (nx2_fw hs hr).1
        have hf : isFw ws i = true := by simp [isFw, hr, g]
        exfalso
        simp [mk2, ho, hf] at hi
  · by_cases hl : i ∈ L
    · obtain ⟨_, _, s, hs, _⟩ := h.use.mem i hl
      exact ⟨(nx1_some hs).1, .inl hl⟩
    · exfalso
      simp [mk2, ho, hl] at hi
/-- An object's words lie within the words. -/
theorem Tiling.within {ws : List Int} {serial : Int} {S T : Nat} {cyc : Bool} {F : Nat} {old copied scan : Int} {L O : List Nat} (h : Tiling ws serial S T cyc F old copied scan L O) (hT : T ≤ ws.length) (hO : cyc = true → old ≤ ws.length) {i : Nat} (hi : mk2 ws L O i = 1 ∨ mk2 ws L O i = 2) : i + (rdS (wordAt ws i)).toNat < ws.length := by
  obtain ⟨hr, hm⟩ := h.object hi
  rcases hm with hl | ho
  · obtain ⟨_, _, s, hs, hle⟩ := h.use.mem i hl
    have := (nx1_some hs).2.2
    omega
  · cases cyc with
    | false => rw [h.still rfl] at ho; simp at ho
    | true =>
      obtain ⟨_, _, s, hs, hle⟩ := (h.runs rfl).1.mem i ho
      have := (nx2_head hs hr).2
      have := hO rfl
      omega
end Go.Proofs.YtdcniiihanjjnaaGreat
