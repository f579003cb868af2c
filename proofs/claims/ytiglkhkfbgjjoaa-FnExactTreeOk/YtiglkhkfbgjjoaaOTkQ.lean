/- A right tree, gone over node by node: what the model's recursion finds. No Go here. -/
import Derived.Test.YtiglkhkfbgjjoaaProg
import Derived.Test.YtiglkhkfbgjjoaaOTkP
namespace Go.Proofs.Ytiglkhkfbgjjoaa
set_option maxRecDepth 20000
open Go.RowKit Go.PlainAid
set_option linter.unusedSimpArgs false
set_option linter.unusedVariables false

section
variable {X : Nat → KnD}
theorem kindsL_len (i : Nat) : (kindsL X i).length = (X i).len := by simp [kindsL, kidsL]
theorem kindsL_at {i m : Nat} (h : m < (kindsL X i).length) : (kindsL X i)[m] = (X ((X i).y m).toNat).k := by simp [kindsL, kidsL]
theorem fit_num {L n : Nat} {i c : Int} (h : FIT X L i c n) : chn X n (kidsL X i.toNat) i.toNat := by
  obtain ⟨h1, h2, h3, h4, h5⟩ := h
  have h6 := stt_le X i.toNat
  have h7 := (h5 i.toNat (by omega) (Nat.le_refl _)).1
  unfold numAt at h7
  rw [h4] at h7
  exact h7
theorem kids_split (i m : Nat) (hm : m < (X i).len) : kidsL X i = (kidsL X i).take m ++ ((X i).y m :: (kidsL X i).drop (m + 1)) := by
  have hl : m < (kidsL X i).length := by rw [kidsL_len]; exact hm
  have e := List.take_append_drop m (kidsL X i)
  rw [List.drop_eq_getElem_cons hl, kidsL_at] at e
  exact e.symm
theorem kids_take (i m : Nat) (hm : m < (X i).len) : (kidsL X i).take (m + 1) = (kidsL X i).take m ++ [(X i).y m] := by
  have hl : m < (kidsL X i).length := by rw [kidsL_len]; exact hm
  rw [List.take_succ_eq_append_getElem hl, kidsL_at]
theorem fit_kid {L n : Nat} {i c : Int} (h : FIT X L i c n) {m nx : Nat} (hm : m < (X i.toNat).len) (hc : chn X n ((kidsL X i.toNat).take m) nx) : FIT X L ((X i.toNat).y m) ((shp (X i.toNat).k (X i.toNat).len).getD m 0) nx ∧ (X i.toNat).y m < i := by
  have hn := fit_num h
  rw [kids_split i.toNat m hm] at hn
  obtain ⟨p, h1, h2⟩ := (chn_app X).1 hn
  obtain rfl := chn_same X hc h1
  obtain ⟨k0, k1, k2⟩ := h2
  have k3 := chn_le X k2
  have k4 := chn_le X h1
  obtain ⟨g1, g2, g3, g4, g5⟩ := h
  have s1 := stt_le X i.toNat
  have s2 := stt_le X ((X i.toNat).y m).toNat
  have gi := (g5 i.toNat (by omega) (Nat.le_refl _)).2.2.2
  unfold kofB at gi
  rw [Bool.and_eq_true, kindsL_len] at gi
  obtain ⟨f1, f2⟩ := fitL_at.1 gi.2
  have hm2 : m < (kindsL X i.toNat).length := by rw [kindsL_len]; exact hm
  have f3 := f2 m (by rw [f1]; exact hm2) hm2
  rw [kindsL_at] at f3
  refine ⟨⟨k0, by omega, ?_, k1, fun j h1 h2 => g5 j (by omega) (by omega)⟩, by omega⟩
  rw [List.getD_eq_getElem?_getD, List.getElem?_eq_getElem (by rw [f1]; exact hm2)]
  exact f3
theorem fit_step {L n m nx : Nat} {i c' : Int} (hm : m < (X i.toNat).len) (hc : chn X n ((kidsL X i.toNat).take m) nx) (hg : ∀ j, n ≤ j → j < nx → gdAt X j) (hk : FIT X L ((X i.toNat).y m) c' nx) :
    chn X n ((kidsL X i.toNat).take (m + 1)) (((X i.toNat).y m).toNat + 1) ∧ ∀ j, n ≤ j → j < ((X i.toNat).y m).toNat + 1 → gdAt X j := by
  obtain ⟨g1, g2, g3, g4, g5⟩ := hk
  refine ⟨?_, fun j h1 h2 => ?_⟩
  · rw [kids_take i.toNat m hm]
    exact (chn_app X).2 ⟨nx, hc, (chn_one X).2 ⟨g1, g4, rfl⟩⟩
  · by_cases h : j < nx
    · exact hg j h1 h
    · exact g5 j (by omega) (by omega)
theorem fit_done {L n nx : Nat} {i c : Int} (h0 : 0 ≤ i) (h1 : i.toNat < L) (h2 : clsOk c (X i.toNat).k = true) (h3 : textB (X i.toNat).k (X i.toNat).t = true) (h4 : intB (X i.toNat).k (X i.toNat).i = true) (h5 : (shp (X i.toNat).k (X i.toNat).len).length = (X i.toNat).len)
    (h6 : ∀ m, m < (X i.toNat).len → clsOk ((shp (X i.toNat).k (X i.toNat).len).getD m 0) (X ((X i.toNat).y m).toNat).k = true) (hc : chn X n (kidsL X i.toNat) nx) (hg : ∀ j, n ≤ j → j < nx → gdAt X j) : FIT X L i c n ↔ (nx : Int) = i := by
  constructor
  · intro h
    have := chn_same X hc (fit_num h)
    omega
  · intro h
    obtain rfl : nx = i.toNat := by omega
    have hs := num_of_chn X hc
    refine ⟨h0, h1, h2, hs, fun j j1 j2 => ?_⟩
    by_cases e : j < i.toNat
    · exact hg j j1 e
    · obtain rfl : j = i.toNat := by omega
      refine ⟨?_, h3, h4, ?_⟩
      · unfold numAt
        rw [hs]
        exact hc
      · unfold kofB
        rw [Bool.and_eq_true, decide_eq_true_iff, kindsL_len]
        refine ⟨clsOk_ne h2, fitL_at.2 ⟨by rw [h5, kindsL_len], fun m m1 m2 => ?_⟩⟩
        rw [kindsL_at]
        have := h6 m (by rw [← kindsL_len]; exact m2)
        rw [List.getD_eq_getElem?_getD, List.getElem?_eq_getElem m1] at this
        exact this
theorem fit_has {L n : Nat} {i c : Int} (h : FIT X L i c n) : 0 ≤ i ∧ i.toNat < L ∧ n ≤ i.toNat ∧ clsOk c (X i.toNat).k = true ∧ textB (X i.toNat).k (X i.toNat).t = true ∧ intB (X i.toNat).k (X i.toNat).i = true ∧ (shp (X i.toNat).k (X i.toNat).len).length = (X i.toNat).len := by
  obtain ⟨g1, g2, g3, g4, g5⟩ := h
  have s1 := stt_le X i.toNat
  obtain ⟨a1, a2, a3, a4⟩ := g5 i.toNat (by omega) (Nat.le_refl _)
  unfold kofB at a4
  rw [Bool.and_eq_true, kindsL_len] at a4
  have := fitL_len a4.2
  rw [kindsL_len] at this
  exact ⟨g1, g2, by omega, g3, a2, a3, this⟩
end
end Go.Proofs.Ytiglkhkfbgjjoaa
