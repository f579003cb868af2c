/- Flip of both packages. -/
import Derived.Test.YtibjellhafndiaaGreatDoorProg
import Derived.Test.YtibjellhafndiaaGreatDoorSFnJ
import Derived.Test.YtibjellhafndiaaGreatDoorSLawD
namespace Go.Proofs.YtibjellhafndiaaGreatDoor
set_option maxRecDepth 20000
open Go.RowKit
set_option linter.unusedSimpArgs false
set_option linter.unusedVariables false

theorem ownAr_of {B Tt : Nat} {w : World} {ar : Option Addr} {bw br cw cr m : Nat} {ws : List Int} {n : Nat} {y : Nat → Int} (hn : ws.length = n) (hW : RwW w bw ws) (hR : OwnR w ar br m y) (hne : 0 < m → bw ≠ br) (h1 : B ≤ bw) (h2 : bw < Tt) (h3 : B ≤ br) (h4 : br < Tt) :
    OwnAr B Tt w (.slice (some ⟨bw, 0, none⟩) n cw) (.slice ar m cr) n m (wordAt ws) y := by
  subst hn
  rcases hR with h | ⟨rfl, h⟩
  · exact ⟨bw, bw + 1, bw + 1, bw + 1, h1, h2, by omega, by omega, by omega, Rw.own hW (Nat.le_refl _) (by omega), ⟨_, _, rfl, .inl (by omega)⟩⟩
  · by_cases hm : 0 < m
    · have := hne hm
      exact ⟨bw, bw + 1, br, br + 1, h1, h2, h3, h4, by omega, Rw.own hW (Nat.le_refl _) (by omega), Rw.own h (Nat.le_refl _) (by omega)⟩
    · exact ⟨bw, bw + 1, bw + 1, bw + 1, h1, h2, by omega, by omega, by omega, Rw.own hW (Nat.le_refl _) (by omega), ⟨_, _, rfl, .inl (by omega)⟩⟩
/-- The two rows of an arena that was copied. -/
theorem ownAr_rows {B Tt : Nat} {w : World} {a1 a2 : Option Addr} {c1 c2 n m : Nat} {ws : List Int} {y : Nat → Int} (hn : ws.length = n) (h0 : 0 < n) (h : OwnAr B Tt w (.slice a1 n c1) (.slice a2 m c2) n m (wordAt ws) y) :
    ∃ bw br, a1 = some ⟨bw, 0, none⟩ ∧ RwW w bw ws ∧ OwnR w a2 br m y ∧ (0 < m → bw ≠ br) ∧ B ≤ bw ∧ bw < Tt ∧ B ≤ br ∧ br < Tt := by
  subst hn
  obtain ⟨u1, t1, u2, t2, h1, h2, h3, h4, h5, h6, h7⟩ := h
  obtain ⟨bw, cap, hv, k1, k2, k3⟩ := h6.rw' h0
  simp only [Value.slice.injEq] at hv
  obtain ⟨rfl, _, rfl⟩ := hv
  by_cases hm : 0 < m
  · obtain ⟨br, cap2, hv2, j1, j2, j3⟩ := h7.rw' (by omega)
    simp only [Value.slice.injEq] at hv2
    obtain ⟨rfl, _, rfl⟩ := hv2
    exact ⟨bw, br, rfl, k3, .inr ⟨rfl, j3⟩, fun _ => by omega, by omega, by omega, by omega, by omega⟩
  · exact ⟨bw, bw, rfl, k3, .inl (by omega), fun g => absurd g hm, by omega, by omega, by omega, by omega⟩
end Go.Proofs.YtibjellhafndiaaGreatDoor
