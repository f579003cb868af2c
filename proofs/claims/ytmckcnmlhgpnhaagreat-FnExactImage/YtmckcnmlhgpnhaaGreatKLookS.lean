/- What a Root of a right arena is. No Go here. -/
import Derived.Test.YtmckcnmlhgpnhaaGreatProg
import Derived.Test.YtmckcnmlhgpnhaaGreatKHeadL
/- What a Root of a right arena is. No Go here. -/
namespace Go.Proofs.YtmckcnmlhgpnhaaGreat
set_option maxRecDepth 20000
open Go.RowKit
set_option linter.unusedSimpArgs false
set_option linter.unusedVariables false

theorem rdS_pos {x : Int} (h : rdOk x = true) : 1 ≤ rdS x := by
  have h2 := rd_sOk h
  rcases sOk_kinds h2 with g | g | g | g | g | g <;> omega
/-- A Root that is a reference leads to an object of the half in use, of its kind. -/
theorem ar_root {ws : List Int} {semi toh top : Int} {cyc : Bool} {scan old copied serial : Int} {y : Nat → Int} {rl : Nat} (hw : Words64 ws) (hok : ArOk ws semi toh top cyc scan old copied serial y rl) {i : Nat} (hi : i < rl) (hr : isR (y (2 * i)) = true) :
    ∃ p : Nat, y (2 * i + 1) = (p : Int) ∧ rdOk (wordAt ws p) = true ∧ rdK (wordAt ws p) = kindOf (y (2 * i)) ∧ p + 1 < ws.length ∧ leadsAt ws p = p ∧ (y (2 * i) = 3 → TextIn ws p) := by
  obtain ⟨s0, s1, hl, t0, t1, hrl, h1, h2, hold⟩ := num_facts hok.1
  obtain ⟨g1, g2, g3, g4, g5⟩ := num_halves s0 s1 hl t0 t1 h1 h2
  obtain ⟨L, O, ht, _, hobj, _, hroots⟩ := hok.2
  have hlaid := ar_laid hok (S := (toh * semi + 1).toNat) (T := top.toNat) (F := ((1 - toh) * semi + 1).toNat) (by omega) (by omega) (by omega) ht
  have hk := ht.known hlaid.Tn hlaid.On hlaid.ap hobj
  obtain ⟨hv, _, hlead⟩ := hroots i hi
  obtain ⟨hm, hfr, hkd⟩ := hlead hr
  have hm0 : 0 < y (2 * i + 1) := by
    have h3 := of_decide_eq_true hv
    have h4 := of_decide_eq_true hr
    omega
  have hmk : mk2 ws L O (y (2 * i + 1)).toNat = 1 := by
    unfold fromOk at hfr
    simp at hfr
    exact hfr
  have hob : isObj (mk2 ws L O) (y (2 * i + 1)).toNat := .inl hmk
  obtain ⟨hrd, hin⟩ := hk.within _ hob
  have hle := leadsAt_head hrd
  have hpos := rdS_pos hrd
  rw [hle, Int.toNat_natCast] at hkd
  refine ⟨(y (2 * i + 1)).toNat, by omega, hrd, hkd, by omega, hle, fun h3 => ?_⟩
  refine hk.text hw hob ?_
  rw [h3] at hkd
  simpa [kindOf] using hkd
end Go.Proofs.YtmckcnmlhgpnhaaGreat
