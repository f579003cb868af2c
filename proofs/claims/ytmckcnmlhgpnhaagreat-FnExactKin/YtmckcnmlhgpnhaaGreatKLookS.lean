/- Is there such a Root: l2Root, hasRoot. -/
import Derived.Test.YtmckcnmlhgpnhaaGreatProg
import Derived.Test.YtmckcnmlhgpnhaaGreatKLawC
import Derived.Test.YtmckcnmlhgpnhaaGreatKHeadL
namespace Go.Proofs.YtmckcnmlhgpnhaaGreat
set_option maxRecDepth 20000
open Go.RowKit
set_option linter.unusedSimpArgs false
set_option linter.unusedVariables false

/-- Is there such a Root? -/
def hasR (r : Int) (n : Nat) : Bool := decide (0 ≤ r ∧ r < n)
theorem l2Root_any (aw : Option Addr) (cw : Nat) (ws : List Int) (semi toh top : Int) (cyc : Bool) (scan old copied serial : Int) (ar : Option Addr) (cr : Nat) (rs : List (Int × Int)) (r : Int) (w : World) (hn2 : rs.length ≤ 1048576) :
    Calls Tryz.prog 82 #[.agg #[.slice aw ws.length cw, .int .i64 semi, .int .i64 toh, .int .i64 top, .bool cyc, .int .i64 scan, .int .i64 old, .int .i64 copied, .int .i64 serial, .slice ar rs.length cr], .int .i64 r] w fun e w' => e = .returned (.bool (hasR r rs.length)) ∧ Below w.heap.size w w' := by
  have h1 : inB r 0 ((rs.length : Int) - 1) = hasR r rs.length := by
    unfold inB hasR
    rw [decide_eq_decide]
    omega
  go_enter Tryz.func82, Tryz.ntmps82
  go_wp2_with (go_at_call 104; refine (l1In_any _ _ _ _).mono ?_; rintro e w' ⟨rfl, rfl⟩)
  go_ret
  exact ⟨rfl, below_first (Below.refl _ _)⟩
theorem hasRoot_any (aw : Option Addr) (cw : Nat) (ws : List Int) (semi toh top : Int) (cyc : Bool) (scan old copied serial : Int) (ar : Option Addr) (cr : Nat) (rs : List (Int × Int)) (r : Int) (w : World) (hn2 : rs.length ≤ 1048576) :
    Calls Tryz.prog 84 #[.agg #[.slice aw ws.length cw, .int .i64 semi, .int .i64 toh, .int .i64 top, .bool cyc, .int .i64 scan, .int .i64 old, .int .i64 copied, .int .i64 serial, .slice ar rs.length cr], .int .i64 r] w fun e w' => e = .returned (.bool (hasR r rs.length)) ∧ Below w.heap.size w w' := by
  by_cases h0 : 0 ≤ r
  · by_cases h1 : r < rs.length
    · have e : hasR r rs.length = true := decide_eq_true ⟨h0, h1⟩
      rw [e]
      go_enter Tryz.func84, Tryz.ntmps84
      go_wp2
      go_ret
      exact ⟨rfl, below_first (Below.refl _ _)⟩
    · have e : hasR r rs.length = false := decide_eq_false (fun g => h1 g.2)
      rw [e]
      have h1' : decide (r < (rs.length : Int)) = false := decide_eq_false h1
      clear h1
      go_enter Tryz.func84, Tryz.ntmps84
      go_wp2
      go_ret
      exact ⟨rfl, below_first (Below.refl _ _)⟩
  · have e : hasR r rs.length = false := decide_eq_false (fun g => h0 g.1)
    rw [e]
    have h0' : decide (0 ≤ r) = false := decide_eq_false h0
    clear h0
    go_enter Tryz.func84, Tryz.ntmps84
    go_wp2
    go_ret
    exact ⟨rfl, below_first (Below.refl _ _)⟩
end Go.Proofs.YtmckcnmlhgpnhaaGreat

/- What a Root of a right arena is. No Go here. -/
namespace Go.Proofs.YtmckcnmlhgpnhaaGreat
set_option maxRecDepth 20000
open Go.RowKit
set_option linter.unusedSimpArgs false
set_option linter.unusedVariables false

theorem rdS_pos {x : Int} (h : rdOk x = true) : 1 ≤ rdS x := by
  have h2 := rd_sOk h
  rcases sOk_kinds h2 with g | g | g | g | g | g <;> omega
/-- A Root that is a reference leads to an object of the half in use, of its kind. -/
theorem ar_root {ws : List Int} {semi toh top : Int} {cyc : Bool} {scan old copied serial : Int} {y : Nat → Int} {rl : Nat} (hw : Words64 ws) (hok : ArOk ws semi toh top cyc scan old copied serial y rl) {i : Nat} (hi : i < rl) (hr : isR (y (2 * i)) = true) :
    ∃ p : Nat, y (2 * i + 1) = (p : Int) ∧ rdOk (wordAt ws p) = true ∧ rdK (wordAt ws p) = kindOf (y (2 * i)) ∧ p + 1 < ws.length ∧ leadsAt ws p = p ∧ (y (2 * i) = 3 → TextIn ws p) := by
  obtain ⟨s0, s1, hl, t0, t1, hrl, h1, h2, hold⟩ := num_facts hok.1
  obtain ⟨g1, g2, g3, g4, g5⟩ := num_halves s0 s1 hl t0 t1 h1 h2
  obtain ⟨L, O, ht, _, hobj, _, hroots⟩ := hok.2
  have hlaid := ar_laid hok (S := (toh * semi + 1).toNat) (T := top.toNat) (F := ((1 - toh) * semi + 1).toNat) (by omega) (by omega) (by omega) ht
  have hk := ht.known hlaid.Tn hlaid.On hlaid.ap hobj
  obtain ⟨hv, _, hlead⟩ := hroots i hi
  obtain ⟨hm, hfr, hkd⟩ := hlead hr
  have hm0 : 0 < y (2 * i + 1) := by
    have h3 := of_decide_eq_true hv
    have h4 := of_decide_eq_true hr
    omega
  have hmk : mk2 ws L O (y (2 * i + 1)).toNat = 1 := by
    unfold fromOk at hfr
    simp at hfr
    exact hfr
  have hob : isObj (mk2 ws L O) (y (2 * i + 1)).toNat := .inl hmk
  obtain ⟨hrd, hin⟩ := hk.within _ hob
  have hle := leadsAt_head hrd
  have hpos := rdS_pos hrd
  rw [hle, Int.toNat_natCast] at hkd
  refine ⟨(y (2 * i + 1)).toNat, by omega, hrd, hkd, by omega, hle, fun h3 => ?_⟩
  refine hk.text hw hob ?_
  rw [h3] at hkd
  simpa [kindOf] using hkd
end Go.Proofs.YtmckcnmlhgpnhaaGreat
