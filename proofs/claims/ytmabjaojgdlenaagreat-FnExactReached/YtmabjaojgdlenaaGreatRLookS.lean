/- - -/
import Derived.Test.YtmabjaojgdlenaaGreatRHeadL
namespace Go.Proofs.YtmabjaojgdlenaaGreat
set_option maxRecDepth 20000
open Go.RowKit
set_option linter.unusedSimpArgs false
set_option linter.unusedVariables false
theorem zsc {x : Int} (h : zab x = true) : 1 <= rdS x := by
 have h2 := zcz h
 rcases za1 h2 with g | g | g | g | g | g <;> omega
theorem zmz {ws : List Int} {smz toh top : Int} {cyc : Bool} {sn old cpz sr : Int} {y : Nat -> Int} {rl : Nat} (hw : zg ws) (hok : zdh ws smz toh top cyc sn old cpz sr y rl) {i : Nat} (hi : i < rl) (hr : isR (y (2 * i)) = true) :
 ∃ p : Nat, y (2 * i + 1) = (p : Int) /\ zab (za ws p) = true /\ rdK (za ws p) = zar (y (2 * i)) /\ p + 1 < ws.length /\ zh ws p = p /\ (y (2 * i) = 3 -> zfd ws p) := by
 obtain ⟨s0, s1, hl, t0, t1, hrl, h1, h2, hold⟩ := zd7 hok.1
 obtain ⟨g1, g2, g3, g4, g5⟩ := zds s0 s1 hl t0 t1 h1 h2
 obtain ⟨L, O, ht, _, hobj, _, hroots⟩ := hok.2
 have hlaid := zm0 hok (S := (toh * smz + 1).toNat) (T := top.toNat) (F := ((1 - toh) * smz + 1).toNat) (by omega) (by omega) (by omega) ht
 have hk := ht.known hlaid.Tn hlaid.On hlaid.ap hobj
 obtain ⟨hv, _, hlead⟩ := hroots i hi
 obtain ⟨hm, hfr, hkd⟩ := hlead hr
 have hm0 : 0 < y (2 * i + 1) := by
  have h3 := of_decide_eq_true hv
  have h4 := of_decide_eq_true hr
  omega
 have hmk : mk2 ws L O (y (2 * i + 1)).toNat = 1 := by
  unfold zbp at hfr
  simp at hfr
  exact hfr
 have hob : za2 (mk2 ws L O) (y (2 * i + 1)).toNat := .inl hmk
 obtain ⟨hrd, hin⟩ := hk.within _ hob
 have hle := zbn hrd
 have hpos := zsc hrd
 rw [hle, Int.toNat_natCast] at hkd
 refine ⟨(y (2 * i + 1)).toNat, by omega, hrd, hkd, by omega, hle, fun h3 => ?_⟩
 refine hk.text hw hob ?_
 rw [h3] at hkd
 simpa [zar] using hkd
end Go.Proofs.YtmabjaojgdlenaaGreat
