/- - -/
import Derived.Test.YtmckcnmlhgpnhaaGreatWHeadL
namespace Go.Proofs.YtmckcnmlhgpnhaaGreat
set_option maxRecDepth 20000
open Go.RowKit
set_option linter.unusedSimpArgs false
set_option linter.unusedVariables false
theorem zw5 {x : Int} (h : zai x = true) : 1 <= rdS x := by
 have h2 := zde h
 rcases zbe h2 with g | g | g | g | g | g <;> omega
theorem zp4 {ws : List Int} {smz toh top : Int} {cyc : Bool} {sn old cpz sr : Int} {y : Nat -> Int} {rl : Nat} (hw : zg ws) (hok : zdc ws smz toh top cyc sn old cpz sr y rl) {i : Nat} (hi : i < rl) (hr : isR (y (2 * i)) = true) :
 ∃ p : Nat, y (2 * i + 1) = (p : Int) /\ zai (za ws p) = true /\ rdK (za ws p) = za2 (y (2 * i)) /\ p + 1 < ws.length /\ zi ws p = p /\ (y (2 * i) = 3 -> zf0 ws p) := by
 obtain ⟨s0, s1, hl, t0, t1, hrl, h1, h2, hold⟩ := zdi hok.1
 obtain ⟨g1, g2, g3, g4, g5⟩ := zd7 s0 s1 hl t0 t1 h1 h2
 obtain ⟨L, O, ht, _, hobj, _, hroots⟩ := hok.2
 have hlaid := zp5 hok (S := (toh * smz + 1).toNat) (T := top.toNat) (F := ((1 - toh) * smz + 1).toNat) (by omega) (by omega) (by omega) ht
 have hk := ht.known hlaid.Tn hlaid.On hlaid.ap hobj
 obtain ⟨hv, _, hlead⟩ := hroots i hi
 obtain ⟨hm, hfr, hkd⟩ := hlead hr
 have hm0 : 0 < y (2 * i + 1) := by
  have h3 := of_decide_eq_true hv
  have h4 := of_decide_eq_true hr
  omega
 have hmk : mk2 ws L O (y (2 * i + 1)).toNat = 1 := by
  unfold zb4 at hfr
  simp at hfr
  exact hfr
 have hob : zbf (mk2 ws L O) (y (2 * i + 1)).toNat := .inl hmk
 obtain ⟨hrd, hin⟩ := hk.within _ hob
 have hle := zb2 hrd
 have hpos := zw5 hrd
 rw [hle, Int.toNat_natCast] at hkd
 refine ⟨(y (2 * i + 1)).toNat, by omega, hrd, hkd, by omega, hle, fun h3 => ?_⟩
 refine hk.text hw hob ?_
 rw [h3] at hkd
 simpa [za2] using hkd
end Go.Proofs.YtmckcnmlhgpnhaaGreat
