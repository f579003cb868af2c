/- - -/
import Derived.Test.YtdnhohndppmgcaaGreatDoorLLawC
namespace Go.Proofs.YtdnhohndppmgcaaGreatDoor
set_option maxRecDepth 20000
open Go.RowKit
set_option linter.unusedSimpArgs false
set_option linter.unusedVariables false
theorem zp6 {ws : List Int} {sm toh top : Int} {cyc : Bool} {sn old cp sr : Int} {y : Nat -> Int} {rl S T F : Nat} {L O : List Nat} (hok : zbm ws sm toh top cyc sn old cp sr y rl) (hS : toh * sm + 1 = S) (hT : top = T) (hF : (1 - toh) * sm + 1 = F) (ht : za6 ws sr S T cyc F old cp sn L O) : zau ws sr S T cyc F old cp sn L O := by
 obtain ⟨s0, s1, hl, t0, t1, hrl, h1, h2, hold⟩ := zc4 hok.1
 obtain ⟨g1, g2, g3, g4, g5⟩ := zcv s0 s1 hl t0 t1 h1 h2
 refine ⟨ht, fun hc => ?_, by omega, by omega, by omega, fun hc => ?_⟩
 · obtain ⟨a, b⟩ := hold hc
   have := g5 old a b
   omega
 · obtain ⟨a, b⟩ := hold hc
   exact (g5 old a b).1
def zbf (r : Int) (n : Nat) : Bool := decide (0 <= r /\ r < n)
theorem zb8 (aw : Option Addr) (cw : Nat) (ws : List Int) (sm toh top : Int) (cyc : Bool) (sn old cp sr : Int) (ar : Option Addr) (cr : Nat) (rs : List (Int × Int)) (r : Int) (w : World) (hn2 : rs.length <= 1048576) :
 Calls Tryz.prog 39 #[.agg #[.slice aw ws.length cw, .int .i64 sm, .int .i64 toh, .int .i64 top, .bool cyc, .int .i64 sn, .int .i64 old, .int .i64 cp, .int .i64 sr, .slice ar rs.length cr], .int .i64 r] w fun e w' => e = .returned (.bool (zbf r rs.length)) /\ Below w.heap.size w w' := by
 have h1 : inB r 0 ((rs.length : Int) - 1) = zbf r rs.length := by
  unfold inB zbf
  rw [decide_eq_decide]
  omega
 go_enter Tryz.func39, Tryz.ntmps39
 go_wp2_with (go_at_call 43; refine (zai _ _ _ _).mono ?_; rintro e w' ⟨rfl, rfl⟩)
 go_ret
 exact ⟨rfl, ze (Below.refl _ _)⟩
theorem ziz (aw : Option Addr) (cw : Nat) (ws : List Int) (sm toh top : Int) (cyc : Bool) (sn old cp sr : Int) (ar : Option Addr) (cr : Nat) (rs : List (Int × Int)) (r : Int) (w : World) (hn2 : rs.length <= 1048576) :
 Calls Tryz.prog 169 #[.agg #[.slice aw ws.length cw, .int .i64 sm, .int .i64 toh, .int .i64 top, .bool cyc, .int .i64 sn, .int .i64 old, .int .i64 cp, .int .i64 sr, .slice ar rs.length cr], .int .i64 r] w fun e w' => e = .returned (.bool (zbf r rs.length)) /\ Below w.heap.size w w' := by
 by_cases h0 : 0 <= r
 · by_cases h1 : r < rs.length
   · have e : zbf r rs.length = true := decide_eq_true ⟨h0, h1⟩
     rw [e]
     go_enter Tryz.func169, Tryz.ntmps169
     go_wp2
     go_ret
     exact ⟨rfl, ze (Below.refl _ _)⟩
   · have e : zbf r rs.length = false := decide_eq_false (fun g => h1 g.2)
     rw [e]
     have h1' : decide (r < (rs.length : Int)) = false := decide_eq_false h1
     clear h1
     go_enter Tryz.func169, Tryz.ntmps169
     go_wp2
     go_ret
     exact ⟨rfl, ze (Below.refl _ _)⟩
 · have e : zbf r rs.length = false := decide_eq_false (fun g => h0 g.1)
   rw [e]
   have h0' : decide (0 <= r) = false := decide_eq_false h0
   clear h0
   go_enter Tryz.func169, Tryz.ntmps169
   go_wp2
   go_ret
   exact ⟨rfl, ze (Below.refl _ _)⟩
theorem zwn {x : Int} (h : zw x = true) : 1 <= rdS x := by
 have h2 := zc0 h
 rcases zbg h2 with g | g | g | g | g | g <;> omega
theorem zwo {ws : List Int} {sm toh top : Int} {cyc : Bool} {sn old cp sr : Int} {y : Nat -> Int} {rl : Nat} (hw : zg ws) (hok : zbm ws sm toh top cyc sn old cp sr y rl) {i : Nat} (hi : i < rl) (hr : isR (y (2 * i)) = true) :
 ∃ p : Nat, y (2 * i + 1) = (p : Int) /\ zw (za ws p) = true /\ rdK (za ws p) = za5 (y (2 * i)) /\ p + 1 < ws.length /\ zi ws p = p /\ (y (2 * i) = 3 -> zf5 ws p) := by
 obtain ⟨s0, s1, hl, t0, t1, hrl, h1, h2, hold⟩ := zc4 hok.1
 obtain ⟨g1, g2, g3, g4, g5⟩ := zcv s0 s1 hl t0 t1 h1 h2
 obtain ⟨L, O, ht, _, hobj, _, hroots⟩ := hok.2
 have hlaid := zp6 hok (S := (toh * sm + 1).toNat) (T := top.toNat) (F := ((1 - toh) * sm + 1).toNat) (by omega) (by omega) (by omega) ht
 have hk := ht.known hlaid.Tn hlaid.On hlaid.ap hobj
 obtain ⟨hv, _, hlead⟩ := hroots i hi
 obtain ⟨hm, hfr, hkd⟩ := hlead hr
 have hm0 : 0 < y (2 * i + 1) := by
  have h3 := of_decide_eq_true hv
  have h4 := of_decide_eq_true hr
  omega
 have hmk : mk2 ws L O (y (2 * i + 1)).toNat = 1 := by
  unfold zbl at hfr
  simp at hfr
  exact hfr
 have hob : zck (mk2 ws L O) (y (2 * i + 1)).toNat := .inl hmk
 obtain ⟨hrd, hin⟩ := hk.within _ hob
 have hle := zb6 hrd
 have hpos := zwn hrd
 rw [hle, Int.toNat_natCast] at hkd
 refine ⟨(y (2 * i + 1)).toNat, by omega, hrd, hkd, by omega, hle, fun h3 => ?_⟩
 refine hk.text hw hob ?_
 rw [h3] at hkd
 simpa [za5] using hkd
end Go.Proofs.YtdnhohndppmgcaaGreatDoor
