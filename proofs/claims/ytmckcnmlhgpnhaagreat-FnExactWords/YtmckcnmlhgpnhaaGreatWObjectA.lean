/- - -/
import Derived.Test.YtmckcnmlhgpnhaaGreatWLeadsB
import Derived.Test.YtmckcnmlhgpnhaaGreatWSlotsB
import Derived.Test.YtmckcnmlhgpnhaaGreatWArnA
import Derived.Test.YtmckcnmlhgpnhaaGreatWSerialsA
namespace Go.Proofs.YtmckcnmlhgpnhaaGreat
set_option maxRecDepth 20000
open Go.RowKit
set_option linter.unusedSimpArgs false
set_option linter.unusedVariables false
def zck (mk : Nat -> Int) (cyc : Bool) (sn : Int) (p : Nat) : Int := if mk p = 2 then 3 else if cyc = true /\ sn <= p then 2 else 1
def zdd (mk : Nat -> Int) (ws : List Int) (fr k : Int) (x : Nat) : Prop :=
 zcn ws x = true /\ zbz mk ws (rvT ws x) (rvN ws x) fr /\ ¬ (rvT ws x = 8 /\ k ≠ 2) /\ ¬ (rvT ws x = 9 /\ k = 3) /\ ¬ (rvT ws x ≠ 9 /\ k = 4)
def zfn (mk : Nat -> Int) (ws : List Int) (fr : Int) (p : Nat) : Prop :=
 (∀ j, j < slN (rdK (za ws p)) (rdS (za ws p)) -> zdd mk ws fr (rdK (za ws p)) (p + (fs (rdK (za ws p)) + 2 * (j : Int)).toNat)) /\
 (rdK (za ws p) = 1 -> zdq ws p (rdS (za ws p)) = true) /\ (rdK (za ws p) = 4 -> za ws (p + 1) <= 255) /\ (rdK (za ws p) = 6 -> zxp ws p)
theorem zde {x : Int} (h : zai x = true) : sOk (rdK x) (rdS x) = true := by
 have e1 : rdK x = x % 16 := by simp [rdK, h]
 have e2 : rdS x = x / 16 % 65536 := by simp [rdS, h]
 rw [e1, e2]
 by_cases g : sOk (x % 16) (x / 16 % 65536) = true
 · exact g
 · rw [Bool.not_eq_true] at g
   unfold zai at h
   rw [zmm _ g] at h
   simp at h
theorem zjy (k : Int) : 1 <= fs k := by unfold fs; split <;> (try split) <;> (try split) <;> omega
theorem zmt {ws : List Int} {X : Nat} (hw : zg ws) (hr : zcn ws X = true) : vOk (rvT ws X) (rvN ws X) = true := by
 have hx := zac hw X
 have e1 : rvT ws X = za ws X := by simp [rvT, hr]
 have e2 : rvN ws X = wrap64 (za ws (X + 1)) := by simp [rvN, hr]
 rw [e1, e2]
 unfold zcn at hr
 obtain ⟨_, g⟩ := zhu hx.1 hx.2 hr
 rwa [g] at hr
theorem zgz {ws : List Int} {X : Nat} (hw : zg ws) (hr : zcn ws X = true) : isR (rvT ws X) = true -> 0 < rvN ws X := fun h => by
 have := zmt hw hr
 simp only [vOk, isR, decide_eq_true_eq] at this h
 omega
theorem zgd {S : Nat -> Prop} {k : Nat} (h : ∀ j, j < k -> S j) (hk : S k) : ∀ j, j < k + 1 -> S j := fun j hj => by
 by_cases e : j = k
 · subst e; exact hk
 · exact h j (by omega)
theorem zbd {B : World} {W : World} (h : Below B.heap.size B W) (o : Obj) : Below B.heap.size B (W.alloc o) := h.alloc h.size o
set_option maxHeartbeats 4000000 in
theorem zek (aw : Option Addr) (cw : Nat) (ws : List Int) (smz toh top : Int) (cyc : Bool) (sn old cpz sr : Int) (ar : Option Addr) (cr : Nat) (rs : List (Int × Int)) (b off c : Nat) (mk : Nat -> Int) (x : Int) (p : Nat) (w : World) (hx : x = p) (hn : ws.length <= 1048576) (hw : zg ws) (hs : Sl w (.slice aw ws.length cw) ws) (hb' : b < w.heap.size) (hmc : ∀ i, i < ws.length -> w.cell? ⟨b, off + i, none⟩ = some (.int .i64 (mk i))) (hM : zha mk ws) (hok : zai (za ws p) = true) (hp : p + (rdS (za ws p)).toNat < ws.length) (fr : Int) (hfr : fr = zck mk cyc sn p) :
 Calls Tryz.prog 93 #[.agg #[.slice aw ws.length cw, .int .i64 smz, .int .i64 toh, .int .i64 top, .bool cyc, .int .i64 sn, .int .i64 old, .int .i64 cpz, .int .i64 sr, .slice ar rs.length cr], .slice (some ⟨b, off, none⟩) ws.length c, .int .i64 x] w fun e w' => ∃ q, e = .returned (.bool q) /\ (q = true ↔ zfn mk ws fr p) /\ Below w.heap.size w w' := by
 have hp1 : p < ws.length := by omega
 have hn' : (ws.length : Int) <= 1048576 := by omega
 have hpi : (p : Int) < (ws.length : Int) := by omega
 subst hx
 have HFR : Hid (fr = zck mk cyc sn p) := hfr
 clear hfr
 go_enter Tryz.func93, Tryz.ntmps93
 go_wp2_with fail
 refine (zbr _ _ _ _ _ _ _ _ _ _ _ _ _ _ _ p _ rfl (zas hs _) hn hw hp1).mono ?_
 rintro e w1 ⟨rfl, b1⟩
 obtain ⟨k0, k1, k2, k3, k4, k5, k6, k7, k8, k9⟩ := zbx b1
 have z1 := zq b1
 have q1 : w1.cell? ⟨b, off + p, none⟩ = some (.int .i64 (mk p)) := by rw [(zd b1).cell (p := ⟨b, off + p, none⟩) hb']; exact hmc p hp1
 have q2 : ∀ o, (w1.alloc o).cell? ⟨b, off + p, none⟩ = some (.int .i64 (mk p)) := fun o => by rw [World.cell?_alloc_lt w1 _ ⟨b, off + p, none⟩ (show b < w1.heap.size by omega)]; exact q1
 go_upto_if 20 with fail
 go_cut [8] from 20 to 28 (fun s8 wc => s8 = .int .i64 fr /\ wc = w1.alloc (.cells #[.int .i64 (rdK (za ws p)), .int .i64 (rdS (za ws p)), .int .i64 (rdN (za ws p))] 78))
 case first =>
  by_cases h2 : mk p = 2
  · have h2' : (mk p == 2) = true := by simpa using h2
    have e : fr = 3 := by rw [HFR.out]; simp [zck, h2]
    subst e
    clear HFR
    go_wp2
    go_meet
    exact ⟨rfl, rfl⟩
  · have h2' : (mk p == 2) = false := by simpa using h2
    cases cyc with
    | false =>
      have e : fr = 1 := by rw [HFR.out]; simp [zck, h2]
      subst e
      clear HFR
      go_wp2
      go_meet
      exact ⟨rfl, rfl⟩
    | true =>
      by_cases h3 : sn <= (p : Int)
      · have e : fr = 2 := by rw [HFR.out]; simp [zck, h2, h3]
        subst e
        clear HFR
        go_wp2
        go_meet
        exact ⟨rfl, rfl⟩
      · have e : fr = 1 := by rw [HFR.out]; simp [zck, h2, h3]
        subst e
        clear HFR
        go_wp2
        go_meet
        exact ⟨rfl, rfl⟩
 case rest =>
 obtain ⟨rfl, rfl⟩ := hcut
 have hfr' : fr = 1 \/ fr = 2 \/ fr = 3 := by rw [HFR.out]; unfold zck; split <;> (try split) <;> simp
 have KA1 := zp b1 (by simp)
 have B1 := zd b1
 clear k0 k1 k2 k3 k4 k5 k6 k7 k8 k9 q1 q2 b1
 go_wp2_with fail
 refine (zhl _ _ _).mono ?_
 rintro e w2 ⟨v2, rfl, o2, b2⟩
 have HA := zp b2 (by simp)
 have KA := ze KA1 (zd b2) z1
 have B2 := zc B1 (zd b2)
 have z2 := zq b2
 have MA : ∀ i, i < ws.length -> w2.cell? ⟨b, off + i, none⟩ = some (.int .i64 (mk i)) := fun i hi => by rw [B2.cell (p := ⟨b, off + i, none⟩) hb']; exact hmc i hi
 have SA := hs.below B2
 have lb2 : b < w2.heap.size := Nat.lt_of_lt_of_le hb' B2.size
 obtain ⟨asl, csl, rfl, hcase⟩ := o2.sl.here
 have hN1 : slN (rdK (za ws p)) (rdS (za ws p)) <= 128 := zjz _ _
 clear KA1 b2 o2 hs hmc
 go_wp2
 go_loopw [10] (fun u10 wr => ∃ k : Nat, k <= slN (rdK (za ws p)) (rdS (za ws p)) /\ u10 = .int .i64 k /\ (∀ j, j < k -> zdd mk ws fr (rdK (za ws p)) (p + (fs (rdK (za ws p)) + 2 * (j : Int)).toNat)) /\ Below w2.heap.size w2 wr) (fun u10 _ => slN (rdK (za ws p)) (rdS (za ws p)) - (intOf u10).toNat)
 case atStart => exact ⟨0, Nat.zero_le _, rfl, fun j hj => absurd hj (by omega), Below.refl _ _⟩
 case round =>
  obtain ⟨k, hk, rfl, hall, hB⟩ := hrel
  have lwr := hB.size
  have KR := ze KA hB (by omega)
  have HR := ze HA hB z2
  have hNi : (slN (rdK (za ws p)) (rdS (za ws p)) : Int) <= 128 := by omega
  by_cases hlt : k < slN (rdK (za ws p)) (rdS (za ws p))
  · rcases hcase with h0 | ⟨bs, os, rfl, _, lbs, hcs⟩
    · omega
    have hlt' : (k : Int) < (slN (rdK (za ws p)) (rdS (za ws p)) : Int) := by omega
    have qs : wr.cell? ⟨bs, os + k, none⟩ = some (.int .i64 (fs (rdK (za ws p)) + 2 * (k : Int))) := by rw [hB.cell (p := ⟨bs, os + k, none⟩) lbs]; exact hcs k hlt
    have hsz := (zff (zde hok) k).2 hlt
    have hf1 := zjy (rdK (za ws p))
    obtain ⟨X, hX⟩ : ∃ X : Nat, X = p + (fs (rdK (za ws p)) + 2 * (k : Int)).toNat := ⟨_, rfl⟩
    have HX : Hid ((p : Int) + (fs (rdK (za ws p)) + 2 * (k : Int)) = (X : Int)) := by show (p : Int) + (fs (rdK (za ws p)) + 2 * (k : Int)) = (X : Int); omega
    have hX1 : X + 1 < ws.length := by omega
    have hfb : fs (rdK (za ws p)) + 2 * (k : Int) <= 1048576 := by omega
    obtain ⟨Y, hY⟩ : ∃ Y : Int, Y = fs (rdK (za ws p)) + 2 * (k : Int) := ⟨_, rfl⟩
    have hY0 : 0 <= Y := by omega
    have hY1 : Y <= 1048576 := by omega
    have hXs : Hid (zdd mk ws fr (rdK (za ws p)) (p + (fs (rdK (za ws p)) + 2 * (k : Int)).toNat) -> zdd mk ws fr (rdK (za ws p)) X) := fun g => by rw [hX]; exact g
    have hXr : Hid (zdd mk ws fr (rdK (za ws p)) X -> zdd mk ws fr (rdK (za ws p)) (p + (fs (rdK (za ws p)) + 2 * (k : Int)).toNat)) := fun g => by rw [<- hX]; exact g
    rw [<- hY] at qs HX hX
    have HXw : Hid (IntKind.i64.wrap ((p : Int) + Y) = (X : Int)) := by show IntKind.i64.wrap ((p : Int) + Y) = (X : Int); rw [IntKind.wrap_i64]; have := HX.out; omega
    clear hfb hY
    have HSw : ∀ W, Below w2.heap.size w2 W -> Sl W (.slice aw ws.length cw) ws := fun W hW => SA.below hW
    go_upto_region 11 with fail
    go_cut [11, 12] from 40 to 51 (fun s11 s12 wc => ∃ cV : Nat, s11 = .pointer (some ⟨cV, 0, none⟩) /\ s12 = .bool (zcn ws X) /\ wc.cell? ⟨cV, 0, none⟩ = some (.int .i64 (rvT ws X)) /\ wc.cell? ⟨cV, 1, none⟩ = some (.int .i64 (rvN ws X)) /\ Below w2.heap.size w2 wc)
    case first =>
     have kw : w2.cell? ⟨w.heap.size, 0, none⟩ = some (.slice aw ws.length cw) := by rw [KA 0]; rfl
     have lw0 : w.heap.size < w2.heap.size := by omega
     have hcsk := hcs k hlt
     clear KR HR KA HA hall hcs MA hM hsz hf1 hX
     have hcsk' : w2.cell? ⟨bs, os + k, none⟩ = some (.int .i64 Y) := by rw [<- hB.cell (p := ⟨bs, os + k, none⟩) lbs]; exact qs
     clear hcsk
     have KP : ∀ W, Below w2.heap.size w2 W -> (Below w2.heap.size w2 W /\ W.cell? ⟨w.heap.size, 0, none⟩ = some (.slice aw ws.length cw) /\ W.cell? ⟨bs, os + k, none⟩ = some (.int .i64 Y)) := fun W hW => ⟨hW, by rw [hW.cell (p := ⟨w.heap.size, 0, none⟩) lw0]; exact kw, by rw [hW.cell (p := ⟨bs, os + k, none⟩) lbs]; exact hcsk'⟩
     go_region_held3 (fun W => Below w2.heap.size w2 W /\ W.cell? ⟨w.heap.size, 0, none⟩ = some (.slice aw ws.length cw) /\ W.cell? ⟨bs, os + k, none⟩ = some (.int .i64 Y)) (first | exact KP _ (by assumption) | exact KP _ hB.drew | exact KP _ (zbd (And.left (by assumption)) _) | (refine KP _ ?_; repeat (first | assumption | exact And.left (by assumption) | refine Below.setCell ?_ (by simp; omega) _ | refine zbd ?_ _))) (first | (go_at_call 45; refine (zdj _ ws _ X _ (by first | exact HXw.out | exact HX.out) (HSw _ (And.left (by assumption))) hn hw hX1).mono ?_; rintro e w' ⟨rfl, hb⟩; have hB3 := zc (w := w2) (And.left (by assumption)) hb; have hz3 := hB3.size; obtain ⟨hc, hf⟩ := zo hb; have hz := hb.size; simp at hz; clear hb))
     · go_wp2_with fail
       go_meet
       exact ⟨_, rfl, rfl, by simp [go_sem], by simp [go_sem], zbd hB3 _⟩
     · go_wp2_with fail
       go_meet
       have p0 : (w'.cell? ⟨wr.heap.size, 0, none⟩).isSome = true := by rw [hc _ _ (by simp)]; simp [go_sem]
       have p1 : (w'.cell? ⟨wr.heap.size, 1, none⟩).isSome = true := by rw [hc _ _ (by simp)]; simp [go_sem]
       exact ⟨_, rfl, rfl, by simp [go_sem, p0, p1], by simp [go_sem, p0, p1], (hB3.setCell (p := ⟨wr.heap.size, 0, none⟩) lwr _).setCell (p := ⟨wr.heap.size, 1, none⟩) lwr _⟩
    case rest =>
     obtain ⟨cV, rfl, rfl, cv0, cv1, hBc⟩ := hcut
     have KC := ze KA hBc (by omega)
     have HC := ze HA hBc z2
     have MC : ∀ i, i < ws.length -> wc.cell? ⟨b, off + i, none⟩ = some (.int .i64 (mk i)) := fun i hi => by rw [hBc.cell (p := ⟨b, off + i, none⟩) lb2]; exact MA i hi
     have lbc : b < wc.heap.size := Nat.lt_of_lt_of_le lb2 hBc.size
     have SC := HSw _ hBc
     have hB0 := zc B2 hBc
     have lcv : cV < wc.heap.size := World.block_lt_of_cell? _ ⟨cV, 0, none⟩ cv0
     have lw1 : w1.heap.size < wc.heap.size := Nat.lt_of_lt_of_le z2 hBc.size
     have lw0 : w.heap.size < wc.heap.size := by omega
     have MC' : Hid (∀ i, i < ws.length -> wc.cell? ⟨b, off + i, none⟩ = some (.int .i64 (mk i))) := MC
     have HM' : Hid (zha mk ws) := hM
     have HA' : Hid (∀ j, j < k -> zdd mk ws fr (rdK (za ws p)) (p + (fs (rdK (za ws p)) + 2 * (j : Int)).toNat)) := hall
     clear KR HR qs MC hM hall hcs MA KA HA HSw SA hsz hf1 hX HX HXw
     by_cases hr : zcn ws X = true
     · have hvR : isR (rvT ws X) = true -> 0 < rvN ws X := zgz hw hr
       by_cases hL : zbz mk ws (rvT ws X) (rvN ws X) fr
       · have HL : Hid (zbz mk ws (rvT ws X) (rvN ws X) fr) := hL
         have HV : Hid (isR (rvT ws X) = true -> 0 < rvN ws X) := hvR
         clear hL hvR
         by_cases hk2 : rdK (za ws p) = 2
         · have e2 : (rdK (za ws p) != 2) = false := by simp [hk2]
           have HK2 : Hid (rdK (za ws p) = 2) := hk2
           clear hk2
           go_wp2_with (first | (go_at_call 96; refine (zet _ _ _ _ _ _ _ _ _ _ _ _ _ _ _ _ _ mk _ _ _ _ hn hw SC lbc MC'.out HM'.out HV.out hfr').mono ?_; rintro e w4 ⟨q, rfl, hq, b4⟩; obtain rfl : q = true := hq.2 HL.out; clear hq; have HC4 := ze HC b4 lw1; have cv4 : w4.cell? ⟨cV, 0, none⟩ = some (.int .i64 (rvT ws X)) := (b4.cell (p := ⟨cV, 0, none⟩) lcv).trans cv0))
           all_goals first
            | (go_ret
               refine ⟨false, rfl, ⟨fun g => by simp at g, fun g => ?_⟩, zc hB0 b4⟩
               exfalso
               have g' := hXs.out (g.1 k hlt)
               unfold zdd at g'
               clear g
               go_light
               have hk2 := HK2.out
               simp only [beq_iff_eq, beq_eq_false_iff_ne, bne_iff_ne, bne_eq_false_iff_eq, ne_eq] at *
               omega)
            | (refine ⟨⟨k + 1, hlt, by go_num, zgd HA'.out (hXr.out ⟨hr, HL.out, ?_⟩), zc hBc b4⟩, by simp [intOf]; omega⟩
               go_light
               have hk2 := HK2.out
               simp only [beq_iff_eq, beq_eq_false_iff_ne, bne_iff_ne, bne_eq_false_iff_eq, ne_eq] at *
               omega)
            | (go_roundw
               case rel =>
                refine ⟨k + 1, hlt, by go_num, zgd HA'.out (hXr.out ⟨hr, HL.out, ?_⟩), zc hBc b4⟩
                go_light
                have hk2 := HK2.out
                simp only [beq_iff_eq, beq_eq_false_iff_ne, bne_iff_ne, bne_eq_false_iff_eq, ne_eq] at *
                omega
               case measure => simp [intOf]; omega)
         · have e2 : (rdK (za ws p) != 2) = true := by simp [hk2]
           have HK2 : Hid (¬ rdK (za ws p) = 2) := hk2
           clear hk2
           go_wp2_with (first | (go_at_call 96; refine (zet _ _ _ _ _ _ _ _ _ _ _ _ _ _ _ _ _ mk _ _ _ _ hn hw SC lbc MC'.out HM'.out HV.out hfr').mono ?_; rintro e w4 ⟨q, rfl, hq, b4⟩; obtain rfl : q = true := hq.2 HL.out; clear hq; have HC4 := ze HC b4 lw1; have cv4 : w4.cell? ⟨cV, 0, none⟩ = some (.int .i64 (rvT ws X)) := (b4.cell (p := ⟨cV, 0, none⟩) lcv).trans cv0))
           all_goals first
            | (go_ret
               refine ⟨false, rfl, ⟨fun g => by simp at g, fun g => ?_⟩, zc hB0 b4⟩
               exfalso
               have g' := hXs.out (g.1 k hlt)
               unfold zdd at g'
               clear g
               go_light
               have hk2 := HK2.out
               simp only [beq_iff_eq, beq_eq_false_iff_ne, bne_iff_ne, bne_eq_false_iff_eq, ne_eq] at *
               omega)
            | (refine ⟨⟨k + 1, hlt, by go_num, zgd HA'.out (hXr.out ⟨hr, HL.out, ?_⟩), zc hBc b4⟩, by simp [intOf]; omega⟩
               go_light
               have hk2 := HK2.out
               simp only [beq_iff_eq, beq_eq_false_iff_ne, bne_iff_ne, bne_eq_false_iff_eq, ne_eq] at *
               omega)
            | (go_roundw
               case rel =>
                refine ⟨k + 1, hlt, by go_num, zgd HA'.out (hXr.out ⟨hr, HL.out, ?_⟩), zc hBc b4⟩
                go_light
                have hk2 := HK2.out
                simp only [beq_iff_eq, beq_eq_false_iff_ne, bne_iff_ne, bne_eq_false_iff_eq, ne_eq] at *
                omega
               case measure => simp [intOf]; omega)
       · go_wp2_with (first | (go_at_call 96; refine (zet _ _ _ _ _ _ _ _ _ _ _ _ _ _ _ _ _ mk _ _ _ _ hn hw SC lbc MC'.out HM'.out hvR hfr').mono ?_; rintro e w4 ⟨q, rfl, hq, b4⟩; obtain rfl : q = false := by cases q with | false => rfl | true => exact absurd (hq.1 rfl) hL))
         go_ret
         refine ⟨false, rfl, ⟨fun g => by simp at g, fun g => ?_⟩, zc hB0 b4⟩
         exact absurd (hXs.out (g.1 k hlt)).2.1 hL
     · rw [Bool.not_eq_true] at hr
       go_wp2
       go_ret
       refine ⟨false, rfl, ⟨fun g => by simp at g, fun g => ?_⟩, hB0⟩
       have := (hXs.out (g.1 k hlt)).1
       rw [hr] at this
       simp at this
  · have hkN : k = slN (rdK (za ws p)) (rdS (za ws p)) := by omega
    have hlt' : ¬ ((k : Int) < (slN (rdK (za ws p)) (rdS (za ws p)) : Int)) := by omega
    have HA' : Hid (∀ j, j < slN (rdK (za ws p)) (rdS (za ws p)) -> zdd mk ws fr (rdK (za ws p)) (p + (fs (rdK (za ws p)) + 2 * (j : Int)).toNat)) := fun j hj => hall j (by omega)
    have hB0 := zc B2 hB
    have SR := SA.below hB
    have hsk := zbe (zde hok)
    have hp2 : 1 <= rdS (za ws p) := by omega
    have hp3 : rdS (za ws p) <= 65535 := by omega
    clear hcase KA HA MA SA hM hall hlt hlt'
    subst hkN
    by_cases h1 : rdK (za ws p) = 1
    · have e1 : (rdK (za ws p) == 1) = true := by simpa using h1
      clear hsk
      go_wp2_with (first | (go_at_call 125; refine (zqy _ _ _ _ _ _ _ _ _ _ _ _ _ _ _ _ p _ rfl SR hn hw hp2 hp3 hp).mono ?_; rintro e w4 ⟨rfl, b4⟩))
      go_ret
      exact ⟨_, rfl, ⟨fun g => ⟨HA'.out, fun _ => g, fun e => by omega, fun e => by omega⟩, fun g => g.2.1 h1⟩, zc hB0 b4⟩
    · have e1 : (rdK (za ws p) == 1) = false := by simpa using h1
      by_cases h4 : rdK (za ws p) = 4
      · have e4 : (rdK (za ws p) == 4) = true := by simpa using h4
        clear hsk
        have hx1 := zac hw (p + 1)
        go_wp2_with (first | (go_at_call 126; refine (zs0 _ _ _ _ _ _ _ _ _ _ _ _ _ _ _ _ p 1 _ rfl rfl SR hn (by omega)).mono ?_; rintro e w4 ⟨rfl, b4⟩) | (go_at_call 104; refine (zw _ _ _ _).mono ?_; rintro e w5 ⟨rfl, rfl⟩))
        go_ret
        refine ⟨_, rfl, ⟨fun g => ⟨HA'.out, fun e => by omega, fun _ => ?_, fun e => by omega⟩, fun g => ?_⟩, zc hB0 b4⟩
        · rw [zb5 255 hx1.1 hx1.2 (by omega) (by omega)] at g
          simpa using g
        · rw [zb5 255 hx1.1 hx1.2 (by omega) (by omega)]
          simpa using g.2.2.1 h4
      · have e4 : (rdK (za ws p) == 4) = false := by simpa using h4
        by_cases h6 : rdK (za ws p) = 6
        · have e6 : (rdK (za ws p) == 6) = true := by simpa using h6
          have hp6 : p + 126 < ws.length := by omega
          clear hsk
          go_wp2_with (first | (go_at_call 127; refine (ztb _ _ _ _ _ _ _ _ _ _ _ _ _ _ _ p _ rfl SR hn hw hp6).mono ?_; rintro e w4 ⟨q, rfl, hq, b4⟩))
          go_ret
          exact ⟨_, rfl, ⟨fun g => ⟨HA'.out, fun e => by omega, fun e => by omega, fun _ => hq.1 g⟩, fun g => hq.2 (g.2.2.2 h6)⟩, zc hB0 b4⟩
        · have e6 : (rdK (za ws p) == 6) = false := by simpa using h6
          clear hsk
          go_wp2
          go_ret
          exact ⟨_, rfl, ⟨fun g => ⟨HA'.out, fun e => by omega, fun e => by omega, fun e => by omega⟩, fun g => rfl⟩, hB0⟩
end Go.Proofs.YtmckcnmlhgpnhaaGreat
