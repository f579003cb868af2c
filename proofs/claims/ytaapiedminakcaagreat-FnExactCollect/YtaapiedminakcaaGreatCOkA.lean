/- - -/
import Derived.Test.YtaapiedminakcaaGreatCTileD
import Derived.Test.YtaapiedminakcaaGreatCObjectA
import Derived.Test.YtaapiedminakcaaGreatCTabA
import Derived.Test.YtaapiedminakcaaGreatCSerialsA
import Derived.Test.YtaapiedminakcaaGreatCNumbersF
namespace Go.Proofs.YtaapiedminakcaaGreat
set_option maxRecDepth 20000
open Go.RowKit
set_option linter.unusedVariables false
theorem zfm {x : Int} (h : zab x = true) : za9 x = false := by
 unfold zab at h
 rw [zeh] at h
 unfold HOk at h
 unfold za9
 apply decide_eq_false
 omega
theorem zcl {ws : List Int} {p : Nat} (h : zab (za ws p) = true) : zl ws p = p := by
 unfold zl
 rw [if_neg (by simp [zfm h])]
theorem zka (x : Int) : 0 <= fwP x := by
 unfold fwP
 split
 · rename_i h
   simp only [za9, decide_eq_true_eq] at h
   omega
 · exact Int.le_refl _
theorem zhe {ws : List Int} {p : Nat} (h : za9 (za ws p) = true) : zl ws p = zw ws p := by
 unfold zl zw
 rw [if_pos h]
 have := zka (za ws p)
 omega
theorem zg1 {ws : List Int} {U O : List Nat} {i : Nat} (h : mk2 ws U O i ≠ 0) : i ∈ O \/ i ∈ U := by
 by_cases h1 : i ∈ O
 · exact .inl h1
 · by_cases h2 : i ∈ U
   · exact .inr h2
   · exact absurd (by simp [mk2, h1, h2]) h
theorem za1.marks {ws : List Int} {sr : Int} {S T : Nat} {cyc : Bool} {F : Nat} {old cp sn : Int} {L O : List Nat} (h : za1 ws sr S T cyc F old cp sn L O) (hT : T <= ws.length) : zhi (mk2 ws L O) ws := by
 intro i hi hne
 have hL : ∀ p ∈ L, zab (za ws p) = true /\ p < T := fun p hp => by
  obtain ⟨_, h2, s, hs, _⟩ := h.use.mem p hp
  exact ⟨(zdf hs).1, h2⟩
 rcases zg1 hne with ho | hl
 · cases cyc with
   | false => rw [h.still rfl] at ho; simp at ho
   | true =>
     obtain ⟨_, _, s, hs, _⟩ := (h.runs rfl).1.mem i ho
     by_cases hr : zab (za ws i) = true
     · rw [zcl hr]; omega
     · rw [Bool.not_eq_true] at hr
       obtain ⟨g1, g2, _⟩ := zfn hs hr
       rw [zhe g1]
       have := (hL _ g2).2
       omega
 · rw [zcl (hL i hl).1]; omega
theorem za1.object {ws : List Int} {sr : Int} {S T : Nat} {cyc : Bool} {F : Nat} {old cp sn : Int} {L O : List Nat} (h : za1 ws sr S T cyc F old cp sn L O) {i : Nat} (hi : mk2 ws L O i = 1 \/ mk2 ws L O i = 2) : zab (za ws i) = true /\ (i ∈ L \/ i ∈ O) := by
 by_cases ho : i ∈ O
 · refine ⟨?_, .inr ho⟩
   cases cyc with
   | false => rw [h.still rfl] at ho; simp at ho
   | true =>
     obtain ⟨_, _, s, hs, _⟩ := (h.runs rfl).1.mem i ho
     by_cases hr : zab (za ws i) = true
     · exact hr
     · rw [Bool.not_eq_true] at hr
       have g := (zfn hs hr).1
       have hf : zao ws i = true := by simp [zao, hr, g]
       exfalso
       simp [mk2, ho, hf] at hi
 · by_cases hl : i ∈ L
   · obtain ⟨_, _, s, hs, _⟩ := h.use.mem i hl
     exact ⟨(zdf hs).1, .inl hl⟩
   · exfalso
     simp [mk2, ho, hl] at hi
theorem za1.within {ws : List Int} {sr : Int} {S T : Nat} {cyc : Bool} {F : Nat} {old cp sn : Int} {L O : List Nat} (h : za1 ws sr S T cyc F old cp sn L O) (hT : T <= ws.length) (hO : cyc = true -> old <= ws.length) {i : Nat} (hi : mk2 ws L O i = 1 \/ mk2 ws L O i = 2) : i + (rdS (za ws i)).toNat < ws.length := by
 obtain ⟨hr, hm⟩ := h.object hi
 rcases hm with hl | ho
 · obtain ⟨_, _, s, hs, hle⟩ := h.use.mem i hl
   have := (zdf hs).2.2
   omega
 · cases cyc with
   | false => rw [h.still rfl] at ho; simp at ho
   | true =>
     obtain ⟨_, _, s, hs, hle⟩ := (h.runs rfl).1.mem i ho
     have := (zhf hs hr).2
     have := hO rfl
     omega
def zcp (mk : Nat -> Int) (p : Nat) : Prop := mk p = 1 \/ mk p = 2
def zbz (mk : Nat -> Int) (ws : List Int) (cyc : Bool) (sn : Int) (k : Nat) : Prop := ∀ p, p < k -> zcp mk p -> zfu mk ws (zbr mk cyc sn p) p
def zb0 (mk : Nat -> Int) (ws : List Int) (p : Nat) : Bool := (decide (mk p = 1) || decide (mk p = 2)) && decide (rdK (za ws p) = 2)
def zba (mk : Nat -> Int) (ws : List Int) : Nat -> Nat -> Bool
 | 0 => fun _ => false
 | k + 1 => if zb0 mk ws k = true then zd6 ws (zba mk ws k) k else zba mk ws k
def zcs (mk : Nat -> Int) (ws : List Int) (k : Nat) : Prop := ∀ p, p < k -> zb0 mk ws p = true -> zej ws (zba mk ws p) p
def zcf (mk : Nat -> Int) (ws : List Int) (y : Nat -> Int) (k : Nat) : Prop := ∀ i, i < k -> vOk (y (2 * i)) (y (2 * i + 1)) = true /\ y (2 * i) ≠ 8 /\ zb5 mk ws (y (2 * i)) (y (2 * i + 1)) 1
theorem zfd {ws : List Int} {L O : List Nat} {i : Nat} (hL : i ∈ L) (hO : i ∉ O) : mk2 ws L O i = 1 := by simp [mk2, hL, hO]
theorem za1.apart_halves {ws : List Int} {sr : Int} {S T : Nat} {cyc : Bool} {F : Nat} {old cp sn : Int} {L O : List Nat} (h : za1 ws sr S T cyc F old cp sn L O) (hd : cyc = true -> T <= F \/ old.toNat <= S) : ∀ p ∈ L, p ∉ O := fun p hp hq => by
 cases cyc with
 | false => rw [h.still rfl] at hq; simp at hq
 | true =>
   have g1 := h.use.mem p hp
   have g2 := (h.runs rfl).1.mem p hq
   have := hd rfl
   omega
theorem za1.leads {ws : List Int} {sr : Int} {S T : Nat} {cyc : Bool} {F : Nat} {old cp sn : Int} {L O : List Nat} (h : za1 ws sr S T cyc F old cp sn L O) (hd : cyc = true -> T <= F \/ old.toNat <= S) {i : Nat} (hi : mk2 ws L O i ≠ 0) : zcp (mk2 ws L O) (zl ws i).toNat := by
 have hLO := h.apart_halves hd
 rcases zg1 hi with ho | hl
 · cases cyc with
   | false => rw [h.still rfl] at ho; simp at ho
   | true =>
     obtain ⟨_, _, s, hs, _⟩ := (h.runs rfl).1.mem i ho
     by_cases hr : zab (za ws i) = true
     · rw [zcl hr, Int.toNat_natCast]
       refine .inr ?_
       have hf : zao ws i = false := by simp [zao, hr]
       simp [mk2, ho, hf]
     · rw [Bool.not_eq_true] at hr
       obtain ⟨g1, g2, _⟩ := zfn hs hr
       rw [zhe g1, Int.toNat_natCast]
       exact .inl (zfd g2 (hLO _ g2))
 · obtain ⟨_, _, s, hs, _⟩ := h.use.mem i hl
   rw [zcl (zdf hs).1, Int.toNat_natCast]
   exact .inl (zfd hl (hLO _ hl))
structure ze0 (mk : Nat -> Int) (ws : List Int) (cyc : Bool) (sn : Int) : Prop where
 marks : zhi mk ws
 leads : ∀ i, mk i ≠ 0 -> zcp mk (zl ws i).toNat
 within : ∀ i, zcp mk i -> zab (za ws i) = true /\ i + (rdS (za ws i)).toNat < ws.length
 objs : zbz mk ws cyc sn ws.length
theorem ze0.text {mk : Nat -> Int} {ws : List Int} {cyc : Bool} {sn : Int} (h : ze0 mk ws cyc sn) (hw : zh ws) {q : Nat} (hq : zcp mk q) (h1 : rdK (za ws q) = 1) : zg4 ws q := by
 obtain ⟨hr, hin⟩ := h.within q hq
 have ho := (h.objs q (by omega) hq).2.1 h1
 simp only [zdz, decide_eq_true_eq] at ho
 have hx := zz hw (q + 1)
 refine ⟨ho.1, ?_⟩
 unfold zaj
 have := ho.2.1
 omega
theorem ze0.key {mk : Nat -> Int} {ws : List Int} {cyc : Bool} {sn : Int} (h : ze0 mk ws cyc sn) (hw : zh ws) {fr k : Int} {X : Nat} (hX : zdl mk ws fr k X) : zeb ws (rvT ws X) (rvN ws X) := by
 obtain ⟨hr, hl, _⟩ := hX
 have hpos := zh6 hw hr
 have key : isR (rvT ws X) = true -> 0 <= rvN ws X /\ rvN ws X < ws.length /\ mk (rvN ws X).toNat ≠ 0 /\ rdK (za ws (zl ws (rvN ws X).toNat).toNat) = zbb (rvT ws X) := fun g => by
  obtain ⟨a1, a2, a3⟩ := hl g
  exact ⟨by have := hpos g; omega, a1, zds a2, a3⟩
 refine ⟨fun g => ?_, fun g => ?_⟩
 · obtain ⟨a1, a2, a3, _⟩ := key g
   have := h.marks (rvN ws X).toNat (by omega) a3
   exact ⟨a1, a2, this.1, this.2⟩
 · obtain ⟨a1, a2, a3, a4⟩ := key (by simp [isR, g])
   refine h.text hw (h.leads _ a3) ?_
   rw [a4]; simp [zbb, g]
theorem ze0.tab {mk : Nat -> Int} {ws : List Int} {cyc : Bool} {sn : Int} (h : ze0 mk ws cyc sn) (hw : zh ws) {p : Nat} (hp : zb0 mk ws p = true) : zkc ws p := by
 simp only [zb0, Bool.and_eq_true, Bool.or_eq_true, decide_eq_true_eq] at hp
 obtain ⟨ho, hk⟩ := hp
 obtain ⟨hr, hin⟩ := h.within p ho
 have hs := zd5 hr
 rw [hk] at hs
 have hS : rdS (za ws p) = 3 := by rcases zbk hs with g | g | g | g | g | g <;> omega
 have hsl : slN (rdK (za ws p)) (rdS (za ws p)) = 1 := by rw [hk, hS]; rfl
 have hob := (h.objs p (by omega) ho).1 0 (by omega)
 have hX : p + (fs (rdK (za ws p)) + 2 * ((0 : Nat) : Int)).toNat = p + 2 := by rw [hk]; rfl
 rw [hX] at hob
 refine ⟨by omega, fun h8 => ?_⟩
 have hky := (h.key hw hob).1 (by simp [isR, h8])
 obtain ⟨a1, a2, a3⟩ := hob.2.1 (by simp [isR, h8])
 have hQ : zcp mk (zm ws p) := h.leads _ (zds a2)
 have hk3 : rdK (za ws (zm ws p)) = 3 := by unfold zm; rw [a3]; simp [zbb, h8]
 obtain ⟨hr3, hin3⟩ := h.within _ hQ
 have hs3 := zd5 hr3
 rw [hk3] at hs3
 have hS3 : rdS (za ws (zm ws p)) = 16 \/ rdS (za ws (zm ws p)) = 32 \/ rdS (za ws (zm ws p)) = 64 \/ rdS (za ws (zm ws p)) = 128 \/ rdS (za ws (zm ws p)) = 256 := by
  rw [zf0] at hs3; unfold SOk at hs3; omega
 have hcap : 4 * zam ws (zm ws p) = (rdS (za ws (zm ws p))).toNat /\ 0 < zam ws (zm ws p) /\ zam ws (zm ws p) <= 64 := by unfold zam; omega
 have hslot : ∀ i, i < zam ws (zm ws p) -> zdl mk ws (zbr mk cyc sn (zm ws p)) (rdK (za ws (zm ws p))) (zm ws p + 1 + 4 * i) := fun i hi => by
  have hj : (2 * i : Nat) < slN (rdK (za ws (zm ws p))) (rdS (za ws (zm ws p))) := by
   rw [hk3]
   refine (zfp hs3 (2 * i)).1 ?_
   simp [fs]
   omega
  have := (h.objs _ (by omega) hQ).1 (2 * i) hj
  have e : zm ws p + (fs (rdK (za ws (zm ws p))) + 2 * ((2 * i : Nat) : Int)).toNat = zm ws p + 1 + 4 * i := by
   rw [hk3]; simp [fs]; omega
  rwa [e] at this
 exact ⟨hky.1, hky.2.1, hky.2.2.1, by omega, hcap.2.1, hcap.2.2, ⟨by omega, fun i hi => h.key hw (hslot i hi)⟩, fun i hi => zm3 hw (hslot i hi).1⟩
def zdb (ws : List Int) (sm toh top : Int) (cyc : Bool) (sn old cp sr : Int) (y : Nat -> Int) (rl : Nat) : Prop :=
 ∃ L O, za1 ws sr (toh * sm + 1).toNat top.toNat cyc ((1 - toh) * sm + 1).toNat old cp sn L O /\ (zap (mk2 ws L O) ws ws.length).Nodup /\ zbz (mk2 ws L O) ws cyc sn ws.length /\ zcs (mk2 ws L O) ws ws.length /\ zcf (mk2 ws L O) ws y rl
theorem zec {wl : Nat} {sm toh top : Int} {cyc : Bool} {sn old cp sr : Int} {rl : Nat} (h : zcj wl sm toh top cyc sn old cp sr rl = true) :
 256 <= sm /\ sm <= 4000 /\ (wl : Int) = 2 * sm /\ 0 <= toh /\ toh <= 1 /\ rl <= 24 /\ toh * sm + 1 <= top /\ top <= (toh + 1) * sm /\ (cyc = true -> (1 - toh) * sm + 1 <= old /\ old <= (2 - toh) * sm) := by
 simp only [zcj, zfe, zd7, inB, Bool.and_eq_true, decide_eq_true_eq] at h
 obtain ⟨⟨⟨a1, a2, a3, a4, a5, a6, a7, a8⟩, b1, b2⟩, c⟩ := h
 refine ⟨a1, a2, a3, a4, a5, a8, b1, b2, fun hc => ?_⟩
 rw [if_pos hc] at c
 unfold ze3 zca at c
 have c := of_decide_eq_true c
 exact ⟨c.1, c.2.1⟩
theorem za1.known {ws : List Int} {sr : Int} {S T : Nat} {cyc : Bool} {F : Nat} {old cp sn : Int} {L O : List Nat} (h : za1 ws sr S T cyc F old cp sn L O) (hT : T <= ws.length) (hO : cyc = true -> old <= ws.length) (hd : cyc = true -> T <= F \/ old.toNat <= S) (ho : zbz (mk2 ws L O) ws cyc sn ws.length) : ze0 (mk2 ws L O) ws cyc sn :=
 ⟨h.marks hT, fun i hi => h.leads hd hi, fun i hi => ⟨(h.object hi).1, h.within hT hO hi⟩, ho⟩
theorem za1.same {ws : List Int} {sr : Int} {S T : Nat} {cyc : Bool} {F : Nat} {old cp sn : Int} {L O L' O' : List Nat} (h : za1 ws sr S T cyc F old cp sn L O) (h' : za1 ws sr S T cyc F old cp sn L' O') : L' = L /\ O' = O := by
 obtain rfl := h'.use.unique h.use
 refine ⟨rfl, ?_⟩
 cases cyc with
 | false => rw [h.still rfl, h'.still rfl]
 | true => exact (h'.runs rfl).1.unique (h.runs rfl).1
theorem zfl {mk : Nat -> Int} {ws : List Int} {k : Nat} (h : zcs mk ws k) (hk : zb0 mk ws k = true -> zej ws (zba mk ws k) k) : zcs mk ws (k + 1) := fun p hp ht => by
 by_cases e : p = k
 · subst e; exact hk ht
 · exact h p (by omega) ht
theorem zlf {mk : Nat -> Int} {ws : List Int} {cyc : Bool} {sn : Int} {k : Nat} (h : zbz mk ws cyc sn k) (hk : zcp mk k -> zfu mk ws (zbr mk cyc sn k) k) : zbz mk ws cyc sn (k + 1) := fun p hp ht => by
 by_cases e : p = k
 · subst e; exact hk ht
 · exact h p (by omega) ht
theorem zqu {mk : Nat -> Int} {ws : List Int} {y : Nat -> Int} {k : Nat} (h : zcf mk ws y k) (hk : vOk (y (2 * k)) (y (2 * k + 1)) = true /\ y (2 * k) ≠ 8 /\ zb5 mk ws (y (2 * k)) (y (2 * k + 1)) 1) : zcf mk ws y (k + 1) := fun p hp => by
 by_cases e : p = k
 · subst e; exact hk
 · exact h p (by omega)
end Go.Proofs.YtaapiedminakcaaGreat
