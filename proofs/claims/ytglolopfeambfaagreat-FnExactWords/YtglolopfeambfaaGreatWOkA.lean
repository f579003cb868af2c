/- - -/
import Derived.Test.YtglolopfeambfaaGreatWTileD
import Derived.Test.YtglolopfeambfaaGreatWObjectA
import Derived.Test.YtglolopfeambfaaGreatWTabA
import Derived.Test.YtglolopfeambfaaGreatWSerialsA
import Derived.Test.YtglolopfeambfaaGreatWNumbersF
namespace Go.Proofs.YtglolopfeambfaaGreat
set_option maxRecDepth 20000
open Go.RowKit
set_option linter.unusedVariables false
theorem zkv {x : Int} (h : zah x = true) : zb6 x = false := by
 unfold zah at h
 rw [zej] at h
 unfold HOk at h
 unfold zb6
 apply decide_eq_false
 omega
theorem zbx {ws : List Int} {p : Nat} (h : zah (za ws p) = true) : zh ws p = p := by
 unfold zh
 rw [if_neg (by simp [zkv h])]
theorem zpt (x : Int) : 0 <= fwP x := by
 unfold fwP
 split
 · rename_i h
   simp only [zb6, decide_eq_true_eq] at h
   omega
 · exact Int.le_refl _
theorem zgz {ws : List Int} {p : Nat} (h : zb6 (za ws p) = true) : zh ws p = zr ws p := by
 unfold zh zr
 rw [if_pos h]
 have := zpt (za ws p)
 omega
theorem zgq {ws : List Int} {U O : List Nat} {i : Nat} (h : mk2 ws U O i ≠ 0) : i ∈ O \/ i ∈ U := by
 by_cases h1 : i ∈ O
 · exact .inl h1
 · by_cases h2 : i ∈ U
   · exact .inr h2
   · exact absurd (by simp [mk2, h1, h2]) h
theorem zay.marks {ws : List Int} {sr : Int} {S T : Nat} {cyc : Bool} {F : Nat} {old cpz sn : Int} {L O : List Nat} (h : zay ws sr S T cyc F old cpz sn L O) (hT : T <= ws.length) : zg3 (mk2 ws L O) ws := by
 intro i hi hne
 have hL : ∀ p ∈ L, zah (za ws p) = true /\ p < T := fun p hp => by
  obtain ⟨_, h2, s, hs, _⟩ := h.use.mem p hp
  exact ⟨(zdi hs).1, h2⟩
 rcases zgq hne with ho | hl
 · cases cyc with
   | false => rw [h.still rfl] at ho; simp at ho
   | true =>
     obtain ⟨_, _, s, hs, _⟩ := (h.runs rfl).1.mem i ho
     by_cases hr : zah (za ws i) = true
     · rw [zbx hr]; omega
     · rw [Bool.not_eq_true] at hr
       obtain ⟨g1, g2, _⟩ := zfp hs hr
       rw [zgz g1]
       have := (hL _ g2).2
       omega
 · rw [zbx (hL i hl).1]; omega
theorem zay.object {ws : List Int} {sr : Int} {S T : Nat} {cyc : Bool} {F : Nat} {old cpz sn : Int} {L O : List Nat} (h : zay ws sr S T cyc F old cpz sn L O) {i : Nat} (hi : mk2 ws L O i = 1 \/ mk2 ws L O i = 2) : zah (za ws i) = true /\ (i ∈ L \/ i ∈ O) := by
 by_cases ho : i ∈ O
 · refine ⟨?_, .inr ho⟩
   cases cyc with
   | false => rw [h.still rfl] at ho; simp at ho
   | true =>
     obtain ⟨_, _, s, hs, _⟩ := (h.runs rfl).1.mem i ho
     by_cases hr : zah (za ws i) = true
     · exact hr
     · rw [Bool.not_eq_true] at hr
       have g := (zfp hs hr).1
       have hf : zas ws i = true := by simp [zas, hr, g]
       exfalso
       simp [mk2, ho, hf] at hi
 · by_cases hl : i ∈ L
   · obtain ⟨_, _, s, hs, _⟩ := h.use.mem i hl
     exact ⟨(zdi hs).1, .inl hl⟩
   · exfalso
     simp [mk2, ho, hl] at hi
theorem zay.within {ws : List Int} {sr : Int} {S T : Nat} {cyc : Bool} {F : Nat} {old cpz sn : Int} {L O : List Nat} (h : zay ws sr S T cyc F old cpz sn L O) (hT : T <= ws.length) (hO : cyc = true -> old <= ws.length) {i : Nat} (hi : mk2 ws L O i = 1 \/ mk2 ws L O i = 2) : i + (rdS (za ws i)).toNat < ws.length := by
 obtain ⟨hr, hm⟩ := h.object hi
 rcases hm with hl | ho
 · obtain ⟨_, _, s, hs, hle⟩ := h.use.mem i hl
   have := (zdi hs).2.2
   omega
 · cases cyc with
   | false => rw [h.still rfl] at ho; simp at ho
   | true =>
     obtain ⟨_, _, s, hs, hle⟩ := (h.runs rfl).1.mem i ho
     have := (ziy hs hr).2
     have := hO rfl
     omega
def zbb (mk : Nat -> Int) (p : Nat) : Prop := mk p = 1 \/ mk p = 2
def zbn (mk : Nat -> Int) (ws : List Int) (cyc : Bool) (sn : Int) (k : Nat) : Prop := ∀ p, p < k -> zbb mk p -> zfg mk ws (zcg mk cyc sn p) p
def zbo (mk : Nat -> Int) (ws : List Int) (p : Nat) : Bool := (decide (mk p = 1) || decide (mk p = 2)) && decide (rdK (za ws p) = 2)
def za8 (mk : Nat -> Int) (ws : List Int) : Nat -> Nat -> Bool
 | 0 => fun _ => false
 | k + 1 => if zbo mk ws k = true then zds ws (za8 mk ws k) k else za8 mk ws k
def zci (mk : Nat -> Int) (ws : List Int) (k : Nat) : Prop := ∀ p, p < k -> zbo mk ws p = true -> zd4 ws (za8 mk ws p) p
def zb5 (mk : Nat -> Int) (ws : List Int) (y : Nat -> Int) (k : Nat) : Prop := ∀ i, i < k -> vOk (y (2 * i)) (y (2 * i + 1)) = true /\ y (2 * i) ≠ 8 /\ zbt mk ws (y (2 * i)) (y (2 * i + 1)) 1
theorem zgp {ws : List Int} {L O : List Nat} {i : Nat} (hL : i ∈ L) (hO : i ∉ O) : mk2 ws L O i = 1 := by simp [mk2, hL, hO]
theorem zay.apart_halves {ws : List Int} {sr : Int} {S T : Nat} {cyc : Bool} {F : Nat} {old cpz sn : Int} {L O : List Nat} (h : zay ws sr S T cyc F old cpz sn L O) (hd : cyc = true -> T <= F \/ old.toNat <= S) : ∀ p ∈ L, p ∉ O := fun p hp hq => by
 cases cyc with
 | false => rw [h.still rfl] at hq; simp at hq
 | true =>
   have g1 := h.use.mem p hp
   have g2 := (h.runs rfl).1.mem p hq
   have := hd rfl
   omega
theorem zay.leads {ws : List Int} {sr : Int} {S T : Nat} {cyc : Bool} {F : Nat} {old cpz sn : Int} {L O : List Nat} (h : zay ws sr S T cyc F old cpz sn L O) (hd : cyc = true -> T <= F \/ old.toNat <= S) {i : Nat} (hi : mk2 ws L O i ≠ 0) : zbb (mk2 ws L O) (zh ws i).toNat := by
 have hLO := h.apart_halves hd
 rcases zgq hi with ho | hl
 · cases cyc with
   | false => rw [h.still rfl] at ho; simp at ho
   | true =>
     obtain ⟨_, _, s, hs, _⟩ := (h.runs rfl).1.mem i ho
     by_cases hr : zah (za ws i) = true
     · rw [zbx hr, Int.toNat_natCast]
       refine .inr ?_
       have hf : zas ws i = false := by simp [zas, hr]
       simp [mk2, ho, hf]
     · rw [Bool.not_eq_true] at hr
       obtain ⟨g1, g2, _⟩ := zfp hs hr
       rw [zgz g1, Int.toNat_natCast]
       exact .inl (zgp g2 (hLO _ g2))
 · obtain ⟨_, _, s, hs, _⟩ := h.use.mem i hl
   rw [zbx (zdi hs).1, Int.toNat_natCast]
   exact .inl (zgp hl (hLO _ hl))
structure zbw (mk : Nat -> Int) (ws : List Int) (cyc : Bool) (sn : Int) : Prop where
 marks : zg3 mk ws
 leads : ∀ i, mk i ≠ 0 -> zbb mk (zh ws i).toNat
 within : ∀ i, zbb mk i -> zah (za ws i) = true /\ i + (rdS (za ws i)).toNat < ws.length
 objs : zbn mk ws cyc sn ws.length
theorem zbw.text {mk : Nat -> Int} {ws : List Int} {cyc : Bool} {sn : Int} (h : zbw mk ws cyc sn) (hw : ze ws) {q : Nat} (hq : zbb mk q) (h1 : rdK (za ws q) = 1) : zfu ws q := by
 obtain ⟨hr, hin⟩ := h.within q hq
 have ho := (h.objs q (by omega) hq).2.1 h1
 simp only [zdk, decide_eq_true_eq] at ho
 have hx := zaa hw (q + 1)
 refine ⟨ho.1, ?_⟩
 unfold zaj
 have := ho.2.1
 omega
theorem zbw.key {mk : Nat -> Int} {ws : List Int} {cyc : Bool} {sn : Int} (h : zbw mk ws cyc sn) (hw : ze ws) {fr k : Int} {X : Nat} (hX : zc8 mk ws fr k X) : zdx ws (rvT ws X) (rvN ws X) := by
 obtain ⟨hr, hl, _⟩ := hX
 have hpos := zgt hw hr
 have key : isR (rvT ws X) = true -> 0 <= rvN ws X /\ rvN ws X < ws.length /\ mk (rvN ws X).toNat ≠ 0 /\ rdK (za ws (zh ws (rvN ws X).toNat).toNat) = zaz (rvT ws X) := fun g => by
  obtain ⟨a1, a2, a3⟩ := hl g
  exact ⟨by have := hpos g; omega, a1, zb2 a2, a3⟩
 refine ⟨fun g => ?_, fun g => ?_⟩
 · obtain ⟨a1, a2, a3, _⟩ := key g
   have := h.marks (rvN ws X).toNat (by omega) a3
   exact ⟨a1, a2, this.1, this.2⟩
 · obtain ⟨a1, a2, a3, a4⟩ := key (by simp [isR, g])
   refine h.text hw (h.leads _ a3) ?_
   rw [a4]; simp [zaz, g]
theorem zbw.tab {mk : Nat -> Int} {ws : List Int} {cyc : Bool} {sn : Int} (h : zbw mk ws cyc sn) (hw : ze ws) {p : Nat} (hp : zbo mk ws p = true) : zjo ws p := by
 simp only [zbo, Bool.and_eq_true, Bool.or_eq_true, decide_eq_true_eq] at hp
 obtain ⟨ho, hk⟩ := hp
 obtain ⟨hr, hin⟩ := h.within p ho
 have hs := zc9 hr
 rw [hk] at hs
 have hS : rdS (za ws p) = 3 := by rcases zba hs with g | g | g | g | g | g <;> omega
 have hsl : slN (rdK (za ws p)) (rdS (za ws p)) = 1 := by rw [hk, hS]; rfl
 have hob := (h.objs p (by omega) ho).1 0 (by omega)
 have hX : p + (fs (rdK (za ws p)) + 2 * ((0 : Nat) : Int)).toNat = p + 2 := by rw [hk]; rfl
 rw [hX] at hob
 refine ⟨by omega, fun h8 => ?_⟩
 have hky := (h.key hw hob).1 (by simp [isR, h8])
 obtain ⟨a1, a2, a3⟩ := hob.2.1 (by simp [isR, h8])
 have hQ : zbb mk (zi ws p) := h.leads _ (zb2 a2)
 have hk3 : rdK (za ws (zi ws p)) = 3 := by unfold zi; rw [a3]; simp [zaz, h8]
 obtain ⟨hr3, hin3⟩ := h.within _ hQ
 have hs3 := zc9 hr3
 rw [hk3] at hs3
 have hS3 : rdS (za ws (zi ws p)) = 16 \/ rdS (za ws (zi ws p)) = 32 \/ rdS (za ws (zi ws p)) = 64 \/ rdS (za ws (zi ws p)) = 128 \/ rdS (za ws (zi ws p)) = 256 := by
  rw [zfn] at hs3; unfold SOk at hs3; omega
 have hcap : 4 * zal ws (zi ws p) = (rdS (za ws (zi ws p))).toNat /\ 0 < zal ws (zi ws p) /\ zal ws (zi ws p) <= 64 := by unfold zal; omega
 have hslot : ∀ i, i < zal ws (zi ws p) -> zc8 mk ws (zcg mk cyc sn (zi ws p)) (rdK (za ws (zi ws p))) (zi ws p + 1 + 4 * i) := fun i hi => by
  have hj : (2 * i : Nat) < slN (rdK (za ws (zi ws p))) (rdS (za ws (zi ws p))) := by
   rw [hk3]
   refine (ze9 hs3 (2 * i)).1 ?_
   simp [fs]
   omega
  have := (h.objs _ (by omega) hQ).1 (2 * i) hj
  have e : zi ws p + (fs (rdK (za ws (zi ws p))) + 2 * ((2 * i : Nat) : Int)).toNat = zi ws p + 1 + 4 * i := by
   rw [hk3]; simp [fs]; omega
  rwa [e] at this
 exact ⟨hky.1, hky.2.1, hky.2.2.1, by omega, hcap.2.1, hcap.2.2, ⟨by omega, fun i hi => h.key hw (hslot i hi)⟩, fun i hi => zme hw (hslot i hi).1⟩
def zcy (ws : List Int) (smz toh top : Int) (cyc : Bool) (sn old cpz sr : Int) (y : Nat -> Int) (rl : Nat) : Prop :=
 ∃ L O, zay ws sr (toh * smz + 1).toNat top.toNat cyc ((1 - toh) * smz + 1).toNat old cpz sn L O /\ (zam (mk2 ws L O) ws ws.length).Nodup /\ zbn (mk2 ws L O) ws cyc sn ws.length /\ zci (mk2 ws L O) ws ws.length /\ zb5 (mk2 ws L O) ws y rl
theorem zdc {wl : Nat} {smz toh top : Int} {cyc : Bool} {sn old cpz sr : Int} {rl : Nat} (h : zcu wl smz toh top cyc sn old cpz sr rl = true) :
 256 <= smz /\ smz <= 4000 /\ (wl : Int) = 2 * smz /\ 0 <= toh /\ toh <= 1 /\ rl <= 24 /\ toh * smz + 1 <= top /\ top <= (toh + 1) * smz /\ (cyc = true -> (1 - toh) * smz + 1 <= old /\ old <= (2 - toh) * smz) := by
 simp only [zcu, zew, zdu, inB, Bool.and_eq_true, decide_eq_true_eq] at h
 obtain ⟨⟨⟨a1, a2, a3, a4, a5, a6, a7, a8⟩, b1, b2⟩, c⟩ := h
 refine ⟨a1, a2, a3, a4, a5, a8, b1, b2, fun hc => ?_⟩
 rw [if_pos hc] at c
 unfold zfc zce at c
 have c := of_decide_eq_true c
 exact ⟨c.1, c.2.1⟩
theorem zay.known {ws : List Int} {sr : Int} {S T : Nat} {cyc : Bool} {F : Nat} {old cpz sn : Int} {L O : List Nat} (h : zay ws sr S T cyc F old cpz sn L O) (hT : T <= ws.length) (hO : cyc = true -> old <= ws.length) (hd : cyc = true -> T <= F \/ old.toNat <= S) (ho : zbn (mk2 ws L O) ws cyc sn ws.length) : zbw (mk2 ws L O) ws cyc sn :=
 ⟨h.marks hT, fun i hi => h.leads hd hi, fun i hi => ⟨(h.object hi).1, h.within hT hO hi⟩, ho⟩
theorem zay.same {ws : List Int} {sr : Int} {S T : Nat} {cyc : Bool} {F : Nat} {old cpz sn : Int} {L O L' O' : List Nat} (h : zay ws sr S T cyc F old cpz sn L O) (h' : zay ws sr S T cyc F old cpz sn L' O') : L' = L /\ O' = O := by
 obtain rfl := h'.use.unique h.use
 refine ⟨rfl, ?_⟩
 cases cyc with
 | false => rw [h.still rfl, h'.still rfl]
 | true => exact (h'.runs rfl).1.unique (h.runs rfl).1
theorem ze6 {mk : Nat -> Int} {ws : List Int} {k : Nat} (h : zci mk ws k) (hk : zbo mk ws k = true -> zd4 ws (za8 mk ws k) k) : zci mk ws (k + 1) := fun p hp ht => by
 by_cases e : p = k
 · subst e; exact hk ht
 · exact h p (by omega) ht
theorem zku {mk : Nat -> Int} {ws : List Int} {cyc : Bool} {sn : Int} {k : Nat} (h : zbn mk ws cyc sn k) (hk : zbb mk k -> zfg mk ws (zcg mk cyc sn k) k) : zbn mk ws cyc sn (k + 1) := fun p hp ht => by
 by_cases e : p = k
 · subst e; exact hk ht
 · exact h p (by omega) ht
theorem zps {mk : Nat -> Int} {ws : List Int} {y : Nat -> Int} {k : Nat} (h : zb5 mk ws y k) (hk : vOk (y (2 * k)) (y (2 * k + 1)) = true /\ y (2 * k) ≠ 8 /\ zbt mk ws (y (2 * k)) (y (2 * k + 1)) 1) : zb5 mk ws y (k + 1) := fun p hp => by
 by_cases e : p = k
 · subst e; exact hk
 · exact h p (by omega)
end Go.Proofs.YtglolopfeambfaaGreat
