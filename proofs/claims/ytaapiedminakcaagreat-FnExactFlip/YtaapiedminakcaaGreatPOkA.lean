/- - -/
import Derived.Test.YtaapiedminakcaaGreatPTileD
import Derived.Test.YtaapiedminakcaaGreatPObjectA
import Derived.Test.YtaapiedminakcaaGreatPTabA
import Derived.Test.YtaapiedminakcaaGreatPSerialsA
import Derived.Test.YtaapiedminakcaaGreatPNumbersF
namespace Go.Proofs.YtaapiedminakcaaGreat
set_option maxRecDepth 20000
open Go.RowKit
set_option linter.unusedVariables false
theorem zfa {x : Int} (h : zaa x = true) : za6 x = false := by
 unfold zaa at h
 rw [zd5] at h
 unfold HOk at h
 unfold za6
 apply decide_eq_false
 omega
theorem zca {ws : List Int} {p : Nat} (h : zaa (za ws p) = true) : zk ws p = p := by
 unfold zk
 rw [if_neg (by simp [zfa h])]
theorem zjl (x : Int) : 0 <= fwP x := by
 unfold fwP
 split
 · rename_i h
   simp only [za6, decide_eq_true_eq] at h
   omega
 · exact Int.le_refl _
theorem zgy {ws : List Int} {p : Nat} (h : za6 (za ws p) = true) : zk ws p = zu ws p := by
 unfold zk zu
 rw [if_pos h]
 have := zjl (za ws p)
 omega
theorem zgp {ws : List Int} {U O : List Nat} {i : Nat} (h : mk2 ws U O i ≠ 0) : i ∈ O \/ i ∈ U := by
 by_cases h1 : i ∈ O
 · exact .inl h1
 · by_cases h2 : i ∈ U
   · exact .inr h2
   · exact absurd (by simp [mk2, h1, h2]) h
theorem za2.marks {ws : List Int} {sr : Int} {S T : Nat} {cyc : Bool} {F : Nat} {old cp sn : Int} {L O : List Nat} (h : za2 ws sr S T cyc F old cp sn L O) (hT : T <= ws.length) : zg1 (mk2 ws L O) ws := by
 intro i hi hne
 have hL : ∀ p ∈ L, zaa (za ws p) = true /\ p < T := fun p hp => by
  obtain ⟨_, h2, s, hs, _⟩ := h.use.mem p hp
  exact ⟨(zc4 hs).1, h2⟩
 rcases zgp hne with ho | hl
 · cases cyc with
   | false => rw [h.still rfl] at ho; simp at ho
   | true =>
     obtain ⟨_, _, s, hs, _⟩ := (h.runs rfl).1.mem i ho
     by_cases hr : zaa (za ws i) = true
     · rw [zca hr]; omega
     · rw [Bool.not_eq_true] at hr
       obtain ⟨g1, g2, _⟩ := zfw hs hr
       rw [zgy g1]
       have := (hL _ g2).2
       omega
 · rw [zca (hL i hl).1]; omega
theorem za2.object {ws : List Int} {sr : Int} {S T : Nat} {cyc : Bool} {F : Nat} {old cp sn : Int} {L O : List Nat} (h : za2 ws sr S T cyc F old cp sn L O) {i : Nat} (hi : mk2 ws L O i = 1 \/ mk2 ws L O i = 2) : zaa (za ws i) = true /\ (i ∈ L \/ i ∈ O) := by
 by_cases ho : i ∈ O
 · refine ⟨?_, .inr ho⟩
   cases cyc with
   | false => rw [h.still rfl] at ho; simp at ho
   | true =>
     obtain ⟨_, _, s, hs, _⟩ := (h.runs rfl).1.mem i ho
     by_cases hr : zaa (za ws i) = true
     · exact hr
     · rw [Bool.not_eq_true] at hr
       have g := (zfw hs hr).1
       have hf : zas ws i = true := by simp [zas, hr, g]
       exfalso
       simp [mk2, ho, hf] at hi
 · by_cases hl : i ∈ L
   · obtain ⟨_, _, s, hs, _⟩ := h.use.mem i hl
     exact ⟨(zc4 hs).1, .inl hl⟩
   · exfalso
     simp [mk2, ho, hl] at hi
theorem za2.within {ws : List Int} {sr : Int} {S T : Nat} {cyc : Bool} {F : Nat} {old cp sn : Int} {L O : List Nat} (h : za2 ws sr S T cyc F old cp sn L O) (hT : T <= ws.length) (hO : cyc = true -> old <= ws.length) {i : Nat} (hi : mk2 ws L O i = 1 \/ mk2 ws L O i = 2) : i + (rdS (za ws i)).toNat < ws.length := by
 obtain ⟨hr, hm⟩ := h.object hi
 rcases hm with hl | ho
 · obtain ⟨_, _, s, hs, hle⟩ := h.use.mem i hl
   have := (zc4 hs).2.2
   omega
 · cases cyc with
   | false => rw [h.still rfl] at ho; simp at ho
   | true =>
     obtain ⟨_, _, s, hs, hle⟩ := (h.runs rfl).1.mem i ho
     have := (zix hs hr).2
     have := hO rfl
     omega
def zce (mk : Nat -> Int) (p : Nat) : Prop := mk p = 1 \/ mk p = 2
def zbp (mk : Nat -> Int) (ws : List Int) (cyc : Bool) (sn : Int) (k : Nat) : Prop := ∀ p, p < k -> zce mk p -> zfj mk ws (zb6 mk cyc sn p) p
def zbq (mk : Nat -> Int) (ws : List Int) (p : Nat) : Bool := (decide (mk p = 1) || decide (mk p = 2)) && decide (rdK (za ws p) = 2)
def za7 (mk : Nat -> Int) (ws : List Int) : Nat -> Nat -> Bool
 | 0 => fun _ => false
 | k + 1 => if zbq mk ws k = true then zdt ws (za7 mk ws k) k else za7 mk ws k
def zcg (mk : Nat -> Int) (ws : List Int) (k : Nat) : Prop := ∀ p, p < k -> zbq mk ws p = true -> zd8 ws (za7 mk ws p) p
def zb5 (mk : Nat -> Int) (ws : List Int) (y : Nat -> Int) (k : Nat) : Prop := ∀ i, i < k -> vOk (y (2 * i)) (y (2 * i + 1)) = true /\ y (2 * i) ≠ 8 /\ zbv mk ws (y (2 * i)) (y (2 * i + 1)) 1
theorem zfp {ws : List Int} {L O : List Nat} {i : Nat} (hL : i ∈ L) (hO : i ∉ O) : mk2 ws L O i = 1 := by simp [mk2, hL, hO]
theorem za2.apart_halves {ws : List Int} {sr : Int} {S T : Nat} {cyc : Bool} {F : Nat} {old cp sn : Int} {L O : List Nat} (h : za2 ws sr S T cyc F old cp sn L O) (hd : cyc = true -> T <= F \/ old.toNat <= S) : ∀ p ∈ L, p ∉ O := fun p hp hq => by
 cases cyc with
 | false => rw [h.still rfl] at hq; simp at hq
 | true =>
   have g1 := h.use.mem p hp
   have g2 := (h.runs rfl).1.mem p hq
   have := hd rfl
   omega
theorem za2.leads {ws : List Int} {sr : Int} {S T : Nat} {cyc : Bool} {F : Nat} {old cp sn : Int} {L O : List Nat} (h : za2 ws sr S T cyc F old cp sn L O) (hd : cyc = true -> T <= F \/ old.toNat <= S) {i : Nat} (hi : mk2 ws L O i ≠ 0) : zce (mk2 ws L O) (zk ws i).toNat := by
 have hLO := h.apart_halves hd
 rcases zgp hi with ho | hl
 · cases cyc with
   | false => rw [h.still rfl] at ho; simp at ho
   | true =>
     obtain ⟨_, _, s, hs, _⟩ := (h.runs rfl).1.mem i ho
     by_cases hr : zaa (za ws i) = true
     · rw [zca hr, Int.toNat_natCast]
       refine .inr ?_
       have hf : zas ws i = false := by simp [zas, hr]
       simp [mk2, ho, hf]
     · rw [Bool.not_eq_true] at hr
       obtain ⟨g1, g2, _⟩ := zfw hs hr
       rw [zgy g1, Int.toNat_natCast]
       exact .inl (zfp g2 (hLO _ g2))
 · obtain ⟨_, _, s, hs, _⟩ := h.use.mem i hl
   rw [zca (zc4 hs).1, Int.toNat_natCast]
   exact .inl (zfp hl (hLO _ hl))
structure zes (mk : Nat -> Int) (ws : List Int) (cyc : Bool) (sn : Int) : Prop where
 marks : zg1 mk ws
 leads : ∀ i, mk i ≠ 0 -> zce mk (zk ws i).toNat
 within : ∀ i, zce mk i -> zaa (za ws i) = true /\ i + (rdS (za ws i)).toNat < ws.length
 objs : zbp mk ws cyc sn ws.length
theorem zes.text {mk : Nat -> Int} {ws : List Int} {cyc : Bool} {sn : Int} (h : zes mk ws cyc sn) (hw : zg ws) {q : Nat} (hq : zce mk q) (h1 : rdK (za ws q) = 1) : zgm ws q := by
 obtain ⟨hr, hin⟩ := h.within q hq
 have ho := (h.objs q (by omega) hq).2.1 h1
 simp only [zdm, decide_eq_true_eq] at ho
 have hx := zy hw (q + 1)
 refine ⟨ho.1, ?_⟩
 unfold zah
 have := ho.2.1
 omega
theorem zes.key {mk : Nat -> Int} {ws : List Int} {cyc : Bool} {sn : Int} (h : zes mk ws cyc sn) (hw : zg ws) {fr k : Int} {X : Nat} (hX : zdc mk ws fr k X) : zdy ws (rvT ws X) (rvN ws X) := by
 obtain ⟨hr, hl, _⟩ := hX
 have hpos := zhm hw hr
 have key : isR (rvT ws X) = true -> 0 <= rvN ws X /\ rvN ws X < ws.length /\ mk (rvN ws X).toNat ≠ 0 /\ rdK (za ws (zk ws (rvN ws X).toNat).toNat) = za8 (rvT ws X) := fun g => by
  obtain ⟨a1, a2, a3⟩ := hl g
  exact ⟨by have := hpos g; omega, a1, zdl a2, a3⟩
 refine ⟨fun g => ?_, fun g => ?_⟩
 · obtain ⟨a1, a2, a3, _⟩ := key g
   have := h.marks (rvN ws X).toNat (by omega) a3
   exact ⟨a1, a2, this.1, this.2⟩
 · obtain ⟨a1, a2, a3, a4⟩ := key (by simp [isR, g])
   refine h.text hw (h.leads _ a3) ?_
   rw [a4]; simp [za8, g]
theorem zes.tab {mk : Nat -> Int} {ws : List Int} {cyc : Bool} {sn : Int} (h : zes mk ws cyc sn) (hw : zg ws) {p : Nat} (hp : zbq mk ws p = true) : zjn ws p := by
 simp only [zbq, Bool.and_eq_true, Bool.or_eq_true, decide_eq_true_eq] at hp
 obtain ⟨ho, hk⟩ := hp
 obtain ⟨hr, hin⟩ := h.within p ho
 have hs := zeg hr
 rw [hk] at hs
 have hS : rdS (za ws p) = 3 := by rcases zbe hs with g | g | g | g | g | g <;> omega
 have hsl : slN (rdK (za ws p)) (rdS (za ws p)) = 1 := by rw [hk, hS]; rfl
 have hob := (h.objs p (by omega) ho).1 0 (by omega)
 have hX : p + (fs (rdK (za ws p)) + 2 * ((0 : Nat) : Int)).toNat = p + 2 := by rw [hk]; rfl
 rw [hX] at hob
 refine ⟨by omega, fun h8 => ?_⟩
 have hky := (h.key hw hob).1 (by simp [isR, h8])
 obtain ⟨a1, a2, a3⟩ := hob.2.1 (by simp [isR, h8])
 have hQ : zce mk (zl ws p) := h.leads _ (zdl a2)
 have hk3 : rdK (za ws (zl ws p)) = 3 := by unfold zl; rw [a3]; simp [za8, h8]
 obtain ⟨hr3, hin3⟩ := h.within _ hQ
 have hs3 := zeg hr3
 rw [hk3] at hs3
 have hS3 : rdS (za ws (zl ws p)) = 16 \/ rdS (za ws (zl ws p)) = 32 \/ rdS (za ws (zl ws p)) = 64 \/ rdS (za ws (zl ws p)) = 128 \/ rdS (za ws (zl ws p)) = 256 := by
  rw [zfo] at hs3; unfold SOk at hs3; omega
 have hcap : 4 * zal ws (zl ws p) = (rdS (za ws (zl ws p))).toNat /\ 0 < zal ws (zl ws p) /\ zal ws (zl ws p) <= 64 := by unfold zal; omega
 have hslot : ∀ i, i < zal ws (zl ws p) -> zdc mk ws (zb6 mk cyc sn (zl ws p)) (rdK (za ws (zl ws p))) (zl ws p + 1 + 4 * i) := fun i hi => by
  have hj : (2 * i : Nat) < slN (rdK (za ws (zl ws p))) (rdS (za ws (zl ws p))) := by
   rw [hk3]
   refine (zfy hs3 (2 * i)).1 ?_
   simp [fs]
   omega
  have := (h.objs _ (by omega) hQ).1 (2 * i) hj
  have e : zl ws p + (fs (rdK (za ws (zl ws p))) + 2 * ((2 * i : Nat) : Int)).toNat = zl ws p + 1 + 4 * i := by
   rw [hk3]; simp [fs]; omega
  rwa [e] at this
 exact ⟨hky.1, hky.2.1, hky.2.2.1, by omega, hcap.2.1, hcap.2.2, ⟨by omega, fun i hi => h.key hw (hslot i hi)⟩, fun i hi => zmh hw (hslot i hi).1⟩
def zcy (ws : List Int) (sm toh top : Int) (cyc : Bool) (sn old cp sr : Int) (y : Nat -> Int) (rl : Nat) : Prop :=
 ∃ L O, za2 ws sr (toh * sm + 1).toNat top.toNat cyc ((1 - toh) * sm + 1).toNat old cp sn L O /\ (zan (mk2 ws L O) ws ws.length).Nodup /\ zbp (mk2 ws L O) ws cyc sn ws.length /\ zcg (mk2 ws L O) ws ws.length /\ zb5 (mk2 ws L O) ws y rl
theorem zhk {wl : Nat} {sm toh top : Int} {cyc : Bool} {sn old cp sr : Int} {rl : Nat} (h : zcs wl sm toh top cyc sn old cp sr rl = true) :
 256 <= sm /\ sm <= 4000 /\ (wl : Int) = 2 * sm /\ 0 <= toh /\ toh <= 1 /\ rl <= 24 /\ toh * sm + 1 <= top /\ top <= (toh + 1) * sm /\ (cyc = true -> (1 - toh) * sm + 1 <= old /\ old <= (2 - toh) * sm) := by
 simp only [zcs, ze1, zdu, inB, Bool.and_eq_true, decide_eq_true_eq] at h
 obtain ⟨⟨⟨a1, a2, a3, a4, a5, a6, a7, a8⟩, b1, b2⟩, c⟩ := h
 refine ⟨a1, a2, a3, a4, a5, a8, b1, b2, fun hc => ?_⟩
 rw [if_pos hc] at c
 unfold zfe zcc at c
 have c := of_decide_eq_true c
 exact ⟨c.1, c.2.1⟩
theorem za2.known {ws : List Int} {sr : Int} {S T : Nat} {cyc : Bool} {F : Nat} {old cp sn : Int} {L O : List Nat} (h : za2 ws sr S T cyc F old cp sn L O) (hT : T <= ws.length) (hO : cyc = true -> old <= ws.length) (hd : cyc = true -> T <= F \/ old.toNat <= S) (ho : zbp (mk2 ws L O) ws cyc sn ws.length) : zes (mk2 ws L O) ws cyc sn :=
 ⟨h.marks hT, fun i hi => h.leads hd hi, fun i hi => ⟨(h.object hi).1, h.within hT hO hi⟩, ho⟩
theorem za2.same {ws : List Int} {sr : Int} {S T : Nat} {cyc : Bool} {F : Nat} {old cp sn : Int} {L O L' O' : List Nat} (h : za2 ws sr S T cyc F old cp sn L O) (h' : za2 ws sr S T cyc F old cp sn L' O') : L' = L /\ O' = O := by
 obtain rfl := h'.use.unique h.use
 refine ⟨rfl, ?_⟩
 cases cyc with
 | false => rw [h.still rfl, h'.still rfl]
 | true => exact (h'.runs rfl).1.unique (h.runs rfl).1
theorem ze9 {mk : Nat -> Int} {ws : List Int} {k : Nat} (h : zcg mk ws k) (hk : zbq mk ws k = true -> zd8 ws (za7 mk ws k) k) : zcg mk ws (k + 1) := fun p hp ht => by
 by_cases e : p = k
 · subst e; exact hk ht
 · exact h p (by omega) ht
theorem zkl {mk : Nat -> Int} {ws : List Int} {cyc : Bool} {sn : Int} {k : Nat} (h : zbp mk ws cyc sn k) (hk : zce mk k -> zfj mk ws (zb6 mk cyc sn k) k) : zbp mk ws cyc sn (k + 1) := fun p hp ht => by
 by_cases e : p = k
 · subst e; exact hk ht
 · exact h p (by omega) ht
theorem zpw {mk : Nat -> Int} {ws : List Int} {y : Nat -> Int} {k : Nat} (h : zb5 mk ws y k) (hk : vOk (y (2 * k)) (y (2 * k + 1)) = true /\ y (2 * k) ≠ 8 /\ zbv mk ws (y (2 * k)) (y (2 * k + 1)) 1) : zb5 mk ws y (k + 1) := fun p hp => by
 by_cases e : p = k
 · subst e; exact hk
 · exact h p (by omega)
end Go.Proofs.YtaapiedminakcaaGreat
