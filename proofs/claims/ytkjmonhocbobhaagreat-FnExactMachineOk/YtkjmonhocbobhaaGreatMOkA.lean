/- - -/
import Derived.Test.YtkjmonhocbobhaaGreatMTileD
import Derived.Test.YtkjmonhocbobhaaGreatMObjectA
import Derived.Test.YtkjmonhocbobhaaGreatMTabA
import Derived.Test.YtkjmonhocbobhaaGreatMSerialsA
import Derived.Test.YtkjmonhocbobhaaGreatMNumbersF
namespace Go.Proofs.YtkjmonhocbobhaaGreat
set_option maxRecDepth 20000
open Go.RowKit
set_option linter.unusedVariables false
theorem zjr {x : Int} (h : zah x = true) : zbt x = false := by
 unfold zah at h
 rw [zdz] at h
 unfold HOk at h
 unfold zbt
 apply decide_eq_false
 omega
theorem zbx {ws : List Int} {p : Nat} (h : zah (za ws p) = true) : zh ws p = p := by
 unfold zh
 rw [if_neg (by simp [zjr h])]
theorem zoh (x : Int) : 0 <= fwP x := by
 unfold fwP
 split
 · rename_i h
   simp only [zbt, decide_eq_true_eq] at h
   omega
 · exact Int.le_refl _
theorem zf4 {ws : List Int} {p : Nat} (h : zbt (za ws p) = true) : zh ws p = zq ws p := by
 unfold zh zq
 rw [if_pos h]
 have := zoh (za ws p)
 omega
theorem zft {ws : List Int} {U O : List Nat} {i : Nat} (h : mk2 ws U O i ≠ 0) : i ∈ O \/ i ∈ U := by
 by_cases h1 : i ∈ O
 · exact .inl h1
 · by_cases h2 : i ∈ U
   · exact .inr h2
   · exact absurd (by simp [mk2, h1, h2]) h
theorem zaw.marks {ws : List Int} {sr : Int} {S T : Nat} {cyc : Bool} {F : Nat} {old cp sn : Int} {L O : List Nat} (h : zaw ws sr S T cyc F old cp sn L O) (hT : T <= ws.length) : zf8 (mk2 ws L O) ws := by
 intro i hi hne
 have hL : ∀ p ∈ L, zah (za ws p) = true /\ p < T := fun p hp => by
  obtain ⟨_, h2, s, hs, _⟩ := h.use.mem p hp
  exact ⟨(zc3 hs).1, h2⟩
 rcases zft hne with ho | hl
 · cases cyc with
   | false => rw [h.still rfl] at ho; simp at ho
   | true =>
     obtain ⟨_, _, s, hs, _⟩ := (h.runs rfl).1.mem i ho
     by_cases hr : zah (za ws i) = true
     · rw [zbx hr]; omega
     · rw [Bool.not_eq_true] at hr
       obtain ⟨g1, g2, _⟩ := ze0 hs hr
       rw [zf4 g1]
       have := (hL _ g2).2
       omega
 · rw [zbx (hL i hl).1]; omega
theorem zaw.object {ws : List Int} {sr : Int} {S T : Nat} {cyc : Bool} {F : Nat} {old cp sn : Int} {L O : List Nat} (h : zaw ws sr S T cyc F old cp sn L O) {i : Nat} (hi : mk2 ws L O i = 1 \/ mk2 ws L O i = 2) : zah (za ws i) = true /\ (i ∈ L \/ i ∈ O) := by
 by_cases ho : i ∈ O
 · refine ⟨?_, .inr ho⟩
   cases cyc with
   | false => rw [h.still rfl] at ho; simp at ho
   | true =>
     obtain ⟨_, _, s, hs, _⟩ := (h.runs rfl).1.mem i ho
     by_cases hr : zah (za ws i) = true
     · exact hr
     · rw [Bool.not_eq_true] at hr
       have g := (ze0 hs hr).1
       have hf : zaq ws i = true := by simp [zaq, hr, g]
       exfalso
       simp [mk2, ho, hf] at hi
 · by_cases hl : i ∈ L
   · obtain ⟨_, _, s, hs, _⟩ := h.use.mem i hl
     exact ⟨(zc3 hs).1, .inl hl⟩
   · exfalso
     simp [mk2, ho, hl] at hi
theorem zaw.within {ws : List Int} {sr : Int} {S T : Nat} {cyc : Bool} {F : Nat} {old cp sn : Int} {L O : List Nat} (h : zaw ws sr S T cyc F old cp sn L O) (hT : T <= ws.length) (hO : cyc = true -> old <= ws.length) {i : Nat} (hi : mk2 ws L O i = 1 \/ mk2 ws L O i = 2) : i + (rdS (za ws i)).toNat < ws.length := by
 obtain ⟨hr, hm⟩ := h.object hi
 rcases hm with hl | ho
 · obtain ⟨_, _, s, hs, hle⟩ := h.use.mem i hl
   have := (zc3 hs).2.2
   omega
 · cases cyc with
   | false => rw [h.still rfl] at ho; simp at ho
   | true =>
     obtain ⟨_, _, s, hs, hle⟩ := (h.runs rfl).1.mem i ho
     have := (zh2 hs hr).2
     have := hO rfl
     omega
def zbz (mk : Nat -> Int) (p : Nat) : Prop := mk p = 1 \/ mk p = 2
def zbd (mk : Nat -> Int) (ws : List Int) (cyc : Bool) (sn : Int) (k : Nat) : Prop := ∀ p, p < k -> zbz mk p -> zes mk ws (zb4 mk cyc sn p) p
def zbe (mk : Nat -> Int) (ws : List Int) (p : Nat) : Bool := (decide (mk p = 1) || decide (mk p = 2)) && decide (rdK (za ws p) = 2)
def za0 (mk : Nat -> Int) (ws : List Int) : Nat -> Nat -> Bool
 | 0 => fun _ => false
 | k + 1 => if zbe mk ws k = true then zdb ws (za0 mk ws k) k else za0 mk ws k
def zb6 (mk : Nat -> Int) (ws : List Int) (k : Nat) : Prop := ∀ p, p < k -> zbe mk ws p = true -> zdm ws (za0 mk ws p) p
def zbs (mk : Nat -> Int) (ws : List Int) (y : Nat -> Int) (k : Nat) : Prop := ∀ i, i < k -> vOk (y (2 * i)) (y (2 * i + 1)) = true /\ y (2 * i) ≠ 8 /\ zbk mk ws (y (2 * i)) (y (2 * i + 1)) 1
theorem zfs {ws : List Int} {L O : List Nat} {i : Nat} (hL : i ∈ L) (hO : i ∉ O) : mk2 ws L O i = 1 := by simp [mk2, hL, hO]
theorem zaw.apart_halves {ws : List Int} {sr : Int} {S T : Nat} {cyc : Bool} {F : Nat} {old cp sn : Int} {L O : List Nat} (h : zaw ws sr S T cyc F old cp sn L O) (hd : cyc = true -> T <= F \/ old.toNat <= S) : ∀ p ∈ L, p ∉ O := fun p hp hq => by
 cases cyc with
 | false => rw [h.still rfl] at hq; simp at hq
 | true =>
   have g1 := h.use.mem p hp
   have g2 := (h.runs rfl).1.mem p hq
   have := hd rfl
   omega
theorem zaw.leads {ws : List Int} {sr : Int} {S T : Nat} {cyc : Bool} {F : Nat} {old cp sn : Int} {L O : List Nat} (h : zaw ws sr S T cyc F old cp sn L O) (hd : cyc = true -> T <= F \/ old.toNat <= S) {i : Nat} (hi : mk2 ws L O i ≠ 0) : zbz (mk2 ws L O) (zh ws i).toNat := by
 have hLO := h.apart_halves hd
 rcases zft hi with ho | hl
 · cases cyc with
   | false => rw [h.still rfl] at ho; simp at ho
   | true =>
     obtain ⟨_, _, s, hs, _⟩ := (h.runs rfl).1.mem i ho
     by_cases hr : zah (za ws i) = true
     · rw [zbx hr, Int.toNat_natCast]
       refine .inr ?_
       have hf : zaq ws i = false := by simp [zaq, hr]
       simp [mk2, ho, hf]
     · rw [Bool.not_eq_true] at hr
       obtain ⟨g1, g2, _⟩ := ze0 hs hr
       rw [zf4 g1, Int.toNat_natCast]
       exact .inl (zfs g2 (hLO _ g2))
 · obtain ⟨_, _, s, hs, _⟩ := h.use.mem i hl
   rw [zbx (zc3 hs).1, Int.toNat_natCast]
   exact .inl (zfs hl (hLO _ hl))
structure zd4 (mk : Nat -> Int) (ws : List Int) (cyc : Bool) (sn : Int) : Prop where
 marks : zf8 mk ws
 leads : ∀ i, mk i ≠ 0 -> zbz mk (zh ws i).toNat
 within : ∀ i, zbz mk i -> zah (za ws i) = true /\ i + (rdS (za ws i)).toNat < ws.length
 objs : zbd mk ws cyc sn ws.length
theorem zd4.text {mk : Nat -> Int} {ws : List Int} {cyc : Bool} {sn : Int} (h : zd4 mk ws cyc sn) (hw : zg ws) {q : Nat} (hq : zbz mk q) (h1 : rdK (za ws q) = 1) : zfy ws q := by
 obtain ⟨hr, hin⟩ := h.within q hq
 have ho := (h.objs q (by omega) hq).2.1 h1
 simp only [zc4, decide_eq_true_eq] at ho
 have hx := zaa hw (q + 1)
 refine ⟨ho.1, ?_⟩
 unfold zai
 have := ho.2.1
 omega
theorem zd4.key {mk : Nat -> Int} {ws : List Int} {cyc : Bool} {sn : Int} (h : zd4 mk ws cyc sn) (hw : zg ws) {fr k : Int} {X : Nat} (hX : zcv mk ws fr k X) : zde ws (rvT ws X) (rvN ws X) := by
 obtain ⟨hr, hl, _⟩ := hX
 have hpos := zip hw hr
 have key : isR (rvT ws X) = true -> 0 <= rvN ws X /\ rvN ws X < ws.length /\ mk (rvN ws X).toNat ≠ 0 /\ rdK (za ws (zh ws (rvN ws X).toNat).toNat) = za2 (rvT ws X) := fun g => by
  obtain ⟨a1, a2, a3⟩ := hl g
  exact ⟨by have := hpos g; omega, a1, zcy a2, a3⟩
 refine ⟨fun g => ?_, fun g => ?_⟩
 · obtain ⟨a1, a2, a3, _⟩ := key g
   have := h.marks (rvN ws X).toNat (by omega) a3
   exact ⟨a1, a2, this.1, this.2⟩
 · obtain ⟨a1, a2, a3, a4⟩ := key (by simp [isR, g])
   refine h.text hw (h.leads _ a3) ?_
   rw [a4]; simp [za2, g]
theorem zd4.tab {mk : Nat -> Int} {ws : List Int} {cyc : Bool} {sn : Int} (h : zd4 mk ws cyc sn) (hw : zg ws) {p : Nat} (hp : zbe mk ws p = true) : zir ws p := by
 simp only [zbe, Bool.and_eq_true, Bool.or_eq_true, decide_eq_true_eq] at hp
 obtain ⟨ho, hk⟩ := hp
 obtain ⟨hr, hin⟩ := h.within p ho
 have hs := zd6 hr
 rw [hk] at hs
 have hS : rdS (za ws p) = 3 := by rcases za6 hs with g | g | g | g | g | g <;> omega
 have hsl : slN (rdK (za ws p)) (rdS (za ws p)) = 1 := by rw [hk, hS]; rfl
 have hob := (h.objs p (by omega) ho).1 0 (by omega)
 have hX : p + (fs (rdK (za ws p)) + 2 * ((0 : Nat) : Int)).toNat = p + 2 := by rw [hk]; rfl
 rw [hX] at hob
 refine ⟨by omega, fun h8 => ?_⟩
 have hky := (h.key hw hob).1 (by simp [isR, h8])
 obtain ⟨a1, a2, a3⟩ := hob.2.1 (by simp [isR, h8])
 have hQ : zbz mk (zi ws p) := h.leads _ (zcy a2)
 have hk3 : rdK (za ws (zi ws p)) = 3 := by unfold zi; rw [a3]; simp [za2, h8]
 obtain ⟨hr3, hin3⟩ := h.within _ hQ
 have hs3 := zd6 hr3
 rw [hk3] at hs3
 have hS3 : rdS (za ws (zi ws p)) = 16 \/ rdS (za ws (zi ws p)) = 32 \/ rdS (za ws (zi ws p)) = 64 \/ rdS (za ws (zi ws p)) = 128 \/ rdS (za ws (zi ws p)) = 256 := by
  rw [zey] at hs3; unfold SOk at hs3; omega
 have hcap : 4 * zak ws (zi ws p) = (rdS (za ws (zi ws p))).toNat /\ 0 < zak ws (zi ws p) /\ zak ws (zi ws p) <= 64 := by unfold zak; omega
 have hslot : ∀ i, i < zak ws (zi ws p) -> zcv mk ws (zb4 mk cyc sn (zi ws p)) (rdK (za ws (zi ws p))) (zi ws p + 1 + 4 * i) := fun i hi => by
  have hj : (2 * i : Nat) < slN (rdK (za ws (zi ws p))) (rdS (za ws (zi ws p))) := by
   rw [hk3]
   refine (zfw hs3 (2 * i)).1 ?_
   simp [fs]
   omega
  have := (h.objs _ (by omega) hQ).1 (2 * i) hj
  have e : zi ws p + (fs (rdK (za ws (zi ws p))) + 2 * ((2 * i : Nat) : Int)).toNat = zi ws p + 1 + 4 * i := by
   rw [hk3]; simp [fs]; omega
  rwa [e] at this
 exact ⟨hky.1, hky.2.1, hky.2.2.1, by omega, hcap.2.1, hcap.2.2, ⟨by omega, fun i hi => h.key hw (hslot i hi)⟩, fun i hi => zk8 hw (hslot i hi).1⟩
def zcl (ws : List Int) (sm toh top : Int) (cyc : Bool) (sn old cp sr : Int) (y : Nat -> Int) (rl : Nat) : Prop :=
 ∃ L O, zaw ws sr (toh * sm + 1).toNat top.toNat cyc ((1 - toh) * sm + 1).toNat old cp sn L O /\ (zal (mk2 ws L O) ws ws.length).Nodup /\ zbd (mk2 ws L O) ws cyc sn ws.length /\ zb6 (mk2 ws L O) ws ws.length /\ zbs (mk2 ws L O) ws y rl
theorem zqq {wl : Nat} {sm toh top : Int} {cyc : Bool} {sn old cp sr : Int} {rl : Nat} (h : zch wl sm toh top cyc sn old cp sr rl = true) :
 256 <= sm /\ sm <= 4000 /\ (wl : Int) = 2 * sm /\ 0 <= toh /\ toh <= 1 /\ rl <= 24 /\ toh * sm + 1 <= top /\ top <= (toh + 1) * sm /\ (cyc = true -> (1 - toh) * sm + 1 <= old /\ old <= (2 - toh) * sm) := by
 simp only [zch, zed, zdc, inB, Bool.and_eq_true, decide_eq_true_eq] at h
 obtain ⟨⟨⟨a1, a2, a3, a4, a5, a6, a7, a8⟩, b1, b2⟩, c⟩ := h
 refine ⟨a1, a2, a3, a4, a5, a8, b1, b2, fun hc => ?_⟩
 rw [if_pos hc] at c
 unfold zep zb2 at c
 have c := of_decide_eq_true c
 exact ⟨c.1, c.2.1⟩
theorem zaw.known {ws : List Int} {sr : Int} {S T : Nat} {cyc : Bool} {F : Nat} {old cp sn : Int} {L O : List Nat} (h : zaw ws sr S T cyc F old cp sn L O) (hT : T <= ws.length) (hO : cyc = true -> old <= ws.length) (hd : cyc = true -> T <= F \/ old.toNat <= S) (ho : zbd (mk2 ws L O) ws cyc sn ws.length) : zd4 (mk2 ws L O) ws cyc sn :=
 ⟨h.marks hT, fun i hi => h.leads hd hi, fun i hi => ⟨(h.object hi).1, h.within hT hO hi⟩, ho⟩
theorem zaw.same {ws : List Int} {sr : Int} {S T : Nat} {cyc : Bool} {F : Nat} {old cp sn : Int} {L O L' O' : List Nat} (h : zaw ws sr S T cyc F old cp sn L O) (h' : zaw ws sr S T cyc F old cp sn L' O') : L' = L /\ O' = O := by
 obtain rfl := h'.use.unique h.use
 refine ⟨rfl, ?_⟩
 cases cyc with
 | false => rw [h.still rfl, h'.still rfl]
 | true => exact (h'.runs rfl).1.unique (h.runs rfl).1
theorem zel {mk : Nat -> Int} {ws : List Int} {k : Nat} (h : zb6 mk ws k) (hk : zbe mk ws k = true -> zdm ws (za0 mk ws k) k) : zb6 mk ws (k + 1) := fun p hp ht => by
 by_cases e : p = k
 · subst e; exact hk ht
 · exact h p (by omega) ht
theorem zjq {mk : Nat -> Int} {ws : List Int} {cyc : Bool} {sn : Int} {k : Nat} (h : zbd mk ws cyc sn k) (hk : zbz mk k -> zes mk ws (zb4 mk cyc sn k) k) : zbd mk ws cyc sn (k + 1) := fun p hp ht => by
 by_cases e : p = k
 · subst e; exact hk ht
 · exact h p (by omega) ht
theorem zog {mk : Nat -> Int} {ws : List Int} {y : Nat -> Int} {k : Nat} (h : zbs mk ws y k) (hk : vOk (y (2 * k)) (y (2 * k + 1)) = true /\ y (2 * k) ≠ 8 /\ zbk mk ws (y (2 * k)) (y (2 * k + 1)) 1) : zbs mk ws y (k + 1) := fun p hp => by
 by_cases e : p = k
 · subst e; exact hk
 · exact h p (by omega)
end Go.Proofs.YtkjmonhocbobhaaGreat
