/- - -/
import Derived.Test.YtaapiedminakcaaGreatFTileD
import Derived.Test.YtaapiedminakcaaGreatFObjectA
import Derived.Test.YtaapiedminakcaaGreatFTabA
import Derived.Test.YtaapiedminakcaaGreatFSerialsA
import Derived.Test.YtaapiedminakcaaGreatFNumbersF
namespace Go.Proofs.YtaapiedminakcaaGreat
set_option maxRecDepth 20000
open Go.RowKit
set_option linter.unusedVariables false
theorem zfc {x : Int} (h : zx x = true) : za5 x = false := by
 unfold zx at h
 rw [zd8] at h
 unfold HOk at h
 unfold za5
 apply decide_eq_false
 omega
theorem zcd {ws : List Int} {p : Nat} (h : zx (za ws p) = true) : zi ws p = p := by
 unfold zi
 rw [if_neg (by simp [zfc h])]
theorem zjt (x : Int) : 0 <= fwP x := by
 unfold fwP
 split
 · rename_i h
   simp only [za5, decide_eq_true_eq] at h
   omega
 · exact Int.le_refl _
theorem zgz {ws : List Int} {p : Nat} (h : za5 (za ws p) = true) : zi ws p = zt ws p := by
 unfold zi zt
 rw [if_pos h]
 have := zjt (za ws p)
 omega
theorem zgp {ws : List Int} {U O : List Nat} {i : Nat} (h : mk2 ws U O i ≠ 0) : i ∈ O \/ i ∈ U := by
 by_cases h1 : i ∈ O
 · exact .inl h1
 · by_cases h2 : i ∈ U
   · exact .inr h2
   · exact absurd (by simp [mk2, h1, h2]) h
theorem zax.marks {ws : List Int} {sr : Int} {S T : Nat} {cyc : Bool} {F : Nat} {old cp sn : Int} {L O : List Nat} (h : zax ws sr S T cyc F old cp sn L O) (hT : T <= ws.length) : zg3 (mk2 ws L O) ws := by
 intro i hi hne
 have hL : ∀ p ∈ L, zx (za ws p) = true /\ p < T := fun p hp => by
  obtain ⟨_, h2, s, hs, _⟩ := h.use.mem p hp
  exact ⟨(zc8 hs).1, h2⟩
 rcases zgp hne with ho | hl
 · cases cyc with
   | false => rw [h.still rfl] at ho; simp at ho
   | true =>
     obtain ⟨_, _, s, hs, _⟩ := (h.runs rfl).1.mem i ho
     by_cases hr : zx (za ws i) = true
     · rw [zcd hr]; omega
     · rw [Bool.not_eq_true] at hr
       obtain ⟨g1, g2, _⟩ := zfd hs hr
       rw [zgz g1]
       have := (hL _ g2).2
       omega
 · rw [zcd (hL i hl).1]; omega
theorem zax.object {ws : List Int} {sr : Int} {S T : Nat} {cyc : Bool} {F : Nat} {old cp sn : Int} {L O : List Nat} (h : zax ws sr S T cyc F old cp sn L O) {i : Nat} (hi : mk2 ws L O i = 1 \/ mk2 ws L O i = 2) : zx (za ws i) = true /\ (i ∈ L \/ i ∈ O) := by
 by_cases ho : i ∈ O
 · refine ⟨?_, .inr ho⟩
   cases cyc with
   | false => rw [h.still rfl] at ho; simp at ho
   | true =>
     obtain ⟨_, _, s, hs, _⟩ := (h.runs rfl).1.mem i ho
     by_cases hr : zx (za ws i) = true
     · exact hr
     · rw [Bool.not_eq_true] at hr
       have g := (zfd hs hr).1
       have hf : zak ws i = true := by simp [zak, hr, g]
       exfalso
       simp [mk2, ho, hf] at hi
 · by_cases hl : i ∈ L
   · obtain ⟨_, _, s, hs, _⟩ := h.use.mem i hl
     exact ⟨(zc8 hs).1, .inl hl⟩
   · exfalso
     simp [mk2, ho, hl] at hi
theorem zax.within {ws : List Int} {sr : Int} {S T : Nat} {cyc : Bool} {F : Nat} {old cp sn : Int} {L O : List Nat} (h : zax ws sr S T cyc F old cp sn L O) (hT : T <= ws.length) (hO : cyc = true -> old <= ws.length) {i : Nat} (hi : mk2 ws L O i = 1 \/ mk2 ws L O i = 2) : i + (rdS (za ws i)).toNat < ws.length := by
 obtain ⟨hr, hm⟩ := h.object hi
 rcases hm with hl | ho
 · obtain ⟨_, _, s, hs, hle⟩ := h.use.mem i hl
   have := (zc8 hs).2.2
   omega
 · cases cyc with
   | false => rw [h.still rfl] at ho; simp at ho
   | true =>
     obtain ⟨_, _, s, hs, hle⟩ := (h.runs rfl).1.mem i ho
     have := (zg0 hs hr).2
     have := hO rfl
     omega
def zcg (mk : Nat -> Int) (p : Nat) : Prop := mk p = 1 \/ mk p = 2
def zbt (mk : Nat -> Int) (ws : List Int) (cyc : Bool) (sn : Int) (k : Nat) : Prop := ∀ p, p < k -> zcg mk p -> zfj mk ws (zbw mk cyc sn p) p
def zbu (mk : Nat -> Int) (ws : List Int) (p : Nat) : Bool := (decide (mk p = 1) || decide (mk p = 2)) && decide (rdK (za ws p) = 2)
def za6 (mk : Nat -> Int) (ws : List Int) : Nat -> Nat -> Bool
 | 0 => fun _ => false
 | k + 1 => if zbu mk ws k = true then zdx ws (za6 mk ws k) k else za6 mk ws k
def zck (mk : Nat -> Int) (ws : List Int) (k : Nat) : Prop := ∀ p, p < k -> zbu mk ws p = true -> zeb ws (za6 mk ws p) p
def zb9 (mk : Nat -> Int) (ws : List Int) (y : Nat -> Int) (k : Nat) : Prop := ∀ i, i < k -> vOk (y (2 * i)) (y (2 * i + 1)) = true /\ y (2 * i) ≠ 8 /\ zb0 mk ws (y (2 * i)) (y (2 * i + 1)) 1
theorem zfq {ws : List Int} {L O : List Nat} {i : Nat} (hL : i ∈ L) (hO : i ∉ O) : mk2 ws L O i = 1 := by simp [mk2, hL, hO]
theorem zax.apart_halves {ws : List Int} {sr : Int} {S T : Nat} {cyc : Bool} {F : Nat} {old cp sn : Int} {L O : List Nat} (h : zax ws sr S T cyc F old cp sn L O) (hd : cyc = true -> T <= F \/ old.toNat <= S) : ∀ p ∈ L, p ∉ O := fun p hp hq => by
 cases cyc with
 | false => rw [h.still rfl] at hq; simp at hq
 | true =>
   have g1 := h.use.mem p hp
   have g2 := (h.runs rfl).1.mem p hq
   have := hd rfl
   omega
theorem zax.leads {ws : List Int} {sr : Int} {S T : Nat} {cyc : Bool} {F : Nat} {old cp sn : Int} {L O : List Nat} (h : zax ws sr S T cyc F old cp sn L O) (hd : cyc = true -> T <= F \/ old.toNat <= S) {i : Nat} (hi : mk2 ws L O i ≠ 0) : zcg (mk2 ws L O) (zi ws i).toNat := by
 have hLO := h.apart_halves hd
 rcases zgp hi with ho | hl
 · cases cyc with
   | false => rw [h.still rfl] at ho; simp at ho
   | true =>
     obtain ⟨_, _, s, hs, _⟩ := (h.runs rfl).1.mem i ho
     by_cases hr : zx (za ws i) = true
     · rw [zcd hr, Int.toNat_natCast]
       refine .inr ?_
       have hf : zak ws i = false := by simp [zak, hr]
       simp [mk2, ho, hf]
     · rw [Bool.not_eq_true] at hr
       obtain ⟨g1, g2, _⟩ := zfd hs hr
       rw [zgz g1, Int.toNat_natCast]
       exact .inl (zfq g2 (hLO _ g2))
 · obtain ⟨_, _, s, hs, _⟩ := h.use.mem i hl
   rw [zcd (zc8 hs).1, Int.toNat_natCast]
   exact .inl (zfq hl (hLO _ hl))
structure zes (mk : Nat -> Int) (ws : List Int) (cyc : Bool) (sn : Int) : Prop where
 marks : zg3 mk ws
 leads : ∀ i, mk i ≠ 0 -> zcg mk (zi ws i).toNat
 within : ∀ i, zcg mk i -> zx (za ws i) = true /\ i + (rdS (za ws i)).toNat < ws.length
 objs : zbt mk ws cyc sn ws.length
theorem zes.text {mk : Nat -> Int} {ws : List Int} {cyc : Bool} {sn : Int} (h : zes mk ws cyc sn) (hw : zg ws) {q : Nat} (hq : zcg mk q) (h1 : rdK (za ws q) = 1) : zgs ws q := by
 obtain ⟨hr, hin⟩ := h.within q hq
 have ho := (h.objs q (by omega) hq).2.1 h1
 simp only [zdq, decide_eq_true_eq] at ho
 have hx := zw hw (q + 1)
 refine ⟨ho.1, ?_⟩
 unfold zaf
 have := ho.2.1
 omega
theorem zes.key {mk : Nat -> Int} {ws : List Int} {cyc : Bool} {sn : Int} (h : zes mk ws cyc sn) (hw : zg ws) {fr k : Int} {X : Nat} (hX : zdd mk ws fr k X) : zd2 ws (rvT ws X) (rvN ws X) := by
 obtain ⟨hr, hl, _⟩ := hX
 have hpos := zhs hw hr
 have key : isR (rvT ws X) = true -> 0 <= rvN ws X /\ rvN ws X < ws.length /\ mk (rvN ws X).toNat ≠ 0 /\ rdK (za ws (zi ws (rvN ws X).toNat).toNat) = za7 (rvT ws X) := fun g => by
  obtain ⟨a1, a2, a3⟩ := hl g
  exact ⟨by have := hpos g; omega, a1, zdl a2, a3⟩
 refine ⟨fun g => ?_, fun g => ?_⟩
 · obtain ⟨a1, a2, a3, _⟩ := key g
   have := h.marks (rvN ws X).toNat (by omega) a3
   exact ⟨a1, a2, this.1, this.2⟩
 · obtain ⟨a1, a2, a3, a4⟩ := key (by simp [isR, g])
   refine h.text hw (h.leads _ a3) ?_
   rw [a4]; simp [za7, g]
theorem zes.tab {mk : Nat -> Int} {ws : List Int} {cyc : Bool} {sn : Int} (h : zes mk ws cyc sn) (hw : zg ws) {p : Nat} (hp : zbu mk ws p = true) : zjv ws p := by
 simp only [zbu, Bool.and_eq_true, Bool.or_eq_true, decide_eq_true_eq] at hp
 obtain ⟨ho, hk⟩ := hp
 obtain ⟨hr, hin⟩ := h.within p ho
 have hs := zdw hr
 rw [hk] at hs
 have hS : rdS (za ws p) = 3 := by rcases zbe hs with g | g | g | g | g | g <;> omega
 have hsl : slN (rdK (za ws p)) (rdS (za ws p)) = 1 := by rw [hk, hS]; rfl
 have hob := (h.objs p (by omega) ho).1 0 (by omega)
 have hX : p + (fs (rdK (za ws p)) + 2 * ((0 : Nat) : Int)).toNat = p + 2 := by rw [hk]; rfl
 rw [hX] at hob
 refine ⟨by omega, fun h8 => ?_⟩
 have hky := (h.key hw hob).1 (by simp [isR, h8])
 obtain ⟨a1, a2, a3⟩ := hob.2.1 (by simp [isR, h8])
 have hQ : zcg mk (zk ws p) := h.leads _ (zdl a2)
 have hk3 : rdK (za ws (zk ws p)) = 3 := by unfold zk; rw [a3]; simp [za7, h8]
 obtain ⟨hr3, hin3⟩ := h.within _ hQ
 have hs3 := zdw hr3
 rw [hk3] at hs3
 have hS3 : rdS (za ws (zk ws p)) = 16 \/ rdS (za ws (zk ws p)) = 32 \/ rdS (za ws (zk ws p)) = 64 \/ rdS (za ws (zk ws p)) = 128 \/ rdS (za ws (zk ws p)) = 256 := by
  rw [zfp] at hs3; unfold SOk at hs3; omega
 have hcap : 4 * zaj ws (zk ws p) = (rdS (za ws (zk ws p))).toNat /\ 0 < zaj ws (zk ws p) /\ zaj ws (zk ws p) <= 64 := by unfold zaj; omega
 have hslot : ∀ i, i < zaj ws (zk ws p) -> zdd mk ws (zbw mk cyc sn (zk ws p)) (rdK (za ws (zk ws p))) (zk ws p + 1 + 4 * i) := fun i hi => by
  have hj : (2 * i : Nat) < slN (rdK (za ws (zk ws p))) (rdS (za ws (zk ws p))) := by
   rw [hk3]
   refine (zff hs3 (2 * i)).1 ?_
   simp [fs]
   omega
  have := (h.objs _ (by omega) hQ).1 (2 * i) hj
  have e : zk ws p + (fs (rdK (za ws (zk ws p))) + 2 * ((2 * i : Nat) : Int)).toNat = zk ws p + 1 + 4 * i := by
   rw [hk3]; simp [fs]; omega
  rwa [e] at this
 exact ⟨hky.1, hky.2.1, hky.2.2.1, by omega, hcap.2.1, hcap.2.2, ⟨by omega, fun i hi => h.key hw (hslot i hi)⟩, fun i hi => zmq hw (hslot i hi).1⟩
def zc4 (ws : List Int) (sm toh top : Int) (cyc : Bool) (sn old cp sr : Int) (y : Nat -> Int) (rl : Nat) : Prop :=
 ∃ L O, zax ws sr (toh * sm + 1).toNat top.toNat cyc ((1 - toh) * sm + 1).toNat old cp sn L O /\ (zal (mk2 ws L O) ws ws.length).Nodup /\ zbt (mk2 ws L O) ws cyc sn ws.length /\ zck (mk2 ws L O) ws ws.length /\ zb9 (mk2 ws L O) ws y rl
theorem zen {wl : Nat} {sm toh top : Int} {cyc : Bool} {sn old cp sr : Int} {rl : Nat} (h : zci wl sm toh top cyc sn old cp sr rl = true) :
 256 <= sm /\ sm <= 4000 /\ (wl : Int) = 2 * sm /\ 0 <= toh /\ toh <= 1 /\ rl <= 24 /\ toh * sm + 1 <= top /\ top <= (toh + 1) * sm /\ (cyc = true -> (1 - toh) * sm + 1 <= old /\ old <= (2 - toh) * sm) := by
 simp only [zci, ze5, zdy, inB, Bool.and_eq_true, decide_eq_true_eq] at h
 obtain ⟨⟨⟨a1, a2, a3, a4, a5, a6, a7, a8⟩, b1, b2⟩, c⟩ := h
 refine ⟨a1, a2, a3, a4, a5, a8, b1, b2, fun hc => ?_⟩
 rw [if_pos hc] at c
 unfold zev zb4 at c
 have c := of_decide_eq_true c
 exact ⟨c.1, c.2.1⟩
theorem zax.known {ws : List Int} {sr : Int} {S T : Nat} {cyc : Bool} {F : Nat} {old cp sn : Int} {L O : List Nat} (h : zax ws sr S T cyc F old cp sn L O) (hT : T <= ws.length) (hO : cyc = true -> old <= ws.length) (hd : cyc = true -> T <= F \/ old.toNat <= S) (ho : zbt (mk2 ws L O) ws cyc sn ws.length) : zes (mk2 ws L O) ws cyc sn :=
 ⟨h.marks hT, fun i hi => h.leads hd hi, fun i hi => ⟨(h.object hi).1, h.within hT hO hi⟩, ho⟩
theorem zax.same {ws : List Int} {sr : Int} {S T : Nat} {cyc : Bool} {F : Nat} {old cp sn : Int} {L O L' O' : List Nat} (h : zax ws sr S T cyc F old cp sn L O) (h' : zax ws sr S T cyc F old cp sn L' O') : L' = L /\ O' = O := by
 obtain rfl := h'.use.unique h.use
 refine ⟨rfl, ?_⟩
 cases cyc with
 | false => rw [h.still rfl, h'.still rfl]
 | true => exact (h'.runs rfl).1.unique (h.runs rfl).1
theorem zfb {mk : Nat -> Int} {ws : List Int} {k : Nat} (h : zck mk ws k) (hk : zbu mk ws k = true -> zeb ws (za6 mk ws k) k) : zck mk ws (k + 1) := fun p hp ht => by
 by_cases e : p = k
 · subst e; exact hk ht
 · exact h p (by omega) ht
theorem zk3 {mk : Nat -> Int} {ws : List Int} {cyc : Bool} {sn : Int} {k : Nat} (h : zbt mk ws cyc sn k) (hk : zcg mk k -> zfj mk ws (zbw mk cyc sn k) k) : zbt mk ws cyc sn (k + 1) := fun p hp ht => by
 by_cases e : p = k
 · subst e; exact hk ht
 · exact h p (by omega) ht
theorem zqh {mk : Nat -> Int} {ws : List Int} {y : Nat -> Int} {k : Nat} (h : zb9 mk ws y k) (hk : vOk (y (2 * k)) (y (2 * k + 1)) = true /\ y (2 * k) ≠ 8 /\ zb0 mk ws (y (2 * k)) (y (2 * k + 1)) 1) : zb9 mk ws y (k + 1) := fun p hp => by
 by_cases e : p = k
 · subst e; exact hk
 · exact h p (by omega)
end Go.Proofs.YtaapiedminakcaaGreat
