/- - -/
import Derived.Test.YtdnhohndppmgcaaGreatDoorLTileD
import Derived.Test.YtdnhohndppmgcaaGreatDoorLObjectA
import Derived.Test.YtdnhohndppmgcaaGreatDoorLTabA
import Derived.Test.YtdnhohndppmgcaaGreatDoorLSerialsA
import Derived.Test.YtdnhohndppmgcaaGreatDoorLNumbersF
namespace Go.Proofs.YtdnhohndppmgcaaGreatDoor
set_option maxRecDepth 20000
open Go.RowKit
set_option linter.unusedVariables false
theorem zfi {x : Int} (h : zw x = true) : zbe x = false := by
 unfold zw at h
 rw [zed] at h
 unfold HOk at h
 unfold zbe
 apply decide_eq_false
 omega
theorem zb6 {ws : List Int} {p : Nat} (h : zw (za ws p) = true) : zi ws p = p := by
 unfold zi
 rw [if_neg (by simp [zfi h])]
theorem zju (x : Int) : 0 <= fwP x := by
 unfold fwP
 split
 · rename_i h
   simp only [zbe, decide_eq_true_eq] at h
   omega
 · exact Int.le_refl _
theorem zg5 {ws : List Int} {p : Nat} (h : zbe (za ws p) = true) : zi ws p = zt ws p := by
 unfold zi zt
 rw [if_pos h]
 have := zju (za ws p)
 omega
theorem zgt {ws : List Int} {U O : List Nat} {i : Nat} (h : mk2 ws U O i ≠ 0) : i ∈ O \/ i ∈ U := by
 by_cases h1 : i ∈ O
 · exact .inl h1
 · by_cases h2 : i ∈ U
   · exact .inr h2
   · exact absurd (by simp [mk2, h1, h2]) h
theorem za6.marks {ws : List Int} {sr : Int} {S T : Nat} {cyc : Bool} {F : Nat} {old cp sn : Int} {L O : List Nat} (h : za6 ws sr S T cyc F old cp sn L O) (hT : T <= ws.length) : zg9 (mk2 ws L O) ws := by
 intro i hi hne
 have hL : ∀ p ∈ L, zw (za ws p) = true /\ p < T := fun p hp => by
  obtain ⟨_, h2, s, hs, _⟩ := h.use.mem p hp
  exact ⟨(zdb hs).1, h2⟩
 rcases zgt hne with ho | hl
 · cases cyc with
   | false => rw [h.still rfl] at ho; simp at ho
   | true =>
     obtain ⟨_, _, s, hs, _⟩ := (h.runs rfl).1.mem i ho
     by_cases hr : zw (za ws i) = true
     · rw [zb6 hr]; omega
     · rw [Bool.not_eq_true] at hr
       obtain ⟨g1, g2, _⟩ := zfj hs hr
       rw [zg5 g1]
       have := (hL _ g2).2
       omega
 · rw [zb6 (hL i hl).1]; omega
theorem za6.object {ws : List Int} {sr : Int} {S T : Nat} {cyc : Bool} {F : Nat} {old cp sn : Int} {L O : List Nat} (h : za6 ws sr S T cyc F old cp sn L O) {i : Nat} (hi : mk2 ws L O i = 1 \/ mk2 ws L O i = 2) : zw (za ws i) = true /\ (i ∈ L \/ i ∈ O) := by
 by_cases ho : i ∈ O
 · refine ⟨?_, .inr ho⟩
   cases cyc with
   | false => rw [h.still rfl] at ho; simp at ho
   | true =>
     obtain ⟨_, _, s, hs, _⟩ := (h.runs rfl).1.mem i ho
     by_cases hr : zw (za ws i) = true
     · exact hr
     · rw [Bool.not_eq_true] at hr
       have g := (zfj hs hr).1
       have hf : zar ws i = true := by simp [zar, hr, g]
       exfalso
       simp [mk2, ho, hf] at hi
 · by_cases hl : i ∈ L
   · obtain ⟨_, _, s, hs, _⟩ := h.use.mem i hl
     exact ⟨(zdb hs).1, .inl hl⟩
   · exfalso
     simp [mk2, ho, hl] at hi
theorem za6.within {ws : List Int} {sr : Int} {S T : Nat} {cyc : Bool} {F : Nat} {old cp sn : Int} {L O : List Nat} (h : za6 ws sr S T cyc F old cp sn L O) (hT : T <= ws.length) (hO : cyc = true -> old <= ws.length) {i : Nat} (hi : mk2 ws L O i = 1 \/ mk2 ws L O i = 2) : i + (rdS (za ws i)).toNat < ws.length := by
 obtain ⟨hr, hm⟩ := h.object hi
 rcases hm with hl | ho
 · obtain ⟨_, _, s, hs, hle⟩ := h.use.mem i hl
   have := (zdb hs).2.2
   omega
 · cases cyc with
   | false => rw [h.still rfl] at ho; simp at ho
   | true =>
     obtain ⟨_, _, s, hs, hle⟩ := (h.runs rfl).1.mem i ho
     have := (zg6 hs hr).2
     have := hO rfl
     omega
def zck (mk : Nat -> Int) (p : Nat) : Prop := mk p = 1 \/ mk p = 2
def zby (mk : Nat -> Int) (ws : List Int) (cyc : Bool) (sn : Int) (k : Nat) : Prop := ∀ p, p < k -> zck mk p -> zfs mk ws (zbt mk cyc sn p) p
def zbz (mk : Nat -> Int) (ws : List Int) (p : Nat) : Bool := (decide (mk p = 1) || decide (mk p = 2)) && decide (rdK (za ws p) = 2)
def zbd (mk : Nat -> Int) (ws : List Int) : Nat -> Nat -> Bool
 | 0 => fun _ => false
 | k + 1 => if zbz mk ws k = true then zd1 ws (zbd mk ws k) k else zbd mk ws k
def zcr (mk : Nat -> Int) (ws : List Int) (k : Nat) : Prop := ∀ p, p < k -> zbz mk ws p = true -> zeg ws (zbd mk ws p) p
def zcf (mk : Nat -> Int) (ws : List Int) (y : Nat -> Int) (k : Nat) : Prop := ∀ i, i < k -> vOk (y (2 * i)) (y (2 * i + 1)) = true /\ y (2 * i) ≠ 8 /\ zb4 mk ws (y (2 * i)) (y (2 * i + 1)) 1
theorem zfa {ws : List Int} {L O : List Nat} {i : Nat} (hL : i ∈ L) (hO : i ∉ O) : mk2 ws L O i = 1 := by simp [mk2, hL, hO]
theorem za6.apart_halves {ws : List Int} {sr : Int} {S T : Nat} {cyc : Bool} {F : Nat} {old cp sn : Int} {L O : List Nat} (h : za6 ws sr S T cyc F old cp sn L O) (hd : cyc = true -> T <= F \/ old.toNat <= S) : ∀ p ∈ L, p ∉ O := fun p hp hq => by
 cases cyc with
 | false => rw [h.still rfl] at hq; simp at hq
 | true =>
   have g1 := h.use.mem p hp
   have g2 := (h.runs rfl).1.mem p hq
   have := hd rfl
   omega
theorem za6.leads {ws : List Int} {sr : Int} {S T : Nat} {cyc : Bool} {F : Nat} {old cp sn : Int} {L O : List Nat} (h : za6 ws sr S T cyc F old cp sn L O) (hd : cyc = true -> T <= F \/ old.toNat <= S) {i : Nat} (hi : mk2 ws L O i ≠ 0) : zck (mk2 ws L O) (zi ws i).toNat := by
 have hLO := h.apart_halves hd
 rcases zgt hi with ho | hl
 · cases cyc with
   | false => rw [h.still rfl] at ho; simp at ho
   | true =>
     obtain ⟨_, _, s, hs, _⟩ := (h.runs rfl).1.mem i ho
     by_cases hr : zw (za ws i) = true
     · rw [zb6 hr, Int.toNat_natCast]
       refine .inr ?_
       have hf : zar ws i = false := by simp [zar, hr]
       simp [mk2, ho, hf]
     · rw [Bool.not_eq_true] at hr
       obtain ⟨g1, g2, _⟩ := zfj hs hr
       rw [zg5 g1, Int.toNat_natCast]
       exact .inl (zfa g2 (hLO _ g2))
 · obtain ⟨_, _, s, hs, _⟩ := h.use.mem i hl
   rw [zb6 (zdb hs).1, Int.toNat_natCast]
   exact .inl (zfa hl (hLO _ hl))
structure zew (mk : Nat -> Int) (ws : List Int) (cyc : Bool) (sn : Int) : Prop where
 marks : zg9 mk ws
 leads : ∀ i, mk i ≠ 0 -> zck mk (zi ws i).toNat
 within : ∀ i, zck mk i -> zw (za ws i) = true /\ i + (rdS (za ws i)).toNat < ws.length
 objs : zby mk ws cyc sn ws.length
theorem zew.text {mk : Nat -> Int} {ws : List Int} {cyc : Bool} {sn : Int} (h : zew mk ws cyc sn) (hw : zg ws) {q : Nat} (hq : zck mk q) (h1 : rdK (za ws q) = 1) : zf5 ws q := by
 obtain ⟨hr, hin⟩ := h.within q hq
 have ho := (h.objs q (by omega) hq).2.1 h1
 simp only [zds, decide_eq_true_eq] at ho
 have hx := zv hw (q + 1)
 refine ⟨ho.1, ?_⟩
 unfold zaj
 have := ho.2.1
 omega
theorem zew.key {mk : Nat -> Int} {ws : List Int} {cyc : Bool} {sn : Int} (h : zew mk ws cyc sn) (hw : zg ws) {fr k : Int} {X : Nat} (hX : zdj mk ws fr k X) : zd6 ws (rvT ws X) (rvN ws X) := by
 obtain ⟨hr, hl, _⟩ := hX
 have hpos := zgv hw hr
 have key : isR (rvT ws X) = true -> 0 <= rvN ws X /\ rvN ws X < ws.length /\ mk (rvN ws X).toNat ≠ 0 /\ rdK (za ws (zi ws (rvN ws X).toNat).toNat) = za5 (rvT ws X) := fun g => by
  obtain ⟨a1, a2, a3⟩ := hl g
  exact ⟨by have := hpos g; omega, a1, zdn a2, a3⟩
 refine ⟨fun g => ?_, fun g => ?_⟩
 · obtain ⟨a1, a2, a3, _⟩ := key g
   have := h.marks (rvN ws X).toNat (by omega) a3
   exact ⟨a1, a2, this.1, this.2⟩
 · obtain ⟨a1, a2, a3, a4⟩ := key (by simp [isR, g])
   refine h.text hw (h.leads _ a3) ?_
   rw [a4]; simp [za5, g]
theorem zew.tab {mk : Nat -> Int} {ws : List Int} {cyc : Bool} {sn : Int} (h : zew mk ws cyc sn) (hw : zg ws) {p : Nat} (hp : zbz mk ws p = true) : zj2 ws p := by
 simp only [zbz, Bool.and_eq_true, Bool.or_eq_true, decide_eq_true_eq] at hp
 obtain ⟨ho, hk⟩ := hp
 obtain ⟨hr, hin⟩ := h.within p ho
 have hs := zc0 hr
 rw [hk] at hs
 have hS : rdS (za ws p) = 3 := by rcases zbg hs with g | g | g | g | g | g <;> omega
 have hsl : slN (rdK (za ws p)) (rdS (za ws p)) = 1 := by rw [hk, hS]; rfl
 have hob := (h.objs p (by omega) ho).1 0 (by omega)
 have hX : p + (fs (rdK (za ws p)) + 2 * ((0 : Nat) : Int)).toNat = p + 2 := by rw [hk]; rfl
 rw [hX] at hob
 refine ⟨by omega, fun h8 => ?_⟩
 have hky := (h.key hw hob).1 (by simp [isR, h8])
 obtain ⟨a1, a2, a3⟩ := hob.2.1 (by simp [isR, h8])
 have hQ : zck mk (zl ws p) := h.leads _ (zdn a2)
 have hk3 : rdK (za ws (zl ws p)) = 3 := by unfold zl; rw [a3]; simp [za5, h8]
 obtain ⟨hr3, hin3⟩ := h.within _ hQ
 have hs3 := zc0 hr3
 rw [hk3] at hs3
 have hS3 : rdS (za ws (zl ws p)) = 16 \/ rdS (za ws (zl ws p)) = 32 \/ rdS (za ws (zl ws p)) = 64 \/ rdS (za ws (zl ws p)) = 128 \/ rdS (za ws (zl ws p)) = 256 := by
  rw [zfx] at hs3; unfold SOk at hs3; omega
 have hcap : 4 * zap ws (zl ws p) = (rdS (za ws (zl ws p))).toNat /\ 0 < zap ws (zl ws p) /\ zap ws (zl ws p) <= 64 := by unfold zap; omega
 have hslot : ∀ i, i < zap ws (zl ws p) -> zdj mk ws (zbt mk cyc sn (zl ws p)) (rdK (za ws (zl ws p))) (zl ws p + 1 + 4 * i) := fun i hi => by
  have hj : (2 * i : Nat) < slN (rdK (za ws (zl ws p))) (rdS (za ws (zl ws p))) := by
   rw [hk3]
   refine (zez hs3 (2 * i)).1 ?_
   simp [fs]
   omega
  have := (h.objs _ (by omega) hQ).1 (2 * i) hj
  have e : zl ws p + (fs (rdK (za ws (zl ws p))) + 2 * ((2 * i : Nat) : Int)).toNat = zl ws p + 1 + 4 * i := by
   rw [hk3]; simp [fs]; omega
  rwa [e] at this
 exact ⟨hky.1, hky.2.1, hky.2.2.1, by omega, hcap.2.1, hcap.2.2, ⟨by omega, fun i hi => h.key hw (hslot i hi)⟩, fun i hi => zmt hw (hslot i hi).1⟩
def zc3 (ws : List Int) (sm toh top : Int) (cyc : Bool) (sn old cp sr : Int) (y : Nat -> Int) (rl : Nat) : Prop :=
 ∃ L O, za6 ws sr (toh * sm + 1).toNat top.toNat cyc ((1 - toh) * sm + 1).toNat old cp sn L O /\ (zas (mk2 ws L O) ws ws.length).Nodup /\ zby (mk2 ws L O) ws cyc sn ws.length /\ zcr (mk2 ws L O) ws ws.length /\ zcf (mk2 ws L O) ws y rl
theorem zc4 {wl : Nat} {sm toh top : Int} {cyc : Bool} {sn old cp sr : Int} {rl : Nat} (h : zcl wl sm toh top cyc sn old cp sr rl = true) :
 256 <= sm /\ sm <= 4000 /\ (wl : Int) = 2 * sm /\ 0 <= toh /\ toh <= 1 /\ rl <= 24 /\ toh * sm + 1 <= top /\ top <= (toh + 1) * sm /\ (cyc = true -> (1 - toh) * sm + 1 <= old /\ old <= (2 - toh) * sm) := by
 simp only [zcl, zfb, zd4, inB, Bool.and_eq_true, decide_eq_true_eq] at h
 obtain ⟨⟨⟨a1, a2, a3, a4, a5, a6, a7, a8⟩, b1, b2⟩, c⟩ := h
 refine ⟨a1, a2, a3, a4, a5, a8, b1, b2, fun hc => ?_⟩
 rw [if_pos hc] at c
 unfold ze0 zca at c
 have c := of_decide_eq_true c
 exact ⟨c.1, c.2.1⟩
theorem za6.known {ws : List Int} {sr : Int} {S T : Nat} {cyc : Bool} {F : Nat} {old cp sn : Int} {L O : List Nat} (h : za6 ws sr S T cyc F old cp sn L O) (hT : T <= ws.length) (hO : cyc = true -> old <= ws.length) (hd : cyc = true -> T <= F \/ old.toNat <= S) (ho : zby (mk2 ws L O) ws cyc sn ws.length) : zew (mk2 ws L O) ws cyc sn :=
 ⟨h.marks hT, fun i hi => h.leads hd hi, fun i hi => ⟨(h.object hi).1, h.within hT hO hi⟩, ho⟩
theorem za6.same {ws : List Int} {sr : Int} {S T : Nat} {cyc : Bool} {F : Nat} {old cp sn : Int} {L O L' O' : List Nat} (h : za6 ws sr S T cyc F old cp sn L O) (h' : za6 ws sr S T cyc F old cp sn L' O') : L' = L /\ O' = O := by
 obtain rfl := h'.use.unique h.use
 refine ⟨rfl, ?_⟩
 cases cyc with
 | false => rw [h.still rfl, h'.still rfl]
 | true => exact (h'.runs rfl).1.unique (h.runs rfl).1
theorem zfh {mk : Nat -> Int} {ws : List Int} {k : Nat} (h : zcr mk ws k) (hk : zbz mk ws k = true -> zeg ws (zbd mk ws k) k) : zcr mk ws (k + 1) := fun p hp ht => by
 by_cases e : p = k
 · subst e; exact hk ht
 · exact h p (by omega) ht
theorem zk8 {mk : Nat -> Int} {ws : List Int} {cyc : Bool} {sn : Int} {k : Nat} (h : zby mk ws cyc sn k) (hk : zck mk k -> zfs mk ws (zbt mk cyc sn k) k) : zby mk ws cyc sn (k + 1) := fun p hp ht => by
 by_cases e : p = k
 · subst e; exact hk ht
 · exact h p (by omega) ht
theorem zqo {mk : Nat -> Int} {ws : List Int} {y : Nat -> Int} {k : Nat} (h : zcf mk ws y k) (hk : vOk (y (2 * k)) (y (2 * k + 1)) = true /\ y (2 * k) ≠ 8 /\ zb4 mk ws (y (2 * k)) (y (2 * k + 1)) 1) : zcf mk ws y (k + 1) := fun p hp => by
 by_cases e : p = k
 · subst e; exact hk
 · exact h p (by omega)
end Go.Proofs.YtdnhohndppmgcaaGreatDoor
