/- - -/
import Derived.Test.YtmckcnmlhgpnhaaGreatWTileD
import Derived.Test.YtmckcnmlhgpnhaaGreatWObjectA
import Derived.Test.YtmckcnmlhgpnhaaGreatWTabA
import Derived.Test.YtmckcnmlhgpnhaaGreatWNumbersF
namespace Go.Proofs.YtmckcnmlhgpnhaaGreat
set_option maxRecDepth 20000
open Go.RowKit
set_option linter.unusedVariables false
theorem zk7 {x : Int} (h : zai x = true) : zca x = false := by
 unfold zai at h
 rw [zen] at h
 unfold HOk at h
 unfold zca
 apply decide_eq_false
 omega
theorem zb2 {ws : List Int} {p : Nat} (h : zai (za ws p) = true) : zi ws p = p := by
 unfold zi
 rw [if_neg (by simp [zk7 h])]
theorem zqk (x : Int) : 0 <= fwP x := by
 unfold fwP
 split
 · rename_i h
   simp only [zca, decide_eq_true_eq] at h
   omega
 · exact Int.le_refl _
theorem zg6 {ws : List Int} {p : Nat} (h : zca (za ws p) = true) : zi ws p = zu ws p := by
 unfold zi zu
 rw [if_pos h]
 have := zqk (za ws p)
 omega
theorem zgw {ws : List Int} {U O : List Nat} {i : Nat} (h : mk2 ws U O i ≠ 0) : i ∈ O \/ i ∈ U := by
 by_cases h1 : i ∈ O
 · exact .inl h1
 · by_cases h2 : i ∈ U
   · exact .inr h2
   · exact absurd (by simp [mk2, h1, h2]) h
theorem za1.marks {ws : List Int} {sr : Int} {S T : Nat} {cyc : Bool} {F : Nat} {old cpz sn : Int} {L O : List Nat} (h : za1 ws sr S T cyc F old cpz sn L O) (hT : T <= ws.length) : zha (mk2 ws L O) ws := by
 intro i hi hne
 have hL : ∀ p ∈ L, zai (za ws p) = true /\ p < T := fun p hp => by
  obtain ⟨_, h2, s, hs, _⟩ := h.use.mem p hp
  exact ⟨(zdo hs).1, h2⟩
 rcases zgw hne with ho | hl
 · cases cyc with
   | false => rw [h.still rfl] at ho; simp at ho
   | true =>
     obtain ⟨_, _, s, hs, _⟩ := (h.runs rfl).1.mem i ho
     by_cases hr : zai (za ws i) = true
     · rw [zb2 hr]; omega
     · rw [Bool.not_eq_true] at hr
       obtain ⟨g1, g2, _⟩ := zfv hs hr
       rw [zg6 g1]
       have := (hL _ g2).2
       omega
 · rw [zb2 (hL i hl).1]; omega
theorem za1.object {ws : List Int} {sr : Int} {S T : Nat} {cyc : Bool} {F : Nat} {old cpz sn : Int} {L O : List Nat} (h : za1 ws sr S T cyc F old cpz sn L O) {i : Nat} (hi : mk2 ws L O i = 1 \/ mk2 ws L O i = 2) : zai (za ws i) = true /\ (i ∈ L \/ i ∈ O) := by
 by_cases ho : i ∈ O
 · refine ⟨?_, .inr ho⟩
   cases cyc with
   | false => rw [h.still rfl] at ho; simp at ho
   | true =>
     obtain ⟨_, _, s, hs, _⟩ := (h.runs rfl).1.mem i ho
     by_cases hr : zai (za ws i) = true
     · exact hr
     · rw [Bool.not_eq_true] at hr
       have g := (zfv hs hr).1
       have hf : zav ws i = true := by simp [zav, hr, g]
       exfalso
       simp [mk2, ho, hf] at hi
 · by_cases hl : i ∈ L
   · obtain ⟨_, _, s, hs, _⟩ := h.use.mem i hl
     exact ⟨(zdo hs).1, .inl hl⟩
   · exfalso
     simp [mk2, ho, hl] at hi
theorem za1.within {ws : List Int} {sr : Int} {S T : Nat} {cyc : Bool} {F : Nat} {old cpz sn : Int} {L O : List Nat} (h : za1 ws sr S T cyc F old cpz sn L O) (hT : T <= ws.length) (hO : cyc = true -> old <= ws.length) {i : Nat} (hi : mk2 ws L O i = 1 \/ mk2 ws L O i = 2) : i + (rdS (za ws i)).toNat < ws.length := by
 obtain ⟨hr, hm⟩ := h.object hi
 rcases hm with hl | ho
 · obtain ⟨_, _, s, hs, hle⟩ := h.use.mem i hl
   have := (zdo hs).2.2
   omega
 · cases cyc with
   | false => rw [h.still rfl] at ho; simp at ho
   | true =>
     obtain ⟨_, _, s, hs, hle⟩ := (h.runs rfl).1.mem i ho
     have := (zjb hs hr).2
     have := hO rfl
     omega
def zbf (mk : Nat -> Int) (p : Nat) : Prop := mk p = 1 \/ mk p = 2
def zbt (mk : Nat -> Int) (ws : List Int) (cyc : Bool) (sn : Int) (k : Nat) : Prop := ∀ p, p < k -> zbf mk p -> zfn mk ws (zck mk cyc sn p) p
def zbu (mk : Nat -> Int) (ws : List Int) (p : Nat) : Bool := (decide (mk p = 1) || decide (mk p = 2)) && decide (rdK (za ws p) = 2)
def zbb (mk : Nat -> Int) (ws : List Int) : Nat -> Nat -> Bool
 | 0 => fun _ => false
 | k + 1 => if zbu mk ws k = true then zdx ws (zbb mk ws k) k else zbb mk ws k
def zcm (mk : Nat -> Int) (ws : List Int) (k : Nat) : Prop := ∀ p, p < k -> zbu mk ws p = true -> zd9 ws (zbb mk ws p) p
def zb9 (mk : Nat -> Int) (ws : List Int) (y : Nat -> Int) (k : Nat) : Prop := ∀ i, i < k -> vOk (y (2 * i)) (y (2 * i + 1)) = true /\ y (2 * i) ≠ 8 /\ zbz mk ws (y (2 * i)) (y (2 * i + 1)) 1
theorem zgv {ws : List Int} {L O : List Nat} {i : Nat} (hL : i ∈ L) (hO : i ∉ O) : mk2 ws L O i = 1 := by simp [mk2, hL, hO]
theorem za1.apart_halves {ws : List Int} {sr : Int} {S T : Nat} {cyc : Bool} {F : Nat} {old cpz sn : Int} {L O : List Nat} (h : za1 ws sr S T cyc F old cpz sn L O) (hd : cyc = true -> T <= F \/ old.toNat <= S) : ∀ p ∈ L, p ∉ O := fun p hp hq => by
 cases cyc with
 | false => rw [h.still rfl] at hq; simp at hq
 | true =>
   have g1 := h.use.mem p hp
   have g2 := (h.runs rfl).1.mem p hq
   have := hd rfl
   omega
theorem za1.leads {ws : List Int} {sr : Int} {S T : Nat} {cyc : Bool} {F : Nat} {old cpz sn : Int} {L O : List Nat} (h : za1 ws sr S T cyc F old cpz sn L O) (hd : cyc = true -> T <= F \/ old.toNat <= S) {i : Nat} (hi : mk2 ws L O i ≠ 0) : zbf (mk2 ws L O) (zi ws i).toNat := by
 have hLO := h.apart_halves hd
 rcases zgw hi with ho | hl
 · cases cyc with
   | false => rw [h.still rfl] at ho; simp at ho
   | true =>
     obtain ⟨_, _, s, hs, _⟩ := (h.runs rfl).1.mem i ho
     by_cases hr : zai (za ws i) = true
     · rw [zb2 hr, Int.toNat_natCast]
       refine .inr ?_
       have hf : zav ws i = false := by simp [zav, hr]
       simp [mk2, ho, hf]
     · rw [Bool.not_eq_true] at hr
       obtain ⟨g1, g2, _⟩ := zfv hs hr
       rw [zg6 g1, Int.toNat_natCast]
       exact .inl (zgv g2 (hLO _ g2))
 · obtain ⟨_, _, s, hs, _⟩ := h.use.mem i hl
   rw [zb2 (zdo hs).1, Int.toNat_natCast]
   exact .inl (zgv hl (hLO _ hl))
structure zbm (mk : Nat -> Int) (ws : List Int) (cyc : Bool) (sn : Int) : Prop where
 marks : zha mk ws
 leads : ∀ i, mk i ≠ 0 -> zbf mk (zi ws i).toNat
 within : ∀ i, zbf mk i -> zai (za ws i) = true /\ i + (rdS (za ws i)).toNat < ws.length
 objs : zbt mk ws cyc sn ws.length
theorem zbm.text {mk : Nat -> Int} {ws : List Int} {cyc : Bool} {sn : Int} (h : zbm mk ws cyc sn) (hw : zg ws) {q : Nat} (hq : zbf mk q) (h1 : rdK (za ws q) = 1) : zf0 ws q := by
 obtain ⟨hr, hin⟩ := h.within q hq
 have ho := (h.objs q (by omega) hq).2.1 h1
 simp only [zdq, decide_eq_true_eq] at ho
 have hx := zac hw (q + 1)
 refine ⟨ho.1, ?_⟩
 unfold zal
 have := ho.2.1
 omega
theorem zbm.key {mk : Nat -> Int} {ws : List Int} {cyc : Bool} {sn : Int} (h : zbm mk ws cyc sn) (hw : zg ws) {fr k : Int} {X : Nat} (hX : zdd mk ws fr k X) : zd2 ws (rvT ws X) (rvN ws X) := by
 obtain ⟨hr, hl, _⟩ := hX
 have hpos := zgz hw hr
 have key : isR (rvT ws X) = true -> 0 <= rvN ws X /\ rvN ws X < ws.length /\ mk (rvN ws X).toNat ≠ 0 /\ rdK (za ws (zi ws (rvN ws X).toNat).toNat) = za2 (rvT ws X) := fun g => by
  obtain ⟨a1, a2, a3⟩ := hl g
  exact ⟨by have := hpos g; omega, a1, zb6 a2, a3⟩
 refine ⟨fun g => ?_, fun g => ?_⟩
 · obtain ⟨a1, a2, a3, _⟩ := key g
   have := h.marks (rvN ws X).toNat (by omega) a3
   exact ⟨a1, a2, this.1, this.2⟩
 · obtain ⟨a1, a2, a3, a4⟩ := key (by simp [isR, g])
   refine h.text hw (h.leads _ a3) ?_
   rw [a4]; simp [za2, g]
theorem zbm.tab {mk : Nat -> Int} {ws : List Int} {cyc : Bool} {sn : Int} (h : zbm mk ws cyc sn) (hw : zg ws) {p : Nat} (hp : zbu mk ws p = true) : zj0 ws p := by
 simp only [zbu, Bool.and_eq_true, Bool.or_eq_true, decide_eq_true_eq] at hp
 obtain ⟨ho, hk⟩ := hp
 obtain ⟨hr, hin⟩ := h.within p ho
 have hs := zde hr
 rw [hk] at hs
 have hS : rdS (za ws p) = 3 := by rcases zbe hs with g | g | g | g | g | g <;> omega
 have hsl : slN (rdK (za ws p)) (rdS (za ws p)) = 1 := by rw [hk, hS]; rfl
 have hob := (h.objs p (by omega) ho).1 0 (by omega)
 have hX : p + (fs (rdK (za ws p)) + 2 * ((0 : Nat) : Int)).toNat = p + 2 := by rw [hk]; rfl
 rw [hX] at hob
 refine ⟨by omega, fun h8 => ?_⟩
 have hky := (h.key hw hob).1 (by simp [isR, h8])
 obtain ⟨a1, a2, a3⟩ := hob.2.1 (by simp [isR, h8])
 have hQ : zbf mk (zk ws p) := h.leads _ (zb6 a2)
 have hk3 : rdK (za ws (zk ws p)) = 3 := by unfold zk; rw [a3]; simp [za2, h8]
 obtain ⟨hr3, hin3⟩ := h.within _ hQ
 have hs3 := zde hr3
 rw [hk3] at hs3
 have hS3 : rdS (za ws (zk ws p)) = 16 \/ rdS (za ws (zk ws p)) = 32 \/ rdS (za ws (zk ws p)) = 64 \/ rdS (za ws (zk ws p)) = 128 \/ rdS (za ws (zk ws p)) = 256 := by
  rw [zft] at hs3; unfold SOk at hs3; omega
 have hcap : 4 * zao ws (zk ws p) = (rdS (za ws (zk ws p))).toNat /\ 0 < zao ws (zk ws p) /\ zao ws (zk ws p) <= 64 := by unfold zao; omega
 have hslot : ∀ i, i < zao ws (zk ws p) -> zdd mk ws (zck mk cyc sn (zk ws p)) (rdK (za ws (zk ws p))) (zk ws p + 1 + 4 * i) := fun i hi => by
  have hj : (2 * i : Nat) < slN (rdK (za ws (zk ws p))) (rdS (za ws (zk ws p))) := by
   rw [hk3]
   refine (zff hs3 (2 * i)).1 ?_
   simp [fs]
   omega
  have := (h.objs _ (by omega) hQ).1 (2 * i) hj
  have e : zk ws p + (fs (rdK (za ws (zk ws p))) + 2 * ((2 * i : Nat) : Int)).toNat = zk ws p + 1 + 4 * i := by
   rw [hk3]; simp [fs]; omega
  rwa [e] at this
 exact ⟨hky.1, hky.2.1, hky.2.2.1, by omega, hcap.2.1, hcap.2.2, ⟨by omega, fun i hi => h.key hw (hslot i hi)⟩, fun i hi => zmt hw (hslot i hi).1⟩
def zc2 (ws : List Int) (smz toh top : Int) (cyc : Bool) (sn old cpz sr : Int) (y : Nat -> Int) (rl : Nat) : Prop :=
 ∃ L O, za1 ws sr (toh * smz + 1).toNat top.toNat cyc ((1 - toh) * smz + 1).toNat old cpz sn L O /\ (zap (mk2 ws L O) ws ws.length).Nodup /\ zbt (mk2 ws L O) ws cyc sn ws.length /\ zcm (mk2 ws L O) ws ws.length /\ zb9 (mk2 ws L O) ws y rl
theorem zdi {wl : Nat} {smz toh top : Int} {cyc : Bool} {sn old cpz sr : Int} {rl : Nat} (h : zcy wl smz toh top cyc sn old cpz sr rl = true) :
 256 <= smz /\ smz <= 4000 /\ (wl : Int) = 2 * smz /\ 0 <= toh /\ toh <= 1 /\ rl <= 24 /\ toh * smz + 1 <= top /\ top <= (toh + 1) * smz /\ (cyc = true -> (1 - toh) * smz + 1 <= old /\ old <= (2 - toh) * smz) := by
 simp only [zcy, ze1, zdz, inB, Bool.and_eq_true, decide_eq_true_eq] at h
 obtain ⟨⟨⟨a1, a2, a3, a4, a5, a6, a7, a8⟩, b1, b2⟩, c⟩ := h
 refine ⟨a1, a2, a3, a4, a5, a8, b1, b2, fun hc => ?_⟩
 rw [if_pos hc] at c
 unfold zfj zci at c
 have c := of_decide_eq_true c
 exact ⟨c.1, c.2.1⟩
theorem za1.known {ws : List Int} {sr : Int} {S T : Nat} {cyc : Bool} {F : Nat} {old cpz sn : Int} {L O : List Nat} (h : za1 ws sr S T cyc F old cpz sn L O) (hT : T <= ws.length) (hO : cyc = true -> old <= ws.length) (hd : cyc = true -> T <= F \/ old.toNat <= S) (ho : zbt (mk2 ws L O) ws cyc sn ws.length) : zbm (mk2 ws L O) ws cyc sn :=
 ⟨h.marks hT, fun i hi => h.leads hd hi, fun i hi => ⟨(h.object hi).1, h.within hT hO hi⟩, ho⟩
theorem za1.same {ws : List Int} {sr : Int} {S T : Nat} {cyc : Bool} {F : Nat} {old cpz sn : Int} {L O L' O' : List Nat} (h : za1 ws sr S T cyc F old cpz sn L O) (h' : za1 ws sr S T cyc F old cpz sn L' O') : L' = L /\ O' = O := by
 obtain rfl := h'.use.unique h.use
 refine ⟨rfl, ?_⟩
 cases cyc with
 | false => rw [h.still rfl, h'.still rfl]
 | true => exact (h'.runs rfl).1.unique (h.runs rfl).1
theorem zfc {mk : Nat -> Int} {ws : List Int} {k : Nat} (h : zcm mk ws k) (hk : zbu mk ws k = true -> zd9 ws (zbb mk ws k) k) : zcm mk ws (k + 1) := fun p hp ht => by
 by_cases e : p = k
 · subst e; exact hk ht
 · exact h p (by omega) ht
theorem zk6 {mk : Nat -> Int} {ws : List Int} {cyc : Bool} {sn : Int} {k : Nat} (h : zbt mk ws cyc sn k) (hk : zbf mk k -> zfn mk ws (zck mk cyc sn k) k) : zbt mk ws cyc sn (k + 1) := fun p hp ht => by
 by_cases e : p = k
 · subst e; exact hk ht
 · exact h p (by omega) ht
theorem zqj {mk : Nat -> Int} {ws : List Int} {y : Nat -> Int} {k : Nat} (h : zb9 mk ws y k) (hk : vOk (y (2 * k)) (y (2 * k + 1)) = true /\ y (2 * k) ≠ 8 /\ zbz mk ws (y (2 * k)) (y (2 * k + 1)) 1) : zb9 mk ws y (k + 1) := fun p hp => by
 by_cases e : p = k
 · subst e; exact hk
 · exact h p (by omega)
end Go.Proofs.YtmckcnmlhgpnhaaGreat
