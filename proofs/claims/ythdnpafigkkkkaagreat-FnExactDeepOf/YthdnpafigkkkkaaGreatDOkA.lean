/- - -/
import Derived.Test.YthdnpafigkkkkaaGreatDTileD
import Derived.Test.YthdnpafigkkkkaaGreatDObjectA
import Derived.Test.YthdnpafigkkkkaaGreatDTabA
import Derived.Test.YthdnpafigkkkkaaGreatDSerialsA
import Derived.Test.YthdnpafigkkkkaaGreatDNumbersF
namespace Go.Proofs.YthdnpafigkkkkaaGreat
set_option maxRecDepth 20000
open Go.RowKit
set_option linter.unusedVariables false
theorem zj0 {x : Int} (h : zah x = true) : zbz x = false := by
 unfold zah at h
 rw [zd5] at h
 unfold HOk at h
 unfold zbz
 apply decide_eq_false
 omega
theorem zbr {ws : List Int} {p : Nat} (h : zah (za ws p) = true) : zi ws p = p := by
 unfold zi
 rw [if_neg (by simp [zj0 h])]
theorem zou (x : Int) : 0 <= fwP x := by
 unfold fwP
 split
 · rename_i h
   simp only [zbz, decide_eq_true_eq] at h
   omega
 · exact Int.le_refl _
theorem zga {ws : List Int} {p : Nat} (h : zbz (za ws p) = true) : zi ws p = zq ws p := by
 unfold zi zq
 rw [if_pos h]
 have := zou (za ws p)
 omega
theorem zf0 {ws : List Int} {U O : List Nat} {i : Nat} (h : mk2 ws U O i ≠ 0) : i ∈ O \/ i ∈ U := by
 by_cases h1 : i ∈ O
 · exact .inl h1
 · by_cases h2 : i ∈ U
   · exact .inr h2
   · exact absurd (by simp [mk2, h1, h2]) h
theorem zav.marks {ws : List Int} {sr : Int} {S T : Nat} {cyc : Bool} {F : Nat} {old cp sn : Int} {L O : List Nat} (h : zav ws sr S T cyc F old cp sn L O) (hT : T <= ws.length) : zge (mk2 ws L O) ws := by
 intro i hi hne
 have hL : ∀ p ∈ L, zah (za ws p) = true /\ p < T := fun p hp => by
  obtain ⟨_, h2, s, hs, _⟩ := h.use.mem p hp
  exact ⟨(zc8 hs).1, h2⟩
 rcases zf0 hne with ho | hl
 · cases cyc with
   | false => rw [h.still rfl] at ho; simp at ho
   | true =>
     obtain ⟨_, _, s, hs, _⟩ := (h.runs rfl).1.mem i ho
     by_cases hr : zah (za ws i) = true
     · rw [zbr hr]; omega
     · rw [Bool.not_eq_true] at hr
       obtain ⟨g1, g2, _⟩ := ze7 hs hr
       rw [zga g1]
       have := (hL _ g2).2
       omega
 · rw [zbr (hL i hl).1]; omega
theorem zav.object {ws : List Int} {sr : Int} {S T : Nat} {cyc : Bool} {F : Nat} {old cp sn : Int} {L O : List Nat} (h : zav ws sr S T cyc F old cp sn L O) {i : Nat} (hi : mk2 ws L O i = 1 \/ mk2 ws L O i = 2) : zah (za ws i) = true /\ (i ∈ L \/ i ∈ O) := by
 by_cases ho : i ∈ O
 · refine ⟨?_, .inr ho⟩
   cases cyc with
   | false => rw [h.still rfl] at ho; simp at ho
   | true =>
     obtain ⟨_, _, s, hs, _⟩ := (h.runs rfl).1.mem i ho
     by_cases hr : zah (za ws i) = true
     · exact hr
     · rw [Bool.not_eq_true] at hr
       have g := (ze7 hs hr).1
       have hf : zaq ws i = true := by simp [zaq, hr, g]
       exfalso
       simp [mk2, ho, hf] at hi
 · by_cases hl : i ∈ L
   · obtain ⟨_, _, s, hs, _⟩ := h.use.mem i hl
     exact ⟨(zc8 hs).1, .inl hl⟩
   · exfalso
     simp [mk2, ho, hl] at hi
theorem zav.within {ws : List Int} {sr : Int} {S T : Nat} {cyc : Bool} {F : Nat} {old cp sn : Int} {L O : List Nat} (h : zav ws sr S T cyc F old cp sn L O) (hT : T <= ws.length) (hO : cyc = true -> old <= ws.length) {i : Nat} (hi : mk2 ws L O i = 1 \/ mk2 ws L O i = 2) : i + (rdS (za ws i)).toNat < ws.length := by
 obtain ⟨hr, hm⟩ := h.object hi
 rcases hm with hl | ho
 · obtain ⟨_, _, s, hs, hle⟩ := h.use.mem i hl
   have := (zc8 hs).2.2
   omega
 · cases cyc with
   | false => rw [h.still rfl] at ho; simp at ho
   | true =>
     obtain ⟨_, _, s, hs, hle⟩ := (h.runs rfl).1.mem i ho
     have := (zh7 hs hr).2
     have := hO rfl
     omega
def zb2 (mk : Nat -> Int) (p : Nat) : Prop := mk p = 1 \/ mk p = 2
def zbh (mk : Nat -> Int) (ws : List Int) (cyc : Bool) (sn : Int) (k : Nat) : Prop := ∀ p, p < k -> zb2 mk p -> zez mk ws (zb9 mk cyc sn p) p
def zbi (mk : Nat -> Int) (ws : List Int) (p : Nat) : Bool := (decide (mk p = 1) || decide (mk p = 2)) && decide (rdK (za ws p) = 2)
def za3 (mk : Nat -> Int) (ws : List Int) : Nat -> Nat -> Bool
 | 0 => fun _ => false
 | k + 1 => if zbi mk ws k = true then zdh ws (za3 mk ws k) k else za3 mk ws k
def zcb (mk : Nat -> Int) (ws : List Int) (k : Nat) : Prop := ∀ p, p < k -> zbi mk ws p = true -> zdr ws (za3 mk ws p) p
def zby (mk : Nat -> Int) (ws : List Int) (y : Nat -> Int) (k : Nat) : Prop := ∀ i, i < k -> vOk (y (2 * i)) (y (2 * i + 1)) = true /\ y (2 * i) ≠ 8 /\ zbo mk ws (y (2 * i)) (y (2 * i + 1)) 1
theorem zfz {ws : List Int} {L O : List Nat} {i : Nat} (hL : i ∈ L) (hO : i ∉ O) : mk2 ws L O i = 1 := by simp [mk2, hL, hO]
theorem zav.apart_halves {ws : List Int} {sr : Int} {S T : Nat} {cyc : Bool} {F : Nat} {old cp sn : Int} {L O : List Nat} (h : zav ws sr S T cyc F old cp sn L O) (hd : cyc = true -> T <= F \/ old.toNat <= S) : ∀ p ∈ L, p ∉ O := fun p hp hq => by
 cases cyc with
 | false => rw [h.still rfl] at hq; simp at hq
 | true =>
   have g1 := h.use.mem p hp
   have g2 := (h.runs rfl).1.mem p hq
   have := hd rfl
   omega
theorem zav.leads {ws : List Int} {sr : Int} {S T : Nat} {cyc : Bool} {F : Nat} {old cp sn : Int} {L O : List Nat} (h : zav ws sr S T cyc F old cp sn L O) (hd : cyc = true -> T <= F \/ old.toNat <= S) {i : Nat} (hi : mk2 ws L O i ≠ 0) : zb2 (mk2 ws L O) (zi ws i).toNat := by
 have hLO := h.apart_halves hd
 rcases zf0 hi with ho | hl
 · cases cyc with
   | false => rw [h.still rfl] at ho; simp at ho
   | true =>
     obtain ⟨_, _, s, hs, _⟩ := (h.runs rfl).1.mem i ho
     by_cases hr : zah (za ws i) = true
     · rw [zbr hr, Int.toNat_natCast]
       refine .inr ?_
       have hf : zaq ws i = false := by simp [zaq, hr]
       simp [mk2, ho, hf]
     · rw [Bool.not_eq_true] at hr
       obtain ⟨g1, g2, _⟩ := ze7 hs hr
       rw [zga g1, Int.toNat_natCast]
       exact .inl (zfz g2 (hLO _ g2))
 · obtain ⟨_, _, s, hs, _⟩ := h.use.mem i hl
   rw [zbr (zc8 hs).1, Int.toNat_natCast]
   exact .inl (zfz hl (hLO _ hl))
structure zeb (mk : Nat -> Int) (ws : List Int) (cyc : Bool) (sn : Int) : Prop where
 marks : zge mk ws
 leads : ∀ i, mk i ≠ 0 -> zb2 mk (zi ws i).toNat
 within : ∀ i, zb2 mk i -> zah (za ws i) = true /\ i + (rdS (za ws i)).toNat < ws.length
 objs : zbh mk ws cyc sn ws.length
theorem zeb.text {mk : Nat -> Int} {ws : List Int} {cyc : Bool} {sn : Int} (h : zeb mk ws cyc sn) (hw : zg ws) {q : Nat} (hq : zb2 mk q) (h1 : rdK (za ws q) = 1) : zf5 ws q := by
 obtain ⟨hr, hin⟩ := h.within q hq
 have ho := (h.objs q (by omega) hq).2.1 h1
 simp only [zc9, decide_eq_true_eq] at ho
 have hx := zx hw (q + 1)
 refine ⟨ho.1, ?_⟩
 unfold zai
 have := ho.2.1
 omega
theorem zeb.key {mk : Nat -> Int} {ws : List Int} {cyc : Bool} {sn : Int} (h : zeb mk ws cyc sn) (hw : zg ws) {fr k : Int} {X : Nat} (hX : zc0 mk ws fr k X) : zdk ws (rvT ws X) (rvN ws X) := by
 obtain ⟨hr, hl, _⟩ := hX
 have hpos := ziw hw hr
 have key : isR (rvT ws X) = true -> 0 <= rvN ws X /\ rvN ws X < ws.length /\ mk (rvN ws X).toNat ≠ 0 /\ rdK (za ws (zi ws (rvN ws X).toNat).toNat) = za5 (rvT ws X) := fun g => by
  obtain ⟨a1, a2, a3⟩ := hl g
  exact ⟨by have := hpos g; omega, a1, zc3 a2, a3⟩
 refine ⟨fun g => ?_, fun g => ?_⟩
 · obtain ⟨a1, a2, a3, _⟩ := key g
   have := h.marks (rvN ws X).toNat (by omega) a3
   exact ⟨a1, a2, this.1, this.2⟩
 · obtain ⟨a1, a2, a3, a4⟩ := key (by simp [isR, g])
   refine h.text hw (h.leads _ a3) ?_
   rw [a4]; simp [za5, g]
theorem zeb.tab {mk : Nat -> Int} {ws : List Int} {cyc : Bool} {sn : Int} (h : zeb mk ws cyc sn) (hw : zg ws) {p : Nat} (hp : zbi mk ws p = true) : ziy ws p := by
 simp only [zbi, Bool.and_eq_true, Bool.or_eq_true, decide_eq_true_eq] at hp
 obtain ⟨ho, hk⟩ := hp
 obtain ⟨hr, hin⟩ := h.within p ho
 have hs := zdz hr
 rw [hk] at hs
 have hS : rdS (za ws p) = 3 := by rcases za6 hs with g | g | g | g | g | g <;> omega
 have hsl : slN (rdK (za ws p)) (rdS (za ws p)) = 1 := by rw [hk, hS]; rfl
 have hob := (h.objs p (by omega) ho).1 0 (by omega)
 have hX : p + (fs (rdK (za ws p)) + 2 * ((0 : Nat) : Int)).toNat = p + 2 := by rw [hk]; rfl
 rw [hX] at hob
 refine ⟨by omega, fun h8 => ?_⟩
 have hky := (h.key hw hob).1 (by simp [isR, h8])
 obtain ⟨a1, a2, a3⟩ := hob.2.1 (by simp [isR, h8])
 have hQ : zb2 mk (zk ws p) := h.leads _ (zc3 a2)
 have hk3 : rdK (za ws (zk ws p)) = 3 := by unfold zk; rw [a3]; simp [za5, h8]
 obtain ⟨hr3, hin3⟩ := h.within _ hQ
 have hs3 := zdz hr3
 rw [hk3] at hs3
 have hS3 : rdS (za ws (zk ws p)) = 16 \/ rdS (za ws (zk ws p)) = 32 \/ rdS (za ws (zk ws p)) = 64 \/ rdS (za ws (zk ws p)) = 128 \/ rdS (za ws (zk ws p)) = 256 := by
  rw [ze5] at hs3; unfold SOk at hs3; omega
 have hcap : 4 * zak ws (zk ws p) = (rdS (za ws (zk ws p))).toNat /\ 0 < zak ws (zk ws p) /\ zak ws (zk ws p) <= 64 := by unfold zak; omega
 have hslot : ∀ i, i < zak ws (zk ws p) -> zc0 mk ws (zb9 mk cyc sn (zk ws p)) (rdK (za ws (zk ws p))) (zk ws p + 1 + 4 * i) := fun i hi => by
  have hj : (2 * i : Nat) < slN (rdK (za ws (zk ws p))) (rdS (za ws (zk ws p))) := by
   rw [hk3]
   refine (zf3 hs3 (2 * i)).1 ?_
   simp [fs]
   omega
  have := (h.objs _ (by omega) hQ).1 (2 * i) hj
  have e : zk ws p + (fs (rdK (za ws (zk ws p))) + 2 * ((2 * i : Nat) : Int)).toNat = zk ws p + 1 + 4 * i := by
   rw [hk3]; simp [fs]; omega
  rwa [e] at this
 exact ⟨hky.1, hky.2.1, hky.2.2.1, by omega, hcap.2.1, hcap.2.2, ⟨by omega, fun i hi => h.key hw (hslot i hi)⟩, fun i hi => zlj hw (hslot i hi).1⟩
def zcq (ws : List Int) (sm toh top : Int) (cyc : Bool) (sn old cp sr : Int) (y : Nat -> Int) (rl : Nat) : Prop :=
 ∃ L O, zav ws sr (toh * sm + 1).toNat top.toNat cyc ((1 - toh) * sm + 1).toNat old cp sn L O /\ (zal (mk2 ws L O) ws ws.length).Nodup /\ zbh (mk2 ws L O) ws cyc sn ws.length /\ zcb (mk2 ws L O) ws ws.length /\ zby (mk2 ws L O) ws y rl
theorem zgt {wl : Nat} {sm toh top : Int} {cyc : Bool} {sn old cp sr : Int} {rl : Nat} (h : zcm wl sm toh top cyc sn old cp sr rl = true) :
 256 <= sm /\ sm <= 4000 /\ (wl : Int) = 2 * sm /\ 0 <= toh /\ toh <= 1 /\ rl <= 24 /\ toh * sm + 1 <= top /\ top <= (toh + 1) * sm /\ (cyc = true -> (1 - toh) * sm + 1 <= old /\ old <= (2 - toh) * sm) := by
 simp only [zcm, zej, zdi, inB, Bool.and_eq_true, decide_eq_true_eq] at h
 obtain ⟨⟨⟨a1, a2, a3, a4, a5, a6, a7, a8⟩, b1, b2⟩, c⟩ := h
 refine ⟨a1, a2, a3, a4, a5, a8, b1, b2, fun hc => ?_⟩
 rw [if_pos hc] at c
 unfold zew zb7 at c
 have c := of_decide_eq_true c
 exact ⟨c.1, c.2.1⟩
theorem zav.known {ws : List Int} {sr : Int} {S T : Nat} {cyc : Bool} {F : Nat} {old cp sn : Int} {L O : List Nat} (h : zav ws sr S T cyc F old cp sn L O) (hT : T <= ws.length) (hO : cyc = true -> old <= ws.length) (hd : cyc = true -> T <= F \/ old.toNat <= S) (ho : zbh (mk2 ws L O) ws cyc sn ws.length) : zeb (mk2 ws L O) ws cyc sn :=
 ⟨h.marks hT, fun i hi => h.leads hd hi, fun i hi => ⟨(h.object hi).1, h.within hT hO hi⟩, ho⟩
theorem zav.same {ws : List Int} {sr : Int} {S T : Nat} {cyc : Bool} {F : Nat} {old cp sn : Int} {L O L' O' : List Nat} (h : zav ws sr S T cyc F old cp sn L O) (h' : zav ws sr S T cyc F old cp sn L' O') : L' = L /\ O' = O := by
 obtain rfl := h'.use.unique h.use
 refine ⟨rfl, ?_⟩
 cases cyc with
 | false => rw [h.still rfl, h'.still rfl]
 | true => exact (h'.runs rfl).1.unique (h.runs rfl).1
theorem zer {mk : Nat -> Int} {ws : List Int} {k : Nat} (h : zcb mk ws k) (hk : zbi mk ws k = true -> zdr ws (za3 mk ws k) k) : zcb mk ws (k + 1) := fun p hp ht => by
 by_cases e : p = k
 · subst e; exact hk ht
 · exact h p (by omega) ht
theorem zjz {mk : Nat -> Int} {ws : List Int} {cyc : Bool} {sn : Int} {k : Nat} (h : zbh mk ws cyc sn k) (hk : zb2 mk k -> zez mk ws (zb9 mk cyc sn k) k) : zbh mk ws cyc sn (k + 1) := fun p hp ht => by
 by_cases e : p = k
 · subst e; exact hk ht
 · exact h p (by omega) ht
theorem zot {mk : Nat -> Int} {ws : List Int} {y : Nat -> Int} {k : Nat} (h : zby mk ws y k) (hk : vOk (y (2 * k)) (y (2 * k + 1)) = true /\ y (2 * k) ≠ 8 /\ zbo mk ws (y (2 * k)) (y (2 * k + 1)) 1) : zby mk ws y (k + 1) := fun p hp => by
 by_cases e : p = k
 · subst e; exact hk
 · exact h p (by omega)
end Go.Proofs.YthdnpafigkkkkaaGreat
