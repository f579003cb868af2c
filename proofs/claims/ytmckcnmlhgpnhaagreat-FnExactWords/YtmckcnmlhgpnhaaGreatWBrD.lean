/- - -/
import Derived.Test.YtmckcnmlhgpnhaaGreatWSvM
import Derived.Test.YtmckcnmlhgpnhaaGreatWSvL
namespace Go.Proofs.YtmckcnmlhgpnhaaGreat
set_option maxRecDepth 20000
open Go.RowKit
set_option linter.unusedSimpArgs false
set_option linter.unusedVariables false
structure zar (ws : List Int) (sr : Int) (S T : Nat) (cyc : Bool) (F : Nat) (old cpz sn : Int) (L O : List Nat) : Prop where
 til : za1 ws sr S T cyc F old cpz sn L O
 ap : cyc = true -> T <= F \/ old.toNat <= S
 S1 : 1 <= S
 F1 : 1 <= F
 Tn : T <= ws.length
 On : cyc = true -> old <= ws.length
section
variable {ws : List Int} {sr : Int} {S T : Nat} {cyc : Bool} {F : Nat} {old cpz sn : Int} {L O : List Nat}
theorem zar.inL (h : zar ws sr S T cyc F old cpz sn L O) {p : Nat} (hp : p ∈ L) : S <= p /\ p < T /\ zai (za ws p) = true /\ p ∉ O := by
 obtain ⟨a, b, s, hs, _⟩ := h.til.use.mem p hp
 exact ⟨a, b, (zdo hs).1, h.til.apart_halves h.ap p hp⟩
theorem zar.inO (h : zar ws sr S T cyc F old cpz sn L O) {p : Nat} (hp : p ∈ O) : F <= p /\ ¬ (S <= p /\ p < T) /\ p < ws.length /\ (zai (za ws p) = true /\ zav ws p = false \/ zai (za ws p) = false /\ zca (za ws p) = true /\ zav ws p = true /\ zu ws p ∈ L) := by
 cases cyc with
 | false => rw [h.til.still rfl] at hp; simp at hp
 | true =>
   obtain ⟨a, b, s, hs, _⟩ := (h.til.runs rfl).1.mem p hp
   have := h.ap rfl
   have := h.On rfl
   refine ⟨a, by omega, by omega, ?_⟩
   cases hr : zai (za ws p) with
   | true => exact .inl ⟨rfl, zkw hr⟩
   | false =>
     obtain ⟨g1, g2, _⟩ := zfv hs hr
     exact .inr ⟨rfl, g1, by simp [zav, hr, g1], g2⟩
theorem zar.lead (h : zar ws sr S T cyc F old cpz sn L O) (i : Nat) : zm ws L O i = if mk2 ws L O i ≠ 0 then zi ws i else 0 := by
 by_cases ho : i ∈ O
 · obtain ⟨_, _, _, g⟩ := h.inO ho
   rcases g with ⟨g1, g2⟩ | ⟨_, g1, g2, _⟩
   · simp [zm, mk2, ho, g2, zb2 g1]
   · have : zi ws i = fwP (za ws i) := by simp [zi, g1]
     simp [zm, mk2, ho, g2, this]
 · by_cases hl : i ∈ L
   · simp [zm, zcf, mk2, ho, hl, zb2 (h.inL hl).2.2.1]
   · simp [zm, zcf, mk2, ho, hl]
theorem zar.lead0 (h : zar ws sr S T cyc F old cpz sn L O) {i : Nat} (hi : mk2 ws L O i ≠ 0) : 1 <= zi ws i /\ zi ws i < ws.length := by
 have h1 := h.S1
 have h2 := h.F1
 have h3 := h.Tn
 rcases zgw hi with ho | hl
 · obtain ⟨a, _, a', g⟩ := h.inO ho
   rcases g with ⟨g1, g2⟩ | ⟨_, g1, g2, g3⟩
   · rw [zb2 g1]; omega
   · rw [zg6 g1]; have := h.inL g3; omega
 · rw [zb2 (h.inL hl).2.2.1]; have := h.inL hl; omega
theorem zar.leadIn (h : zar ws sr S T cyc F old cpz sn L O) (i : Nat) (hi : i < ws.length) : 0 <= zm ws L O i /\ zm ws L O i < ws.length := by
 rw [h.lead i]
 by_cases g : mk2 ws L O i = 0
 · simp [g]; omega
 · rw [if_pos g]; have := h.lead0 g; omega
theorem zar.use (h : zar ws sr S T cyc F old cpz sn L O) {i : Nat} (hi : mk2 ws L O i ≠ 0) : mk2 ws L O i = 1 ↔ S <= i /\ i < T := by
 rcases zgw hi with ho | hl
 · have := (h.inO ho).2.1
   constructor
   · intro g; simp [mk2, ho] at g; split at g <;> simp at g
   · intro g; exact absurd g this
 · obtain ⟨a, b, _, c⟩ := h.inL hl
   exact ⟨fun _ => ⟨a, b⟩, fun _ => zgv hl c⟩
theorem zar.mem (h : zar ws sr S T cyc F old cpz sn L O) (p : Nat) : p ∈ L ++ zl ws O ↔ zbf (mk2 ws L O) p := by
 unfold zbf zl
 simp only [List.mem_append, List.mem_filter, Bool.not_eq_true']
 constructor
 · rintro (hl | ⟨ho, hf⟩)
   · exact .inl (zgv hl (h.inL hl).2.2.2)
   · exact .inr (by simp [mk2, ho, hf])
 · rintro (g | g)
   · have h0 : mk2 ws L O p ≠ 0 := by omega
     rcases zgw h0 with ho | hl
     · simp [mk2, ho] at g; split at g <;> simp at g
     · exact .inl hl
   · have h0 : mk2 ws L O p ≠ 0 := by omega
     rcases zgw h0 with ho | hl
     · refine .inr ⟨ho, ?_⟩
       cases hf : zav ws p with
       | false => rfl
       | true => simp [mk2, ho, hf] at g
     · rw [zgv hl (h.inL hl).2.2.2] at g; omega
theorem zar.lt (h : zar ws sr S T cyc F old cpz sn L O) {p : Nat} (hp : p ∈ L ++ zl ws O) : zai (za ws p) = true /\ p + (rdS (za ws p)).toNat < ws.length :=
 ⟨(h.til.object ((h.mem p).1 hp)).1, h.til.within h.Tn h.On ((h.mem p).1 hp)⟩
theorem zar.obj (h : zar ws sr S T cyc F old cpz sn L O) {t m : Int} (hm : 0 <= m) : zf5 ws (zm ws L O) t m = true ↔ m < ws.length /\ mk2 ws L O m.toNat ≠ 0 /\ rdK (za ws (zi ws m.toNat).toNat) = za2 t := by
 unfold zf5
 rw [h.lead m.toNat]
 simp only [Bool.and_eq_true, decide_eq_true_eq, beq_iff_eq]
 by_cases g : mk2 ws L O m.toNat = 0
 · simp [g]
 · have := h.lead0 g
   rw [if_pos g]
   simp only [g, not_false_eq_true, true_and, ne_eq]
   constructor
   · rintro ⟨a, _, b⟩; exact ⟨a, b⟩
   · rintro ⟨a, b⟩; exact ⟨a, by omega, b⟩
theorem zar.may (h : zar ws sr S T cyc F old cpz sn L O) {P : Nat} (hP : zbf (mk2 ws L O) P) {m : Int} (hm : 0 <= m) (hk : mk2 ws L O m.toNat ≠ 0) : ze3 (S : Int) (T : Int) cyc sn P m = zb4 (mk2 ws L O m.toNat) (zck (mk2 ws L O) cyc sn P) := by
 have e1 : ((S : Int) <= m /\ m < (T : Int)) ↔ mk2 ws L O m.toNat = 1 := by rw [h.use hk]; omega
 have hP0 : mk2 ws L O P ≠ 0 := by rcases hP with g | g <;> omega
 have e2 : ((S : Int) <= (P : Int) /\ (P : Int) < (T : Int)) ↔ mk2 ws L O P = 1 := by rw [h.use hP0]; omega
 have hr : mk2 ws L O m.toNat = 1 \/ mk2 ws L O m.toNat = 2 \/ mk2 ws L O m.toNat = 3 := by
  unfold mk2 at hk ⊢
  split
  · split <;> simp
  · split
    · simp
    · rename_i a b; simp [a, b] at hk
 unfold ze3
 rcases hP with g | g
 · rw [if_pos (e2.2 g)]
   by_cases hs : cyc = true /\ sn <= (P : Int)
   · have hf : zck (mk2 ws L O) cyc sn P = 2 := by simp [zck, g, hs]
     rw [hf]
     rcases hr with hr | hr | hr <;> simp [zb4, hr, hs]
   · have hf : zck (mk2 ws L O) cyc sn P = 1 := by unfold zck; rw [if_neg (by omega), if_neg hs]
     have hs' : (cyc && decide (sn <= (P : Int))) = false := by
      cases hc : cyc with
      | false => rfl
      | true => simp only [Bool.true_and, decide_eq_false_iff_not]; exact fun g => hs ⟨hc, g⟩
     rw [hf, hs', Bool.or_false]
     rcases hr with hr | hr | hr
     · rw [decide_eq_true (e1.2 hr)]; simp [zb4, hr]
     · rw [decide_eq_false (fun g => by have := e1.1 g; omega)]; simp [zb4, hr]
     · rw [decide_eq_false (fun g => by have := e1.1 g; omega)]; simp [zb4, hr]
 · rw [if_neg (fun q => by have := e2.1 q; omega)]
   have hf : zck (mk2 ws L O) cyc sn P = 3 := by simp [zck, g]
   rw [hf]
   rcases hr with hr | hr | hr
   · rw [decide_eq_true (e1.2 hr)]; simp [zb4, hr]
   · rw [decide_eq_false (fun g => by have := e1.1 g; omega)]; simp [zb4, hr]
   · rw [decide_eq_false (fun g => by have := e1.1 g; omega)]; simp [zb4, hr]
theorem zar.leads (h : zar ws sr S T cyc F old cpz sn L O) {P : Nat} (hP : zbf (mk2 ws L O) P) {t m : Int} (hm : isR t = true -> 0 < m) : (!isR t || (zf5 ws (zm ws L O) t m && ze3 (S : Int) (T : Int) cyc sn P m)) = true ↔ zbz (mk2 ws L O) ws t m (zck (mk2 ws L O) cyc sn P) := by
 unfold zbz
 cases hr : isR t with
 | false => simp
 | true =>
   have h0 := hm hr
   simp only [Bool.not_true, Bool.false_or, Bool.and_eq_true, forall_const]
   rw [h.obj (by omega)]
   constructor
   · rintro ⟨⟨a, b, c⟩, d⟩
     rw [h.may hP (by omega) b] at d
     exact ⟨a, d, c⟩
   · rintro ⟨a, d, c⟩
     have b := zb6 d
     exact ⟨⟨a, b, c⟩, by rw [h.may hP (by omega) b]; exact d⟩
theorem zar.roots (h : zar ws sr S T cyc F old cpz sn L O) (y : Nat -> Int) (k : Nat) : zbl ws (zm ws L O) (S : Int) (T : Int) y k ↔ zb9 (mk2 ws L O) ws y k := by
 have one : ∀ t m : Int, zcs ws (zm ws L O) (S : Int) (T : Int) t m = true ↔ vOk t m = true /\ t ≠ 8 /\ zbz (mk2 ws L O) ws t m 1 := fun t m => by
  unfold zcs zbz
  simp only [Bool.and_eq_true, decide_eq_true_eq, Bool.or_eq_true, Bool.not_eq_true']
  refine and_congr_right fun hv => and_congr_right fun _ => ?_
  cases hr : isR t with
  | false => simp
  | true =>
    have h0 : 0 < m := by simp only [vOk, isR, decide_eq_true_eq] at hv hr; omega
    simp only [Bool.true_eq_false, false_or, forall_const]
    rw [h.obj (by omega)]
    have e : ∀ (hk : mk2 ws L O m.toNat ≠ 0), ((S : Int) <= m /\ m < (T : Int)) ↔ zb4 (mk2 ws L O m.toNat) 1 = true := fun hk => by
     have : ((S : Int) <= m /\ m < (T : Int)) ↔ mk2 ws L O m.toNat = 1 := by rw [h.use hk]; omega
     rw [this]
     simp [zb4]
    constructor
    · rintro ⟨⟨a, b, c⟩, d⟩; exact ⟨a, (e b).1 d, c⟩
    · rintro ⟨a, d, c⟩
      have b := zb6 d
      exact ⟨⟨a, b, c⟩, (e b).2 d⟩
 unfold zbl zb9
 exact forall_congr' fun i => imp_congr_right fun _ => one _ _
end
section
variable {ws : List Int} {sr : Int} {S T : Nat} {cyc : Bool} {F : Nat} {old cpz sn : Int} {L O : List Nat}
theorem zar.slot (h : zar ws sr S T cyc F old cpz sn L O) (hw : zg ws) {P : Nat} (hP : zbf (mk2 ws L O) P) (mh : Nat -> Int -> Int -> Bool) (X : Nat -> Nat) (j : Nat) :
 zbv ws (zm ws L O) (S : Int) (T : Int) cyc sn mh P X j = true ↔ zcn ws (X j) = true /\ mh j (rvT ws (X j)) (rvN ws (X j)) = true /\ zbz (mk2 ws L O) ws (rvT ws (X j)) (rvN ws (X j)) (zck (mk2 ws L O) cyc sn P) := by
 unfold zbv
 rw [Bool.and_eq_true, Bool.and_eq_true]
 refine and_congr_right fun hr => and_congr_right fun _ => ?_
 exact h.leads hP (fun g => zgz hw hr g)
theorem zja {ws : List Int} {x : Nat} (h : zcn ws x = true) : rvT ws x = za ws x := by simp [rvT, h]
theorem zar.body (h : zar ws sr S T cyc F old cpz sn L O) (hw : zg ws) {P : Nat} (hP : zbf (mk2 ws L O) P) :
 zfq ws (zm ws L O) (S : Int) (T : Int) cyc sn P ↔ zfn (mk2 ws L O) ws (zck (mk2 ws L O) cyc sn P) P /\ (rdK (za ws P) = 2 -> rvT ws (P + 2) = 0 \/ rvT ws (P + 2) = 8) := by
 have hro := (h.til.object hP).1
 have hso := zde hro
 have hk6 : 1 <= rdK (za ws P) /\ rdK (za ws P) <= 6 := by rcases zbe hso with g | g | g | g | g | g <;> omega
 unfold zfq zfn
 have hsl := fun j => h.slot hw hP (mhK ws P (rdK (za ws P))) (zd6 ws P) j
 simp only [hsl]
 clear hsl
 unfold zdd
 have hX : ∀ j : Nat, P + (fs (rdK (za ws P)) + 2 * (j : Int)).toNat = zd6 ws P j := fun j => rfl
 simp only [hX]
 generalize hfr : zck (mk2 ws L O) cyc sn P = fr
 rcases zgh hk6.1 hk6.2 with hk | hk | hk | hk | hk | hk
 · have hN : slN (rdK (za ws P)) (rdS (za ws P)) = 0 := by
    have := zff hso 0
    rw [hk] at this hso
    have hf : fs 1 = 65536 := rfl
    have : rdS (za ws P) <= 21 := by rcases zbe hso with g | g | g | g | g | g <;> omega
    rw [hk]
    simp only [hf] at *
    omega
   rw [hN, hk]
   simp [woK]
 · have hS : rdS (za ws P) = 3 := by rw [hk] at hso; rcases zbe hso with g | g | g | g | g | g <;> omega
   have hN : slN (rdK (za ws P)) (rdS (za ws P)) = 1 := by rw [hk, hS]; rfl
   have hX0 : zd6 ws P 0 = P + 2 := by unfold zd6; rw [hk]; rfl
   rw [hN, hk]
   constructor
   · rintro ⟨_, g⟩
     obtain ⟨g1, g2, g3⟩ := g 0 (by omega)
     rw [hX0] at g1 g2 g3
     refine ⟨⟨fun j hj => ?_, by simp, by simp, by simp⟩, fun _ => by simpa [mhK] using g2⟩
     obtain rfl : j = 0 := by omega
     rw [hX0]
     exact ⟨g1, g3, by simp, by simp, by simp⟩
   · rintro ⟨⟨g, _⟩, gt⟩
     refine ⟨by simp [woK], fun j hj => ?_⟩
     obtain rfl : j = 0 := by omega
     obtain ⟨g1, g3, _⟩ := g 0 (by omega)
     refine ⟨g1, ?_, g3⟩
     rw [hX0]
     simpa [mhK] using gt rfl
 · rw [hk]
   constructor
   · rintro ⟨_, g⟩
     refine ⟨⟨fun j hj => ?_, by simp, by simp, by simp⟩, by simp⟩
     obtain ⟨g1, g2, g3⟩ := g j hj
     simp [mhK] at g2
     exact ⟨g1, g3, fun q => g2.2 q.1, fun q => g2.1 q.1, by simp⟩
   · rintro ⟨⟨g, _⟩, _⟩
     refine ⟨by simp [woK], fun j hj => ?_⟩
     obtain ⟨g1, g3, g4, g5, _⟩ := g j hj
     refine ⟨g1, ?_, g3⟩
     simp [mhK]
     exact ⟨fun q => g5 ⟨q, rfl⟩, fun q => g4 ⟨q, by decide⟩⟩
 · rw [hk]
   constructor
   · rintro ⟨gw, g⟩
     refine ⟨⟨fun j hj => ?_, by simp, fun _ => by simpa [woK] using gw, by simp⟩, by simp⟩
     obtain ⟨g1, g2, g3⟩ := g j hj
     simp [mhK] at g2
     exact ⟨g1, g3, fun q => by omega, by simp, fun q => q.1 g2⟩
   · rintro ⟨⟨g, _, gw, _⟩, _⟩
     refine ⟨by simpa [woK] using gw rfl, fun j hj => ?_⟩
     obtain ⟨g1, g3, _, _, g5⟩ := g j hj
     refine ⟨g1, ?_, g3⟩
     simp [mhK]
     exact Classical.byContradiction fun q => g5 ⟨q, rfl⟩
 · rw [hk]
   constructor
   · rintro ⟨_, g⟩
     refine ⟨⟨fun j hj => ?_, by simp, by simp, by simp⟩, by simp⟩
     obtain ⟨g1, g2, g3⟩ := g j hj
     simp [mhK] at g2
     exact ⟨g1, g3, fun q => g2 q.1, by simp, by simp⟩
   · rintro ⟨⟨g, _⟩, _⟩
     refine ⟨by simp [woK], fun j hj => ?_⟩
     obtain ⟨g1, g3, g4, _⟩ := g j hj
     refine ⟨g1, ?_, g3⟩
     simp [mhK]
     exact fun q => g4 ⟨q, by decide⟩
 · have hS : rdS (za ws P) = 126 := by rw [hk] at hso; rcases zbe hso with g | g | g | g | g | g <;> omega
   have hN : slN (rdK (za ws P)) (rdS (za ws P)) = 61 := by rw [hk, hS]; rfl
   have hXj : ∀ j : Nat, zd6 ws P j = P + 5 + 2 * j := fun j => by unfold zd6; rw [hk]; have : fs 6 = 5 := rfl; rw [this]; omega
   rw [hN, hk]
   constructor
   · rintro ⟨gw, g⟩
     have gw' : za ws (P + 1) <= 4 /\ za ws (P + 2) <= 60 /\ za ws (P + 3) <= za ws (P + 2) /\ za ws (P + 4) <= 4095 := by
      simp [woK] at gw
      omega
     have g0 : rvT ws (P + 5) = 0 \/ rvT ws (P + 5) = 6 := by
      obtain ⟨_, g2, _⟩ := g 0 (by omega)
      rw [hXj] at g2
      simpa [mhK] using g2
     refine ⟨⟨fun j hj => ?_, by simp, by simp, fun _ => ⟨gw'.1, gw'.2.1, gw'.2.2.1, gw'.2.2.2, g0, fun i hi hz => ?_⟩⟩, by simp⟩
     · obtain ⟨g1, g2, g3⟩ := g j hj
       refine ⟨g1, g3, fun q => ?_, by simp, by simp⟩
       have q1 := q.1
       by_cases e : j = 0
       · subst e
         rw [hXj] at q1
         have : P + 5 + 2 * 0 = P + 5 := by omega
         rw [this] at q1
         omega
       · by_cases e2 : za ws (P + 2) < (j : Int)
         · simp [mhK, e, e2] at g2; omega
         · simp [mhK, e, e2] at g2; exact g2 q1
     · obtain ⟨g1, g2, _⟩ := g (i + 1) (by omega)
       have e2 : za ws (P + 2) < ((i + 1 : Nat) : Int) := by omega
       have g2' : rvT ws (zd6 ws P (i + 1)) = 0 := by
        have e3 : za ws (P + 2) < (i : Int) + 1 := by omega
        simpa [mhK, e3] using g2
       rw [zja g1, hXj] at g2'
       have : P + 5 + 2 * (i + 1) = P + 7 + 2 * i := by omega
       rw [this] at g2'
       exact g2'
   · rintro ⟨⟨g, _, _, gc⟩, _⟩
     obtain ⟨c1, c2, c3, c4, c5, c6⟩ := gc rfl
     refine ⟨by simp [woK]; omega, fun j hj => ?_⟩
     obtain ⟨g1, g3, g4, _⟩ := g j hj
     refine ⟨g1, ?_, g3⟩
     by_cases e : j = 0
     · subst e
       rw [hXj]
       simpa [mhK] using c5
     · by_cases e2 : za ws (P + 2) < (j : Int)
       · have hc := c6 (j - 1) (by omega) (by omega)
         have : P + 7 + 2 * (j - 1) = zd6 ws P j := by rw [hXj]; omega
         rw [this, <- zja g1] at hc
         simp [mhK, e, e2, hc]
       · simp [mhK, e, e2]
         exact fun q => g4 ⟨q, by decide⟩
end
theorem zi6 {ws : List Int} {l : List Nat} {z : Int} : z ∈ zag ws l ↔ z ≠ 0 /\ ∃ p ∈ l, rdN (za ws p) = z := by
 simp only [zag, List.mem_filter, List.mem_map, decide_eq_true_eq]
 exact and_comm
theorem zsy (ws : List Int) (a : Nat) (l : List Nat) : zag ws (a :: l) = if rdN (za ws a) = 0 then zag ws l else rdN (za ws a) :: zag ws l := by
 by_cases h : rdN (za ws a) = 0 <;> simp [zag, h]
def zhr (ws : List Int) (l : List Nat) : Prop := ∀ p ∈ l, ∀ q ∈ l, rdN (za ws p) ≠ 0 -> rdN (za ws p) = rdN (za ws q) -> p = q
theorem zg5 {ws : List Int} {l : List Nat} (hl : l.Nodup) : (zag ws l).Nodup ↔ zhr ws l := by
 induction l with
 | nil => simp [zag, zhr]
 | cons a l ih =>
   rw [List.nodup_cons] at hl
   have ih := ih hl.2
   rw [zsy]
   by_cases h : rdN (za ws a) = 0
   · rw [if_pos h, ih]
     constructor
     · intro g p hp q hq h0 e
       rcases List.mem_cons.1 hp with rfl | hp
       · exact absurd h h0
       · rcases List.mem_cons.1 hq with rfl | hq
         · exact absurd (e.trans h) h0
         · exact g p hp q hq h0 e
     · intro g p hp q hq h0 e
       exact g p (List.mem_cons_of_mem _ hp) q (List.mem_cons_of_mem _ hq) h0 e
   · rw [if_neg h, List.nodup_cons, ih]
     constructor
     · rintro ⟨g0, g⟩ p hp q hq h0 e
       rcases List.mem_cons.1 hp with hp' | hp
       · rcases List.mem_cons.1 hq with hq' | hq
         · rw [hp', hq']
         · exact absurd (zi6.2 ⟨h, q, hq, by rw [<- e, hp']⟩) g0
       · rcases List.mem_cons.1 hq with hq' | hq
         · exact absurd (zi6.2 ⟨h, p, hp, by rw [e, hq']⟩) g0
         · exact g p hp q hq h0 e
     · intro g
       refine ⟨fun hm => ?_, fun p hp q hq h0 e => g p (List.mem_cons_of_mem _ hp) q (List.mem_cons_of_mem _ hq) h0 e⟩
       obtain ⟨_, p, hp, e⟩ := zi6.1 hm
       have := g a (List.mem_cons_self ..) p (List.mem_cons_of_mem _ hp) h e.symm
       exact hl.1 (this ▸ hp)
theorem zk4 (mk : Nat -> Int) (ws : List Int) : ∀ n, zap mk ws n = zag ws ((List.range n).filter (fun p => mk p == 1 || mk p == 2))
 | 0 => rfl
 | n + 1 => by
   rw [List.range_succ, List.filter_append, zeu, <- zk4 mk ws n]
   by_cases h1 : (mk n == 1 || mk n == 2) = true
   · have hf : List.filter (fun p => mk p == 1 || mk p == 2) [n] = [n] := by simp only [List.filter_cons, h1, if_true, List.filter_nil]
     rw [hf]
     by_cases h2 : rdN (za ws n) = 0
     · rw [zig (by simp [zf1, h2])]
       simp [zag, h2]
     · rw [zji (by simp only [zf1, h1]; simp [h2])]
       simp [zag, h2]
   · have hf : List.filter (fun p => mk p == 1 || mk p == 2) [n] = [] := by rw [Bool.not_eq_true] at h1; simp [List.filter_cons, h1]
     rw [hf]
     rw [zig (by simp only [zf1]; simp at h1; simp [h1])]
     simp [zag]
section
variable {ws : List Int} {sr : Int} {S T : Nat} {cyc : Bool} {F : Nat} {old cpz sn : Int} {L O : List Nat}
theorem zar.nodup (h : zar ws sr S T cyc F old cpz sn L O) : (L ++ zl ws O).Nodup := by
 have hLn : L.Nodup := h.til.use.nodup.imp (fun g => by omega)
 have hOn : O.Nodup := by
  cases cyc with
  | false => rw [h.til.still rfl]; exact List.nodup_nil
  | true => exact (h.til.runs rfl).1.nodup.imp (fun g => by omega)
 rw [List.nodup_append]
 refine ⟨hLn, hOn.filter _, fun a ha b hb e => ?_⟩
 subst e
 exact (h.inL ha).2.2.2 (List.mem_filter.1 hb).1
theorem zar.serials (h : zar ws sr S T cyc F old cpz sn L O) : (zag ws (L ++ zl ws O)).Nodup ↔ (zap (mk2 ws L O) ws ws.length).Nodup := by
 have hn2 : ((List.range ws.length).filter (fun p => mk2 ws L O p == 1 || mk2 ws L O p == 2)).Nodup := List.nodup_range.filter _
 rw [zk4, zg5 h.nodup, zg5 hn2]
 have hm : ∀ p, p ∈ (List.range ws.length).filter (fun p => mk2 ws L O p == 1 || mk2 ws L O p == 2) ↔ p ∈ L ++ zl ws O := fun p => by
  rw [h.mem p]
  simp only [List.mem_filter, List.mem_range, Bool.or_eq_true, beq_iff_eq]
  exact ⟨fun g => g.2, fun g => ⟨by have := (h.lt ((h.mem p).2 g)).2; omega, g⟩⟩
 unfold zhr
 constructor
 · intro g p hp q hq
   exact g p ((hm p).1 hp) q ((hm q).1 hq)
 · intro g p hp q hq
   exact g p ((hm p).2 hp) q ((hm q).2 hq)
end
theorem zqi {x : Int} (h : zai x = true) (hk : rdK x = 2 \/ rdK x = 4 \/ rdK x = 6) : rdN x ≠ 0 := by
 have e1 : rdK x = x % 16 := by simp [rdK, h]
 have e2 : rdN x = x / 1048576 := by simp [rdN, h]
 rw [e1] at hk
 rw [e2]
 have h' := of_decide_eq_true h
 omega
def zi7 (ws : List Int) (l : List Nat) (t m : Int) : Prop := t ≠ 8 /\ t ≠ 9 /\ (t = 4 \/ t = 5 \/ t = 6 -> 0 <= zi ws m.toNat /\ (zi ws m.toNat).toNat ∈ l /\ rdN (za ws (zi ws m.toNat).toNat) ≠ 0)
theorem zuw {ws : List Int} {l : List Nat} (hser : zhr ws l) {t m t2 m2 : Int} (h1 : zi7 ws l t m) (h2 : zi7 ws l t2 m2) :
 zd0 t (kyN ws t m) (kyS ws t m) t2 (kyN ws t2 m2) (kyS ws t2 m2) = zch ws t m t2 m2 := by
 by_cases e : t = t2
 · subst e
   unfold zd0 zch
   rw [if_pos rfl]
   simp only [beq_self_eq_true, Bool.true_and]
   by_cases h3 : t = 3
   · subst h3
     simp [kyN, kyS, isR]
   · by_cases h456 : t = 4 \/ t = 5 \/ t = 6
     · obtain ⟨a0, a1, a2⟩ := h1.2.2 h456
       obtain ⟨b0, b1, b2⟩ := h2.2.2 h456
       have hr : isR t = true := by simp only [isR, decide_eq_true_eq]; omega
       rw [if_pos hr, if_neg h3]
       simp only [kyN, kyS, h3, h456, if_false, if_true, beq_self_eq_true, Bool.and_true]
       rw [Bool.eq_iff_iff, beq_iff_eq, beq_iff_eq]
       constructor
       · intro g
         have := hser _ a1 _ b1 a2 g
         omega
       · intro g; rw [g]
     · have hr : isR t = false := by
        simp only [isR, decide_eq_false_iff_not]
        have := h1.1; have := h1.2.1
        omega
       rw [hr]
       simp [kyN, kyS, h3, h456]
 · simp [zd0, zch, e]
theorem zi8 {ws : List Int} {t m : Int} (hv : vOk t m = true) : zd0 t (kyN ws t m) (kyS ws t m) 0 0 ⟨#[]⟩ = decide (t = 0) := by
 by_cases e : t = 0
 · have hm : m = 0 := by simp only [vOk, decide_eq_true_eq] at hv; omega
   subst e hm
   simp [zd0, kyN, kyS]
 · simp [zd0, e]
theorem zk5 {ws : List Int} {Q n : Nat} {t m : Int} {hit : Nat -> Bool} (hh : ∀ j, j < n -> hit j = (decide (kT ws Q j = 0) || zch ws (kT ws Q j) (kN ws Q j) t m)) (hn : 0 < n) : ∀ f i, i < n -> zcr hit n f i = (zcp ws Q n t m f i).1
 | 0, i, _ => rfl
 | f + 1, i, hi => by
   have h := hh i hi
   simp only [zcr, zcp]
   by_cases e : kT ws Q i = 0
   · simp [h, e]
   · by_cases e2 : zch ws (kT ws Q i) (kN ws Q i) t m = true
     · simp [h, e, e2]
     · rw [Bool.not_eq_true] at e2
       simp only [h, e, e2, decide_false, Bool.or_false, Bool.false_eq_true, if_false]
       exact zk5 hh hn f _ (Nat.mod_lt _ hn)
theorem zjp {ws : List Int} {Q n : Nat} {t m : Int} : ∀ f i (r : Nat), (zcp ws Q n t m f i).1 = (r : Int) -> ((zcp ws Q n t m f i).2 = true ↔ kT ws Q r ≠ 0)
 | 0, i, r, h => by simp only [zcp] at h; omega
 | f + 1, i, r, h => by
   simp only [zcp] at h ⊢
   by_cases e : kT ws Q i = 0
   · rw [if_pos e] at h ⊢
     have : r = i := by simp at h; omega
     subst this
     simp [e]
   · rw [if_neg e] at h ⊢
     by_cases e2 : zch ws (kT ws Q i) (kN ws Q i) t m = true
     · rw [if_pos e2] at h ⊢
       have : r = i := by simp at h; omega
       subst this
       simp [e]
     · rw [if_neg e2] at h ⊢
       exact zjp f _ r h
structure zi9 (ws : List Int) (l : List Nat) (Q : Nat) : Prop where
 cap : zao ws Q = 4 \/ zao ws Q = 8 \/ zao ws Q = 16 \/ zao ws Q = 32 \/ zao ws Q = 64
 key : ∀ i, i < zao ws Q -> zi7 ws l (kT ws Q i) (kN ws Q i) /\ vOk (kT ws Q i) (kN ws Q i) = true /\ kT ws Q i = za ws (Q + 1 + 4 * i)
theorem zmh {ws : List Int} {l : List Nat} {Q : Nat} (h : zi9 ws l Q) : ∀ k, k <= zao ws Q -> zcc (kT ws Q) (pN ws Q) (pS ws Q) k = zbk ws Q k
 | 0, _ => rfl
 | k + 1, hk => by
   obtain ⟨_, hv, hw⟩ := h.key k (by omega)
   have ih := zmh h k (by omega)
   have e : zda (kT ws Q) (pN ws Q) (pS ws Q) k = decide (kT ws Q k = 0) := zi8 hv
   simp only [zcc, zbk, e, ih]
   rw [<- hw]
   by_cases g : kT ws Q k = 0 <;> simp [g]
theorem zmi {ws : List Int} {l : List Nat} (hser : zhr ws l) {Q : Nat} (h : zi9 ws l Q) (z : Int) :
 zii ws Q z ↔ zel ws Q (zao ws Q) (zao ws Q) /\ z = zbk ws Q (zao ws Q) /\ 4 * zbk ws Q (zao ws Q) <= 3 * zao ws Q := by
 unfold zii
 rw [zmh h _ (Nat.le_refl _)]
 have hn : 0 < zao ws Q := by have := h.cap; omega
 refine and_congr ?_ (and_congr_right fun _ => ?_)
 · unfold zgp zel
   refine forall_congr' fun i => imp_congr_right fun hi => ?_
   obtain ⟨k1, v1, _⟩ := h.key i hi
   have e : zda (kT ws Q) (pN ws Q) (pS ws Q) i = decide (kT ws Q i = 0) := zi8 v1
   rw [e, decide_eq_false_iff_not]
   refine imp_congr_right fun h0 => ?_
   have hh : ∀ j, j < zao ws Q -> zef (kT ws Q) (pN ws Q) (pS ws Q) (kT ws Q i) (pN ws Q i) (pS ws Q i) j = (decide (kT ws Q j = 0) || zch ws (kT ws Q j) (kN ws Q j) (kT ws Q i) (kN ws Q i)) := fun j hj => by
    obtain ⟨k2, v2, _⟩ := h.key j hj
    unfold zef
    rw [show zd0 (kT ws Q j) (pN ws Q j) (pS ws Q j) (kT ws Q i) (pN ws Q i) (pS ws Q i) = zch ws (kT ws Q j) (kN ws Q j) (kT ws Q i) (kN ws Q i) from zuw hser k2 k1, show zd0 (kT ws Q j) (pN ws Q j) (pS ws Q j) 0 0 ⟨#[]⟩ = decide (kT ws Q j = 0) from zi8 v2, Bool.or_comm]
   have hf : zky (kT ws Q) (pN ws Q) (pS ws Q) (pH ws Q) (zao ws Q) i = (zdr ws Q (zao ws Q) (kT ws Q i) (kN ws Q i)).1 := zk5 hh hn _ _ (Nat.mod_lt _ hn)
   rw [hf]
   constructor
   · intro g
     exact Prod.ext g ((zjp _ _ i g).2 h0)
   · intro g; rw [g]
 · have := h.cap
   omega
theorem zmf {l : List Nat} {Q : Nat -> Prop} : (∀ i, i < l.length -> Q (l.getD i 0)) ↔ ∀ p ∈ l, Q p := by
 constructor
 · intro h p hp
   obtain ⟨i, hi, e⟩ := List.mem_iff_getElem.1 hp
   have := h i hi
   rw [List.getD_eq_getElem?_getD, List.getElem?_eq_getElem hi] at this
   rw [<- e]; exact this
 · intro h i hi
   refine h _ ?_
   rw [List.getD_eq_getElem?_getD, List.getElem?_eq_getElem hi]
   exact List.getElem_mem hi
def zsv (ws : List Int) (l : List Nat) (G : Nat -> Prop) : Prop :=
 (∀ p ∈ l, rdK (za ws p) = 2 -> (rvT ws (p + 2) = 0 /\ za ws (p + 1) = 0) \/ (rvT ws (p + 2) = 8 /\ G p)) /\
 (∀ p ∈ l, ∀ q ∈ l, rdK (za ws p) = 2 -> rdK (za ws q) = 2 -> rvT ws (p + 2) = 8 -> rvT ws (q + 2) = 8 -> zk ws p = zk ws q -> p = q)
theorem zmg {ws : List Int} {l : List Nat} {x : Int} : zee ws l x = true ↔ ∃ p ∈ l, rdK (za ws p) = 2 /\ rvT ws (p + 2) = 8 /\ x = (zk ws p : Int) := by
 unfold zee
 simp only [List.any_eq_true, Bool.and_eq_true, decide_eq_true_eq]
theorem zsw {l : List Nat} {i k : Nat} (h : i < k) (hk : k <= l.length) : l.getD i 0 ∈ l.take k := by
 rw [List.getD_eq_getElem?_getD, List.getElem?_eq_getElem (by omega)]
 exact List.mem_take_iff_getElem.2 ⟨i, by omega, rfl⟩
theorem zqg {l : List Nat} (hl : l.Nodup) {i j : Nat} (hi : i < l.length) (hj : j < l.length) (h : l.getD i 0 = l.getD j 0) : i = j := by
 rw [List.getD_eq_getElem?_getD, List.getElem?_eq_getElem hi, List.getD_eq_getElem?_getD, List.getElem?_eq_getElem hj] at h
 have hp := List.pairwise_iff_getElem.1 hl
 simp only [Option.getD_some] at h
 rcases Nat.lt_trichotomy i j with g | g | g
 · exact absurd h (hp i j hi hj g)
 · exact g
 · exact absurd h.symm (hp j i hj hi g)
theorem zsx {ws : List Int} {l : List Nat} (hl : l.Nodup) : zbs ws l l.length ↔ zsv ws l (fun p => zii ws (zk ws p) (za ws (p + 1))) := by
 constructor
 · intro h
   refine ⟨?_, ?_⟩
   · refine zmf.1 fun i hi => ?_
     intro hk
     rcases h i hi hk with g | ⟨g1, _, g3⟩
     · exact .inl g
     · exact .inr ⟨g1, g3⟩
   · have key : ∀ i, i < l.length -> ∀ j, j < i -> rdK (za ws (l.getD i 0)) = 2 -> rdK (za ws (l.getD j 0)) = 2 -> rvT ws (l.getD i 0 + 2) = 8 -> rvT ws (l.getD j 0 + 2) = 8 -> zk ws (l.getD i 0) = zk ws (l.getD j 0) -> False := fun i hi j hj k1 k2 r1 r2 e => by
      rcases h i hi k1 with g | ⟨_, g2, _⟩
      · rw [r1] at g; simp at g
      · have : zee ws (l.take i) (zk ws (l.getD i 0)) = true := zmg.2 ⟨l.getD j 0, zsw hj (by omega), k2, r2, by rw [e]⟩
        rw [g2] at this
        simp at this
     intro p hp q hq k1 k2 r1 r2 e
     obtain ⟨i, hi, ei⟩ := List.mem_iff_getElem.1 hp
     obtain ⟨j, hj, ej⟩ := List.mem_iff_getElem.1 hq
     have ei' : l.getD i 0 = p := by rw [List.getD_eq_getElem?_getD, List.getElem?_eq_getElem hi]; exact ei
     have ej' : l.getD j 0 = q := by rw [List.getD_eq_getElem?_getD, List.getElem?_eq_getElem hj]; exact ej
     subst ei' ej'
     rcases Nat.lt_trichotomy i j with g | g | g
     · exact (key j hj i g k2 k1 r2 r1 e.symm).elim
     · rw [g]
     · exact (key i hi j g k1 k2 r1 r2 e).elim
 · rintro ⟨h1, h2⟩ i hi hk
   have hm : l.getD i 0 ∈ l := by rw [List.getD_eq_getElem?_getD, List.getElem?_eq_getElem hi]; exact List.getElem_mem hi
   rcases h1 _ hm hk with g | ⟨g1, g3⟩
   · exact .inl g
   · refine .inr ⟨g1, ?_, g3⟩
     rw [<- Bool.not_eq_true, zmg]
     rintro ⟨q, hq, k2, r2, e⟩
     have e' : zk ws (l.getD i 0) = zk ws q := by omega
     have := h2 _ hm q (List.mem_of_mem_take hq) hk k2 g1 r2 e'
     obtain ⟨j, hj, ej⟩ := List.mem_take_iff_getElem.1 hq
     have hj' : j < i := by omega
     have ej' : l.getD j 0 = q := by rw [List.getD_eq_getElem?_getD, List.getElem?_eq_getElem (by omega)]; exact ej
     have := zqg hl hi (by omega) (this.trans ej'.symm)
     omega
theorem zi5 {mk : Nat -> Int} {ws : List Int} : ∀ {k i : Nat}, zbb mk ws k i = true ↔ ∃ p, p < k /\ zbu mk ws p = true /\ rvT ws (p + 2) = 8 /\ i = zk ws p
 | 0, i => by simp [zbb]
 | k + 1, i => by
   have ih := @zi5 mk ws k i
   unfold zbb
   by_cases ht : zbu mk ws k = true
   · rw [if_pos ht]
     unfold zdx
     simp only [Bool.or_eq_true, Bool.and_eq_true, decide_eq_true_eq, ih]
     constructor
     · rintro (⟨p, a, b⟩ | ⟨a, b⟩)
       · exact ⟨p, by omega, b⟩
       · exact ⟨k, by omega, ht, a, b⟩
     · rintro ⟨p, a, b, c, d⟩
       by_cases e : p = k
       · subst e; exact .inr ⟨c, d⟩
       · exact .inl ⟨p, by omega, b, c, d⟩
   · rw [if_neg ht, ih]
     constructor
     · rintro ⟨p, a, b⟩; exact ⟨p, by omega, b⟩
     · rintro ⟨p, a, b, c⟩
       by_cases e : p = k
       · subst e; exact absurd b ht
       · exact ⟨p, by omega, b, c⟩
theorem zqh {mk : Nat -> Int} {ws : List Int} {l : List Nat} {n : Nat} (hm : ∀ p, p ∈ l /\ rdK (za ws p) = 2 ↔ p < n /\ zbu mk ws p = true) : zcm mk ws n ↔ zsv ws l (zpx ws) := by
 constructor
 · intro h
   refine ⟨fun p hp hk => ?_, fun p hp q hq k1 k2 r1 r2 e => ?_⟩
   · obtain ⟨a, b⟩ := (hm p).1 ⟨hp, hk⟩
     rcases h p a b with g | ⟨g1, _, g3⟩
     · exact .inl g
     · exact .inr ⟨g1, g3⟩
   · obtain ⟨a1, b1⟩ := (hm p).1 ⟨hp, k1⟩
     obtain ⟨a2, b2⟩ := (hm q).1 ⟨hq, k2⟩
     have key : ∀ p q, p < n -> q < n -> zbu mk ws p = true -> zbu mk ws q = true -> rvT ws (p + 2) = 8 -> rvT ws (q + 2) = 8 -> zk ws p = zk ws q -> p < q -> False := fun p q a1 a2 b1 b2 r1 r2 e hlt => by
      rcases h q a2 b2 with g | ⟨_, g2, _⟩
      · rw [r2] at g; simp at g
      · have : zbb mk ws q (zk ws q) = true := zi5.2 ⟨p, hlt, b1, r1, e.symm⟩
        rw [g2] at this
        simp at this
     rcases Nat.lt_trichotomy p q with g | g | g
     · exact (key p q a1 a2 b1 b2 r1 r2 e g).elim
     · exact g
     · exact (key q p a2 a1 b2 b1 r2 r1 e.symm g).elim
 · rintro ⟨h1, h2⟩ p hp ht
   obtain ⟨a, b⟩ := (hm p).2 ⟨hp, ht⟩
   rcases h1 p a b with g | ⟨g1, g3⟩
   · exact .inl g
   · refine .inr ⟨g1, ?_, g3⟩
     rw [<- Bool.not_eq_true, zi5]
     rintro ⟨q, hq, ht2, r2, e⟩
     obtain ⟨a2, b2⟩ := (hm q).2 ⟨by omega, ht2⟩
     have := h2 p a q a2 b b2 g1 r2 e
     omega
section
variable {ws : List Int} {sr : Int} {S T : Nat} {cyc : Bool} {F : Nat} {old cpz sn : Int} {L O : List Nat}
theorem zar.bodies (h : zar ws sr S T cyc F old cpz sn L O) (hw : zg ws) :
 zax ws (zm ws L O) (S : Int) (T : Int) cyc sn (L ++ zl ws O) (L ++ zl ws O).length ↔ zbt (mk2 ws L O) ws cyc sn ws.length /\ ∀ p ∈ L ++ zl ws O, rdK (za ws p) = 2 -> rvT ws (p + 2) = 0 \/ rvT ws (p + 2) = 8 := by
 unfold zax
 rw [zmf (Q := fun p => zfq ws (zm ws L O) (S : Int) (T : Int) cyc sn p)]
 constructor
 · intro g
   refine ⟨fun p _ hp => ((h.body hw hp).1 (g p ((h.mem p).2 hp))).1, fun p hp => ((h.body hw ((h.mem p).1 hp)).1 (g p hp)).2⟩
 · rintro ⟨g1, g2⟩ p hp
   have ho := (h.mem p).1 hp
   exact (h.body hw ho).2 ⟨g1 p (by have := (h.lt hp).2; omega) ho, g2 p hp⟩
theorem zar.known (h : zar ws sr S T cyc F old cpz sn L O) (ho : zbt (mk2 ws L O) ws cyc sn ws.length) : zbm (mk2 ws L O) ws cyc sn := h.til.known h.Tn h.On h.ap ho
theorem zar.blk0 (h : zar ws sr S T cyc F old cpz sn L O) (hw : zg ws) (ho : zbt (mk2 ws L O) ws cyc sn ws.length) {p : Nat} (hp : p ∈ L ++ zl ws O) (hk : rdK (za ws p) = 2) (h8 : rvT ws (p + 2) = 8) : 0 < zk ws p := by
 have hK := h.known ho
 have hpo := (h.mem p).1 hp
 obtain ⟨hr, hin⟩ := h.lt hp
 have hs := zde hr
 rw [hk] at hs
 have hS : rdS (za ws p) = 3 := by rcases zbe hs with g | g | g | g | g | g <;> omega
 have hsl : slN (rdK (za ws p)) (rdS (za ws p)) = 1 := by rw [hk, hS]; rfl
 have hob := (hK.objs p (by omega) hpo).1 0 (by omega)
 have hX : p + (fs (rdK (za ws p)) + 2 * ((0 : Nat) : Int)).toNat = p + 2 := by rw [hk]; rfl
 rw [hX] at hob
 obtain ⟨a1, a2, a3⟩ := hob.2.1 (by simp [isR, h8])
 have := (h.lead0 (zb6 a2)).1
 unfold zk; omega
theorem zar.blk (h : zar ws sr S T cyc F old cpz sn L O) (hw : zg ws) (ho : zbt (mk2 ws L O) ws cyc sn ws.length) {p : Nat} (hp : p ∈ L ++ zl ws O) (hk : rdK (za ws p) = 2) (h8 : rvT ws (p + 2) = 8) : zi9 ws (L ++ zl ws O) (zk ws p) := by
 have hK := h.known ho
 have hpo := (h.mem p).1 hp
 obtain ⟨hr, hin⟩ := h.lt hp
 have hs := zde hr
 rw [hk] at hs
 have hS : rdS (za ws p) = 3 := by rcases zbe hs with g | g | g | g | g | g <;> omega
 have hsl : slN (rdK (za ws p)) (rdS (za ws p)) = 1 := by rw [hk, hS]; rfl
 have hob := (hK.objs p (by omega) hpo).1 0 (by omega)
 have hX : p + (fs (rdK (za ws p)) + 2 * ((0 : Nat) : Int)).toNat = p + 2 := by rw [hk]; rfl
 rw [hX] at hob
 obtain ⟨a1, a2, a3⟩ := hob.2.1 (by simp [isR, h8])
 have hQ : zbf (mk2 ws L O) (zk ws p) := hK.leads _ (zb6 a2)
 have hk3 : rdK (za ws (zk ws p)) = 3 := by unfold zk; rw [a3]; simp [za2, h8]
 obtain ⟨hr3, hin3⟩ := hK.within _ hQ
 have hs3 := zde hr3
 rw [hk3] at hs3
 have hS3 : rdS (za ws (zk ws p)) = 16 \/ rdS (za ws (zk ws p)) = 32 \/ rdS (za ws (zk ws p)) = 64 \/ rdS (za ws (zk ws p)) = 128 \/ rdS (za ws (zk ws p)) = 256 := by
  rw [zft] at hs3; unfold SOk at hs3; omega
 have hcap : 4 * zao ws (zk ws p) = (rdS (za ws (zk ws p))).toNat := by unfold zao; omega
 refine ⟨by unfold zao; omega, fun i hi => ?_⟩
 have hj : (2 * i : Nat) < slN (rdK (za ws (zk ws p))) (rdS (za ws (zk ws p))) := by
  rw [hk3]
  refine (zff hs3 (2 * i)).1 ?_
  simp [fs]
  omega
 have hsl3 := (hK.objs _ (by omega) hQ).1 (2 * i) hj
 have e : zk ws p + (fs (rdK (za ws (zk ws p))) + 2 * ((2 * i : Nat) : Int)).toNat = zk ws p + 1 + 4 * i := by
  rw [hk3]; simp [fs]; omega
 rw [e] at hsl3
 obtain ⟨b1, b2, b3, b4, _⟩ := hsl3
 refine ⟨⟨fun g => b3 ⟨g, by rw [hk3]; decide⟩, fun g => b4 ⟨g, hk3⟩, fun g => ?_⟩, zmt hw b1, zja b1⟩
 have hir : isR (kT ws (zk ws p) i) = true := by simp only [isR, decide_eq_true_eq]; omega
 obtain ⟨c1, c2, c3⟩ := b2 hir
 have hne := zb6 c2
 have hob2 := hK.leads _ hne
 have hkd : za2 (kT ws (zk ws p) i) = 2 \/ za2 (kT ws (zk ws p) i) = 4 \/ za2 (kT ws (zk ws p) i) = 6 := by
  rcases g with g | g | g <;> rw [g] <;> simp [za2]
 have c3' : rdK (za ws (zi ws (kN ws (zk ws p) i).toNat).toNat) = za2 (kT ws (zk ws p) i) := c3
 have l0 := h.lead0 hne
 exact ⟨by have : 1 <= zi ws (kN ws (zk ws p) i).toNat := l0.1; omega, (h.mem _).2 hob2, zqi (h.til.object hob2).1 (by rw [c3']; exact hkd)⟩
theorem zar.tabIs (h : zar ws sr S T cyc F old cpz sn L O) (hw : zg ws) (hb : zax ws (zm ws L O) (S : Int) (T : Int) cyc sn (L ++ zl ws O) (L ++ zl ws O).length) {p : Nat} (hp : p ∈ L ++ zl ws O) (hk : rdK (za ws p) = 2) : zhg ws p := by
 obtain ⟨ho, ht⟩ := (h.bodies hw).1 hb
 refine ⟨(h.known ho).tab hw ?_, ht p hp hk, fun h8 => ⟨h.blk0 hw ho hp hk h8, fun i hi => ?_⟩⟩
 · have := (h.mem p).1 hp
   simp only [zbu, Bool.and_eq_true, Bool.or_eq_true, decide_eq_true_eq]
   exact ⟨this, hk⟩
 · have := ((h.blk hw ho hp hk h8).key i hi).1
   exact ⟨this.1, this.2.1⟩
theorem zar.whole (h : zar ws sr S T cyc F old cpz sn L O) (hw : zg ws) (hser : (zag ws (L ++ zl ws O)).Nodup) (y : Nat -> Int) (rl : Nat) :
 (zax ws (zm ws L O) (S : Int) (T : Int) cyc sn (L ++ zl ws O) (L ++ zl ws O).length /\ zbs ws (L ++ zl ws O) (L ++ zl ws O).length /\ zbl ws (zm ws L O) (S : Int) (T : Int) y rl) ↔
   zbt (mk2 ws L O) ws cyc sn ws.length /\ zcm (mk2 ws L O) ws ws.length /\ zb9 (mk2 ws L O) ws y rl := by
 rw [h.bodies hw, h.roots y rl, zsx h.nodup]
 have hone := (zg5 h.nodup).1 hser
 have hm : ∀ p, p ∈ L ++ zl ws O /\ rdK (za ws p) = 2 ↔ p < ws.length /\ zbu (mk2 ws L O) ws p = true := fun p => by
  rw [h.mem p]
  simp only [zbu, Bool.and_eq_true, Bool.or_eq_true, decide_eq_true_eq]
  exact ⟨fun g => ⟨by have := (h.lt ((h.mem p).2 g.1)).2; omega, g⟩, fun g => g.2⟩
 rw [zqh hm]
 constructor
 · rintro ⟨⟨ho, _⟩, ⟨t1, t2⟩, hr⟩
   refine ⟨ho, ⟨fun p hp hk => ?_, t2⟩, hr⟩
   rcases t1 p hp hk with g | ⟨g1, g2⟩
   · exact .inl g
   · exact .inr ⟨g1, (zmi hone (h.blk hw ho hp hk g1) _).1 g2⟩
 · rintro ⟨ho, ⟨t1, t2⟩, hr⟩
   refine ⟨⟨ho, fun p hp hk => ?_⟩, ⟨fun p hp hk => ?_, t2⟩, hr⟩
   · rcases t1 p hp hk with g | ⟨g1, _⟩
     · exact .inl g.1
     · exact .inr g1
   · rcases t1 p hp hk with g | ⟨g1, g2⟩
     · exact .inl g
     · exact .inr ⟨g1, (zmi hone (h.blk hw ho hp hk g1) _).2 g2⟩
end
end Go.Proofs.YtmckcnmlhgpnhaaGreat
