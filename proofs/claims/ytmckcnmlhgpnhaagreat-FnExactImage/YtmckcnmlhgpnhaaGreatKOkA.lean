/- Of a tiled arena the marks speak of places that lead into the words. No Go here. -/
import Derived.Test.YtmckcnmlhgpnhaaGreatKTileD
import Derived.Test.YtmckcnmlhgpnhaaGreatKLeadsB
import Derived.Test.YtmckcnmlhgpnhaaGreatKObjectA
import Derived.Test.YtmckcnmlhgpnhaaGreatKTabA
import Derived.Test.YtmckcnmlhgpnhaaGreatKSerialsA
import Derived.Test.YtmckcnmlhgpnhaaGreatKNumbersF
namespace Go.Proofs.YtmckcnmlhgpnhaaGreat
set_option maxRecDepth 20000
open Go.RowKit
set_option linter.unusedVariables false

theorem rd_not_fw {x : Int} (h : rdOk x = true) : fwOk x = false := by
  unfold rdOk at h
  rw [hOk_iff] at h
  unfold HOk at h
  unfold fwOk
  apply decide_eq_false
  omega
theorem leadsAt_head {ws : List Int} {p : Nat} (h : rdOk (wordAt ws p) = true) : leadsAt ws p = p := by
  unfold leadsAt
  rw [if_neg (by simp [rd_not_fw h])]
theorem fwP_nonneg (x : Int) : 0 ≤ fwP x := by
  unfold fwP
  split
  · rename_i h
    simp only [fwOk, decide_eq_true_eq] at h
    omega
  · exact Int.le_refl _
theorem leadsAt_fw {ws : List Int} {p : Nat} (h : fwOk (wordAt ws p) = true) : leadsAt ws p = fwTo ws p := by
  unfold leadsAt fwTo
  rw [if_pos h]
  have := fwP_nonneg (wordAt ws p)
  omega
theorem mk2_ne {ws : List Int} {U O : List Nat} {i : Nat} (h : mk2 ws U O i ≠ 0) : i ∈ O ∨ i ∈ U := by
  by_cases h1 : i ∈ O
  · exact .inl h1
  · by_cases h2 : i ∈ U
    · exact .inr h2
    · exact absurd (by simp [mk2, h1, h2]) h
theorem Tiling.marks {ws : List Int} {serial : Int} {S T : Nat} {cyc : Bool} {F : Nat} {old copied scan : Int} {L O : List Nat} (h : Tiling ws serial S T cyc F old copied scan L O) (hT : T ≤ ws.length) : Marks (mk2 ws L O) ws := by
  intro i hi hne
  have hL : ∀ p ∈ L, rdOk (wordAt ws p) = true ∧ p < T := fun p hp => by
    obtain ⟨_, h2, s, hs, _⟩ := h.use.mem p hp
    exact ⟨(nx1_some hs).1, h2⟩
  rcases mk2_ne hne with ho | hl
  · cases cyc with
    | false => rw [h.still rfl] at ho; simp at ho
    | true =>
      obtain ⟨_, _, s, hs, _⟩ := (h.runs rfl).1.mem i ho
      by_cases hr : rdOk (wordAt ws i) = true
      · rw [leadsAt_head hr]; omega
      · rw [Bool.not_eq_true] at hr
        obtain ⟨g1, g2, _⟩ := nx2_fw hs hr
        rw [leadsAt_fw g1]
        have := (hL _ g2).2
        omega
  · rw [leadsAt_head (hL i hl).1]; omega
/-- What is marked as an object has a head. -/
theorem Tiling.object {ws : List Int} {serial : Int} {S T : Nat} {cyc : Bool} {F : Nat} {old copied scan : Int} {L O : List Nat} (h : Tiling ws serial S T cyc F old copied scan L O) {i : Nat} (hi : mk2 ws L O i = 1 ∨ mk2 ws L O i = 2) : rdOk (wordAt ws i) = true ∧ (i ∈ L ∨ i ∈ O) := by
  by_cases ho : i ∈ O
  · refine ⟨?_, .inr ho⟩
    cases cyc with
    | false => rw [h.still rfl] at ho; simp at ho
    | true =>
      obtain ⟨_, _, s, hs, _⟩ := (h.runs rfl).1.mem i ho
      by_cases hr : rdOk (wordAt ws i) = true
      · exact hr
      · rw [Bool.not_eq_true] at hr
        have g := (nx2_fw hs hr).1
        have hf : isFw ws i = true := by simp [isFw, hr, g]
        exfalso
        simp [mk2, ho, hf] at hi
  · by_cases hl : i ∈ L
    · obtain ⟨_, _, s, hs, _⟩ := h.use.mem i hl
      exact ⟨(nx1_some hs).1, .inl hl⟩
    · exfalso
      simp [mk2, ho, hl] at hi
/-- An object's words lie within the words. -/
theorem Tiling.within {ws : List Int} {serial : Int} {S T : Nat} {cyc : Bool} {F : Nat} {old copied scan : Int} {L O : List Nat} (h : Tiling ws serial S T cyc F old copied scan L O) (hT : T ≤ ws.length) (hO : cyc = true → old ≤ ws.length) {i : Nat} (hi : mk2 ws L O i = 1 ∨ mk2 ws L O i = 2) : i + (rdS (wordAt ws i)).toNat < ws.length := by
  obtain ⟨hr, hm⟩ := h.object hi
  rcases hm with hl | ho
  · obtain ⟨_, _, s, hs, hle⟩ := h.use.mem i hl
    have := (nx1_some hs).2.2
    omega
  · cases cyc with
    | false => rw [h.still rfl] at ho; simp at ho
    | true =>
      obtain ⟨_, _, s, hs, hle⟩ := (h.runs rfl).1.mem i ho
      have := (nx2_head hs hr).2
      have := hO rfl
      omega
end Go.Proofs.YtmckcnmlhgpnhaaGreat

/- What a right arena is, on whole numbers alone; and that of right objects the tables' blocks can be looked at. No Go here. -/
namespace Go.Proofs.YtmckcnmlhgpnhaaGreat
set_option maxRecDepth 20000
open Go.RowKit
set_option linter.unusedVariables false

/-- An object stands at p. -/
def isObj (mk : Nat → Int) (p : Nat) : Prop := mk p = 1 ∨ mk p = 2
/-- All objects below k are right, but for tables' blocks. -/
def ObjsOk (mk : Nat → Int) (ws : List Int) (cyc : Bool) (scan : Int) (k : Nat) : Prop := ∀ p, p < k → isObj mk p → ObjOk mk ws (frOf mk cyc scan p) p
def isTab (mk : Nat → Int) (ws : List Int) (p : Nat) : Bool := (decide (mk p = 1) || decide (mk p = 2)) && decide (rdK (wordAt ws p) = 2)
/-- The blocks that the tables below k have. -/
def ledN (mk : Nat → Int) (ws : List Int) : Nat → Nat → Bool
  | 0 => fun _ => false
  | k + 1 => if isTab mk ws k = true then ledNext ws (ledN mk ws k) k else ledN mk ws k
def TabsOk (mk : Nat → Int) (ws : List Int) (k : Nat) : Prop := ∀ p, p < k → isTab mk ws p = true → TabGood ws (ledN mk ws p) p
/-- The first k Roots, of which y has the two numbers each, are right. -/
def RootsOk (mk : Nat → Int) (ws : List Int) (y : Nat → Int) (k : Nat) : Prop := ∀ i, i < k → vOk (y (2 * i)) (y (2 * i + 1)) = true ∧ y (2 * i) ≠ 8 ∧ LeadsTo mk ws (y (2 * i)) (y (2 * i + 1)) 1

theorem rd_kinds {x : Int} (h : rdK x ≠ 0) : rdOk x = true ∧ sOk (rdK x) (rdS x) = true := by
  by_cases g : rdOk x = true
  · exact ⟨g, rd_sOk g⟩
  · exact absurd (by simp [rdK, g]) h
theorem mk2_use {ws : List Int} {L O : List Nat} {i : Nat} (hL : i ∈ L) (hO : i ∉ O) : mk2 ws L O i = 1 := by simp [mk2, hL, hO]
theorem Tiling.apart_halves {ws : List Int} {serial : Int} {S T : Nat} {cyc : Bool} {F : Nat} {old copied scan : Int} {L O : List Nat} (h : Tiling ws serial S T cyc F old copied scan L O) (hd : cyc = true → T ≤ F ∨ old.toNat ≤ S) : ∀ p ∈ L, p ∉ O := fun p hp hq => by
  cases cyc with
  | false => rw [h.still rfl] at hq; simp at hq
  | true =>
    have g1 := h.use.mem p hp
    have g2 := (h.runs rfl).1.mem p hq
    have := hd rfl
    omega
/-- What is marked leads to an object. -/
theorem Tiling.leads {ws : List Int} {serial : Int} {S T : Nat} {cyc : Bool} {F : Nat} {old copied scan : Int} {L O : List Nat} (h : Tiling ws serial S T cyc F old copied scan L O) (hd : cyc = true → T ≤ F ∨ old.toNat ≤ S) {i : Nat} (hi : mk2 ws L O i ≠ 0) : isObj (mk2 ws L O) (leadsAt ws i).toNat := by
  have hLO := h.apart_halves hd
  rcases mk2_ne hi with ho | hl
  · cases cyc with
    | false => rw [h.still rfl] at ho; simp at ho
    | true =>
      obtain ⟨_, _, s, hs, _⟩ := (h.runs rfl).1.mem i ho
      by_cases hr : rdOk (wordAt ws i) = true
      · rw [leadsAt_head hr, Int.toNat_natCast]
        refine .inr ?_
        have hf : isFw ws i = false := by simp [isFw, hr]
        simp [mk2, ho, hf]
      · rw [Bool.not_eq_true] at hr
        obtain ⟨g1, g2, _⟩ := nx2_fw hs hr
        rw [leadsAt_fw g1, Int.toNat_natCast]
        exact .inl (mk2_use g2 (hLO _ g2))
  · obtain ⟨_, _, s, hs, _⟩ := h.use.mem i hl
    rw [leadsAt_head (nx1_some hs).1, Int.toNat_natCast]
    exact .inl (mk2_use hl (hLO _ hl))

/-- What is known of the objects of an arena of which all are right. -/
structure Known (mk : Nat → Int) (ws : List Int) (cyc : Bool) (scan : Int) : Prop where
  marks : Marks mk ws
  leads : ∀ i, mk i ≠ 0 → isObj mk (leadsAt ws i).toNat
  within : ∀ i, isObj mk i → rdOk (wordAt ws i) = true ∧ i + (rdS (wordAt ws i)).toNat < ws.length
  objs : ObjsOk mk ws cyc scan ws.length

theorem Known.text {mk : Nat → Int} {ws : List Int} {cyc : Bool} {scan : Int} (h : Known mk ws cyc scan) (hw : Words64 ws) {q : Nat} (hq : isObj mk q) (h1 : rdK (wordAt ws q) = 1) : TextIn ws q := by
  obtain ⟨hr, hin⟩ := h.within q hq
  have ho := (h.objs q (by omega) hq).2.1 h1
  simp only [strOk, decide_eq_true_eq] at ho
  have hx := word_in hw (q + 1)
  refine ⟨ho.1, ?_⟩
  unfold txtN
  have := ho.2.1
  omega
/-- A right slot can be looked at as a key. -/
theorem Known.key {mk : Nat → Int} {ws : List Int} {cyc : Bool} {scan : Int} (h : Known mk ws cyc scan) (hw : Words64 ws) {fr k : Int} {X : Nat} (hX : SlotOk mk ws fr k X) : KeyIn ws (rvT ws X) (rvN ws X) := by
  obtain ⟨hr, hl, _⟩ := hX
  have hpos := rv_ref hw hr
  have key : isR (rvT ws X) = true → 0 ≤ rvN ws X ∧ rvN ws X < ws.length ∧ mk (rvN ws X).toNat ≠ 0 ∧ rdK (wordAt ws (leadsAt ws (rvN ws X).toNat).toNat) = kindOf (rvT ws X) := fun g => by
    obtain ⟨a1, a2, a3⟩ := hl g
    exact ⟨by have := hpos g; omega, a1, fromOk_ne a2, a3⟩
  refine ⟨fun g => ?_, fun g => ?_⟩
  · obtain ⟨a1, a2, a3, _⟩ := key g
    have := h.marks (rvN ws X).toNat (by omega) a3
    exact ⟨a1, a2, this.1, this.2⟩
  · obtain ⟨a1, a2, a3, a4⟩ := key (by simp [isR, g])
    refine h.text hw (h.leads _ a3) ?_
    rw [a4]; simp [kindOf, g]
theorem Known.tab {mk : Nat → Int} {ws : List Int} {cyc : Bool} {scan : Int} (h : Known mk ws cyc scan) (hw : Words64 ws) {p : Nat} (hp : isTab mk ws p = true) : TabIn ws p := by
  simp only [isTab, Bool.and_eq_true, Bool.or_eq_true, decide_eq_true_eq] at hp
  obtain ⟨ho, hk⟩ := hp
  obtain ⟨hr, hin⟩ := h.within p ho
  have hs := rd_sOk hr
  rw [hk] at hs
  have hS : rdS (wordAt ws p) = 3 := by rcases sOk_kinds hs with g | g | g | g | g | g <;> omega
  have hsl : slN (rdK (wordAt ws p)) (rdS (wordAt ws p)) = 1 := by rw [hk, hS]; rfl
  have hob := (h.objs p (by omega) ho).1 0 (by omega)
  have hX : p + (fs (rdK (wordAt ws p)) + 2 * ((0 : Nat) : Int)).toNat = p + 2 := by rw [hk]; rfl
  rw [hX] at hob
  refine ⟨by omega, fun h8 => ?_⟩
  have hky := (h.key hw hob).1 (by simp [isR, h8])
  obtain ⟨a1, a2, a3⟩ := hob.2.1 (by simp [isR, h8])
  have hQ : isObj mk (blkOf ws p) := h.leads _ (fromOk_ne a2)
  have hk3 : rdK (wordAt ws (blkOf ws p)) = 3 := by unfold blkOf; rw [a3]; simp [kindOf, h8]
  obtain ⟨hr3, hin3⟩ := h.within _ hQ
  have hs3 := rd_sOk hr3
  rw [hk3] at hs3
  have hS3 : rdS (wordAt ws (blkOf ws p)) = 16 ∨ rdS (wordAt ws (blkOf ws p)) = 32 ∨ rdS (wordAt ws (blkOf ws p)) = 64 ∨ rdS (wordAt ws (blkOf ws p)) = 128 ∨ rdS (wordAt ws (blkOf ws p)) = 256 := by
    rw [sOk_iff] at hs3; unfold SOk at hs3; omega
  have hcap : 4 * capN ws (blkOf ws p) = (rdS (wordAt ws (blkOf ws p))).toNat ∧ 0 < capN ws (blkOf ws p) ∧ capN ws (blkOf ws p) ≤ 64 := by unfold capN; omega
  have hslot : ∀ i, i < capN ws (blkOf ws p) → SlotOk mk ws (frOf mk cyc scan (blkOf ws p)) (rdK (wordAt ws (blkOf ws p))) (blkOf ws p + 1 + 4 * i) := fun i hi => by
    have hj : (2 * i : Nat) < slN (rdK (wordAt ws (blkOf ws p))) (rdS (wordAt ws (blkOf ws p))) := by
      rw [hk3]
      refine (slN_lt hs3 (2 * i)).1 ?_
      simp [fs]
      omega
    have := (h.objs _ (by omega) hQ).1 (2 * i) hj
    have e : blkOf ws p + (fs (rdK (wordAt ws (blkOf ws p))) + 2 * ((2 * i : Nat) : Int)).toNat = blkOf ws p + 1 + 4 * i := by
      rw [hk3]; simp [fs]; omega
    rwa [e] at this
  exact ⟨hky.1, hky.2.1, hky.2.2.1, by omega, hcap.2.1, hcap.2.2, ⟨by omega, fun i hi => h.key hw (hslot i hi)⟩, fun i hi => rv_vOk hw (hslot i hi).1⟩
/-- A right arena, of which the numbers are right. -/
def ArenaGood (ws : List Int) (semi toh top : Int) (cyc : Bool) (scan old copied serial : Int) (y : Nat → Int) (rl : Nat) : Prop :=
  ∃ L O, Tiling ws serial (toh * semi + 1).toNat top.toNat cyc ((1 - toh) * semi + 1).toNat old copied scan L O ∧ (hadL (mk2 ws L O) ws ws.length).Nodup ∧ ObjsOk (mk2 ws L O) ws cyc scan ws.length ∧ TabsOk (mk2 ws L O) ws ws.length ∧ RootsOk (mk2 ws L O) ws y rl
theorem num_facts {wl : Nat} {semi toh top : Int} {cyc : Bool} {scan old copied serial : Int} {rl : Nat} (h : numOk wl semi toh top cyc scan old copied serial rl = true) :
    256 ≤ semi ∧ semi ≤ 4000 ∧ (wl : Int) = 2 * semi ∧ 0 ≤ toh ∧ toh ≤ 1 ∧ rl ≤ 24 ∧ toh * semi + 1 ≤ top ∧ top ≤ (toh + 1) * semi ∧ (cyc = true → (1 - toh) * semi + 1 ≤ old ∧ old ≤ (2 - toh) * semi) := by
  simp only [numOk, num1, num2, inB, Bool.and_eq_true, decide_eq_true_eq] at h
  obtain ⟨⟨⟨a1, a2, a3, a4, a5, a6, a7, a8⟩, b1, b2⟩, c⟩ := h
  refine ⟨a1, a2, a3, a4, a5, a8, b1, b2, fun hc => ?_⟩
  rw [if_pos hc] at c
  unfold num3 firstOf at c
  have c := of_decide_eq_true c
  exact ⟨c.1, c.2.1⟩
theorem Tiling.known {ws : List Int} {serial : Int} {S T : Nat} {cyc : Bool} {F : Nat} {old copied scan : Int} {L O : List Nat} (h : Tiling ws serial S T cyc F old copied scan L O) (hT : T ≤ ws.length) (hO : cyc = true → old ≤ ws.length) (hd : cyc = true → T ≤ F ∨ old.toNat ≤ S) (ho : ObjsOk (mk2 ws L O) ws cyc scan ws.length) : Known (mk2 ws L O) ws cyc scan :=
  ⟨h.marks hT, fun i hi => h.leads hd hi, fun i hi => ⟨(h.object hi).1, h.within hT hO hi⟩, ho⟩
theorem Tiling.same {ws : List Int} {serial : Int} {S T : Nat} {cyc : Bool} {F : Nat} {old copied scan : Int} {L O L' O' : List Nat} (h : Tiling ws serial S T cyc F old copied scan L O) (h' : Tiling ws serial S T cyc F old copied scan L' O') : L' = L ∧ O' = O := by
  obtain rfl := h'.use.unique h.use
  refine ⟨rfl, ?_⟩
  cases cyc with
  | false => rw [h.still rfl, h'.still rfl]
  | true => exact (h'.runs rfl).1.unique (h.runs rfl).1
theorem tabs_step {mk : Nat → Int} {ws : List Int} {k : Nat} (h : TabsOk mk ws k) (hk : isTab mk ws k = true → TabGood ws (ledN mk ws k) k) : TabsOk mk ws (k + 1) := fun p hp ht => by
  by_cases e : p = k
  · subst e; exact hk ht
  · exact h p (by omega) ht
theorem objs_step {mk : Nat → Int} {ws : List Int} {cyc : Bool} {scan : Int} {k : Nat} (h : ObjsOk mk ws cyc scan k) (hk : isObj mk k → ObjOk mk ws (frOf mk cyc scan k) k) : ObjsOk mk ws cyc scan (k + 1) := fun p hp ht => by
  by_cases e : p = k
  · subst e; exact hk ht
  · exact h p (by omega) ht
theorem roots_step {mk : Nat → Int} {ws : List Int} {y : Nat → Int} {k : Nat} (h : RootsOk mk ws y k) (hk : vOk (y (2 * k)) (y (2 * k + 1)) = true ∧ y (2 * k) ≠ 8 ∧ LeadsTo mk ws (y (2 * k)) (y (2 * k + 1)) 1) : RootsOk mk ws y (k + 1) := fun p hp => by
  by_cases e : p = k
  · subst e; exact hk
  · exact h p (by omega)
end Go.Proofs.YtmckcnmlhgpnhaaGreat
