/- A scope with many labels; the state of the program's scan. -/
import Derived.Test.YtiglkhkfbgjjoaaDoorProg
import Derived.Test.YtiglkhkfbgjjoaaDoorBLxP
import Derived.WalkMore
import Derived.ScopeJumps
namespace Go.Proofs.YtiglkhkfbgjjoaaDoor
set_option maxRecDepth 20000
open Go.RowKit Go.PlainAid
set_option linter.unusedSimpArgs false
set_option linter.unusedVariables false

/-- As Q; by a goto to a label l: J l. -/
def jumps (J : Nat → Act → World → Prop) (Q : Exit → Act → World → Prop) : Exit → Act → World → Prop
  | .goto l, a, w => J l a w
  | e, a, w => Q e a w
/-- A scope in which the run jumps to any of its labels: what holds at each jump (J l m), m a number that falls. -/
theorem wp_scope_labels {P : Program} {a : Act} {w : World} {Q : Exit → Act → World → Prop} {c : Code} (J : Nat → Nat → Act → World → Prop)
    (first : c.wp P (jumps (fun l a w => ∃ m, J l m a w) Q) a w)
    (pass : ∀ l m a w, J l m a w → ∃ rest, findLabel c l = some rest ∧ rest.wp P (jumps (fun l' a' w' => ∃ m', m' < m ∧ J l' m' a' w') Q) a w) : (Code.scope c).wp P Q a w := by
  intro b k cs
  have key : ∀ n l a w, J l n a w → ∃ e a' w', Q e a' w' ∧ ∃ rest, findLabel c l = some rest ∧ Arrives P (lone (b.at a (.code rest :: .inScope c :: k)) cs w) b k cs e a' w' := by
    intro n
    induction n using Nat.strongRecOn with
    | _ n ih =>
      intro l a w hJ
      obtain ⟨rest, hf, hp⟩ := pass l n a w hJ
      obtain ⟨e, a₁, w₁, hq, harr⟩ := hp b (.inScope c :: k) cs
      cases e with
      | normal => exact ⟨.normal, a₁, w₁, hq, rest, hf, Steps.trans harr (.one step_inScope)⟩
      | exit id => exact ⟨.exit id, a₁, w₁, hq, rest, hf, fun k' hk => harr k' (by simp [exitTo, hk])⟩
      | goto l' =>
        obtain ⟨m', hlt, hJ'⟩ := hq
        obtain ⟨e₂, a₂, w₂, hq₂, rest', hf', harr₂⟩ := ih m' hlt l' a₁ w₁ hJ'
        have hg : gotoIn l' (.inScope c :: k) = some (.code rest' :: .inScope c :: k) := by simp [gotoIn, hf']
        exact ⟨e₂, a₂, w₂, hq₂, rest, hf, .of_steps (harr _ hg) harr₂⟩
      | ret => exact ⟨_, a₁, w₁, hq, rest, hf, harr⟩
      | panic ch => exact ⟨_, a₁, w₁, hq, rest, hf, harr⟩
      | outgrown => exact ⟨_, a₁, w₁, hq, rest, hf, harr⟩
  obtain ⟨e, a₁, w₁, hq, harr⟩ := first b (.inScope c :: k) cs
  cases e with
  | normal => exact ⟨.normal, a₁, w₁, hq, .head step_scope (Steps.trans harr (.one step_inScope))⟩
  | exit id => exact ⟨.exit id, a₁, w₁, hq, fun k' hk => .head step_scope (harr k' (by simp [exitTo, hk]))⟩
  | goto l' =>
    obtain ⟨m, hJ'⟩ := hq
    obtain ⟨e₂, a₂, w₂, hq₂, rest', hf', harr₂⟩ := key m l' a₁ w₁ hJ'
    have hg : gotoIn l' (.inScope c :: k) = some (.code rest' :: .inScope c :: k) := by simp [gotoIn, hf']
    exact ⟨e₂, a₂, w₂, hq₂, .of_steps (.head step_scope (harr _ hg)) harr₂⟩
  | ret => exact ⟨_, a₁, w₁, hq, .of_steps (.one step_scope) harr⟩
  | panic ch => exact ⟨_, a₁, w₁, hq, .of_steps (.one step_scope) harr⟩
  | outgrown => exact ⟨_, a₁, w₁, hq, .of_steps (.one step_scope) harr⟩
theorem wp_scope_zero {P : Program} {a : Act} {w : World} {Q : Exit → Act → World → Prop} {X : Code} (J : Nat → Nat → Act → World → Prop) (m0 : Nat) (h0 : J 0 m0 a w)
    (P0 : ∀ m a w, J 0 m a w → X.wp P (jumps (fun l' a' w' => ∃ m', m' < m ∧ J l' m' a' w') Q) a w)
    (pass : ∀ l m a w, l ≠ 0 → J l m a w → ∃ rest, findLabel (Code.seq (Code.label 0) X) l = some rest ∧ rest.wp P (jumps (fun l' a' w' => ∃ m', m' < m ∧ J l' m' a' w') Q) a w) : (Code.scope (Code.seq (Code.label 0) X)).wp P Q a w := by
  refine wp_scope_labels J ?_ ?_
  · refine wp_seq (wp_label ?_)
    refine Code.wp_mono ?_ (P0 m0 a w h0)
    intro e a' w' h
    cases e with
    | goto l => obtain ⟨m', _, h⟩ := h; exact ⟨m', h⟩
    | _ => exact h
  · intro l m a w hJ
    by_cases e : l = 0
    · subst e
      exact ⟨.seq .skip X, by simp [findLabel], wp_seq (wp_skip (P0 m a w hJ))⟩
    · exact pass l m a w e hJ
/-- What holds of the byte at i, by the label. -/
def cls (t : ByteArray) (i : Nat) : Nat → Prop
  | 1 => remB t i = true
  | 2 => remB t i = false ∧ ltB (bt t i) = true
  | 3 => remB t i = false ∧ ltB (bt t i) = false ∧ dgB (bt t i) = true
  | 4 => remB t i = false ∧ ltB (bt t i) = false ∧ dgB (bt t i) = false ∧ bt t i = 34
  | 5 => remB t i = false ∧ ltB (bt t i) = false ∧ dgB (bt t i) = false ∧ ¬ bt t i = 34
  | _ => False
/-- The scanner and its tokens in a world. -/
structure ScW (t : ByteArray) (sb : Nat) (w0 w : World) (fr i : Nat) (va : Option Addr) (vc : Nat) (acc : List TokD) : Prop where
  s : Scn w sb t fr i (.slice va acc.length vc)
  k : Toks (sb + 1) w (.slice va acc.length vc) acc
  b : Below sb w0 w
theorem ScW.read {t : ByteArray} {sb : Nat} {w0 w w' : World} {fr i : Nat} {va : Option Addr} {vc : Nat} {acc : List TokD} (h : ScW t sb w0 w fr i va vc acc) (hb : Below w.heap.size w w') : ScW t sb w0 w' fr i va vc acc :=
  ⟨h.s.below hb h.s.lt, h.k.below hb, h.b.trans (hb.mono (Nat.le_of_lt h.s.lt))⟩
theorem ScW.grown {t : ByteArray} {sb : Nat} {w0 w w' : World} {fr i j : Nat} {va : Option Addr} {vc : Nat} {acc : List TokD} (h : ScW t sb w0 w fr i va vc acc) (hs : Scn w' sb t fr j (.slice va acc.length vc)) (hg : w.grownBy w' (some sb)) : ScW t sb w0 w' fr j va vc acc :=
  ⟨hs, h.k.grown hg (Nat.lt_succ_self _), h.b.trans (below_grown hg (Nat.le_of_lt h.s.lt))⟩
theorem ScW.setFrom {t : ByteArray} {sb : Nat} {w0 w : World} {fr i : Nat} {va : Option Addr} {vc : Nat} {acc : List TokD} (h : ScW t sb w0 w fr i va vc acc) (a : Nat) : ScW t sb w0 (w.setCell ⟨sb, 1, none⟩ (.int .i64 (a : Int))) a i va vc acc :=
  ⟨h.s.setFrom a, h.k.grown (grown_set _ _ _ _) (Nat.lt_succ_self _), h.b.setCell (Nat.le_refl _) _⟩
theorem ScW.setAt {t : ByteArray} {sb : Nat} {w0 w : World} {fr i : Nat} {va : Option Addr} {vc : Nat} {acc : List TokD} (h : ScW t sb w0 w fr i va vc acc) (a : Nat) : ScW t sb w0 (w.setCell ⟨sb, 2, none⟩ (.int .i64 (a : Int))) fr a va vc acc :=
  ⟨h.s.set a, h.k.grown (grown_set _ _ _ _) (Nat.lt_succ_self _), h.b.setCell (Nat.le_refl _) _⟩
theorem ScW.drew {t : ByteArray} {sb : Nat} {w0 w : World} {fr i : Nat} {va : Option Addr} {vc : Nat} {acc : List TokD} (h : ScW t sb w0 w fr i va vc acc) : ScW t sb w0 w.drew fr i va vc acc := ⟨h.s.drew, h.k, h.b.drew⟩
theorem ScW.drewN {t : ByteArray} {sb : Nat} {w0 w : World} {fr i : Nat} {va : Option Addr} {vc : Nat} {acc : List TokD} (h : ScW t sb w0 w fr i va vc acc) (n : Nat) : ScW t sb w0 (w.drewN n) fr i va vc acc := h.read (below_drewN (Below.refl _ _) n)
/-- What holds at a jump to the label l. -/
def ScSt (t : ByteArray) (sb : Nat) (w0 : World) (R : Int × Nat × List TokD) (l m : Nat) (w : World) : Prop :=
  ∃ (i fr : Nat) (va : Option Addr) (vc : Nat) (acc : List TokD), ScW t sb w0 w fr i va vc acc ∧ acc.length ≤ i ∧ i ≤ t.size ∧ lexF t i acc = R ∧
    ((l = 0 ∧ m = 2 * (t.size - i) + 1) ∨ (fr = i ∧ i < t.size ∧ m = 2 * (t.size - i) ∧ bkB (bt t i) = false ∧ cls t i l))
/-- What scan leaves. -/
def ScPost (t : ByteArray) (sb : Nat) (w0 : World) (R : Int × Nat × List TokD) (e : Ending) (w : World) : Prop :=
  e = .returned (.int .i64 R.1) ∧ ∃ (fr i : Nat) (va : Option Addr) (vc : Nat) (acc : List TokD), ScW t sb w0 w fr i va vc acc ∧ (R.1 = 0 → acc = R.2.2 ∧ R.2.1 = 0) ∧ (R.1 ≠ 0 → fr = R.2.1 ∧ R.2.2 = [])
theorem bt_list {t : ByteArray} {i : Nat} (h : i < t.size) : bt t i = ((t.data.toList[i]'(by rw [← size_list]; exact h)).toNat : Int) := by
  unfold bt
  rw [dif_pos h]
  simp
  rfl
theorem byte_is {x : UInt8} {n : Nat} (hn : n < 256) : ((x.toNat : Int) = (n : Int)) ↔ x = UInt8.ofNat n := by
  constructor
  · intro h
    have h' : x.toNat = n := by omega
    rw [← h']
    simp
  · rintro rfl
    simp
    omega
theorem rem_prefix (t : ByteArray) (i : Nat) (hi : i ≤ t.size) : Lib.hasPrefix (t.extract i t.size).data.toList [45, 45] = remB t i := by
  unfold Lib.hasPrefix
  have hz := size_list t
  rw [extract_list, List.take_of_length_le (by rw [List.length_drop, ← hz]; omega)]
  by_cases h1 : i < t.size
  · rw [List.drop_eq_getElem_cons (by rw [← hz]; exact h1)]
    by_cases h2 : i + 1 < t.size
    · rw [List.drop_eq_getElem_cons (by rw [← hz]; exact h2)]
      unfold remB
      rw [bt_list h1, bt_list h2]
      generalize t.data.toList[i]'(by rw [← hz]; exact h1) = x
      generalize t.data.toList[i + 1]'(by rw [← hz]; exact h2) = y
      rw [Bool.eq_iff_iff]
      have e1 := byte_is (x := x) (n := 45) (by omega)
      have e2 := byte_is (x := y) (n := 45) (by omega)
      simp only [List.isPrefixOf, Bool.and_eq_true, beq_iff_eq, Bool.and_true, decide_eq_true_eq]
      constructor
      · rintro ⟨rfl, rfl⟩
        exact ⟨rfl, h2, rfl⟩
      · rintro ⟨a, _, b⟩
        exact ⟨(e1.1 a).symm, (e2.1 b).symm⟩
    · rw [List.drop_of_length_le (by rw [← hz]; omega)]
      have : remB t i = false := decide_eq_false (fun h => h2 h.2.1)
      rw [this]
      simp [List.isPrefixOf]
  · rw [List.drop_of_length_le (by rw [← hz]; omega)]
    have : remB t i = false := decide_eq_false (fun h => h1 (by omega))
    rw [this]
    rfl
end Go.Proofs.YtiglkhkfbgjjoaaDoor
