/- What Census counts. No Go here. -/
import Derived.Test.YtmckcnmlhgpnhaaGreatProg
import Derived.Test.YtmckcnmlhgpnhaaGreatKHeadS
import Derived.Laws.MakeOwn
namespace Go.Proofs.YtmckcnmlhgpnhaaGreat
set_option maxRecDepth 20000
open Go.RowKit
set_option linter.unusedSimpArgs false
set_option linter.unusedVariables false

/-- One object more. -/
def cenP (ws : List Int) (p : Nat) (f : Nat → Int) (j : Nat) : Int :=
  if (j : Int) = 2 * rdK (wordAt ws p) - 2 then f j + 1 else if (j : Int) = 2 * rdK (wordAt ws p) - 1 then f j + rdS (wordAt ws p) + 1 else f j
/-- The twelve numbers of some objects. -/
def cen (ws : List Int) (L : List Nat) : Nat → Int := L.foldl (fun f p => cenP ws p f) (fun _ => 0)
theorem cen_snoc (ws : List Int) (L : List Nat) (p : Nat) : cen ws (L ++ [p]) = cenP ws p (cen ws L) := by simp [cen]
theorem cen_bound (ws : List Int) (L : List Nat) (j : Nat) : 0 ≤ cen ws L j ∧ cen ws L j ≤ 257 * L.length := by
  have h : ∀ (L : List Nat) (f : Nat → Int) (m : Int), (∀ j, 0 ≤ f j ∧ f j ≤ m) → 0 ≤ L.foldl (fun f p => cenP ws p f) f j ∧ L.foldl (fun f p => cenP ws p f) f j ≤ m + 257 * L.length := by
    intro L
    induction L with
    | nil => intro f m hf; simpa using hf j
    | cons p L ih =>
      intro f m hf
      have h2 := ih (cenP ws p f) (m + 257) (fun j => by
        have := rdS_bound (wordAt ws p)
        have := hf j
        unfold cenP
        split
        · omega
        · split <;> omega)
      simp only [List.foldl_cons, List.length_cons]
      refine ⟨h2.1, ?_⟩
      have := h2.2
      push_cast
      omega
  have := h L (fun _ => 0) 0 (fun _ => ⟨Int.le_refl _, Int.le_refl _⟩)
  unfold cen
  omega
theorem cen_take (ws : List Int) (L : List Nat) {k : Nat} (h : k < L.length) : cen ws (L.take (k + 1)) = cenP ws (L.getD k 0) (cen ws (L.take k)) := by
  rw [List.take_succ_eq_append_getElem h, cen_snoc]
  congr 1
  simp [h]
theorem makeInts_c (l : Int) (h0 : 0 ≤ l) (h1 : l ≤ 1048576) (w : World) : (Instr.makeSlice 64 (.int .i64 l) (.int .i64 l)).run Tryz.prog w = .ok (.slice (some ⟨w.heap.size, 0, none⟩) l.toNat l.toNat) (w.alloc (.cells (madeCells #[.int .i64 0] l.toNat) 3)) := by
  obtain ⟨i, hi, hzz⟩ := Option.map_eq_some_iff.1 info3
  simp only [Prod.mk.injEq] at hzz
  obtain ⟨hz, hs, hb⟩ := hzz
  have := run_make (P := Tryz.prog) w 64 3 i _ Tryz.underlying64 hi hz .i64 .i64 l l h0 (Int.le_refl _) (by rw [hb]; omega) (by omega)
  rw [hs, Nat.mul_one] at this
  exact this
theorem cen_apart {w3 w : World} {b j : Nat} {v1 v2 : Value} (h : Apart b (b + 1) w3 w) : Apart b (b + 1) w3 ((w.setCell ⟨b, j, none⟩ v1).setCell ⟨b, j + 1, none⟩ v2) :=
  h.trans ((((Outside.refl b (b + 1) w).setCell (p := ⟨b, j, none⟩) (Nat.le_refl _) (Nat.lt_succ_self _) v1).setCell (p := ⟨b, j + 1, none⟩) (Nat.le_refl _) (Nat.lt_succ_self _) v2).apart (Nat.le_refl _) (Nat.le_refl _))
theorem cen_put {w : World} {b j : Nat} {f g : Nat → Int} {v1 v2 : Int} (h : w.rowIs b 3 12 (fun i => .int .i64 (f i))) (h1 : g j = v1) (h2 : g (j + 1) = v2) (h3 : ∀ i, i ≠ j → i ≠ j + 1 → g i = f i) :
    ((w.setCell ⟨b, j, none⟩ (.int .i64 v1)).setCell ⟨b, j + 1, none⟩ (.int .i64 v2)).rowIs b 3 12 (fun i => .int .i64 (g i)) := by
  refine ((h.set j _).set (j + 1) _).congr fun i _ => ?_
  by_cases e1 : i = j + 1
  · subst e1; simp [h2]
  · by_cases e2 : i = j
    · subst e2; simp [h1]
    · simp [e1, e2, h3 i e2 e1]
end Go.Proofs.YtmckcnmlhgpnhaaGreat
