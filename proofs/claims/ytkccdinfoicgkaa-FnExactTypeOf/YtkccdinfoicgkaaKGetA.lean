/- What values are, as plain propositions; both packages' ValOk and IsRef answer 'vOk' and 'isR'. -/
import Derived.Test.YtkccdinfoicgkaaProg
import Derived.Test.YtkccdinfoicgkaaKHeadA
import Derived.WalkKit
import Derived.WalkSpells
import Derived.WalkLawsBesides
import Derived.Below
import Derived.Outline
import Derived.Deep.Light
namespace Go.Proofs.Ytkccdinfoicgkaa
set_option maxRecDepth 20000
open Go.RowKit
set_option linter.unusedSimpArgs false

def isR (t : Int) : Bool := decide (t = 3 ∨ t = 4 ∨ t = 5 ∨ t = 6 ∨ t = 8 ∨ t = 9)
def vOk (t n : Int) : Bool := decide ((t = 0 ∧ n = 0) ∨ (t = 1 ∧ (n = 0 ∨ n = 1)) ∨ t = 2 ∨ (t = 7 ∧ 1 ≤ n ∧ n ≤ 20) ∨ ((t = 3 ∨ t = 4 ∨ t = 5 ∨ t = 6 ∨ t = 8 ∨ t = 9) ∧ 0 < n))
/-- The kind of what a tag leads to. -/
def kindOf (t : Int) : Int := if t = 3 then 1 else if t = 4 then 2 else if t = 5 then 4 else if t = 6 then 6 else if t = 8 then 3 else if t = 9 then 5 else 0

theorem l1Kind_any (t : Int) (w : World) :
    Calls Try.prog 14 #[.int .i64 t] w fun e w' => e = .returned (.int .i64 (kindOf t)) ∧ w' = w := by
  go_enter Try.func14, Try.ntmps14
  go_wp2
  all_goals
    go_ret
    refine ⟨ret_int ?_, rfl⟩
    go_light
    simp [kindOf] at *
    try simp [*]

theorem kindOf_ne (t : Int) : (kindOf t != 0) = isR t := by
  unfold kindOf isR
  rw [Bool.eq_iff_iff]
  simp only [bne_iff_ne, ne_eq, decide_eq_true_eq]
  repeat (first | omega | split)

theorem specIsRef_any (t n : Int) (w : World) :
    Calls Try.prog 12 #[.agg #[.int .i64 t, .int .i64 n]] w fun e w' => e = .returned (.bool (isR t)) ∧ Below w.heap.size w w' := by
  go_enter Try.func12, Try.ntmps12
  go_wp2_with (go_at_call 14; refine (l1Kind_any _ _).mono ?_; rintro e w' ⟨rfl, rfl⟩)
  go_ret
  exact ⟨ret_bool (kindOf_ne t), (Below.refl _ _).alloc (Nat.le_refl _) _⟩

theorem implIsRef_any (t n : Int) (w : World) :
    Calls Try.prog 13 #[.agg #[.int .i64 t, .int .i64 n]] w fun e w' => e = .returned (.bool (isR t)) ∧ Below w.heap.size w w' := by
  go_enter Try.func13, Try.ntmps13
  go_wp2
  all_goals
    go_ret
    refine ⟨ret_bool ?_, (Below.refl _ _).alloc (Nat.le_refl _) _⟩
    go_light
    rw [Bool.eq_iff_iff]
    simp [isR] at * <;> omega

theorem specValOk_any (t n : Int) (w : World) :
    Calls Try.prog 7 #[.agg #[.int .i64 t, .int .i64 n]] w fun e w' => e = .returned (.bool (vOk t n)) ∧ Below w.heap.size w w' := by
  go_enter Try.func7, Try.ntmps7
  go_wp2_with (first | (go_at_call 11; refine (l1In_any _ _ _ _).mono ?_; rintro e w' ⟨rfl, rfl⟩) | (go_at_call 12; refine (specIsRef_any _ _ _).mono ?_; rintro e w' ⟨rfl, hb⟩; obtain ⟨hc, hf⟩ := bcell hb; first | (have hz := size_first hb; have hB := below_first hb) | (have hz := Nat.lt_of_lt_of_le (by assumption) hb.size; have hB := below_next (w := w) (by assumption) hb) | (have hB := below_next (w := w) (by assumption) hb) | (have hB : Below w.heap.size w w' := hb)))
  all_goals
    go_ret
    refine ⟨ret_bool ?_, by first | exact (Below.refl _ _).alloc (Nat.le_refl _) _ | assumption⟩
    go_light
    try clear hb hc hf hz hB
    rw [Bool.eq_iff_iff]
    simp [vOk, isR, inB] at * <;> omega

theorem implValOk_any (t n : Int) (w : World) :
    Calls Try.prog 9 #[.agg #[.int .i64 t, .int .i64 n]] w fun e w' => e = .returned (.bool (vOk t n)) ∧ Below w.heap.size w w' := by
  go_enter Try.func9, Try.ntmps9
  go_wp2_with (first | (go_at_call 13; refine (implIsRef_any _ _ _).mono ?_; rintro e w' ⟨rfl, hb⟩; obtain ⟨hc, hf⟩ := bcell hb; first | (have hz := size_first hb; have hB := below_first hb) | (have hz := Nat.lt_of_lt_of_le (by assumption) hb.size; have hB := below_next (w := w) (by assumption) hb) | (have hB := below_next (w := w) (by assumption) hb) | (have hB : Below w.heap.size w w' := hb)))
  all_goals
    go_ret
    refine ⟨ret_bool ?_, by first | exact (Below.refl _ _).alloc (Nat.le_refl _) _ | assumption⟩
    go_light
    try clear hb hc hf hz hB
    rw [Bool.eq_iff_iff]
    simp [vOk, isR, inB] at * <;> omega

theorem toVal_any (t n : Int) (w : World) :
    Calls Try.prog 5 #[.agg #[.int .i64 t, .int .i64 n]] w fun e w' => e = .returned (.agg #[.int .i64 t, .int .i64 n]) ∧ Below w.heap.size w w' := by
  go_enter Try.func5, Try.ntmps5
  go_wp2
  exact bodyPost_ret (v := .agg #[.int .i64 t, .int .i64 n]) (by simp [results, Try.results5, go_sem]) rfl ⟨rfl, (((Below.refl _ _).alloc (Nat.le_refl _) _).alloc (by simp) _).alloc (by simp; omega) _⟩
end Go.Proofs.Ytkccdinfoicgkaa
