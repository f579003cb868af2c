/- What a value's type is called: TypeOf of both packages. -/
import Derived.Test.YtkccdinfoicgkaaProg
import Derived.Test.YtkccdinfoicgkaaKGetA
import Derived.WalkKit
import Derived.WalkSpells
import Derived.WalkLawsBesides
import Derived.Below
import Derived.Outline
import Derived.Deep.Light
namespace Go.Proofs.Ytkccdinfoicgkaa
set_option maxRecDepth 20000
open Go.RowKit
set_option linter.unusedSimpArgs false
set_option linter.unusedVariables false

/-- The name of a tag's type. -/
def tyN (t : Int) : ByteArray := if t = 0 then ⟨#[110, 105, 108]⟩ else if t = 1 then ⟨#[98, 111, 111, 108]⟩ else if t = 2 then ⟨#[105, 110, 116]⟩ else if t = 3 then ⟨#[116, 101, 120, 116]⟩ else if t = 4 then ⟨#[116, 97, 98, 108, 101]⟩ else if t = 5 ∨ t = 7 then ⟨#[102, 110]⟩ else if t = 6 then ⟨#[99, 111]⟩ else ⟨#[]⟩
def tyV (t n : Int) : ByteArray := if vOk t n = true then tyN t else ⟨#[]⟩
theorem ret_text {a b : ByteArray} (h : a = b) : Ending.returned (.string a) = .returned (.string b) := by rw [h]

theorem l12TypeName_any (t : Int) (w : World) :
    Calls Try.prog 8 #[.int .i64 t] w fun e w' => e = .returned (.string (tyN t)) ∧ w' = w := by
  go_enter Try.func8, Try.ntmps8
  go_wp2
  all_goals
    go_ret
    refine ⟨ret_text ?_, rfl⟩
    go_light
    simp [tyN] at *
    try simp [*]

theorem specTypeOf_any (t n : Int) (w : World) :
    Calls Try.prog 4 #[.agg #[.int .i64 t, .int .i64 n]] w fun e w' => e = .returned (.string (tyV t n)) ∧ Below w.heap.size w w' := by
  go_enter Try.func4, Try.ntmps4
  go_wp2_with (first | (go_at_call 8; refine (l12TypeName_any _ _).mono ?_; rintro e w' ⟨rfl, rfl⟩) | (go_at_call 7; refine (specValOk_any _ _ _).mono ?_; rintro e w' ⟨rfl, hb⟩; obtain ⟨hc, hf⟩ := bcell hb; first | (have hz := size_first hb; have hB := below_first hb) | (have hz := Nat.lt_of_lt_of_le (by assumption) hb.size; have hB := below_next (w := w) (by assumption) hb) | (have hB := below_next (w := w) (by assumption) hb) | (have hB : Below w.heap.size w w' := hb)))
  all_goals
    go_ret
    refine ⟨ret_text ?_, by assumption⟩
    go_light
    simp [tyV] at *
    try simp [*]

theorem typeName_any (t : Int) (w : World) :
    Calls Try.prog 10 #[.int .i64 t] w fun e w' => e = .returned (.string (tyN t)) ∧ w' = w := by
  go_enter Try.func10, Try.ntmps10
  go_wp2
  all_goals
    go_ret
    refine ⟨ret_text ?_, rfl⟩
    go_light
    simp [tyN] at *
    try simp [*]

theorem implTypeOf_any (t n : Int) (w : World) :
    Calls Try.prog 6 #[.agg #[.int .i64 t, .int .i64 n]] w fun e w' => e = .returned (.string (tyV t n)) ∧ Below w.heap.size w w' := by
  go_enter Try.func6, Try.ntmps6
  go_wp2_with (first | (go_at_call 10; refine (typeName_any _ _).mono ?_; rintro e w' ⟨rfl, rfl⟩) | (go_at_call 9; refine (implValOk_any _ _ _).mono ?_; rintro e w' ⟨rfl, hb⟩; obtain ⟨hc, hf⟩ := bcell hb; first | (have hz := size_first hb; have hB := below_first hb) | (have hz := Nat.lt_of_lt_of_le (by assumption) hb.size; have hB := below_next (w := w) (by assumption) hb) | (have hB := below_next (w := w) (by assumption) hb) | (have hB : Below w.heap.size w w' := hb)))
  all_goals
    go_ret
    refine ⟨ret_text ?_, by assumption⟩
    go_light
    simp [tyV] at *
    try simp [*]
end Go.Proofs.Ytkccdinfoicgkaa
