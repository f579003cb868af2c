/- What values are, as plain propositions; both packages' ValOk and IsRef answer 'vOk' and 'isR'. -/
import Derived.Test.YtbllmchbcbjfiaaProg
import Derived.Test.YtbllmchbcbjfiaaHeadA
import Derived.WalkKit
import Derived.WalkSpells
import Derived.WalkLawsBesides
import Derived.Below
import Derived.Outline
import Derived.Deep.Light
namespace Go.Proofs.Ytbllmchbcbjfiaa
set_option maxRecDepth 20000
open Go.RowKit
set_option linter.unusedSimpArgs false

def isR (t : Int) : Bool := decide (t = 3 ∨ t = 4 ∨ t = 5 ∨ t = 6 ∨ t = 8 ∨ t = 9)
def vOk (t n : Int) : Bool := decide ((t = 0 ∧ n = 0) ∨ (t = 1 ∧ (n = 0 ∨ n = 1)) ∨ t = 2 ∨ (t = 7 ∧ 1 ≤ n ∧ n ≤ 20) ∨ ((t = 3 ∨ t = 4 ∨ t = 5 ∨ t = 6 ∨ t = 8 ∨ t = 9) ∧ 0 < n))
/-- The kind of what a tag leads to. -/
def kindOf (t : Int) : Int := if t = 3 then 1 else if t = 4 then 2 else if t = 5 then 4 else if t = 6 then 6 else if t = 8 then 3 else if t = 9 then 5 else 0

theorem kindOf_ne (t : Int) : (kindOf t != 0) = isR t := by
  unfold kindOf isR
  rw [Bool.eq_iff_iff]
  simp only [bne_iff_ne, ne_eq, decide_eq_true_eq]
  repeat (first | omega | split)

theorem toVal_any (t n : Int) (w : World) :
    Calls Try.prog 20 #[.agg #[.int .i64 t, .int .i64 n]] w fun e w' => e = .returned (.agg #[.int .i64 t, .int .i64 n]) ∧ Below w.heap.size w w' := by
  go_enter Try.func20, Try.ntmps20
  go_wp2
  exact bodyPost_ret (v := .agg #[.int .i64 t, .int .i64 n]) (by simp [results, Try.results20, go_sem]) rfl ⟨rfl, (((Below.refl _ _).alloc (Nat.le_refl _) _).alloc (by simp) _).alloc (by simp; omega) _⟩
end Go.Proofs.Ytbllmchbcbjfiaa
