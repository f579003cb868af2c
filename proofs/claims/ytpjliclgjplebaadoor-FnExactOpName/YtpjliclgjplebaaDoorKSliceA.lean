/- What heads are, as plain propositions on whole numbers: the walks of both packages' HeadOk end in 'hOk', of PackHead in 'pack', of ReadHead in its inverse. No Go here. -/
import Derived.WalkKit
import Derived.Test.YtpjliclgjplebaaDoorProg
import Derived.WalkSpells
import Derived.WalkLawsBesides
import Derived.Below
import Derived.Outline
import Derived.Deep.Light
namespace Go.Proofs.YtpjliclgjplebaaDoor
set_option maxRecDepth 20000

def inB (x a b : Int) : Bool := decide (a ≤ x ∧ x ≤ b)
theorem ret_bool {a b : Bool} (h : a = b) : Ending.returned (.bool a) = .returned (.bool b) := by rw [h]
end Go.Proofs.YtpjliclgjplebaaDoor

/- The model's HeadOk answers 'hOk'. -/
namespace Go.Proofs.YtpjliclgjplebaaDoor
set_option maxRecDepth 20000

open Go.RowKit
set_option linter.unusedSimpArgs false

theorem l1In_any (x a b : Int) (w : World) :
    Calls Tryd.prog 12 #[.int .i64 x, .int .i64 a, .int .i64 b] w fun e w' => e = .returned (.bool (inB x a b)) ∧ w' = w := by
  go_enter Tryd.func12, Tryd.ntmps12
  go_wp2
  all_goals
    go_ret
    refine ⟨ret_bool ?_, rfl⟩
    go_light
    rw [Bool.eq_iff_iff]
    simp [inB] at * <;> omega

theorem below_next {w w1 w2 : World} (hB : Below w.heap.size w w1) (hb : Below w1.heap.size w1 w2) : Below w.heap.size w w2 :=
  hB.trans (hb.mono hB.size)

end Go.Proofs.YtpjliclgjplebaaDoor
