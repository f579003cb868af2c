/- What heads are, as plain propositions on whole numbers: the walks of both packages' HeadOk end in 'hOk', of PackHead in 'pack', of ReadHead in its inverse. No Go here. -/
import Derived.WalkKit
import Derived.Test.YtiglkhkfbgjjoaaProg
import Derived.WalkSpells
import Derived.WalkLawsBesides
import Derived.Below
import Derived.Outline
import Derived.Deep.Light
namespace Go.Proofs.Ytiglkhkfbgjjoaa
set_option maxRecDepth 20000

def inB (x a b : Int) : Bool := decide (a ≤ x ∧ x ≤ b)
theorem ret_bool {a b : Bool} (h : a = b) : Ending.returned (.bool a) = .returned (.bool b) := by rw [h]
end Go.Proofs.Ytiglkhkfbgjjoaa

/- The model's HeadOk answers 'hOk'. -/
namespace Go.Proofs.Ytiglkhkfbgjjoaa
set_option maxRecDepth 20000

open Go.RowKit
set_option linter.unusedSimpArgs false

theorem l1In_any (x a b : Int) (w : World) :
    Calls Try.prog 19 #[.int .i64 x, .int .i64 a, .int .i64 b] w fun e w' => e = .returned (.bool (inB x a b)) ∧ w' = w := by
  go_enter Try.func19, Try.ntmps19
  go_wp2
  all_goals
    go_ret
    refine ⟨ret_bool ?_, rfl⟩
    go_light
    rw [Bool.eq_iff_iff]
    simp [inB] at * <;> omega

theorem bcell {W w1 : World} {B : Nat} (hb : Below B W w1) : (∀ b o, b < B → w1.cell? ⟨b, o, none⟩ = W.cell? ⟨b, o, none⟩) ∧ (∀ b o, b < B → w1.frozen? ⟨b, o, none⟩ = W.frozen? ⟨b, o, none⟩) :=
  ⟨fun b o h => hb.cell (p := ⟨b, o, none⟩) h, fun b o h => hb.frozen (p := ⟨b, o, none⟩) h⟩
theorem below_first {w w' : World} {o : Obj} (hb : Below (w.alloc o).heap.size (w.alloc o) w') : Below w.heap.size w w' :=
  ((Below.refl _ _).alloc (Nat.le_refl _) _).trans (hb.mono (by simp))
theorem below_next {w w1 w2 : World} (hB : Below w.heap.size w w1) (hb : Below w1.heap.size w1 w2) : Below w.heap.size w w2 :=
  hB.trans (hb.mono hB.size)

end Go.Proofs.Ytiglkhkfbgjjoaa
