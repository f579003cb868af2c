/- Words: IsWord of both packages. -/
import Derived.Test.YtiglkhkfbgjjoaaDoorProg
import Derived.Test.YtiglkhkfbgjjoaaDoorBRowF
import Derived.WalkKit
import Derived.WalkSpells
import Derived.WalkLawsBesides
import Derived.Below
import Derived.Outline
import Derived.Deep.Light
namespace Go.Proofs.YtiglkhkfbgjjoaaDoor
set_option maxRecDepth 20000
open Go.RowKit
set_option linter.unusedSimpArgs false
set_option linter.unusedVariables false

/-- The words. -/
def wordsL : List ByteArray := [⟨#[108, 111, 99, 97, 108]⟩, ⟨#[102, 110]⟩, ⟨#[105, 102]⟩, ⟨#[101, 108, 115, 101]⟩, ⟨#[119, 104, 105, 108, 101]⟩, ⟨#[114, 101, 116, 117, 114, 110]⟩, ⟨#[116, 114, 117, 101]⟩, ⟨#[102, 97, 108, 115, 101]⟩, ⟨#[110, 105, 108]⟩, ⟨#[97, 110, 100]⟩, ⟨#[111, 114]⟩, ⟨#[110, 111, 116]⟩]
/-- Is it one of the list? -/
def inL (xs : List ByteArray) (t : ByteArray) : Bool := xs.any (fun x => x.toList == t.toList)
def isW (t : ByteArray) : Bool := inL wordsL t
/-- The i-th of a list of texts. -/
def txAt (xs : List ByteArray) (i : Nat) : ByteArray := xs.getD i ⟨#[]⟩

theorem implIsWord_any (t : ByteArray) (w : World) :
    Calls Tryd.prog 62 #[.string t] w fun e w' => e = .returned (.bool (isW t)) ∧ w = w' := by
  have e0 : isW t = wordsL.any (fun x => t.toList == x.toList) := by
    unfold isW inL
    congr 1
    funext x
    exact Bool.beq_comm
  rw [e0]
  clear e0
  go_enter Tryd.func62, Tryd.ntmps62
  go_wp2
  all_goals first
    | (exfalso; simp_all; done)
    | (go_ret; refine ⟨?_, rfl⟩; simp [wordsL, *]; done)
end Go.Proofs.YtiglkhkfbgjjoaaDoor
