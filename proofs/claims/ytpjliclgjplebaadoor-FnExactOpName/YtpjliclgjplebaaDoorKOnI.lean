/- The program's OpName: a table of names. -/
import Derived.Test.YtpjliclgjplebaaDoorProg
import Derived.Test.YtpjliclgjplebaaDoorKRowF
import Derived.Test.YtpjliclgjplebaaDoorKLxW
import Derived.Test.YtpjliclgjplebaaDoorKOnA
import Derived.WalkKit
import Derived.WalkSpells
import Derived.WalkLawsBesides
import Derived.Below
import Derived.Outline
import Derived.Deep.Light
namespace Go.Proofs.YtpjliclgjplebaaDoor
set_option maxRecDepth 20000
open Go.RowKit
set_option linter.unusedSimpArgs false
set_option linter.unusedVariables false

/-- The names, the first one that of instruction 1. -/
def opP : List ByteArray := [⟨#[110, 105, 108]⟩, ⟨#[98, 111, 111, 108]⟩, ⟨#[105, 110, 116]⟩, ⟨#[116, 101, 120, 116]⟩, ⟨#[108, 111, 99, 97, 108]⟩, ⟨#[98, 111, 120, 101, 100]⟩, ⟨#[117, 112]⟩, ⟨#[115, 101, 116]⟩, ⟨#[115, 101, 116, 98, 111, 120]⟩, ⟨#[115, 101, 116, 117, 112]⟩, ⟨#[98, 111, 120]⟩, ⟨#[102, 110]⟩, ⟨#[116, 97, 98]⟩, ⟨#[105, 110, 100, 101, 120]⟩, ⟨#[112, 117, 116]⟩, ⟨#[111, 112]⟩, ⟨#[116, 117, 114, 110]⟩, ⟨#[106, 117, 109, 112]⟩, ⟨#[106, 117, 109, 112, 110, 111, 116]⟩, ⟨#[97, 110, 100]⟩, ⟨#[111, 114]⟩, ⟨#[109, 97, 114, 107]⟩, ⟨#[99, 97, 108, 108]⟩, ⟨#[114, 101, 116, 117, 114, 110]⟩, ⟨#[112, 111, 112]⟩, ⟨#[100, 117, 112]⟩, ⟨#[108, 105, 98]⟩]
theorem opP_at {j : Nat} (h : j < 27) : txAt opP j = opP[j]'(by simpa [opP] using h) := by
  unfold txAt
  rw [List.getD_eq_getElem?_getD, List.getElem?_eq_getElem (by simpa [opP] using h)]
  rfl
theorem opP_opT (j : Nat) : txAt opP j = opT (j + 1) := by simp [txAt, opT, opP]
/-- The table of names in its variable. -/
def OnV (w : World) : Prop := 0 < w.heap.size ∧ ∀ i, i < 27 → w.cell? ⟨0, i, none⟩ = some (.string (txAt opP i))
theorem OnV.below {w w' : World} {B : Nat} (h : OnV w) (hb : Below B w w') (hB : 0 < B) : OnV w' := ⟨Nat.lt_of_lt_of_le h.1 hb.size, fun i hi => by rw [hb.cell (p := ⟨0, i, none⟩) hB]; exact h.2 i hi⟩
theorem undOn : Tryd.prog.underlying 39 = some (.array 27 9) := by kernel_rfl
set_option maxHeartbeats 1000000 in
theorem implOpName_by (M : Nat → ByteArray) (op : Int) (w : World) (hc : ∀ i, i < 27 → w.cell? ⟨0, i, none⟩ = some (.string (M i))) (r : ByteArray) (h1 : ∀ j : Nat, j < 27 → op = (j : Int) + 1 → r = M j) (h2 : op < 1 ∨ 27 < op → r = ⟨#[]⟩) :
    Calls Tryd.prog 6 #[.int .i64 op] w fun e w' => e = .returned (.string r) ∧ w = w' := by
  by_cases hop : op < 1 ∨ 27 < op
  · have hr := h2 hop
    subst hr
    clear h1 h2 hc
    go_enter Tryd.func6, Tryd.ntmps6
    rcases hop with h | h
    · have h' : (27 : Int) < op → False := fun _ => by omega
      go_wp2
      go_ret
      exact ⟨rfl, rfl⟩
    · have h' : ¬ op < 1 := by omega
      go_wp2
      go_ret
      exact ⟨rfl, rfl⟩
  · obtain ⟨j, rfl⟩ : ∃ j : Nat, op = (j : Int) + 1 := ⟨(op - 1).toNat, by omega⟩
    have hj : j < 27 := by omega
    have hr := h1 j hj rfl
    subst hr
    have x0 := hc j hj
    have g1 : ¬ ((j : Int) + 1 < 1) := by omega
    have g2 : ¬ (27 < (j : Int) + 1) := by omega
    have g5 : (j : Int) < 27 := by omega
    clear hc h1 h2 hop
    generalize M j = m at x0
    go_enter Tryd.func6, Tryd.ntmps6
    go_wp2
    go_ret
    exact ⟨rfl, rfl⟩
theorem implOpName_at (op : Int) (w : World) (h : OnV w) :
    Calls Tryd.prog 6 #[.int .i64 op] w fun e w' => e = .returned (.string (opN op)) ∧ w = w' :=
  implOpName_by (txAt opP) op w h.2 _ (fun j hj e => by subst e; unfold opN; rw [if_pos (by omega), opP_opT]; congr 1) (fun h => by unfold opN; rw [if_neg (by omega)])
end Go.Proofs.YtpjliclgjplebaaDoor
