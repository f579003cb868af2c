/- The model's OpName: what an instruction is called. -/
import Derived.Test.YtpjliclgjplebaaDoorProg
import Derived.Test.YtpjliclgjplebaaDoorKSliceA
import Derived.WalkKit
import Derived.WalkSpells
import Derived.WalkLawsBesides
import Derived.Below
import Derived.Deep.Light
import Derived.OwnWalk
namespace Go.Proofs.YtpjliclgjplebaaDoor
set_option maxRecDepth 20000
open Go.RowKit Go.Maps
set_option linter.unusedSimpArgs false
set_option linter.unusedVariables false

/-- What instruction n is called. -/
def opT (n : Nat) : ByteArray := ([⟨#[]⟩, ⟨#[110, 105, 108]⟩, ⟨#[98, 111, 111, 108]⟩, ⟨#[105, 110, 116]⟩, ⟨#[116, 101, 120, 116]⟩, ⟨#[108, 111, 99, 97, 108]⟩, ⟨#[98, 111, 120, 101, 100]⟩, ⟨#[117, 112]⟩, ⟨#[115, 101, 116]⟩, ⟨#[115, 101, 116, 98, 111, 120]⟩, ⟨#[115, 101, 116, 117, 112]⟩, ⟨#[98, 111, 120]⟩, ⟨#[102, 110]⟩, ⟨#[116, 97, 98]⟩, ⟨#[105, 110, 100, 101, 120]⟩, ⟨#[112, 117, 116]⟩, ⟨#[111, 112]⟩, ⟨#[116, 117, 114, 110]⟩, ⟨#[106, 117, 109, 112]⟩, ⟨#[106, 117, 109, 112, 110, 111, 116]⟩, ⟨#[97, 110, 100]⟩, ⟨#[111, 114]⟩, ⟨#[109, 97, 114, 107]⟩, ⟨#[99, 97, 108, 108]⟩, ⟨#[114, 101, 116, 117, 114, 110]⟩, ⟨#[112, 111, 112]⟩, ⟨#[100, 117, 112]⟩, ⟨#[108, 105, 98]⟩] : List ByteArray).getD n ⟨#[]⟩
/-- The same of any number. -/
def opN (op : Int) : ByteArray := if 1 ≤ op ∧ op ≤ 27 then opT op.toNat else ⟨#[]⟩
theorem l16Names_at (w : World) : Calls Tryd.prog 13 #[] w fun e w' => e = .returned (.slice (some ⟨w.heap.size, 0, none⟩) 28 28) ∧ Below w.heap.size w w' ∧ w.heap.size < w'.heap.size ∧ ∀ n, n < 28 → w'.cell? ⟨w.heap.size, n, none⟩ = some (.string (opT n)) := by
  go_enter Tryd.func13, Tryd.ntmps13
  go_wp2
  go_ret
  refine ⟨rfl, (Below.refl _ _).alloc (Nat.le_refl _) _, by simp, fun n hn => ?_⟩
  have h : ∀ n, n < 28 → (#[Value.string ⟨#[]⟩, Value.string ⟨#[110, 105, 108]⟩, Value.string ⟨#[98, 111, 111, 108]⟩, Value.string ⟨#[105, 110, 116]⟩, Value.string ⟨#[116, 101, 120, 116]⟩, Value.string ⟨#[108, 111, 99, 97, 108]⟩, Value.string ⟨#[98, 111, 120, 101, 100]⟩, Value.string ⟨#[117, 112]⟩, Value.string ⟨#[115, 101, 116]⟩, Value.string ⟨#[115, 101, 116, 98, 111, 120]⟩, Value.string ⟨#[115, 101, 116, 117, 112]⟩, Value.string ⟨#[98, 111, 120]⟩, Value.string ⟨#[102, 110]⟩, Value.string ⟨#[116, 97, 98]⟩, Value.string ⟨#[105, 110, 100, 101, 120]⟩, Value.string ⟨#[112, 117, 116]⟩, Value.string ⟨#[111, 112]⟩, Value.string ⟨#[116, 117, 114, 110]⟩, Value.string ⟨#[106, 117, 109, 112]⟩, Value.string ⟨#[106, 117, 109, 112, 110, 111, 116]⟩, Value.string ⟨#[97, 110, 100]⟩, Value.string ⟨#[111, 114]⟩, Value.string ⟨#[109, 97, 114, 107]⟩, Value.string ⟨#[99, 97, 108, 108]⟩, Value.string ⟨#[114, 101, 116, 117, 114, 110]⟩, Value.string ⟨#[112, 111, 112]⟩, Value.string ⟨#[100, 117, 112]⟩, Value.string ⟨#[108, 105, 98]⟩] : Array Value)[n]? = some (.string (opT n)) := fun n hn => match n, hn with
    | 0, _ => rfl
    | 1, _ => rfl
    | 2, _ => rfl
    | 3, _ => rfl
    | 4, _ => rfl
    | 5, _ => rfl
    | 6, _ => rfl
    | 7, _ => rfl
    | 8, _ => rfl
    | 9, _ => rfl
    | 10, _ => rfl
    | 11, _ => rfl
    | 12, _ => rfl
    | 13, _ => rfl
    | 14, _ => rfl
    | 15, _ => rfl
    | 16, _ => rfl
    | 17, _ => rfl
    | 18, _ => rfl
    | 19, _ => rfl
    | 20, _ => rfl
    | 21, _ => rfl
    | 22, _ => rfl
    | 23, _ => rfl
    | 24, _ => rfl
    | 25, _ => rfl
    | 26, _ => rfl
    | 27, _ => rfl
    | n + 28, h => absurd h (by omega)
  simpa [go_sem] using h n hn
theorem specOpName_at (op : Int) (w : World) : Calls Tryd.prog 5 #[.int .i64 op] w fun e w' => e = .returned (.string (opN op)) ∧ Below w.heap.size w w' := by
  by_cases h : 1 ≤ op ∧ op ≤ 27
  · obtain ⟨n, rfl⟩ : ∃ n : Nat, op = n := ⟨op.toNat, by omega⟩
    have h28 : (n : Int) < 28 := by omega
    have e : opN (n : Int) = opT n := by unfold opN; rw [if_pos h, Int.toNat_natCast]
    rw [e]
    clear e
    have hl : inB (n : Int) 1 27 = true := decide_eq_true h
    go_enter Tryd.func5, Tryd.ntmps5
    go_wp2_with (first | (go_at_call 12; refine (l1In_any _ _ _ _).mono ?_; rw [hl]; rintro e w' ⟨rfl, rfl⟩) | (go_at_call 13; refine (l16Names_at _).mono ?_; rintro e w1 ⟨rfl, b1, l1, hc⟩; have hcn := hc n (by omega)))
    go_ret
    exact ⟨rfl, b1⟩
  · have e : opN op = ⟨#[]⟩ := by unfold opN; rw [if_neg h]
    rw [e]
    clear e
    have hl : inB op 1 27 = false := decide_eq_false h
    go_enter Tryd.func5, Tryd.ntmps5
    go_wp2_with (go_at_call 12; refine (l1In_any _ _ _ _).mono ?_; rw [hl]; rintro e w' ⟨rfl, rfl⟩)
    go_ret
    exact ⟨rfl, Below.refl _ _⟩
/-- The law's walk, out of the program's contract. -/
theorem fnExactOpName_by (op : Int) (w : World) (himpl : ∀ W, Below w.heap.size w W → Calls Tryd.prog 6 #[.int .i64 op] W fun e w' => e = .returned (.string (opN op)) ∧ Below W.heap.size W w') :
    Calls Tryd.prog 3 #[.int .i64 op] w fun e w' => e = .returned (.bool true) ∧ Below w.heap.size w w' := by
  have HI : Hid (∀ W, Below w.heap.size w W → Calls Tryd.prog 6 #[.int .i64 op] W fun e w' => e = .returned (.string (opN op)) ∧ Below W.heap.size W w') := himpl
  clear himpl
  go_enter Tryd.func3, Tryd.ntmps3
  go_wp2_with fail
  refine (specOpName_at op _).mono ?_
  rintro e w1 ⟨rfl, b1⟩
  go_wp2_with fail
  refine (HI.out _ b1).mono ?_
  rintro e w2 ⟨rfl, b2⟩
  have B2 := below_next b1 b2
  generalize opN op = o
  go_wp2
  go_ret
  exact ⟨rfl, B2⟩
end Go.Proofs.YtpjliclgjplebaaDoor
