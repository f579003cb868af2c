/- The model's HeadOk answers 'hOk'. -/
import Derived.Test.YtkcnahmimhljpaaProg
import Derived.Test.YtkcnahmimhljpaaWords
import Derived.WalkKit
import Derived.WalkSpells
import Derived.WalkLawsBesides
import Derived.Below
import Derived.Outline
import Derived.Deep.Light
namespace Go.Proofs.Ytkcnahmimhljpaa
set_option maxRecDepth 20000

open Go.RowKit
set_option linter.unusedSimpArgs false

theorem l1In_any (x a b : Int) (w : World) :
    Calls Try.prog 18 #[.int .i64 x, .int .i64 a, .int .i64 b] w fun e w' => e = .returned (.bool (inB x a b)) ∧ w' = w := by
  go_enter Try.func18, Try.ntmps18
  go_wp2
  all_goals
    go_ret
    refine ⟨ret_bool ?_, rfl⟩
    go_light
    rw [Bool.eq_iff_iff]
    simp [inB] at * <;> omega

theorem specHeadOk_any (k s n : Int) (w : World) :
    Calls Try.prog 15 #[.agg #[.int .i64 k, .int .i64 s, .int .i64 n]] w fun e w' => e = .returned (.bool (hOk k s n)) ∧ Below w.heap.size w w' := by
  go_enter Try.func15, Try.ntmps15
  go_wp2_with (go_at_call 18; refine (l1In_any _ _ _ _).mono ?_; rintro e w' ⟨rfl, rfl⟩)
  all_goals
    go_ret
    refine ⟨ret_bool ?_, (Below.refl _ _).alloc (Nat.le_refl _) _⟩
    go_light
    rw [Bool.eq_iff_iff]
    simp [hOk, inB] at *
    all_goals (try have ht := Int.tmod_eq_emod_of_nonneg (a := s) (b := 2) (by omega))
    all_goals omega

theorem blockSizeOk_any (s : Int) (w : World) :
    Calls Try.prog 27 #[.int .i64 s] w fun e w' => e = .returned (.bool (decide (s = 16 ∨ s = 32 ∨ s = 64 ∨ s = 128 ∨ s = 256))) ∧ w' = w := by
  go_enter Try.func27, Try.ntmps27
  go_wp2
  all_goals
    go_ret
    refine ⟨ret_bool ?_, rfl⟩
    try have ht := pow2 s (by omega) (by omega)
    go_light
    rw [Bool.eq_iff_iff]
    simp at * <;> omega

theorem textSize0 (w : World) : Calls Try.prog 26 #[.int .i64 0] w fun e w' => e = .returned (.int .i64 1) ∧ w' = w := by
  go_enter Try.func26, Try.ntmps26
  go_wp2
  go_ret
  exact ⟨rfl, rfl⟩
theorem textSize160 (w : World) : Calls Try.prog 26 #[.int .i64 160] w fun e w' => e = .returned (.int .i64 21) ∧ w' = w := by
  go_enter Try.func26, Try.ntmps26
  go_wp2
  go_ret
  exact ⟨rfl, rfl⟩

theorem sizeOk_any (k s : Int) (w : World) :
    Calls Try.prog 16 #[.int .i64 k, .int .i64 s] w fun e w' => e = .returned (.bool (sOk k s)) ∧ w' = w := by
  go_enter Try.func16, Try.ntmps16
  go_wp2_with (first | (go_at_call 27; refine (blockSizeOk_any _ _).mono ?_; rintro e w' ⟨rfl, rfl⟩) | (go_at_call 26; refine (textSize0 _).mono ?_; rintro e w' ⟨rfl, rfl⟩) | (go_at_call 26; refine (textSize160 _).mono ?_; rintro e w' ⟨rfl, rfl⟩))
  all_goals
    go_ret
    refine ⟨ret_bool ?_, rfl⟩
    go_light
    rw [Bool.eq_iff_iff]
    simp [sOk] at *
    all_goals have ht := and1 s
    all_goals omega


theorem bcell {W w1 : World} {B : Nat} (hb : Below B W w1) : (∀ b o, b < B → w1.cell? ⟨b, o, none⟩ = W.cell? ⟨b, o, none⟩) ∧ (∀ b o, b < B → w1.frozen? ⟨b, o, none⟩ = W.frozen? ⟨b, o, none⟩) :=
  ⟨fun b o h => hb.cell (p := ⟨b, o, none⟩) h, fun b o h => hb.frozen (p := ⟨b, o, none⟩) h⟩
theorem size_first {w w' : World} {o : Obj} (hb : Below (w.alloc o).heap.size (w.alloc o) w') : w.heap.size < w'.heap.size := by
  have h := hb.size
  simp at h
  omega
theorem below_first {w w' : World} {o : Obj} (hb : Below (w.alloc o).heap.size (w.alloc o) w') : Below w.heap.size w w' :=
  ((Below.refl _ _).alloc (Nat.le_refl _) _).trans (hb.mono (by simp))
theorem below_next {w w1 w2 : World} (hB : Below w.heap.size w w1) (hb : Below w1.heap.size w1 w2) : Below w.heap.size w w2 :=
  hB.trans (hb.mono hB.size)

end Go.Proofs.Ytkcnahmimhljpaa
