/- What heads are, as plain propositions on whole numbers: the walks of both packages' HeadOk end in 'hOk', of PackHead in 'pack', of ReadHead in its inverse. No Go here. -/
import Derived.WalkKit
import Derived.Test.YtibjellhafndiaaGreatDoorProg
import Derived.WalkSpells
import Derived.WalkLawsBesides
import Derived.Below
import Derived.Outline
import Derived.Deep.Light
namespace Go.Proofs.YtibjellhafndiaaGreatDoor
set_option maxRecDepth 20000

/-- A right head, by its kind, size and serial. -/
def HOk (k s n : Int) : Prop :=
  (k = 1 ∧ 1 ≤ s ∧ s ≤ 21 ∧ n = 0) ∨ (k = 2 ∧ s = 3 ∧ 1 ≤ n ∧ n ≤ 1000000000) ∨
  (k = 3 ∧ (s = 16 ∨ s = 32 ∨ s = 64 ∨ s = 128 ∨ s = 256) ∧ n = 0) ∨
  (k = 4 ∧ 1 ≤ s ∧ s ≤ 25 ∧ s % 2 = 1 ∧ 1 ≤ n ∧ n ≤ 1000000000) ∨ (k = 5 ∧ s = 2 ∧ n = 0) ∨
  (k = 6 ∧ s = 126 ∧ 1 ≤ n ∧ n ≤ 1000000000)
def hOk (k s n : Int) : Bool := decide (
  (k = 1 ∧ 1 ≤ s ∧ s ≤ 21 ∧ n = 0) ∨ (k = 2 ∧ s = 3 ∧ 1 ≤ n ∧ n ≤ 1000000000) ∨
  (k = 3 ∧ (s = 16 ∨ s = 32 ∨ s = 64 ∨ s = 128 ∨ s = 256) ∧ n = 0) ∨
  (k = 4 ∧ 1 ≤ s ∧ s ≤ 25 ∧ s % 2 = 1 ∧ 1 ≤ n ∧ n ≤ 1000000000) ∨ (k = 5 ∧ s = 2 ∧ n = 0) ∨
  (k = 6 ∧ s = 126 ∧ 1 ≤ n ∧ n ≤ 1000000000))
theorem hOk_iff (k s n : Int) : hOk k s n = true ↔ HOk k s n := by unfold hOk HOk; exact decide_eq_true_iff
def inB (x a b : Int) : Bool := decide (a ≤ x ∧ x ≤ b)
/-- The size alone. -/
def SOk (k s : Int) : Prop :=
  (k = 1 ∧ 1 ≤ s ∧ s ≤ 21) ∨ (k = 2 ∧ s = 3) ∨ (k = 3 ∧ (s = 16 ∨ s = 32 ∨ s = 64 ∨ s = 128 ∨ s = 256)) ∨
  (k = 4 ∧ 1 ≤ s ∧ s ≤ 25 ∧ s % 2 = 1) ∨ (k = 5 ∧ s = 2) ∨ (k = 6 ∧ s = 126)
def sOk (k s : Int) : Bool := decide (
  (k = 1 ∧ 1 ≤ s ∧ s ≤ 21) ∨ (k = 2 ∧ s = 3) ∨ (k = 3 ∧ (s = 16 ∨ s = 32 ∨ s = 64 ∨ s = 128 ∨ s = 256)) ∨
  (k = 4 ∧ 1 ≤ s ∧ s ≤ 25 ∧ s % 2 = 1) ∨ (k = 5 ∧ s = 2) ∨ (k = 6 ∧ s = 126))
def hasS (k : Int) : Bool := decide (k = 2 ∨ k = 4 ∨ k = 6)

theorem sOk_iff (k s : Int) : sOk k s = true ↔ SOk k s := by unfold sOk SOk; exact decide_eq_true_iff
theorem hOk_no {k s : Int} (n : Int) (h : sOk k s = false) : hOk k s n = false := by
  rw [← Bool.not_eq_true, hOk_iff]
  rw [← Bool.not_eq_true, sOk_iff] at h
  refine fun g => h ?_
  unfold HOk at g; unfold SOk
  rcases g with ⟨rfl, g⟩ | ⟨rfl, g⟩ | ⟨rfl, g⟩ | ⟨rfl, g⟩ | ⟨rfl, g⟩ | ⟨rfl, g⟩ <;> simp <;> omega
theorem hOk_born {k s : Int} (n : Int) (h : sOk k s = true) (h' : hasS k = true) : hOk k s n = decide (1 ≤ n ∧ n ≤ 1000000000) := by
  rw [Bool.eq_iff_iff, hOk_iff, decide_eq_true_eq]
  rw [sOk_iff] at h
  simp only [hasS, decide_eq_true_eq] at h'
  unfold SOk at h; unfold HOk
  rcases h with ⟨rfl, g⟩ | ⟨rfl, g⟩ | ⟨rfl, g⟩ | ⟨rfl, g⟩ | ⟨rfl, g⟩ | ⟨rfl, g⟩ <;> simp at h' ⊢ <;> omega
theorem hOk_plain {k s : Int} (n : Int) (h : sOk k s = true) (h' : hasS k = false) : hOk k s n = decide (n = 0) := by
  rw [Bool.eq_iff_iff, hOk_iff, decide_eq_true_eq]
  rw [sOk_iff] at h
  simp only [hasS, decide_eq_false_iff_not] at h'
  unfold SOk at h; unfold HOk
  rcases h with ⟨rfl, g⟩ | ⟨rfl, g⟩ | ⟨rfl, g⟩ | ⟨rfl, g⟩ | ⟨rfl, g⟩ | ⟨rfl, g⟩ <;> simp at h' ⊢ <;> omega

theorem ret_bool {a b : Bool} (h : a = b) : Ending.returned (.bool a) = .returned (.bool b) := by rw [h]
theorem ret_int {k : IntKind} {a b : Int} (h : a = b) : Ending.returned (.int k a) = .returned (.int k b) := by rw [h]

theorem and1_fin : ∀ n : Fin 26, bits .and .i64 (n.val : Int) 1 = (n.val : Int) % 2 := by decide +kernel
theorem and1 (s : Int) (h : 0 ≤ s) (h' : s ≤ 25) : bits .and .i64 s 1 = s % 2 := by
  obtain ⟨n, rfl⟩ := Int.eq_ofNat_of_zero_le h
  exact and1_fin ⟨n, by omega⟩
theorem pow2_fin : ∀ n : Fin 257, 16 ≤ n.val → (bits .and .i64 (n.val : Int) ((n.val : Int) - 1) = 0 ↔ (n.val = 16 ∨ n.val = 32 ∨ n.val = 64 ∨ n.val = 128 ∨ n.val = 256)) := by decide +kernel
theorem pow2 (s : Int) (h : 16 ≤ s) (h' : s ≤ 256) : bits .and .i64 s (s - 1) = 0 ↔ (s = 16 ∨ s = 32 ∨ s = 64 ∨ s = 128 ∨ s = 256) := by
  obtain ⟨n, rfl⟩ := Int.eq_ofNat_of_zero_le (a := s) (by omega)
  have := pow2_fin ⟨n, by omega⟩ (by simp only; omega)
  simp only at this
  rw [this]; omega

end Go.Proofs.YtibjellhafndiaaGreatDoor

/- The model's HeadOk answers 'hOk'. -/
namespace Go.Proofs.YtibjellhafndiaaGreatDoor
set_option maxRecDepth 20000

open Go.RowKit
set_option linter.unusedSimpArgs false

theorem l1In_any (x a b : Int) (w : World) :
    Calls Tryz.prog 49 #[.int .i64 x, .int .i64 a, .int .i64 b] w fun e w' => e = .returned (.bool (inB x a b)) ∧ w' = w := by
  go_enter Tryz.func49, Tryz.ntmps49
  go_wp2
  all_goals
    go_ret
    refine ⟨ret_bool ?_, rfl⟩
    go_light
    rw [Bool.eq_iff_iff]
    simp [inB] at * <;> omega

theorem specHeadOk_any (k s n : Int) (w : World) :
    Calls Tryz.prog 80 #[.agg #[.int .i64 k, .int .i64 s, .int .i64 n]] w fun e w' => e = .returned (.bool (hOk k s n)) ∧ Below w.heap.size w w' := by
  go_enter Tryz.func80, Tryz.ntmps80
  go_wp2_with (go_at_call 49; refine (l1In_any _ _ _ _).mono ?_; rintro e w' ⟨rfl, rfl⟩)
  all_goals
    go_ret
    refine ⟨ret_bool ?_, (Below.refl _ _).alloc (Nat.le_refl _) _⟩
    go_light
    rw [Bool.eq_iff_iff]
    simp [hOk, inB] at *
    all_goals (try have ht := Int.tmod_eq_emod_of_nonneg (a := s) (b := 2) (by omega))
    all_goals omega

theorem blockSizeOk_any (s : Int) (w : World) :
    Calls Tryz.prog 230 #[.int .i64 s] w fun e w' => e = .returned (.bool (decide (s = 16 ∨ s = 32 ∨ s = 64 ∨ s = 128 ∨ s = 256))) ∧ w' = w := by
  go_enter Tryz.func230, Tryz.ntmps230
  go_wp2
  all_goals
    go_ret
    refine ⟨ret_bool ?_, rfl⟩
    try have ht := pow2 s (by omega) (by omega)
    go_light
    rw [Bool.eq_iff_iff]
    simp at * <;> omega

theorem hasSerial_any (k : Int) (w : World) :
    Calls Tryz.prog 181 #[.int .i64 k] w fun e w' => e = .returned (.bool (hasS k)) ∧ w' = w := by
  go_enter Tryz.func181, Tryz.ntmps181
  go_wp2
  all_goals
    go_ret
    refine ⟨ret_bool ?_, rfl⟩
    go_light
    rw [Bool.eq_iff_iff]
    simp [hasS] at * <;> omega

theorem textSize0 (w : World) : Calls Tryz.prog 186 #[.int .i64 0] w fun e w' => e = .returned (.int .i64 1) ∧ w' = w := by
  go_enter Tryz.func186, Tryz.ntmps186
  go_wp2
  go_ret
  exact ⟨rfl, rfl⟩
theorem textSize160 (w : World) : Calls Tryz.prog 186 #[.int .i64 160] w fun e w' => e = .returned (.int .i64 21) ∧ w' = w := by
  go_enter Tryz.func186, Tryz.ntmps186
  go_wp2
  go_ret
  exact ⟨rfl, rfl⟩

theorem sizeOk_any (k s : Int) (w : World) :
    Calls Tryz.prog 226 #[.int .i64 k, .int .i64 s] w fun e w' => e = .returned (.bool (sOk k s)) ∧ w' = w := by
  go_enter Tryz.func226, Tryz.ntmps226
  go_wp2_with (first | (go_at_call 230; refine (blockSizeOk_any _ _).mono ?_; rintro e w' ⟨rfl, rfl⟩) | (go_at_call 186; refine (textSize0 _).mono ?_; rintro e w' ⟨rfl, rfl⟩) | (go_at_call 186; refine (textSize160 _).mono ?_; rintro e w' ⟨rfl, rfl⟩))
  all_goals
    go_ret
    refine ⟨ret_bool ?_, rfl⟩
    go_light
    rw [Bool.eq_iff_iff]
    simp [sOk] at *
    all_goals have ht := and1 s
    all_goals omega

theorem implHeadOk_any (k s n : Int) (w : World) :
    Calls Tryz.prog 219 #[.agg #[.int .i64 k, .int .i64 s, .int .i64 n]] w fun e w' => e = .returned (.bool (hOk k s n)) ∧ Below w.heap.size w w' := by
  go_enter Tryz.func219, Tryz.ntmps219
  go_wp2_with (first | (go_at_call 226; refine (sizeOk_any _ _ _).mono ?_; rintro e w' ⟨rfl, rfl⟩) | (go_at_call 181; refine (hasSerial_any _ _).mono ?_; rintro e w' ⟨rfl, rfl⟩))
  all_goals
    go_ret
    refine ⟨ret_bool ?_, (Below.refl _ _).alloc (Nat.le_refl _) _⟩
    go_light
  · rw [hOk_no n (by simpa using ‹(!sOk k s) = true›)]
  · rw [hOk_born n (by simpa using ‹(!sOk k s) = false›) ‹_›, decide_eq_decide]; omega
  · rw [hOk_born n (by simpa using ‹(!sOk k s) = false›) ‹_›]; symm; apply decide_eq_false; omega
  · rw [hOk_plain n (by simpa using ‹(!sOk k s) = false›) ‹_›]; rfl

theorem bcell {W w1 : World} {B : Nat} (hb : Below B W w1) : (∀ b o, b < B → w1.cell? ⟨b, o, none⟩ = W.cell? ⟨b, o, none⟩) ∧ (∀ b o, b < B → w1.frozen? ⟨b, o, none⟩ = W.frozen? ⟨b, o, none⟩) :=
  ⟨fun b o h => hb.cell (p := ⟨b, o, none⟩) h, fun b o h => hb.frozen (p := ⟨b, o, none⟩) h⟩
theorem size_first {w w' : World} {o : Obj} (hb : Below (w.alloc o).heap.size (w.alloc o) w') : w.heap.size < w'.heap.size := by
  have h := hb.size
  simp at h
  omega
theorem below_first {w w' : World} {o : Obj} (hb : Below (w.alloc o).heap.size (w.alloc o) w') : Below w.heap.size w w' :=
  ((Below.refl _ _).alloc (Nat.le_refl _) _).trans (hb.mono (by simp))
theorem below_next {w w1 w2 : World} (hB : Below w.heap.size w w1) (hb : Below w1.heap.size w1 w2) : Below w.heap.size w w2 :=
  hB.trans (hb.mono hB.size)

end Go.Proofs.YtibjellhafndiaaGreatDoor
