/- What heads are, as plain propositions on whole numbers: the walks of both packages' HeadOk end in 'hOk', of PackHead in 'pack', of ReadHead in its inverse. No Go here. -/
import Derived.WalkKit
namespace Go.Proofs.Ytdkicakkfmmilaa
set_option maxRecDepth 20000

/-- A right head, by its kind, size and serial. -/
def HOk (k s n : Int) : Prop :=
  (k = 1 ∧ 1 ≤ s ∧ s ≤ 21 ∧ n = 0) ∨ (k = 2 ∧ s = 3 ∧ 1 ≤ n ∧ n ≤ 1000000000) ∨
  (k = 3 ∧ (s = 16 ∨ s = 32 ∨ s = 64 ∨ s = 128 ∨ s = 256) ∧ n = 0) ∨
  (k = 4 ∧ 1 ≤ s ∧ s ≤ 25 ∧ s % 2 = 1 ∧ 1 ≤ n ∧ n ≤ 1000000000) ∨ (k = 5 ∧ s = 2 ∧ n = 0) ∨
  (k = 6 ∧ s = 126 ∧ 1 ≤ n ∧ n ≤ 1000000000)
def hOk (k s n : Int) : Bool := decide (
  (k = 1 ∧ 1 ≤ s ∧ s ≤ 21 ∧ n = 0) ∨ (k = 2 ∧ s = 3 ∧ 1 ≤ n ∧ n ≤ 1000000000) ∨
  (k = 3 ∧ (s = 16 ∨ s = 32 ∨ s = 64 ∨ s = 128 ∨ s = 256) ∧ n = 0) ∨
  (k = 4 ∧ 1 ≤ s ∧ s ≤ 25 ∧ s % 2 = 1 ∧ 1 ≤ n ∧ n ≤ 1000000000) ∨ (k = 5 ∧ s = 2 ∧ n = 0) ∨
  (k = 6 ∧ s = 126 ∧ 1 ≤ n ∧ n ≤ 1000000000))
theorem hOk_iff (k s n : Int) : hOk k s n = true ↔ HOk k s n := by unfold hOk HOk; exact decide_eq_true_iff
def inB (x a b : Int) : Bool := decide (a ≤ x ∧ x ≤ b)
/-- The size alone. -/
def SOk (k s : Int) : Prop :=
  (k = 1 ∧ 1 ≤ s ∧ s ≤ 21) ∨ (k = 2 ∧ s = 3) ∨ (k = 3 ∧ (s = 16 ∨ s = 32 ∨ s = 64 ∨ s = 128 ∨ s = 256)) ∨
  (k = 4 ∧ 1 ≤ s ∧ s ≤ 25 ∧ s % 2 = 1) ∨ (k = 5 ∧ s = 2) ∨ (k = 6 ∧ s = 126)
def sOk (k s : Int) : Bool := decide (
  (k = 1 ∧ 1 ≤ s ∧ s ≤ 21) ∨ (k = 2 ∧ s = 3) ∨ (k = 3 ∧ (s = 16 ∨ s = 32 ∨ s = 64 ∨ s = 128 ∨ s = 256)) ∨
  (k = 4 ∧ 1 ≤ s ∧ s ≤ 25 ∧ s % 2 = 1) ∨ (k = 5 ∧ s = 2) ∨ (k = 6 ∧ s = 126))
def hasS (k : Int) : Bool := decide (k = 2 ∨ k = 4 ∨ k = 6)

theorem sOk_iff (k s : Int) : sOk k s = true ↔ SOk k s := by unfold sOk SOk; exact decide_eq_true_iff
theorem hOk_no {k s : Int} (n : Int) (h : sOk k s = false) : hOk k s n = false := by
  rw [← Bool.not_eq_true, hOk_iff]
  rw [← Bool.not_eq_true, sOk_iff] at h
  refine fun g => h ?_
  unfold HOk at g; unfold SOk
  rcases g with ⟨rfl, g⟩ | ⟨rfl, g⟩ | ⟨rfl, g⟩ | ⟨rfl, g⟩ | ⟨rfl, g⟩ | ⟨rfl, g⟩ <;> simp <;> omega
theorem hOk_born {k s : Int} (n : Int) (h : sOk k s = true) (h' : hasS k = true) : hOk k s n = decide (1 ≤ n ∧ n ≤ 1000000000) := by
  rw [Bool.eq_iff_iff, hOk_iff, decide_eq_true_eq]
  rw [sOk_iff] at h
  simp only [hasS, decide_eq_true_eq] at h'
  unfold SOk at h; unfold HOk
  rcases h with ⟨rfl, g⟩ | ⟨rfl, g⟩ | ⟨rfl, g⟩ | ⟨rfl, g⟩ | ⟨rfl, g⟩ | ⟨rfl, g⟩ <;> simp at h' ⊢ <;> omega
theorem hOk_plain {k s : Int} (n : Int) (h : sOk k s = true) (h' : hasS k = false) : hOk k s n = decide (n = 0) := by
  rw [Bool.eq_iff_iff, hOk_iff, decide_eq_true_eq]
  rw [sOk_iff] at h
  simp only [hasS, decide_eq_false_iff_not] at h'
  unfold SOk at h; unfold HOk
  rcases h with ⟨rfl, g⟩ | ⟨rfl, g⟩ | ⟨rfl, g⟩ | ⟨rfl, g⟩ | ⟨rfl, g⟩ | ⟨rfl, g⟩ <;> simp at h' ⊢ <;> omega

theorem ret_bool {a b : Bool} (h : a = b) : Ending.returned (.bool a) = .returned (.bool b) := by rw [h]
theorem ret_int {k : IntKind} {a b : Int} (h : a = b) : Ending.returned (.int k a) = .returned (.int k b) := by rw [h]

theorem and1_fin : ∀ n : Fin 26, bits .and .i64 (n.val : Int) 1 = (n.val : Int) % 2 := by decide +kernel
theorem and1 (s : Int) (h : 0 ≤ s) (h' : s ≤ 25) : bits .and .i64 s 1 = s % 2 := by
  obtain ⟨n, rfl⟩ := Int.eq_ofNat_of_zero_le h
  exact and1_fin ⟨n, by omega⟩
theorem pow2_fin : ∀ n : Fin 257, 16 ≤ n.val → (bits .and .i64 (n.val : Int) ((n.val : Int) - 1) = 0 ↔ (n.val = 16 ∨ n.val = 32 ∨ n.val = 64 ∨ n.val = 128 ∨ n.val = 256)) := by decide +kernel
theorem pow2 (s : Int) (h : 16 ≤ s) (h' : s ≤ 256) : bits .and .i64 s (s - 1) = 0 ↔ (s = 16 ∨ s = 32 ∨ s = 64 ∨ s = 128 ∨ s = 256) := by
  obtain ⟨n, rfl⟩ := Int.eq_ofNat_of_zero_le (a := s) (by omega)
  have := pow2_fin ⟨n, by omega⟩ (by simp only; omega)
  simp only at this
  rw [this]; omega

end Go.Proofs.Ytdkicakkfmmilaa
