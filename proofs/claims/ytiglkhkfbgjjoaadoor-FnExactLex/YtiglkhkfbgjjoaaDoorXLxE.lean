/- The laws' markText. -/
import Derived.Test.YtiglkhkfbgjjoaaDoorProg
import Derived.Test.YtiglkhkfbgjjoaaDoorXLxT
namespace Go.Proofs.YtiglkhkfbgjjoaaDoor
set_option maxRecDepth 20000
open Go.RowKit Go.PlainAid
set_option linter.unusedSimpArgs false
set_option linter.unusedVariables false

/-- A text of one byte. -/
def one1 (z : Int) : ByteArray := ByteArray.empty.push (UInt8.ofNat z.toNat)
theorem one1_size (z : Int) : (one1 z).size = 1 := rfl
/-- The digits of k ahead of a text, n of them at most. -/
def dgs : Nat → Nat → ByteArray → ByteArray
  | 0, _, o => o
  | n + 1, k, o => if 0 < k then dgs n (k / 10) (one1 (48 + ((k % 10 : Nat) : Int)) ++ o) else o
/-- The text that marks a place. -/
def mtx (k : Nat) : ByteArray := ⟨#[109]⟩ ++ dgs 5 k ⟨#[]⟩
theorem conv_one (W : World) (g : Nat) (z : Int) (h : W.cell? ⟨g, 0, none⟩ = some (.int .u8 z)) : (convert 28 9 (.slice (some ⟨g, 0, none⟩) 1 1)).run Tryd.prog W = .ok (.string (one1 z)) W := by
  have hl : (loadCells ⟨g, 0, none⟩ 1).run Tryd.prog W = .ok ([z].map (Value.int .u8)).toArray W := by
    have := run_loadCells (P := Tryd.prog) W ⟨g, 0, none⟩ 1 (fun _ => Value.int .u8 z) (fun j hj => by
      obtain rfl : j = 0 := by omega
      rw [Addr.add_lit]
      exact h)
    rw [this]
    rfl
  rw [run_convert_bytes_string W _ _ _ _ _ _ Tryd.underlying28 Tryd.underlying5 Tryd.underlying9, run_bytesToString W _ _ _ [z] hl]
  rfl
set_option maxHeartbeats 1000000 in
theorem markText_by (k : Nat) (M : ByteArray) (w : World) (h0 : 0 < k) (h1 : k ≤ 20000) (hM : ∀ o : ByteArray, o = dgs 5 k ⟨#[]⟩ → (⟨#[109]⟩ : ByteArray) ++ o = M) :
    Calls Tryd.prog 29 #[.int .i64 (k : Int)] w fun e w' => e = .returned (.string M) ∧ Below w.heap.size w w' := by
  have h0' : 0 < (k : Int) := by omega
  have h1' : (k : Int) ≤ 20000 := by omega
  have HX : Hid (∀ o : ByteArray, o = dgs 5 k ⟨#[]⟩ → (⟨#[109]⟩ : ByteArray) ++ o = M) := hM
  clear hM
  go_enter Tryd.func29, Tryd.ntmps29
  go_wp2
  go_loopw [0, 3] (fun q o wr => ∃ (n j : Nat) (s : ByteArray), q = .int .i64 (j : Int) ∧ o = .string s ∧ j < 10 ^ n ∧ n ≤ 5 ∧ s.size + n ≤ 5 ∧ Hid (dgs n j s = dgs 5 k ⟨#[]⟩) ∧ Hid (Below w.heap.size w wr)) (fun q _ _ => (intOf q).toNat)
  case atStart => exact ⟨5, k, ⟨#[]⟩, rfl, rfl, by simp only [Nat.reducePow]; omega, Nat.le_refl _, (show 0 + 5 ≤ 5 by omega), rfl, Below.refl _ _⟩
  case round =>
    obtain ⟨n, j, s, rfl, rfl, hj, hn, hs, hd, hB⟩ := hrel
    by_cases hp : 0 < j
    · have hp' : 0 < (j : Int) := by omega
      have h5 : 10 ^ n ≤ 10 ^ 5 := Nat.pow_le_pow_right (by omega) hn
      simp only [Nat.reducePow] at h5
      have hj' : (j : Int) ≤ 100000 := by omega
      obtain ⟨n, rfl⟩ : ∃ m, n = m + 1 := by
        cases n with
        | zero => simp at hj; omega
        | succ m => exact ⟨m, rfl⟩
      have hd2 : Hid (dgs n (j / 10) (one1 (48 + ((j % 10 : Nat) : Int)) ++ s) = dgs 5 k ⟨#[]⟩) := by
        have := hd.out
        unfold dgs at this
        rw [if_pos hp] at this
        exact this
      have hj2 : j / 10 < 10 ^ n := by
        rw [Nat.pow_succ] at hj
        omega
      have hlt : j / 10 < j := by omega
      have hm : (j : Int).tmod 10 = ((j % 10 : Nat) : Int) := by rw [Int.tmod_eq_emod_of_nonneg (by omega)]; omega
      have hdv : (j : Int).tdiv 10 = ((j / 10 : Nat) : Int) := by rw [Int.tdiv_eq_ediv_of_nonneg (by omega)]; omega
      have hm1 : ((j % 10 : Nat) : Int) ≤ 9 := by omega
      have hm0 : 0 ≤ ((j % 10 : Nat) : Int) := by omega
      have hB2 : Hid (∀ o, Below w.heap.size w (wr.alloc o)) := fun o => hB.out.alloc hB.out.size o
      generalize ((j % 10 : Nat) : Int) = r at *
      generalize j / 10 = q at *
      have hcv : ∀ z, (convert 28 9 (.slice (some ⟨wr.heap.size, 0, none⟩) 1 1)).run Tryd.prog (wr.alloc (.cells #[.int .u8 z] 5)) = .ok (.string (one1 z)) (wr.alloc (.cells #[.int .u8 z] 5)) := fun z => conv_one _ _ z (by simp [go_sem])
      have hs1 : ∀ z, (one1 z).size = 1 := one1_size
      have hs2 : (s.size : Int) ≤ 5 := by omega
      clear hd hj h5
      go_wp2
      go_roundw
      case rel =>
        refine ⟨n, q, _, by go_num, rfl, hj2, by omega, ?_, hd2, hB2.out _⟩
        rw [ByteArray.size_append, hs1]
        omega
      case measure => simp [intOf]; omega
    · have hp' : ¬ 0 < (j : Int) := by omega
      have e : s = dgs 5 k ⟨#[]⟩ := by
        rw [← hd.out]
        cases n with
        | zero => rfl
        | succ n => unfold dgs; rw [if_neg hp]
      have hs2 : (s.size : Int) ≤ 5 := by omega
      have HY : Hid ((⟨#[109]⟩ : ByteArray) ++ s = M) := HX.out s e
      clear e hd HX
      go_wp2
      go_ret
      exact ⟨by rw [← HY.out]; rfl, hB.out⟩
theorem markText_at (k : Nat) (w : World) (h0 : 0 < k) (h1 : k ≤ 20000) :
    Calls Tryd.prog 29 #[.int .i64 (k : Int)] w fun e w' => e = .returned (.string (mtx k)) ∧ Below w.heap.size w w' :=
  markText_by k (mtx k) w h0 h1 (fun o ho => by rw [ho]; rfl)
end Go.Proofs.YtiglkhkfbgjjoaaDoor
