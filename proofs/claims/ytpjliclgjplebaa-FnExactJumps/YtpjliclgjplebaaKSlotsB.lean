/- The laws' own helpers over []int: eqIntS of two alike, markIntS, heldIntS. -/
import Derived.Test.YtpjliclgjplebaaProg
import Derived.Test.YtpjliclgjplebaaKRowF
import Derived.WalkKit
import Derived.WalkSpells
import Derived.WalkLawsBesides
import Derived.Below
import Derived.Outline
import Derived.Deep.Light
import Derived.Deep.OwnRows
import Derived.Deep.QuietTactic
import Derived.BigQuiet
namespace Go.Proofs.Ytpjliclgjplebaa
set_option maxRecDepth 20000
open Go.RowKit
set_option linter.unusedSimpArgs false
set_option linter.unusedVariables false

theorem eqIntS_same (T1 T2 : Nat) (v1 v2 : Value) (n : Nat) (z : Nat → Int) (w : World) (h1 : SlF T1 w v1 n n (fun i => .int .i64 (z i))) (h2 : SlF T2 w v2 n n (fun i => .int .i64 (z i))) (hn : n ≤ 1048576) :
    Calls Try.prog 9 #[v1, v2] w fun e w' => e = .returned (.bool true) ∧ Below w.heap.size w w' := by
  obtain ⟨a1, c1, rfl, h1⟩ := h1
  obtain ⟨a2, c2, rfl, h2⟩ := h2
  have hn' : (n : Int) ≤ 1048576 := by omega
  go_enter Try.func9, Try.ntmps9
  go_wp2
  go_loopw [5] (fun i wr => ∃ k : Nat, k ≤ n ∧ i = .int .i64 k ∧ Below w.heap.size w wr) (fun i _ => n - (intOf i).toNat)
  case atStart => exact ⟨0, Nat.zero_le _, rfl, Below.refl _ _⟩
  case round =>
    obtain ⟨k, hk, rfl, hF⟩ := hrel
    by_cases hlt : k < n
    · rcases h1 with rfl | ⟨b1, o1, rfl, _, l1, g1⟩
      · simp at hlt
      rcases h2 with rfl | ⟨b2, o2, rfl, _, l2, g2⟩
      · simp at hlt
      have hc1 : wr.cell? ⟨b1, o1 + k, none⟩ = some (.int .i64 (z k)) := by rw [hF.cell (p := ⟨b1, o1 + k, none⟩) l1]; exact g1 k hlt
      have hc2 : wr.cell? ⟨b2, o2 + k, none⟩ = some (.int .i64 (z k)) := by rw [hF.cell (p := ⟨b2, o2 + k, none⟩) l2]; exact g2 k hlt
      have hlt' : (k : Int) < (n : Int) := by omega
      clear g1 g2
      go_wp2
      go_quiet (fail)
      go_wp2
      go_roundw
      case rel => exact ⟨k + 1, by omega, by go_num, below_drewN hF _⟩
      case measure => simp [intOf]; omega
    · go_wp2
      go_ret
      exact ⟨rfl, hF⟩

theorem markIntS_any (B T : Nat) (v : Value) (n : Nat) (z : Nat → Int) (k0 : Int) (w : World) (h : OwnF B T 3 w v n n (fun i => .int .i64 (z i))) (hn : n ≤ 1048576) (hk0 : 0 ≤ k0) (hk1 : k0 ≤ 4194304) :
    Calls Try.prog 12 #[v, .int .i64 k0] w fun e w' => e = .returned (.int .i64 (k0 + n)) ∧ OwnF B T 3 w' v n n (fun i => .int .i64 (k0 + i)) ∧ Outside B T w w' := by
  obtain ⟨a, cap, rfl, h⟩ := h
  have hn' : (n : Int) ≤ 1048576 := by omega
  have hst := markRelF_start (w := w) (u := fun i => .int .i64 (k0 + i)) h
  clear h
  go_enter Try.func12, Try.ntmps12
  go_wp2
  go_loopw [1, 5] (fun q i wr => ∃ k : Nat, k ≤ n ∧ i = .int .i64 k ∧ q = .int .i64 (k0 + k) ∧ MarkRelF B T 3 w wr a n (fun i => .int .i64 (z i)) (fun i => .int .i64 (k0 + i)) k) (fun _ i _ => n - (intOf i).toNat)
  case atStart => exact ⟨0, Nat.zero_le _, rfl, by simp, hst⟩
  case round =>
    obtain ⟨k, hk, rfl, rfl, hR⟩ := hrel
    by_cases hlt : k < n
    · have hR' := hR.2
      rcases hR' with h0 | ⟨b, M, g, rfl, hB, hT, hm, hF, hf⟩
      · omega
      have hc1 : wr.cell? ⟨b, k, none⟩ = some (if k < k then .int .i64 (k0 + k) else g k) := hF.2.cell (by omega)
      rw [if_neg (Nat.lt_irrefl k), hf k hlt] at hc1
      have hf1 := hF.2.frozen k
      have hst := markedF_step hF hB hT
      have hlt' : (k : Int) < (n : Int) := by omega
      go_wp2
      go_roundw
      case rel => exact ⟨k + 1, by omega, by go_num, by go_num, hst.1, .inr ⟨b, M, g, rfl, hB, hT, hm, hst, hf⟩⟩
      case measure => simp [intOf]; omega
    · have hkk : k = n := by omega
      go_wp2
      go_ret
      exact ⟨ret_int (by omega), markRelF_end hR (by omega), hR.1⟩

theorem heldIntS_any (T : Nat) (v : Value) (n : Nat) (k0 : Int) (w : World) (h : SlF T w v n n (fun i => .int .i64 (k0 + i))) (hn : n ≤ 1048576) (hk0 : 0 ≤ k0) (hk1 : k0 ≤ 4194304) :
    Calls Try.prog 13 #[v, .int .i64 k0] w fun e w' => e = .returned (.int .i64 (k0 + n)) ∧ Below w.heap.size w w' := by
  obtain ⟨a, cap, rfl, h⟩ := h
  have hn' : (n : Int) ≤ 1048576 := by omega
  go_enter Try.func13, Try.ntmps13
  go_wp2
  go_loopw [1, 5] (fun q i wr => ∃ k : Nat, k ≤ n ∧ i = .int .i64 k ∧ q = .int .i64 (k0 + k) ∧ Below w.heap.size w wr) (fun _ i _ => n - (intOf i).toNat)
  case atStart => exact ⟨0, Nat.zero_le _, rfl, by simp, Below.refl _ _⟩
  case round =>
    obtain ⟨k, hk, rfl, rfl, hF⟩ := hrel
    by_cases hlt : k < n
    · rcases h with h | ⟨b, off, rfl, _, hl, hc⟩
      · omega
      have hc1 : wr.cell? ⟨b, off + k, none⟩ = some (.int .i64 (k0 + k)) := by
        rw [hF.cell (p := ⟨b, off + k, none⟩) hl, hc k hlt]
      clear hc
      have hlt' : (k : Int) < (n : Int) := by omega
      go_wp2
      go_roundw
      case rel => exact ⟨k + 1, by omega, by go_num, by go_num, hF⟩
      case measure => simp [intOf]; omega
    · have hkk : k = n := by omega
      go_wp2
      go_ret
      exact ⟨ret_int (by omega), hF⟩
end Go.Proofs.Ytpjliclgjplebaa
