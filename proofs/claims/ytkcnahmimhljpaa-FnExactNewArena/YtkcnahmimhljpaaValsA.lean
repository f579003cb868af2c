/- The laws' own helpers over []uint64 and []Val, by cells: eq of two alike, mark, held; and over arenas. -/
import Derived.Test.YtkcnahmimhljpaaProg
import Derived.Test.YtkcnahmimhljpaaRowF
import Derived.WalkKit
import Derived.WalkSpells
import Derived.WalkLawsBesides
import Derived.Below
import Derived.Outline
import Derived.Deep.Light
import Derived.Deep.OwnRows
import Derived.Deep.QuietTactic
import Derived.BigQuiet
import Derived.Deep.RegionWith
namespace Go.Proofs.Ytkcnahmimhljpaa
set_option maxRecDepth 20000
open Go.RowKit
set_option linter.unusedSimpArgs false
set_option linter.unusedVariables false

theorem eqU64S_same (T1 T2 : Nat) (v1 v2 : Value) (n : Nat) (z : Nat → Int) (w : World) (h1 : SlF T1 w v1 n n (fun i => .int .u64 (z i))) (h2 : SlF T2 w v2 n n (fun i => .int .u64 (z i))) (hn : n ≤ 1048576) :
    Calls Try.prog 20 #[v1, v2] w fun e w' => e = .returned (.bool true) ∧ Below w.heap.size w w' := by
  obtain ⟨a1, c1, rfl, h1⟩ := h1
  obtain ⟨a2, c2, rfl, h2⟩ := h2
  have hn' : (n : Int) ≤ 1048576 := by omega
  go_enter Try.func20, Try.ntmps20
  go_wp2
  go_loopw [5] (fun i wr => ∃ k : Nat, k ≤ n ∧ i = .int .i64 k ∧ Below w.heap.size w wr) (fun i _ => n - (intOf i).toNat)
  case atStart => exact ⟨0, Nat.zero_le _, rfl, Below.refl _ _⟩
  case round =>
    obtain ⟨k, hk, rfl, hF⟩ := hrel
    by_cases hlt : k < n
    · rcases h1 with rfl | ⟨b1, o1, rfl, _, l1, g1⟩
      · simp at hlt
      rcases h2 with rfl | ⟨b2, o2, rfl, _, l2, g2⟩
      · simp at hlt
      have hc1 : wr.cell? ⟨b1, o1 + k, none⟩ = some (.int .u64 (z k)) := by rw [hF.cell (p := ⟨b1, o1 + k, none⟩) l1]; exact g1 k hlt
      have hc2 : wr.cell? ⟨b2, o2 + k, none⟩ = some (.int .u64 (z k)) := by rw [hF.cell (p := ⟨b2, o2 + k, none⟩) l2]; exact g2 k hlt
      have hlt' : (k : Int) < (n : Int) := by omega
      clear g1 g2
      go_wp2
      go_quiet (fail)
      go_wp2
      go_roundw
      case rel => exact ⟨k + 1, by omega, by go_num, below_drewN hF _⟩
      case measure => simp [intOf]; omega
    · go_wp2
      go_ret
      exact ⟨rfl, hF⟩

theorem markU64S_any (B T : Nat) (v : Value) (n : Nat) (z : Nat → Int) (k0 : Int) (w : World) (h : OwnF B T 55 w v n n (fun i => .int .u64 (z i))) (hn : n ≤ 1048576) (hk0 : 0 ≤ k0) (hk1 : k0 ≤ 4194304) :
    Calls Try.prog 22 #[v, .int .i64 k0] w fun e w' => e = .returned (.int .i64 (k0 + n)) ∧ OwnF B T 55 w' v n n (fun i => .int .u64 (k0 + i)) ∧ Outside B T w w' := by
  obtain ⟨a, cap, rfl, h⟩ := h
  have hn' : (n : Int) ≤ 1048576 := by omega
  have hst := markRelF_start (w := w) (u := fun i => .int .u64 (k0 + i)) h
  clear h
  go_enter Try.func22, Try.ntmps22
  go_wp2
  go_loopw [1, 5] (fun q i wr => ∃ k : Nat, k ≤ n ∧ i = .int .i64 k ∧ q = .int .i64 (k0 + k) ∧ MarkRelF B T 55 w wr a n (fun i => .int .u64 (z i)) (fun i => .int .u64 (k0 + i)) k) (fun _ i _ => n - (intOf i).toNat)
  case atStart => exact ⟨0, Nat.zero_le _, rfl, by simp, hst⟩
  case round =>
    obtain ⟨k, hk, rfl, rfl, hR⟩ := hrel
    by_cases hlt : k < n
    · have hR' := hR.2
      rcases hR' with h0 | ⟨b, M, g, rfl, hB, hT, hm, hF, hf⟩
      · omega
      have hc1 : wr.cell? ⟨b, k, none⟩ = some (if k < k then .int .u64 (k0 + k) else g k) := hF.2.cell (by omega)
      rw [if_neg (Nat.lt_irrefl k), hf k hlt] at hc1
      have hf1 := hF.2.frozen k
      have hst := markedF_step hF hB hT
      have hlt' : (k : Int) < (n : Int) := by omega
      have hz0 : 0 ≤ k0 + (k : Int) := by omega
      have hz1 : k0 + (k : Int) ≤ 5242880 := by omega
      go_wp2
      go_roundw
      case rel => exact ⟨k + 1, by omega, by go_num, by go_num, hst.1, .inr ⟨b, M, g, rfl, hB, hT, hm, hst, hf⟩⟩
      case measure => simp [intOf]; omega
    · have hkk : k = n := by omega
      go_wp2
      go_ret
      exact ⟨ret_int (by omega), markRelF_end hR (by omega), hR.1⟩

theorem heldU64S_any (T : Nat) (v : Value) (n : Nat) (k0 : Int) (w : World) (h : SlF T w v n n (fun i => .int .u64 (k0 + i))) (hn : n ≤ 1048576) (hk0 : 0 ≤ k0) (hk1 : k0 ≤ 4194304) :
    Calls Try.prog 24 #[v, .int .i64 k0] w fun e w' => e = .returned (.int .i64 (k0 + n)) ∧ Below w.heap.size w w' := by
  obtain ⟨a, cap, rfl, h⟩ := h
  have hn' : (n : Int) ≤ 1048576 := by omega
  go_enter Try.func24, Try.ntmps24
  go_wp2
  go_loopw [1, 5] (fun q i wr => ∃ k : Nat, k ≤ n ∧ i = .int .i64 k ∧ q = .int .i64 (k0 + k) ∧ Below w.heap.size w wr) (fun _ i _ => n - (intOf i).toNat)
  case atStart => exact ⟨0, Nat.zero_le _, rfl, by simp, Below.refl _ _⟩
  case round =>
    obtain ⟨k, hk, rfl, rfl, hF⟩ := hrel
    by_cases hlt : k < n
    · rcases h with h | ⟨b, off, rfl, _, hl, hc⟩
      · omega
      have hc1 : wr.cell? ⟨b, off + k, none⟩ = some (.int .u64 (k0 + k)) := by
        rw [hF.cell (p := ⟨b, off + k, none⟩) hl, hc k hlt]
      clear hc
      have hlt' : (k : Int) < (n : Int) := by omega
      have hz0 : 0 ≤ k0 + (k : Int) := by omega
      have hz1 : k0 + (k : Int) ≤ 5242880 := by omega
      go_wp2
      go_roundw
      case rel => exact ⟨k + 1, by omega, by go_num, by go_num, hF⟩
      case measure => simp [intOf]; omega
    · have hkk : k = n := by omega
      go_wp2
      go_ret
      exact ⟨ret_int (by omega), hF⟩

theorem eqVal_same (t n : Int) (w : World) :
    Calls Try.prog 28 #[.agg #[.int .i64 t, .int .i64 n], .agg #[.int .i64 t, .int .i64 n]] w fun e w' => e = .returned (.bool true) ∧ Below w.heap.size w w' := by
  go_enter Try.func28, Try.ntmps28
  go_wp2
  go_ret
  exact ⟨rfl, ((Below.refl _ _).alloc (Nat.le_refl _) _).alloc (by simp) _⟩

theorem eqValS_same (T1 T2 : Nat) (v1 v2 : Value) (n : Nat) (z : Nat → Int) (w : World) (h1 : SlF T1 w v1 n (2 * n) (fun i => .int .i64 (z i))) (h2 : SlF T2 w v2 n (2 * n) (fun i => .int .i64 (z i))) (hn : n ≤ 1048576) :
    Calls Try.prog 21 #[v1, v2] w fun e w' => e = .returned (.bool true) ∧ Below w.heap.size w w' := by
  obtain ⟨a1, c1, rfl, h1⟩ := h1
  obtain ⟨a2, c2, rfl, h2⟩ := h2
  have hn' : (n : Int) ≤ 1048576 := by omega
  go_enter Try.func21, Try.ntmps21
  go_wp2
  go_loopw [5] (fun i wr => ∃ k : Nat, k ≤ n ∧ i = .int .i64 k ∧ Below w.heap.size w wr) (fun i _ => n - (intOf i).toNat)
  case atStart => exact ⟨0, Nat.zero_le _, rfl, Below.refl _ _⟩
  case round =>
    obtain ⟨k, hk, rfl, hF⟩ := hrel
    by_cases hlt : k < n
    · rcases h1 with h | ⟨b1, o1, rfl, _, l1, g1⟩
      · omega
      rcases h2 with h | ⟨b2, o2, rfl, _, l2, g2⟩
      · omega
      have hc1 : wr.cell? ⟨b1, o1 + k * 2, none⟩ = some (.int .i64 (z (2 * k))) := by rw [hF.cell (p := ⟨b1, o1 + k * 2, none⟩) l1, Nat.mul_comm]; exact g1 (2 * k) (by omega)
      have hc2 : wr.cell? ⟨b2, o2 + k * 2, none⟩ = some (.int .i64 (z (2 * k))) := by rw [hF.cell (p := ⟨b2, o2 + k * 2, none⟩) l2, Nat.mul_comm]; exact g2 (2 * k) (by omega)
      have hd1 : wr.cell? ⟨b1, o1 + k * 2 + 1, none⟩ = some (.int .i64 (z (2 * k + 1))) := by rw [hF.cell (p := ⟨b1, o1 + k * 2 + 1, none⟩) l1, Nat.mul_comm]; exact g1 (2 * k + 1) (by omega)
      have hd2 : wr.cell? ⟨b2, o2 + k * 2 + 1, none⟩ = some (.int .i64 (z (2 * k + 1))) := by rw [hF.cell (p := ⟨b2, o2 + k * 2 + 1, none⟩) l2, Nat.mul_comm]; exact g2 (2 * k + 1) (by omega)
      have hlt' : (k : Int) < (n : Int) := by omega
      clear g1 g2
      go_wp2
      go_region_with (go_at_call 28; refine (eqVal_same _ _ _).mono ?_; rintro e w' ⟨rfl, hb⟩)
      all_goals
        have hB := below_next hF.drew hb
        go_wp2
        go_roundw
        case rel => exact ⟨k + 1, by omega, by go_num, hB⟩
        case measure => simp [intOf]; omega
    · go_wp2
      go_ret
      exact ⟨rfl, hF⟩

theorem markValS_any (B T : Nat) (v : Value) (n : Nat) (z : Nat → Int) (k0 : Int) (w : World) (h : OwnF B T 58 w v n (2 * n) (fun i => .int .i64 (z i))) (hn : n ≤ 1048576) (hk0 : 0 ≤ k0) (hk1 : k0 ≤ 4194304) :
    Calls Try.prog 23 #[v, .int .i64 k0] w fun e w' => e = .returned (.int .i64 (k0 + 2 * n)) ∧ OwnF B T 58 w' v n (2 * n) (fun i => .int .i64 (k0 + i)) ∧ Outside B T w w' := by
  obtain ⟨a, cap, rfl, h⟩ := h
  have hn' : (n : Int) ≤ 1048576 := by omega
  have hst := markRelF_start (w := w) (u := fun i => .int .i64 (k0 + i)) h
  clear h
  go_enter Try.func23, Try.ntmps23
  go_wp2
  go_loopw [1, 5] (fun q i wr => ∃ k : Nat, k ≤ n ∧ i = .int .i64 k ∧ q = .int .i64 (k0 + 2 * k) ∧ MarkRelF B T 58 w wr a (2 * n) (fun i => .int .i64 (z i)) (fun i => .int .i64 (k0 + i)) (k * 2)) (fun _ i _ => n - (intOf i).toNat)
  case atStart => exact ⟨0, Nat.zero_le _, rfl, by simp, hst⟩
  case round =>
    obtain ⟨k, hk, rfl, rfl, hR⟩ := hrel
    by_cases hlt : k < n
    · have hR' := hR.2
      rcases hR' with h0 | ⟨b, M, g, rfl, hB, hT, hm, hF, hf⟩
      · omega
      have hc1 : wr.cell? ⟨b, k * 2, none⟩ = some (.int .i64 (z (k * 2))) := by rw [hF.2.cell (by omega), if_neg (by omega), hf _ (by omega)]
      have hc2 : wr.cell? ⟨b, k * 2 + 1, none⟩ = some (.int .i64 (z (k * 2 + 1))) := by rw [hF.2.cell (by omega), if_neg (by omega), hf _ (by omega)]
      have hf1 := hF.2.frozen (k * 2)
      have hf2 := hF.2.frozen (k * 2 + 1)
      have hst := markedF_step (markedF_step hF hB hT) hB hT
      have e1 : ((k * 2 : Nat) : Int) = 2 * k := by omega
      have e2 : ((k * 2 + 1 : Nat) : Int) = 2 * k + 1 := by omega
      rw [e1, e2] at hst
      have hlt' : (k : Int) < (n : Int) := by omega
      clear e1 e2
      go_wp2
      go_roundw
      case rel => exact ⟨k + 1, by omega, by go_num, by go_num, by simpa [Int.add_assoc, Nat.add_mul] using hst.1, .inr ⟨b, M, g, rfl, hB, hT, hm, by simpa [Int.add_assoc, Nat.add_mul] using hst, hf⟩⟩
      case measure => simp [intOf]; omega
    · have hkk : k = n := by omega
      go_wp2
      go_ret
      exact ⟨ret_int (by omega), markRelF_end hR (by omega), hR.1⟩

theorem heldValS_any (T : Nat) (v : Value) (n : Nat) (k0 : Int) (w : World) (h : SlF T w v n (2 * n) (fun i => .int .i64 (k0 + i))) (hn : n ≤ 1048576) (hk0 : 0 ≤ k0) (hk1 : k0 ≤ 4194304) :
    Calls Try.prog 25 #[v, .int .i64 k0] w fun e w' => e = .returned (.int .i64 (k0 + 2 * n)) ∧ Below w.heap.size w w' := by
  obtain ⟨a, cap, rfl, h⟩ := h
  have hn' : (n : Int) ≤ 1048576 := by omega
  go_enter Try.func25, Try.ntmps25
  go_wp2
  go_loopw [1, 5] (fun q i wr => ∃ k : Nat, k ≤ n ∧ i = .int .i64 k ∧ q = .int .i64 (k0 + 2 * k) ∧ Below w.heap.size w wr) (fun _ i _ => n - (intOf i).toNat)
  case atStart => exact ⟨0, Nat.zero_le _, rfl, by simp, Below.refl _ _⟩
  case round =>
    obtain ⟨k, hk, rfl, rfl, hF⟩ := hrel
    by_cases hlt : k < n
    · rcases h with h | ⟨b, off, rfl, _, hl, hc⟩
      · omega
      have hc1 : wr.cell? ⟨b, off + k * 2, none⟩ = some (.int .i64 (k0 + 2 * k)) := by
        rw [hF.cell (p := ⟨b, off + k * 2, none⟩) hl, hc (k * 2) (by omega), show ((k * 2 : Nat) : Int) = 2 * k by omega]
      have hc2 : wr.cell? ⟨b, off + k * 2 + 1, none⟩ = some (.int .i64 (k0 + 2 * k + 1)) := by
        rw [hF.cell (p := ⟨b, off + k * 2 + 1, none⟩) hl, Nat.add_assoc, hc (k * 2 + 1) (by omega), show k0 + ((k * 2 + 1 : Nat) : Int) = k0 + 2 * k + 1 by omega]
      clear hc
      have hlt' : (k : Int) < (n : Int) := by omega
      go_wp2
      go_roundw
      case rel => exact ⟨k + 1, by omega, by go_num, by go_num, hF⟩
      case measure => simp [intOf]; omega
    · have hkk : k = n := by omega
      go_wp2
      go_ret
      exact ⟨ret_int (by omega), hF⟩
end Go.Proofs.Ytkcnahmimhljpaa
