/- The laws' own helpers over []uint64 and []Val, by cells: eq of two alike, mark, held; and over arenas. -/
import Derived.Test.YtbllmchbcbjfiaaProg
import Derived.Test.YtbllmchbcbjfiaaRowF
import Derived.WalkKit
import Derived.WalkSpells
import Derived.WalkLawsBesides
import Derived.Below
import Derived.Outline
import Derived.Deep.Light
import Derived.Deep.OwnRows
import Derived.Deep.QuietTactic
import Derived.BigQuiet
import Derived.Deep.RegionWith
namespace Go.Proofs.Ytbllmchbcbjfiaa
set_option maxRecDepth 20000
open Go.RowKit
set_option linter.unusedSimpArgs false
set_option linter.unusedVariables false

theorem eqVal_twin (t n : Int) (w : World) :
    Calls Try.prog 22 #[.agg #[.int .i64 t, .int .i64 n], .agg #[.int .i64 t, .int .i64 n]] w fun e w' => e = .returned (.bool true) ∧ Below w.heap.size w w' := by
  go_enter Try.func22, Try.ntmps22
  go_wp2
  go_ret
  exact ⟨rfl, ((Below.refl _ _).alloc (Nat.le_refl _) _).alloc (by simp) _⟩

theorem eqValS_same (T1 T2 : Nat) (v1 v2 : Value) (n : Nat) (z : Nat → Int) (w : World) (h1 : SlF T1 w v1 n (2 * n) (fun i => .int .i64 (z i))) (h2 : SlF T2 w v2 n (2 * n) (fun i => .int .i64 (z i))) (hn : n ≤ 1048576) :
    Calls Try.prog 17 #[v1, v2] w fun e w' => e = .returned (.bool true) ∧ Below w.heap.size w w' := by
  obtain ⟨a1, c1, rfl, h1⟩ := h1
  obtain ⟨a2, c2, rfl, h2⟩ := h2
  have hn' : (n : Int) ≤ 1048576 := by omega
  go_enter Try.func17, Try.ntmps17
  go_wp2
  go_loopw [5] (fun i wr => ∃ k : Nat, k ≤ n ∧ i = .int .i64 k ∧ Below w.heap.size w wr) (fun i _ => n - (intOf i).toNat)
  case atStart => exact ⟨0, Nat.zero_le _, rfl, Below.refl _ _⟩
  case round =>
    obtain ⟨k, hk, rfl, hF⟩ := hrel
    by_cases hlt : k < n
    · rcases h1 with h | ⟨b1, o1, rfl, _, l1, g1⟩
      · omega
      rcases h2 with h | ⟨b2, o2, rfl, _, l2, g2⟩
      · omega
      have hc1 : wr.cell? ⟨b1, o1 + k * 2, none⟩ = some (.int .i64 (z (2 * k))) := by rw [hF.cell (p := ⟨b1, o1 + k * 2, none⟩) l1, Nat.mul_comm]; exact g1 (2 * k) (by omega)
      have hc2 : wr.cell? ⟨b2, o2 + k * 2, none⟩ = some (.int .i64 (z (2 * k))) := by rw [hF.cell (p := ⟨b2, o2 + k * 2, none⟩) l2, Nat.mul_comm]; exact g2 (2 * k) (by omega)
      have hd1 : wr.cell? ⟨b1, o1 + k * 2 + 1, none⟩ = some (.int .i64 (z (2 * k + 1))) := by rw [hF.cell (p := ⟨b1, o1 + k * 2 + 1, none⟩) l1, Nat.mul_comm]; exact g1 (2 * k + 1) (by omega)
      have hd2 : wr.cell? ⟨b2, o2 + k * 2 + 1, none⟩ = some (.int .i64 (z (2 * k + 1))) := by rw [hF.cell (p := ⟨b2, o2 + k * 2 + 1, none⟩) l2, Nat.mul_comm]; exact g2 (2 * k + 1) (by omega)
      have hlt' : (k : Int) < (n : Int) := by omega
      clear g1 g2
      go_wp2
      go_region_with (go_at_call 22; refine (eqVal_twin _ _ _).mono ?_; rintro e w' ⟨rfl, hb⟩)
      all_goals
        have hB := below_next hF.drew hb
        go_wp2
        go_roundw
        case rel => exact ⟨k + 1, by omega, by go_num, hB⟩
        case measure => simp [intOf]; omega
    · go_wp2
      go_ret
      exact ⟨rfl, hF⟩

end Go.Proofs.Ytbllmchbcbjfiaa
