/- - -/
import Derived.Test.YtiglkhkfbgjjoaaDoorQRowF
import Derived.Deep.QuietTactic
import Derived.BigQuiet
namespace Go.Proofs.YtiglkhkfbgjjoaaDoor
set_option maxRecDepth 20000
open Go.RowKit
set_option linter.unusedSimpArgs false
set_option linter.unusedVariables false
theorem zer (T1 T2 : Nat) (v1 v2 : Value) (n : Nat) (z : Nat -> Int) (w : World) (h1 : SlF T1 w v1 n n (fun i => .int .i64 (z i))) (h2 : SlF T2 w v2 n n (fun i => .int .i64 (z i))) (hn : n <= 1048576) :
 Calls Tryd.prog 139 #[v1, v2] w fun e w' => e = .returned (.bool true) /\ Below w.heap.size w w' := by
 obtain ⟨a1, c1, rfl, h1⟩ := h1
 obtain ⟨a2, c2, rfl, h2⟩ := h2
 have hn' : (n : Int) <= 1048576 := by omega
 go_enter Tryd.func139, Tryd.ntmps139
 go_wp2
 go_loopw [5] (fun i wr => ∃ k : Nat, k <= n /\ i = .int .i64 k /\ Below w.heap.size w wr) (fun i _ => n - (intOf i).toNat)
 case atStart => exact ⟨0, Nat.zero_le _, rfl, Below.refl _ _⟩
 case round =>
  obtain ⟨k, hk, rfl, hF⟩ := hrel
  by_cases hlt : k < n
  · rcases h1 with rfl | ⟨b1, o1, rfl, _, l1, g1⟩
    · simp at hlt
    rcases h2 with rfl | ⟨b2, o2, rfl, _, l2, g2⟩
    · simp at hlt
    have hc1 : wr.cell? ⟨b1, o1 + k, none⟩ = some (.int .i64 (z k)) := by rw [hF.cell (p := ⟨b1, o1 + k, none⟩) l1]; exact g1 k hlt
    have hc2 : wr.cell? ⟨b2, o2 + k, none⟩ = some (.int .i64 (z k)) := by rw [hF.cell (p := ⟨b2, o2 + k, none⟩) l2]; exact g2 k hlt
    have hlt' : (k : Int) < (n : Int) := by omega
    clear g1 g2
    go_wp2
    go_quiet (fail)
    go_wp2
    go_roundw
    case rel => exact ⟨k + 1, by omega, by go_num, below_drewN hF _⟩
    case measure => simp [intOf]; omega
  · go_wp2
    go_ret
    exact ⟨rfl, hF⟩
end Go.Proofs.YtiglkhkfbgjjoaaDoor
