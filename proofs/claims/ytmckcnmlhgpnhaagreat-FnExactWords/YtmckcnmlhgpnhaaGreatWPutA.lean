/- - -/
import Derived.Test.YtmckcnmlhgpnhaaGreatWGetA
import Derived.Laws.CopyOwn
import Derived.Deep.AppendSrc
namespace Go.Proofs.YtmckcnmlhgpnhaaGreat
set_option maxRecDepth 20000
open Go.RowKit
set_option linter.unusedSimpArgs false
set_option linter.unusedVariables false
def cellsOf (zs : List Int) : List Value := zs.map (Value.int .u64)
theorem Own.parts {B : Nat} {w : World} {v : Value} {zs : List Int} (h : Own B w v zs) {k : Nat} (hk : k < zs.length) :
 ∃ b n cap f, v = .slice (some ⟨b, 0, none⟩) zs.length cap /\ B <= b /\ zs.length <= n /\ w.rowIs b 100 n f /\ ∀ i, i < zs.length -> f i = .int .u64 (zs.getD i 0) := by
 obtain ⟨a, cap, rfl, h⟩ := h
 rcases h with rfl | ⟨b, n, f, rfl, r⟩
 · simp at hk
 · exact ⟨b, n, cap, f, rfl, r⟩
end Go.Proofs.YtmckcnmlhgpnhaaGreat
