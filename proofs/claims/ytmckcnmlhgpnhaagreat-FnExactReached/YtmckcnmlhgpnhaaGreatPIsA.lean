/- - -/
import Derived.Test.YtmckcnmlhgpnhaaGreatPRowI
namespace Go.Proofs.YtmckcnmlhgpnhaaGreat
set_option maxRecDepth 20000
open Go.RowKit Go.Maps
set_option linter.unusedSimpArgs false
set_option linter.unusedVariables false
theorem zui {B : Nat} {w : World} {v : Value} {xs : List Int} (h : IR B w v xs) : zba B w.heap.size 3 w v xs.length xs.length (fun i => .int .i64 (xs.getD i 0)) := by
 obtain ⟨_, ⟨rfl, h0⟩ | ⟨g, cap, cur, rfl, hB, hg, hn, hm, hs, ht⟩⟩ := h
 · exact ⟨none, 0, by rw [h0], .inl h0⟩
 · refine ⟨_, cap, rfl, .inr ⟨g, cur.size, fun i => cur.getD i (.int .i64 0), rfl, hB, ?_, by omega, ?_, fun i hi => ?_⟩⟩
   · exact (Array.getElem?_eq_some_iff.1 hg).1
   · exact ⟨cur, hg, rfl, fun i hi => by simp [hi]⟩
   · have h1 : (cur.toList.take (xs.length * 1))[i]? = some (.int .i64 (xs.getD i 0)) := by rw [ht]; exact zrz xs i hi
     rw [List.getElem?_take_of_lt (by omega)] at h1
     have h2 : cur[i]? = some (.int .i64 (xs.getD i 0)) := by simpa using h1
     simp [Array.getD_eq_getD_getElem?, h2]
end Go.Proofs.YtmckcnmlhgpnhaaGreat
