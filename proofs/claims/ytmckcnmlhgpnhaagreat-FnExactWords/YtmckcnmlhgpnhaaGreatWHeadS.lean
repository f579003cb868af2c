/- - -/
import Derived.Test.YtmckcnmlhgpnhaaGreatWLawC
namespace Go.Proofs.YtmckcnmlhgpnhaaGreat
set_option maxRecDepth 20000
open Go.RowKit
set_option linter.unusedSimpArgs false
set_option linter.unusedVariables false
open Go.RowKit Go.Maps
def zfi (L : List Nat) : List Value := L.map fun p : Nat => Value.int .i64 (p : Int)
theorem zi1 {B : Nat} {w : World} {v : Value} {L : List Nat} (h : w.ownsRow B 3 1 v L.length (zfi L)) : zaz B w.heap.size 3 w v L.length L.length (fun i => .int .i64 ((L.getD i 0 : Nat) : Int)) := by
 obtain ⟨_, ⟨rfl, h0⟩ | ⟨g, cap, cur, rfl, hB, hg, hn, hm, hs, ht⟩⟩ := h
 · have : L = [] := List.eq_nil_of_length_eq_zero h0
   subst this
   exact ⟨none, 0, rfl, .inl rfl⟩
 · refine ⟨_, cap, rfl, .inr ⟨g, cur.size, fun i => cur.getD i (.int .i64 0), rfl, hB, ?_, by omega, ?_, fun i hi => ?_⟩⟩
   · exact (Array.getElem?_eq_some_iff.1 hg).1
   · exact ⟨cur, hg, rfl, fun i hi => by simp [hi]⟩
   · have h1 : (cur.toList.take (L.length * 1))[i]? = some (.int .i64 ((L.getD i 0 : Nat) : Int)) := by rw [ht]; simp [zfi, hi]
     rw [List.getElem?_take_of_lt (by omega)] at h1
     have h2 : cur[i]? = some (.int .i64 ((L.getD i 0 : Nat) : Int)) := by simpa using h1
     simp [Array.getD_eq_getD_getElem?, h2]
end Go.Proofs.YtmckcnmlhgpnhaaGreat
