/- A row of numbers of the call's own behind slices.Sort and slices.Reverse. No Go here. -/
import Derived.Test.YtpjliclgjplebaaProg
import Derived.Test.YtpjliclgjplebaaKIsA
import Derived.Test.YtpjliclgjplebaaKShelfS
import Derived.Sort.Grow
/- A row of numbers of the call's own behind slices.Sort and slices.Reverse. No Go here. -/
namespace Go.Proofs.Ytpjliclgjplebaa
set_option maxRecDepth 20000
open Go.RowKit Go.Maps Go.Sort
set_option linter.unusedSimpArgs false
set_option linter.unusedVariables false

theorem ir_holds {B g cap : Nat} {w : World} {xs : List Int} (h : IR B w (.slice (some ⟨g, 0, none⟩) xs.length cap) xs) : Holds (Value.int .i64) w g 0 xs.toArray ∧ g < w.heap.size ∧ B ≤ g := by
  have h0 := h
  obtain ⟨_, ⟨h1, _⟩ | ⟨g', cap', cur, hv, hB, hg, hn, hm, hs, ht⟩⟩ := h
  · cases h1
  · simp only [Value.slice.injEq, Option.some.injEq, Addr.mk.injEq] at hv
    obtain ⟨⟨rfl, _⟩, _, rfl⟩ := hv
    refine ⟨fun j hj => ?_, (Array.getElem?_eq_some_iff.1 hg).1, hB⟩
    have hj' : j < xs.length := by simpa using hj
    rw [Nat.zero_add, World.ownsRow.cellAt h0 j (by omega), icl_at xs j hj']
    refine ⟨by simp [hj'], ?_⟩
    simp [World.frozen?, hg]
theorem ir_put {B g cap n : Nat} {w : World} {xs ys : List Int} {os : Array Obj} (h : IR B w (.slice (some ⟨g, 0, none⟩) xs.length cap) xs) (hl : ys.length = xs.length) :
    IR B (grow (putRow (Value.int .i64) (Sort.ahead w n) g 0 ys.toArray) os) (.slice (some ⟨g, 0, none⟩) ys.length cap) ys ∧ Below B w (grow (putRow (Value.int .i64) (Sort.ahead w n) g 0 ys.toArray) os) := by
  obtain ⟨_, ⟨h1, _⟩ | ⟨g', cap', cur, hv, hB, hg, hn, hm, hs, ht⟩⟩ := h
  · cases h1
  · simp only [Value.slice.injEq, Option.some.injEq, Addr.mk.injEq] at hv
    obtain ⟨⟨rfl, _⟩, _, rfl⟩ := hv
    have lg : g < w.heap.size := (Array.getElem?_eq_some_iff.1 hg).1
    have hsz : (mapBlock (Sort.ahead w n) g (putCells (Value.int .i64) 0 ys.toArray)).heap.size = w.heap.size := by simp [mapBlock, Sort.ahead]
    have hat : ∀ k, k < w.heap.size → (grow (putRow (Value.int .i64) (Sort.ahead w n) g 0 ys.toArray) os).heap[k]? = (if g = k then (w.heap[k]?).map (onCells (putCells (Value.int .i64) 0 ys.toArray)) else w.heap[k]?) := fun k hk => by
      unfold grow putRow
      dsimp only
      rw [Array.getElem?_append_left (by rw [hsz]; exact hk)]
      simp only [mapBlock, Sort.ahead, Array.getElem?_modify]
    refine ⟨⟨by rw [icl_len, Nat.mul_one], .inr ⟨g, cap, putCells (Value.int .i64) 0 ys.toArray cur, rfl, hB, ?_, by omega, hm, by simp [putCells, hs], ?_⟩⟩, ⟨rfl, rfl, rfl, ?_, fun k hk => ?_⟩⟩
    · rw [hat g lg, if_pos rfl, hg]
      rfl
    · apply List.ext_getElem?
      intro i
      by_cases hi : i < ys.length
      · rw [List.getElem?_take_of_lt (by omega), icl_at ys i hi]
        have hc : i < cur.size := by omega
        simp [putCells, hi, hc]
      · rw [List.getElem?_eq_none (by simp; omega), List.getElem?_eq_none (by rw [icl_len]; omega)]
    · unfold grow putRow
      dsimp only
      rw [Array.size_append, hsz]
      omega
    · rw [hat k (by omega), if_neg (by omega)]
end Go.Proofs.Ytpjliclgjplebaa
