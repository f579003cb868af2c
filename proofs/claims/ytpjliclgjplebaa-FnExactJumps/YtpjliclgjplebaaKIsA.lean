/- Rows of numbers of a call's own, that grow. No Go here. -/
import Derived.Test.YtpjliclgjplebaaProg
import Derived.Test.YtpjliclgjplebaaKRowF
import Derived.Deep.OwnRows
import Derived.Maps.AppendAt
import Derived.OwnWalk
namespace Go.Proofs.Ytpjliclgjplebaa
set_option maxRecDepth 20000
open Go.RowKit Go.Maps
set_option linter.unusedSimpArgs false
set_option linter.unusedVariables false

theorem infoInt : (Try.prog.info? 3).map (fun i => (i.zero, i.size, i.bytes)) = some (some (.int .i64 0), 1, 8) := by kernel_rfl
def icl (xs : List Int) : List Value := xs.map fun x => .int .i64 x
theorem icl_len (xs : List Int) : (icl xs).length = xs.length := by simp [icl]
theorem icl_snoc (xs : List Int) (x : Int) : icl (xs ++ [x]) = icl xs ++ [.int .i64 x] := by simp [icl]
theorem icl_at (xs : List Int) (i : Nat) (h : i < xs.length) : (icl xs)[i]? = some (.int .i64 (xs.getD i 0)) := by simp [icl, h]
/-- A row of numbers in a block of its own, from block B on. -/
def IR (B : Nat) (w : World) (v : Value) (xs : List Int) : Prop := w.ownsRow B 3 1 v xs.length (icl xs)
theorem IR.nil (B : Nat) (w : World) : IR B w (.slice none 0 0) [] := World.ownsRow_nil w B _ 1
theorem IR.alloc {B : Nat} {w : World} {v : Value} {xs : List Int} (h : IR B w v xs) (o : Obj) : IR B (w.alloc o) v xs := World.ownsRow.alloc h o
theorem IR.below {B : Nat} {w w' : World} {v : Value} {xs : List Int} (h : IR B w v xs) (hb : Below w.heap.size w w') : IR B w' v xs :=
  World.ownsRow.kept h (row := none) ⟨hb.os, hb.tape, hb.output, hb.size, fun k hk _ => hb.block k hk⟩ (by cases v.ownBlock <;> simp)
theorem IR.mono {B C : Nat} {w : World} {v : Value} {xs : List Int} (h : IR B w v xs) (hC : C ≤ B) : IR C w v xs := by
  obtain ⟨h1, h2⟩ := h
  refine ⟨h1, ?_⟩
  rcases h2 with h2 | ⟨g, cap, cur, hv, hg, r⟩
  · exact .inl h2
  · exact .inr ⟨g, cap, cur, hv, Nat.le_trans hC hg, r⟩
theorem IR.sl {B : Nat} {w : World} {v : Value} {xs : List Int} (h : IR B w v xs) : SlF w.heap.size w v xs.length xs.length (fun i => .int .i64 (xs.getD i 0)) := by
  obtain ⟨h1, ⟨rfl, h0⟩ | ⟨g, cap, cur, rfl, hg, hc, hn, hcap, hs, hx⟩⟩ := h
  · exact ⟨none, 0, by rw [h0], .inl h0⟩
  · have lg : g < w.heap.size := by
      rcases Nat.lt_or_ge g w.heap.size with h | h
      · exact h
      · rw [Array.getElem?_eq_none h] at hc; cases hc
    refine ⟨_, cap, rfl, .inr ⟨g, 0, rfl, lg, lg, fun i hi => ?_⟩⟩
    have hown : w.ownsRow B 3 1 (.slice (some ⟨g, 0, none⟩) xs.length cap) xs.length (icl xs) := ⟨h1, .inr ⟨g, cap, cur, rfl, hg, hc, hn, hcap, hs, hx⟩⟩
    rw [Nat.zero_add, hown.cellAt i (by omega)]
    exact icl_at xs i hi
theorem IR.new {B : Nat} {w : World} (xs : List Int) (hB : B ≤ w.heap.size) (hl : xs.length ≤ 1048576) : IR B (w.alloc (.cells (icl xs).toArray 3)) (.slice (some ⟨w.heap.size, 0, none⟩) xs.length xs.length) xs := by
  refine ⟨by rw [icl_len, Nat.mul_one], .inr ⟨w.heap.size, xs.length, (icl xs).toArray, rfl, hB, Go.Deep.blk_alloc_new _ _, Nat.le_refl _, by unfold maxLen; omega, by simp [icl_len], ?_⟩⟩
  rw [List.toList_toArray, List.take_of_length_le (by rw [icl_len]; omega)]
theorem IR.take {B : Nat} {w : World} {a : Option Addr} {c : Nat} {xs : List Int} (h : IR B w (.slice a xs.length c) xs) {m : Nat} (hm : m ≤ xs.length) : IR B w (.slice a m c) (xs.take m) := by
  obtain ⟨h1, ⟨hv, h0⟩ | ⟨g, cap, cur, hv, hg, hc, hn, hcap, hs, hx⟩⟩ := h
  · simp only [Value.slice.injEq] at hv
    obtain ⟨rfl, _, rfl⟩ := hv
    obtain rfl : m = 0 := by omega
    obtain rfl : xs = [] := List.eq_nil_of_length_eq_zero h0
    exact IR.nil _ _
  · simp only [Value.slice.injEq] at hv
    obtain ⟨rfl, _, rfl⟩ := hv
    have e : (xs.take m).length = m := by rw [List.length_take]; omega
    unfold IR
    rw [e]
    refine ⟨by rw [icl_len, e, Nat.mul_one], .inr ⟨g, c, cur, rfl, hg, hc, by omega, hcap, hs, ?_⟩⟩
    have : icl (xs.take m) = (icl xs).take m := by simp [icl, List.map_take]
    rw [this, ← hx, List.take_take, Nat.mul_one, Nat.mul_one, Nat.min_eq_left hm]
end Go.Proofs.Ytpjliclgjplebaa

/- Numbers put in order; slices of rows of numbers. No Go here. -/
namespace Go.Proofs.Ytpjliclgjplebaa
set_option maxRecDepth 20000
open Go.RowKit Go.Maps
set_option linter.unusedSimpArgs false
set_option linter.unusedVariables false

/-- How many of the first ones are below s. -/
def lowN : List Int → Int → Nat
  | [], _ => 0
  | x :: xs, s => if x < s then lowN xs s + 1 else 0
theorem lowN_le : ∀ (xs : List Int) (s : Int), lowN xs s ≤ xs.length
  | [], _ => Nat.le_refl _
  | x :: xs, s => by
    simp only [lowN, List.length_cons]
    split
    · have := lowN_le xs s; omega
    · omega
theorem lowN_lt : ∀ (xs : List Int) (s : Int) (k : Nat), k < lowN xs s → xs.getD k 0 < s
  | [], _, k, h => by simp [lowN] at h
  | x :: xs, s, k, h => by
    simp only [lowN] at h
    split at h
    · rename_i hx
      cases k with
      | zero => simpa using hx
      | succ k => simpa using lowN_lt xs s k (by omega)
    · omega
theorem lowN_ge : ∀ (xs : List Int) (s : Int), lowN xs s < xs.length → ¬ xs.getD (lowN xs s) 0 < s
  | [], _, h => by simp at h
  | x :: xs, s, h => by
    simp only [lowN] at h ⊢
    split
    · rename_i hx
      rw [if_pos hx] at h
      simpa using lowN_ge xs s (by simp only [List.length_cons] at h; omega)
    · rename_i hx
      simpa using hx
/-- A number put into its place. -/
def insS (xs : List Int) (s : Int) : List Int := xs.take (lowN xs s) ++ (s :: xs.drop (lowN xs s))
theorem insS_len (xs : List Int) (s : Int) : (insS xs s).length = xs.length + 1 := by
  have := lowN_le xs s
  simp [insS]
  omega
theorem ir_own {B : Nat} {w : World} {v : Value} {xs : List Int} (h : IR B w v xs) : OwnF B w.heap.size 3 w v xs.length xs.length (fun i => .int .i64 (xs.getD i 0)) := by
  obtain ⟨_, ⟨rfl, h0⟩ | ⟨g, cap, cur, rfl, hB, hg, hn, hm, hs, ht⟩⟩ := h
  · exact ⟨none, 0, by rw [h0], .inl h0⟩
  · refine ⟨_, cap, rfl, .inr ⟨g, cur.size, fun i => cur.getD i (.int .i64 0), rfl, hB, ?_, by omega, ?_, fun i hi => ?_⟩⟩
    · exact (Array.getElem?_eq_some_iff.1 hg).1
    · exact ⟨cur, hg, rfl, fun i hi => by simp [hi]⟩
    · have h1 : (cur.toList.take (xs.length * 1))[i]? = some (.int .i64 (xs.getD i 0)) := by rw [ht]; exact icl_at xs i hi
      rw [List.getElem?_take_of_lt (by omega)] at h1
      have h2 : cur[i]? = some (.int .i64 (xs.getD i 0)) := by simpa using h1
      simp [Array.getD_eq_getD_getElem?, h2]
/-- A row of numbers that is not nil, by its cells. -/
theorem ir_parts {B : Nat} {w : World} {v : Value} {xs : List Int} (h : IR B w v xs) (hv : v ≠ .slice none 0 0) : ∃ b c, v = .slice (some ⟨b, 0, none⟩) xs.length c ∧ xs.length ≤ c ∧ b < w.heap.size ∧ ∀ i, i < xs.length → w.cell? ⟨b, i, none⟩ = some (.int .i64 (xs.getD i 0)) := by
  have h0 := h
  obtain ⟨_, ⟨h1, _⟩ | ⟨g, cap, cur, rfl, hB, hg, hn, hm, hs, ht⟩⟩ := h
  · exact absurd h1 hv
  · refine ⟨g, cap, rfl, hn, (Array.getElem?_eq_some_iff.1 hg).1, fun i hi => ?_⟩
    rw [World.ownsRow.cellAt h0 i (by omega)]
    exact icl_at xs i hi
theorem isl_lo (b l k ck : Nat) (h : k ≤ l) (hl : l ≤ ck) (W : World) : (Instr.sliceAt 27 (.slice (some ⟨b, 0, none⟩) l ck) (some (.int .i64 (k : Int))) none none).run Try.prog W = .ok (.slice (some ⟨b, if ck = k then 0 else k, none⟩) (l - k) (ck - k)) W := by
  have hz := Try.sizeOf3
  have he : Try.prog.elem 27 = 3 := by kernel_rfl
  rw [run_sliceAt_slice W 27 _ _ _ _ (by kernel_rfl), run_slice_l W 27 _ _ _ (by rw [he]; exact Try.underlying27) .i64 _ (by omega) (by omega), he, hz]
  by_cases h : ck = k
  · simp [Result.andThen, sliced, Addr.add, h]
  · simp [Result.andThen, sliced, Addr.add, h]
    try (intro e; exact e.symm)
theorem isl_hi (b l k ck : Nat) (h : k ≤ ck) (W : World) : (Instr.sliceAt 27 (.slice (some ⟨b, 0, none⟩) l ck) none (some (.int .i64 (k : Int))) none).run Try.prog W = .ok (.slice (some ⟨b, 0, none⟩) k ck) W := by
  have hz := Try.sizeOf3
  have he : Try.prog.elem 27 = 3 := by kernel_rfl
  rw [run_sliceAt_slice W 27 _ _ _ _ (by kernel_rfl), run_slice_h W 27 _ _ _ (by rw [he]; exact Try.underlying27) .i64 _ (by omega) (by omega), he, hz]
  simp [Result.andThen, sliced, Addr.add]
theorem icl_append (xs ys : List Int) : icl (xs ++ ys) = icl xs ++ icl ys := by simp [icl]
theorem icl_some {xs : List Int} {i : Nat} {u : Value} (h : (icl xs)[i]? = some u) : i < xs.length ∧ u = .int .i64 (xs.getD i 0) := by
  have hi : i < xs.length := by have := (List.getElem?_eq_some_iff.1 h).1; rw [icl_len] at this; exact this
  rw [icl_at xs i hi] at h
  exact ⟨hi, (Option.some.inj h).symm⟩
theorem cell_new_old {w : World} {o : Obj} {b i : Nat} (h : b < w.heap.size) : (w.alloc o).cell? ⟨b, i, none⟩ = w.cell? ⟨b, i, none⟩ := World.cell?_of_block (w := w) (a := ⟨b, i, none⟩) (Go.Deep.blk_alloc_lt _ _ _ h)
end Go.Proofs.Ytpjliclgjplebaa
