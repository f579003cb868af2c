/- How a half is tiled, on whole numbers alone: 'Chain nx p q L' says that from p one comes to q by steps, at the places L. No Go here. -/
import Derived.Test.YthkjodelgbfcdaaGreatKReadsA
import Derived.Test.YthkjodelgbfcdaaGreatKRowF
namespace Go.Proofs.YthkjodelgbfcdaaGreat
set_option maxRecDepth 20000
open Go.RowKit
set_option linter.unusedVariables false

inductive Chain (nx : Nat → Option Nat) : Nat → Nat → List Nat → Prop
  | nil (p : Nat) : Chain nx p p []
  | cons {p q s : Nat} {L : List Nat} (h : nx p = some s) (t : Chain nx (p + s + 1) q L) : Chain nx p q (p :: L)
theorem Chain.le {nx : Nat → Option Nat} {p q : Nat} {L : List Nat} (h : Chain nx p q L) : p ≤ q := by
  induction h with
  | nil p => exact Nat.le_refl _
  | cons h t ih => omega
theorem Chain.lt_of_cons {nx : Nat → Option Nat} {p q x : Nat} {L : List Nat} (h : Chain nx p q (x :: L)) : x = p ∧ ∃ s, nx p = some s ∧ p + s + 1 ≤ q ∧ Chain nx (p + s + 1) q L := by
  cases h with
  | cons h t => exact ⟨rfl, _, h, t.le, t⟩
theorem Chain.mem {nx : Nat → Option Nat} {p q : Nat} {L : List Nat} (h : Chain nx p q L) : ∀ x ∈ L, p ≤ x ∧ x < q ∧ ∃ s, nx x = some s ∧ x + s + 1 ≤ q := by
  induction h with
  | nil p => intro x hx; simp at hx
  | cons h t ih =>
    intro x hx
    rcases List.mem_cons.1 hx with rfl | hx
    · exact ⟨Nat.le_refl _, by have := t.le; omega, _, h, t.le⟩
    · have := ih x hx
      exact ⟨by omega, this.2⟩
theorem Chain.snoc {nx : Nat → Option Nat} {p q s : Nat} {L : List Nat} (h : Chain nx p q L) (hs : nx q = some s) : Chain nx p (q + s + 1) (L ++ [q]) := by
  induction h with
  | nil p => exact .cons hs (.nil _)
  | cons h t ih => exact .cons h (ih hs)
theorem Chain.append {nx : Nat → Option Nat} {p q r : Nat} {L M : List Nat} (h : Chain nx p q L) (k : Chain nx q r M) : Chain nx p r (L ++ M) := by
  induction h with
  | nil p => exact k
  | cons h t ih => exact .cons h (ih k)
theorem Chain.unique {nx : Nat → Option Nat} {p q : Nat} {L M : List Nat} (h : Chain nx p q L) (k : Chain nx p q M) : L = M := by
  induction h generalizing M with
  | nil p =>
    cases k with
    | nil => rfl
    | cons h t => have := t.le; omega
  | cons h t ih =>
    cases k with
    | nil => have := t.le; omega
    | cons h' t' =>
      rw [h] at h'
      cases h'
      rw [ih t']
theorem Chain.nodup {nx : Nat → Option Nat} {p q : Nat} {L : List Nat} (h : Chain nx p q L) : L.Pairwise (· < ·) := by
  induction h with
  | nil p => exact .nil
  | cons h t ih => exact .cons (fun x hx => by have := (t.mem x hx).1; omega) ih
/-- No tiling: then none from where one has come to. -/
theorem Chain.none_from {nx : Nat → Option Nat} {p q s : Nat} (h : ¬ ∃ L, Chain nx p q L) (hs : nx p = some s) : ¬ ∃ L, Chain nx (p + s + 1) q L := fun ⟨L, hL⟩ => h ⟨p :: L, .cons hs hL⟩

/-- The step over an object of the half in use: a head, its serial below the arena's. -/
def nx1 (ws : List Int) (serial : Int) (p : Nat) : Option Nat := if rdOk (wordAt ws p) = true ∧ rdN (wordAt ws p) < serial then some (rdS (wordAt ws p)).toNat else none
theorem nx1_some {ws : List Int} {serial : Int} {p s : Nat} (h : nx1 ws serial p = some s) : rdOk (wordAt ws p) = true ∧ rdN (wordAt ws p) < serial ∧ (rdS (wordAt ws p)).toNat = s := by
  unfold nx1 at h
  split at h
  · rename_i g; exact ⟨g.1, g.2, by simpa using h⟩
  · simp at h
theorem rdS_bound (x : Int) : 0 ≤ rdS x ∧ rdS x ≤ 256 := by
  unfold rdS
  split
  · rename_i h
    unfold rdOk at h
    rw [hOk_iff] at h
    unfold HOk at h
    omega
  · omega
theorem rdN_bound (x : Int) : 0 ≤ rdN x ∧ rdN x ≤ 1000000000 := by
  unfold rdN
  split
  · rename_i h
    unfold rdOk at h
    rw [hOk_iff] at h
    unfold HOk at h
    omega
  · omega
/-- The marks of the objects that were gone over. -/
def mk1 (L : List Nat) (i : Nat) : Value := .int .i64 (if i ∈ L then 1 else 0)

/-- A slice of words whose block is not bm. -/
def SlX (bm : Nat) (w : World) (v : Value) (zs : List Int) : Prop :=
  ∃ a cap, v = .slice a zs.length cap ∧ (zs = [] ∨ ∃ b off, a = some ⟨b, off, none⟩ ∧ b ≠ bm ∧ b < w.heap.size ∧ ∀ i, i < zs.length → w.cell? ⟨b, off + i, none⟩ = some (.int .u64 (zs.getD i 0)))
theorem SlX.sl {bm : Nat} {w : World} {v : Value} {zs : List Int} (h : SlX bm w v zs) : Sl w v zs := by
  obtain ⟨a, cap, rfl, h⟩ := h
  refine ⟨a, cap, rfl, ?_⟩
  rcases h with h | ⟨b, off, rfl, _, hl, hc⟩
  · exact .inl h
  · exact .inr ⟨b, off, rfl, hl, hc⟩
theorem SlX.apart {bm : Nat} {w w' : World} {v : Value} {zs : List Int} (h : SlX bm w v zs) (ha : Apart bm (bm + 1) w w') : SlX bm w' v zs := by
  obtain ⟨a, cap, rfl, h⟩ := h
  refine ⟨a, cap, rfl, ?_⟩
  rcases h with h | ⟨b, off, rfl, hne, hl, hc⟩
  · exact .inl h
  · exact .inr ⟨b, off, rfl, hne, Nat.lt_of_lt_of_le hl ha.size, fun i hi => by rw [World.cell?_of_block (w := w) (ha.block b hl (by omega))]; exact hc i hi⟩
theorem SlX.opened {bm : Nat} {w : World} {aw : Option Addr} {cw : Nat} {ws : List Int} (h : SlX bm w (.slice aw ws.length cw) ws) {k : Nat} (hk : k < ws.length) :
    ∃ b off, aw = some ⟨b, off, none⟩ ∧ b ≠ bm ∧ b < w.heap.size ∧ ∀ i, i < ws.length → w.cell? ⟨b, off + i, none⟩ = some (.int .u64 (wordAt ws i)) := by
  obtain ⟨a', c', he, h⟩ := h
  simp only [Value.slice.injEq] at he
  obtain ⟨rfl, _, _⟩ := he
  rcases h with rfl | ⟨b, off, rfl, hne, hl, hc⟩
  · simp at hk
  · exact ⟨b, off, rfl, hne, hl, hc⟩
end Go.Proofs.YthkjodelgbfcdaaGreat
