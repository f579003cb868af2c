/- How a half is tiled, on whole numbers alone: 'Chain nx p q L' says that from p one comes to q by steps, at the places L. No Go here. -/
import Derived.Test.YtmckcnmlhgpnhaaGreatKReadsB
import Derived.Test.YtmckcnmlhgpnhaaGreatKRowF
namespace Go.Proofs.YtmckcnmlhgpnhaaGreat
set_option maxRecDepth 20000
open Go.RowKit
set_option linter.unusedVariables false

def Chain (nx : Nat → Option Nat) : Nat → Nat → List Nat → Prop
  | p, q, [] => q = p
  | p, q, x :: L => p = x ∧ ∃ s, nx p = some s ∧ Chain nx (p + s + 1) q L
theorem Chain.nil {nx : Nat → Option Nat} (p : Nat) : Chain nx p p [] := rfl
theorem Chain.cons {nx : Nat → Option Nat} {p q s : Nat} {L : List Nat} (h : nx p = some s) (t : Chain nx (p + s + 1) q L) : Chain nx p q (p :: L) := ⟨rfl, s, h, t⟩
/-- What holds at the end, and ahead of a step if it holds behind it, holds of each chain. -/
theorem Chain.ind {nx : Nat → Option Nat} {q : Nat} {motive : Nat → List Nat → Prop} (h0 : motive q []) (h1 : ∀ {p s : Nat} {L : List Nat}, nx p = some s → Chain nx (p + s + 1) q L → motive (p + s + 1) L → motive p (p :: L)) : ∀ {p : Nat} {L : List Nat}, Chain nx p q L → motive p L := by
  intro p L
  induction L generalizing p with
  | nil =>
    intro h
    obtain rfl : q = p := h
    exact h0
  | cons x L ih =>
    intro h
    obtain ⟨rfl, s, hs, t⟩ := h
    exact h1 hs t (ih t)
theorem Chain.le {nx : Nat → Option Nat} {p q : Nat} {L : List Nat} (h : Chain nx p q L) : p ≤ q :=
  Chain.ind (motive := fun p _ => p ≤ q) (Nat.le_refl _) (fun h t ih => by omega) h
theorem Chain.lt_of_cons {nx : Nat → Option Nat} {p q x : Nat} {L : List Nat} (h : Chain nx p q (x :: L)) : x = p ∧ ∃ s, nx p = some s ∧ p + s + 1 ≤ q ∧ Chain nx (p + s + 1) q L := by
  obtain ⟨rfl, s, hs, t⟩ := h
  exact ⟨rfl, s, hs, t.le, t⟩
theorem Chain.mem {nx : Nat → Option Nat} {p q : Nat} {L : List Nat} (h : Chain nx p q L) : ∀ x ∈ L, p ≤ x ∧ x < q ∧ ∃ s, nx x = some s ∧ x + s + 1 ≤ q := by
  refine Chain.ind (motive := fun p L => ∀ x ∈ L, p ≤ x ∧ x < q ∧ ∃ s, nx x = some s ∧ x + s + 1 ≤ q) (fun x hx => by simp at hx) (fun h t ih => ?_) h
  intro x hx
  rcases List.mem_cons.1 hx with rfl | hx
  · exact ⟨Nat.le_refl _, by have := t.le; omega, _, h, t.le⟩
  · have := ih x hx
    exact ⟨by omega, this.2⟩
theorem Chain.snoc {nx : Nat → Option Nat} {p q s : Nat} {L : List Nat} (h : Chain nx p q L) (hs : nx q = some s) : Chain nx p (q + s + 1) (L ++ [q]) :=
  Chain.ind (motive := fun p L => Chain nx p (q + s + 1) (L ++ [q])) (Chain.cons hs (Chain.nil _)) (fun h t ih => Chain.cons h ih) h
theorem Chain.append {nx : Nat → Option Nat} {p q r : Nat} {L M : List Nat} (h : Chain nx p q L) (k : Chain nx q r M) : Chain nx p r (L ++ M) :=
  Chain.ind (motive := fun p L => Chain nx p r (L ++ M)) k (fun h t ih => Chain.cons h ih) h
theorem Chain.unique {nx : Nat → Option Nat} {p q : Nat} {L M : List Nat} (h : Chain nx p q L) (k : Chain nx p q M) : L = M := by
  refine Chain.ind (motive := fun p L => ∀ M, Chain nx p q M → L = M) (fun M k => ?_) (fun {p s L} h t ih M k => ?_) h M k
  · cases M with
    | nil => rfl
    | cons x M =>
      obtain ⟨rfl, s, hs, t⟩ := k
      have := t.le
      omega
  · cases M with
    | nil =>
      have k' : q = p := k
      have := t.le
      omega
    | cons x M =>
      obtain ⟨rfl, s', hs, t'⟩ := k
      rw [h] at hs
      cases hs
      rw [ih M t']
theorem Chain.nodup {nx : Nat → Option Nat} {p q : Nat} {L : List Nat} (h : Chain nx p q L) : L.Pairwise (· < ·) :=
  Chain.ind (motive := fun _ L => L.Pairwise (· < ·)) .nil (fun h t ih => .cons (fun x hx => by have := (t.mem x hx).1; omega) ih) h
/-- No tiling: then none from where one has come to. -/
theorem Chain.none_from {nx : Nat → Option Nat} {p q s : Nat} (h : ¬ ∃ L, Chain nx p q L) (hs : nx p = some s) : ¬ ∃ L, Chain nx (p + s + 1) q L := fun ⟨L, hL⟩ => h ⟨p :: L, .cons hs hL⟩

/-- The step over an object of the half in use: a head, its serial below the arena's. -/
def nx1 (ws : List Int) (serial : Int) (p : Nat) : Option Nat := if rdOk (wordAt ws p) = true ∧ rdN (wordAt ws p) < serial then some (rdS (wordAt ws p)).toNat else none
theorem nx1_some {ws : List Int} {serial : Int} {p s : Nat} (h : nx1 ws serial p = some s) : rdOk (wordAt ws p) = true ∧ rdN (wordAt ws p) < serial ∧ (rdS (wordAt ws p)).toNat = s := by
  unfold nx1 at h
  split at h
  · rename_i g; exact ⟨g.1, g.2, by simpa using h⟩
  · simp at h
theorem rdS_bound (x : Int) : 0 ≤ rdS x ∧ rdS x ≤ 256 := by
  unfold rdS
  split
  · rename_i h
    unfold rdOk at h
    rw [hOk_iff] at h
    unfold HOk at h
    omega
  · omega
theorem rdN_bound (x : Int) : 0 ≤ rdN x ∧ rdN x ≤ 1000000000 := by
  unfold rdN
  split
  · rename_i h
    unfold rdOk at h
    rw [hOk_iff] at h
    unfold HOk at h
    omega
  · omega
/-- The marks of the objects that were gone over. -/
def mk1 (L : List Nat) (i : Nat) : Value := .int .i64 (if i ∈ L then 1 else 0)

/-- A slice of words whose block is not bm. -/
def SlX (bm : Nat) (w : World) (v : Value) (zs : List Int) : Prop :=
  ∃ a cap, v = .slice a zs.length cap ∧ (zs = [] ∨ ∃ b off, a = some ⟨b, off, none⟩ ∧ b ≠ bm ∧ b < w.heap.size ∧ ∀ i, i < zs.length → w.cell? ⟨b, off + i, none⟩ = some (.int .u64 (zs.getD i 0)))
theorem SlX.sl {bm : Nat} {w : World} {v : Value} {zs : List Int} (h : SlX bm w v zs) : Sl w v zs := by
  obtain ⟨a, cap, rfl, h⟩ := h
  refine ⟨a, cap, rfl, ?_⟩
  rcases h with h | ⟨b, off, rfl, _, hl, hc⟩
  · exact .inl h
  · exact .inr ⟨b, off, rfl, hl, hc⟩
theorem SlX.apart {bm : Nat} {w w' : World} {v : Value} {zs : List Int} (h : SlX bm w v zs) (ha : Apart bm (bm + 1) w w') : SlX bm w' v zs := by
  obtain ⟨a, cap, rfl, h⟩ := h
  refine ⟨a, cap, rfl, ?_⟩
  rcases h with h | ⟨b, off, rfl, hne, hl, hc⟩
  · exact .inl h
  · exact .inr ⟨b, off, rfl, hne, Nat.lt_of_lt_of_le hl ha.size, fun i hi => by rw [World.cell?_of_block (w := w) (ha.block b hl (by omega))]; exact hc i hi⟩
theorem SlX.opened {bm : Nat} {w : World} {aw : Option Addr} {cw : Nat} {ws : List Int} (h : SlX bm w (.slice aw ws.length cw) ws) {k : Nat} (hk : k < ws.length) :
    ∃ b off, aw = some ⟨b, off, none⟩ ∧ b ≠ bm ∧ b < w.heap.size ∧ ∀ i, i < ws.length → w.cell? ⟨b, off + i, none⟩ = some (.int .u64 (wordAt ws i)) := by
  obtain ⟨a', c', he, h⟩ := h
  simp only [Value.slice.injEq] at he
  obtain ⟨rfl, _, _⟩ := he
  rcases h with rfl | ⟨b, off, rfl, hne, hl, hc⟩
  · simp at hk
  · exact ⟨b, off, rfl, hne, hl, hc⟩
end Go.Proofs.YtmckcnmlhgpnhaaGreat
