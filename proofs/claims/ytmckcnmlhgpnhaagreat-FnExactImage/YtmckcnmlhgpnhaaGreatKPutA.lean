/- PutVal of both packages, and the copies that they make. -/
import Derived.Test.YtmckcnmlhgpnhaaGreatProg
import Derived.Test.YtmckcnmlhgpnhaaGreatKGetA
import Derived.WalkKit
import Derived.WalkSpells
import Derived.WalkLawsBesides
import Derived.Below
import Derived.Outline
import Derived.Deep.Light
import Derived.Laws.CopyOwn
import Derived.Deep.AppendSrc
namespace Go.Proofs.YtmckcnmlhgpnhaaGreat
set_option maxRecDepth 20000
open Go.RowKit
set_option linter.unusedSimpArgs false
set_option linter.unusedVariables false

def cellsOf (zs : List Int) : List Value := zs.map (Value.int .u64)
theorem cellsOf_length (zs : List Int) : (cellsOf zs).length = zs.length := by simp [cellsOf]
theorem cellsOf_one (zs : List Int) : ∀ u ∈ cellsOf zs, u.oneCell' = true := by
  intro u hu
  obtain ⟨z, _, rfl⟩ := List.mem_map.1 hu
  rfl
theorem cellsOf_at {zs : List Int} {j : Nat} {u : Value} (h : (cellsOf zs)[j]? = some u) : j < zs.length ∧ u = .int .u64 (zs.getD j 0) := by
  unfold cellsOf at h
  rw [List.getElem?_map] at h
  by_cases hj : j < zs.length
  · rw [List.getElem?_eq_getElem hj] at h
    simp at h
    exact ⟨hj, by simp [hj, ← h]⟩
  · rw [List.getElem?_eq_none (by omega)] at h
    simp at h
theorem splice_all {α : Type} (L cs : List α) (h : cs.length = L.length) : splice L 0 cs = cs := by
  simp [splice, h]
theorem row_of_cells {w : World} {b : Nat} {zs : List Int} (h : w.heap[b]? = some (.cells (cellsOf zs).toArray 100 (0, 0))) : w.rowIs b 100 zs.length (fun i => .int .u64 (zs.getD i 0)) := by
  refine ⟨_, h, by simp [cellsOf], fun i hi => ?_⟩
  simp [cellsOf, hi]

theorem own_of_owns {B : Nat} {w : World} {v : Value} {zs : List Int} (h : w.ownsRow B 100 1 v zs.length (cellsOf zs)) : Own B w v zs := by
  obtain ⟨_, ⟨rfl, h0⟩ | ⟨g, cap, cur, rfl, hB, hg, hle, _, hcs, htk⟩⟩ := h
  · have : zs = [] := List.eq_nil_of_length_eq_zero h0
    subst this
    exact ⟨none, 0, rfl, .inl rfl⟩
  · refine ⟨_, cap, rfl, .inr ⟨g, cap, fun i => cur.getD i (.bool false), rfl, hB, hle, ⟨cur, hg, by omega, fun i hi => ?_⟩, fun i hi => ?_⟩⟩
    · simp [Array.getD, show i < cur.size by omega]
    · have h1 : (cur.toList.take (zs.length * 1))[i]? = (cellsOf zs)[i]? := by rw [htk]
      rw [List.getElem?_take] at h1
      simp [cellsOf, hi] at h1
      simp [Array.getD, show i < cur.size by omega, hi]
      have h2 := h1
      rw [Array.getElem?_eq_getElem (by omega)] at h2
      simpa using h2

theorem Own.parts {B : Nat} {w : World} {v : Value} {zs : List Int} (h : Own B w v zs) {k : Nat} (hk : k < zs.length) :
    ∃ b n cap f, v = .slice (some ⟨b, 0, none⟩) zs.length cap ∧ B ≤ b ∧ zs.length ≤ n ∧ w.rowIs b 100 n f ∧ ∀ i, i < zs.length → f i = .int .u64 (zs.getD i 0) := by
  obtain ⟨a, cap, rfl, h⟩ := h
  rcases h with rfl | ⟨b, n, f, rfl, r⟩
  · simp at hk
  · exact ⟨b, n, cap, f, rfl, r⟩
/-- Two words laid at a place of an owned row. -/
theorem own_put {B : Nat} {w : World} {b n cap : Nat} {f : Nat → Value} {zs : List Int} {k : Nat} {x y : Int} (hB : B ≤ b) (hn : zs.length ≤ n) (hr : w.rowIs b 100 n f) (hf : ∀ i, i < zs.length → f i = .int .u64 (zs.getD i 0)) :
    Own B ((w.setCell ⟨b, k, none⟩ (.int .u64 x)).setCell ⟨b, k + 1, none⟩ (.int .u64 y)) (.slice (some ⟨b, 0, none⟩) zs.length cap) ((zs.set k x).set (k + 1) y) := by
  refine ⟨_, cap, by simp, .inr ⟨b, n, _, rfl, hB, by simpa using hn, (hr.set k _).set (k + 1) _, fun i hi => ?_⟩⟩
  have hi' : i < zs.length := by simpa using hi
  by_cases e1 : i = k + 1
  · subst e1
    simp [hi']
  · by_cases e2 : i = k
    · subst e2
      simp [hi']
    · have e1' : ¬ k + 1 = i := fun h => e1 h.symm
      have e2' : ¬ k = i := fun h => e2 h.symm
      simp [e1, e2, e1', e2', hf i hi', hi']

theorem other_block {w : World} {b c k o : Nat} (h : b ≠ c) (u : Value) : (w.setCell ⟨b, k, none⟩ u).cell? ⟨c, o, none⟩ = w.cell? ⟨c, o, none⟩ :=
  World.cell?_setCell_other _ _ _ _ (fun e => h (congrArg Addr.block e))

/-- What PutVal asks: both words are there, and the value is right. -/
def putV (n : Nat) (i t m : Int) : Bool := decide (0 ≤ i ∧ i + 1 < n) && vOk t m
def put2 (zs : List Int) (i t m : Int) : List Int := (zs.set i.toNat (IntKind.u64.wrap t)).set (i.toNat + 1) (IntKind.u64.wrap m)
theorem put2_length (zs : List Int) (i t m : Int) : (put2 zs i t m).length = zs.length := by simp [put2]

end Go.Proofs.YtmckcnmlhgpnhaaGreat
