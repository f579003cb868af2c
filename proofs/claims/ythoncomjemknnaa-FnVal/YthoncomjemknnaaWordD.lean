/- A drawn word; the draws of FnWord. -/
import Derived.Test.YthoncomjemknnaaProg
import Derived.Test.YthoncomjemknnaaHeadD
import Derived.Test.YthoncomjemknnaaReadA
import Derived.WalkKit
import Derived.WalkSpells
import Derived.WalkLawsBesides
import Derived.Below
import Derived.Outline
import Derived.Deep.Light
import Derived.Deep.CutRange
import Derived.Deep.CutBlock
namespace Go.Proofs.Ythoncomjemknnaa
set_option maxRecDepth 20000
open Go.RowKit
set_option linter.unusedSimpArgs false
set_option linter.unusedVariables false

theorem bits_u64_in (op : BinOp) (x y : Int) : 0 ≤ bits op .u64 x y ∧ bits op .u64 x y < 18446744073709551616 := by
  have := bounds_u64 (wf_bits op .u64 x y)
  omega

theorem cur_pick {w wc : World} {b : Nat} {v : Value} (C : Cur wc b v) (B : But b w wc) (xs : List Int) (E : TypeId) (bl n : Nat) (cs : Array Value) (hbl : bl = wc.heap.size) (hcs : cs = (xs.map (Value.int .i64)).toArray) (hn : n = xs.length) (hm : 1 ≤ xs.length) (hm2 : xs.length ≤ 256) :
    Calls Try.prog 27 #[.pointer (some ⟨b, 0, none⟩), .slice (some ⟨bl, 0, none⟩) n n] (wc.alloc (.cells cs E)) fun e w' => ∃ x, e = .returned (.int .i64 x) ∧ Cur w' b v ∧ But b w w' := by
  subst hbl hcs hn
  refine (l1PickInt_any b v wc.heap.size xs.length xs.length (fun j => xs.getD j 0) _ (C.below ((Below.refl _ _).alloc (Nat.le_refl _) _)) (fun j hj => lit_cells wc xs E j hj) (by simp) (by have := C.lt; omega) hm hm2).mono ?_
  rintro e w' ⟨x, rfl, _, C', B'⟩
  exact ⟨x, rfl, C', (B.alloc _).trans B'⟩
theorem cur_under {w wc : World} {b : Nat} {v : Value} (C : Cur wc b v) (B : But b w wc) (n : Int) (hn : 1 ≤ n) (hn2 : n ≤ 1000000000) :
    Calls Try.prog 18 #[.pointer (some ⟨b, 0, none⟩), .int .i64 n] wc fun e w' => ∃ x, e = .returned (.int .i64 x) ∧ (0 ≤ x ∧ x < n) ∧ Cur w' b v ∧ But b w w' := by
  refine (l1Below_any b v n _ C hn hn2).mono ?_
  rintro e w' ⟨x, rfl, hx, C', B'⟩
  exact ⟨x, rfl, hx, C', B.trans B'⟩

/-- What is told of the bytes of a draw. -/
def Bytes (w : World) (a : Option Addr) (n : Nat) : Prop :=
  n = 0 ∨ ∃ bb off, a = some ⟨bb, off, none⟩ ∧ bb < w.heap.size ∧ ∀ j, j < n → ∃ x, w.cell? ⟨bb, off + j, none⟩ = some (.int .u8 x)
theorem IsRow.bytes {w : World} {a : Option Addr} {len cap : Nat} {zs : List Int} (h : IsRow .u8 w a len cap zs) : Bytes w a len := by
  rcases h with ⟨rfl, rfl, rfl, rfl⟩ | ⟨x, rfl, hl, hm, hz, hc, hw⟩
  · exact .inl rfl
  · by_cases h0 : len = 0
    · exact .inl h0
    · obtain ⟨b, off, spot⟩ := x
      have h1 := hc 0 (by omega)
      have hspot : spot = none := by simpa [Addr.add] using World.cell?_spot h1
      subst hspot
      rw [Addr.add_lit] at h1
      refine .inr ⟨b, off, rfl, World.block_lt_of_cell? _ _ h1, fun j hj => ?_⟩
      have h2 := hc j (by omega)
      rw [Addr.add_lit] at h2
      exact ⟨_, h2⟩
theorem Bytes.below {w w' : World} {a : Option Addr} {n : Nat} (h : Bytes w a n) (hb : Below w.heap.size w w') : Bytes w' a n := by
  rcases h with h | ⟨bb, off, rfl, hl, hc⟩
  · exact .inl h
  · refine .inr ⟨bb, off, rfl, Nat.lt_of_lt_of_le hl hb.size, fun j hj => ?_⟩
    obtain ⟨x, hx⟩ := hc j hj
    exact ⟨x, by rw [hb.cell (p := ⟨bb, off + j, none⟩) hl]; exact hx⟩

theorem big_any (a : Option Addr) (n cap : Nat) (w : World) :
    Calls Try.prog 5 #[.slice a n cap] w fun e w' => e = .returned (.bool (decide ((1048576 : Int) < n))) ∧ w' = w := by
  go_enter Try.func5, Try.ntmps5
  go_wp2
  go_ret
  exact ⟨rfl, rfl⟩
end Go.Proofs.Ythoncomjemknnaa
