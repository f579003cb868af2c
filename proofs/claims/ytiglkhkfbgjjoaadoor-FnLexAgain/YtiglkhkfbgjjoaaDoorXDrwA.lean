/- Drawing: the cursor (as DrawA, for a seat without chapter 1's laws). -/
import Derived.Test.YtiglkhkfbgjjoaaDoorProg
import Derived.Test.YtiglkhkfbgjjoaaDoorXRowF
import Derived.Test.YtiglkhkfbgjjoaaDoorXLxW
import Derived.WalkKit
import Derived.WalkSpells
import Derived.WalkLawsBesides
import Derived.Below
import Derived.Outline
import Derived.Deep.Light
import Derived.Deep.OwnRows
import Derived.BigQuiet
namespace Go.Proofs.YtiglkhkfbgjjoaaDoor
set_option maxRecDepth 20000
open Go.RowKit
set_option linter.unusedSimpArgs false
set_option linter.unusedVariables false

theorem cell_alloc_lt {w : World} {o : Obj} {b i : Nat} {v : Value} (hb : b < w.heap.size) (h : w.cell? ⟨b, i, none⟩ = some v) : (w.alloc o).cell? ⟨b, i, none⟩ = some v := by
  rw [World.cell?_alloc_lt w o ⟨b, i, none⟩ hb]; exact h
theorem other_block {w : World} {b c k o : Nat} (h : b ≠ c) (u : Value) : (w.setCell ⟨b, k, none⟩ u).cell? ⟨c, o, none⟩ = w.cell? ⟨c, o, none⟩ :=
  World.cell?_setCell_other _ _ _ _ (fun e => h (congrArg Addr.block e))
theorem i64_and255 (n : Int) : bits .and .i64 n 255 = n % 256 := by
  have h255 : (BitVec.ofInt 64 255).toNat = 2 ^ 8 - 1 := by decide
  have key : (BitVec.ofInt 64 n &&& BitVec.ofInt 64 255).toNat = (n % ((2 ^ 64 : Nat) : Int)).toNat % 2 ^ 8 := by
    rw [BitVec.toNat_and, BitVec.toNat_ofInt, h255, Nat.and_two_pow_sub_one_eq_mod]
  show IntKind.i64.wrap ((BitVec.ofInt 64 n &&& BitVec.ofInt 64 255).toNat : Nat) = n % 256
  rw [key, IntKind.wrap_i64]
  omega

/-- But for block b, what was there is as it was. -/
structure But (b : Nat) (w w' : World) : Prop where
  os : w'.os = w.os
  tape : w'.tape = w.tape
  output : w'.output = w.output
  size : w.heap.size ≤ w'.heap.size
  block : ∀ k, k < w.heap.size → k ≠ b → w'.heap[k]? = w.heap[k]?
theorem But.refl (b : Nat) (w : World) : But b w w := ⟨rfl, rfl, rfl, Nat.le_refl _, fun _ _ _ => rfl⟩
theorem But.trans {b : Nat} {w w1 w2 : World} (h : But b w w1) (k : But b w1 w2) : But b w w2 :=
  ⟨k.os.trans h.os, k.tape.trans h.tape, k.output.trans h.output, Nat.le_trans h.size k.size, fun j hj hb => (k.block j (Nat.lt_of_lt_of_le hj h.size) hb).trans (h.block j hj hb)⟩
theorem But.ofBelow {b : Nat} {w w' : World} (h : Below w.heap.size w w') : But b w w' := ⟨h.os, h.tape, h.output, h.size, fun k hk _ => h.block k hk⟩
theorem But.setCell {b : Nat} {a w : World} (h : But b a w) {p : Addr} (hp : p.block = b) (u : Value) : But b a (w.setCell p u) :=
  ⟨h.os, h.tape, h.output, by simpa using h.size, fun k hk hb => by rw [Go.Deep.blk_setCell_other _ _ _ _ (by rw [hp]; exact hb)]; exact h.block k hk hb⟩
theorem But.drewN {b : Nat} {a w : World} (h : But b a w) (n : Nat) : But b a (w.drewN n) := ⟨h.os, h.tape, h.output, h.size, h.block⟩
theorem But.alloc {b : Nat} {a w : World} (h : But b a w) (o : Obj) : But b a (w.alloc o) :=
  ⟨h.os, h.tape, h.output, by simp; exact Nat.le_succ_of_le h.size, fun k hk hb => by rw [Go.Deep.blk_alloc_lt _ _ _ (Nat.lt_of_lt_of_le hk h.size)]; exact h.block k hk hb⟩
theorem But.below {b B : Nat} {w w' : World} (h : But b w w') (hB : B ≤ b) (hS : B ≤ w.heap.size) : Below B w w' := ⟨h.os, h.tape, h.output, h.size, fun k hk => h.block k (by omega) (by omega)⟩
theorem But.cell {b : Nat} {w w' : World} (h : But b w w') {c o : Nat} (hc : c < w.heap.size) (hb : c ≠ b) : w'.cell? ⟨c, o, none⟩ = w.cell? ⟨c, o, none⟩ := World.cell?_of_block (w := w) (h.block c hc hb)
theorem But.frozen {b : Nat} {w w' : World} (h : But b w w') {c o : Nat} (hc : c < w.heap.size) (hb : c ≠ b) : w'.frozen? ⟨c, o, none⟩ = w.frozen? ⟨c, o, none⟩ := World.frozen?_of_block (w := w) (h.block c hc hb)

def cur3 (v : Value) (i : Nat) (h : Int) (j : Nat) : Value := if j = 0 then v else if j = 1 then .int .i64 i else .int .i64 h
/-- The cursor at block b over the bytes v. -/
def Cur (w : World) (b : Nat) (v : Value) : Prop :=
  ∃ (a : Option Addr) (n cap i : Nat) (h : Int), v = .slice a n cap ∧ n ≤ 1048576 ∧ i ≤ n ∧
    (n = 0 ∨ ∃ bb off, a = some ⟨bb, off, none⟩ ∧ bb < b ∧ ∀ j, j < n → ∃ x, w.cell? ⟨bb, off + j, none⟩ = some (.int .u8 x)) ∧ w.rowIs b 99 3 (cur3 v i h)
theorem Cur.lt {w : World} {b : Nat} {v : Value} (h : Cur w b v) : b < w.heap.size := by
  obtain ⟨a, n, cap, i, hh, _, _, _, _, hr⟩ := h
  exact hr.lt
theorem Cur.keep {w w' : World} {b : Nat} {v : Value} (h : Cur w b v) (hk : ∀ k, k ≤ b → w'.heap[k]? = w.heap[k]?) : Cur w' b v := by
  obtain ⟨a, n, cap, i, hh, rfl, hn, hi, hc, hr⟩ := h
  refine ⟨a, n, cap, i, hh, rfl, hn, hi, ?_, hr.of_block (hk b (Nat.le_refl _))⟩
  rcases hc with hc | ⟨bb, off, rfl, hb, hc⟩
  · exact .inl hc
  · exact .inr ⟨bb, off, rfl, hb, fun j hj => by rw [World.cell?_of_block (a := ⟨bb, off + j, none⟩) (w := w) (hk bb (Nat.le_of_lt hb))]; exact hc j hj⟩
theorem Cur.below {w w' : World} {b : Nat} {v : Value} (h : Cur w b v) (hb : Below w.heap.size w w') : Cur w' b v := h.keep fun k hk => hb.block k (Nat.lt_of_le_of_lt hk h.lt)

theorem cur3_h {w : World} {b i : Nat} {v : Value} {h : Int} (hr : w.rowIs b 99 3 (cur3 v i h)) (H : Int) : (w.setCell ⟨b, 2, none⟩ (.int .i64 H)).rowIs b 99 3 (cur3 v i H) :=
  (hr.set 2 _).congr fun j hj => by
    have : j = 0 ∨ j = 1 ∨ j = 2 := by omega
    rcases this with rfl | rfl | rfl <;> simp [cur3]
theorem cur3_i {w : World} {b i : Nat} {v : Value} {h : Int} (hr : w.rowIs b 99 3 (cur3 v i h)) : (w.setCell ⟨b, 1, none⟩ (.int .i64 ((i : Int) + 1))).rowIs b 99 3 (cur3 v (i + 1) h) :=
  (hr.set 1 _).congr fun j hj => by
    have : j = 0 ∨ j = 1 ∨ j = 2 := by omega
    rcases this with rfl | rfl | rfl <;> simp [cur3]
theorem and255_in (x : Int) : 0 ≤ bits .and .i64 x 255 ∧ bits .and .i64 x 255 ≤ 255 := by rw [i64_and255]; omega

theorem l1Byte_any (b : Nat) (v : Value) (w : World) (hcur : Cur w b v) :
    Calls Tryd.prog 112 #[.pointer (some ⟨b, 0, none⟩)] w fun e w' => ∃ x, e = .returned (.int .i64 x) ∧ (0 ≤ x ∧ x ≤ 255) ∧ Cur w' b v ∧ But b w w' := by
  obtain ⟨a, n, cap, i, h, rfl, hn, hi, hc, hr⟩ := hcur
  have k0 : w.cell? ⟨b, 0, none⟩ = some (.slice a n cap) := hr.cell (i := 0) (by omega)
  have k1 : w.cell? ⟨b, 1, none⟩ = some (.int .i64 i) := hr.cell (i := 1) (by omega)
  have k2 : w.cell? ⟨b, 2, none⟩ = some (.int .i64 h) := hr.cell (i := 2) (by omega)
  have g1 := hr.frozen 1
  have g2 := hr.frozen 2
  have hn' : (n : Int) ≤ 1048576 := by omega
  have hi' : (i : Int) ≤ (n : Int) := by omega
  by_cases hlt : i < n
  · have hlt' : (i : Int) < (n : Int) := by omega
    rcases hc with hc | ⟨bb, off, rfl, hb, hc⟩
    · omega
    obtain ⟨y, hy⟩ := hc i hlt
    have hbb : ¬ b = bb := by omega
    go_enter Tryd.func112, Tryd.ntmps112
    go_wp2
    go_quiet (fail)
    go_wp2
    go_quiet (fail)
    go_wp2
    go_quiet (fail)
    go_wp2
    go_ret
    refine ⟨_, rfl, and255_in _, ⟨_, n, cap, i + 1, _, rfl, hn, hlt, .inr ⟨bb, off, rfl, hb, fun j hj => ?_⟩, cur3_i (World.rowIs.drew (cur3_h hr _))⟩, (((But.refl b w).setCell rfl _).drewN _).setCell rfl _⟩
    obtain ⟨x, hx⟩ := hc j hj
    refine ⟨x, ?_⟩
    rw [other_block hbb]
    show (w.setCell _ _).cell? _ = _
    rw [other_block hbb]
    exact hx
  · have hlt' : ¬ (i : Int) < (n : Int) := by omega
    go_enter Tryd.func112, Tryd.ntmps112
    go_wp2
    go_quiet (fail)
    go_wp2
    go_quiet (fail)
    go_wp2
    go_ret
    refine ⟨_, rfl, and255_in _, ⟨a, n, cap, i, _, rfl, hn, hi, ?_, World.rowIs.drew (cur3_h hr _)⟩, (((But.refl b w).setCell rfl _).drewN _).drewN _⟩
    rcases hc with hc | ⟨bb, off, rfl, hb, hc⟩
    · exact .inl hc
    · refine .inr ⟨bb, off, rfl, hb, fun j hj => ?_⟩
      obtain ⟨x, hx⟩ := hc j hj
      refine ⟨x, ?_⟩
      show (w.setCell _ _).cell? _ = _
      rw [other_block (by omega)]
      exact hx

theorem l1Below_any (b : Nat) (v : Value) (n : Int) (w : World) (hcur : Cur w b v) (hn : 1 ≤ n) (hn2 : n ≤ 1000000000) :
    Calls Tryd.prog 73 #[.pointer (some ⟨b, 0, none⟩), .int .i64 n] w fun e w' => ∃ x, e = .returned (.int .i64 x) ∧ (0 ≤ x ∧ x < n) ∧ Cur w' b v ∧ But b w w' := by
  by_cases h256 : n ≤ 256
  · go_enter Tryd.func73, Tryd.ntmps73
    go_wp2_with fail
    refine (l1Byte_any b v _ hcur).mono ?_
    rintro e w1 ⟨x, rfl, ⟨hx0, hx1⟩, C1, B1⟩
    go_wp2
    go_ret
    exact ⟨_, rfl, ⟨Int.emod_nonneg _ (by omega), Int.emod_lt_of_pos _ (by omega)⟩, C1, B1⟩
  · go_enter Tryd.func73, Tryd.ntmps73
    go_wp2_with fail
    refine (l1Byte_any b v _ hcur).mono ?_
    rintro e w1 ⟨x, rfl, ⟨hx0, hx1⟩, C1, B1⟩
    go_wp2_with fail
    refine (l1Byte_any b v _ C1).mono ?_
    rintro e w2 ⟨y, rfl, ⟨hy0, hy1⟩, C2, B2⟩
    go_wp2_with fail
    refine (l1Byte_any b v _ C2).mono ?_
    rintro e w3 ⟨z, rfl, ⟨hz0, hz1⟩, C3, B3⟩
    go_wp2_with fail
    refine (l1Byte_any b v _ C3).mono ?_
    rintro e w4 ⟨u, rfl, ⟨hu0, hu1⟩, C4, B4⟩
    go_wp2
    go_ret
    exact ⟨_, rfl, ⟨Int.emod_nonneg _ (by omega), Int.emod_lt_of_pos _ (by omega)⟩, C4, ((B1.trans B2).trans B3).trans B4⟩

theorem l1Once_any (b : Nat) (v : Value) (n : Int) (w : World) (hcur : Cur w b v) (hn : 1 ≤ n) (hn2 : n ≤ 1000000000) :
    Calls Tryd.prog 32 #[.pointer (some ⟨b, 0, none⟩), .int .i64 n] w fun e w' => ∃ q, e = .returned (.bool q) ∧ Cur w' b v ∧ But b w w' := by
  go_enter Tryd.func32, Tryd.ntmps32
  go_wp2_with fail
  refine (l1Below_any b v n _ hcur hn hn2).mono ?_
  rintro e w1 ⟨x, rfl, hx, C1, B1⟩
  go_wp2
  go_ret
  exact ⟨_, rfl, C1, B1⟩

theorem cur_new {a : Option Addr} {n cap : Nat} {w : World} (x : Int) (hn : n ≤ 1048576) (hc : n = 0 ∨ ∃ bb off, a = some ⟨bb, off, none⟩ ∧ bb < w.heap.size ∧ ∀ j, j < n → ∃ x, w.cell? ⟨bb, off + j, none⟩ = some (.int .u8 x)) :
    Cur (w.alloc (.cells #[.slice a n cap, .int .i64 0, .int .i64 x] 99)) w.heap.size (.slice a n cap) := by
  refine ⟨a, n, cap, 0, x, rfl, hn, Nat.zero_le _, ?_, World.rowIs_alloc w _ _ _ fun i hi => ?_⟩
  · rcases hc with hc | ⟨bb, off, rfl, hb, hc⟩
    · exact .inl hc
    · exact .inr ⟨bb, off, rfl, hb, fun j hj => by
        obtain ⟨y, hy⟩ := hc j hj
        exact ⟨y, cell_alloc_lt hb hy⟩⟩
  · have : i = 0 ∨ i = 1 ∨ i = 2 := by simp at hi; omega
    rcases this with rfl | rfl | rfl <;> simp [cur3]

theorem l1New_any (a : Option Addr) (n cap : Nat) (w : World) (hn : n ≤ 1048576) (hc : n = 0 ∨ ∃ bb off, a = some ⟨bb, off, none⟩ ∧ bb < w.heap.size ∧ ∀ j, j < n → ∃ x, w.cell? ⟨bb, off + j, none⟩ = some (.int .u8 x)) :
    Calls Tryd.prog 30 #[.slice a n cap] w fun e w' => e = .returned (.pointer (some ⟨w.heap.size, 0, none⟩)) ∧ Cur w' w.heap.size (.slice a n cap) ∧ Below w.heap.size w w' := by
  have hn' : (n : Int) ≤ 1048576 := by omega
  go_enter Tryd.func30, Tryd.ntmps30
  go_wp2
  go_loop [3, 4] (fun h i => ∃ k : Nat, k ≤ n ∧ i = .int .i64 k ∧ ∃ x, h = .int .i64 x) (fun _ i => n - (intOf i).toNat)
  case atStart => exact ⟨0, Nat.zero_le _, rfl, _, rfl⟩
  case round =>
    obtain ⟨k, hk, rfl, x, rfl⟩ := hrel
    by_cases hlt : k < n
    · have hlt' : (k : Int) < (n : Int) := by omega
      by_cases h4 : k < 4000
      · have h4' : (k : Int) < 4000 := by omega
        rcases hc with hc | ⟨bb, off, rfl, hb, hc⟩
        · omega
        obtain ⟨y, hy⟩ := hc k hlt
        clear hc
        go_wp2
        go_round
        case rel => exact ⟨k + 1, by omega, by go_num, _, rfl⟩
        case measure => simp [intOf]; omega
      · have h4' : ¬ (k : Int) < 4000 := by omega
        go_wp2
        go_ret
        exact ⟨rfl, cur_new x hn hc, (Below.refl _ _).alloc (Nat.le_refl _) _⟩
    · have hlt' : ¬ (k : Int) < (n : Int) := by omega
      go_wp2
      go_ret
      exact ⟨rfl, cur_new x hn hc, (Below.refl _ _).alloc (Nat.le_refl _) _⟩
end Go.Proofs.YtiglkhkfbgjjoaaDoor
