/- A drawn word; the draws of FnWord. -/
import Derived.Test.YtlacfinfmbapaaaProg
import Derived.Test.YtlacfinfmbapaaaHeadD
import Derived.Test.YtlacfinfmbapaaaReadA
import Derived.WalkKit
import Derived.WalkSpells
import Derived.WalkLawsBesides
import Derived.Below
import Derived.Outline
import Derived.Deep.Light
import Derived.Deep.CutRange
import Derived.Deep.CutBlock
namespace Go.Proofs.Ytlacfinfmbapaaa
open Go.RowKit
set_option linter.unusedSimpArgs false
set_option linter.unusedVariables false

theorem specPackHead_some (k s n : Int) (w : World) :
    Calls Try.prog 28 #[.agg #[.int .i64 k, .int .i64 s, .int .i64 n]] w fun e w' => ∃ z q, e = .returned (.tuple #[.int .u64 z, .bool q]) ∧ (0 ≤ z ∧ z < 18446744073709551616) ∧ Below w.heap.size w w' := by
  by_cases h : hOk k s n = true
  · refine (specPackHead_yes k s n w h).mono ?_
    rintro e w' ⟨rfl, hb⟩
    have := hOk_bounds h
    exact ⟨_, _, rfl, by omega, hb⟩
  · refine (specPackHead_no k s n w (by rwa [Bool.not_eq_true] at h)).mono ?_
    rintro e w' ⟨rfl, hb⟩
    exact ⟨_, _, rfl, by omega, hb⟩
theorem bits_u64_in (op : BinOp) (x y : Int) : 0 ≤ bits op .u64 x y ∧ bits op .u64 x y < 18446744073709551616 := by
  have := bounds_u64 (wf_bits op .u64 x y)
  omega

theorem cur_pick {w wc : World} {b : Nat} {v : Value} (C : Cur wc b v) (B : But b w wc) (xs : List Int) (E : TypeId) (bl n : Nat) (cs : Array Value) (hbl : bl = wc.heap.size) (hcs : cs = (xs.map (Value.int .i64)).toArray) (hn : n = xs.length) (hm : 1 ≤ xs.length) (hm2 : xs.length ≤ 256) :
    Calls Try.prog 55 #[.pointer (some ⟨b, 0, none⟩), .slice (some ⟨bl, 0, none⟩) n n] (wc.alloc (.cells cs E)) fun e w' => ∃ x, e = .returned (.int .i64 x) ∧ Cur w' b v ∧ But b w w' := by
  subst hbl hcs hn
  refine (l1PickInt_any b v wc.heap.size xs.length xs.length (fun j => xs.getD j 0) _ (C.below ((Below.refl _ _).alloc (Nat.le_refl _) _)) (fun j hj => lit_cells wc xs E j hj) (by simp) (by have := C.lt; omega) hm hm2).mono ?_
  rintro e w' ⟨x, rfl, _, C', B'⟩
  exact ⟨x, rfl, C', (B.alloc _).trans B'⟩
theorem cur_under {w wc : World} {b : Nat} {v : Value} (C : Cur wc b v) (B : But b w wc) (n : Int) (hn : 1 ≤ n) (hn2 : n ≤ 1000000000) :
    Calls Try.prog 46 #[.pointer (some ⟨b, 0, none⟩), .int .i64 n] wc fun e w' => ∃ x, e = .returned (.int .i64 x) ∧ (0 ≤ x ∧ x < n) ∧ Cur w' b v ∧ But b w w' := by
  refine (l1Below_any b v n _ C hn hn2).mono ?_
  rintro e w' ⟨x, rfl, hx, C', B'⟩
  exact ⟨x, rfl, hx, C', B.trans B'⟩

set_option maxHeartbeats 1000000 in
theorem l1Word_any (b : Nat) (v : Value) (w : World) (hcur : Cur w b v) :
    Calls Try.prog 44 #[.pointer (some ⟨b, 0, none⟩)] w fun e w' => ∃ z, e = .returned (.int .u64 z) ∧ (0 ≤ z ∧ z < 18446744073709551616) ∧ Cur w' b v ∧ But b w w' := by
  go_enter Try.func44, Try.ntmps44
  go_wp2_with fail
  refine (l1Head_any b v _ hcur).mono ?_
  rintro e w1 ⟨k, s, n, rfl, C1, B1⟩
  go_wp2_with fail
  refine (specPackHead_some k s n _).mono ?_
  rintro e w2 ⟨z, q, rfl, hz, b2⟩
  have C2 := C1.below b2
  have B2 := B1.trans (But.ofBelow b2)
  go_wp2_with fail
  refine (l1Below_any b v 6 _ C2 (by decide) (by decide)).mono ?_
  rintro e w3 ⟨x, rfl, hx, C3, B3⟩
  have B3 := B2.trans B3
  clear B1 B2 C1 C2 b2
  go_wp2_with (first | (go_at_call 46; refine (cur_under C3 B3 _ (by decide) (by decide)).mono ?_; rintro e w4 ⟨y, rfl, ⟨hy0, hy1⟩, C3, B3⟩) | (go_at_call 55; refine (cur_pick C3 B3 [0, -1, 2147483647, 2147483648] 3 _ _ _ (by simp) rfl rfl (by decide) (by decide)).mono ?_; rintro e w4 ⟨y, rfl, C3, B3⟩))
  all_goals
    go_ret
    exact ⟨_, rfl, by first | exact bits_u64_in _ _ _ | exact hz, C3, B3⟩

/-- What is told of the bytes of a draw. -/
def Bytes (w : World) (a : Option Addr) (n : Nat) : Prop :=
  n = 0 ∨ ∃ bb off, a = some ⟨bb, off, none⟩ ∧ bb < w.heap.size ∧ ∀ j, j < n → ∃ x, w.cell? ⟨bb, off + j, none⟩ = some (.int .u8 x)
theorem IsRow.bytes {w : World} {a : Option Addr} {len cap : Nat} {zs : List Int} (h : IsRow .u8 w a len cap zs) : Bytes w a len := by
  rcases h with ⟨rfl, rfl, rfl, rfl⟩ | ⟨x, rfl, hl, hm, hz, hc, hw⟩
  · exact .inl rfl
  · by_cases h0 : len = 0
    · exact .inl h0
    · obtain ⟨b, off, spot⟩ := x
      have h1 := hc 0 (by omega)
      have hspot : spot = none := by simpa [Addr.add] using World.cell?_spot h1
      subst hspot
      rw [Addr.add_lit] at h1
      refine .inr ⟨b, off, rfl, World.block_lt_of_cell? _ _ h1, fun j hj => ?_⟩
      have h2 := hc j (by omega)
      rw [Addr.add_lit] at h2
      exact ⟨_, h2⟩
theorem Bytes.below {w w' : World} {a : Option Addr} {n : Nat} (h : Bytes w a n) (hb : Below w.heap.size w w') : Bytes w' a n := by
  rcases h with h | ⟨bb, off, rfl, hl, hc⟩
  · exact .inl h
  · refine .inr ⟨bb, off, rfl, Nat.lt_of_lt_of_le hl hb.size, fun j hj => ?_⟩
    obtain ⟨x, hx⟩ := hc j hj
    exact ⟨x, by rw [hb.cell (p := ⟨bb, off + j, none⟩) hl]; exact hx⟩

theorem drawPackHead_any (a : Option Addr) (n cap : Nat) (w : World) (hn : n ≤ 1048576) (hc : Bytes w a n) :
    Calls Try.prog 14 #[.slice a n cap] w fun e w' => ∃ k s m, e = .returned (.agg #[.int .i64 k, .int .i64 s, .int .i64 m]) ∧ Below w.heap.size w w' := by
  go_enter Try.func14, Try.ntmps14
  go_wp2_with fail
  refine (l1New_any a n cap _ hn (hc.below ((Below.refl _ _).alloc (Nat.le_refl _) _))).mono ?_
  rintro e w1 ⟨rfl, C1, b1⟩
  have hsz : (w.alloc (.cells #[.int .i64 0, .int .i64 0, .int .i64 0] 25)).heap.size = w.heap.size + 1 := by simp
  rw [hsz] at C1
  go_wp2_with fail
  refine (l1Head_any (w.heap.size + 1) (.slice a n cap) _ C1).mono ?_
  rintro e w2 ⟨k, s, m, rfl, C2, B2⟩
  have hB2 : Below (w.alloc (.cells #[.int .i64 0, .int .i64 0, .int .i64 0] 25)).heap.size (w.alloc (.cells #[.int .i64 0, .int .i64 0, .int .i64 0] 25)) w2 := b1.trans (B2.below (by rw [hsz]; exact Nat.le_refl _) b1.size)
  clear hsz
  obtain ⟨c2, f2⟩ := bcell hB2
  go_wp2
  have p0 : (w2.cell? ⟨w.heap.size, 0, none⟩).isSome = true := by rw [c2 _ _ (by simp)]; simp [go_sem]
  have p1 : (w2.cell? ⟨w.heap.size, 1, none⟩).isSome = true := by rw [c2 _ _ (by simp)]; simp [go_sem]
  have p2 : (w2.cell? ⟨w.heap.size, 2, none⟩).isSome = true := by rw [c2 _ _ (by simp)]; simp [go_sem]
  refine bodyPost_ret (v := .agg #[.int .i64 k, .int .i64 s, .int .i64 m]) (by simp [results, Try.results14, go_sem, p0, p1, p2]) rfl ⟨k, s, m, rfl, ?_⟩
  exact (((below_first hB2).setCell (by simp) _).setCell (by simp) _).setCell (by simp) _

theorem drawReadHead_any (a : Option Addr) (n cap : Nat) (w : World) (hn : n ≤ 1048576) (hc : Bytes w a n) :
    Calls Try.prog 19 #[.slice a n cap] w fun e w' => ∃ z, e = .returned (.int .u64 z) ∧ (0 ≤ z ∧ z < 18446744073709551616) ∧ Below w.heap.size w w' := by
  go_enter Try.func19, Try.ntmps19
  go_wp2_with fail
  refine (l1New_any a n cap _ hn hc).mono ?_
  rintro e w1 ⟨rfl, C1, b1⟩
  go_wp2_with fail
  refine (l1Word_any _ _ _ C1).mono ?_
  rintro e w2 ⟨z, rfl, hz, C2, B2⟩
  go_wp2
  go_ret
  exact ⟨_, rfl, hz, b1.trans (B2.below (Nat.le_refl _) b1.size)⟩

theorem big_any (a : Option Addr) (n cap : Nat) (w : World) :
    Calls Try.prog 13 #[.slice a n cap] w fun e w' => e = .returned (.bool (decide ((1048576 : Int) < n))) ∧ w' = w := by
  go_enter Try.func13, Try.ntmps13
  go_wp2
  go_ret
  exact ⟨rfl, rfl⟩
end Go.Proofs.Ytlacfinfmbapaaa
