/- The model's drawing of a text: l10Some, DrawLex. -/
import Derived.Test.YtiglkhkfbgjjoaaDoorProg
import Derived.Test.YtiglkhkfbgjjoaaDoorXDrwI
namespace Go.Proofs.YtiglkhkfbgjjoaaDoor
set_option maxRecDepth 20000
open Go.RowKit
set_option linter.unusedSimpArgs false
set_option linter.unusedVariables false

theorem l1Size_at (a : Option Addr) (n cap : Nat) (most : Int) (w : World) (hn : n ≤ 1048576) :
    Calls Tryd.prog 72 #[.slice a n cap, .int .i64 most] w fun e w' => ∃ r : Int, e = .returned (.int .i64 r) ∧ w' = w := by
  have hn2 : (n : Int) ≤ 1048576 := by omega
  go_enter Tryd.func72, Tryd.ntmps72
  go_wp2
  all_goals
    go_ret
    exact ⟨_, rfl, rfl⟩
set_option maxHeartbeats 4000000 in
theorem l10Some_at (cb : Nat) (a : Option Addr) (n cap : Nat) (v : Value) (w : World) (C0 : Cur w cb v) (hn : n ≤ 1048576) :
    Calls Tryd.prog 31 #[.pointer (some ⟨cb, 0, none⟩), .slice a n cap] w fun e w' => ∃ s : ByteArray, e = .returned (.string s) ∧ s.size ≤ 3050 ∧ Cur w' cb v ∧ But cb w w' := by
  have hcl := C0.lt
  have F0 := But.refl cb w
  go_enter Tryd.func31, Tryd.ntmps31
  go_wp2_with (first | (go_at_call 32; refine (l1Once_any cb v _ _ C0 (by omega) (by omega)).mono ?_; rintro e w0 ⟨q, rfl, C2, B0⟩; replace C0 := C2; replace F0 := F0.trans B0; clear B0 C2) | (go_at_call 70; refine (l10Deep_at cb v _ C0).mono ?_; rintro e w0 ⟨s, rfl, hs, C2, B0⟩; replace C0 := C2; replace F0 := F0.trans B0; clear B0 C2) | (go_at_call 72; refine (l1Size_at _ _ _ _ _ hn).mono ?_; rintro e w0 ⟨r, rfl, rfl⟩) | (go_at_call 71; refine (l10Program_at cb v _ _ _ C0).mono ?_; rintro e w0 ⟨s, rfl, hs, C2, B0⟩; replace C0 := C2; replace F0 := F0.trans B0; clear B0 C2) | (go_at_call 33; refine (l10Broken_at cb v _ _ C0 (by omega)).mono ?_; rintro e w0 ⟨t, rfl, ht, C2, B0⟩; replace C0 := C2; replace F0 := F0.trans B0; clear B0 C2))
  all_goals
    (try simp only [Exit.inBlock, Exit.then])
    go_ret
    exact ⟨_, rfl, by omega, C0, F0⟩
theorem below_butNew {w w1 w' : World} (h : Below w.heap.size w w1) (k : But w.heap.size w1 w') : Below w.heap.size w w' :=
  ⟨k.os.trans h.os, k.tape.trans h.tape, k.output.trans h.output, Nat.le_trans h.size k.size, fun j hj => (k.block j (Nat.lt_of_lt_of_le hj h.size) (by omega)).trans (h.block j hj)⟩
set_option maxHeartbeats 4000000 in
/-- A text is drawn, and nothing that was there is changed. -/
theorem DrawLex_at (a : Option Addr) (n cap : Nat) (w : World) (hn : n ≤ 1048576) (hc : n = 0 ∨ ∃ bb off, a = some ⟨bb, off, none⟩ ∧ bb < w.heap.size ∧ ∀ j, j < n → ∃ x, w.cell? ⟨bb, off + j, none⟩ = some (.int .u8 x)) :
    Calls Tryd.prog 14 #[.slice a n cap] w fun e w' => ∃ s : ByteArray, e = .returned (.string s) ∧ s.size ≤ 3200 ∧ Below w.heap.size w w' := by
  have HC : Hid (n = 0 ∨ ∃ bb off, a = some ⟨bb, off, none⟩ ∧ bb < w.heap.size ∧ ∀ j, j < n → ∃ x, w.cell? ⟨bb, off + j, none⟩ = some (.int .u8 x)) := hc
  clear hc
  go_enter Tryd.func14, Tryd.ntmps14
  go_wp2_with (first | (go_at_call 30; refine (l1New_any a n cap _ hn HC.out).mono ?_; rintro e w1 ⟨rfl, C0, B1⟩; have F0 := But.refl w.heap.size w1) | (go_at_call 31; refine (l10Some_at w.heap.size _ _ _ _ _ C0 hn).mono ?_; rintro e w2 ⟨s, rfl, hs, C2, B0⟩; replace C0 := C2; replace F0 := F0.trans B0; clear B0 C2) | (go_at_call 32; refine (l1Once_any w.heap.size _ _ _ C0 (by omega) (by omega)).mono ?_; rintro e w3 ⟨q, rfl, C2, B0⟩; replace C0 := C2; replace F0 := F0.trans B0; clear B0 C2) | (go_at_call 33; refine (l10Broken_at w.heap.size _ _ _ C0 (by omega)).mono ?_; rintro e w4 ⟨t, rfl, ht, C2, B0⟩; have ht2 : (t.size : Int) ≤ 3200 := (by omega); replace C0 := C2; replace F0 := F0.trans B0; clear B0 C2))
  all_goals
    (try simp only [Exit.inBlock, Exit.then])
    go_ret
    exact ⟨_, rfl, by first | omega | (simp [ByteArray.size_append, bsz] <;> omega), below_butNew B1 F0⟩
end Go.Proofs.YtiglkhkfbgjjoaaDoor
