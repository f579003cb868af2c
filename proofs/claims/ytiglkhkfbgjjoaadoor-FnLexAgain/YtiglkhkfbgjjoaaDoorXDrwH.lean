/- The model's drawing of programs. -/
import Derived.Test.YtiglkhkfbgjjoaaDoorProg
import Derived.Test.YtiglkhkfbgjjoaaDoorXDrwG
import Derived.Laws.NewBlocks
namespace Go.Proofs.YtiglkhkfbgjjoaaDoor
set_option maxRecDepth 20000
open Go.RowKit
set_option linter.unusedSimpArgs false
set_option linter.unusedVariables false

theorem But2.fresh {cb : Nat} {w w1 w' : World} {o : Obj} (e : w1 = w.alloc o) (h : But2 cb w.heap.size w1 w') : But cb w w' := by
  subst e
  have hs := h.size
  simp at hs
  refine ⟨h.os, h.tape, h.output, by omega, fun k hk h1 => ?_⟩
  rw [h.block k (by simp; omega) h1 (by omega)]
  exact ((But.refl cb w).alloc o).block k hk h1
set_option maxHeartbeats 8000000 in
theorem l10Program_at (cb : Nat) (v : Value) (x : Int) (co : Bool) (w : World) (C0 : Cur w cb v) :
    Calls Tryd.prog 71 #[.pointer (some ⟨cb, 0, none⟩), .int .i64 x, .bool co] w fun e w' => ∃ s : ByteArray, e = .returned (.string s) ∧ s.size ≤ 3000 ∧ Cur w' cb v ∧ But cb w w' := by
  have hcl := C0.lt
  have HL4 : Hid (Lines 109 408900000 889 5 4) := line4
  have HL3 : Hid (Lines 109 101700000 893 4 3) := line3
  have HLa : Hid (Lams 110 50300020 892 3) := lam3
  have HNum : Hid (Draws 111 200000 3) := all_three.num
  go_enter Tryd.func71, Tryd.ntmps71
  go_upto_region 3 with fail
  obtain ⟨eb, heb⟩ : ∃ b, b = w.heap.size := ⟨_, rfl⟩
  obtain ⟨w1, hw1⟩ : ∃ V, V = w.alloc (.cells #[.slice none 0 0, .slice none 0 0, .int .i64 0, .int .i64 x, .bool false, .bool co] 137) := ⟨_, rfl⟩
  rw [← hw1, ← heb]
  have E1 : EnvE w1 cb eb 0 := ⟨.slice none 0 0, .slice none 0 0, 0, x, false, co, by rw [hw1, heb]; simp, fun i => by rw [hw1, heb, World.cell?_alloc_new], fun i => by rw [hw1]; exact World.frozen?_alloc_at _ _ _ _ heb, ⟨none, 0, rfl, .inl ⟨rfl, rfl, rfl⟩⟩, ⟨none, 0, rfl, .inl ⟨rfl, rfl, rfl⟩⟩⟩
  have C1 : Cur w1 cb v := by rw [hw1]; exact C0.below ((Below.refl _ _).alloc (Nat.le_refl _) _)
  have hF : Hid (∀ w', But2 cb eb w1 w' → But cb w w') := fun w' h => by rw [heb] at h; exact But2.fresh hw1 h
  have hce : cb < eb := by omega
  have hne : eb ≠ cb := by omega
  clear hw1 heb C0 hcl
  go_wp2_with (first | (go_at_call 73; refine (l1Below_any cb v _ _ C1 (by omega) (by omega)).mono ?_; rintro e w0 ⟨y, rfl, ⟨hy0, hy1⟩, C2, B0⟩))
  obtain ⟨y, rfl⟩ := Int.eq_ofNat_of_zero_le hy0
  have H0 : Hid (Cur w0 cb v ∧ EnvE w0 cb eb 0 ∧ But2 cb eb w1 w0) := ⟨C2, E1.but B0 hne, B0.two⟩
  clear C1 E1 C2 B0
  go_loopw [8, 10] (fun o q wr => ∃ (j m : Nat) (s : ByteArray), j ≤ 2 + y ∧ q = .int .i64 j ∧ o = .string s ∧ s.size ≤ j * 408900000 ∧ m ≤ j * 5 ∧ Cur wr cb v ∧ EnvE wr cb eb m ∧ But2 cb eb w1 wr) (fun _ q _ => 2 + y - (intOf q).toNat)
  case atStart => exact ⟨0, 0, _, Nat.zero_le _, rfl, rfl, by simp [bsz], by omega, H0.out.1, H0.out.2.1, H0.out.2.2⟩
  case round =>
    obtain ⟨j, m, o, hj, rfl, rfl, ho, hm, C1, E1, F1⟩ := hrel
    have hcl := C1.lt
    have ho2 : (o.size : Int) ≤ 5000000000 := by omega
    by_cases hlt : j < 2 + y
    · have hlt' : (j : Int) < 2 + y := by omega
      go_wp2_with (first | (go_at_call 109; refine (HL4.out cb eb m v _ _ C1 E1 hce (by omega) (by omega) (by omega)).mono ?_; rintro e w2 ⟨s, m2, rfl, hs, hm2, C2, E2, B2⟩; have hs2 : (s.size : Int) ≤ 1000000000 := (by omega)))
      refine ⟨⟨j + 1, m2, _, by omega, by go_num, rfl, ?_, by omega, C2, E2, F1.trans B2⟩, by simp [intOf]; omega⟩
      simp [ByteArray.size_append, bsz] <;> omega
    · have hlt' : ¬ (j : Int) < 2 + y := by omega
      have hm2 : m ≤ 25 := by omega
      clear ho hm hj
      cases co
      · go_wp2
        all_goals
          (try simp only [Exit.inBlock, Exit.then])
          go_ret
          exact ⟨_, rfl, by first | omega | (simp [ByteArray.size_append, bsz] <;> omega), C1, hF.out _ F1⟩
      · go_upto_region 11 with (first | (go_at_call 110; refine (HLa.out cb eb m v _ _ C1 E1 hce (by omega) (by omega) (by omega)).mono ?_; rintro e w2 ⟨s, rfl, hs, C2, E2, B2⟩; have hs2 : (s.size : Int) ≤ 1000000000 := (by omega); replace F1 := F1.trans B2; replace E1 := E2; replace C1 := C2; clear B2 C2 E2) | (go_at_call 111; refine (HNum.out cb eb m v _ _ C1 E1 hne (by omega) (by omega) (by omega)).mono ?_; rintro e w3 ⟨t, rfl, ht, C3, B3⟩; have ht2 : (t.size : Int) ≤ 200000 := (by omega); replace E1 := E1.but B3 hne; replace F1 := F1.trans B3.two; replace C1 := C3; clear B3 C3))
        go_wp2_with (first | (go_at_call 73; refine (l1Below_any cb v _ _ C1 (by omega) (by omega)).mono ?_; rintro e w4 ⟨z, rfl, ⟨hz0, hz1⟩, C2, B0⟩))
        obtain ⟨z, rfl⟩ := Int.eq_ofNat_of_zero_le hz0
        have H1 : Hid (Cur w4 cb v ∧ EnvE w4 cb eb m ∧ But2 cb eb w1 w4) := ⟨C2, E1.but B0 hne, F1.trans B0.two⟩
        clear C1 E1 F1 C2 B0
        go_loopw [8, 13] (fun o q wr => ∃ (j m : Nat) (s : ByteArray), j ≤ z ∧ q = .int .i64 j ∧ o = .string s ∧ s.size ≤ 7000000000 + j * 200000000 ∧ m ≤ 25 + j * 5 ∧ Cur wr cb v ∧ EnvE wr cb eb m ∧ But2 cb eb w1 wr) (fun _ q _ => z - (intOf q).toNat)
        case atStart => exact ⟨0, m, _, Nat.zero_le _, rfl, rfl, by simp [ByteArray.size_append, bsz] <;> omega, by omega, H1.out.1, H1.out.2.1, H1.out.2.2⟩
        case round =>
          clear hlt hlt' ho2 hcl hm2 hs hs2 ht ht2
          obtain ⟨j, m, o, hj, rfl, rfl, ho, hm, C1, E1, F1⟩ := hrel
          have hcl := C1.lt
          have ho2 : (o.size : Int) ≤ 9000000000 := by omega
          by_cases hlt : j < z
          · have hlt' : (j : Int) < z := by omega
            go_wp2_with (first | (go_at_call 111; refine (HNum.out cb eb m v _ _ C1 E1 hne (by omega) (by omega) (by omega)).mono ?_; rintro e w5 ⟨t, rfl, ht, C3, B3⟩; have ht2 : (t.size : Int) ≤ 200000 := (by omega); replace E1 := E1.but B3 hne; replace F1 := F1.trans B3.two; replace C1 := C3; clear B3 C3) | (go_at_call 109; refine (HL3.out cb eb m v _ _ C1 E1 hce (by omega) (by omega) (by omega)).mono ?_; rintro e w6 ⟨s, m2, rfl, hs, hm2, C2, E2, B2⟩; have hs2 : (s.size : Int) ≤ 101700000 := (by omega)))
            refine ⟨⟨j + 1, m2, _, by omega, by go_num, rfl, ?_, by omega, C2, E2, F1.trans B2⟩, by simp [intOf]; omega⟩
            simp [ByteArray.size_append, bsz] <;> omega
          · have hlt' : ¬ (j : Int) < z := by omega
            go_wp2
            all_goals
              (try simp only [Exit.inBlock, Exit.then])
              go_ret
              exact ⟨_, rfl, by first | omega | (simp [ByteArray.size_append, bsz] <;> omega), C1, hF.out _ F1⟩
end Go.Proofs.YtiglkhkfbgjjoaaDoor
