/- - -/
import Derived.Test.YtiglkhkfbgjjoaaGreatDoorPDrwH
namespace Go.Proofs.YtiglkhkfbgjjoaaGreatDoor
set_option maxRecDepth 20000
open Go.RowKit
set_option linter.unusedSimpArgs false
set_option linter.unusedVariables false
set_option maxHeartbeats 8000000 in
theorem zn5 (cb : Nat) (v : Value) (w : World) (C0 : Cur w cb v) :
 Calls Tryz.prog 24 #[.pointer (some ⟨cb, 0, none⟩)] w fun e w' => ∃ s : ByteArray, e = .returned (.string s) /\ s.size <= 3000 /\ Cur w' cb v /\ But cb w w' := by
 have hcl := C0.lt
 go_enter Tryz.func24, Tryz.ntmps24
 go_wp2_with (first | (go_at_call 49; refine (zal cb v _ _ C0 (by omega) (by omega)).mono ?_; rintro e w0 ⟨y, rfl, ⟨hy0, hy1⟩, C2, B0⟩))
 obtain ⟨y, rfl⟩ := Int.eq_ofNat_of_zero_le hy0
 have H0 : Hid (Cur w0 cb v /\ But cb w w0) := ⟨C2, B0⟩
 clear C0 C2 B0 hcl
 go_loopw [4, 5] (fun o q wr => ∃ (j : Nat) (s : ByteArray), j <= 27 + y /\ q = .int .i64 j /\ o = .string s /\ s.size <= 10 + j * 20 /\ Cur wr cb v /\ But cb w wr) (fun _ q _ => 27 + y - (intOf q).toNat)
 case atStart => exact ⟨0, _, Nat.zero_le _, rfl, rfl, by simp [bsz], H0.out.1, H0.out.2⟩
 case round =>
  obtain ⟨j, o, hj, rfl, rfl, ho, C1, F1⟩ := hrel
  have hcl := C1.lt
  have ho2 : (o.size : Int) <= 2000 := by omega
  by_cases hlt : j < 27 + y
  · have hlt' : (j : Int) < 27 + y := by omega
    go_wp2_with (first | (go_at_call 50; refine (za6 cb cb v _ _ 20 _ (C1.below ((Below.refl _ _).alloc (Nat.le_refl _) _)) (zau (by rfl) hcl hcl (by rfl)) (by omega) (by omega)).mono ?_; rintro e w2 ⟨s, rfl, hs, C2, B2⟩; have hs2 : (s.size : Int) <= 20 := (by omega)))
    refine ⟨⟨j + 1, _, by omega, by go_num, rfl, ?_, C2, (F1.alloc _).trans B2⟩, by simp [intOf]; omega⟩
    simp [ByteArray.size_append, bsz] <;> omega
  · have hlt' : ¬ (j : Int) < 27 + y := by omega
    go_upto_region 9 with fail
    have H1 : Hid (Cur _ cb v /\ But cb w _) := ⟨C1, F1⟩
    clear hlt hlt' C1 F1 hcl
    go_loopw [4, 6] (fun o q wr => ∃ (j : Nat) (s : ByteArray), j <= 27 + y /\ q = .int .i64 j /\ o = .string s /\ s.size <= 2001 + j /\ Cur wr cb v /\ But cb w wr) (fun _ q _ => 27 + y - (intOf q).toNat)
    case atStart => exact ⟨0, _, Nat.zero_le _, rfl, rfl, by simp [ByteArray.size_append, bsz] <;> omega, H1.out.1, H1.out.2⟩
    case round =>
     clear ho ho2 hj
     obtain ⟨j, o, hj, rfl, rfl, ho, C1, F1⟩ := hrel
     have hcl := C1.lt
     have ho2 : (o.size : Int) <= 2800 := by omega
     by_cases hlt : j < 27 + y
     · have hlt' : (j : Int) < 27 + y := by omega
       go_wp2
       refine ⟨⟨j + 1, _, by omega, by go_num, rfl, ?_, C1, F1⟩, by simp [intOf]; omega⟩
       simp [ByteArray.size_append, bsz] <;> omega
     · have hlt' : ¬ (j : Int) < 27 + y := by omega
       go_wp2
       all_goals
        (try simp only [Exit.inBlock, Exit.then])
        go_ret
        exact ⟨_, rfl, by first | omega | (simp [ByteArray.size_append, bsz] <;> omega), C1, F1⟩
set_option maxHeartbeats 8000000 in
theorem zli (cb : Nat) (v : Value) (s : ByteArray) (w : World) (C0 : Cur w cb v) (hs : s.size <= 100000) :
 Calls Tryz.prog 27 #[.pointer (some ⟨cb, 0, none⟩), .string s] w fun e w' => ∃ t : ByteArray, e = .returned (.string t) /\ t.size <= s.size + 50 /\ Cur w' cb v /\ But cb w w' := by
 have hcl := C0.lt
 have hs2 : (s.size : Int) <= 100000 := by omega
 have F0 := But.refl cb w
 go_enter Tryz.func27, Tryz.ntmps27
 by_cases hz : s.size = 0
 · have hz' : (s.size : Int) = 0 := by omega
   go_wp2
   go_ret
   exact ⟨_, rfl, by simp [bsz], C0, F0⟩
 · have hz' : ¬ (s.size : Int) = 0 := by omega
   have hz1 : 1 <= (s.size : Int) := by omega
   go_upto_region 4 with (first | (go_at_call 49; refine (zal cb v _ _ C0 (by omega) (by omega)).mono ?_; rintro e w0 ⟨a, rfl, ⟨ha0, ha1⟩, C2, B0⟩; replace C0 := C2; replace F0 := F0.trans B0; clear B0 C2; have hcl := C0.lt))
   go_upto_region 5 with (first | (go_at_call 49; refine (zal cb v _ _ C0 (by omega) (by omega)).mono ?_; rintro e w3 ⟨y, rfl, ⟨hy0, hy1⟩, C2, B0⟩; replace C0 := C2; replace F0 := F0.trans B0; clear B0 C2; have hcl := C0.lt))
   obtain ⟨a, rfl⟩ := Int.eq_ofNat_of_zero_le ha0
   have ha2 : (a : Int) + 1 <= s.size := by omega
   have ha3 : (a : Int) <= s.size := by omega
   have ha4 : a + 1 <= s.size := by omega
   have ha5 : ((a : Int) + 1).toNat = a + 1 := by omega
   have ha6 : (0 : Int) <= (a : Int) + 1 := by omega
   have ha7 : IntKind.i64.wrap ((a : Int) + 1) = (a : Int) + 1 := by rw [IntKind.wrap_i64]; omega
   have hy : y = 0 \/ y = 1 \/ y = 2 \/ y = 3 := by omega
   rcases hy with rfl | rfl | rfl | rfl
   · go_wp2
     go_ret
     exact ⟨_, rfl, by simp [ByteArray.size_extract] <;> omega, C0, F0⟩
   · go_wp2_with fail
     go_region_with (first | (go_at_call 50; refine (za6 cb cb v _ _ 20 _ (by first | assumption | exact Cur.below (by assumption) ((Below.refl _ _).alloc (Nat.le_refl _) _) | exact Cur.below (by assumption) (((Below.refl _ _).drew).alloc (by simp) _) | exact Cur.below (by assumption) (((Below.refl _ _).alloc (Nat.le_refl _) _).drew) | exact Cur.below (by assumption) (Below.refl _ _).drew) (by first | exact zau (by rfl) hcl hcl (by rfl) | exact zau (w := w3.drew) (by rfl) hcl hcl (by rfl) | exact zp.but (zau (w := w3) (by rfl) hcl hcl (by rfl)) (But.two ((But.refl cb _).drewN 1))) (by omega) (by omega)).mono ?_; rintro e w4 ⟨t, rfl, ht, C2, B2⟩; have ht2 : (t.size : Int) <= 20 := (by omega); have F2 := But.trans (by first | exact F0.alloc _ | exact (F0.drewN 1).alloc _ | exact (F0.alloc _).drewN 1) B2))
     all_goals
      (try simp only [Exit.inBlock, Exit.then])
      go_wp2
      go_ret
      exact ⟨_, rfl, by simp [ByteArray.size_append, ByteArray.size_extract] <;> omega, C2, F2⟩
   · go_wp2_with fail
     go_region
     go_wp2
     go_ret
     exact ⟨_, rfl, by simp [ByteArray.size_append, ByteArray.size_extract] <;> omega, C0.below (Below.refl _ _).drew, F0.drewN 1⟩
   · go_wp2_with fail
     go_region_with (first | (exfalso; have hx := ‹¬(0 <= IntKind.i64.wrap ((a : Int) + 1) /\ IntKind.i64.wrap ((a : Int) + 1) <= (s.size : Int))›; rw [ha7] at hx; omega) | (go_at_call 50; refine (za6 cb cb v _ _ 20 _ (by first | assumption | exact Cur.below (by assumption) ((Below.refl _ _).alloc (Nat.le_refl _) _) | exact Cur.below (by assumption) (((Below.refl _ _).drew).alloc (by simp) _) | exact Cur.below (by assumption) (((Below.refl _ _).alloc (Nat.le_refl _) _).drew) | exact Cur.below (by assumption) (Below.refl _ _).drew) (by first | exact zau (by rfl) hcl hcl (by rfl) | exact zau (w := w3.drew) (by rfl) hcl hcl (by rfl) | exact zp.but (zau (w := w3) (by rfl) hcl hcl (by rfl)) (But.two ((But.refl cb _).drewN 1))) (by omega) (by omega)).mono ?_; rintro e w4 ⟨t, rfl, ht, C2, B2⟩; have ht2 : (t.size : Int) <= 20 := (by omega); have F2 := But.trans (by first | exact F0.alloc _ | exact (F0.drewN 1).alloc _ | exact (F0.alloc _).drewN 1) B2))
     all_goals
      (try simp only [Exit.inBlock, Exit.then])
      go_wp2
      go_ret
      exact ⟨_, rfl, by simp [ByteArray.size_append, ByteArray.size_extract, ha7, ha5] <;> omega, C2, F2⟩
theorem zpw (a : Option Addr) (n cap : Nat) (most : Int) (w : World) (hn : n <= 1048576) :
 Calls Tryz.prog 26 #[.slice a n cap, .int .i64 most] w fun e w' => ∃ r : Int, e = .returned (.int .i64 r) /\ w' = w := by
 have hn2 : (n : Int) <= 1048576 := by omega
 go_enter Tryz.func26, Tryz.ntmps26
 go_wp2
 all_goals
  go_ret
  exact ⟨_, rfl, rfl⟩
set_option maxHeartbeats 4000000 in
theorem zn4 (cb : Nat) (a : Option Addr) (n cap : Nat) (v : Value) (w : World) (C0 : Cur w cb v) (hn : n <= 1048576) :
 Calls Tryz.prog 11 #[.pointer (some ⟨cb, 0, none⟩), .slice a n cap] w fun e w' => ∃ s : ByteArray, e = .returned (.string s) /\ s.size <= 3050 /\ Cur w' cb v /\ But cb w w' := by
 have hcl := C0.lt
 have F0 := But.refl cb w
 go_enter Tryz.func11, Tryz.ntmps11
 go_wp2_with (first | (go_at_call 23; refine (zci cb v _ _ C0 (by omega) (by omega)).mono ?_; rintro e w0 ⟨q, rfl, C2, B0⟩; replace C0 := C2; replace F0 := F0.trans B0; clear B0 C2) | (go_at_call 24; refine (zn5 cb v _ C0).mono ?_; rintro e w0 ⟨s, rfl, hs, C2, B0⟩; replace C0 := C2; replace F0 := F0.trans B0; clear B0 C2) | (go_at_call 26; refine (zpw _ _ _ _ _ hn).mono ?_; rintro e w0 ⟨r, rfl, rfl⟩) | (go_at_call 25; refine (zjs cb v _ _ _ C0).mono ?_; rintro e w0 ⟨s, rfl, hs, C2, B0⟩; replace C0 := C2; replace F0 := F0.trans B0; clear B0 C2) | (go_at_call 27; refine (zli cb v _ _ C0 (by omega)).mono ?_; rintro e w0 ⟨t, rfl, ht, C2, B0⟩; replace C0 := C2; replace F0 := F0.trans B0; clear B0 C2))
 all_goals
  (try simp only [Exit.inBlock, Exit.then])
  go_ret
  exact ⟨_, rfl, by omega, C0, F0⟩
theorem zlh {w w1 w' : World} (h : Below w.heap.size w w1) (k : But w.heap.size w1 w') : Below w.heap.size w w' :=
 ⟨k.os.trans h.os, k.tape.trans h.tape, k.output.trans h.output, Nat.le_trans h.size k.size, fun j hj => (k.block j (Nat.lt_of_lt_of_le hj h.size) (by omega)).trans (h.block j hj)⟩
end Go.Proofs.YtiglkhkfbgjjoaaGreatDoor
