/- - -/
import Derived.Test.YtblcfbhlmdhnpaaGreatBBoA
namespace Go.Proofs.YtblcfbhlmdhnpaaGreat
set_option maxRecDepth 20000
open Go.RowKit
set_option linter.unusedSimpArgs false
set_option linter.unusedVariables false
set_option maxHeartbeats 4000000 in
theorem zh5 (a1 : Option Addr) (L c1 : Nat) (a2 : Option Addr) (n c2 bw br nw : Nat) (smz : Int) (bm T : Nat) (ser kd : Int) (size : Nat) (ws : List Int) (w : World) (X : za w bm 37 #[.slice a1 L c1, .slice a2 n c2, .slice (some ⟨bw, 0, none⟩) nw nw, .int .i64 smz, .int .i64 0, .int .i64 (T : Int), .bool false, .int .i64 0, .int .i64 0, .int .i64 0, .int .i64 (ser), .slice (some ⟨br, 0, none⟩) 6 6, .bool false, .bool false, .bool false, .int .i64 0, .int .i64 0, .int .i64 0, .int .i64 0, .slice none 0 0]) (hW : RwW w bw ws) (hl : ws.length = nw) (hab : bm ≠ bw) (hn : nw <= 1048576) (h0 : 0 < size) (hfit : T + (size + 1) <= nw) (hs : zbu kd = true) (hok : hOk kd size ser = true) (q0 : 0 <= ser) (q1 : ser <= 1000000000) :
 Calls Tryz.prog 111 #[.pointer (some ⟨bm, 2, none⟩), .int .i64 kd, .int .i64 (size : Int)] w fun e w' => e = .returned (.int .i64 (T : Int)) /\ za w' bm 37 #[.slice a1 L c1, .slice a2 n c2, .slice (some ⟨bw, 0, none⟩) nw nw, .int .i64 smz, .int .i64 0, .int .i64 ((T : Int) + ((size : Int) + 1) : Int), .bool false, .int .i64 0, .int .i64 0, .int .i64 0, .int .i64 (ser + 1), .slice (some ⟨br, 0, none⟩) 6 6, .bool false, .bool false, .bool false, .int .i64 0, .int .i64 0, .int .i64 0, .int .i64 0, .slice none 0 0] /\ RwW w' bw (zav (ws.set T (kd + size * 16 + ser * 1048576)) (T + 1) size) /\ Kp [bm, bw] w w' := by
 have HA : Hid (za w bm 37 #[.slice a1 L c1, .slice a2 n c2, .slice (some ⟨bw, 0, none⟩) nw nw, .int .i64 smz, .int .i64 0, .int .i64 (T : Int), .bool false, .int .i64 0, .int .i64 0, .int .i64 0, .int .i64 (ser), .slice (some ⟨br, 0, none⟩) 6 6, .bool false, .bool false, .bool false, .int .i64 0, .int .i64 0, .int .i64 0, .int .i64 0, .slice none 0 0]) := X
 have HW : Hid (RwW w bw ws) := hW
 have lba := X.lt
 have lbw := hW.lt
 have hT' : (T : Int) + ((size : Int) + 1) <= 1048576 := by omega
 have hTl : (T : Int) < (nw : Int) := by omega
 have wr0 : IntKind.i64.wrap ((size : Int) + 1) = (size : Int) + 1 := by rw [IntKind.wrap_i64]; omega
 have wr1 : IntKind.i64.wrap ((T : Int) + ((size : Int) + 1)) = (T : Int) + ((size : Int) + 1) := by rw [IntKind.wrap_i64]; omega
 have wr2 : IntKind.i64.wrap ((T : Int) + 1) = (T : Int) + 1 := by rw [IntKind.wrap_i64]; omega
 have wr3 : IntKind.i64.wrap (ser + 1) = ser + 1 := by rw [IntKind.wrap_i64]; omega
 clear X hW
 go_enter Tryz.func111, Tryz.ntmps111
 go_wp2_with fail
 refine (zay _ _).mono ?_
 rw [hs]
 rintro e w' ⟨rfl, rfl⟩
 obtain ⟨w1, hw1⟩ : ∃ V, V = w.alloc (.cells #[.int .i64 kd, .int .i64 (size : Int), .int .i64 0] 87) := ⟨_, rfl⟩
 rw [<- hw1]
 have B1 : Below w.heap.size w w1 := by rw [hw1]; exact (Below.refl _ _).alloc (Nat.le_refl _) _
 have z1 : w1.heap.size = w.heap.size + 1 := by rw [hw1]; simp
 have RH1 : za w1 w.heap.size 87 #[.int .i64 kd, .int .i64 (size : Int), .int .i64 0] := by rw [hw1]; exact za.new _ _ _
 have RA1 := HA.out.below B1 lba
 have RW1 : RwW w1 bw ws := Rw.below HW.out B1
 have KH := RH1.cell
 have fh := RH1.frozen
 have KA := RA1.cell
 have fa := RA1.frozen
 clear hw1
 go_wp2_with fail
 obtain ⟨w2, hw2⟩ : ∃ V, V = (w1.setCell ⟨w.heap.size, 2, none⟩ (.int .i64 ser)).setCell ⟨bm, 10, none⟩ (.int .i64 (ser + 1)) := ⟨_, rfl⟩
 rw [<- hw2]
 have nh : bm ≠ w.heap.size := by omega
 have RA2 : za w2 bm 37 #[.slice a1 L c1, .slice a2 n c2, .slice (some ⟨bw, 0, none⟩) nw nw, .int .i64 smz, .int .i64 0, .int .i64 (T : Int), .bool false, .int .i64 0, .int .i64 0, .int .i64 0, .int .i64 (ser + 1), .slice (some ⟨br, 0, none⟩) 6 6, .bool false, .bool false, .bool false, .int .i64 0, .int .i64 0, .int .i64 0, .int .i64 0, .slice none 0 0] := by rw [hw2]; exact (RA1.other nh 2 _).set 10 _
 have RH2 : za w2 w.heap.size 87 #[.int .i64 kd, .int .i64 (size : Int), .int .i64 ser] := by rw [hw2]; exact (RH1.set 2 _).other nh.symm 10 _
 have RW2 : RwW w2 bw ws := by
  rw [hw2]
  exact Rw.other (Rw.other RW1 (p := ⟨w.heap.size, 2, none⟩) (by show bw ≠ w.heap.size; omega) _) (p := ⟨bm, 10, none⟩) hab.symm _
 have K2 : Kp [bm, bw] w w2 := by
  rw [hw2]
  exact ((Kp.of_below B1).setCell (p := ⟨w.heap.size, 2, none⟩) (.inr (Nat.le_refl _)) _).setCell (p := ⟨bm, 10, none⟩) (.inl (by simp)) _
 have z2 : w2.heap.size = w.heap.size + 1 := by rw [hw2]; simp [z1]
 clear hw2 KH fh KA fa RA1 RH1 RW1 B1 z1
 have KH := RH2.cell
 have KA := RA2.cell
 have fa := RA2.frozen
 have HA2 : Hid (za w2 bm 37 #[.slice a1 L c1, .slice a2 n c2, .slice (some ⟨bw, 0, none⟩) nw nw, .int .i64 smz, .int .i64 0, .int .i64 (T : Int), .bool false, .int .i64 0, .int .i64 0, .int .i64 0, .int .i64 (ser + 1), .slice (some ⟨br, 0, none⟩) 6 6, .bool false, .bool false, .bool false, .int .i64 0, .int .i64 0, .int .i64 0, .int .i64 0, .slice none 0 0]) := RA2
 have HW2 : Hid (RwW w2 bw ws) := RW2
 have HK2 : Hid (Kp [bm, bw] w w2) := K2
 have lb2 : bm < w2.heap.size := by omega
 have cT := RW2.cell (i := T) (by omega)
 have fT := RW2.frozen T
 clear RA2 RW2 K2 RH2
 go_cut [] from 30 to 40 (fun wc => za wc bm 37 #[.slice a1 L c1, .slice a2 n c2, .slice (some ⟨bw, 0, none⟩) nw nw, .int .i64 smz, .int .i64 0, .int .i64 (T : Int), .bool false, .int .i64 0, .int .i64 0, .int .i64 0, .int .i64 (ser + 1), .slice (some ⟨br, 0, none⟩) 6 6, .bool false, .bool false, .bool false, .int .i64 0, .int .i64 0, .int .i64 0, .int .i64 0, .slice none 0 0] /\ RwW wc bw (ws.set T (kd + size * 16 + ser * 1048576)) /\ Kp [bm, bw] w wc)
 case first =>
  go_region_with (first | (go_at_call 120; refine (zce _ _ _ _ hok).mono ?_; rintro e w3 ⟨rfl, b3⟩; have b3' : Below w2.heap.size w2 w3 := (Below.refl _ _).drew.trans b3; have r3 := HA2.out.below b3' lb2; have KA3 := r3.cell; have fa3 := r3.frozen; have RW3 := Rw.below HW2.out b3'; have cT3 := RW3.cell (i := T) (by omega); have fT3 := RW3.frozen T; clear b3))
  all_goals
   go_wp2_with fail
   go_meet
   refine ⟨?_, ?_, ?_⟩
   · exact (HA2.out.below b3' lb2).other hab T _
   · exact RwW.set (ws := ws) (i := T) (Rw.below HW2.out b3') _ (by omega)
   · exact (HK2.out.next b3').setCell (p := ⟨bw, T, none⟩) (.inl (by simp)) _
 case rest =>
  obtain ⟨hAc, hWc, hKc⟩ := hcut
  rename World => w4
  have HA4 : Hid (za w4 bm 37 #[.slice a1 L c1, .slice a2 n c2, .slice (some ⟨bw, 0, none⟩) nw nw, .int .i64 smz, .int .i64 0, .int .i64 (T : Int), .bool false, .int .i64 0, .int .i64 0, .int .i64 0, .int .i64 (ser + 1), .slice (some ⟨br, 0, none⟩) 6 6, .bool false, .bool false, .bool false, .int .i64 0, .int .i64 0, .int .i64 0, .int .i64 0, .slice none 0 0]) := hAc
  have HW4 : Hid (RwW w4 bw (ws.set T (kd + size * 16 + ser * 1048576))) := hWc
  have HK4 : Hid (Kp [bm, bw] w w4) := hKc
  clear KH KA fa cT fT HA2 HW2 HK2 hAc hWc hKc lb2
  have KA := HA4.out.cell
  have fa := HA4.out.frozen
  go_wp2_with fail
  obtain ⟨w5, hw5⟩ : ∃ V, V = w4.setCell ⟨bm, 5, none⟩ (.int .i64 ((T : Int) + ((size : Int) + 1))) := ⟨_, rfl⟩
  rw [<- hw5]
  have HA5 : Hid (za w5 bm 37 #[.slice a1 L c1, .slice a2 n c2, .slice (some ⟨bw, 0, none⟩) nw nw, .int .i64 smz, .int .i64 0, .int .i64 ((T : Int) + ((size : Int) + 1) : Int), .bool false, .int .i64 0, .int .i64 0, .int .i64 0, .int .i64 (ser + 1), .slice (some ⟨br, 0, none⟩) 6 6, .bool false, .bool false, .bool false, .int .i64 0, .int .i64 0, .int .i64 0, .int .i64 0, .slice none 0 0]) := by
   show za w5 bm 37 #[.slice a1 L c1, .slice a2 n c2, .slice (some ⟨bw, 0, none⟩) nw nw, .int .i64 smz, .int .i64 0, .int .i64 ((T : Int) + ((size : Int) + 1) : Int), .bool false, .int .i64 0, .int .i64 0, .int .i64 0, .int .i64 (ser + 1), .slice (some ⟨br, 0, none⟩) 6 6, .bool false, .bool false, .bool false, .int .i64 0, .int .i64 0, .int .i64 0, .int .i64 0, .slice none 0 0]
   rw [hw5]
   exact HA4.out.set 5 _
  have HW5 : Hid (RwW w5 bw (ws.set T (kd + size * 16 + ser * 1048576))) := by
   show RwW w5 bw _
   rw [hw5]
   exact Rw.other HW4.out (p := ⟨bm, 5, none⟩) hab.symm _
  have HK5 : Hid (Kp [bm, bw] w w5) := by
   show Kp [bm, bw] w w5
   rw [hw5]
   exact HK4.out.setCell (p := ⟨bm, 5, none⟩) (.inl (by simp)) _
  clear hw5 KA fa HA4 HW4 HK4
  have KA := HA5.out.cell
  have lb5 := HA5.out.lt
  obtain ⟨wm, hcl, hWm, hKm⟩ := zec (w := w5.drew) (b := bw) (o := T + 1) (n := size) (Rw.drew HW5.out) h0 (by simp; omega)
  have HWm : Hid (RwW wm bw (zav (ws.set T (kd + size * 16 + ser * 1048576)) (T + 1) size)) := hWm
  have HKm : Hid (Kp [bw] w5 wm) := (Kp.refl _ _).drew.trans hKm
  clear hWm hKm
  have sl1 : ∀ W, (Instr.sliceAt 30 (.slice (some ⟨bw, 0, none⟩) nw nw) (some (.int .i64 ((T : Int) + 1))) (some (.int .i64 ((T : Int) + ((size : Int) + 1)))) none).run Tryz.prog W = .ok (.slice (some ⟨bw, T + 1, none⟩) size (nw - (T + 1))) W := fun W => by
   have := zeb bw nw nw (T + 1) size (by omega) (by omega) W
   rw [show ((T + 1 : Nat) : Int) = (T : Int) + 1 by omega, show (T : Int) + 1 + (size : Int) = (T : Int) + ((size : Int) + 1) by omega] at this
   exact this
  have KP : ∀ V, Kp [bw] w5 V -> (Kp [bw] w5 V /\ (∀ i, V.cell? ⟨bm, i, none⟩ = (#[.slice a1 L c1, .slice a2 n c2, .slice (some ⟨bw, 0, none⟩) nw nw, .int .i64 smz, .int .i64 0, .int .i64 ((T : Int) + ((size : Int) + 1) : Int), .bool false, .int .i64 0, .int .i64 0, .int .i64 0, .int .i64 (ser + 1), .slice (some ⟨br, 0, none⟩) 6 6, .bool false, .bool false, .bool false, .int .i64 0, .int .i64 0, .int .i64 0, .int .i64 0, .slice none 0 0] : Array Value)[i]?)) := fun V hV => ⟨hV, Kp.has KA hV lb5 (by simp; omega)⟩
  refine wp_region_held_drew (S := fun V => Kp [bw] w5 V /\ (∀ i, V.cell? ⟨bm, i, none⟩ = (#[.slice a1 L c1, .slice a2 n c2, .slice (some ⟨bw, 0, none⟩) nw nw, .int .i64 smz, .int .i64 0, .int .i64 ((T : Int) + ((size : Int) + 1) : Int), .bool false, .int .i64 0, .int .i64 0, .int .i64 0, .int .i64 (ser + 1), .slice (some ⟨br, 0, none⟩) 6 6, .bool false, .bool false, .bool false, .int .i64 0, .int .i64 0, .int .i64 0, .int .i64 0, .slice none 0 0] : Array Value)[i]?)) (by kernel_rfl) (KP _ (Kp.refl _ _).drew) (fun hHeld => ?_)
  refine tk 0 50 (.pointer (some ⟨bm, 2, none⟩)) hHeld rfl (by intro w hSw; (try dsimp only at hSw); go_simp) ?_
  try simp only [Act.put, zig, zih, zii]
  refine tk 1 51 (.pointer (some ⟨bm, 2, none⟩)) hHeld rfl (by intro w hSw; (try dsimp only at hSw); go_simp) ?_
  try simp only [Act.put, zig, zih, zii]
  refine tk 2 52 (.pointer (some ⟨bm, 2, none⟩)) hHeld rfl (by intro w hSw; (try dsimp only at hSw); go_simp) ?_
  try simp only [Act.put, zig, zih, zii]
  refine tk 3 53 (.slice (some ⟨bw, 0, none⟩) nw nw) hHeld rfl (by intro w hSw; (try dsimp only at hSw); go_simp) ?_
  try simp only [Act.put, zig, zih, zii]
  refine tk 4 54 (.int .i64 (T : Int)) hHeld rfl (by intro w hSw; (try dsimp only at hSw); go_simp) ?_
  try simp only [Act.put, zig, zih, zii]
  refine tk 5 55 (.int .i64 ((T : Int) + 1)) hHeld rfl (by intro w hSw; (try dsimp only at hSw); go_simp) ?_
  try simp only [Act.put, zig, zih, zii]
  refine tk 6 56 (.pointer (some ⟨bm, 2, none⟩)) hHeld rfl (by intro w hSw; (try dsimp only at hSw); go_simp) ?_
  try simp only [Act.put, zig, zih, zii]
  refine tk 7 57 (.pointer (some ⟨bm, 2, none⟩)) hHeld rfl (by intro w hSw; (try dsimp only at hSw); go_simp) ?_
  try simp only [Act.put, zig, zih, zii]
  refine tk 8 58 (.pointer (some ⟨bm, 5, none⟩)) hHeld rfl (by intro w hSw; (try dsimp only at hSw); go_simp) ?_
  try simp only [Act.put, zig, zih, zii]
  refine tk 9 59 (.int .i64 ((T : Int) + ((size : Int) + 1))) hHeld rfl (by intro w hSw; (try dsimp only at hSw); go_simp) ?_
  try simp only [Act.put, zig, zih, zii]
  refine tk 10 60 (.slice (some ⟨bw, T + 1, none⟩) size (nw - (T + 1))) hHeld rfl (by intro w hSw; (try dsimp only at hSw); go_simp) ?_
  try simp only [Act.put, zig, zih, zii]
  refine wpAnyH_ready (rs := [11]) (by kernel_rfl) (by simp) ?_
  refine AllReadyH.cons (o := { dst := none, op := _, type := _, pos := _, after := _, guard := _ }) rfl (fun K hK => ?_) AllReadyH.nil
  go_simp
  clear hHeld
  refine hK.out _ _ (KP _ HKm.out) (fun hHeld => ?_)
  clear hK K hHeld
  try simp only [Act.put, zig, zih, zii]
  refine wpAnyH_done (by kernel_rfl) ?_ _
  have HAm : Hid (za wm bm 37 #[.slice a1 L c1, .slice a2 n c2, .slice (some ⟨bw, 0, none⟩) nw nw, .int .i64 smz, .int .i64 0, .int .i64 ((T : Int) + ((size : Int) + 1) : Int), .bool false, .int .i64 0, .int .i64 0, .int .i64 0, .int .i64 (ser + 1), .slice (some ⟨br, 0, none⟩) 6 6, .bool false, .bool false, .bool false, .int .i64 0, .int .i64 0, .int .i64 0, .int .i64 0, .slice none 0 0]) := (HKm.out.block _ lb5 (by simp; omega)).trans HA5.out
  clear KA KP sl1 hcl
  go_wp2
  go_ret
  exact ⟨rfl, HAm.out, HWm.out, HK5.out.trans (HKm.out.mono (fun x hx => by simp at hx; simp [hx]))⟩
set_option maxHeartbeats 2000000 in
theorem zgk (a1 : Option Addr) (L c1 : Nat) (a2 : Option Addr) (n c2 bw br nw : Nat) (smz : Int) (bm T : Nat) (ser kd : Int) (size : Nat) (ws : List Int) (w : World) (X : za w bm 37 #[.slice a1 L c1, .slice a2 n c2, .slice (some ⟨bw, 0, none⟩) nw nw, .int .i64 smz, .int .i64 0, .int .i64 (T : Int), .bool false, .int .i64 0, .int .i64 0, .int .i64 0, .int .i64 (ser), .slice (some ⟨br, 0, none⟩) 6 6, .bool false, .bool false, .bool false, .int .i64 0, .int .i64 0, .int .i64 0, .int .i64 0, .slice none 0 0]) (hW : RwW w bw ws) (hl : ws.length = nw) (hab : bm ≠ bw) (hnw : (nw : Int) = 2 * smz) (s0 : 256 <= smz) (s1 : smz <= 4000) (h0 : 0 < size) (t1 : 1 <= T) (t2 : 2 * ((T : Int) - 1) <= smz - 1) (hfit : (T : Int) + ((size : Int) + 1) <= smz) (hs : zbu kd = true) (hok : hOk kd size ser = true) (q0 : 0 <= ser) (q1 : ser < 1000000000) (hz : ∀ i, T < i -> i < T + 1 + size -> zj ws i = 0) :
 Calls Tryz.prog 89 #[.pointer (some ⟨bm, 2, none⟩), .int .i64 kd, .int .i64 (size : Int)] w fun e w' => e = .returned (.tuple #[.int .i64 (T : Int), .nilIface]) /\ za w' bm 37 #[.slice a1 L c1, .slice a2 n c2, .slice (some ⟨bw, 0, none⟩) nw nw, .int .i64 smz, .int .i64 0, .int .i64 ((T : Int) + ((size : Int) + 1) : Int), .bool false, .int .i64 0, .int .i64 0, .int .i64 0, .int .i64 (ser + 1), .slice (some ⟨br, 0, none⟩) 6 6, .bool false, .bool false, .bool false, .int .i64 0, .int .i64 0, .int .i64 0, .int .i64 0, .slice none 0 0] /\ RwW w' bw (ws.set T (kd + size * 16 + ser * 1048576)) /\ Kp [bm, bw] w w' := by
 have HA : Hid (za w bm 37 #[.slice a1 L c1, .slice a2 n c2, .slice (some ⟨bw, 0, none⟩) nw nw, .int .i64 smz, .int .i64 0, .int .i64 (T : Int), .bool false, .int .i64 0, .int .i64 0, .int .i64 0, .int .i64 (ser), .slice (some ⟨br, 0, none⟩) 6 6, .bool false, .bool false, .bool false, .int .i64 0, .int .i64 0, .int .i64 0, .int .i64 0, .slice none 0 0]) := X
 have HW : Hid (RwW w bw ws) := hW
 have lba := X.lt
 have hq : (ser == 1000000000) = false := beq_eq_false_iff_ne.2 (by omega)
 have wr0 : IntKind.i64.wrap ((size : Int) + 1) = (size : Int) + 1 := by rw [IntKind.wrap_i64]; omega
 have wr1 := zab (a := smz) (b := 1) (by omega) (by omega)
 have hg1 : ¬ (smz - 1 < (size : Int) + 1) := by omega
 have hg2 : ¬ (smz - (T : Int) < (size : Int) + 1) := by omega
 have HZ : Hid (zav (ws.set T (kd + size * 16 + ser * 1048576)) (T + 1) size = ws.set T (kd + size * 16 + ser * 1048576)) := zea size (by rw [List.length_set]; omega) (fun i h1 h2 => by rw [zr (by omega), if_neg (by omega)]; exact hz i (by omega) h2)
 clear hW hz
 have KA := X.cell
 clear X
 go_enter Tryz.func89, Tryz.ntmps89
 go_wp2_with fail
 refine (zay _ _).mono ?_
 rw [hs]
 rintro e wx ⟨rfl, hwx⟩
 rw [hwx]
 clear hwx
 go_wp2_with fail
 refine (zek a1 L c1 a2 n c2 bw br nw smz bm T ser _ HA.out s0 s1 t1 t2).mono ?_
 rintro e w2 ⟨rfl, b2⟩
 have X2 := HA.out.below b2 lba
 clear KA
 have KA := X2.cell
 go_wp2_with fail
 refine (zgl bw br nw smz T ser _ s0 s1 (by omega)).mono ?_
 rintro e w3 ⟨rfl, b3⟩
 have X3 := X2.below b3 X2.lt
 clear KA
 have KA := X3.cell
 go_wp2_with fail
 refine (zgl bw br nw smz T ser _ s0 s1 (by omega)).mono ?_
 rintro e w4 ⟨rfl, b4⟩
 have X4 := X3.below b4 X3.lt
 have W4 : RwW w4 bw ws := Rw.below (Rw.below (Rw.below HW.out b2) b3) b4
 have K4 : Kp [bm, bw] w w4 := ((Kp.of_below b2).next b3).next b4
 clear KA X2 X3
 go_wp2_with fail
 refine (zh5 a1 L c1 a2 n c2 bw br nw smz bm T ser kd size ws w4 X4 W4 hl hab (by omega) h0 (by omega) hs hok q0 (by omega)).mono ?_
 rintro e w5 ⟨rfl, X5, W5, K5⟩
 rw [HZ.out] at W5
 have HE : Hid (za w5 bm 37 #[.slice a1 L c1, .slice a2 n c2, .slice (some ⟨bw, 0, none⟩) nw nw, .int .i64 smz, .int .i64 0, .int .i64 ((T : Int) + ((size : Int) + 1) : Int), .bool false, .int .i64 0, .int .i64 0, .int .i64 0, .int .i64 (ser + 1), .slice (some ⟨br, 0, none⟩) 6 6, .bool false, .bool false, .bool false, .int .i64 0, .int .i64 0, .int .i64 0, .int .i64 0, .slice none 0 0] /\ RwW w5 bw (ws.set T (kd + size * 16 + ser * 1048576)) /\ Kp [bm, bw] w w5) := ⟨X5, W5, K4.trans K5⟩
 clear X4 X5 W5 K5 W4 K4
 go_wp2
 go_ret2
 exact ⟨rfl, HE.out⟩
end Go.Proofs.YtblcfbhlmdhnpaaGreat
