/- - -/
import Derived.Test.YtblcfbhlmdhnpaaGreatBBoZ
import Derived.Test.YtblcfbhlmdhnpaaGreatBMcBox
import Derived.Test.YtblcfbhlmdhnpaaGreatBBoY
namespace Go.Proofs.YtblcfbhlmdhnpaaGreat
set_option maxRecDepth 20000
open Go.RowKit
set_option linter.unusedSimpArgs false
set_option linter.unusedVariables false
set_option maxHeartbeats 4000000 in
theorem zhj (bw nw cw br cr : Nat) (smz : Int) (T : Nat) (ser : Int) (ws : List Int) (w : World) (hW : RwW w bw ws) (hl : ws.length = nw) (hnw : (nw : Int) = 2 * smz) (s0 : 256 <= smz) (s1 : smz <= 4000) (t1 : 1 <= T) (t2 : 2 * ((T : Int) - 1) <= smz - 1) (hfit : (T : Int) + 2 <= smz) (hok : hOk 4 1 ser = true) (q0 : 0 <= ser) (q1 : ser < 1000000000) (hz : ∀ i, T < i -> i < T + 2 -> zj ws i = 0) :
 Calls Tryz.prog 17 #[.agg #[.slice (some ⟨bw, 0, none⟩) nw cw, .int .i64 smz, .int .i64 0, .int .i64 (T : Int), .bool false, .int .i64 0, .int .i64 0, .int .i64 0, .int .i64 ser, .slice (some ⟨br, 0, none⟩) 6 cr], .int .i64 4, .int .i64 1] w fun e w' => e = .returned (.tuple #[.agg #[.slice (some ⟨bw, 0, none⟩) nw cw, .int .i64 smz, .int .i64 0, .int .i64 ((T : Int) + 2), .bool false, .int .i64 0, .int .i64 0, .int .i64 0, .int .i64 (ser + 1), .slice (some ⟨br, 0, none⟩) 6 cr], .int .i64 (T : Int), .int .i64 0]) /\ RwW w' bw (ws.set T (4 + 1 * 16 + ser * 1048576)) /\ Kp [bw] w w' := by
 have v1 := zab (a := (T : Int)) (b := 1) (by omega) (by omega)
 have v2 := zab (a := smz) (b := 1) (by omega) (by omega)
 have v4 : IntKind.i64.wrap (2 * ((T : Int) - 1)) = 2 * ((T : Int) - 1) := by rw [IntKind.wrap_i64]; omega
 have v5 : IntKind.i64.wrap ((T : Int) + 2) = (T : Int) + 2 := by rw [IntKind.wrap_i64]; omega
 have v6 : IntKind.i64.wrap (ser + 1) = ser + 1 := by rw [IntKind.wrap_i64]; omega
 have h3 : ¬ (smz - 1 < 2 * ((T : Int) - 1)) := by omega
 have h4 : ¬ (smz - 1 < 2) := by omega
 have h5 : ¬ (smz - (T : Int) < 2) := by omega
 have hTl : (T : Int) < (nw : Int) := by omega
 have HW : Hid (RwW w bw ws) := hW
 have lbw := hW.lt
 have HZ : Hid (∀ i, T < i -> i < T + 2 -> zj ws i = 0) := hz
 have HLS : Hid (∀ W : World, Calls Tryz.prog 41 #[.agg #[.slice (some ⟨bw, 0, none⟩) nw cw, .int .i64 smz, .int .i64 0, .int .i64 (T : Int), .bool false, .int .i64 0, .int .i64 0, .int .i64 0, .int .i64 ser, .slice (some ⟨br, 0, none⟩) 6 cr], .int .i64 0] W fun e w' => e = .returned (.int .i64 1) /\ Below W.heap.size W w') := fun W => by
  have := zcu (some ⟨bw, 0, none⟩) cw (List.replicate nw 0) smz 0 (T : Int) false 0 0 0 ser (some ⟨br, 0, none⟩) cr (List.replicate 6 (0, 0)) 0 1 W (by omega) (by omega) s0 s1 (by omega)
  rw [List.length_replicate] at this
  exact this
 have HLF : Hid (∀ W : World, Calls Tryz.prog 45 #[.agg #[.slice (some ⟨bw, 0, none⟩) nw cw, .int .i64 smz, .int .i64 0, .int .i64 (T : Int), .bool false, .int .i64 0, .int .i64 0, .int .i64 0, .int .i64 ser, .slice (some ⟨br, 0, none⟩) 6 cr]] W fun e w' => e = .returned (.int .i64 (smz - (T : Int))) /\ Below W.heap.size W w') := fun W => by
  have := zef (some ⟨bw, 0, none⟩) cw (List.replicate nw 0) smz 0 (T : Int) 0 0 0 ser (some ⟨br, 0, none⟩) cr (List.replicate 6 (0, 0)) smz W (by omega) (by omega) s0 s1 (by omega) (by omega) (by omega)
  rw [List.length_replicate] at this
  exact this
 clear hW hz
 go_enter Tryz.func17, Tryz.ntmps17
 go_upto_region 4 with fail
 obtain ⟨w0, hw0⟩ : ∃ V, V = (w.alloc (.cells #[.slice (some ⟨bw, 0, none⟩) nw cw, .int .i64 smz, .int .i64 0, .int .i64 (T : Int), .bool false, .int .i64 0, .int .i64 0, .int .i64 0, .int .i64 ser, .slice (some ⟨br, 0, none⟩) 6 cr] 33)).alloc (.cells #[.slice none 0 0, .int .i64 0, .int .i64 0, .int .i64 0, .bool false, .int .i64 0, .int .i64 0, .int .i64 0, .int .i64 0, .slice none 0 0] 33) := ⟨_, rfl⟩
 have B0 : Below w.heap.size w w0 := by rw [hw0]; exact ((Below.refl _ _).alloc (Nat.le_refl _) _).alloc (by simp) _
 have X0 : za w0 w.heap.size 33 #[.slice (some ⟨bw, 0, none⟩) nw cw, .int .i64 smz, .int .i64 0, .int .i64 (T : Int), .bool false, .int .i64 0, .int .i64 0, .int .i64 0, .int .i64 ser, .slice (some ⟨br, 0, none⟩) 6 cr] := by rw [hw0]; exact (za.new w _ _).alloc _
 have Z0 : za w0 (w.heap.size + 1) 33 #[.slice none 0 0, .int .i64 0, .int .i64 0, .int .i64 0, .bool false, .int .i64 0, .int .i64 0, .int .i64 0, .int .i64 0, .slice none 0 0] := by rw [hw0]; have := za.new (w.alloc (.cells #[.slice (some ⟨bw, 0, none⟩) nw cw, .int .i64 smz, .int .i64 0, .int .i64 (T : Int), .bool false, .int .i64 0, .int .i64 0, .int .i64 0, .int .i64 ser, .slice (some ⟨br, 0, none⟩) 6 cr] 33)) 33 #[.slice none 0 0, .int .i64 0, .int .i64 0, .int .i64 0, .bool false, .int .i64 0, .int .i64 0, .int .i64 0, .int .i64 0, .slice none 0 0]; simpa using this
 rw [<- hw0]
 clear hw0
 have KP : ∀ V, Below w0.heap.size w0 V -> (Below w0.heap.size w0 V /\ (∀ i, V.cell? ⟨w.heap.size, i, none⟩ = (#[.slice (some ⟨bw, 0, none⟩) nw cw, .int .i64 smz, .int .i64 0, .int .i64 (T : Int), .bool false, .int .i64 0, .int .i64 0, .int .i64 0, .int .i64 ser, .slice (some ⟨br, 0, none⟩) 6 cr] : Array Value)[i]?)) := fun V hV => ⟨hV, (X0.below hV X0.lt).cell⟩
 have bd' := (Below.refl w0.heap.size w0).drew
 have KA := X0.cell
 go_region_held3 (fun V => Below w0.heap.size w0 V /\ (∀ i, V.cell? ⟨w.heap.size, i, none⟩ = (#[.slice (some ⟨bw, 0, none⟩) nw cw, .int .i64 smz, .int .i64 0, .int .i64 (T : Int), .bool false, .int .i64 0, .int .i64 0, .int .i64 0, .int .i64 ser, .slice (some ⟨br, 0, none⟩) 6 cr] : Array Value)[i]?)) (first | assumption | exact KP _ bd' | exact KP _ (by assumption)) (first | (go_at_call 41; refine (HLS.out _).mono ?_; rintro e wl ⟨rfl, bb⟩; have hBl := zb (w := w0) (And.left (by assumption)) bb; clear bb))
 rename_i hHl
 clear hHl KP bd' KA HLS
 have X1 := X0.below hBl X0.lt
 have Z1 := Z0.below hBl Z0.lt
 have B1 := zb B0 hBl
 clear X0 Z0 B0 hBl
 have KA := X1.cell
 go_wp2_with fail
 refine (HLF.out _).mono ?_
 rintro e w2 ⟨rfl, b2⟩
 have X2 := X1.below b2 X1.lt
 have Z2 := Z1.below b2 Z1.lt
 have B2 := zb B1 b2
 clear KA X1 Z1 B1 b2
 have KA := X2.cell
 go_wp2_with fail
 refine (HLF.out _).mono ?_
 rintro e w3 ⟨rfl, b3⟩
 have X3 := X2.below b3 X2.lt
 have Z3 := Z2.below b3 Z2.lt
 have B3 := zb B2 b3
 clear KA X2 Z2 B2 b3 HLF
 have KA := X3.cell
 have fA := X3.frozen
 have z3 := Z3.lt
 have n4 : ¬ (w.heap.size = w3.heap.size) := by omega
 have n5 : ¬ (w3.heap.size = w.heap.size) := by omega
 have n6 : w.heap.size < w3.heap.size := by omega
 go_upto_region 17 with fail
 obtain ⟨w4, hw4⟩ : ∃ V, V = (w3.setCell ⟨w.heap.size, 8, none⟩ (.int .i64 (ser + 1))).alloc (.cells #[.int .i64 4, .int .i64 1, .int .i64 ser] 87) := ⟨_, rfl⟩
 rw [<- hw4]
 have X4 : za w4 w.heap.size 33 #[.slice (some ⟨bw, 0, none⟩) nw cw, .int .i64 smz, .int .i64 0, .int .i64 (T : Int), .bool false, .int .i64 0, .int .i64 0, .int .i64 0, .int .i64 (ser + 1), .slice (some ⟨br, 0, none⟩) 6 cr] := by rw [hw4]; exact (X3.set 8 _).alloc _
 have Z4 : za w4 (w.heap.size + 1) 33 #[.slice none 0 0, .int .i64 0, .int .i64 0, .int .i64 0, .bool false, .int .i64 0, .int .i64 0, .int .i64 0, .int .i64 0, .slice none 0 0] := by rw [hw4]; exact (Z3.other (by omega) 8 _).alloc _
 have W4 : RwW w4 bw ws := by rw [hw4]; exact Rw.below (Rw.other (Rw.below HW.out B3) (p := ⟨w.heap.size, 8, none⟩) (by show bw ≠ w.heap.size; omega) _) ((Below.refl _ _).alloc (Nat.le_refl _) _)
 have K4 : Kp [bw] w w4 := by rw [hw4]; exact ((Kp.of_below B3).setCell (p := ⟨w.heap.size, 8, none⟩) (.inr (Nat.le_refl _)) _).alloc _
 have H4 : za w4 w3.heap.size 87 #[.int .i64 4, .int .i64 1, .int .i64 ser] := by rw [hw4]; have := za.new (w3.setCell ⟨w.heap.size, 8, none⟩ (.int .i64 (ser + 1))) 87 #[.int .i64 4, .int .i64 1, .int .i64 ser]; simpa using this
 clear hw4 KA fA X3 Z3 B3 n4 n5 n6
 have KA := X4.cell
 have KH := H4.cell
 have cT := W4.cell (i := T) (by omega)
 have fT := W4.frozen T
 have HX4 : Hid (za w4 w.heap.size 33 #[.slice (some ⟨bw, 0, none⟩) nw cw, .int .i64 smz, .int .i64 0, .int .i64 (T : Int), .bool false, .int .i64 0, .int .i64 0, .int .i64 0, .int .i64 (ser + 1), .slice (some ⟨br, 0, none⟩) 6 cr]) := X4
 have HZ4 : Hid (za w4 (w.heap.size + 1) 33 #[.slice none 0 0, .int .i64 0, .int .i64 0, .int .i64 0, .bool false, .int .i64 0, .int .i64 0, .int .i64 0, .int .i64 0, .slice none 0 0]) := Z4
 have HW4 : Hid (RwW w4 bw ws) := W4
 have HK4 : Hid (Kp [bw] w w4) := K4
 have la := X4.lt
 have lz := Z4.lt
 have hne : w.heap.size ≠ bw := by omega
 have hne1 : w.heap.size + 1 ≠ bw := by omega
 clear X4 Z4 W4 K4 H4
 go_cut [] from 81 to 89 (fun wc => za wc w.heap.size 33 #[.slice (some ⟨bw, 0, none⟩) nw cw, .int .i64 smz, .int .i64 0, .int .i64 (T : Int), .bool false, .int .i64 0, .int .i64 0, .int .i64 0, .int .i64 (ser + 1), .slice (some ⟨br, 0, none⟩) 6 cr] /\ za wc (w.heap.size + 1) 33 #[.slice none 0 0, .int .i64 0, .int .i64 0, .int .i64 0, .bool false, .int .i64 0, .int .i64 0, .int .i64 0, .int .i64 0, .slice none 0 0] /\ RwW wc bw (ws.set T (4 + 1 * 16 + ser * 1048576)) /\ Kp [bw] w wc)
 case first =>
  go_region_with (first | (go_at_call 47; refine (za3 _ _ _ _ hok).mono ?_; rintro e w6 ⟨rfl, b6⟩; have b6' : Below w4.heap.size w4 w6 := (Below.refl _ _).drew.trans b6; have KA6 := (HX4.out.below b6' la).cell; have W6 := Rw.below HW4.out b6'; have cT6 := W6.cell (i := T) (by omega); have fT6 := W6.frozen T; clear b6 W6))
  all_goals
   go_wp2_with fail
   go_meet
   exact ⟨(HX4.out.below b6' la).other hne T _, (HZ4.out.below b6' lz).other hne1 T _, RwW.set (Rw.below HW4.out b6') _ (by omega), (HK4.out.next b6').setCell (p := ⟨bw, T, none⟩) (.inl (by simp)) _⟩
 case rest =>
  obtain ⟨X7, Z7, W7, K7⟩ := hcut
  rename World => w7
  have HX7 : Hid (za w7 w.heap.size 33 #[.slice (some ⟨bw, 0, none⟩) nw cw, .int .i64 smz, .int .i64 0, .int .i64 (T : Int), .bool false, .int .i64 0, .int .i64 0, .int .i64 0, .int .i64 (ser + 1), .slice (some ⟨br, 0, none⟩) 6 cr]) := X7
  have HZ7 : Hid (za w7 (w.heap.size + 1) 33 #[.slice none 0 0, .int .i64 0, .int .i64 0, .int .i64 0, .bool false, .int .i64 0, .int .i64 0, .int .i64 0, .int .i64 0, .slice none 0 0]) := Z7
  have HW7 : Hid (RwW w7 bw (ws.set T (4 + 1 * 16 + ser * 1048576))) := W7
  have HK7 : Hid (Kp [bw] w w7) := K7
  have la7 := X7.lt
  have lz7 := Z7.lt
  have lb7 := W7.lt
  clear X7 Z7 W7 K7 KA KH cT fT HX4 HZ4 HW4 HK4
  have HIDZ : Hid (∀ j : Nat, j < 1 -> zj (ws.set T (4 + 1 * 16 + ser * 1048576)) (T + 1 + j) = 0) := fun j hj => by rw [zr (by omega), if_neg (by omega)]; exact HZ.out _ (by omega) (by omega)
  go_wp2_with fail
  go_loopw [12] (fun u wr => ∃ j : Nat, j <= 1 /\ u = .int .i64 ((j : Int) + 1) /\ RwW wr bw (ws.set T (4 + 1 * 16 + ser * 1048576)) /\ Kp [bw] w7 wr) (fun u _ => 1 + 1 - (intOf u).toNat)
  case atStart => exact ⟨0, Nat.zero_le _, rfl, HW7.out, Kp.refl _ _⟩
  case round =>
   obtain ⟨j, hj, rfl, hWr, hKr⟩ := hrel
   have XR : za wr w.heap.size 33 #[.slice (some ⟨bw, 0, none⟩) nw cw, .int .i64 smz, .int .i64 0, .int .i64 (T : Int), .bool false, .int .i64 0, .int .i64 0, .int .i64 0, .int .i64 (ser + 1), .slice (some ⟨br, 0, none⟩) 6 cr] := (hKr.block _ la7 (by simp; omega)).trans HX7.out
   have ZR : za wr (w.heap.size + 1) 33 #[.slice none 0 0, .int .i64 0, .int .i64 0, .int .i64 0, .bool false, .int .i64 0, .int .i64 0, .int .i64 0, .int .i64 0, .slice none 0 0] := (hKr.block _ lz7 (by simp; omega)).trans HZ7.out
   have HWR : Hid (RwW wr bw (ws.set T (4 + 1 * 16 + ser * 1048576))) := hWr
   have HKR : Hid (Kp [bw] w7 wr) := hKr
   have y1 : IntKind.i64.wrap ((T : Int) + ((j : Int) + 1)) = (T : Int) + ((j : Int) + 1) := by rw [IntKind.wrap_i64]; omega
   have y2 : IntKind.i64.wrap ((j : Int) + 1 + 1) = (j : Int) + 1 + 1 := by rw [IntKind.wrap_i64]; omega
   have KA := XR.cell
   have fA := XR.frozen
   by_cases hlt : j < 1
   · have g1 : (j : Int) + 1 <= 1 := by omega
     have g2 : (T : Int) + ((j : Int) + 1) < (nw : Int) := by omega
     have g3 : 0 <= (T : Int) + ((j : Int) + 1) := by omega
     have g4 : ((T : Int) + ((j : Int) + 1)).toNat = T + 1 + j := by omega
     have cJ := hWr.cell (i := T + 1 + j) (by rw [List.length_set]; omega)
     have fJ := hWr.frozen (T + 1 + j)
     have HN : Hid (RwW (wr.setCell ⟨bw, T + 1 + j, none⟩ (.int .u64 0)) bw (ws.set T (4 + 1 * 16 + ser * 1048576)) /\ Kp [bw] w7 (wr.setCell ⟨bw, T + 1 + j, none⟩ (.int .u64 0))) := ⟨by
      have := RwW.set hWr (i := T + 1 + j) 0 (by rw [List.length_set]; omega)
      rw [za6 (by rw [List.length_set]; omega) (HIDZ.out j hlt)] at this
      exact this, hKr.setCell (p := ⟨bw, T + 1 + j, none⟩) (.inl (by simp)) _⟩
     clear XR ZR hWr hKr
     go_wp2
     refine ⟨⟨j + 1, by omega, by go_num, HN.out.1, HN.out.2⟩, by simp [intOf]; omega⟩
   · obtain rfl : j = 1 := by omega
     have KZ := ZR.cell
     have fZ := ZR.frozen
     clear hWr hKr XR ZR
     have q0 : (wr.cell? ⟨w.heap.size + 1, 0, none⟩).isSome = true := by rw [KZ 0]; rfl
     have q1 : (wr.cell? ⟨w.heap.size + 1, 1, none⟩).isSome = true := by rw [KZ 1]; rfl
     have q2 : (wr.cell? ⟨w.heap.size + 1, 2, none⟩).isSome = true := by rw [KZ 2]; rfl
     have q3 : (wr.cell? ⟨w.heap.size + 1, 3, none⟩).isSome = true := by rw [KZ 3]; rfl
     have q4 : (wr.cell? ⟨w.heap.size + 1, 4, none⟩).isSome = true := by rw [KZ 4]; rfl
     have q5 : (wr.cell? ⟨w.heap.size + 1, 5, none⟩).isSome = true := by rw [KZ 5]; rfl
     have q6 : (wr.cell? ⟨w.heap.size + 1, 6, none⟩).isSome = true := by rw [KZ 6]; rfl
     have q7 : (wr.cell? ⟨w.heap.size + 1, 7, none⟩).isSome = true := by rw [KZ 7]; rfl
     have q8 : (wr.cell? ⟨w.heap.size + 1, 8, none⟩).isSome = true := by rw [KZ 8]; rfl
     have q9 : (wr.cell? ⟨w.heap.size + 1, 9, none⟩).isSome = true := by rw [KZ 9]; rfl
     have p0 : (wr.cell? ⟨w.heap.size, 0, none⟩).isSome = true := by rw [KA 0]; rfl
     have p1 : (wr.cell? ⟨w.heap.size, 1, none⟩).isSome = true := by rw [KA 1]; rfl
     have p2 : (wr.cell? ⟨w.heap.size, 2, none⟩).isSome = true := by rw [KA 2]; rfl
     have p3 : (wr.cell? ⟨w.heap.size, 3, none⟩).isSome = true := by rw [KA 3]; rfl
     have p4 : (wr.cell? ⟨w.heap.size, 4, none⟩).isSome = true := by rw [KA 4]; rfl
     have p5 : (wr.cell? ⟨w.heap.size, 5, none⟩).isSome = true := by rw [KA 5]; rfl
     have p6 : (wr.cell? ⟨w.heap.size, 6, none⟩).isSome = true := by rw [KA 6]; rfl
     have p7 : (wr.cell? ⟨w.heap.size, 7, none⟩).isSome = true := by rw [KA 7]; rfl
     have p8 : (wr.cell? ⟨w.heap.size, 8, none⟩).isSome = true := by rw [KA 8]; rfl
     have p9 : (wr.cell? ⟨w.heap.size, 9, none⟩).isSome = true := by rw [KA 9]; rfl
     go_wp2
     refine bodyPost_ret (v := .tuple #[.agg #[.slice (some ⟨bw, 0, none⟩) nw cw, .int .i64 smz, .int .i64 0, .int .i64 ((T : Int) + 2), .bool false, .int .i64 0, .int .i64 0, .int .i64 0, .int .i64 (ser + 1), .slice (some ⟨br, 0, none⟩) 6 cr], .int .i64 (T : Int), .int .i64 0]) (by simp [results, Tryz.results17, go_sem, q0, q1, q2, q3, q4, q5, q6, q7, q8, q9, p0, p1, p2, p3, p4, p5, p6, p7, p8, p9]) rfl ⟨rfl, ?_, ?_⟩
     · exact (Rw.other (Rw.other (Rw.other (Rw.other (Rw.other (Rw.other (Rw.other (Rw.other (Rw.other (Rw.other (Rw.other HWR.out (p := ⟨w.heap.size, 3, none⟩) (by show bw ≠ w.heap.size; omega) _) (p := ⟨w.heap.size + 1, 0, none⟩) (by show bw ≠ w.heap.size + 1; omega) _) (p := ⟨w.heap.size + 1, 1, none⟩) (by show bw ≠ w.heap.size + 1; omega) _) (p := ⟨w.heap.size + 1, 2, none⟩) (by show bw ≠ w.heap.size + 1; omega) _) (p := ⟨w.heap.size + 1, 3, none⟩) (by show bw ≠ w.heap.size + 1; omega) _) (p := ⟨w.heap.size + 1, 4, none⟩) (by show bw ≠ w.heap.size + 1; omega) _) (p := ⟨w.heap.size + 1, 5, none⟩) (by show bw ≠ w.heap.size + 1; omega) _) (p := ⟨w.heap.size + 1, 6, none⟩) (by show bw ≠ w.heap.size + 1; omega) _) (p := ⟨w.heap.size + 1, 7, none⟩) (by show bw ≠ w.heap.size + 1; omega) _) (p := ⟨w.heap.size + 1, 8, none⟩) (by show bw ≠ w.heap.size + 1; omega) _) (p := ⟨w.heap.size + 1, 9, none⟩) (by show bw ≠ w.heap.size + 1; omega) _)
     · exact (((((((((((HK7.out.trans HKR.out).setCell (p := ⟨w.heap.size, 3, none⟩) (.inr (Nat.le_refl _)) _).setCell (p := ⟨w.heap.size + 1, 0, none⟩) (.inr (Nat.le_succ _)) _).setCell (p := ⟨w.heap.size + 1, 1, none⟩) (.inr (Nat.le_succ _)) _).setCell (p := ⟨w.heap.size + 1, 2, none⟩) (.inr (Nat.le_succ _)) _).setCell (p := ⟨w.heap.size + 1, 3, none⟩) (.inr (Nat.le_succ _)) _).setCell (p := ⟨w.heap.size + 1, 4, none⟩) (.inr (Nat.le_succ _)) _).setCell (p := ⟨w.heap.size + 1, 5, none⟩) (.inr (Nat.le_succ _)) _).setCell (p := ⟨w.heap.size + 1, 6, none⟩) (.inr (Nat.le_succ _)) _).setCell (p := ⟨w.heap.size + 1, 7, none⟩) (.inr (Nat.le_succ _)) _).setCell (p := ⟨w.heap.size + 1, 8, none⟩) (.inr (Nat.le_succ _)) _).setCell (p := ⟨w.heap.size + 1, 9, none⟩) (.inr (Nat.le_succ _)) _
set_option maxHeartbeats 4000000 in
theorem zhk (bw nw cw br cr : Nat) (smz : Int) (T : Nat) (ser : Int) (ws : List Int) (w : World) (hW : RwW w bw ws) (hl : ws.length = nw) (hnw : (nw : Int) = 2 * smz) (s0 : 256 <= smz) (s1 : smz <= 4000) (t1 : 1 <= T) (t2 : 2 * ((T : Int) - 1) <= smz - 1) (hfit : (T : Int) + 127 <= smz) (hok : hOk 6 126 ser = true) (q0 : 0 <= ser) (q1 : ser < 1000000000) (hz : ∀ i, T < i -> i < T + 127 -> zj ws i = 0) :
 Calls Tryz.prog 17 #[.agg #[.slice (some ⟨bw, 0, none⟩) nw cw, .int .i64 smz, .int .i64 0, .int .i64 (T : Int), .bool false, .int .i64 0, .int .i64 0, .int .i64 0, .int .i64 ser, .slice (some ⟨br, 0, none⟩) 6 cr], .int .i64 6, .int .i64 126] w fun e w' => e = .returned (.tuple #[.agg #[.slice (some ⟨bw, 0, none⟩) nw cw, .int .i64 smz, .int .i64 0, .int .i64 ((T : Int) + 127), .bool false, .int .i64 0, .int .i64 0, .int .i64 0, .int .i64 (ser + 1), .slice (some ⟨br, 0, none⟩) 6 cr], .int .i64 (T : Int), .int .i64 0]) /\ RwW w' bw (ws.set T (6 + 126 * 16 + ser * 1048576)) /\ Kp [bw] w w' := by
 have v1 := zab (a := (T : Int)) (b := 1) (by omega) (by omega)
 have v2 := zab (a := smz) (b := 1) (by omega) (by omega)
 have v4 : IntKind.i64.wrap (2 * ((T : Int) - 1)) = 2 * ((T : Int) - 1) := by rw [IntKind.wrap_i64]; omega
 have v5 : IntKind.i64.wrap ((T : Int) + 127) = (T : Int) + 127 := by rw [IntKind.wrap_i64]; omega
 have v6 : IntKind.i64.wrap (ser + 1) = ser + 1 := by rw [IntKind.wrap_i64]; omega
 have h3 : ¬ (smz - 1 < 2 * ((T : Int) - 1)) := by omega
 have h4 : ¬ (smz - 1 < 127) := by omega
 have h5 : ¬ (smz - (T : Int) < 127) := by omega
 have hTl : (T : Int) < (nw : Int) := by omega
 have HW : Hid (RwW w bw ws) := hW
 have lbw := hW.lt
 have HZ : Hid (∀ i, T < i -> i < T + 127 -> zj ws i = 0) := hz
 have HLS : Hid (∀ W : World, Calls Tryz.prog 41 #[.agg #[.slice (some ⟨bw, 0, none⟩) nw cw, .int .i64 smz, .int .i64 0, .int .i64 (T : Int), .bool false, .int .i64 0, .int .i64 0, .int .i64 0, .int .i64 ser, .slice (some ⟨br, 0, none⟩) 6 cr], .int .i64 0] W fun e w' => e = .returned (.int .i64 1) /\ Below W.heap.size W w') := fun W => by
  have := zcu (some ⟨bw, 0, none⟩) cw (List.replicate nw 0) smz 0 (T : Int) false 0 0 0 ser (some ⟨br, 0, none⟩) cr (List.replicate 6 (0, 0)) 0 1 W (by omega) (by omega) s0 s1 (by omega)
  rw [List.length_replicate] at this
  exact this
 have HLF : Hid (∀ W : World, Calls Tryz.prog 45 #[.agg #[.slice (some ⟨bw, 0, none⟩) nw cw, .int .i64 smz, .int .i64 0, .int .i64 (T : Int), .bool false, .int .i64 0, .int .i64 0, .int .i64 0, .int .i64 ser, .slice (some ⟨br, 0, none⟩) 6 cr]] W fun e w' => e = .returned (.int .i64 (smz - (T : Int))) /\ Below W.heap.size W w') := fun W => by
  have := zef (some ⟨bw, 0, none⟩) cw (List.replicate nw 0) smz 0 (T : Int) 0 0 0 ser (some ⟨br, 0, none⟩) cr (List.replicate 6 (0, 0)) smz W (by omega) (by omega) s0 s1 (by omega) (by omega) (by omega)
  rw [List.length_replicate] at this
  exact this
 clear hW hz
 go_enter Tryz.func17, Tryz.ntmps17
 go_upto_region 4 with fail
 obtain ⟨w0, hw0⟩ : ∃ V, V = (w.alloc (.cells #[.slice (some ⟨bw, 0, none⟩) nw cw, .int .i64 smz, .int .i64 0, .int .i64 (T : Int), .bool false, .int .i64 0, .int .i64 0, .int .i64 0, .int .i64 ser, .slice (some ⟨br, 0, none⟩) 6 cr] 33)).alloc (.cells #[.slice none 0 0, .int .i64 0, .int .i64 0, .int .i64 0, .bool false, .int .i64 0, .int .i64 0, .int .i64 0, .int .i64 0, .slice none 0 0] 33) := ⟨_, rfl⟩
 have B0 : Below w.heap.size w w0 := by rw [hw0]; exact ((Below.refl _ _).alloc (Nat.le_refl _) _).alloc (by simp) _
 have X0 : za w0 w.heap.size 33 #[.slice (some ⟨bw, 0, none⟩) nw cw, .int .i64 smz, .int .i64 0, .int .i64 (T : Int), .bool false, .int .i64 0, .int .i64 0, .int .i64 0, .int .i64 ser, .slice (some ⟨br, 0, none⟩) 6 cr] := by rw [hw0]; exact (za.new w _ _).alloc _
 have Z0 : za w0 (w.heap.size + 1) 33 #[.slice none 0 0, .int .i64 0, .int .i64 0, .int .i64 0, .bool false, .int .i64 0, .int .i64 0, .int .i64 0, .int .i64 0, .slice none 0 0] := by rw [hw0]; have := za.new (w.alloc (.cells #[.slice (some ⟨bw, 0, none⟩) nw cw, .int .i64 smz, .int .i64 0, .int .i64 (T : Int), .bool false, .int .i64 0, .int .i64 0, .int .i64 0, .int .i64 ser, .slice (some ⟨br, 0, none⟩) 6 cr] 33)) 33 #[.slice none 0 0, .int .i64 0, .int .i64 0, .int .i64 0, .bool false, .int .i64 0, .int .i64 0, .int .i64 0, .int .i64 0, .slice none 0 0]; simpa using this
 rw [<- hw0]
 clear hw0
 have KP : ∀ V, Below w0.heap.size w0 V -> (Below w0.heap.size w0 V /\ (∀ i, V.cell? ⟨w.heap.size, i, none⟩ = (#[.slice (some ⟨bw, 0, none⟩) nw cw, .int .i64 smz, .int .i64 0, .int .i64 (T : Int), .bool false, .int .i64 0, .int .i64 0, .int .i64 0, .int .i64 ser, .slice (some ⟨br, 0, none⟩) 6 cr] : Array Value)[i]?)) := fun V hV => ⟨hV, (X0.below hV X0.lt).cell⟩
 have bd' := (Below.refl w0.heap.size w0).drew
 have KA := X0.cell
 go_region_held3 (fun V => Below w0.heap.size w0 V /\ (∀ i, V.cell? ⟨w.heap.size, i, none⟩ = (#[.slice (some ⟨bw, 0, none⟩) nw cw, .int .i64 smz, .int .i64 0, .int .i64 (T : Int), .bool false, .int .i64 0, .int .i64 0, .int .i64 0, .int .i64 ser, .slice (some ⟨br, 0, none⟩) 6 cr] : Array Value)[i]?)) (first | assumption | exact KP _ bd' | exact KP _ (by assumption)) (first | (go_at_call 41; refine (HLS.out _).mono ?_; rintro e wl ⟨rfl, bb⟩; have hBl := zb (w := w0) (And.left (by assumption)) bb; clear bb))
 rename_i hHl
 clear hHl KP bd' KA HLS
 have X1 := X0.below hBl X0.lt
 have Z1 := Z0.below hBl Z0.lt
 have B1 := zb B0 hBl
 clear X0 Z0 B0 hBl
 have KA := X1.cell
 go_wp2_with fail
 refine (HLF.out _).mono ?_
 rintro e w2 ⟨rfl, b2⟩
 have X2 := X1.below b2 X1.lt
 have Z2 := Z1.below b2 Z1.lt
 have B2 := zb B1 b2
 clear KA X1 Z1 B1 b2
 have KA := X2.cell
 go_wp2_with fail
 refine (HLF.out _).mono ?_
 rintro e w3 ⟨rfl, b3⟩
 have X3 := X2.below b3 X2.lt
 have Z3 := Z2.below b3 Z2.lt
 have B3 := zb B2 b3
 clear KA X2 Z2 B2 b3 HLF
 have KA := X3.cell
 have fA := X3.frozen
 have z3 := Z3.lt
 have n4 : ¬ (w.heap.size = w3.heap.size) := by omega
 have n5 : ¬ (w3.heap.size = w.heap.size) := by omega
 have n6 : w.heap.size < w3.heap.size := by omega
 go_upto_region 17 with fail
 obtain ⟨w4, hw4⟩ : ∃ V, V = (w3.setCell ⟨w.heap.size, 8, none⟩ (.int .i64 (ser + 1))).alloc (.cells #[.int .i64 6, .int .i64 126, .int .i64 ser] 87) := ⟨_, rfl⟩
 rw [<- hw4]
 have X4 : za w4 w.heap.size 33 #[.slice (some ⟨bw, 0, none⟩) nw cw, .int .i64 smz, .int .i64 0, .int .i64 (T : Int), .bool false, .int .i64 0, .int .i64 0, .int .i64 0, .int .i64 (ser + 1), .slice (some ⟨br, 0, none⟩) 6 cr] := by rw [hw4]; exact (X3.set 8 _).alloc _
 have Z4 : za w4 (w.heap.size + 1) 33 #[.slice none 0 0, .int .i64 0, .int .i64 0, .int .i64 0, .bool false, .int .i64 0, .int .i64 0, .int .i64 0, .int .i64 0, .slice none 0 0] := by rw [hw4]; exact (Z3.other (by omega) 8 _).alloc _
 have W4 : RwW w4 bw ws := by rw [hw4]; exact Rw.below (Rw.other (Rw.below HW.out B3) (p := ⟨w.heap.size, 8, none⟩) (by show bw ≠ w.heap.size; omega) _) ((Below.refl _ _).alloc (Nat.le_refl _) _)
 have K4 : Kp [bw] w w4 := by rw [hw4]; exact ((Kp.of_below B3).setCell (p := ⟨w.heap.size, 8, none⟩) (.inr (Nat.le_refl _)) _).alloc _
 have H4 : za w4 w3.heap.size 87 #[.int .i64 6, .int .i64 126, .int .i64 ser] := by rw [hw4]; have := za.new (w3.setCell ⟨w.heap.size, 8, none⟩ (.int .i64 (ser + 1))) 87 #[.int .i64 6, .int .i64 126, .int .i64 ser]; simpa using this
 clear hw4 KA fA X3 Z3 B3 n4 n5 n6
 have KA := X4.cell
 have KH := H4.cell
 have cT := W4.cell (i := T) (by omega)
 have fT := W4.frozen T
 have HX4 : Hid (za w4 w.heap.size 33 #[.slice (some ⟨bw, 0, none⟩) nw cw, .int .i64 smz, .int .i64 0, .int .i64 (T : Int), .bool false, .int .i64 0, .int .i64 0, .int .i64 0, .int .i64 (ser + 1), .slice (some ⟨br, 0, none⟩) 6 cr]) := X4
 have HZ4 : Hid (za w4 (w.heap.size + 1) 33 #[.slice none 0 0, .int .i64 0, .int .i64 0, .int .i64 0, .bool false, .int .i64 0, .int .i64 0, .int .i64 0, .int .i64 0, .slice none 0 0]) := Z4
 have HW4 : Hid (RwW w4 bw ws) := W4
 have HK4 : Hid (Kp [bw] w w4) := K4
 have la := X4.lt
 have lz := Z4.lt
 have hne : w.heap.size ≠ bw := by omega
 have hne1 : w.heap.size + 1 ≠ bw := by omega
 clear X4 Z4 W4 K4 H4
 go_cut [] from 81 to 89 (fun wc => za wc w.heap.size 33 #[.slice (some ⟨bw, 0, none⟩) nw cw, .int .i64 smz, .int .i64 0, .int .i64 (T : Int), .bool false, .int .i64 0, .int .i64 0, .int .i64 0, .int .i64 (ser + 1), .slice (some ⟨br, 0, none⟩) 6 cr] /\ za wc (w.heap.size + 1) 33 #[.slice none 0 0, .int .i64 0, .int .i64 0, .int .i64 0, .bool false, .int .i64 0, .int .i64 0, .int .i64 0, .int .i64 0, .slice none 0 0] /\ RwW wc bw (ws.set T (6 + 126 * 16 + ser * 1048576)) /\ Kp [bw] w wc)
 case first =>
  go_region_with (first | (go_at_call 47; refine (za3 _ _ _ _ hok).mono ?_; rintro e w6 ⟨rfl, b6⟩; have b6' : Below w4.heap.size w4 w6 := (Below.refl _ _).drew.trans b6; have KA6 := (HX4.out.below b6' la).cell; have W6 := Rw.below HW4.out b6'; have cT6 := W6.cell (i := T) (by omega); have fT6 := W6.frozen T; clear b6 W6))
  all_goals
   go_wp2_with fail
   go_meet
   exact ⟨(HX4.out.below b6' la).other hne T _, (HZ4.out.below b6' lz).other hne1 T _, RwW.set (Rw.below HW4.out b6') _ (by omega), (HK4.out.next b6').setCell (p := ⟨bw, T, none⟩) (.inl (by simp)) _⟩
 case rest =>
  obtain ⟨X7, Z7, W7, K7⟩ := hcut
  rename World => w7
  have HX7 : Hid (za w7 w.heap.size 33 #[.slice (some ⟨bw, 0, none⟩) nw cw, .int .i64 smz, .int .i64 0, .int .i64 (T : Int), .bool false, .int .i64 0, .int .i64 0, .int .i64 0, .int .i64 (ser + 1), .slice (some ⟨br, 0, none⟩) 6 cr]) := X7
  have HZ7 : Hid (za w7 (w.heap.size + 1) 33 #[.slice none 0 0, .int .i64 0, .int .i64 0, .int .i64 0, .bool false, .int .i64 0, .int .i64 0, .int .i64 0, .int .i64 0, .slice none 0 0]) := Z7
  have HW7 : Hid (RwW w7 bw (ws.set T (6 + 126 * 16 + ser * 1048576))) := W7
  have HK7 : Hid (Kp [bw] w w7) := K7
  have la7 := X7.lt
  have lz7 := Z7.lt
  have lb7 := W7.lt
  clear X7 Z7 W7 K7 KA KH cT fT HX4 HZ4 HW4 HK4
  have HIDZ : Hid (∀ j : Nat, j < 126 -> zj (ws.set T (6 + 126 * 16 + ser * 1048576)) (T + 1 + j) = 0) := fun j hj => by rw [zr (by omega), if_neg (by omega)]; exact HZ.out _ (by omega) (by omega)
  go_wp2_with fail
  go_loopw [12] (fun u wr => ∃ j : Nat, j <= 126 /\ u = .int .i64 ((j : Int) + 1) /\ RwW wr bw (ws.set T (6 + 126 * 16 + ser * 1048576)) /\ Kp [bw] w7 wr) (fun u _ => 126 + 1 - (intOf u).toNat)
  case atStart => exact ⟨0, Nat.zero_le _, rfl, HW7.out, Kp.refl _ _⟩
  case round =>
   obtain ⟨j, hj, rfl, hWr, hKr⟩ := hrel
   have XR : za wr w.heap.size 33 #[.slice (some ⟨bw, 0, none⟩) nw cw, .int .i64 smz, .int .i64 0, .int .i64 (T : Int), .bool false, .int .i64 0, .int .i64 0, .int .i64 0, .int .i64 (ser + 1), .slice (some ⟨br, 0, none⟩) 6 cr] := (hKr.block _ la7 (by simp; omega)).trans HX7.out
   have ZR : za wr (w.heap.size + 1) 33 #[.slice none 0 0, .int .i64 0, .int .i64 0, .int .i64 0, .bool false, .int .i64 0, .int .i64 0, .int .i64 0, .int .i64 0, .slice none 0 0] := (hKr.block _ lz7 (by simp; omega)).trans HZ7.out
   have HWR : Hid (RwW wr bw (ws.set T (6 + 126 * 16 + ser * 1048576))) := hWr
   have HKR : Hid (Kp [bw] w7 wr) := hKr
   have y1 : IntKind.i64.wrap ((T : Int) + ((j : Int) + 1)) = (T : Int) + ((j : Int) + 1) := by rw [IntKind.wrap_i64]; omega
   have y2 : IntKind.i64.wrap ((j : Int) + 1 + 1) = (j : Int) + 1 + 1 := by rw [IntKind.wrap_i64]; omega
   have KA := XR.cell
   have fA := XR.frozen
   by_cases hlt : j < 126
   · have g1 : (j : Int) + 1 <= 126 := by omega
     have g2 : (T : Int) + ((j : Int) + 1) < (nw : Int) := by omega
     have g3 : 0 <= (T : Int) + ((j : Int) + 1) := by omega
     have g4 : ((T : Int) + ((j : Int) + 1)).toNat = T + 1 + j := by omega
     have cJ := hWr.cell (i := T + 1 + j) (by rw [List.length_set]; omega)
     have fJ := hWr.frozen (T + 1 + j)
     have HN : Hid (RwW (wr.setCell ⟨bw, T + 1 + j, none⟩ (.int .u64 0)) bw (ws.set T (6 + 126 * 16 + ser * 1048576)) /\ Kp [bw] w7 (wr.setCell ⟨bw, T + 1 + j, none⟩ (.int .u64 0))) := ⟨by
      have := RwW.set hWr (i := T + 1 + j) 0 (by rw [List.length_set]; omega)
      rw [za6 (by rw [List.length_set]; omega) (HIDZ.out j hlt)] at this
      exact this, hKr.setCell (p := ⟨bw, T + 1 + j, none⟩) (.inl (by simp)) _⟩
     clear XR ZR hWr hKr
     go_wp2
     refine ⟨⟨j + 1, by omega, by go_num, HN.out.1, HN.out.2⟩, by simp [intOf]; omega⟩
   · obtain rfl : j = 126 := by omega
     have KZ := ZR.cell
     have fZ := ZR.frozen
     clear hWr hKr XR ZR
     have q0 : (wr.cell? ⟨w.heap.size + 1, 0, none⟩).isSome = true := by rw [KZ 0]; rfl
     have q1 : (wr.cell? ⟨w.heap.size + 1, 1, none⟩).isSome = true := by rw [KZ 1]; rfl
     have q2 : (wr.cell? ⟨w.heap.size + 1, 2, none⟩).isSome = true := by rw [KZ 2]; rfl
     have q3 : (wr.cell? ⟨w.heap.size + 1, 3, none⟩).isSome = true := by rw [KZ 3]; rfl
     have q4 : (wr.cell? ⟨w.heap.size + 1, 4, none⟩).isSome = true := by rw [KZ 4]; rfl
     have q5 : (wr.cell? ⟨w.heap.size + 1, 5, none⟩).isSome = true := by rw [KZ 5]; rfl
     have q6 : (wr.cell? ⟨w.heap.size + 1, 6, none⟩).isSome = true := by rw [KZ 6]; rfl
     have q7 : (wr.cell? ⟨w.heap.size + 1, 7, none⟩).isSome = true := by rw [KZ 7]; rfl
     have q8 : (wr.cell? ⟨w.heap.size + 1, 8, none⟩).isSome = true := by rw [KZ 8]; rfl
     have q9 : (wr.cell? ⟨w.heap.size + 1, 9, none⟩).isSome = true := by rw [KZ 9]; rfl
     have p0 : (wr.cell? ⟨w.heap.size, 0, none⟩).isSome = true := by rw [KA 0]; rfl
     have p1 : (wr.cell? ⟨w.heap.size, 1, none⟩).isSome = true := by rw [KA 1]; rfl
     have p2 : (wr.cell? ⟨w.heap.size, 2, none⟩).isSome = true := by rw [KA 2]; rfl
     have p3 : (wr.cell? ⟨w.heap.size, 3, none⟩).isSome = true := by rw [KA 3]; rfl
     have p4 : (wr.cell? ⟨w.heap.size, 4, none⟩).isSome = true := by rw [KA 4]; rfl
     have p5 : (wr.cell? ⟨w.heap.size, 5, none⟩).isSome = true := by rw [KA 5]; rfl
     have p6 : (wr.cell? ⟨w.heap.size, 6, none⟩).isSome = true := by rw [KA 6]; rfl
     have p7 : (wr.cell? ⟨w.heap.size, 7, none⟩).isSome = true := by rw [KA 7]; rfl
     have p8 : (wr.cell? ⟨w.heap.size, 8, none⟩).isSome = true := by rw [KA 8]; rfl
     have p9 : (wr.cell? ⟨w.heap.size, 9, none⟩).isSome = true := by rw [KA 9]; rfl
     go_wp2
     refine bodyPost_ret (v := .tuple #[.agg #[.slice (some ⟨bw, 0, none⟩) nw cw, .int .i64 smz, .int .i64 0, .int .i64 ((T : Int) + 127), .bool false, .int .i64 0, .int .i64 0, .int .i64 0, .int .i64 (ser + 1), .slice (some ⟨br, 0, none⟩) 6 cr], .int .i64 (T : Int), .int .i64 0]) (by simp [results, Tryz.results17, go_sem, q0, q1, q2, q3, q4, q5, q6, q7, q8, q9, p0, p1, p2, p3, p4, p5, p6, p7, p8, p9]) rfl ⟨rfl, ?_, ?_⟩
     · exact (Rw.other (Rw.other (Rw.other (Rw.other (Rw.other (Rw.other (Rw.other (Rw.other (Rw.other (Rw.other (Rw.other HWR.out (p := ⟨w.heap.size, 3, none⟩) (by show bw ≠ w.heap.size; omega) _) (p := ⟨w.heap.size + 1, 0, none⟩) (by show bw ≠ w.heap.size + 1; omega) _) (p := ⟨w.heap.size + 1, 1, none⟩) (by show bw ≠ w.heap.size + 1; omega) _) (p := ⟨w.heap.size + 1, 2, none⟩) (by show bw ≠ w.heap.size + 1; omega) _) (p := ⟨w.heap.size + 1, 3, none⟩) (by show bw ≠ w.heap.size + 1; omega) _) (p := ⟨w.heap.size + 1, 4, none⟩) (by show bw ≠ w.heap.size + 1; omega) _) (p := ⟨w.heap.size + 1, 5, none⟩) (by show bw ≠ w.heap.size + 1; omega) _) (p := ⟨w.heap.size + 1, 6, none⟩) (by show bw ≠ w.heap.size + 1; omega) _) (p := ⟨w.heap.size + 1, 7, none⟩) (by show bw ≠ w.heap.size + 1; omega) _) (p := ⟨w.heap.size + 1, 8, none⟩) (by show bw ≠ w.heap.size + 1; omega) _) (p := ⟨w.heap.size + 1, 9, none⟩) (by show bw ≠ w.heap.size + 1; omega) _)
     · exact (((((((((((HK7.out.trans HKR.out).setCell (p := ⟨w.heap.size, 3, none⟩) (.inr (Nat.le_refl _)) _).setCell (p := ⟨w.heap.size + 1, 0, none⟩) (.inr (Nat.le_succ _)) _).setCell (p := ⟨w.heap.size + 1, 1, none⟩) (.inr (Nat.le_succ _)) _).setCell (p := ⟨w.heap.size + 1, 2, none⟩) (.inr (Nat.le_succ _)) _).setCell (p := ⟨w.heap.size + 1, 3, none⟩) (.inr (Nat.le_succ _)) _).setCell (p := ⟨w.heap.size + 1, 4, none⟩) (.inr (Nat.le_succ _)) _).setCell (p := ⟨w.heap.size + 1, 5, none⟩) (.inr (Nat.le_succ _)) _).setCell (p := ⟨w.heap.size + 1, 6, none⟩) (.inr (Nat.le_succ _)) _).setCell (p := ⟨w.heap.size + 1, 7, none⟩) (.inr (Nat.le_succ _)) _).setCell (p := ⟨w.heap.size + 1, 8, none⟩) (.inr (Nat.le_succ _)) _).setCell (p := ⟨w.heap.size + 1, 9, none⟩) (.inr (Nat.le_succ _)) _
end Go.Proofs.YtblcfbhlmdhnpaaGreat
