/- - -/
import Derived.Test.YtblcfbhlmdhnpaaGreatBBoL
namespace Go.Proofs.YtblcfbhlmdhnpaaGreat
set_option maxRecDepth 20000
open Go.RowKit
set_option linter.unusedSimpArgs false
set_option linter.unusedVariables false
theorem zgi (bw br nw : Nat) (smz : Int) (T : Nat) (ser : Int) (w : World) :
 Calls Tryz.prog 104 #[.agg #[.slice (some ⟨bw, 0, none⟩) nw nw, .int .i64 smz, .int .i64 0, .int .i64 (T : Int), .bool false, .int .i64 0, .int .i64 0, .int .i64 0, .int .i64 (ser), .slice (some ⟨br, 0, none⟩) 6 6], .int .i64 1] w fun e w' => e = .returned (.bool true) /\ Below w.heap.size w w' := by
 go_enter Tryz.func104, Tryz.ntmps104
 go_wp2
 go_ret
 exact ⟨rfl, (Below.refl _ _).alloc (Nat.le_refl _) _⟩
set_option maxHeartbeats 2000000 in
theorem zei (a1 : Option Addr) (L c1 : Nat) (a2 : Option Addr) (n c2 bw br nw : Nat) (smz : Int) (bm bv bs T : Nat) (ser : Int) (w : World) (X : za w bm 37 #[.slice a1 L c1, .slice a2 n c2, .slice (some ⟨bw, 0, none⟩) nw nw, .int .i64 smz, .int .i64 0, .int .i64 (T : Int), .bool false, .int .i64 0, .int .i64 0, .int .i64 0, .int .i64 (ser), .slice (some ⟨br, 0, none⟩) 6 6, .bool false, .bool false, .bool false, .int .i64 0, .int .i64 0, .int .i64 0, .int .i64 0, .slice none 0 0]) (Y : za w bv 105 #[.pointer (some ⟨bm, 2, none⟩), .int .i64 0, .int .i64 0, .int .i64 0, .int .i64 0, .int .i64 1, .int .i64 0, .int .i64 0, .int .i64 0, .slice none 0 0, .string ⟨#[]⟩]) (hs : w.cell? ⟨bs, 0, none⟩ = some (.int .i64 1)) (ls : bs < w.heap.size) :
 Calls Tryz.prog 105 #[.pointer (some ⟨bv, 0, none⟩), .slice (some ⟨bs, 0, none⟩) 1 1] w fun e w' => e = .returned .nilIface /\ Below w.heap.size w w' := by
 have HX : Hid (za w bm 37 #[.slice a1 L c1, .slice a2 n c2, .slice (some ⟨bw, 0, none⟩) nw nw, .int .i64 smz, .int .i64 0, .int .i64 (T : Int), .bool false, .int .i64 0, .int .i64 0, .int .i64 0, .int .i64 (ser), .slice (some ⟨br, 0, none⟩) 6 6, .bool false, .bool false, .bool false, .int .i64 0, .int .i64 0, .int .i64 0, .int .i64 0, .slice none 0 0]) := X
 have lm := X.lt
 have y0 : w.cell? ⟨bv, 0, none⟩ = some (.pointer (some ⟨bm, 2, none⟩)) := Y.cell 0
 have ly := Y.lt
 clear X Y
 go_enter Tryz.func105, Tryz.ntmps105
 go_wp2_with fail
 go_loopw [9] (fun u9 wr => ∃ k : Nat, k <= 1 /\ u9 = .int .i64 k /\ Below w.heap.size w wr) (fun u9 _ => 1 - (intOf u9).toNat)
 case atStart => exact ⟨0, by omega, rfl, Below.refl _ _⟩
 case round =>
  obtain ⟨k, hk, rfl, hF⟩ := hrel
  by_cases h0 : k = 0
  · subst h0
    have KA := (HX.out.below hF lm).cell
    have y0' : wr.cell? ⟨bv, 0, none⟩ = some (.pointer (some ⟨bm, 2, none⟩)) := (hF.cell (p := ⟨bv, 0, none⟩) ly).trans y0
    have hs' : wr.cell? ⟨bs, 0, none⟩ = some (.int .i64 1) := (hF.cell (p := ⟨bs, 0, none⟩) ls).trans hs
    clear y0 hs
    go_wp2_with fail
    refine (zgi bw br nw smz T ser _).mono ?_
    rintro e w2 ⟨rfl, b2⟩
    go_wp2
    go_roundw
    case rel => exact ⟨1, by omega, by go_num, zb hF b2⟩
    case measure => simp [intOf]
  · obtain rfl : k = 1 := by omega
    go_wp2
    go_ret
    exact ⟨rfl, hF⟩
set_option maxHeartbeats 2000000 in
theorem zfr (a1 : Option Addr) (L c1 : Nat) (a2 : Option Addr) (n c2 bw br nw : Nat) (smz : Int) (bm bv T : Nat) (ser : Int) (w : World) (X : za w bm 37 #[.slice a1 L c1, .slice a2 n c2, .slice (some ⟨bw, 0, none⟩) nw nw, .int .i64 smz, .int .i64 0, .int .i64 (T : Int), .bool false, .int .i64 0, .int .i64 0, .int .i64 0, .int .i64 (ser), .slice (some ⟨br, 0, none⟩) 6 6, .bool false, .bool false, .bool false, .int .i64 0, .int .i64 0, .int .i64 0, .int .i64 0, .slice none 0 0]) (Y : za w bv 105 #[.pointer (some ⟨bm, 2, none⟩), .int .i64 0, .int .i64 0, .int .i64 0, .int .i64 0, .int .i64 1, .int .i64 0, .int .i64 0, .int .i64 0, .slice none 0 0, .string ⟨#[]⟩]) :
 Calls Tryz.prog 88 #[.pointer (some ⟨bv, 0, none⟩)] w fun e w' => e = .returned .nilIface /\ Below w.heap.size w w' := by
 have HX : Hid (za w bm 37 #[.slice a1 L c1, .slice a2 n c2, .slice (some ⟨bw, 0, none⟩) nw nw, .int .i64 smz, .int .i64 0, .int .i64 (T : Int), .bool false, .int .i64 0, .int .i64 0, .int .i64 0, .int .i64 (ser), .slice (some ⟨br, 0, none⟩) 6 6, .bool false, .bool false, .bool false, .int .i64 0, .int .i64 0, .int .i64 0, .int .i64 0, .slice none 0 0]) := X
 have HY : Hid (za w bv 105 #[.pointer (some ⟨bm, 2, none⟩), .int .i64 0, .int .i64 0, .int .i64 0, .int .i64 0, .int .i64 1, .int .i64 0, .int .i64 0, .int .i64 0, .slice none 0 0, .string ⟨#[]⟩]) := Y
 have lm := X.lt
 have ly := Y.lt
 have KY := Y.cell
 clear X Y
 go_enter Tryz.func88, Tryz.ntmps88
 go_wp2_with fail
 go_loopw [30] (fun u wr => u = .int .i64 0 /\ wr = w) (fun _ _ => 0)
 case atStart => exact ⟨rfl, rfl⟩
 case round =>
  obtain ⟨rfl, rfl⟩ := hrel
  go_wp2_with fail
  refine (zei a1 L c1 a2 n c2 bw br nw smz bm bv _ T ser _ (HX.out.alloc _) (HY.out.alloc _) (by simp [go_sem]) (by simp)).mono ?_
  rintro e w2 ⟨rfl, b2⟩
  have B2 := zb ((Below.refl wr.heap.size wr).alloc (Nat.le_refl _) _) b2
  go_wp2
  go_ret
  exact ⟨rfl, B2⟩
def rtF (y : Nat -> Int) (T : Nat) : Nat -> Int := fun i => if i = 3 then (T : Int) else if i = 2 then 5 else y i
set_option maxHeartbeats 4000000 in
theorem zgj (a1 : Option Addr) (L c1 : Nat) (a2 : Option Addr) (n c2 bw br nw : Nat) (smz : Int) (bm bv T : Nat) (ser : Int) (ws : List Int) (y : Nat -> Int) (w : World) (X : za w bm 37 #[.slice a1 L c1, .slice a2 n c2, .slice (some ⟨bw, 0, none⟩) nw nw, .int .i64 smz, .int .i64 0, .int .i64 (T : Int), .bool false, .int .i64 0, .int .i64 0, .int .i64 0, .int .i64 (ser), .slice (some ⟨br, 0, none⟩) 6 6, .bool false, .bool false, .bool false, .int .i64 0, .int .i64 0, .int .i64 0, .int .i64 0, .slice none 0 0]) (Y : za w bv 105 #[.pointer (some ⟨bm, 2, none⟩), .int .i64 0, .int .i64 0, .int .i64 0, .int .i64 0, .int .i64 1, .int .i64 0, .int .i64 0, .int .i64 0, .slice none 0 0, .string ⟨#[]⟩]) (hW : RwW w bw ws) (hR : RwR w br 6 y) (hl : ws.length = nw) (hab : bm ≠ bw) (har : bm ≠ br) (hwr : bw ≠ br) (hv1 : bv ≠ bm) (hv2 : bv ≠ bw) (hv3 : bv ≠ br) (hnw : (nw : Int) = 2 * smz) (s0 : 256 <= smz) (s1 : smz <= 4000) (t1 : 1 <= T) (t2 : 2 * ((T : Int) - 1) <= smz - 1) (hfit : (T : Int) + 2 <= smz) (hok : hOk 4 1 ser = true) (q0 : 0 <= ser) (q1 : ser < 1000000000) (hz : zj ws (T + 1) = 0) :
 Calls Tryz.prog 59 #[.pointer (some ⟨bv, 0, none⟩)] w fun e w' => e = .returned .nilIface /\ za w' bm 37 #[.slice a1 L c1, .slice a2 n c2, .slice (some ⟨bw, 0, none⟩) nw nw, .int .i64 smz, .int .i64 0, .int .i64 ((T : Int) + 2 : Int), .bool false, .int .i64 0, .int .i64 0, .int .i64 0, .int .i64 (ser + 1), .slice (some ⟨br, 0, none⟩) 6 6, .bool false, .bool false, .bool false, .int .i64 0, .int .i64 0, .int .i64 0, .int .i64 0, .slice none 0 0] /\ RwW w' bw (ws.set T (4 + 1 * 16 + ser * 1048576)) /\ RwR w' br 6 (rtF y T) /\ Kp [bm, bw, br] w w' := by
 have HX : Hid (za w bm 37 #[.slice a1 L c1, .slice a2 n c2, .slice (some ⟨bw, 0, none⟩) nw nw, .int .i64 smz, .int .i64 0, .int .i64 (T : Int), .bool false, .int .i64 0, .int .i64 0, .int .i64 0, .int .i64 (ser), .slice (some ⟨br, 0, none⟩) 6 6, .bool false, .bool false, .bool false, .int .i64 0, .int .i64 0, .int .i64 0, .int .i64 0, .slice none 0 0]) := X
 have HY : Hid (za w bv 105 #[.pointer (some ⟨bm, 2, none⟩), .int .i64 0, .int .i64 0, .int .i64 0, .int .i64 0, .int .i64 1, .int .i64 0, .int .i64 0, .int .i64 0, .slice none 0 0, .string ⟨#[]⟩]) := Y
 have HW : Hid (RwW w bw ws) := hW
 have HR : Hid (RwR w br 6 y) := hR
 have lm := X.lt
 have ly := Y.lt
 have HZ : Hid ((ws.set T (4 + 1 * 16 + ser * 1048576)).set (T + 1) 0 = ws.set T (4 + 1 * 16 + ser * 1048576)) := za6 (by rw [List.length_set]; omega) (by rw [zr (by omega), if_neg (by omega)]; exact hz)
 have HASK : Hid (∀ W, za W bm 37 #[.slice a1 L c1, .slice a2 n c2, .slice (some ⟨bw, 0, none⟩) nw nw, .int .i64 smz, .int .i64 0, .int .i64 (T : Int), .bool false, .int .i64 0, .int .i64 0, .int .i64 0, .int .i64 (ser), .slice (some ⟨br, 0, none⟩) 6 6, .bool false, .bool false, .bool false, .int .i64 0, .int .i64 0, .int .i64 0, .int .i64 0, .slice none 0 0] -> RwW W bw ws -> Calls Tryz.prog 89 #[.pointer (some ⟨bm, 2, none⟩), .int .i64 4, .int .i64 1] W fun e w' => e = .returned (.tuple #[.int .i64 (T : Int), .nilIface]) /\ za w' bm 37 #[.slice a1 L c1, .slice a2 n c2, .slice (some ⟨bw, 0, none⟩) nw nw, .int .i64 smz, .int .i64 0, .int .i64 ((T : Int) + 2 : Int), .bool false, .int .i64 0, .int .i64 0, .int .i64 0, .int .i64 (ser + 1), .slice (some ⟨br, 0, none⟩) 6 6, .bool false, .bool false, .bool false, .int .i64 0, .int .i64 0, .int .i64 0, .int .i64 0, .slice none 0 0] /\ RwW w' bw (ws.set T (4 + 1 * 16 + ser * 1048576)) /\ Kp [bm, bw] W w') := fun W hX hV => by
  have := zgk a1 L c1 a2 n c2 bw br nw smz bm T ser 4 1 ws W hX hV hl hab hnw s0 s1 (by omega) t1 t2 (by omega) rfl hok q0 q1 (fun i h1 h2 => by rw [show i = T + 1 by omega]; exact hz)
  rw [show (T : Int) + (((1 : Nat) : Int) + 1) = (T : Int) + 2 by omega] at this
  exact this
 have wr2 : IntKind.i64.wrap ((T : Int) + 1) = (T : Int) + 1 := by rw [IntKind.wrap_i64]; omega
 have g2 : (T : Int) + 1 < (nw : Int) := by omega
 have g3 : (0 : Int) <= (T : Int) + 1 := by omega
 have g4 : ((T : Int) + 1).toNat = T + 1 := by omega
 have KY := Y.cell
 clear X Y hW hR hz
 go_enter Tryz.func59, Tryz.ntmps59
 go_wp2_with fail
 refine (zfr a1 L c1 a2 n c2 bw br nw smz bm bv T ser _ HX.out HY.out).mono ?_
 rintro e w1 ⟨rfl, b1⟩
 have Y1 := HY.out.below b1 ly
 have X1 := HX.out.below b1 lm
 have W1 : RwW w1 bw ws := Rw.below HW.out b1
 have R1 : RwR w1 br 6 y := Rw.below HR.out b1
 have HB1 : Hid (Below w.heap.size w w1) := b1
 clear KY b1
 go_wp2_with fail
 go_cut [4, 5] from 13 to 27 (fun s4 s5 wc => s4 = .int .i64 (T : Int) /\ s5 = .nilIface /\ za wc bm 37 #[.slice a1 L c1, .slice a2 n c2, .slice (some ⟨bw, 0, none⟩) nw nw, .int .i64 smz, .int .i64 0, .int .i64 ((T : Int) + 2 : Int), .bool false, .int .i64 0, .int .i64 0, .int .i64 0, .int .i64 (ser + 1), .slice (some ⟨br, 0, none⟩) 6 6, .bool false, .bool false, .bool false, .int .i64 0, .int .i64 0, .int .i64 0, .int .i64 0, .slice none 0 0] /\ za wc bv 105 #[.pointer (some ⟨bm, 2, none⟩), .int .i64 0, .int .i64 0, .int .i64 0, .int .i64 0, .int .i64 1, .int .i64 0, .int .i64 0, .int .i64 0, .slice none 0 0, .string ⟨#[]⟩] /\ RwW wc bw (ws.set T (4 + 1 * 16 + ser * 1048576)) /\ RwR wc br 6 y /\ Kp [bm, bw] w1 wc)
 case first =>
  have X1' : za w1.drew bm 37 #[.slice a1 L c1, .slice a2 n c2, .slice (some ⟨bw, 0, none⟩) nw nw, .int .i64 smz, .int .i64 0, .int .i64 (T : Int), .bool false, .int .i64 0, .int .i64 0, .int .i64 0, .int .i64 (ser), .slice (some ⟨br, 0, none⟩) 6 6, .bool false, .bool false, .bool false, .int .i64 0, .int .i64 0, .int .i64 0, .int .i64 0, .slice none 0 0] := X1
  have W1' : RwW w1.drew bw ws := W1
  have Y1' : za w1.drew bv 105 #[.pointer (some ⟨bm, 2, none⟩), .int .i64 0, .int .i64 0, .int .i64 0, .int .i64 0, .int .i64 1, .int .i64 0, .int .i64 0, .int .i64 0, .slice none 0 0, .string ⟨#[]⟩] := Y1
  have R1' : RwR w1.drew br 6 y := R1
  have K1 : Kp [bm, bw] w1 w1.drew := (Kp.refl _ _).drew
  refine wp_region_held_drew (S := fun V => za V bv 105 #[.pointer (some ⟨bm, 2, none⟩), .int .i64 0, .int .i64 0, .int .i64 0, .int .i64 0, .int .i64 1, .int .i64 0, .int .i64 0, .int .i64 0, .slice none 0 0, .string ⟨#[]⟩]) (by kernel_rfl) Y1' (fun hHeld => ?_)
  refine tk 0 14 (.pointer (some ⟨bv, 0, none⟩)) hHeld rfl (by intro V hS; go_simp) ?_
  try simp only [Act.put, zig, zih, zii]
  refine tk 1 15 (.pointer (some ⟨bv, 0, none⟩)) hHeld rfl (by intro V hS; go_simp) ?_
  try simp only [Act.put, zig, zih, zii]
  refine tk 2 16 (.pointer (some ⟨bv, 0, none⟩)) hHeld rfl (by intro V hS; go_simp) ?_
  try simp only [Act.put, zig, zih, zii]
  refine tk 3 17 (.pointer (some ⟨bm, 2, none⟩)) hHeld rfl (by intro V hS; have q := hS.cell 0; simp at q; go_simp) ?_
  try simp only [Act.put, zig, zih, zii]
  refine tk 4 18 (.pointer (some ⟨bv, 0, none⟩)) hHeld rfl (by intro V hS; go_simp) ?_
  try simp only [Act.put, zig, zih, zii]
  refine tk 5 19 (.pointer (some ⟨bv, 0, none⟩)) hHeld rfl (by intro V hS; go_simp) ?_
  try simp only [Act.put, zig, zih, zii]
  refine tk 6 20 (.pointer (some ⟨bv, 9, none⟩)) hHeld rfl (by intro V hS; go_simp) ?_
  try simp only [Act.put, zig, zih, zii]
  refine tk 7 21 (.slice none 0 0) hHeld rfl (by intro V hS; have q := hS.cell 9; simp at q; go_simp) ?_
  try simp only [Act.put, zig, zih, zii]
  refine tk 8 22 (.int .i64 0) hHeld rfl (by intro V hS; go_simp) ?_
  try simp only [Act.put, zig, zih, zii]
  refine tk 9 23 (.int .i64 0) hHeld rfl (by intro V hS; go_simp; try rfl) ?_
  try simp only [Act.put, zig, zih, zii]
  refine tk 10 24 (.int .i64 1) hHeld rfl (by intro V hS; go_simp; try rfl) ?_
  try simp only [Act.put, zig, zih, zii]
  refine wpAnyH_ready (rs := [11]) (by kernel_rfl) (by simp) ?_
  refine AllReadyH.cons (o := { dst := some 25, op := _, type := _, pos := _, after := _, guard := _ }) rfl (fun K hK => ?_) AllReadyH.nil
  go_simp
  go_at_call 89
  refine (HASK.out _ X1' W1').mono ?_
  rintro e w2 ⟨rfl, X2, W2, K2⟩
  have Y2 : za w2 bv 105 #[.pointer (some ⟨bm, 2, none⟩), .int .i64 0, .int .i64 0, .int .i64 0, .int .i64 0, .int .i64 1, .int .i64 0, .int .i64 0, .int .i64 0, .slice none 0 0, .string ⟨#[]⟩] := (K2.block _ Y1'.lt (by simp; omega)).trans Y1'
  have R2 : RwR w2 br 6 y := Rw.kp R1' K2 (by simp; omega)
  have K2' := K1.trans K2
  clear hHeld
  refine hK.out _ _ Y2 (fun hHeld => ?_)
  clear hK K
  try simp only [Act.put, zig, zih, zii]
  refine tk 12 13 (.tuple #[.int .i64 (T : Int), .nilIface]) hHeld rfl (by intro V hS; go_simp) ?_
  try simp only [Act.put, zig, zih, zii]
  refine tk 13 26 (.int .i64 (T : Int)) hHeld rfl (by intro V hS; go_simp) ?_
  try simp only [Act.put, zig, zih, zii]
  refine tk 14 27 (.nilIface) hHeld rfl (by intro V hS; go_simp) ?_
  try simp only [Act.put, zig, zih, zii]
  refine tk 15 4 (.int .i64 (T : Int)) hHeld rfl (by intro V hS; go_simp) ?_
  try simp only [Act.put, zig, zih, zii]
  refine tk 16 5 (.nilIface) hHeld rfl (by intro V hS; go_simp) ?_
  try simp only [Act.put, zig, zih, zii]
  refine wpAnyH_done (by kernel_rfl) ?_ _
  go_wp2_with fail
  go_meet
  exact ⟨rfl, rfl, X2, Y2, W2, R2, K2'⟩
 case rest =>
  obtain ⟨rfl, rfl, X2, Y2, W2, R2, K2⟩ := hcut
  rename World => w2
  clear X1 Y1 W1 R1
  have hl2 : (ws.set T (4 + 1 * 16 + ser * 1048576)).length = nw := by rw [List.length_set, hl]
  go_upto_region 7 with fail
  go_cut [] from 31 to 45 (fun wc => za wc bm 37 #[.slice a1 L c1, .slice a2 n c2, .slice (some ⟨bw, 0, none⟩) nw nw, .int .i64 smz, .int .i64 0, .int .i64 ((T : Int) + 2 : Int), .bool false, .int .i64 0, .int .i64 0, .int .i64 0, .int .i64 (ser + 1), .slice (some ⟨br, 0, none⟩) 6 6, .bool false, .bool false, .bool false, .int .i64 0, .int .i64 0, .int .i64 0, .int .i64 0, .slice none 0 0] /\ za wc bv 105 #[.pointer (some ⟨bm, 2, none⟩), .int .i64 0, .int .i64 0, .int .i64 0, .int .i64 0, .int .i64 1, .int .i64 0, .int .i64 0, .int .i64 0, .slice none 0 0, .string ⟨#[]⟩] /\ RwW wc bw (ws.set T (4 + 1 * 16 + ser * 1048576)) /\ RwR wc br 6 y /\ Kp [bm, bw] w1 wc)
  case first =>
   have X2' : za w2.drew bm 37 #[.slice a1 L c1, .slice a2 n c2, .slice (some ⟨bw, 0, none⟩) nw nw, .int .i64 smz, .int .i64 0, .int .i64 ((T : Int) + 2 : Int), .bool false, .int .i64 0, .int .i64 0, .int .i64 0, .int .i64 (ser + 1), .slice (some ⟨br, 0, none⟩) 6 6, .bool false, .bool false, .bool false, .int .i64 0, .int .i64 0, .int .i64 0, .int .i64 0, .slice none 0 0] := X2
   have Y2' : za w2.drew bv 105 #[.pointer (some ⟨bm, 2, none⟩), .int .i64 0, .int .i64 0, .int .i64 0, .int .i64 0, .int .i64 1, .int .i64 0, .int .i64 0, .int .i64 0, .slice none 0 0, .string ⟨#[]⟩] := Y2
   refine wp_region_held_drew (S := fun V => za V bv 105 #[.pointer (some ⟨bm, 2, none⟩), .int .i64 0, .int .i64 0, .int .i64 0, .int .i64 0, .int .i64 1, .int .i64 0, .int .i64 0, .int .i64 0, .slice none 0 0, .string ⟨#[]⟩] /\ za V bm 37 #[.slice a1 L c1, .slice a2 n c2, .slice (some ⟨bw, 0, none⟩) nw nw, .int .i64 smz, .int .i64 0, .int .i64 ((T : Int) + 2 : Int), .bool false, .int .i64 0, .int .i64 0, .int .i64 0, .int .i64 (ser + 1), .slice (some ⟨br, 0, none⟩) 6 6, .bool false, .bool false, .bool false, .int .i64 0, .int .i64 0, .int .i64 0, .int .i64 0, .slice none 0 0]) (by kernel_rfl) ⟨Y2', X2'⟩ (fun hHeld => ?_)
   refine tk 0 31 (.pointer (some ⟨bv, 0, none⟩)) hHeld rfl (by intro V hS; go_simp) ?_
   try simp only [Act.put, zig, zih, zii]
   refine tk 1 32 (.pointer (some ⟨bv, 0, none⟩)) hHeld rfl (by intro V hS; go_simp) ?_
   try simp only [Act.put, zig, zih, zii]
   refine tk 2 33 (.pointer (some ⟨bv, 0, none⟩)) hHeld rfl (by intro V hS; go_simp) ?_
   try simp only [Act.put, zig, zih, zii]
   refine tk 3 34 (.pointer (some ⟨bm, 2, none⟩)) hHeld rfl (by intro V hS; have q := hS.1.cell 0; simp at q; go_simp) ?_
   try simp only [Act.put, zig, zih, zii]
   refine tk 4 35 (.pointer (some ⟨bm, 2, none⟩)) hHeld rfl (by intro V hS; go_simp) ?_
   try simp only [Act.put, zig, zih, zii]
   refine tk 5 36 (.pointer (some ⟨bm, 2, none⟩)) hHeld rfl (by intro V hS; go_simp) ?_
   try simp only [Act.put, zig, zih, zii]
   refine tk 6 37 (.slice (some ⟨bw, 0, none⟩) nw nw) hHeld rfl (by intro V hS; have q := hS.2.cell 2; simp at q; go_simp) ?_
   try simp only [Act.put, zig, zih, zii]
   refine tk 7 38 (.int .i64 (T : Int)) hHeld rfl (by intro V hS; go_simp) ?_
   try simp only [Act.put, zig, zih, zii]
   refine tk 8 39 (.int .i64 ((T : Int) + 1)) hHeld rfl (by intro V hS; go_simp) ?_
   try simp only [Act.put, zig, zih, zii]
   refine tk 9 40 (.pointer (some ⟨bv, 0, none⟩)) hHeld rfl (by intro V hS; go_simp) ?_
   try simp only [Act.put, zig, zih, zii]
   refine tk 10 41 (.pointer (some ⟨bv, 0, none⟩)) hHeld rfl (by intro V hS; go_simp) ?_
   try simp only [Act.put, zig, zih, zii]
   refine tk 11 42 (.pointer (some ⟨bv, 8, none⟩)) hHeld rfl (by intro V hS; go_simp) ?_
   try simp only [Act.put, zig, zih, zii]
   refine tk 12 43 (.int .i64 0) hHeld rfl (by intro V hS; have q := hS.1.cell 8; simp at q; go_simp) ?_
   try simp only [Act.put, zig, zih, zii]
   refine tk 13 44 (.int .u64 0) hHeld rfl (by intro V hS; go_simp; try rfl) ?_
   try simp only [Act.put, zig, zih, zii]
   refine tk 14 45 (.pointer (some ⟨bw, T + 1, none⟩)) hHeld rfl (by intro V hS; go_simp; try (intro z; omega)) ?_
   try simp only [Act.put, zig, zih, zii]
   have cJ := W2.cell (i := T + 1) (by omega)
   have fJ := W2.frozen (T + 1)
   have cJ' : w2.drew.cell? ⟨bw, T + 1, none⟩ = some _ := cJ
   have fJ' : w2.drew.frozen? ⟨bw, T + 1, none⟩ = false := fJ
   refine wpAnyH_ready (rs := [15]) (by kernel_rfl) (by simp) ?_
   refine AllReadyH.cons (o := { dst := none, op := _, type := _, pos := _, after := _, guard := _ }) rfl (fun K hK => ?_) AllReadyH.nil
   go_simp
   have Y3 := hHeld.1.other hv2 (T + 1) (.int .u64 0)
   have X3 := hHeld.2.other hab (T + 1) (.int .u64 0)
   clear hHeld
   refine hK.out _ _ ⟨Y3, X3⟩ (fun hHeld => ?_)
   clear hK K
   try simp only [Act.put, zig, zih, zii]
   refine wpAnyH_done (by kernel_rfl) ?_ _
   go_wp2_with fail
   go_meet
   refine ⟨X3, Y3, ?_, ?_, ?_⟩
   · have := RwW.set (Rw.drew W2) (i := T + 1) 0 (by omega)
     rw [HZ.out] at this
     exact this
   · exact Rw.other (Rw.drew R2) (p := ⟨bw, T + 1, none⟩) (fun e => hwr e.symm) _
   · exact K2.drew.setCell (p := ⟨bw, T + 1, none⟩) (.inl (by simp)) _
  case rest =>
   obtain ⟨X3, Y3, W3, R3, K3⟩ := hcut
   rename World => w3
   clear X2 Y2 W2 R2 K2
   have KY := Y3.cell
   go_wp2_with fail
   go_loopw [51] (fun u wr => u = .int .i64 0 /\ wr = w3) (fun _ _ => 0)
   case atStart => exact ⟨rfl, rfl⟩
   case round =>
    obtain ⟨rfl, hq⟩ := hrel
    subst hq
    clear KY
    go_upto_region 13 with fail
    have X3' : za wr.drew bm 37 #[.slice a1 L c1, .slice a2 n c2, .slice (some ⟨bw, 0, none⟩) nw nw, .int .i64 smz, .int .i64 0, .int .i64 ((T : Int) + 2 : Int), .bool false, .int .i64 0, .int .i64 0, .int .i64 0, .int .i64 (ser + 1), .slice (some ⟨br, 0, none⟩) 6 6, .bool false, .bool false, .bool false, .int .i64 0, .int .i64 0, .int .i64 0, .int .i64 0, .slice none 0 0] := X3
    have Y3' : za wr.drew bv 105 #[.pointer (some ⟨bm, 2, none⟩), .int .i64 0, .int .i64 0, .int .i64 0, .int .i64 0, .int .i64 1, .int .i64 0, .int .i64 0, .int .i64 0, .slice none 0 0, .string ⟨#[]⟩] := Y3
    refine wp_region_held_drew (S := fun V => za V bv 105 #[.pointer (some ⟨bm, 2, none⟩), .int .i64 0, .int .i64 0, .int .i64 0, .int .i64 0, .int .i64 1, .int .i64 0, .int .i64 0, .int .i64 0, .slice none 0 0, .string ⟨#[]⟩] /\ za V bm 37 #[.slice a1 L c1, .slice a2 n c2, .slice (some ⟨bw, 0, none⟩) nw nw, .int .i64 smz, .int .i64 0, .int .i64 ((T : Int) + 2 : Int), .bool false, .int .i64 0, .int .i64 0, .int .i64 0, .int .i64 (ser + 1), .slice (some ⟨br, 0, none⟩) 6 6, .bool false, .bool false, .bool false, .int .i64 0, .int .i64 0, .int .i64 0, .int .i64 0, .slice none 0 0]) (by kernel_rfl) ⟨Y3', X3'⟩ (fun hHeld => ?_)
    refine tk 0 80 (.pointer (some ⟨bv, 0, none⟩)) hHeld rfl (by intro V hS; go_simp) ?_
    try simp only [Act.put, zig, zih, zii]
    refine tk 1 81 (.pointer (some ⟨bv, 0, none⟩)) hHeld rfl (by intro V hS; go_simp) ?_
    try simp only [Act.put, zig, zih, zii]
    refine tk 2 82 (.pointer (some ⟨bv, 0, none⟩)) hHeld rfl (by intro V hS; go_simp) ?_
    try simp only [Act.put, zig, zih, zii]
    refine tk 3 83 (.pointer (some ⟨bm, 2, none⟩)) hHeld rfl (by intro V hS; have q := hS.1.cell 0; simp at q; go_simp) ?_
    try simp only [Act.put, zig, zih, zii]
    refine tk 4 84 (.pointer (some ⟨bm, 2, none⟩)) hHeld rfl (by intro V hS; go_simp) ?_
    try simp only [Act.put, zig, zih, zii]
    refine tk 5 85 (.pointer (some ⟨bm, 11, none⟩)) hHeld rfl (by intro V hS; go_simp) ?_
    try simp only [Act.put, zig, zih, zii]
    refine tk 6 86 (.slice (some ⟨br, 0, none⟩) 6 6) hHeld rfl (by intro V hS; have q := hS.2.cell 11; simp at q; go_simp) ?_
    try simp only [Act.put, zig, zih, zii]
    refine tk 7 87 (.pointer (some ⟨bv, 0, none⟩)) hHeld rfl (by intro V hS; go_simp) ?_
    try simp only [Act.put, zig, zih, zii]
    refine tk 8 88 (.pointer (some ⟨bv, 0, none⟩)) hHeld rfl (by intro V hS; go_simp) ?_
    try simp only [Act.put, zig, zih, zii]
    refine tk 9 89 (.pointer (some ⟨bv, 5, none⟩)) hHeld rfl (by intro V hS; go_simp) ?_
    try simp only [Act.put, zig, zih, zii]
    refine tk 10 90 (.int .i64 1) hHeld rfl (by intro V hS; have q := hS.1.cell 5; simp at q; go_simp) ?_
    try simp only [Act.put, zig, zih, zii]
    refine tk 11 91 (.int .i64 (T : Int)) hHeld rfl (by intro V hS; go_simp) ?_
    try simp only [Act.put, zig, zih, zii]
    refine tk 12 92 (.agg #[.int .i64 5, .int .i64 (T : Int)]) hHeld rfl (by intro V hS; go_simp) ?_
    try simp only [Act.put, zig, zih, zii]
    refine tk 13 93 (.pointer (some ⟨br, 2, none⟩)) hHeld rfl (by intro V hS; go_simp) ?_
    try simp only [Act.put, zig, zih, zii]
    have c2 := R3.cell (i := 2) (by omega)
    have c3 := R3.cell (i := 3) (by omega)
    have f2 := R3.frozen
    have c2' : wr.drew.cell? ⟨br, 2, none⟩ = some _ := c2
    have c3' : wr.drew.cell? ⟨br, 3, none⟩ = some _ := c3
    have f2' : ∀ i, wr.drew.frozen? ⟨br, i, none⟩ = false := f2
    refine wpAnyH_ready (rs := [14]) (by kernel_rfl) (by simp) ?_
    refine AllReadyH.cons (o := { dst := none, op := _, type := _, pos := _, after := _, guard := _ }) rfl (fun K hK => ?_) AllReadyH.nil
    go_simp
    have Y4 := (hHeld.1.other hv3 2 (.int .i64 5)).other hv3 3 (.int .i64 (T : Int))
    have X4 := (hHeld.2.other har 2 (.int .i64 5)).other har 3 (.int .i64 (T : Int))
    clear hHeld
    refine hK.out _ _ ⟨Y4, X4⟩ (fun hHeld => ?_)
    clear hK K
    try simp only [Act.put, zig, zih, zii]
    refine wpAnyH_done (by kernel_rfl) ?_ _
    have W4 := Rw.other (Rw.other (Rw.drew W3) (p := ⟨br, 2, none⟩) hwr (.int .i64 5)) (p := ⟨br, 3, none⟩) hwr (.int .i64 (T : Int))
    have R4 : RwR _ br 6 (rtF y T) := Rw.congr ((Rw.drew R3).set 2 (.int .i64 5) |>.set 3 (.int .i64 (T : Int))) (fun i hi => by
     unfold rtF
     by_cases h3 : i = 3
     · simp [h3]
     · by_cases h2 : i = 2
       · simp [h2]
       · simp [h2, h3])
    have K4 : Kp [bm, bw, br] w _ := (((Kp.of_below HB1.out).trans (K3.mono (Y := [bm, bw, br]) (fun x hx => by simp at hx ⊢; omega))).drew.setCell (p := ⟨br, 2, none⟩) (.inl (by simp)) (.int .i64 5)).setCell (p := ⟨br, 3, none⟩) (.inl (by simp)) (.int .i64 (T : Int))
    have HE : Hid (_ /\ _ /\ _ /\ _) := ⟨X4, W4, R4, K4⟩
    clear X3 Y3 W3 R3 K3 X3' Y3' c2 c3 f2 c2' c3' f2' Y4 X4 W4 R4 K4
    go_wp2
    go_ret
    exact ⟨rfl, HE.out⟩
end Go.Proofs.YtblcfbhlmdhnpaaGreat
