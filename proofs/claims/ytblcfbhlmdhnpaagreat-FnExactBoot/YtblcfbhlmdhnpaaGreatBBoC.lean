/- - -/
import Derived.Test.YtblcfbhlmdhnpaaGreatBBoB
import Derived.Test.YtblcfbhlmdhnpaaGreatBPutA
namespace Go.Proofs.YtblcfbhlmdhnpaaGreat
set_option maxRecDepth 20000
open Go.RowKit
set_option linter.unusedSimpArgs false
set_option linter.unusedVariables false
theorem zeh (N i : Nat) (w : World) (hN : N <= 1048576) (hi : i <= 1048576) :
 Calls Tryz.prog 91 #[.int .i64 (N : Int), .int .i64 (i : Int)] w fun e w' => e = .returned (.int .i64 ((N + 7 + 2 * i : Nat) : Int)) /\ w' = w := by
 have hN' : (N : Int) <= 1048576 := by omega
 have hi' : (i : Int) <= 1048576 := by omega
 have e : ((N + 7 + 2 * i : Nat) : Int) = (N : Int) + 7 + 2 * (i : Int) := by omega
 rw [e]
 clear e hN hi
 go_enter Tryz.func91, Tryz.ntmps91
 go_wp2
 go_ret
 exact ⟨rfl, rfl⟩
set_option maxHeartbeats 1000000 in
theorem zg5 (bw nw x : Nat) (ws : List Int) (t m : Int) (w : World) (hW : RwW w bw ws) (hl : ws.length = nw) (hx : x + 1 < nw) (hn : nw <= 1048576) (t0 : 0 <= t) (t1 : t <= 1048576) (m0 : 0 <= m) (m1 : m <= 1048576) :
 Calls Tryz.prog 90 #[.slice (some ⟨bw, 0, none⟩) nw nw, .int .i64 (x : Int), .agg #[.int .i64 t, .int .i64 m]] w fun e w' => e = .returned (.tuple #[]) /\ RwW w' bw ((ws.set x t).set (x + 1) m) /\ Kp [bw] w w' := by
 have hwt : IntKind.u64.wrap t = t := by rw [IntKind.wrap_u64]; omega
 have hwm : IntKind.u64.wrap m = m := by rw [IntKind.wrap_u64]; omega
 obtain ⟨M, g, hM, hr, hg⟩ := hW
 refine (zfs bw M nw x nw g t m w hr hx (by omega) hn).mono ?_
 rw [hwt, hwm]
 rintro e w' ⟨rfl, rfl⟩
 have h1 := RwW.set (w := w) (b := bw) (ws := ws) ⟨M, g, hM, hr, hg⟩ (i := x) t (by omega)
 have h2 := RwW.set h1 (i := x + 1) m (by rw [List.length_set]; omega)
 exact ⟨rfl, Rw.below h2 ((Below.refl _ _).alloc (Nat.le_refl _) _), (((Kp.refl [bw] w).setCell (p := ⟨bw, x, none⟩) (.inl (by simp)) _).setCell (p := ⟨bw, x + 1, none⟩) (.inl (by simp)) _).alloc _⟩
def lkT (k : Nat) : Int := if k = 2 then 5 else 2
def lkV (F : Nat) (k : Nat) : Int := if k = 2 then (F : Int) else 0
def coW (ws : List Int) (T F : Nat) : Nat -> List Int
 | 0 => ws
 | k + 1 => ((coW ws T F k).set (T + 7 + 2 * k) (lkT k)).set (T + 7 + 2 * k + 1) (lkV F k)
theorem zb6 (ws : List Int) (T F : Nat) : ∀ k, (coW ws T F k).length = ws.length
 | 0 => rfl
 | k + 1 => by simp [coW, zb6 ws T F k]
set_option maxHeartbeats 4000000 in
theorem zg6 (a1 : Option Addr) (L c1 : Nat) (a2 : Option Addr) (n c2 bw br nw : Nat) (smz : Int) (bm T F : Nat) (ser : Int) (ws : List Int) (y : Nat -> Int) (w : World) (X : za w bm 37 #[.slice a1 L c1, .slice a2 n c2, .slice (some ⟨bw, 0, none⟩) nw nw, .int .i64 smz, .int .i64 0, .int .i64 (T : Int), .bool false, .int .i64 0, .int .i64 0, .int .i64 0, .int .i64 (ser), .slice (some ⟨br, 0, none⟩) 6 6, .bool false, .bool false, .bool false, .int .i64 0, .int .i64 0, .int .i64 0, .int .i64 0, .slice none 0 0]) (hW : RwW w bw ws) (hR : RwR w br 6 y) (hl : ws.length = nw) (hab : bm ≠ bw) (har : bm ≠ br) (hwr : bw ≠ br) (hnw : (nw : Int) = 2 * smz) (s0 : 256 <= smz) (s1 : smz <= 4000) (t1 : 1 <= T) (t2 : 2 * ((T : Int) - 1) <= smz - 1) (hfit : (T : Int) + 127 <= smz) (hok : hOk 6 126 ser = true) (q0 : 0 <= ser) (q1 : ser < 1000000000) (hz : ∀ i, T < i -> i < T + 127 -> zj ws i = 0) (hy2 : y 2 = 5) (hy3 : y 3 = (F : Int)) (hF : F <= 1048576) :
 Calls Tryz.prog 60 #[.pointer (some ⟨bm, 2, none⟩), .int .i64 1] w fun e w' => e = .returned (.tuple #[.int .i64 (T : Int), .nilIface]) /\ za w' bm 37 #[.slice a1 L c1, .slice a2 n c2, .slice (some ⟨bw, 0, none⟩) nw nw, .int .i64 smz, .int .i64 0, .int .i64 ((T : Int) + 127 : Int), .bool false, .int .i64 0, .int .i64 0, .int .i64 0, .int .i64 (ser + 1), .slice (some ⟨br, 0, none⟩) 6 6, .bool false, .bool false, .bool false, .int .i64 0, .int .i64 0, .int .i64 0, .int .i64 0, .slice none 0 0] /\ RwW w' bw (coW (((ws.set T (6 + 126 * 16 + ser * 1048576)).set (T + 2) 3).set (T + 3) 3) T F 3) /\ RwR w' br 6 y /\ Kp [bm, bw] w w' := by
 have HX : Hid (za w bm 37 #[.slice a1 L c1, .slice a2 n c2, .slice (some ⟨bw, 0, none⟩) nw nw, .int .i64 smz, .int .i64 0, .int .i64 (T : Int), .bool false, .int .i64 0, .int .i64 0, .int .i64 0, .int .i64 (ser), .slice (some ⟨br, 0, none⟩) 6 6, .bool false, .bool false, .bool false, .int .i64 0, .int .i64 0, .int .i64 0, .int .i64 0, .slice none 0 0]) := X
 have HW : Hid (RwW w bw ws) := hW
 have HR : Hid (RwR w br 6 y) := hR
 have lm := X.lt
 have lw := hW.lt
 have lr := hR.lt
 have HASK : Hid (Calls Tryz.prog 89 #[.pointer (some ⟨bm, 2, none⟩), .int .i64 6, .int .i64 126] w fun e w' => e = .returned (.tuple #[.int .i64 (T : Int), .nilIface]) /\ za w' bm 37 #[.slice a1 L c1, .slice a2 n c2, .slice (some ⟨bw, 0, none⟩) nw nw, .int .i64 smz, .int .i64 0, .int .i64 ((T : Int) + 127 : Int), .bool false, .int .i64 0, .int .i64 0, .int .i64 0, .int .i64 (ser + 1), .slice (some ⟨br, 0, none⟩) 6 6, .bool false, .bool false, .bool false, .int .i64 0, .int .i64 0, .int .i64 0, .int .i64 0, .slice none 0 0] /\ RwW w' bw (ws.set T (6 + 126 * 16 + ser * 1048576)) /\ Kp [bm, bw] w w') := by
  have := zgk a1 L c1 a2 n c2 bw br nw smz bm T ser 6 126 ws w X hW hl hab hnw s0 s1 (by omega) t1 t2 (by omega) rfl hok q0 q1 (fun i h1 h2 => hz i h1 (by omega))
  rw [show (T : Int) + (((126 : Nat) : Int) + 1) = (T : Int) + 127 by omega] at this
  exact this
 have wr2 : IntKind.i64.wrap ((T : Int) + 2) = (T : Int) + 2 := by rw [IntKind.wrap_i64]; omega
 have wr3 : IntKind.i64.wrap ((T : Int) + 3) = (T : Int) + 3 := by rw [IntKind.wrap_i64]; omega
 have g2 : (T : Int) + 2 < (nw : Int) := by omega
 have g3 : (T : Int) + 3 < (nw : Int) := by omega
 have g4 : ((T : Int) + 2).toNat = T + 2 := by omega
 have g5 : ((T : Int) + 3).toNat = T + 3 := by omega
 have g6 : (0 : Int) <= (T : Int) + 2 := by omega
 have g7 : (0 : Int) <= (T : Int) + 3 := by omega
 have hnw1 : nw <= 1048576 := by omega
 have hTn : T + 127 <= nw := by omega
 clear X hW hR hz
 go_enter Tryz.func60, Tryz.ntmps60
 go_wp2_with fail
 refine HASK.out.mono ?_
 rintro e w2 ⟨rfl, X2, W2, K2⟩
 have R2 : RwR w2 br 6 y := Rw.kp HR.out K2 (by simp; omega)
 clear HASK
 go_upto_region 4 with fail
 go_cut [] from 19 to 32 (fun wc => za wc bm 37 #[.slice a1 L c1, .slice a2 n c2, .slice (some ⟨bw, 0, none⟩) nw nw, .int .i64 smz, .int .i64 0, .int .i64 ((T : Int) + 127 : Int), .bool false, .int .i64 0, .int .i64 0, .int .i64 0, .int .i64 (ser + 1), .slice (some ⟨br, 0, none⟩) 6 6, .bool false, .bool false, .bool false, .int .i64 0, .int .i64 0, .int .i64 0, .int .i64 0, .slice none 0 0] /\ RwW wc bw (((ws.set T (6 + 126 * 16 + ser * 1048576)).set (T + 2) 3).set (T + 3) 3) /\ RwR wc br 6 y /\ Kp [bm, bw] w wc)
 case first =>
  have X2' : za w2.drew bm 37 #[.slice a1 L c1, .slice a2 n c2, .slice (some ⟨bw, 0, none⟩) nw nw, .int .i64 smz, .int .i64 0, .int .i64 ((T : Int) + 127 : Int), .bool false, .int .i64 0, .int .i64 0, .int .i64 0, .int .i64 (ser + 1), .slice (some ⟨br, 0, none⟩) 6 6, .bool false, .bool false, .bool false, .int .i64 0, .int .i64 0, .int .i64 0, .int .i64 0, .slice none 0 0] := X2
  refine wp_region_held_drew (S := fun V => za V bm 37 #[.slice a1 L c1, .slice a2 n c2, .slice (some ⟨bw, 0, none⟩) nw nw, .int .i64 smz, .int .i64 0, .int .i64 ((T : Int) + 127 : Int), .bool false, .int .i64 0, .int .i64 0, .int .i64 0, .int .i64 (ser + 1), .slice (some ⟨br, 0, none⟩) 6 6, .bool false, .bool false, .bool false, .int .i64 0, .int .i64 0, .int .i64 0, .int .i64 0, .slice none 0 0]) (by kernel_rfl) X2' (fun hHeld => ?_)
  obtain ⟨wd, hwd⟩ : ∃ V, V = w2.drew := ⟨_, rfl⟩
  have W2d : RwW wd bw (ws.set T (6 + 126 * 16 + ser * 1048576)) := by rw [hwd]; exact Rw.drew W2
  have R2d : RwR wd br 6 y := by rw [hwd]; exact Rw.drew R2
  have K2d : Kp [bm, bw] w wd := by rw [hwd]; exact K2.drew
  rw [<- hwd] at hHeld ⊢
  clear hwd X2 X2' W2 R2 K2
  refine tk 0 19 (.pointer (some ⟨bm, 2, none⟩)) hHeld rfl (by intro V hS; go_simp) ?_
  try simp only [Act.put, zig, zih, zii]
  refine tk 1 20 (.pointer (some ⟨bm, 2, none⟩)) hHeld rfl (by intro V hS; go_simp) ?_
  try simp only [Act.put, zig, zih, zii]
  refine tk 2 21 (.pointer (some ⟨bm, 2, none⟩)) hHeld rfl (by intro V hS; go_simp) ?_
  try simp only [Act.put, zig, zih, zii]
  refine tk 3 22 (.slice (some ⟨bw, 0, none⟩) nw nw) hHeld rfl (by intro V hS; have q := (show za V _ _ _ from hS).cell 2; simp at q; go_simp) ?_
  try simp only [Act.put, zig, zih, zii]
  refine tk 4 23 (.int .i64 (T : Int)) hHeld rfl (by intro V hS; go_simp) ?_
  try simp only [Act.put, zig, zih, zii]
  refine tk 5 24 (.int .i64 ((T : Int) + 2)) hHeld rfl (by intro V hS; go_simp) ?_
  try simp only [Act.put, zig, zih, zii]
  refine tk 6 25 (.pointer (some ⟨bm, 2, none⟩)) hHeld rfl (by intro V hS; go_simp) ?_
  try simp only [Act.put, zig, zih, zii]
  refine tk 7 26 (.pointer (some ⟨bm, 2, none⟩)) hHeld rfl (by intro V hS; go_simp) ?_
  try simp only [Act.put, zig, zih, zii]
  refine tk 8 27 (.pointer (some ⟨bm, 2, none⟩)) hHeld rfl (by intro V hS; go_simp) ?_
  try simp only [Act.put, zig, zih, zii]
  refine tk 9 28 (.slice (some ⟨bw, 0, none⟩) nw nw) hHeld rfl (by intro V hS; have q := (show za V _ _ _ from hS).cell 2; simp at q; go_simp) ?_
  try simp only [Act.put, zig, zih, zii]
  refine tk 10 29 (.int .i64 (T : Int)) hHeld rfl (by intro V hS; go_simp) ?_
  try simp only [Act.put, zig, zih, zii]
  refine tk 11 30 (.int .i64 ((T : Int) + 3)) hHeld rfl (by intro V hS; go_simp) ?_
  try simp only [Act.put, zig, zih, zii]
  refine tk 12 31 (.pointer (some ⟨bw, T + 2, none⟩)) hHeld rfl (by intro V hS; go_simp; try (intro z; omega)) ?_
  try simp only [Act.put, zig, zih, zii]
  have cA := W2d.cell (i := T + 2) (by rw [List.length_set]; omega)
  have fA := W2d.frozen
  refine wpAnyH_ready (rs := [13]) (by kernel_rfl) (by simp) ?_
  refine AllReadyH.cons (o := { dst := none, op := _, type := _, pos := _, after := _, guard := _ }) rfl (fun K hK => ?_) AllReadyH.nil
  go_simp
  have X3 := za.other hHeld hab (T + 2) (.int .u64 3)
  have W3 := RwW.set W2d (i := T + 2) 3 (by rw [List.length_set]; omega)
  have R3 : RwR (wd.setCell ⟨bw, T + 2, none⟩ (.int .u64 3)) br 6 y := Rw.other R2d (p := ⟨bw, T + 2, none⟩) (fun e => hwr e.symm) _
  have K3 := K2d.setCell (p := ⟨bw, T + 2, none⟩) (.inl (by simp)) (.int .u64 3)
  clear hHeld
  refine hK.out _ _ X3 (fun hHeld => ?_)
  clear hK K cA fA
  try simp only [Act.put, zig, zih, zii]
  obtain ⟨w3, hw3⟩ : ∃ V, V = wd.setCell ⟨bw, T + 2, none⟩ (.int .u64 3) := ⟨_, rfl⟩
  rw [<- hw3] at X3 W3 R3 K3 hHeld ⊢
  clear hw3 W2d R2d K2d
  refine tk 14 32 (.pointer (some ⟨bw, T + 3, none⟩)) hHeld rfl (by intro V hS; go_simp; try (intro z; omega)) ?_
  try simp only [Act.put, zig, zih, zii]
  have cA := W3.cell (i := T + 3) (by rw [List.length_set, List.length_set]; omega)
  have fA := W3.frozen
  refine wpAnyH_ready (rs := [15]) (by kernel_rfl) (by simp) ?_
  refine AllReadyH.cons (o := { dst := none, op := _, type := _, pos := _, after := _, guard := _ }) rfl (fun K hK => ?_) AllReadyH.nil
  go_simp
  have X4 := za.other hHeld hab (T + 3) (.int .u64 3)
  clear hHeld
  refine hK.out _ _ X4 (fun hHeld => ?_)
  clear hK K
  try simp only [Act.put, zig, zih, zii]
  refine wpAnyH_done (by kernel_rfl) ?_ _
  go_wp2_with fail
  go_meet
  exact ⟨X4, RwW.set W3 (i := T + 3) 3 (by rw [List.length_set, List.length_set]; omega), Rw.other R3 (p := ⟨bw, T + 3, none⟩) (fun e => hwr e.symm) _, K3.setCell (p := ⟨bw, T + 3, none⟩) (.inl (by simp)) _⟩
 case rest =>
  obtain ⟨X3, W3, R3, K3⟩ := hcut
  rename World => w3
  clear X2 W2 R2 K2
  have HX3 : Hid (za w3 bm 37 #[.slice a1 L c1, .slice a2 n c2, .slice (some ⟨bw, 0, none⟩) nw nw, .int .i64 smz, .int .i64 0, .int .i64 ((T : Int) + 127 : Int), .bool false, .int .i64 0, .int .i64 0, .int .i64 0, .int .i64 (ser + 1), .slice (some ⟨br, 0, none⟩) 6 6, .bool false, .bool false, .bool false, .int .i64 0, .int .i64 0, .int .i64 0, .int .i64 0, .slice none 0 0]) := X3
  have HW3 : Hid (RwW w3 bw (((ws.set T (6 + 126 * 16 + ser * 1048576)).set (T + 2) 3).set (T + 3) 3)) := W3
  have HR3 : Hid (RwR w3 br 6 y) := R3
  have HK3 : Hid (Kp [bm, bw] w w3) := K3
  have lm3 := X3.lt
  have lw3 := W3.lt
  have lr3 := R3.lt
  clear X3 W3 R3 K3
  go_upto_region 6 with fail
  obtain ⟨w4, hw4⟩ : ∃ V, V = w3.alloc (.cells #[.int .i64 2, .int .i64 0] 35) := ⟨_, rfl⟩
  have b4 : Below w3.heap.size w3 w4 := by rw [hw4]; exact (Below.refl _ _).alloc (Nat.le_refl _) _
  have XL : za w4 w3.heap.size 35 #[.int .i64 2, .int .i64 0] := by rw [hw4]; exact za.new _ _ _
  rw [<- hw4]
  clear hw4
  have X4 := HX3.out.below b4 lm3
  have R4 : RwR w4 br 6 y := Rw.below HR3.out b4
  have r2 : w4.cell? ⟨br, 2, none⟩ = some (.int .i64 5) := by rw [<- hy2]; exact R4.cell (i := 2) (by omega)
  have r3 : w4.cell? ⟨br, 3, none⟩ = some (.int .i64 (F : Int)) := by rw [<- hy3]; exact R4.cell (i := 3) (by omega)
  have X4' : za w4.drew bm 37 #[.slice a1 L c1, .slice a2 n c2, .slice (some ⟨bw, 0, none⟩) nw nw, .int .i64 smz, .int .i64 0, .int .i64 ((T : Int) + 127 : Int), .bool false, .int .i64 0, .int .i64 0, .int .i64 0, .int .i64 (ser + 1), .slice (some ⟨br, 0, none⟩) 6 6, .bool false, .bool false, .bool false, .int .i64 0, .int .i64 0, .int .i64 0, .int .i64 0, .slice none 0 0] := X4
  have XL' : za w4.drew w3.heap.size 35 #[.int .i64 2, .int .i64 0] := XL
  have bd : Below w3.heap.size w3 w4.drew := b4.drew
  refine wp_region_held_drew (S := fun V => za V bm 37 #[.slice a1 L c1, .slice a2 n c2, .slice (some ⟨bw, 0, none⟩) nw nw, .int .i64 smz, .int .i64 0, .int .i64 ((T : Int) + 127 : Int), .bool false, .int .i64 0, .int .i64 0, .int .i64 0, .int .i64 (ser + 1), .slice (some ⟨br, 0, none⟩) 6 6, .bool false, .bool false, .bool false, .int .i64 0, .int .i64 0, .int .i64 0, .int .i64 0, .slice none 0 0] /\ za V w3.heap.size 35 #[.int .i64 2, .int .i64 0] /\ V.cell? ⟨br, 2, none⟩ = some (.int .i64 5) /\ V.cell? ⟨br, 3, none⟩ = some (.int .i64 (F : Int))) (by kernel_rfl) ⟨X4', XL', r2, r3⟩ (fun hHeld => ?_)
  obtain ⟨wd, hwd⟩ : ∃ V, V = w4.drew := ⟨_, rfl⟩
  rw [<- hwd] at hHeld bd ⊢
  clear hwd X4 X4' XL XL' r2 r3 R4 b4
  refine tk 0 34 (.agg #[.int .i64 2, .int .i64 0]) hHeld rfl (by intro V hS; have q0 := hS.2.1.cell 0; have q1 := hS.2.1.cell 1; simp at q0 q1; go_simp) ?_
  try simp only [Act.put, zig, zih, zii]
  refine tk 1 35 (.agg #[.int .i64 2, .int .i64 0]) hHeld rfl (by intro V hS; have q0 := hS.2.1.cell 0; have q1 := hS.2.1.cell 1; simp at q0 q1; go_simp) ?_
  try simp only [Act.put, zig, zih, zii]
  refine tk 2 36 (.pointer (some ⟨bm, 2, none⟩)) hHeld rfl (by intro V hS; go_simp) ?_
  try simp only [Act.put, zig, zih, zii]
  refine tk 3 37 (.pointer (some ⟨bm, 2, none⟩)) hHeld rfl (by intro V hS; go_simp) ?_
  try simp only [Act.put, zig, zih, zii]
  refine tk 4 38 (.pointer (some ⟨bm, 11, none⟩)) hHeld rfl (by intro V hS; go_simp) ?_
  try simp only [Act.put, zig, zih, zii]
  refine tk 5 39 (.slice (some ⟨br, 0, none⟩) 6 6) hHeld rfl (by intro V hS; have q := hS.1.cell 11; simp at q; go_simp) ?_
  try simp only [Act.put, zig, zih, zii]
  refine tk 6 40 (.int .i64 1) hHeld rfl (by intro V hS; go_simp) ?_
  try simp only [Act.put, zig, zih, zii]
  refine tk 7 41 (.pointer (some ⟨br, 2, none⟩)) hHeld rfl (by intro V hS; go_simp) ?_
  try simp only [Act.put, zig, zih, zii]
  refine tk 8 42 (.agg #[.int .i64 5, .int .i64 (F : Int)]) hHeld rfl (by intro V hS; have q0 := hS.2.2.1; have q1 := hS.2.2.2; go_simp) ?_
  try simp only [Act.put, zig, zih, zii]
  refine tk 11 45 (.int .i64 0) hHeld rfl (by intro V hS; go_simp) ?_
  try simp only [Act.put, zig, zih, zii]
  refine wpAnyH_ready (rs := [9]) (by kernel_rfl) (by simp) ?_
  refine AllReadyH.cons (o := { dst := some 43, op := _, type := _, pos := _, after := _, guard := _ }) rfl (fun K hK => ?_) AllReadyH.nil
  go_simp
  obtain ⟨w5, hw5⟩ : ∃ V, V = wd.alloc (.cells #[.int .i64 2, .int .i64 0, .int .i64 2, .int .i64 0, .int .i64 5, .int .i64 (F : Int)] 35) := ⟨_, rfl⟩
  rw [<- hw5]
  have b5 : Below wd.heap.size wd w5 := by rw [hw5]; exact (Below.refl _ _).alloc (Nat.le_refl _) _
  have XS : za w5 wd.heap.size 35 #[.int .i64 2, .int .i64 0, .int .i64 2, .int .i64 0, .int .i64 5, .int .i64 (F : Int)] := by rw [hw5]; exact za.new _ _ _
  clear hw5
  have lr5 : br < wd.heap.size := Nat.lt_of_lt_of_le lr3 bd.size
  have X5 := za.below hHeld.1 b5 (za.lt hHeld.1)
  have S5 := And.intro X5 (And.intro (za.below hHeld.2.1 b5 (za.lt hHeld.2.1)) (And.intro ((b5.cell (p := ⟨br, 2, none⟩) lr5).trans hHeld.2.2.1) ((b5.cell (p := ⟨br, 3, none⟩) lr5).trans hHeld.2.2.2)))
  clear hHeld
  refine hK.out _ _ S5 (fun hHeld => ?_)
  clear hK K S5
  try simp only [Act.put, zig, zih, zii]
  refine tk 10 44 (.int .i64 3) hHeld rfl (by intro V hS; go_simp) ?_
  try simp only [Act.put, zig, zih, zii]
  refine wpAnyH_done (by kernel_rfl) ?_ _
  have B5 : Below w3.heap.size w3 w5 := zb bd b5
  have W5 : RwW w5 bw (((ws.set T (6 + 126 * 16 + ser * 1048576)).set (T + 2) 3).set (T + 3) 3) := Rw.below HW3.out B5
  have HX5 : Hid (za w5 bm 37 #[.slice a1 L c1, .slice a2 n c2, .slice (some ⟨bw, 0, none⟩) nw nw, .int .i64 smz, .int .i64 0, .int .i64 ((T : Int) + 127 : Int), .bool false, .int .i64 0, .int .i64 0, .int .i64 0, .int .i64 (ser + 1), .slice (some ⟨br, 0, none⟩) 6 6, .bool false, .bool false, .bool false, .int .i64 0, .int .i64 0, .int .i64 0, .int .i64 0, .slice none 0 0]) := X5
  have HS5 : Hid (za w5 wd.heap.size 35 #[.int .i64 2, .int .i64 0, .int .i64 2, .int .i64 0, .int .i64 5, .int .i64 (F : Int)]) := XS
  have HR5 : Hid (RwR w5 br 6 y) := Rw.below HR3.out B5
  have HK5 : Hid (Kp [bm, bw] w w5) := HK3.out.next B5
  have HW5 : Hid (RwW w5 bw (((ws.set T (6 + 126 * 16 + ser * 1048576)).set (T + 2) 3).set (T + 3) 3)) := W5
  have lm5 := X5.lt
  have ls5 := XS.lt
  have lr5' := HR5.out.lt
  have nb : bw ≠ wd.heap.size := by have := bd.size; omega
  clear X5 XS W5 b5 bd lr5 B5
  go_wp2_with fail
  go_loopw [45] (fun u wr => ∃ k : Nat, k <= 3 /\ u = .int .i64 k /\ RwW wr bw (coW (((ws.set T (6 + 126 * 16 + ser * 1048576)).set (T + 2) 3).set (T + 3) 3) T F k) /\ Kp [bw] w5 wr) (fun u _ => 3 - (intOf u).toNat)
  case atStart => exact ⟨0, by omega, rfl, HW5.out, Kp.refl _ _⟩
  case round =>
   obtain ⟨k, hk, rfl, hWr, hKr⟩ := hrel
   have HWR : Hid (RwW wr bw (coW (((ws.set T (6 + 126 * 16 + ser * 1048576)).set (T + 2) 3).set (T + 3) 3) T F k)) := hWr
   have HKR : Hid (Kp [bw] w5 wr) := hKr
   have XR : za wr bm 37 #[.slice a1 L c1, .slice a2 n c2, .slice (some ⟨bw, 0, none⟩) nw nw, .int .i64 smz, .int .i64 0, .int .i64 ((T : Int) + 127 : Int), .bool false, .int .i64 0, .int .i64 0, .int .i64 0, .int .i64 (ser + 1), .slice (some ⟨br, 0, none⟩) 6 6, .bool false, .bool false, .bool false, .int .i64 0, .int .i64 0, .int .i64 0, .int .i64 0, .slice none 0 0] := (hKr.block _ lm5 (by simp; omega)).trans HX5.out
   have SR : za wr wd.heap.size 35 #[.int .i64 2, .int .i64 0, .int .i64 2, .int .i64 0, .int .i64 5, .int .i64 (F : Int)] := (hKr.block _ ls5 (by simp; omega)).trans HS5.out
   clear hWr hKr
   by_cases h3 : k = 3
   · subst h3
     have HE : Hid (_ /\ _ /\ _ /\ _) := ⟨XR, HWR.out, (Rw.kp HR5.out HKR.out (by simp; omega) : RwR wr br 6 y), HK5.out.trans (HKR.out.mono (Y := [bm, bw]) (fun x hx => by simp at hx ⊢; omega))⟩
     clear XR SR HWR HKR
     go_wp2
     go_ret2
     exact ⟨rfl, HE.out⟩
   have HSTEP : Hid (∀ W : World, RwW W bw (coW (((ws.set T (6 + 126 * 16 + ser * 1048576)).set (T + 2) 3).set (T + 3) 3) T F k) -> Calls Tryz.prog 90 #[.slice (some ⟨bw, 0, none⟩) nw nw, .int .i64 ((T + 7 + 2 * k : Nat) : Int), .agg #[.int .i64 (lkT k), .int .i64 (lkV F k)]] W fun e w' => e = .returned (.tuple #[]) /\ RwW w' bw (coW (((ws.set T (6 + 126 * 16 + ser * 1048576)).set (T + 2) 3).set (T + 3) 3) T F (k + 1)) /\ Kp [bw] W w') := fun W hV =>
    zg5 bw nw (T + 7 + 2 * k) _ (lkT k) (lkV F k) W hV (by rw [zb6]; simp [hl]) (by omega) hnw1 (by unfold lkT; split <;> omega) (by unfold lkT; split <;> omega) (by unfold lkV; split <;> omega) (by unfold lkV; split <;> omega)
   have hk3 : k = 0 \/ k = 1 \/ k = 2 := by omega
   have s0' := SR.cell 0
   have s1' := SR.cell 1
   have s2' := SR.cell 2
   have s3' := SR.cell 3
   have s4' := SR.cell 4
   have s5' := SR.cell 5
   simp at s0' s1' s2' s3' s4' s5'
   have lsr := SR.lt
   clear SR
   obtain ⟨tt, vv, ht, hv, ca, cb⟩ : ∃ tt vv : Int, lkT k = tt /\ lkV F k = vv /\ wr.cell? ⟨wd.heap.size, k * 2, none⟩ = some (.int .i64 tt) /\ wr.cell? ⟨wd.heap.size, k * 2 + 1, none⟩ = some (.int .i64 vv) := by
    rcases hk3 with rfl | rfl | rfl
    · exact ⟨_, _, rfl, rfl, s0', s1'⟩
    · exact ⟨_, _, rfl, rfl, s2', s3'⟩
    · exact ⟨_, _, rfl, rfl, s4', s5'⟩
   rw [ht, hv] at HSTEP
   have hkl : (k : Int) < 3 := by omega
   have wrk : IntKind.i64.wrap ((k : Int) + 1) = (k : Int) + 1 := by rw [IntKind.wrap_i64]; omega
   clear s0' s1' s2' s3' s4' s5' ht hv
   go_upto_region 9 with fail
   obtain ⟨w6, hw6⟩ : ∃ V, V = wr.alloc (.cells #[.int .i64 tt, .int .i64 vv] 35) := ⟨_, rfl⟩
   have b6 : Below wr.heap.size wr w6 := by rw [hw6]; exact (Below.refl _ _).alloc (Nat.le_refl _) _
   have XV : za w6 wr.heap.size 35 #[.int .i64 tt, .int .i64 vv] := by rw [hw6]; exact za.new _ _ _
   rw [<- hw6]
   clear hw6 ca cb
   have X6 := XR.below b6 XR.lt
   have X6' : za w6.drew bm 37 #[.slice a1 L c1, .slice a2 n c2, .slice (some ⟨bw, 0, none⟩) nw nw, .int .i64 smz, .int .i64 0, .int .i64 ((T : Int) + 127 : Int), .bool false, .int .i64 0, .int .i64 0, .int .i64 0, .int .i64 (ser + 1), .slice (some ⟨br, 0, none⟩) 6 6, .bool false, .bool false, .bool false, .int .i64 0, .int .i64 0, .int .i64 0, .int .i64 0, .slice none 0 0] := X6
   have XV' : za w6.drew wr.heap.size 35 #[.int .i64 tt, .int .i64 vv] := XV
   have W6 : RwW w6.drew bw (coW (((ws.set T (6 + 126 * 16 + ser * 1048576)).set (T + 2) 3).set (T + 3) 3) T F k) := Rw.below HWR.out b6.drew
   have K6 : Kp [bw] w5 w6.drew := HKR.out.next b6.drew
   have nv : wr.heap.size ≠ bw := by have := HWR.out.lt; omega
   refine wp_region_held_drew (S := fun V => za V bm 37 #[.slice a1 L c1, .slice a2 n c2, .slice (some ⟨bw, 0, none⟩) nw nw, .int .i64 smz, .int .i64 0, .int .i64 ((T : Int) + 127 : Int), .bool false, .int .i64 0, .int .i64 0, .int .i64 0, .int .i64 (ser + 1), .slice (some ⟨br, 0, none⟩) 6 6, .bool false, .bool false, .bool false, .int .i64 0, .int .i64 0, .int .i64 0, .int .i64 0, .slice none 0 0] /\ za V wr.heap.size 35 #[.int .i64 tt, .int .i64 vv]) (by kernel_rfl) ⟨X6', XV'⟩ (fun hHeld => ?_)
   obtain ⟨wf, hwf⟩ : ∃ V, V = w6.drew := ⟨_, rfl⟩
   rw [<- hwf] at hHeld W6 K6 ⊢
   clear hwf X6 X6' XV XV' b6 XR
   refine tk 0 50 (.pointer (some ⟨bm, 2, none⟩)) hHeld rfl (by intro V hS; go_simp) ?_
   try simp only [Act.put, zig, zih, zii]
   refine tk 1 51 (.pointer (some ⟨bm, 2, none⟩)) hHeld rfl (by intro V hS; go_simp) ?_
   try simp only [Act.put, zig, zih, zii]
   refine tk 2 52 (.pointer (some ⟨bm, 2, none⟩)) hHeld rfl (by intro V hS; go_simp) ?_
   try simp only [Act.put, zig, zih, zii]
   refine tk 3 53 (.slice (some ⟨bw, 0, none⟩) nw nw) hHeld rfl (by intro V hS; have q := hS.1.cell 2; simp at q; go_simp) ?_
   try simp only [Act.put, zig, zih, zii]
   refine tk 4 54 (.int .i64 (T : Int)) hHeld rfl (by intro V hS; go_simp) ?_
   try simp only [Act.put, zig, zih, zii]
   refine tk 5 55 (.int .i64 (k : Int)) hHeld rfl (by intro V hS; go_simp) ?_
   try simp only [Act.put, zig, zih, zii]
   refine tk 7 57 (.agg #[.int .i64 tt, .int .i64 vv]) hHeld rfl (by intro V hS; have q0 := hS.2.cell 0; have q1 := hS.2.cell 1; simp at q0 q1; go_simp) ?_
   try simp only [Act.put, zig, zih, zii]
   refine wpAnyH_ready (rs := [6]) (by kernel_rfl) (by simp) ?_
   refine AllReadyH.cons (o := { dst := some 56, op := _, type := _, pos := _, after := _, guard := _ }) rfl (fun K hK => ?_) AllReadyH.nil
   go_simp
   go_at_call 91
   refine (zeh T k wf (by omega) (by omega)).mono ?_
   rintro e wx ⟨rfl, hwx⟩
   rw [hwx]
   clear hwx
   refine hK.out _ _ hHeld (fun hHeld => ?_)
   clear hK K
   try simp only [Act.put, zig, zih, zii]
   refine wpAnyH_ready (rs := [8]) (by kernel_rfl) (by simp) ?_
   refine AllReadyH.cons (o := { dst := some 58, op := _, type := _, pos := _, after := _, guard := _ }) rfl (fun K hK => ?_) AllReadyH.nil
   go_simp
   go_at_call 90
   refine (HSTEP.out wf W6).mono ?_
   rintro e w7 ⟨rfl, W7, K7⟩
   have X7 := (K7.block _ (za.lt hHeld.1) (by simp; omega)).trans hHeld.1
   have V7 := (K7.block _ (za.lt hHeld.2) (by simp; omega)).trans hHeld.2
   have HN : Hid (_ /\ _) := ⟨W7, K6.trans K7⟩
   clear hHeld W7 K7 W6 K6
   refine hK.out _ _ ⟨X7, V7⟩ (fun hHeld => ?_)
   clear hK K X7 V7 hHeld
   try simp only [Act.put, zig, zih, zii]
   refine wpAnyH_done (by kernel_rfl) ?_ _
   go_wp2
   go_roundw
   case rel => exact ⟨k + 1, by omega, by go_num, HN.out.1, HN.out.2⟩
   case measure => simp [intOf]; omega
end Go.Proofs.YtblcfbhlmdhnpaaGreat
