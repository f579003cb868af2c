/- - -/
import Derived.Test.YtblcfbhlmdhnpaaGreatBBoC
namespace Go.Proofs.YtblcfbhlmdhnpaaGreat
set_option maxRecDepth 20000
open Go.RowKit
set_option linter.unusedSimpArgs false
set_option linter.unusedVariables false
def btR : Nat -> Int := fun i => if i = 0 then 6 else if i = 1 then 3 else 0
theorem zg2 {nw : Nat} (h : 130 <= nw) (slots : Int) : ((coW (((((zrW nw).set 1 1048596).set 3 2099174).set (3 + 2) 3).set (3 + 3) 3) 3 1 3).set 4 2).set 5 (3 + slots) = btW nw slots := by
 refine zf7 (by simp [zb6, zz]) (fun i hi => ?_)
 have l := zz nw
 simp only [coW]
 rw [zr (by simp [l]; omega), zr (by simp [l]; omega), zr (by simp [l]; omega), zr (by simp [l]; omega), zr (by simp [l]; omega), zr (by simp [l]; omega), zr (by simp [l]; omega), zr (by simp [l]; omega), zr (by simp [l]; omega), zr (by simp [l]; omega), zr (by simp [l]; omega), zr (by simp [l]; omega), zaw]
 unfold btF lkT lkV
 by_cases h5 : i = 5
 · subst h5; simp
 by_cases h4 : i = 4
 · subst h4; simp
 by_cases h15 : i = 15
 · subst h15; simp
 by_cases h14 : i = 14
 · subst h14; simp
 by_cases h13 : i = 13
 · subst h13; simp
 by_cases h12 : i = 12
 · subst h12; simp
 by_cases h11 : i = 11
 · subst h11; simp
 by_cases h10 : i = 10
 · subst h10; simp
 by_cases h6 : i = 6
 · subst h6; simp
 by_cases h3 : i = 3
 · subst h3; simp
 by_cases h1 : i = 1
 · subst h1; simp
 simp [h1, h3, h4, h5, h6, h10, h11, h12, h13, h14, h15]
theorem zg3 {nw : Nat} (h : 130 <= nw) : zj ((coW (((((zrW nw).set 1 1048596).set 3 2099174).set (3 + 2) 3).set (3 + 3) 3) 3 1 3).set 4 2) 5 = 3 := by
 have l := zz nw
 simp only [coW]
 rw [zr (by simp [l]; omega), zr (by simp [l]; omega), zr (by simp [l]; omega), zr (by simp [l]; omega), zr (by simp [l]; omega), zr (by simp [l]; omega), zr (by simp [l]; omega), zr (by simp [l]; omega), zr (by simp [l]; omega)]
 simp
set_option maxHeartbeats 4000000 in
theorem zg4 (bp L c1 : Nat) (a2 : Option Addr) (n c2 bw br nw : Nat) (smz : Int) (bm : Nat) (slots : Int) (w : World) (X : za w bm 37 #[.slice (some ⟨bp, 0, none⟩) L c1, .slice a2 n c2, .slice (some ⟨bw, 0, none⟩) nw nw, .int .i64 smz, .int .i64 0, .int .i64 (1 : Int), .bool false, .int .i64 0, .int .i64 0, .int .i64 0, .int .i64 (1), .slice (some ⟨br, 0, none⟩) 6 6, .bool false, .bool false, .bool false, .int .i64 0, .int .i64 0, .int .i64 0, .int .i64 0, .slice none 0 0]) (hW : RwW w bw (zrW nw)) (hR : RwR w br 6 (fun _ => 0)) (hL : 0 < L) (hp : w.cell? ⟨bp, 1, none⟩ = some (.int .i64 slots)) (lp : bp < w.heap.size) (hab : bm ≠ bw) (har : bm ≠ br) (hwr : bw ≠ br) (hp1 : bp ≠ bm) (hp2 : bp ≠ bw) (hp3 : bp ≠ br) (hnw : (nw : Int) = 2 * smz) (s0 : 256 <= smz) (s1 : smz <= 4000) (sl0 : 0 <= slots) (sl1 : slots <= 1000) :
 Calls Tryz.prog 27 #[.pointer (some ⟨bm, 0, none⟩)] w fun e w' => e = .returned .nilIface /\ za w' bm 37 #[.slice (some ⟨bp, 0, none⟩) L c1, .slice a2 n c2, .slice (some ⟨bw, 0, none⟩) nw nw, .int .i64 smz, .int .i64 0, .int .i64 (130 : Int), .bool false, .int .i64 0, .int .i64 0, .int .i64 0, .int .i64 (3), .slice (some ⟨br, 0, none⟩) 6 6, .bool false, .bool false, .bool false, .int .i64 0, .int .i64 0, .int .i64 0, .int .i64 0, .slice none 0 0] /\ RwW w' bw (btW nw slots) /\ RwR w' br 6 btR /\ Kp [bm, bw, br] w w' := by
 have HX : Hid (za w bm 37 #[.slice (some ⟨bp, 0, none⟩) L c1, .slice a2 n c2, .slice (some ⟨bw, 0, none⟩) nw nw, .int .i64 smz, .int .i64 0, .int .i64 (1 : Int), .bool false, .int .i64 0, .int .i64 0, .int .i64 0, .int .i64 (1), .slice (some ⟨br, 0, none⟩) 6 6, .bool false, .bool false, .bool false, .int .i64 0, .int .i64 0, .int .i64 0, .int .i64 0, .slice none 0 0]) := X
 have HW : Hid (RwW w bw (zrW nw)) := hW
 have HR : Hid (RwR w br 6 (fun _ => 0)) := hR
 have lm := X.lt
 have lw := hW.lt
 have lr := hR.lt
 have l0 := zz nw
 clear X hW hR
 go_enter Tryz.func27, Tryz.ntmps27
 go_wp2_with fail
 obtain ⟨w1, hw1⟩ : ∃ V, V = w.alloc (.cells #[.pointer (some ⟨bm, 2, none⟩), .int .i64 0, .int .i64 0, .int .i64 0, .int .i64 0, .int .i64 1, .int .i64 0, .int .i64 0, .int .i64 0, .slice none 0 0, .string ⟨#[]⟩] 105) := ⟨_, rfl⟩
 have b1 : Below w.heap.size w w1 := by rw [hw1]; exact (Below.refl _ _).alloc (Nat.le_refl _) _
 have Y1 : za w1 w.heap.size 105 #[.pointer (some ⟨bm, 2, none⟩), .int .i64 0, .int .i64 0, .int .i64 0, .int .i64 0, .int .i64 1, .int .i64 0, .int .i64 0, .int .i64 0, .slice none 0 0, .string ⟨#[]⟩] := by rw [hw1]; exact za.new _ _ _
 rw [<- hw1]
 clear hw1
 have hl3 : ((zrW nw).set 1 1048596).length = nw := by rw [List.length_set, l0]
 refine (zgj (some ⟨bp, 0, none⟩) L c1 a2 n c2 bw br nw smz bm w.heap.size 1 1 (zrW nw) (fun _ => 0) w1 (HX.out.below b1 lm) Y1 (Rw.below HW.out b1) (Rw.below HR.out b1) l0 hab har hwr (by omega) (by omega) (by omega) hnw s0 s1 (by omega) (by omega) (by omega) (by decide) (by omega) (by omega) (zaw _ _)).mono ?_
 rintro e w2 ⟨rfl, X2, W2, R2, K2⟩
 clear Y1
 have X2' : za w2 bm 37 #[.slice (some ⟨bp, 0, none⟩) L c1, .slice a2 n c2, .slice (some ⟨bw, 0, none⟩) nw nw, .int .i64 smz, .int .i64 0, .int .i64 (3 : Int), .bool false, .int .i64 0, .int .i64 0, .int .i64 0, .int .i64 (2), .slice (some ⟨br, 0, none⟩) 6 6, .bool false, .bool false, .bool false, .int .i64 0, .int .i64 0, .int .i64 0, .int .i64 0, .slice none 0 0] := X2
 have W2' : RwW w2 bw ((zrW nw).set 1 1048596) := W2
 have K02 : Kp [bm, bw, br] w w2 := (Kp.of_below b1).trans K2
 clear X2 W2 K2 b1
 have HCO : Hid (Calls Tryz.prog 60 #[.pointer (some ⟨bm, 2, none⟩), .int .i64 1] w2 fun e w' => e = .returned (.tuple #[.int .i64 3, .nilIface]) /\ za w' bm 37 #[.slice (some ⟨bp, 0, none⟩) L c1, .slice a2 n c2, .slice (some ⟨bw, 0, none⟩) nw nw, .int .i64 smz, .int .i64 0, .int .i64 (130 : Int), .bool false, .int .i64 0, .int .i64 0, .int .i64 0, .int .i64 (3), .slice (some ⟨br, 0, none⟩) 6 6, .bool false, .bool false, .bool false, .int .i64 0, .int .i64 0, .int .i64 0, .int .i64 0, .slice none 0 0] /\ RwW w' bw (coW (((((zrW nw).set 1 1048596).set 3 2099174).set (3 + 2) 3).set (3 + 3) 3) 3 1 3) /\ RwR w' br 6 (rtF (fun _ => 0) 1) /\ Kp [bm, bw] w2 w') :=
  zg6 (some ⟨bp, 0, none⟩) L c1 a2 n c2 bw br nw smz bm 3 1 2 ((zrW nw).set 1 1048596) (rtF (fun _ => 0) 1) w2 X2' W2' R2 hl3 hab har hwr hnw s0 s1 (by omega) (by omega) (by omega) (by decide) (by omega) (by omega) (fun i h1 h2 => by rw [zr (by omega), if_neg (by omega), zaw]) rfl rfl (by omega)
 go_wp2_with fail
 refine HCO.out.mono ?_
 rintro e w3 ⟨rfl, X3, W3, R3, K3⟩
 have K03 : Kp [bm, bw, br] w w3 := K02.trans (K3.mono (Y := [bm, bw, br]) (fun x hx => by simp at hx ⊢; omega))
 have hp' : w3.cell? ⟨bp, 1, none⟩ = some (.int .i64 slots) := (K03.cell (p := ⟨bp, 1, none⟩) lp (by simp; omega)).trans hp
 clear X2' W2' R2 K02 K3 HCO hp HW HR
 have lw4 : (coW (((((zrW nw).set 1 1048596).set 3 2099174).set (3 + 2) 3).set (3 + 3) 3) 3 1 3).length = nw := by simp [zb6, l0]
 have c4 := W3.cell (i := 4) (by omega)
 have c2' : w3.cell? ⟨bm, 2, none⟩ = some (.slice (some ⟨bw, 0, none⟩) nw nw) := X3.cell 2
 have f4 := W3.frozen 4
 have g4 : (4 : Int) < (nw : Int) := by omega
 go_upto_region 9 with fail
 obtain ⟨w4, hw4⟩ : ∃ V, V = w3.setCell ⟨bw, 4, none⟩ (.int .u64 2) := ⟨_, rfl⟩
 rw [<- hw4]
 have X4 : za w4 bm 37 #[.slice (some ⟨bp, 0, none⟩) L c1, .slice a2 n c2, .slice (some ⟨bw, 0, none⟩) nw nw, .int .i64 smz, .int .i64 0, .int .i64 (130 : Int), .bool false, .int .i64 0, .int .i64 0, .int .i64 0, .int .i64 (3), .slice (some ⟨br, 0, none⟩) 6 6, .bool false, .bool false, .bool false, .int .i64 0, .int .i64 0, .int .i64 0, .int .i64 0, .slice none 0 0] := by rw [hw4]; exact X3.other hab 4 _
 have W4 : RwW w4 bw ((coW (((((zrW nw).set 1 1048596).set 3 2099174).set (3 + 2) 3).set (3 + 3) 3) 3 1 3).set 4 2) := by rw [hw4]; exact RwW.set W3 2 (by omega)
 have R4 : RwR w4 br 6 (rtF (fun _ => 0) 1) := by rw [hw4]; exact Rw.other R3 (p := ⟨bw, 4, none⟩) (fun e => hwr e.symm) _
 have K4 : Kp [bm, bw, br] w w4 := by rw [hw4]; exact K03.setCell (p := ⟨bw, 4, none⟩) (.inl (by simp)) _
 have hp4 : w4.cell? ⟨bp, 1, none⟩ = some (.int .i64 slots) := (K4.cell (p := ⟨bp, 1, none⟩) lp (by simp; omega)).trans (by have := (K03.cell (p := ⟨bp, 1, none⟩) lp (by simp; omega)); rw [<- this]; exact hp')
 clear hw4 X3 W3 R3 K03 hp' c4 c2' f4
 have w5e := zg3 (nw := nw) (by omega)
 have hL' : (0 : Int) < (L : Int) := by omega
 have hu : IntKind.u64.wrap slots = slots := by rw [IntKind.wrap_u64]; omega
 have hu3 : IntKind.u64.wrap (3 + slots) = 3 + slots := by rw [IntKind.wrap_u64]; omega
 have g5 : (5 : Int) < (nw : Int) := by omega
 have l4 : ((coW (((((zrW nw).set 1 1048596).set 3 2099174).set (3 + 2) 3).set (3 + 3) 3) 3 1 3).set 4 2).length = nw := by rw [List.length_set]; exact lw4
 go_cut [] from 33 to 52 (fun wc => za wc bm 37 #[.slice (some ⟨bp, 0, none⟩) L c1, .slice a2 n c2, .slice (some ⟨bw, 0, none⟩) nw nw, .int .i64 smz, .int .i64 0, .int .i64 (130 : Int), .bool false, .int .i64 0, .int .i64 0, .int .i64 0, .int .i64 (3), .slice (some ⟨br, 0, none⟩) 6 6, .bool false, .bool false, .bool false, .int .i64 0, .int .i64 0, .int .i64 0, .int .i64 0, .slice none 0 0] /\ RwW wc bw (btW nw slots) /\ RwR wc br 6 (rtF (fun _ => 0) 1) /\ Kp [bm, bw, br] w wc)
 case first =>
  have X4' : za w4.drew bm 37 #[.slice (some ⟨bp, 0, none⟩) L c1, .slice a2 n c2, .slice (some ⟨bw, 0, none⟩) nw nw, .int .i64 smz, .int .i64 0, .int .i64 (130 : Int), .bool false, .int .i64 0, .int .i64 0, .int .i64 0, .int .i64 (3), .slice (some ⟨br, 0, none⟩) 6 6, .bool false, .bool false, .bool false, .int .i64 0, .int .i64 0, .int .i64 0, .int .i64 0, .slice none 0 0] := X4
  refine wp_region_held_drew (S := fun V => za V bm 37 #[.slice (some ⟨bp, 0, none⟩) L c1, .slice a2 n c2, .slice (some ⟨bw, 0, none⟩) nw nw, .int .i64 smz, .int .i64 0, .int .i64 (130 : Int), .bool false, .int .i64 0, .int .i64 0, .int .i64 0, .int .i64 (3), .slice (some ⟨br, 0, none⟩) 6 6, .bool false, .bool false, .bool false, .int .i64 0, .int .i64 0, .int .i64 0, .int .i64 0, .slice none 0 0] /\ V.cell? ⟨bp, 1, none⟩ = some (.int .i64 slots)) (by kernel_rfl) ⟨X4', hp4⟩ (fun hHeld => ?_)
  obtain ⟨wd, hwd⟩ : ∃ V, V = w4.drew := ⟨_, rfl⟩
  have W4d : RwW wd bw ((coW (((((zrW nw).set 1 1048596).set 3 2099174).set (3 + 2) 3).set (3 + 3) 3) 3 1 3).set 4 2) := by rw [hwd]; exact Rw.drew W4
  have R4d : RwR wd br 6 (rtF (fun _ => 0) 1) := by rw [hwd]; exact Rw.drew R4
  have K4d : Kp [bm, bw, br] w wd := by rw [hwd]; exact K4.drew
  rw [<- hwd] at hHeld ⊢
  clear hwd X4 X4' W4 R4 K4 hp4
  have c5 : wd.cell? ⟨bw, 5, none⟩ = some (.int .u64 3) := by rw [<- w5e]; exact W4d.cell (i := 5) (by omega)
  have f5 := W4d.frozen 5
  refine tk 0 33 (.pointer (some ⟨bm, 0, none⟩)) hHeld rfl (by intro V hS; go_simp) ?_
  try simp only [Act.put, zig, zih, zii]
  refine tk 1 34 (.pointer (some ⟨bm, 0, none⟩)) hHeld rfl (by intro V hS; go_simp) ?_
  try simp only [Act.put, zig, zih, zii]
  refine tk 2 35 (.pointer (some ⟨bm, 2, none⟩)) hHeld rfl (by intro V hS; go_simp) ?_
  try simp only [Act.put, zig, zih, zii]
  refine tk 3 36 (.pointer (some ⟨bm, 2, none⟩)) hHeld rfl (by intro V hS; go_simp) ?_
  try simp only [Act.put, zig, zih, zii]
  refine tk 4 37 (.slice (some ⟨bw, 0, none⟩) nw nw) hHeld rfl (by intro V hS; have q := hS.1.cell 2; simp at q; go_simp) ?_
  try simp only [Act.put, zig, zih, zii]
  refine tk 5 38 (.int .i64 3) hHeld rfl (by intro V hS; go_simp) ?_
  try simp only [Act.put, zig, zih, zii]
  refine tk 6 39 (.int .i64 5) hHeld rfl (by intro V hS; go_simp; try rfl) ?_
  try simp only [Act.put, zig, zih, zii]
  refine tk 7 40 (.pointer (some ⟨bw, 5, none⟩)) hHeld rfl (by intro V hS; go_simp; try (intro z; omega)) ?_
  try simp only [Act.put, zig, zih, zii]
  refine tk 9 42 (.pointer (some ⟨bm, 0, none⟩)) hHeld rfl (by intro V hS; go_simp) ?_
  try simp only [Act.put, zig, zih, zii]
  refine tk 10 43 (.pointer (some ⟨bm, 0, none⟩)) hHeld rfl (by intro V hS; go_simp) ?_
  try simp only [Act.put, zig, zih, zii]
  refine tk 11 44 (.pointer (some ⟨bm, 0, none⟩)) hHeld rfl (by intro V hS; go_simp) ?_
  try simp only [Act.put, zig, zih, zii]
  refine tk 12 45 (.pointer (some ⟨bm, 0, none⟩)) hHeld rfl (by intro V hS; go_simp) ?_
  try simp only [Act.put, zig, zih, zii]
  refine tk 13 46 (.slice (some ⟨bp, 0, none⟩) L c1) hHeld rfl (by intro V hS; have q := hS.1.cell 0; simp at q; go_simp) ?_
  try simp only [Act.put, zig, zih, zii]
  refine tk 14 47 (.pointer (some ⟨bp, 0, none⟩)) hHeld rfl (by intro V hS; go_simp; try (intro z; omega)) ?_
  try simp only [Act.put, zig, zih, zii]
  refine tk 15 48 (.pointer (some ⟨bp, 1, none⟩)) hHeld rfl (by intro V hS; go_simp) ?_
  try simp only [Act.put, zig, zih, zii]
  refine tk 16 49 (.int .i64 slots) hHeld rfl (by intro V hS; have q := hS.2; go_simp) ?_
  try simp only [Act.put, zig, zih, zii]
  refine tk 17 50 (.int .u64 slots) hHeld rfl (by intro V hS; go_simp) ?_
  try simp only [Act.put, zig, zih, zii]
  refine wpAnyH_ready (rs := [8]) (by kernel_rfl) (by simp) ?_
  refine AllReadyH.cons (o := { dst := some 41, op := _, type := _, pos := _, after := _, guard := _ }) rfl (fun K hK => ?_) AllReadyH.nil
  go_simp
  refine hK.out _ _ hHeld (fun hHeld => ?_)
  clear hK K
  try simp only [Act.put, zig, zih, zii]
  refine tk 18 51 (.int .u64 (3 + slots)) hHeld rfl (by intro V hS; go_simp) ?_
  try simp only [Act.put, zig, zih, zii]
  refine tk 19 52 (.pointer (some ⟨bw, 5, none⟩)) hHeld rfl (by intro V hS; go_simp; try (intro z; omega)) ?_
  try simp only [Act.put, zig, zih, zii]
  refine wpAnyH_ready (rs := [20]) (by kernel_rfl) (by simp) ?_
  refine AllReadyH.cons (o := { dst := none, op := _, type := _, pos := _, after := _, guard := _ }) rfl (fun K hK => ?_) AllReadyH.nil
  go_simp
  have X5 := za.other hHeld.1 hab 5 (.int .u64 (3 + slots))
  have P5 : (wd.setCell ⟨bw, 5, none⟩ (.int .u64 (3 + slots))).cell? ⟨bp, 1, none⟩ = some (.int .i64 slots) := (World.cell?_of_block (w := wd) (Below.heap_setCell _ _ _ _ (by show bp ≠ bw; exact hp2))).trans hHeld.2
  clear hHeld
  refine hK.out _ _ ⟨X5, P5⟩ (fun hHeld => ?_)
  clear hK K
  try simp only [Act.put, zig, zih, zii]
  refine wpAnyH_done (by kernel_rfl) ?_ _
  go_wp2_with fail
  go_meet
  refine ⟨X5, ?_, Rw.other R4d (p := ⟨bw, 5, none⟩) (fun e => hwr e.symm) _, K4d.setCell (p := ⟨bw, 5, none⟩) (.inl (by simp)) _⟩
  have := RwW.set W4d (i := 5) (3 + slots) (by omega)
  rw [zg2 (by omega)] at this
  exact this
 case rest =>
  obtain ⟨X5, W5, R5, K5⟩ := hcut
  rename World => w5
  clear X4 W4 R4 K4 hp4 w5e
  go_upto_region 10 with fail
  have X5' : za w5.drew bm 37 #[.slice (some ⟨bp, 0, none⟩) L c1, .slice a2 n c2, .slice (some ⟨bw, 0, none⟩) nw nw, .int .i64 smz, .int .i64 0, .int .i64 (130 : Int), .bool false, .int .i64 0, .int .i64 0, .int .i64 0, .int .i64 (3), .slice (some ⟨br, 0, none⟩) 6 6, .bool false, .bool false, .bool false, .int .i64 0, .int .i64 0, .int .i64 0, .int .i64 0, .slice none 0 0] := X5
  refine wp_region_held_drew (S := fun V => za V bm 37 #[.slice (some ⟨bp, 0, none⟩) L c1, .slice a2 n c2, .slice (some ⟨bw, 0, none⟩) nw nw, .int .i64 smz, .int .i64 0, .int .i64 (130 : Int), .bool false, .int .i64 0, .int .i64 0, .int .i64 0, .int .i64 (3), .slice (some ⟨br, 0, none⟩) 6 6, .bool false, .bool false, .bool false, .int .i64 0, .int .i64 0, .int .i64 0, .int .i64 0, .slice none 0 0]) (by kernel_rfl) X5' (fun hHeld => ?_)
  obtain ⟨wd, hwd⟩ : ∃ V, V = w5.drew := ⟨_, rfl⟩
  have W5d : RwW wd bw (btW nw slots) := by rw [hwd]; exact Rw.drew W5
  have R5d : RwR wd br 6 (rtF (fun _ => 0) 1) := by rw [hwd]; exact Rw.drew R5
  have K5d : Kp [bm, bw, br] w wd := by rw [hwd]; exact K5.drew
  rw [<- hwd] at hHeld ⊢
  clear hwd X5 X5' W5 R5 K5
  refine tk 0 53 (.pointer (some ⟨bm, 0, none⟩)) hHeld rfl (by intro V hS; go_simp) ?_
  try simp only [Act.put, zig, zih, zii]
  refine tk 1 54 (.pointer (some ⟨bm, 0, none⟩)) hHeld rfl (by intro V hS; go_simp) ?_
  try simp only [Act.put, zig, zih, zii]
  refine tk 2 55 (.pointer (some ⟨bm, 2, none⟩)) hHeld rfl (by intro V hS; go_simp) ?_
  try simp only [Act.put, zig, zih, zii]
  refine tk 3 56 (.pointer (some ⟨bm, 11, none⟩)) hHeld rfl (by intro V hS; go_simp) ?_
  try simp only [Act.put, zig, zih, zii]
  refine tk 4 57 (.slice (some ⟨br, 0, none⟩) 6 6) hHeld rfl (by intro V hS; have q := (show za V _ _ _ from hS).cell 11; simp at q; go_simp) ?_
  try simp only [Act.put, zig, zih, zii]
  refine tk 5 58 (.pointer (some ⟨bm, 0, none⟩)) hHeld rfl (by intro V hS; go_simp) ?_
  try simp only [Act.put, zig, zih, zii]
  refine tk 6 59 (.pointer (some ⟨bm, 0, none⟩)) hHeld rfl (by intro V hS; go_simp) ?_
  try simp only [Act.put, zig, zih, zii]
  refine tk 7 60 (.pointer (some ⟨bm, 2, none⟩)) hHeld rfl (by intro V hS; go_simp) ?_
  try simp only [Act.put, zig, zih, zii]
  refine tk 8 61 (.pointer (some ⟨bm, 11, none⟩)) hHeld rfl (by intro V hS; go_simp) ?_
  try simp only [Act.put, zig, zih, zii]
  refine tk 9 62 (.slice (some ⟨br, 0, none⟩) 6 6) hHeld rfl (by intro V hS; have q := (show za V _ _ _ from hS).cell 11; simp at q; go_simp) ?_
  try simp only [Act.put, zig, zih, zii]
  refine tk 10 63 (.int .i64 3) hHeld rfl (by intro V hS; go_simp) ?_
  try simp only [Act.put, zig, zih, zii]
  refine tk 11 64 (.agg #[.int .i64 6, .int .i64 3]) hHeld rfl (by intro V hS; go_simp) ?_
  try simp only [Act.put, zig, zih, zii]
  refine tk 12 65 (.agg #[.int .i64 0, .int .i64 0]) hHeld rfl (by intro V hS; go_simp) ?_
  try simp only [Act.put, zig, zih, zii]
  refine tk 13 66 (.pointer (some ⟨br, 0, none⟩)) hHeld rfl (by intro V hS; go_simp) ?_
  try simp only [Act.put, zig, zih, zii]
  have c0 := R5d.cell (i := 0) (by omega)
  have c1' := R5d.cell (i := 1) (by omega)
  have fR := R5d.frozen
  refine wpAnyH_ready (rs := [14]) (by kernel_rfl) (by simp) ?_
  refine AllReadyH.cons (o := { dst := none, op := _, type := _, pos := _, after := _, guard := _ }) rfl (fun K hK => ?_) AllReadyH.nil
  go_simp
  have X6 := (za.other hHeld har 0 (.int .i64 6)).other har 1 (.int .i64 3)
  have W6 := Rw.other (Rw.other W5d (p := ⟨br, 0, none⟩) hwr (.int .i64 6)) (p := ⟨br, 1, none⟩) hwr (.int .i64 3)
  have R6 := Rw.set (Rw.set R5d 0 (.int .i64 6)) 1 (.int .i64 3)
  have K6 := (K5d.setCell (p := ⟨br, 0, none⟩) (.inl (by simp)) (.int .i64 6)).setCell (p := ⟨br, 1, none⟩) (.inl (by simp)) (.int .i64 3)
  clear hHeld
  refine hK.out _ _ X6 (fun hHeld => ?_)
  clear hK K c0 c1' fR
  try simp only [Act.put, zig, zih, zii]
  obtain ⟨w6, hw6⟩ : ∃ V, V = (wd.setCell ⟨br, 0, none⟩ (.int .i64 6)).setCell ⟨br, 1, none⟩ (.int .i64 3) := ⟨_, rfl⟩
  rw [<- hw6] at X6 W6 R6 K6 hHeld ⊢
  clear hw6 W5d R5d K5d
  refine tk 15 67 (.pointer (some ⟨br, 2, none⟩)) hHeld rfl (by intro V hS; go_simp) ?_
  try simp only [Act.put, zig, zih, zii]
  have c2 := Rw.cell R6 (i := 2) (by omega)
  have c3 := Rw.cell R6 (i := 3) (by omega)
  have fR := Rw.frozen R6
  simp at c2 c3
  refine wpAnyH_ready (rs := [16]) (by kernel_rfl) (by simp) ?_
  refine AllReadyH.cons (o := { dst := none, op := _, type := _, pos := _, after := _, guard := _ }) rfl (fun K hK => ?_) AllReadyH.nil
  go_simp
  have X7 := (za.other hHeld har 2 (.int .i64 0)).other har 3 (.int .i64 0)
  clear hHeld
  refine hK.out _ _ X7 (fun hHeld => ?_)
  clear hK K
  try simp only [Act.put, zig, zih, zii]
  refine wpAnyH_done (by kernel_rfl) ?_ _
  have W7 := Rw.other (Rw.other W6 (p := ⟨br, 2, none⟩) hwr (.int .i64 0)) (p := ⟨br, 3, none⟩) hwr (.int .i64 0)
  have R7 : RwR _ br 6 btR := Rw.congr (Rw.set (Rw.set R6 2 (.int .i64 0)) 3 (.int .i64 0)) (fun i hi => by
   unfold btR rtF
   by_cases h0 : i = 0
   · simp [h0]
   by_cases h1 : i = 1
   · simp [h1]
   by_cases h2 : i = 2
   · simp [h2]
   by_cases h3 : i = 3
   · simp [h3]
   simp [h0, h1, h2, h3])
  have K7 := (K6.setCell (p := ⟨br, 2, none⟩) (.inl (by simp)) (.int .i64 0)).setCell (p := ⟨br, 3, none⟩) (.inl (by simp)) (.int .i64 0)
  have HE : Hid (_ /\ _ /\ _ /\ _) := ⟨X7, W7, R7, K7⟩
  clear X7 W7 R7 K7 X6 W6 R6 K6 c2 c3 fR hHeld
  go_wp2
  go_ret
  exact ⟨rfl, HE.out⟩
end Go.Proofs.YtblcfbhlmdhnpaaGreat
