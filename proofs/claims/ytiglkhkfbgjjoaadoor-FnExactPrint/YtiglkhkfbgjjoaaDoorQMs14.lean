/- - -/
import Derived.Test.YtiglkhkfbgjjoaaDoorQMtA
namespace Go.Proofs.YtiglkhkfbgjjoaaDoor
set_option maxRecDepth 20000
open Go.RowKit Go.PlainAid Go.Maps
set_option linter.unusedSimpArgs false
set_option linter.unusedVariables false
set_option maxHeartbeats 4000000 in
theorem zkw (a : Option Addr) (L c : Nat) (top : Int) (t : ByteArray) (i : Int) (ak : Option Addr) (ck : Nat) (y : Nat -> Int) (rec : Int -> List ByteArray) (T : Nat) (w : World) (hk : SlF T w (.slice ak (1) ck) (1) (1) (fun i => .int .i64 (y i))) (hT : T <= w.heap.size) (hc1 : 1 <= ck) (hc2 : ck <= 1048576) (hs : smN rec y (1) <= 100000)
 (hr : ∀ (V : World) (m : Nat), m < 1 -> Below w.heap.size w V -> Calls Tryd.prog 36 #[.agg #[.slice a L c, .int .i64 top], .int .i64 (y m)] V (zc V (rec (y m)))) :
 Calls Tryd.prog 79 #[.agg #[.slice a L c, .int .i64 top], .agg #[.int .i64 14, .string t, .int .i64 i, .slice ak (1) ck]] w (zc w (bod rec ⟨14, t, i, 1, y⟩)) := by
 obtain ⟨bk, ok, ck2, hv, tk1, lk, hkk⟩ := hk.parts (k := 0) (by omega)
 simp only [Value.slice.injEq] at hv
 obtain ⟨rfl, _, rfl⟩ := hv
 have yc0 := hkk 0 (by omega)
 rw [Nat.add_zero] at yc0
 have n0 : (rec (y 0)).length <= 100000 := Nat.le_trans (smA rec y (by omega : 0 < 1)) hs
 have HE : Hid (bod rec ⟨14, t, i, 1, y⟩ = [⟨#[108, 111, 99, 97, 108]⟩, t, ⟨#[61]⟩] ++ rec (y 0) ++ [⟨#[59]⟩]) := by show bod _ _ = _; simp [bod, opB]
 obtain ⟨W0, hW0⟩ : ∃ V, V = (w.alloc (.cells #[.slice a L c, .int .i64 top] 41)).alloc (.cells #[.int .i64 14, .string t, .int .i64 i, .slice (some ⟨bk, ok, none⟩) 1 ck] 71) := ⟨_, rfl⟩
 have z0 : W0.heap.size = w.heap.size + 2 := by rw [hW0]; simp
 have B0 : Hid (Below w.heap.size w W0) := by rw [hW0]; exact ((Below.refl _ _).alloc (Nat.le_refl _) _).alloc (by simp) _
 have T0 : ∀ z, W0.cell? ⟨w.heap.size, z, none⟩ = (#[.slice a L c, .int .i64 top] : Array Value)[z]? := fun z => by rw [hW0]; simp [go_sem]
 have K0 : ∀ z, W0.cell? ⟨w.heap.size + 1, z, none⟩ = (#[.int .i64 14, .string t, .int .i64 i, .slice (some ⟨bk, ok, none⟩) 1 ck] : Array Value)[z]? := fun z => by rw [hW0]; simp [go_sem]
 have HR : Hid (∀ (V : World) (m : Nat), m < 1 -> Below W0.heap.size W0 V -> Calls Tryd.prog 36 #[.agg #[.slice a L c, .int .i64 top], .int .i64 (y m)] V (zc V (rec (y m)))) := fun V m hm hV => hr V m hm (B0.out.trans (hV.mono (by omega)))
 have BK : Hid (∀ V, Below W0.heap.size W0 V -> Below w.heap.size w V) := fun V hV => B0.out.trans (hV.mono (by omega))
 have KP : ∀ V, Below W0.heap.size W0 V -> (SQ1 W0 w.heap.size #[.slice a L c, .int .i64 top] #[.int .i64 14, .string t, .int .i64 i, .slice (some ⟨bk, ok, none⟩) 1 ck] bk (ok) (y 0)) V := fun V hV => ⟨hV, fun z => (hV.cell (p := ⟨w.heap.size, z, none⟩) (by dsimp only; omega)).trans (T0 z), fun z => (hV.cell (p := ⟨w.heap.size + 1, z, none⟩) (by dsimp only; omega)).trans (K0 z), ((BK.out V hV).cell (p := ⟨bk, ok, none⟩) (by dsimp only; omega)).trans yc0⟩
 have KP' : Hid (∀ V, Below W0.heap.size W0 V -> (SQ1 W0 w.heap.size #[.slice a L c, .int .i64 top] #[.int .i64 14, .string t, .int .i64 i, .slice (some ⟨bk, ok, none⟩) 1 ck] bk (ok) (y 0)) V) := KP
 clear hk hr hs hkk KP T0 K0 yc0
 have BW : Hid (Below W0.heap.size W0 W0) := Below.refl _ _
 go_enter Tryd.func79, Tryd.ntmps79
 go_wp2_with fail
 rw [<- hW0]
 clear hW0
 have KP := KP'.out
 clear KP'
 refine wp_region_held_drew (by kernel_rfl) (KP _ BW.out.drew) (fun hHeld => ?_); obtain ⟨w1, h1, b1⟩ := dR W0; rw [<- h1] at hHeld ⊢; clear h1
 clear b1
 refine tkm 0 11 (.pointer (some ⟨w.heap.size + 1, 1, none⟩)) hHeld rfl ?_; try simp only [Act.put, pa, pz, ps]
 refine tkm 1 12 (.string t) hHeld rfl ?_; try simp only [Act.put, pa, pz, ps]
 refine tkm 3 14 (.agg #[.slice a L c, .int .i64 top]) hHeld rfl ?_; try simp only [Act.put, pa, pz, ps]
 refine tkm 4 15 (.pointer (some ⟨w.heap.size + 1, 3, none⟩)) hHeld rfl ?_; try simp only [Act.put, pa, pz, ps]
 refine tkm 5 16 (.slice (some ⟨bk, ok, none⟩) 1 ck) hHeld rfl ?_; try simp only [Act.put, pa, pz, ps]
 refine tkm 6 17 (.pointer (some ⟨bk, ok, none⟩)) hHeld rfl ?_; try simp only [Act.put, pa, pz, ps]
 refine tkm 7 18 (.int .i64 (y 0)) hHeld rfl ?_; try simp only [Act.put, pa, pz, ps]
 refine rdy [2, 8, 9] (arc 13 rfl (fun K hK => ?_) (arc 19 rfl (fun K hK => ?_) (arc 20 rfl (fun K hK => ?_) AllReadyH.nil)))
 ·go_simp; obtain ⟨w2, h2, b2, B2, R13⟩ := nB hHeld.1 [⟨#[108, 111, 99, 97, 108]⟩, t, ⟨#[61]⟩] #[.string ⟨#[108, 111, 99, 97, 108]⟩, .string t, .string ⟨#[61]⟩] rfl rfl; rw [<- h2]; clear h2
  clear b2
  clear hHeld; refine hK.out _ _ (KP _ B2.out) (fun hHeld => ?_); clear hK K; try simp only [Act.put, pa, pz, ps]
  refine rdy [8, 9] (arc 19 rfl (fun K hK => ?_) (arc 20 rfl (fun K hK => ?_) AllReadyH.nil))
  ·go_simp; go_at_call 36; refine (HR.out w2 0 (by omega) hHeld.1).mono ?_; rintro e w3 ⟨v19, rfl, s19, b3⟩; have B3 := bN hHeld.1 b3; have R19 := rS s19
   replace R13 := rB R13 b3
   clear b3 s19
   clear hHeld; refine hK.out _ _ (KP _ B3.out) (fun hHeld => ?_); clear hK K; try simp only [Act.put, pa, pz, ps]
   refine rdy [9] (arc 20 rfl (fun K hK => ?_) AllReadyH.nil)
   go_simp; obtain ⟨w4, h4, b4, B4, R20⟩ := nB hHeld.1 [⟨#[59]⟩] #[.string ⟨#[59]⟩] rfl rfl; rw [<- h4]; clear h4
   replace R13 := rB R13 b4; replace R19 := rB R19 b4
   clear b4
   clear hHeld; refine hK.out _ _ (KP _ B4.out) (fun hHeld => ?_); clear hK K; try simp only [Act.put, pa, pz, ps]
   refine rdy [10] (arc 21 rfl (fun K hK => ?_) AllReadyH.nil)
   go_simp; go_at_call 80; refine (za _ _ _ _ _ _ w4 R13.out.rd R19.out.rd R20.out.rd (by (try simp only [la, lc, ln]); omega) (by (try simp only [la, lc, ln]); omega) (by (try simp only [la, lc, ln]); omega)).mono ?_; rintro e w5 ⟨v21, rfl, s21, b5⟩; have B5 := bN hHeld.1 b5; have R21 := rS s21
   replace R13 := rB R13 b5; replace R19 := rB R19 b5; replace R20 := rB R20 b5
   have S21 := sM s21 hHeld.1.size
   clear b5 s21
   clear hHeld; refine hK.out _ _ (KP _ B5.out) (fun hHeld => ?_); clear hK K; try simp only [Act.put, pa, pz, ps]
   refine tkm 11 4 (v21) hHeld rfl ?_; try simp only [Act.put, pa, pz, ps]
   have R4 := R21; clear R21
   have S4 := S21; clear S21
   refine wpAnyH_done (by kernel_rfl) ?_ _
   go_wp2
   go_ret
   exact ⟨_, rfl, by rw [HE.out]; exact S4.out.mono (by omega), B0.out.trans (B5.out.mono (by omega))⟩
  ·go_simp; obtain ⟨w6, h6, b6, B6, R20⟩ := nB hHeld.1 [⟨#[59]⟩] #[.string ⟨#[59]⟩] rfl rfl; rw [<- h6]; clear h6
   replace R13 := rB R13 b6
   clear b6
   clear hHeld; refine hK.out _ _ (KP _ B6.out) (fun hHeld => ?_); clear hK K; try simp only [Act.put, pa, pz, ps]
   refine rdy [8] (arc 19 rfl (fun K hK => ?_) AllReadyH.nil)
   go_simp; go_at_call 36; refine (HR.out w6 0 (by omega) hHeld.1).mono ?_; rintro e w7 ⟨v19, rfl, s19, b7⟩; have B7 := bN hHeld.1 b7; have R19 := rS s19
   replace R13 := rB R13 b7; replace R20 := rB R20 b7
   clear b7 s19
   clear hHeld; refine hK.out _ _ (KP _ B7.out) (fun hHeld => ?_); clear hK K; try simp only [Act.put, pa, pz, ps]
   refine rdy [10] (arc 21 rfl (fun K hK => ?_) AllReadyH.nil)
   go_simp; go_at_call 80; refine (za _ _ _ _ _ _ w7 R13.out.rd R19.out.rd R20.out.rd (by (try simp only [la, lc, ln]); omega) (by (try simp only [la, lc, ln]); omega) (by (try simp only [la, lc, ln]); omega)).mono ?_; rintro e w8 ⟨v21, rfl, s21, b8⟩; have B8 := bN hHeld.1 b8; have R21 := rS s21
   replace R13 := rB R13 b8; replace R19 := rB R19 b8; replace R20 := rB R20 b8
   have S21 := sM s21 hHeld.1.size
   clear b8 s21
   clear hHeld; refine hK.out _ _ (KP _ B8.out) (fun hHeld => ?_); clear hK K; try simp only [Act.put, pa, pz, ps]
   refine tkm 11 4 (v21) hHeld rfl ?_; try simp only [Act.put, pa, pz, ps]
   have R4 := R21; clear R21
   have S4 := S21; clear S21
   refine wpAnyH_done (by kernel_rfl) ?_ _
   go_wp2
   go_ret
   exact ⟨_, rfl, by rw [HE.out]; exact S4.out.mono (by omega), B0.out.trans (B8.out.mono (by omega))⟩
 ·go_simp; go_at_call 36; refine (HR.out w1 0 (by omega) hHeld.1).mono ?_; rintro e w9 ⟨v19, rfl, s19, b9⟩; have B9 := bN hHeld.1 b9; have R19 := rS s19
  clear b9 s19
  clear hHeld; refine hK.out _ _ (KP _ B9.out) (fun hHeld => ?_); clear hK K; try simp only [Act.put, pa, pz, ps]
  refine rdy [2, 9] (arc 13 rfl (fun K hK => ?_) (arc 20 rfl (fun K hK => ?_) AllReadyH.nil))
  ·go_simp; obtain ⟨w10, h10, b10, B10, R13⟩ := nB hHeld.1 [⟨#[108, 111, 99, 97, 108]⟩, t, ⟨#[61]⟩] #[.string ⟨#[108, 111, 99, 97, 108]⟩, .string t, .string ⟨#[61]⟩] rfl rfl; rw [<- h10]; clear h10
   replace R19 := rB R19 b10
   clear b10
   clear hHeld; refine hK.out _ _ (KP _ B10.out) (fun hHeld => ?_); clear hK K; try simp only [Act.put, pa, pz, ps]
   refine rdy [9] (arc 20 rfl (fun K hK => ?_) AllReadyH.nil)
   go_simp; obtain ⟨w11, h11, b11, B11, R20⟩ := nB hHeld.1 [⟨#[59]⟩] #[.string ⟨#[59]⟩] rfl rfl; rw [<- h11]; clear h11
   replace R13 := rB R13 b11; replace R19 := rB R19 b11
   clear b11
   clear hHeld; refine hK.out _ _ (KP _ B11.out) (fun hHeld => ?_); clear hK K; try simp only [Act.put, pa, pz, ps]
   refine rdy [10] (arc 21 rfl (fun K hK => ?_) AllReadyH.nil)
   go_simp; go_at_call 80; refine (za _ _ _ _ _ _ w11 R13.out.rd R19.out.rd R20.out.rd (by (try simp only [la, lc, ln]); omega) (by (try simp only [la, lc, ln]); omega) (by (try simp only [la, lc, ln]); omega)).mono ?_; rintro e w12 ⟨v21, rfl, s21, b12⟩; have B12 := bN hHeld.1 b12; have R21 := rS s21
   replace R13 := rB R13 b12; replace R19 := rB R19 b12; replace R20 := rB R20 b12
   have S21 := sM s21 hHeld.1.size
   clear b12 s21
   clear hHeld; refine hK.out _ _ (KP _ B12.out) (fun hHeld => ?_); clear hK K; try simp only [Act.put, pa, pz, ps]
   refine tkm 11 4 (v21) hHeld rfl ?_; try simp only [Act.put, pa, pz, ps]
   have R4 := R21; clear R21
   have S4 := S21; clear S21
   refine wpAnyH_done (by kernel_rfl) ?_ _
   go_wp2
   go_ret
   exact ⟨_, rfl, by rw [HE.out]; exact S4.out.mono (by omega), B0.out.trans (B12.out.mono (by omega))⟩
  ·go_simp; obtain ⟨w13, h13, b13, B13, R20⟩ := nB hHeld.1 [⟨#[59]⟩] #[.string ⟨#[59]⟩] rfl rfl; rw [<- h13]; clear h13
   replace R19 := rB R19 b13
   clear b13
   clear hHeld; refine hK.out _ _ (KP _ B13.out) (fun hHeld => ?_); clear hK K; try simp only [Act.put, pa, pz, ps]
   refine rdy [2] (arc 13 rfl (fun K hK => ?_) AllReadyH.nil)
   go_simp; obtain ⟨w14, h14, b14, B14, R13⟩ := nB hHeld.1 [⟨#[108, 111, 99, 97, 108]⟩, t, ⟨#[61]⟩] #[.string ⟨#[108, 111, 99, 97, 108]⟩, .string t, .string ⟨#[61]⟩] rfl rfl; rw [<- h14]; clear h14
   replace R19 := rB R19 b14; replace R20 := rB R20 b14
   clear b14
   clear hHeld; refine hK.out _ _ (KP _ B14.out) (fun hHeld => ?_); clear hK K; try simp only [Act.put, pa, pz, ps]
   refine rdy [10] (arc 21 rfl (fun K hK => ?_) AllReadyH.nil)
   go_simp; go_at_call 80; refine (za _ _ _ _ _ _ w14 R13.out.rd R19.out.rd R20.out.rd (by (try simp only [la, lc, ln]); omega) (by (try simp only [la, lc, ln]); omega) (by (try simp only [la, lc, ln]); omega)).mono ?_; rintro e w15 ⟨v21, rfl, s21, b15⟩; have B15 := bN hHeld.1 b15; have R21 := rS s21
   replace R13 := rB R13 b15; replace R19 := rB R19 b15; replace R20 := rB R20 b15
   have S21 := sM s21 hHeld.1.size
   clear b15 s21
   clear hHeld; refine hK.out _ _ (KP _ B15.out) (fun hHeld => ?_); clear hK K; try simp only [Act.put, pa, pz, ps]
   refine tkm 11 4 (v21) hHeld rfl ?_; try simp only [Act.put, pa, pz, ps]
   have R4 := R21; clear R21
   have S4 := S21; clear S21
   refine wpAnyH_done (by kernel_rfl) ?_ _
   go_wp2
   go_ret
   exact ⟨_, rfl, by rw [HE.out]; exact S4.out.mono (by omega), B0.out.trans (B15.out.mono (by omega))⟩
 ·go_simp; obtain ⟨w16, h16, b16, B16, R20⟩ := nB hHeld.1 [⟨#[59]⟩] #[.string ⟨#[59]⟩] rfl rfl; rw [<- h16]; clear h16
  clear b16
  clear hHeld; refine hK.out _ _ (KP _ B16.out) (fun hHeld => ?_); clear hK K; try simp only [Act.put, pa, pz, ps]
  refine rdy [2, 8] (arc 13 rfl (fun K hK => ?_) (arc 19 rfl (fun K hK => ?_) AllReadyH.nil))
  ·go_simp; obtain ⟨w17, h17, b17, B17, R13⟩ := nB hHeld.1 [⟨#[108, 111, 99, 97, 108]⟩, t, ⟨#[61]⟩] #[.string ⟨#[108, 111, 99, 97, 108]⟩, .string t, .string ⟨#[61]⟩] rfl rfl; rw [<- h17]; clear h17
   replace R20 := rB R20 b17
   clear b17
   clear hHeld; refine hK.out _ _ (KP _ B17.out) (fun hHeld => ?_); clear hK K; try simp only [Act.put, pa, pz, ps]
   refine rdy [8] (arc 19 rfl (fun K hK => ?_) AllReadyH.nil)
   go_simp; go_at_call 36; refine (HR.out w17 0 (by omega) hHeld.1).mono ?_; rintro e w18 ⟨v19, rfl, s19, b18⟩; have B18 := bN hHeld.1 b18; have R19 := rS s19
   replace R13 := rB R13 b18; replace R20 := rB R20 b18
   clear b18 s19
   clear hHeld; refine hK.out _ _ (KP _ B18.out) (fun hHeld => ?_); clear hK K; try simp only [Act.put, pa, pz, ps]
   refine rdy [10] (arc 21 rfl (fun K hK => ?_) AllReadyH.nil)
   go_simp; go_at_call 80; refine (za _ _ _ _ _ _ w18 R13.out.rd R19.out.rd R20.out.rd (by (try simp only [la, lc, ln]); omega) (by (try simp only [la, lc, ln]); omega) (by (try simp only [la, lc, ln]); omega)).mono ?_; rintro e w19 ⟨v21, rfl, s21, b19⟩; have B19 := bN hHeld.1 b19; have R21 := rS s21
   replace R13 := rB R13 b19; replace R19 := rB R19 b19; replace R20 := rB R20 b19
   have S21 := sM s21 hHeld.1.size
   clear b19 s21
   clear hHeld; refine hK.out _ _ (KP _ B19.out) (fun hHeld => ?_); clear hK K; try simp only [Act.put, pa, pz, ps]
   refine tkm 11 4 (v21) hHeld rfl ?_; try simp only [Act.put, pa, pz, ps]
   have R4 := R21; clear R21
   have S4 := S21; clear S21
   refine wpAnyH_done (by kernel_rfl) ?_ _
   go_wp2
   go_ret
   exact ⟨_, rfl, by rw [HE.out]; exact S4.out.mono (by omega), B0.out.trans (B19.out.mono (by omega))⟩
  ·go_simp; go_at_call 36; refine (HR.out w16 0 (by omega) hHeld.1).mono ?_; rintro e w20 ⟨v19, rfl, s19, b20⟩; have B20 := bN hHeld.1 b20; have R19 := rS s19
   replace R20 := rB R20 b20
   clear b20 s19
   clear hHeld; refine hK.out _ _ (KP _ B20.out) (fun hHeld => ?_); clear hK K; try simp only [Act.put, pa, pz, ps]
   refine rdy [2] (arc 13 rfl (fun K hK => ?_) AllReadyH.nil)
   go_simp; obtain ⟨w21, h21, b21, B21, R13⟩ := nB hHeld.1 [⟨#[108, 111, 99, 97, 108]⟩, t, ⟨#[61]⟩] #[.string ⟨#[108, 111, 99, 97, 108]⟩, .string t, .string ⟨#[61]⟩] rfl rfl; rw [<- h21]; clear h21
   replace R19 := rB R19 b21; replace R20 := rB R20 b21
   clear b21
   clear hHeld; refine hK.out _ _ (KP _ B21.out) (fun hHeld => ?_); clear hK K; try simp only [Act.put, pa, pz, ps]
   refine rdy [10] (arc 21 rfl (fun K hK => ?_) AllReadyH.nil)
   go_simp; go_at_call 80; refine (za _ _ _ _ _ _ w21 R13.out.rd R19.out.rd R20.out.rd (by (try simp only [la, lc, ln]); omega) (by (try simp only [la, lc, ln]); omega) (by (try simp only [la, lc, ln]); omega)).mono ?_; rintro e w22 ⟨v21, rfl, s21, b22⟩; have B22 := bN hHeld.1 b22; have R21 := rS s21
   replace R13 := rB R13 b22; replace R19 := rB R19 b22; replace R20 := rB R20 b22
   have S21 := sM s21 hHeld.1.size
   clear b22 s21
   clear hHeld; refine hK.out _ _ (KP _ B22.out) (fun hHeld => ?_); clear hK K; try simp only [Act.put, pa, pz, ps]
   refine tkm 11 4 (v21) hHeld rfl ?_; try simp only [Act.put, pa, pz, ps]
   have R4 := R21; clear R21
   have S4 := S21; clear S21
   refine wpAnyH_done (by kernel_rfl) ?_ _
   go_wp2
   go_ret
   exact ⟨_, rfl, by rw [HE.out]; exact S4.out.mono (by omega), B0.out.trans (B22.out.mono (by omega))⟩
set_option maxHeartbeats 4000000 in
theorem zkx (a : Option Addr) (L c : Nat) (top : Int) (t : ByteArray) (i : Int) (ak : Option Addr) (ck : Nat) (y : Nat -> Int) (rec : Int -> List ByteArray) (T : Nat) (w : World) (hk : SlF T w (.slice ak (1) ck) (1) (1) (fun i => .int .i64 (y i))) (hT : T <= w.heap.size) (hc1 : 1 <= ck) (hc2 : ck <= 1048576) (hs : smN rec y (1) <= 100000)
 (hr : ∀ (V : World) (m : Nat), m < 1 -> Below w.heap.size w V -> Calls Tryd.prog 36 #[.agg #[.slice a L c, .int .i64 top], .int .i64 (y m)] V (zc V (rec (y m)))) :
 Calls Tryd.prog 79 #[.agg #[.slice a L c, .int .i64 top], .agg #[.int .i64 15, .string t, .int .i64 i, .slice ak (1) ck]] w (zc w (bod rec ⟨15, t, i, 1, y⟩)) := by
 obtain ⟨bk, ok, ck2, hv, tk1, lk, hkk⟩ := hk.parts (k := 0) (by omega)
 simp only [Value.slice.injEq] at hv
 obtain ⟨rfl, _, rfl⟩ := hv
 have yc0 := hkk 0 (by omega)
 rw [Nat.add_zero] at yc0
 have n0 : (rec (y 0)).length <= 100000 := Nat.le_trans (smA rec y (by omega : 0 < 1)) hs
 have HE : Hid (bod rec ⟨15, t, i, 1, y⟩ = [t, ⟨#[61]⟩] ++ rec (y 0) ++ [⟨#[59]⟩]) := by show bod _ _ = _; simp [bod, opB]
 obtain ⟨W0, hW0⟩ : ∃ V, V = (w.alloc (.cells #[.slice a L c, .int .i64 top] 41)).alloc (.cells #[.int .i64 15, .string t, .int .i64 i, .slice (some ⟨bk, ok, none⟩) 1 ck] 71) := ⟨_, rfl⟩
 have z0 : W0.heap.size = w.heap.size + 2 := by rw [hW0]; simp
 have B0 : Hid (Below w.heap.size w W0) := by rw [hW0]; exact ((Below.refl _ _).alloc (Nat.le_refl _) _).alloc (by simp) _
 have T0 : ∀ z, W0.cell? ⟨w.heap.size, z, none⟩ = (#[.slice a L c, .int .i64 top] : Array Value)[z]? := fun z => by rw [hW0]; simp [go_sem]
 have K0 : ∀ z, W0.cell? ⟨w.heap.size + 1, z, none⟩ = (#[.int .i64 15, .string t, .int .i64 i, .slice (some ⟨bk, ok, none⟩) 1 ck] : Array Value)[z]? := fun z => by rw [hW0]; simp [go_sem]
 have HR : Hid (∀ (V : World) (m : Nat), m < 1 -> Below W0.heap.size W0 V -> Calls Tryd.prog 36 #[.agg #[.slice a L c, .int .i64 top], .int .i64 (y m)] V (zc V (rec (y m)))) := fun V m hm hV => hr V m hm (B0.out.trans (hV.mono (by omega)))
 have BK : Hid (∀ V, Below W0.heap.size W0 V -> Below w.heap.size w V) := fun V hV => B0.out.trans (hV.mono (by omega))
 have KP : ∀ V, Below W0.heap.size W0 V -> (SQ1 W0 w.heap.size #[.slice a L c, .int .i64 top] #[.int .i64 15, .string t, .int .i64 i, .slice (some ⟨bk, ok, none⟩) 1 ck] bk (ok) (y 0)) V := fun V hV => ⟨hV, fun z => (hV.cell (p := ⟨w.heap.size, z, none⟩) (by dsimp only; omega)).trans (T0 z), fun z => (hV.cell (p := ⟨w.heap.size + 1, z, none⟩) (by dsimp only; omega)).trans (K0 z), ((BK.out V hV).cell (p := ⟨bk, ok, none⟩) (by dsimp only; omega)).trans yc0⟩
 have KP' : Hid (∀ V, Below W0.heap.size W0 V -> (SQ1 W0 w.heap.size #[.slice a L c, .int .i64 top] #[.int .i64 15, .string t, .int .i64 i, .slice (some ⟨bk, ok, none⟩) 1 ck] bk (ok) (y 0)) V) := KP
 clear hk hr hs hkk KP T0 K0 yc0
 have BW : Hid (Below W0.heap.size W0 W0) := Below.refl _ _
 go_enter Tryd.func79, Tryd.ntmps79
 go_wp2_with fail
 rw [<- hW0]
 clear hW0
 have KP := KP'.out
 clear KP'
 refine wp_region_held_drew (by kernel_rfl) (KP _ BW.out.drew) (fun hHeld => ?_); obtain ⟨w1, h1, b1⟩ := dR W0; rw [<- h1] at hHeld ⊢; clear h1
 clear b1
 refine tkm 0 24 (.pointer (some ⟨w.heap.size + 1, 1, none⟩)) hHeld rfl ?_; try simp only [Act.put, pa, pz, ps]
 refine tkm 1 25 (.string t) hHeld rfl ?_; try simp only [Act.put, pa, pz, ps]
 refine tkm 3 27 (.agg #[.slice a L c, .int .i64 top]) hHeld rfl ?_; try simp only [Act.put, pa, pz, ps]
 refine tkm 4 28 (.pointer (some ⟨w.heap.size + 1, 3, none⟩)) hHeld rfl ?_; try simp only [Act.put, pa, pz, ps]
 refine tkm 5 29 (.slice (some ⟨bk, ok, none⟩) 1 ck) hHeld rfl ?_; try simp only [Act.put, pa, pz, ps]
 refine tkm 6 30 (.pointer (some ⟨bk, ok, none⟩)) hHeld rfl ?_; try simp only [Act.put, pa, pz, ps]
 refine tkm 7 31 (.int .i64 (y 0)) hHeld rfl ?_; try simp only [Act.put, pa, pz, ps]
 refine rdy [2, 8, 9] (arc 26 rfl (fun K hK => ?_) (arc 32 rfl (fun K hK => ?_) (arc 33 rfl (fun K hK => ?_) AllReadyH.nil)))
 ·go_simp; obtain ⟨w2, h2, b2, B2, R26⟩ := nB hHeld.1 [t, ⟨#[61]⟩] #[.string t, .string ⟨#[61]⟩] rfl rfl; rw [<- h2]; clear h2
  clear b2
  clear hHeld; refine hK.out _ _ (KP _ B2.out) (fun hHeld => ?_); clear hK K; try simp only [Act.put, pa, pz, ps]
  refine rdy [8, 9] (arc 32 rfl (fun K hK => ?_) (arc 33 rfl (fun K hK => ?_) AllReadyH.nil))
  ·go_simp; go_at_call 36; refine (HR.out w2 0 (by omega) hHeld.1).mono ?_; rintro e w3 ⟨v32, rfl, s32, b3⟩; have B3 := bN hHeld.1 b3; have R32 := rS s32
   replace R26 := rB R26 b3
   clear b3 s32
   clear hHeld; refine hK.out _ _ (KP _ B3.out) (fun hHeld => ?_); clear hK K; try simp only [Act.put, pa, pz, ps]
   refine rdy [9] (arc 33 rfl (fun K hK => ?_) AllReadyH.nil)
   go_simp; obtain ⟨w4, h4, b4, B4, R33⟩ := nB hHeld.1 [⟨#[59]⟩] #[.string ⟨#[59]⟩] rfl rfl; rw [<- h4]; clear h4
   replace R26 := rB R26 b4; replace R32 := rB R32 b4
   clear b4
   clear hHeld; refine hK.out _ _ (KP _ B4.out) (fun hHeld => ?_); clear hK K; try simp only [Act.put, pa, pz, ps]
   refine rdy [10] (arc 34 rfl (fun K hK => ?_) AllReadyH.nil)
   go_simp; go_at_call 80; refine (za _ _ _ _ _ _ w4 R26.out.rd R32.out.rd R33.out.rd (by (try simp only [la, lc, ln]); omega) (by (try simp only [la, lc, ln]); omega) (by (try simp only [la, lc, ln]); omega)).mono ?_; rintro e w5 ⟨v34, rfl, s34, b5⟩; have B5 := bN hHeld.1 b5; have R34 := rS s34
   replace R26 := rB R26 b5; replace R32 := rB R32 b5; replace R33 := rB R33 b5
   have S34 := sM s34 hHeld.1.size
   clear b5 s34
   clear hHeld; refine hK.out _ _ (KP _ B5.out) (fun hHeld => ?_); clear hK K; try simp only [Act.put, pa, pz, ps]
   refine tkm 11 4 (v34) hHeld rfl ?_; try simp only [Act.put, pa, pz, ps]
   have R4 := R34; clear R34
   have S4 := S34; clear S34
   refine wpAnyH_done (by kernel_rfl) ?_ _
   go_wp2
   go_ret
   exact ⟨_, rfl, by rw [HE.out]; exact S4.out.mono (by omega), B0.out.trans (B5.out.mono (by omega))⟩
  ·go_simp; obtain ⟨w6, h6, b6, B6, R33⟩ := nB hHeld.1 [⟨#[59]⟩] #[.string ⟨#[59]⟩] rfl rfl; rw [<- h6]; clear h6
   replace R26 := rB R26 b6
   clear b6
   clear hHeld; refine hK.out _ _ (KP _ B6.out) (fun hHeld => ?_); clear hK K; try simp only [Act.put, pa, pz, ps]
   refine rdy [8] (arc 32 rfl (fun K hK => ?_) AllReadyH.nil)
   go_simp; go_at_call 36; refine (HR.out w6 0 (by omega) hHeld.1).mono ?_; rintro e w7 ⟨v32, rfl, s32, b7⟩; have B7 := bN hHeld.1 b7; have R32 := rS s32
   replace R26 := rB R26 b7; replace R33 := rB R33 b7
   clear b7 s32
   clear hHeld; refine hK.out _ _ (KP _ B7.out) (fun hHeld => ?_); clear hK K; try simp only [Act.put, pa, pz, ps]
   refine rdy [10] (arc 34 rfl (fun K hK => ?_) AllReadyH.nil)
   go_simp; go_at_call 80; refine (za _ _ _ _ _ _ w7 R26.out.rd R32.out.rd R33.out.rd (by (try simp only [la, lc, ln]); omega) (by (try simp only [la, lc, ln]); omega) (by (try simp only [la, lc, ln]); omega)).mono ?_; rintro e w8 ⟨v34, rfl, s34, b8⟩; have B8 := bN hHeld.1 b8; have R34 := rS s34
   replace R26 := rB R26 b8; replace R32 := rB R32 b8; replace R33 := rB R33 b8
   have S34 := sM s34 hHeld.1.size
   clear b8 s34
   clear hHeld; refine hK.out _ _ (KP _ B8.out) (fun hHeld => ?_); clear hK K; try simp only [Act.put, pa, pz, ps]
   refine tkm 11 4 (v34) hHeld rfl ?_; try simp only [Act.put, pa, pz, ps]
   have R4 := R34; clear R34
   have S4 := S34; clear S34
   refine wpAnyH_done (by kernel_rfl) ?_ _
   go_wp2
   go_ret
   exact ⟨_, rfl, by rw [HE.out]; exact S4.out.mono (by omega), B0.out.trans (B8.out.mono (by omega))⟩
 ·go_simp; go_at_call 36; refine (HR.out w1 0 (by omega) hHeld.1).mono ?_; rintro e w9 ⟨v32, rfl, s32, b9⟩; have B9 := bN hHeld.1 b9; have R32 := rS s32
  clear b9 s32
  clear hHeld; refine hK.out _ _ (KP _ B9.out) (fun hHeld => ?_); clear hK K; try simp only [Act.put, pa, pz, ps]
  refine rdy [2, 9] (arc 26 rfl (fun K hK => ?_) (arc 33 rfl (fun K hK => ?_) AllReadyH.nil))
  ·go_simp; obtain ⟨w10, h10, b10, B10, R26⟩ := nB hHeld.1 [t, ⟨#[61]⟩] #[.string t, .string ⟨#[61]⟩] rfl rfl; rw [<- h10]; clear h10
   replace R32 := rB R32 b10
   clear b10
   clear hHeld; refine hK.out _ _ (KP _ B10.out) (fun hHeld => ?_); clear hK K; try simp only [Act.put, pa, pz, ps]
   refine rdy [9] (arc 33 rfl (fun K hK => ?_) AllReadyH.nil)
   go_simp; obtain ⟨w11, h11, b11, B11, R33⟩ := nB hHeld.1 [⟨#[59]⟩] #[.string ⟨#[59]⟩] rfl rfl; rw [<- h11]; clear h11
   replace R26 := rB R26 b11; replace R32 := rB R32 b11
   clear b11
   clear hHeld; refine hK.out _ _ (KP _ B11.out) (fun hHeld => ?_); clear hK K; try simp only [Act.put, pa, pz, ps]
   refine rdy [10] (arc 34 rfl (fun K hK => ?_) AllReadyH.nil)
   go_simp; go_at_call 80; refine (za _ _ _ _ _ _ w11 R26.out.rd R32.out.rd R33.out.rd (by (try simp only [la, lc, ln]); omega) (by (try simp only [la, lc, ln]); omega) (by (try simp only [la, lc, ln]); omega)).mono ?_; rintro e w12 ⟨v34, rfl, s34, b12⟩; have B12 := bN hHeld.1 b12; have R34 := rS s34
   replace R26 := rB R26 b12; replace R32 := rB R32 b12; replace R33 := rB R33 b12
   have S34 := sM s34 hHeld.1.size
   clear b12 s34
   clear hHeld; refine hK.out _ _ (KP _ B12.out) (fun hHeld => ?_); clear hK K; try simp only [Act.put, pa, pz, ps]
   refine tkm 11 4 (v34) hHeld rfl ?_; try simp only [Act.put, pa, pz, ps]
   have R4 := R34; clear R34
   have S4 := S34; clear S34
   refine wpAnyH_done (by kernel_rfl) ?_ _
   go_wp2
   go_ret
   exact ⟨_, rfl, by rw [HE.out]; exact S4.out.mono (by omega), B0.out.trans (B12.out.mono (by omega))⟩
  ·go_simp; obtain ⟨w13, h13, b13, B13, R33⟩ := nB hHeld.1 [⟨#[59]⟩] #[.string ⟨#[59]⟩] rfl rfl; rw [<- h13]; clear h13
   replace R32 := rB R32 b13
   clear b13
   clear hHeld; refine hK.out _ _ (KP _ B13.out) (fun hHeld => ?_); clear hK K; try simp only [Act.put, pa, pz, ps]
   refine rdy [2] (arc 26 rfl (fun K hK => ?_) AllReadyH.nil)
   go_simp; obtain ⟨w14, h14, b14, B14, R26⟩ := nB hHeld.1 [t, ⟨#[61]⟩] #[.string t, .string ⟨#[61]⟩] rfl rfl; rw [<- h14]; clear h14
   replace R32 := rB R32 b14; replace R33 := rB R33 b14
   clear b14
   clear hHeld; refine hK.out _ _ (KP _ B14.out) (fun hHeld => ?_); clear hK K; try simp only [Act.put, pa, pz, ps]
   refine rdy [10] (arc 34 rfl (fun K hK => ?_) AllReadyH.nil)
   go_simp; go_at_call 80; refine (za _ _ _ _ _ _ w14 R26.out.rd R32.out.rd R33.out.rd (by (try simp only [la, lc, ln]); omega) (by (try simp only [la, lc, ln]); omega) (by (try simp only [la, lc, ln]); omega)).mono ?_; rintro e w15 ⟨v34, rfl, s34, b15⟩; have B15 := bN hHeld.1 b15; have R34 := rS s34
   replace R26 := rB R26 b15; replace R32 := rB R32 b15; replace R33 := rB R33 b15
   have S34 := sM s34 hHeld.1.size
   clear b15 s34
   clear hHeld; refine hK.out _ _ (KP _ B15.out) (fun hHeld => ?_); clear hK K; try simp only [Act.put, pa, pz, ps]
   refine tkm 11 4 (v34) hHeld rfl ?_; try simp only [Act.put, pa, pz, ps]
   have R4 := R34; clear R34
   have S4 := S34; clear S34
   refine wpAnyH_done (by kernel_rfl) ?_ _
   go_wp2
   go_ret
   exact ⟨_, rfl, by rw [HE.out]; exact S4.out.mono (by omega), B0.out.trans (B15.out.mono (by omega))⟩
 ·go_simp; obtain ⟨w16, h16, b16, B16, R33⟩ := nB hHeld.1 [⟨#[59]⟩] #[.string ⟨#[59]⟩] rfl rfl; rw [<- h16]; clear h16
  clear b16
  clear hHeld; refine hK.out _ _ (KP _ B16.out) (fun hHeld => ?_); clear hK K; try simp only [Act.put, pa, pz, ps]
  refine rdy [2, 8] (arc 26 rfl (fun K hK => ?_) (arc 32 rfl (fun K hK => ?_) AllReadyH.nil))
  ·go_simp; obtain ⟨w17, h17, b17, B17, R26⟩ := nB hHeld.1 [t, ⟨#[61]⟩] #[.string t, .string ⟨#[61]⟩] rfl rfl; rw [<- h17]; clear h17
   replace R33 := rB R33 b17
   clear b17
   clear hHeld; refine hK.out _ _ (KP _ B17.out) (fun hHeld => ?_); clear hK K; try simp only [Act.put, pa, pz, ps]
   refine rdy [8] (arc 32 rfl (fun K hK => ?_) AllReadyH.nil)
   go_simp; go_at_call 36; refine (HR.out w17 0 (by omega) hHeld.1).mono ?_; rintro e w18 ⟨v32, rfl, s32, b18⟩; have B18 := bN hHeld.1 b18; have R32 := rS s32
   replace R26 := rB R26 b18; replace R33 := rB R33 b18
   clear b18 s32
   clear hHeld; refine hK.out _ _ (KP _ B18.out) (fun hHeld => ?_); clear hK K; try simp only [Act.put, pa, pz, ps]
   refine rdy [10] (arc 34 rfl (fun K hK => ?_) AllReadyH.nil)
   go_simp; go_at_call 80; refine (za _ _ _ _ _ _ w18 R26.out.rd R32.out.rd R33.out.rd (by (try simp only [la, lc, ln]); omega) (by (try simp only [la, lc, ln]); omega) (by (try simp only [la, lc, ln]); omega)).mono ?_; rintro e w19 ⟨v34, rfl, s34, b19⟩; have B19 := bN hHeld.1 b19; have R34 := rS s34
   replace R26 := rB R26 b19; replace R32 := rB R32 b19; replace R33 := rB R33 b19
   have S34 := sM s34 hHeld.1.size
   clear b19 s34
   clear hHeld; refine hK.out _ _ (KP _ B19.out) (fun hHeld => ?_); clear hK K; try simp only [Act.put, pa, pz, ps]
   refine tkm 11 4 (v34) hHeld rfl ?_; try simp only [Act.put, pa, pz, ps]
   have R4 := R34; clear R34
   have S4 := S34; clear S34
   refine wpAnyH_done (by kernel_rfl) ?_ _
   go_wp2
   go_ret
   exact ⟨_, rfl, by rw [HE.out]; exact S4.out.mono (by omega), B0.out.trans (B19.out.mono (by omega))⟩
  ·go_simp; go_at_call 36; refine (HR.out w16 0 (by omega) hHeld.1).mono ?_; rintro e w20 ⟨v32, rfl, s32, b20⟩; have B20 := bN hHeld.1 b20; have R32 := rS s32
   replace R33 := rB R33 b20
   clear b20 s32
   clear hHeld; refine hK.out _ _ (KP _ B20.out) (fun hHeld => ?_); clear hK K; try simp only [Act.put, pa, pz, ps]
   refine rdy [2] (arc 26 rfl (fun K hK => ?_) AllReadyH.nil)
   go_simp; obtain ⟨w21, h21, b21, B21, R26⟩ := nB hHeld.1 [t, ⟨#[61]⟩] #[.string t, .string ⟨#[61]⟩] rfl rfl; rw [<- h21]; clear h21
   replace R32 := rB R32 b21; replace R33 := rB R33 b21
   clear b21
   clear hHeld; refine hK.out _ _ (KP _ B21.out) (fun hHeld => ?_); clear hK K; try simp only [Act.put, pa, pz, ps]
   refine rdy [10] (arc 34 rfl (fun K hK => ?_) AllReadyH.nil)
   go_simp; go_at_call 80; refine (za _ _ _ _ _ _ w21 R26.out.rd R32.out.rd R33.out.rd (by (try simp only [la, lc, ln]); omega) (by (try simp only [la, lc, ln]); omega) (by (try simp only [la, lc, ln]); omega)).mono ?_; rintro e w22 ⟨v34, rfl, s34, b22⟩; have B22 := bN hHeld.1 b22; have R34 := rS s34
   replace R26 := rB R26 b22; replace R32 := rB R32 b22; replace R33 := rB R33 b22
   have S34 := sM s34 hHeld.1.size
   clear b22 s34
   clear hHeld; refine hK.out _ _ (KP _ B22.out) (fun hHeld => ?_); clear hK K; try simp only [Act.put, pa, pz, ps]
   refine tkm 11 4 (v34) hHeld rfl ?_; try simp only [Act.put, pa, pz, ps]
   have R4 := R34; clear R34
   have S4 := S34; clear S34
   refine wpAnyH_done (by kernel_rfl) ?_ _
   go_wp2
   go_ret
   exact ⟨_, rfl, by rw [HE.out]; exact S4.out.mono (by omega), B0.out.trans (B22.out.mono (by omega))⟩
end Go.Proofs.YtiglkhkfbgjjoaaDoor
