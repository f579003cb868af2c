/- - -/
import Derived.Test.YtiglkhkfbgjjoaaDoorQMtA
namespace Go.Proofs.YtiglkhkfbgjjoaaDoor
set_option maxRecDepth 20000
open Go.RowKit Go.PlainAid Go.Maps
set_option linter.unusedSimpArgs false
set_option linter.unusedVariables false
set_option maxHeartbeats 4000000 in
theorem zks (a : Option Addr) (L c : Nat) (top : Int) (t : ByteArray) (m : Nat) (ak : Option Addr) (ck : Nat) (y : Nat -> Int) (rec : Int -> List ByteArray) (T : Nat) (w : World) (hm : m <= 10) (hk : SlF T w (.slice ak (2) ck) (2) (2) (fun i => .int .i64 (y i))) (hT : T <= w.heap.size) (hc1 : 2 <= ck) (hc2 : ck <= 1048576) (hs : smN rec y (2) <= 100000)
 (hr : ∀ (V : World) (m : Nat), m < 2 -> Below w.heap.size w V -> Calls Tryd.prog 36 #[.agg #[.slice a L c, .int .i64 top], .int .i64 (y m)] V (zc V (rec (y m)))) :
 Calls Tryd.prog 78 #[.agg #[.slice a L c, .int .i64 top], .agg #[.int .i64 10, .string t, .int .i64 (m : Int), .slice ak (2) ck]] w (zc w (bod rec ⟨10, t, (m : Int), 2, y⟩)) := by
 obtain ⟨bk, ok, ck2, hv, tk1, lk, hkk⟩ := hk.parts (k := 0) (by omega)
 simp only [Value.slice.injEq] at hv
 obtain ⟨rfl, _, rfl⟩ := hv
 have yc0 := hkk 0 (by omega)
 rw [Nat.add_zero] at yc0
 have yc1 := hkk 1 (by omega)
 have n0 : (rec (y 0)).length <= 100000 := Nat.le_trans (smA rec y (by omega : 0 < 2)) hs
 have n1 : (rec (y 1)).length <= 100000 := Nat.le_trans (smA rec y (by omega : 1 < 2)) hs
 have hm1 : (m : Int) < 11 := by omega
 have hm2 : (m : Int) <= 10 := by omega
 obtain ⟨ob, hob⟩ : ∃ s, opL.getD m ⟨#[]⟩ = s := ⟨_, rfl⟩
 have HOB := hI hob
 clear hob
 have HE : Hid (bod rec ⟨10, t, (m : Int), 2, y⟩ = ([⟨#[40]⟩] ++ rec (y 0) ++ [ob]) ++ rec (y 1) ++ [⟨#[41]⟩]) := by show bod _ _ = _; rw [<- HOB.out]; simp [bod, opB]
 obtain ⟨W0, hW0⟩ : ∃ V, V = (w.alloc (.cells #[.slice a L c, .int .i64 top] 41)).alloc (.cells #[.int .i64 10, .string t, .int .i64 (m : Int), .slice (some ⟨bk, ok, none⟩) 2 ck] 71) := ⟨_, rfl⟩
 have z0 : W0.heap.size = w.heap.size + 2 := by rw [hW0]; simp
 have B0 : Hid (Below w.heap.size w W0) := by rw [hW0]; exact ((Below.refl _ _).alloc (Nat.le_refl _) _).alloc (by simp) _
 have T0 : ∀ z, W0.cell? ⟨w.heap.size, z, none⟩ = (#[.slice a L c, .int .i64 top] : Array Value)[z]? := fun z => by rw [hW0]; simp [go_sem]
 have K0 : ∀ z, W0.cell? ⟨w.heap.size + 1, z, none⟩ = (#[.int .i64 10, .string t, .int .i64 (m : Int), .slice (some ⟨bk, ok, none⟩) 2 ck] : Array Value)[z]? := fun z => by rw [hW0]; simp [go_sem]
 have HR : Hid (∀ (V : World) (m : Nat), m < 2 -> Below W0.heap.size W0 V -> Calls Tryd.prog 36 #[.agg #[.slice a L c, .int .i64 top], .int .i64 (y m)] V (zc V (rec (y m)))) := fun V m hm hV => hr V m hm (B0.out.trans (hV.mono (by omega)))
 have BK : Hid (∀ V, Below W0.heap.size W0 V -> Below w.heap.size w V) := fun V hV => B0.out.trans (hV.mono (by omega))
 have KP : ∀ V, Below W0.heap.size W0 V -> (SQ2 W0 w.heap.size #[.slice a L c, .int .i64 top] #[.int .i64 10, .string t, .int .i64 (m : Int), .slice (some ⟨bk, ok, none⟩) 2 ck] bk (ok) (y 0) (ok + 1) (y 1)) V := fun V hV => ⟨hV, fun z => (hV.cell (p := ⟨w.heap.size, z, none⟩) (by dsimp only; omega)).trans (T0 z), fun z => (hV.cell (p := ⟨w.heap.size + 1, z, none⟩) (by dsimp only; omega)).trans (K0 z), ((BK.out V hV).cell (p := ⟨bk, ok, none⟩) (by dsimp only; omega)).trans yc0, ((BK.out V hV).cell (p := ⟨bk, ok + 1, none⟩) (by dsimp only; omega)).trans yc1⟩
 have KP' : Hid (∀ V, Below W0.heap.size W0 V -> (SQ2 W0 w.heap.size #[.slice a L c, .int .i64 top] #[.int .i64 10, .string t, .int .i64 (m : Int), .slice (some ⟨bk, ok, none⟩) 2 ck] bk (ok) (y 0) (ok + 1) (y 1)) V) := KP
 clear hk hr hs hkk KP T0 K0 yc0 yc1
 have BW : Hid (Below W0.heap.size W0 W0) := Below.refl _ _
 go_enter Tryd.func78, Tryd.ntmps78
 go_wp2_with fail
 rw [<- hW0]
 clear hW0
 have KP := KP'.out
 clear KP'
 refine wp_region_held_drew (by kernel_rfl) (KP _ BW.out.drew) (fun hHeld => ?_); obtain ⟨w1, h1, b1⟩ := dR W0; rw [<- h1] at hHeld ⊢; clear h1
 clear b1
 refine tkm 1 109 (.pointer (some ⟨w.heap.size + 1, 2, none⟩)) hHeld rfl ?_; try simp only [Act.put, pa, pz, ps]
 refine tkm 2 110 (.int .i64 (m : Int)) hHeld rfl ?_; try simp only [Act.put, pa, pz, ps]
 refine rdy [0] (arc 108 rfl (fun K hK => ?_) AllReadyH.nil)
 go_simp; go_at_call 119; refine (zch w1).mono ?_; rintro e w2 ⟨rfl, s108, b2⟩; have B2 := bN hHeld.1 b2; have R108 := rS s108
 clear b2 s108
 clear hHeld; refine hK.out _ _ (KP _ B2.out) (fun hHeld => ?_); clear hK K; try simp only [Act.put, pa, pz, ps]
 refine tkm 3 111 (.pointer (some ⟨w1.heap.size, m, none⟩)) hHeld rfl ?_; try simp only [Act.put, pa, pz, ps]
 refine rdy [4] (arc 112 rfl (fun K hK => ?_) AllReadyH.nil)
 have hcell := (HOB.out ▸ R108.out.at_ rfl (by show m < 11; omega)); go_simp; clear hcell; have B3 := hI hHeld.1
 clear hHeld; refine hK.out _ _ (KP _ B3.out) (fun hHeld => ?_); clear hK K; try simp only [Act.put, pa, pz, ps]
 refine tkm 5 7 (.string ob) hHeld rfl ?_; try simp only [Act.put, pa, pz, ps]
 refine wpAnyH_done (by kernel_rfl) ?_ _
 clear R108
 obtain ⟨-, tc, kc, -⟩ := KP _ B3.out; have lz := B3.out.size; have lz1 : w.heap.size + 1 < w2.heap.size := by omega
 go_wp2_with fail
 clear tc kc lz lz1
 refine wp_region_held_drew (by kernel_rfl) (KP _ B3.out.drew) (fun hHeld => ?_); obtain ⟨w4, h4, b4⟩ := dR w2; rw [<- h4] at hHeld ⊢; clear h4
 clear b4
 refine tkm 1 120 (.agg #[.slice a L c, .int .i64 top]) hHeld rfl ?_; try simp only [Act.put, pa, pz, ps]
 refine tkm 2 121 (.pointer (some ⟨w.heap.size + 1, 3, none⟩)) hHeld rfl ?_; try simp only [Act.put, pa, pz, ps]
 refine tkm 3 122 (.slice (some ⟨bk, ok, none⟩) 2 ck) hHeld rfl ?_; try simp only [Act.put, pa, pz, ps]
 refine tkm 4 123 (.pointer (some ⟨bk, ok, none⟩)) hHeld rfl ?_; try simp only [Act.put, pa, pz, ps]
 refine tkm 5 124 (.int .i64 (y 0)) hHeld rfl ?_; try simp only [Act.put, pa, pz, ps]
 refine tkm 7 126 (.string ob) hHeld rfl ?_; try simp only [Act.put, pa, pz, ps]
 refine rdy [0, 6, 8] (arc 119 rfl (fun K hK => ?_) (arc 125 rfl (fun K hK => ?_) (arc 127 rfl (fun K hK => ?_) AllReadyH.nil)))
 ·go_simp; obtain ⟨w5, h5, b5, B5, R119⟩ := nB hHeld.1 [⟨#[40]⟩] #[.string ⟨#[40]⟩] rfl rfl; rw [<- h5]; clear h5
  clear b5
  clear hHeld; refine hK.out _ _ (KP _ B5.out) (fun hHeld => ?_); clear hK K; try simp only [Act.put, pa, pz, ps]
  refine rdy [6, 8] (arc 125 rfl (fun K hK => ?_) (arc 127 rfl (fun K hK => ?_) AllReadyH.nil))
  ·go_simp; go_at_call 36; refine (HR.out w5 0 (by omega) hHeld.1).mono ?_; rintro e w6 ⟨v125, rfl, s125, b6⟩; have B6 := bN hHeld.1 b6; have R125 := rS s125
   replace R119 := rB R119 b6
   clear b6 s125
   clear hHeld; refine hK.out _ _ (KP _ B6.out) (fun hHeld => ?_); clear hK K; try simp only [Act.put, pa, pz, ps]
   refine rdy [8] (arc 127 rfl (fun K hK => ?_) AllReadyH.nil)
   go_simp; obtain ⟨w7, h7, b7, B7, R127⟩ := nB hHeld.1 [ob] #[.string ob] rfl rfl; rw [<- h7]; clear h7
   replace R119 := rB R119 b7; replace R125 := rB R125 b7
   clear b7
   clear hHeld; refine hK.out _ _ (KP _ B7.out) (fun hHeld => ?_); clear hK K; try simp only [Act.put, pa, pz, ps]
   refine rdy [9] (arc 128 rfl (fun K hK => ?_) AllReadyH.nil)
   go_simp; go_at_call 80; refine (za _ _ _ _ _ _ w7 R119.out.rd R125.out.rd R127.out.rd (by (try simp only [la, lc, ln]); omega) (by (try simp only [la, lc, ln]); omega) (by (try simp only [la, lc, ln]); omega)).mono ?_; rintro e w8 ⟨v128, rfl, s128, b8⟩; have B8 := bN hHeld.1 b8; have R128 := rS s128
   replace R119 := rB R119 b8; replace R125 := rB R125 b8; replace R127 := rB R127 b8
   have S128 := sM s128 hHeld.1.size
   clear b8 s128
   clear hHeld; refine hK.out _ _ (KP _ B8.out) (fun hHeld => ?_); clear hK K; try simp only [Act.put, pa, pz, ps]
   refine tkm 10 8 (v128) hHeld rfl ?_; try simp only [Act.put, pa, pz, ps]
   have R8 := R128; clear R128
   have S8 := S128; clear S128
   refine wpAnyH_done (by kernel_rfl) ?_ _
   clear R119; clear R125; clear R127; clear S8
   obtain ⟨-, tc, kc, -⟩ := KP _ B8.out; have lz := B8.out.size; have lz1 : w.heap.size + 1 < w8.heap.size := by omega
   go_wp2_with fail
   clear tc kc lz lz1
   refine wp_region_held_drew (by kernel_rfl) (KP _ B8.out.drew) (fun hHeld => ?_); obtain ⟨w9, h9, b9⟩ := dR w8; rw [<- h9] at hHeld ⊢; clear h9
   replace R8 := rB R8 b9
   clear b9
   refine tkm 0 129 (v128) hHeld rfl ?_; try simp only [Act.put, pa, pz, ps]
   have R129 := R8; clear R8
   refine tkm 1 130 (.agg #[.slice a L c, .int .i64 top]) hHeld rfl ?_; try simp only [Act.put, pa, pz, ps]
   refine tkm 2 131 (.pointer (some ⟨w.heap.size + 1, 3, none⟩)) hHeld rfl ?_; try simp only [Act.put, pa, pz, ps]
   refine tkm 3 132 (.slice (some ⟨bk, ok, none⟩) 2 ck) hHeld rfl ?_; try simp only [Act.put, pa, pz, ps]
   refine tkm 4 133 (.pointer (some ⟨bk, ok + 1, none⟩)) hHeld rfl ?_; try simp only [Act.put, pa, pz, ps]
   refine tkm 5 134 (.int .i64 (y 1)) hHeld rfl ?_; try simp only [Act.put, pa, pz, ps]
   refine rdy [6, 7] (arc 135 rfl (fun K hK => ?_) (arc 136 rfl (fun K hK => ?_) AllReadyH.nil))
   ·go_simp; go_at_call 36; refine (HR.out w9 1 (by omega) hHeld.1).mono ?_; rintro e w10 ⟨v135, rfl, s135, b10⟩; have B10 := bN hHeld.1 b10; have R135 := rS s135
    replace R129 := rB R129 b10
    clear b10 s135
    clear hHeld; refine hK.out _ _ (KP _ B10.out) (fun hHeld => ?_); clear hK K; try simp only [Act.put, pa, pz, ps]
    refine rdy [7] (arc 136 rfl (fun K hK => ?_) AllReadyH.nil)
    go_simp; obtain ⟨w11, h11, b11, B11, R136⟩ := nB hHeld.1 [⟨#[41]⟩] #[.string ⟨#[41]⟩] rfl rfl; rw [<- h11]; clear h11
    replace R129 := rB R129 b11; replace R135 := rB R135 b11
    clear b11
    clear hHeld; refine hK.out _ _ (KP _ B11.out) (fun hHeld => ?_); clear hK K; try simp only [Act.put, pa, pz, ps]
    refine rdy [8] (arc 137 rfl (fun K hK => ?_) AllReadyH.nil)
    go_simp; go_at_call 80; refine (za _ _ _ _ _ _ w11 R129.out.rd R135.out.rd R136.out.rd (by (try simp only [la, lc, ln]); omega) (by (try simp only [la, lc, ln]); omega) (by (try simp only [la, lc, ln]); omega)).mono ?_; rintro e w12 ⟨v137, rfl, s137, b12⟩; have B12 := bN hHeld.1 b12; have R137 := rS s137
    replace R129 := rB R129 b12; replace R135 := rB R135 b12; replace R136 := rB R136 b12
    have S137 := sM s137 hHeld.1.size
    clear b12 s137
    clear hHeld; refine hK.out _ _ (KP _ B12.out) (fun hHeld => ?_); clear hK K; try simp only [Act.put, pa, pz, ps]
    refine tkm 9 4 (v137) hHeld rfl ?_; try simp only [Act.put, pa, pz, ps]
    have R4 := R137; clear R137
    have S4 := S137; clear S137
    refine wpAnyH_done (by kernel_rfl) ?_ _
    go_wp2
    go_ret
    exact ⟨_, rfl, by rw [HE.out]; exact S4.out.mono (by omega), B0.out.trans (B12.out.mono (by omega))⟩
   ·go_simp; obtain ⟨w13, h13, b13, B13, R136⟩ := nB hHeld.1 [⟨#[41]⟩] #[.string ⟨#[41]⟩] rfl rfl; rw [<- h13]; clear h13
    replace R129 := rB R129 b13
    clear b13
    clear hHeld; refine hK.out _ _ (KP _ B13.out) (fun hHeld => ?_); clear hK K; try simp only [Act.put, pa, pz, ps]
    refine rdy [6] (arc 135 rfl (fun K hK => ?_) AllReadyH.nil)
    go_simp; go_at_call 36; refine (HR.out w13 1 (by omega) hHeld.1).mono ?_; rintro e w14 ⟨v135, rfl, s135, b14⟩; have B14 := bN hHeld.1 b14; have R135 := rS s135
    replace R129 := rB R129 b14; replace R136 := rB R136 b14
    clear b14 s135
    clear hHeld; refine hK.out _ _ (KP _ B14.out) (fun hHeld => ?_); clear hK K; try simp only [Act.put, pa, pz, ps]
    refine rdy [8] (arc 137 rfl (fun K hK => ?_) AllReadyH.nil)
    go_simp; go_at_call 80; refine (za _ _ _ _ _ _ w14 R129.out.rd R135.out.rd R136.out.rd (by (try simp only [la, lc, ln]); omega) (by (try simp only [la, lc, ln]); omega) (by (try simp only [la, lc, ln]); omega)).mono ?_; rintro e w15 ⟨v137, rfl, s137, b15⟩; have B15 := bN hHeld.1 b15; have R137 := rS s137
    replace R129 := rB R129 b15; replace R135 := rB R135 b15; replace R136 := rB R136 b15
    have S137 := sM s137 hHeld.1.size
    clear b15 s137
    clear hHeld; refine hK.out _ _ (KP _ B15.out) (fun hHeld => ?_); clear hK K; try simp only [Act.put, pa, pz, ps]
    refine tkm 9 4 (v137) hHeld rfl ?_; try simp only [Act.put, pa, pz, ps]
    have R4 := R137; clear R137
    have S4 := S137; clear S137
    refine wpAnyH_done (by kernel_rfl) ?_ _
    go_wp2
    go_ret
    exact ⟨_, rfl, by rw [HE.out]; exact S4.out.mono (by omega), B0.out.trans (B15.out.mono (by omega))⟩
  ·go_simp; obtain ⟨w16, h16, b16, B16, R127⟩ := nB hHeld.1 [ob] #[.string ob] rfl rfl; rw [<- h16]; clear h16
   replace R119 := rB R119 b16
   clear b16
   clear hHeld; refine hK.out _ _ (KP _ B16.out) (fun hHeld => ?_); clear hK K; try simp only [Act.put, pa, pz, ps]
   refine rdy [6] (arc 125 rfl (fun K hK => ?_) AllReadyH.nil)
   go_simp; go_at_call 36; refine (HR.out w16 0 (by omega) hHeld.1).mono ?_; rintro e w17 ⟨v125, rfl, s125, b17⟩; have B17 := bN hHeld.1 b17; have R125 := rS s125
   replace R119 := rB R119 b17; replace R127 := rB R127 b17
   clear b17 s125
   clear hHeld; refine hK.out _ _ (KP _ B17.out) (fun hHeld => ?_); clear hK K; try simp only [Act.put, pa, pz, ps]
   refine rdy [9] (arc 128 rfl (fun K hK => ?_) AllReadyH.nil)
   go_simp; go_at_call 80; refine (za _ _ _ _ _ _ w17 R119.out.rd R125.out.rd R127.out.rd (by (try simp only [la, lc, ln]); omega) (by (try simp only [la, lc, ln]); omega) (by (try simp only [la, lc, ln]); omega)).mono ?_; rintro e w18 ⟨v128, rfl, s128, b18⟩; have B18 := bN hHeld.1 b18; have R128 := rS s128
   replace R119 := rB R119 b18; replace R125 := rB R125 b18; replace R127 := rB R127 b18
   have S128 := sM s128 hHeld.1.size
   clear b18 s128
   clear hHeld; refine hK.out _ _ (KP _ B18.out) (fun hHeld => ?_); clear hK K; try simp only [Act.put, pa, pz, ps]
   refine tkm 10 8 (v128) hHeld rfl ?_; try simp only [Act.put, pa, pz, ps]
   have R8 := R128; clear R128
   have S8 := S128; clear S128
   refine wpAnyH_done (by kernel_rfl) ?_ _
   clear R119; clear R125; clear R127; clear S8
   obtain ⟨-, tc, kc, -⟩ := KP _ B18.out; have lz := B18.out.size; have lz1 : w.heap.size + 1 < w18.heap.size := by omega
   go_wp2_with fail
   clear tc kc lz lz1
   refine wp_region_held_drew (by kernel_rfl) (KP _ B18.out.drew) (fun hHeld => ?_); obtain ⟨w19, h19, b19⟩ := dR w18; rw [<- h19] at hHeld ⊢; clear h19
   replace R8 := rB R8 b19
   clear b19
   refine tkm 0 129 (v128) hHeld rfl ?_; try simp only [Act.put, pa, pz, ps]
   have R129 := R8; clear R8
   refine tkm 1 130 (.agg #[.slice a L c, .int .i64 top]) hHeld rfl ?_; try simp only [Act.put, pa, pz, ps]
   refine tkm 2 131 (.pointer (some ⟨w.heap.size + 1, 3, none⟩)) hHeld rfl ?_; try simp only [Act.put, pa, pz, ps]
   refine tkm 3 132 (.slice (some ⟨bk, ok, none⟩) 2 ck) hHeld rfl ?_; try simp only [Act.put, pa, pz, ps]
   refine tkm 4 133 (.pointer (some ⟨bk, ok + 1, none⟩)) hHeld rfl ?_; try simp only [Act.put, pa, pz, ps]
   refine tkm 5 134 (.int .i64 (y 1)) hHeld rfl ?_; try simp only [Act.put, pa, pz, ps]
   refine rdy [6, 7] (arc 135 rfl (fun K hK => ?_) (arc 136 rfl (fun K hK => ?_) AllReadyH.nil))
   ·go_simp; go_at_call 36; refine (HR.out w19 1 (by omega) hHeld.1).mono ?_; rintro e w20 ⟨v135, rfl, s135, b20⟩; have B20 := bN hHeld.1 b20; have R135 := rS s135
    replace R129 := rB R129 b20
    clear b20 s135
    clear hHeld; refine hK.out _ _ (KP _ B20.out) (fun hHeld => ?_); clear hK K; try simp only [Act.put, pa, pz, ps]
    refine rdy [7] (arc 136 rfl (fun K hK => ?_) AllReadyH.nil)
    go_simp; obtain ⟨w21, h21, b21, B21, R136⟩ := nB hHeld.1 [⟨#[41]⟩] #[.string ⟨#[41]⟩] rfl rfl; rw [<- h21]; clear h21
    replace R129 := rB R129 b21; replace R135 := rB R135 b21
    clear b21
    clear hHeld; refine hK.out _ _ (KP _ B21.out) (fun hHeld => ?_); clear hK K; try simp only [Act.put, pa, pz, ps]
    refine rdy [8] (arc 137 rfl (fun K hK => ?_) AllReadyH.nil)
    go_simp; go_at_call 80; refine (za _ _ _ _ _ _ w21 R129.out.rd R135.out.rd R136.out.rd (by (try simp only [la, lc, ln]); omega) (by (try simp only [la, lc, ln]); omega) (by (try simp only [la, lc, ln]); omega)).mono ?_; rintro e w22 ⟨v137, rfl, s137, b22⟩; have B22 := bN hHeld.1 b22; have R137 := rS s137
    replace R129 := rB R129 b22; replace R135 := rB R135 b22; replace R136 := rB R136 b22
    have S137 := sM s137 hHeld.1.size
    clear b22 s137
    clear hHeld; refine hK.out _ _ (KP _ B22.out) (fun hHeld => ?_); clear hK K; try simp only [Act.put, pa, pz, ps]
    refine tkm 9 4 (v137) hHeld rfl ?_; try simp only [Act.put, pa, pz, ps]
    have R4 := R137; clear R137
    have S4 := S137; clear S137
    refine wpAnyH_done (by kernel_rfl) ?_ _
    go_wp2
    go_ret
    exact ⟨_, rfl, by rw [HE.out]; exact S4.out.mono (by omega), B0.out.trans (B22.out.mono (by omega))⟩
   ·go_simp; obtain ⟨w23, h23, b23, B23, R136⟩ := nB hHeld.1 [⟨#[41]⟩] #[.string ⟨#[41]⟩] rfl rfl; rw [<- h23]; clear h23
    replace R129 := rB R129 b23
    clear b23
    clear hHeld; refine hK.out _ _ (KP _ B23.out) (fun hHeld => ?_); clear hK K; try simp only [Act.put, pa, pz, ps]
    refine rdy [6] (arc 135 rfl (fun K hK => ?_) AllReadyH.nil)
    go_simp; go_at_call 36; refine (HR.out w23 1 (by omega) hHeld.1).mono ?_; rintro e w24 ⟨v135, rfl, s135, b24⟩; have B24 := bN hHeld.1 b24; have R135 := rS s135
    replace R129 := rB R129 b24; replace R136 := rB R136 b24
    clear b24 s135
    clear hHeld; refine hK.out _ _ (KP _ B24.out) (fun hHeld => ?_); clear hK K; try simp only [Act.put, pa, pz, ps]
    refine rdy [8] (arc 137 rfl (fun K hK => ?_) AllReadyH.nil)
    go_simp; go_at_call 80; refine (za _ _ _ _ _ _ w24 R129.out.rd R135.out.rd R136.out.rd (by (try simp only [la, lc, ln]); omega) (by (try simp only [la, lc, ln]); omega) (by (try simp only [la, lc, ln]); omega)).mono ?_; rintro e w25 ⟨v137, rfl, s137, b25⟩; have B25 := bN hHeld.1 b25; have R137 := rS s137
    replace R129 := rB R129 b25; replace R135 := rB R135 b25; replace R136 := rB R136 b25
    have S137 := sM s137 hHeld.1.size
    clear b25 s137
    clear hHeld; refine hK.out _ _ (KP _ B25.out) (fun hHeld => ?_); clear hK K; try simp only [Act.put, pa, pz, ps]
    refine tkm 9 4 (v137) hHeld rfl ?_; try simp only [Act.put, pa, pz, ps]
    have R4 := R137; clear R137
    have S4 := S137; clear S137
    refine wpAnyH_done (by kernel_rfl) ?_ _
    go_wp2
    go_ret
    exact ⟨_, rfl, by rw [HE.out]; exact S4.out.mono (by omega), B0.out.trans (B25.out.mono (by omega))⟩
 ·go_simp; go_at_call 36; refine (HR.out w4 0 (by omega) hHeld.1).mono ?_; rintro e w26 ⟨v125, rfl, s125, b26⟩; have B26 := bN hHeld.1 b26; have R125 := rS s125
  clear b26 s125
  clear hHeld; refine hK.out _ _ (KP _ B26.out) (fun hHeld => ?_); clear hK K; try simp only [Act.put, pa, pz, ps]
  refine rdy [0, 8] (arc 119 rfl (fun K hK => ?_) (arc 127 rfl (fun K hK => ?_) AllReadyH.nil))
  ·go_simp; obtain ⟨w27, h27, b27, B27, R119⟩ := nB hHeld.1 [⟨#[40]⟩] #[.string ⟨#[40]⟩] rfl rfl; rw [<- h27]; clear h27
   replace R125 := rB R125 b27
   clear b27
   clear hHeld; refine hK.out _ _ (KP _ B27.out) (fun hHeld => ?_); clear hK K; try simp only [Act.put, pa, pz, ps]
   refine rdy [8] (arc 127 rfl (fun K hK => ?_) AllReadyH.nil)
   go_simp; obtain ⟨w28, h28, b28, B28, R127⟩ := nB hHeld.1 [ob] #[.string ob] rfl rfl; rw [<- h28]; clear h28
   replace R119 := rB R119 b28; replace R125 := rB R125 b28
   clear b28
   clear hHeld; refine hK.out _ _ (KP _ B28.out) (fun hHeld => ?_); clear hK K; try simp only [Act.put, pa, pz, ps]
   refine rdy [9] (arc 128 rfl (fun K hK => ?_) AllReadyH.nil)
   go_simp; go_at_call 80; refine (za _ _ _ _ _ _ w28 R119.out.rd R125.out.rd R127.out.rd (by (try simp only [la, lc, ln]); omega) (by (try simp only [la, lc, ln]); omega) (by (try simp only [la, lc, ln]); omega)).mono ?_; rintro e w29 ⟨v128, rfl, s128, b29⟩; have B29 := bN hHeld.1 b29; have R128 := rS s128
   replace R119 := rB R119 b29; replace R125 := rB R125 b29; replace R127 := rB R127 b29
   have S128 := sM s128 hHeld.1.size
   clear b29 s128
   clear hHeld; refine hK.out _ _ (KP _ B29.out) (fun hHeld => ?_); clear hK K; try simp only [Act.put, pa, pz, ps]
   refine tkm 10 8 (v128) hHeld rfl ?_; try simp only [Act.put, pa, pz, ps]
   have R8 := R128; clear R128
   have S8 := S128; clear S128
   refine wpAnyH_done (by kernel_rfl) ?_ _
   clear R119; clear R125; clear R127; clear S8
   obtain ⟨-, tc, kc, -⟩ := KP _ B29.out; have lz := B29.out.size; have lz1 : w.heap.size + 1 < w29.heap.size := by omega
   go_wp2_with fail
   clear tc kc lz lz1
   refine wp_region_held_drew (by kernel_rfl) (KP _ B29.out.drew) (fun hHeld => ?_); obtain ⟨w30, h30, b30⟩ := dR w29; rw [<- h30] at hHeld ⊢; clear h30
   replace R8 := rB R8 b30
   clear b30
   refine tkm 0 129 (v128) hHeld rfl ?_; try simp only [Act.put, pa, pz, ps]
   have R129 := R8; clear R8
   refine tkm 1 130 (.agg #[.slice a L c, .int .i64 top]) hHeld rfl ?_; try simp only [Act.put, pa, pz, ps]
   refine tkm 2 131 (.pointer (some ⟨w.heap.size + 1, 3, none⟩)) hHeld rfl ?_; try simp only [Act.put, pa, pz, ps]
   refine tkm 3 132 (.slice (some ⟨bk, ok, none⟩) 2 ck) hHeld rfl ?_; try simp only [Act.put, pa, pz, ps]
   refine tkm 4 133 (.pointer (some ⟨bk, ok + 1, none⟩)) hHeld rfl ?_; try simp only [Act.put, pa, pz, ps]
   refine tkm 5 134 (.int .i64 (y 1)) hHeld rfl ?_; try simp only [Act.put, pa, pz, ps]
   refine rdy [6, 7] (arc 135 rfl (fun K hK => ?_) (arc 136 rfl (fun K hK => ?_) AllReadyH.nil))
   ·go_simp; go_at_call 36; refine (HR.out w30 1 (by omega) hHeld.1).mono ?_; rintro e w31 ⟨v135, rfl, s135, b31⟩; have B31 := bN hHeld.1 b31; have R135 := rS s135
    replace R129 := rB R129 b31
    clear b31 s135
    clear hHeld; refine hK.out _ _ (KP _ B31.out) (fun hHeld => ?_); clear hK K; try simp only [Act.put, pa, pz, ps]
    refine rdy [7] (arc 136 rfl (fun K hK => ?_) AllReadyH.nil)
    go_simp; obtain ⟨w32, h32, b32, B32, R136⟩ := nB hHeld.1 [⟨#[41]⟩] #[.string ⟨#[41]⟩] rfl rfl; rw [<- h32]; clear h32
    replace R129 := rB R129 b32; replace R135 := rB R135 b32
    clear b32
    clear hHeld; refine hK.out _ _ (KP _ B32.out) (fun hHeld => ?_); clear hK K; try simp only [Act.put, pa, pz, ps]
    refine rdy [8] (arc 137 rfl (fun K hK => ?_) AllReadyH.nil)
    go_simp; go_at_call 80; refine (za _ _ _ _ _ _ w32 R129.out.rd R135.out.rd R136.out.rd (by (try simp only [la, lc, ln]); omega) (by (try simp only [la, lc, ln]); omega) (by (try simp only [la, lc, ln]); omega)).mono ?_; rintro e w33 ⟨v137, rfl, s137, b33⟩; have B33 := bN hHeld.1 b33; have R137 := rS s137
    replace R129 := rB R129 b33; replace R135 := rB R135 b33; replace R136 := rB R136 b33
    have S137 := sM s137 hHeld.1.size
    clear b33 s137
    clear hHeld; refine hK.out _ _ (KP _ B33.out) (fun hHeld => ?_); clear hK K; try simp only [Act.put, pa, pz, ps]
    refine tkm 9 4 (v137) hHeld rfl ?_; try simp only [Act.put, pa, pz, ps]
    have R4 := R137; clear R137
    have S4 := S137; clear S137
    refine wpAnyH_done (by kernel_rfl) ?_ _
    go_wp2
    go_ret
    exact ⟨_, rfl, by rw [HE.out]; exact S4.out.mono (by omega), B0.out.trans (B33.out.mono (by omega))⟩
   ·go_simp; obtain ⟨w34, h34, b34, B34, R136⟩ := nB hHeld.1 [⟨#[41]⟩] #[.string ⟨#[41]⟩] rfl rfl; rw [<- h34]; clear h34
    replace R129 := rB R129 b34
    clear b34
    clear hHeld; refine hK.out _ _ (KP _ B34.out) (fun hHeld => ?_); clear hK K; try simp only [Act.put, pa, pz, ps]
    refine rdy [6] (arc 135 rfl (fun K hK => ?_) AllReadyH.nil)
    go_simp; go_at_call 36; refine (HR.out w34 1 (by omega) hHeld.1).mono ?_; rintro e w35 ⟨v135, rfl, s135, b35⟩; have B35 := bN hHeld.1 b35; have R135 := rS s135
    replace R129 := rB R129 b35; replace R136 := rB R136 b35
    clear b35 s135
    clear hHeld; refine hK.out _ _ (KP _ B35.out) (fun hHeld => ?_); clear hK K; try simp only [Act.put, pa, pz, ps]
    refine rdy [8] (arc 137 rfl (fun K hK => ?_) AllReadyH.nil)
    go_simp; go_at_call 80; refine (za _ _ _ _ _ _ w35 R129.out.rd R135.out.rd R136.out.rd (by (try simp only [la, lc, ln]); omega) (by (try simp only [la, lc, ln]); omega) (by (try simp only [la, lc, ln]); omega)).mono ?_; rintro e w36 ⟨v137, rfl, s137, b36⟩; have B36 := bN hHeld.1 b36; have R137 := rS s137
    replace R129 := rB R129 b36; replace R135 := rB R135 b36; replace R136 := rB R136 b36
    have S137 := sM s137 hHeld.1.size
    clear b36 s137
    clear hHeld; refine hK.out _ _ (KP _ B36.out) (fun hHeld => ?_); clear hK K; try simp only [Act.put, pa, pz, ps]
    refine tkm 9 4 (v137) hHeld rfl ?_; try simp only [Act.put, pa, pz, ps]
    have R4 := R137; clear R137
    have S4 := S137; clear S137
    refine wpAnyH_done (by kernel_rfl) ?_ _
    go_wp2
    go_ret
    exact ⟨_, rfl, by rw [HE.out]; exact S4.out.mono (by omega), B0.out.trans (B36.out.mono (by omega))⟩
  ·go_simp; obtain ⟨w37, h37, b37, B37, R127⟩ := nB hHeld.1 [ob] #[.string ob] rfl rfl; rw [<- h37]; clear h37
   replace R125 := rB R125 b37
   clear b37
   clear hHeld; refine hK.out _ _ (KP _ B37.out) (fun hHeld => ?_); clear hK K; try simp only [Act.put, pa, pz, ps]
   refine rdy [0] (arc 119 rfl (fun K hK => ?_) AllReadyH.nil)
   go_simp; obtain ⟨w38, h38, b38, B38, R119⟩ := nB hHeld.1 [⟨#[40]⟩] #[.string ⟨#[40]⟩] rfl rfl; rw [<- h38]; clear h38
   replace R125 := rB R125 b38; replace R127 := rB R127 b38
   clear b38
   clear hHeld; refine hK.out _ _ (KP _ B38.out) (fun hHeld => ?_); clear hK K; try simp only [Act.put, pa, pz, ps]
   refine rdy [9] (arc 128 rfl (fun K hK => ?_) AllReadyH.nil)
   go_simp; go_at_call 80; refine (za _ _ _ _ _ _ w38 R119.out.rd R125.out.rd R127.out.rd (by (try simp only [la, lc, ln]); omega) (by (try simp only [la, lc, ln]); omega) (by (try simp only [la, lc, ln]); omega)).mono ?_; rintro e w39 ⟨v128, rfl, s128, b39⟩; have B39 := bN hHeld.1 b39; have R128 := rS s128
   replace R119 := rB R119 b39; replace R125 := rB R125 b39; replace R127 := rB R127 b39
   have S128 := sM s128 hHeld.1.size
   clear b39 s128
   clear hHeld; refine hK.out _ _ (KP _ B39.out) (fun hHeld => ?_); clear hK K; try simp only [Act.put, pa, pz, ps]
   refine tkm 10 8 (v128) hHeld rfl ?_; try simp only [Act.put, pa, pz, ps]
   have R8 := R128; clear R128
   have S8 := S128; clear S128
   refine wpAnyH_done (by kernel_rfl) ?_ _
   clear R119; clear R125; clear R127; clear S8
   obtain ⟨-, tc, kc, -⟩ := KP _ B39.out; have lz := B39.out.size; have lz1 : w.heap.size + 1 < w39.heap.size := by omega
   go_wp2_with fail
   clear tc kc lz lz1
   refine wp_region_held_drew (by kernel_rfl) (KP _ B39.out.drew) (fun hHeld => ?_); obtain ⟨w40, h40, b40⟩ := dR w39; rw [<- h40] at hHeld ⊢; clear h40
   replace R8 := rB R8 b40
   clear b40
   refine tkm 0 129 (v128) hHeld rfl ?_; try simp only [Act.put, pa, pz, ps]
   have R129 := R8; clear R8
   refine tkm 1 130 (.agg #[.slice a L c, .int .i64 top]) hHeld rfl ?_; try simp only [Act.put, pa, pz, ps]
   refine tkm 2 131 (.pointer (some ⟨w.heap.size + 1, 3, none⟩)) hHeld rfl ?_; try simp only [Act.put, pa, pz, ps]
   refine tkm 3 132 (.slice (some ⟨bk, ok, none⟩) 2 ck) hHeld rfl ?_; try simp only [Act.put, pa, pz, ps]
   refine tkm 4 133 (.pointer (some ⟨bk, ok + 1, none⟩)) hHeld rfl ?_; try simp only [Act.put, pa, pz, ps]
   refine tkm 5 134 (.int .i64 (y 1)) hHeld rfl ?_; try simp only [Act.put, pa, pz, ps]
   refine rdy [6, 7] (arc 135 rfl (fun K hK => ?_) (arc 136 rfl (fun K hK => ?_) AllReadyH.nil))
   ·go_simp; go_at_call 36; refine (HR.out w40 1 (by omega) hHeld.1).mono ?_; rintro e w41 ⟨v135, rfl, s135, b41⟩; have B41 := bN hHeld.1 b41; have R135 := rS s135
    replace R129 := rB R129 b41
    clear b41 s135
    clear hHeld; refine hK.out _ _ (KP _ B41.out) (fun hHeld => ?_); clear hK K; try simp only [Act.put, pa, pz, ps]
    refine rdy [7] (arc 136 rfl (fun K hK => ?_) AllReadyH.nil)
    go_simp; obtain ⟨w42, h42, b42, B42, R136⟩ := nB hHeld.1 [⟨#[41]⟩] #[.string ⟨#[41]⟩] rfl rfl; rw [<- h42]; clear h42
    replace R129 := rB R129 b42; replace R135 := rB R135 b42
    clear b42
    clear hHeld; refine hK.out _ _ (KP _ B42.out) (fun hHeld => ?_); clear hK K; try simp only [Act.put, pa, pz, ps]
    refine rdy [8] (arc 137 rfl (fun K hK => ?_) AllReadyH.nil)
    go_simp; go_at_call 80; refine (za _ _ _ _ _ _ w42 R129.out.rd R135.out.rd R136.out.rd (by (try simp only [la, lc, ln]); omega) (by (try simp only [la, lc, ln]); omega) (by (try simp only [la, lc, ln]); omega)).mono ?_; rintro e w43 ⟨v137, rfl, s137, b43⟩; have B43 := bN hHeld.1 b43; have R137 := rS s137
    replace R129 := rB R129 b43; replace R135 := rB R135 b43; replace R136 := rB R136 b43
    have S137 := sM s137 hHeld.1.size
    clear b43 s137
    clear hHeld; refine hK.out _ _ (KP _ B43.out) (fun hHeld => ?_); clear hK K; try simp only [Act.put, pa, pz, ps]
    refine tkm 9 4 (v137) hHeld rfl ?_; try simp only [Act.put, pa, pz, ps]
    have R4 := R137; clear R137
    have S4 := S137; clear S137
    refine wpAnyH_done (by kernel_rfl) ?_ _
    go_wp2
    go_ret
    exact ⟨_, rfl, by rw [HE.out]; exact S4.out.mono (by omega), B0.out.trans (B43.out.mono (by omega))⟩
   ·go_simp; obtain ⟨w44, h44, b44, B44, R136⟩ := nB hHeld.1 [⟨#[41]⟩] #[.string ⟨#[41]⟩] rfl rfl; rw [<- h44]; clear h44
    replace R129 := rB R129 b44
    clear b44
    clear hHeld; refine hK.out _ _ (KP _ B44.out) (fun hHeld => ?_); clear hK K; try simp only [Act.put, pa, pz, ps]
    refine rdy [6] (arc 135 rfl (fun K hK => ?_) AllReadyH.nil)
    go_simp; go_at_call 36; refine (HR.out w44 1 (by omega) hHeld.1).mono ?_; rintro e w45 ⟨v135, rfl, s135, b45⟩; have B45 := bN hHeld.1 b45; have R135 := rS s135
    replace R129 := rB R129 b45; replace R136 := rB R136 b45
    clear b45 s135
    clear hHeld; refine hK.out _ _ (KP _ B45.out) (fun hHeld => ?_); clear hK K; try simp only [Act.put, pa, pz, ps]
    refine rdy [8] (arc 137 rfl (fun K hK => ?_) AllReadyH.nil)
    go_simp; go_at_call 80; refine (za _ _ _ _ _ _ w45 R129.out.rd R135.out.rd R136.out.rd (by (try simp only [la, lc, ln]); omega) (by (try simp only [la, lc, ln]); omega) (by (try simp only [la, lc, ln]); omega)).mono ?_; rintro e w46 ⟨v137, rfl, s137, b46⟩; have B46 := bN hHeld.1 b46; have R137 := rS s137
    replace R129 := rB R129 b46; replace R135 := rB R135 b46; replace R136 := rB R136 b46
    have S137 := sM s137 hHeld.1.size
    clear b46 s137
    clear hHeld; refine hK.out _ _ (KP _ B46.out) (fun hHeld => ?_); clear hK K; try simp only [Act.put, pa, pz, ps]
    refine tkm 9 4 (v137) hHeld rfl ?_; try simp only [Act.put, pa, pz, ps]
    have R4 := R137; clear R137
    have S4 := S137; clear S137
    refine wpAnyH_done (by kernel_rfl) ?_ _
    go_wp2
    go_ret
    exact ⟨_, rfl, by rw [HE.out]; exact S4.out.mono (by omega), B0.out.trans (B46.out.mono (by omega))⟩
 ·go_simp; obtain ⟨w47, h47, b47, B47, R127⟩ := nB hHeld.1 [ob] #[.string ob] rfl rfl; rw [<- h47]; clear h47
  clear b47
  clear hHeld; refine hK.out _ _ (KP _ B47.out) (fun hHeld => ?_); clear hK K; try simp only [Act.put, pa, pz, ps]
  refine rdy [0, 6] (arc 119 rfl (fun K hK => ?_) (arc 125 rfl (fun K hK => ?_) AllReadyH.nil))
  ·go_simp; obtain ⟨w48, h48, b48, B48, R119⟩ := nB hHeld.1 [⟨#[40]⟩] #[.string ⟨#[40]⟩] rfl rfl; rw [<- h48]; clear h48
   replace R127 := rB R127 b48
   clear b48
   clear hHeld; refine hK.out _ _ (KP _ B48.out) (fun hHeld => ?_); clear hK K; try simp only [Act.put, pa, pz, ps]
   refine rdy [6] (arc 125 rfl (fun K hK => ?_) AllReadyH.nil)
   go_simp; go_at_call 36; refine (HR.out w48 0 (by omega) hHeld.1).mono ?_; rintro e w49 ⟨v125, rfl, s125, b49⟩; have B49 := bN hHeld.1 b49; have R125 := rS s125
   replace R119 := rB R119 b49; replace R127 := rB R127 b49
   clear b49 s125
   clear hHeld; refine hK.out _ _ (KP _ B49.out) (fun hHeld => ?_); clear hK K; try simp only [Act.put, pa, pz, ps]
   refine rdy [9] (arc 128 rfl (fun K hK => ?_) AllReadyH.nil)
   go_simp; go_at_call 80; refine (za _ _ _ _ _ _ w49 R119.out.rd R125.out.rd R127.out.rd (by (try simp only [la, lc, ln]); omega) (by (try simp only [la, lc, ln]); omega) (by (try simp only [la, lc, ln]); omega)).mono ?_; rintro e w50 ⟨v128, rfl, s128, b50⟩; have B50 := bN hHeld.1 b50; have R128 := rS s128
   replace R119 := rB R119 b50; replace R125 := rB R125 b50; replace R127 := rB R127 b50
   have S128 := sM s128 hHeld.1.size
   clear b50 s128
   clear hHeld; refine hK.out _ _ (KP _ B50.out) (fun hHeld => ?_); clear hK K; try simp only [Act.put, pa, pz, ps]
   refine tkm 10 8 (v128) hHeld rfl ?_; try simp only [Act.put, pa, pz, ps]
   have R8 := R128; clear R128
   have S8 := S128; clear S128
   refine wpAnyH_done (by kernel_rfl) ?_ _
   clear R119; clear R125; clear R127; clear S8
   obtain ⟨-, tc, kc, -⟩ := KP _ B50.out; have lz := B50.out.size; have lz1 : w.heap.size + 1 < w50.heap.size := by omega
   go_wp2_with fail
   clear tc kc lz lz1
   refine wp_region_held_drew (by kernel_rfl) (KP _ B50.out.drew) (fun hHeld => ?_); obtain ⟨w51, h51, b51⟩ := dR w50; rw [<- h51] at hHeld ⊢; clear h51
   replace R8 := rB R8 b51
   clear b51
   refine tkm 0 129 (v128) hHeld rfl ?_; try simp only [Act.put, pa, pz, ps]
   have R129 := R8; clear R8
   refine tkm 1 130 (.agg #[.slice a L c, .int .i64 top]) hHeld rfl ?_; try simp only [Act.put, pa, pz, ps]
   refine tkm 2 131 (.pointer (some ⟨w.heap.size + 1, 3, none⟩)) hHeld rfl ?_; try simp only [Act.put, pa, pz, ps]
   refine tkm 3 132 (.slice (some ⟨bk, ok, none⟩) 2 ck) hHeld rfl ?_; try simp only [Act.put, pa, pz, ps]
   refine tkm 4 133 (.pointer (some ⟨bk, ok + 1, none⟩)) hHeld rfl ?_; try simp only [Act.put, pa, pz, ps]
   refine tkm 5 134 (.int .i64 (y 1)) hHeld rfl ?_; try simp only [Act.put, pa, pz, ps]
   refine rdy [6, 7] (arc 135 rfl (fun K hK => ?_) (arc 136 rfl (fun K hK => ?_) AllReadyH.nil))
   ·go_simp; go_at_call 36; refine (HR.out w51 1 (by omega) hHeld.1).mono ?_; rintro e w52 ⟨v135, rfl, s135, b52⟩; have B52 := bN hHeld.1 b52; have R135 := rS s135
    replace R129 := rB R129 b52
    clear b52 s135
    clear hHeld; refine hK.out _ _ (KP _ B52.out) (fun hHeld => ?_); clear hK K; try simp only [Act.put, pa, pz, ps]
    refine rdy [7] (arc 136 rfl (fun K hK => ?_) AllReadyH.nil)
    go_simp; obtain ⟨w53, h53, b53, B53, R136⟩ := nB hHeld.1 [⟨#[41]⟩] #[.string ⟨#[41]⟩] rfl rfl; rw [<- h53]; clear h53
    replace R129 := rB R129 b53; replace R135 := rB R135 b53
    clear b53
    clear hHeld; refine hK.out _ _ (KP _ B53.out) (fun hHeld => ?_); clear hK K; try simp only [Act.put, pa, pz, ps]
    refine rdy [8] (arc 137 rfl (fun K hK => ?_) AllReadyH.nil)
    go_simp; go_at_call 80; refine (za _ _ _ _ _ _ w53 R129.out.rd R135.out.rd R136.out.rd (by (try simp only [la, lc, ln]); omega) (by (try simp only [la, lc, ln]); omega) (by (try simp only [la, lc, ln]); omega)).mono ?_; rintro e w54 ⟨v137, rfl, s137, b54⟩; have B54 := bN hHeld.1 b54; have R137 := rS s137
    replace R129 := rB R129 b54; replace R135 := rB R135 b54; replace R136 := rB R136 b54
    have S137 := sM s137 hHeld.1.size
    clear b54 s137
    clear hHeld; refine hK.out _ _ (KP _ B54.out) (fun hHeld => ?_); clear hK K; try simp only [Act.put, pa, pz, ps]
    refine tkm 9 4 (v137) hHeld rfl ?_; try simp only [Act.put, pa, pz, ps]
    have R4 := R137; clear R137
    have S4 := S137; clear S137
    refine wpAnyH_done (by kernel_rfl) ?_ _
    go_wp2
    go_ret
    exact ⟨_, rfl, by rw [HE.out]; exact S4.out.mono (by omega), B0.out.trans (B54.out.mono (by omega))⟩
   ·go_simp; obtain ⟨w55, h55, b55, B55, R136⟩ := nB hHeld.1 [⟨#[41]⟩] #[.string ⟨#[41]⟩] rfl rfl; rw [<- h55]; clear h55
    replace R129 := rB R129 b55
    clear b55
    clear hHeld; refine hK.out _ _ (KP _ B55.out) (fun hHeld => ?_); clear hK K; try simp only [Act.put, pa, pz, ps]
    refine rdy [6] (arc 135 rfl (fun K hK => ?_) AllReadyH.nil)
    go_simp; go_at_call 36; refine (HR.out w55 1 (by omega) hHeld.1).mono ?_; rintro e w56 ⟨v135, rfl, s135, b56⟩; have B56 := bN hHeld.1 b56; have R135 := rS s135
    replace R129 := rB R129 b56; replace R136 := rB R136 b56
    clear b56 s135
    clear hHeld; refine hK.out _ _ (KP _ B56.out) (fun hHeld => ?_); clear hK K; try simp only [Act.put, pa, pz, ps]
    refine rdy [8] (arc 137 rfl (fun K hK => ?_) AllReadyH.nil)
    go_simp; go_at_call 80; refine (za _ _ _ _ _ _ w56 R129.out.rd R135.out.rd R136.out.rd (by (try simp only [la, lc, ln]); omega) (by (try simp only [la, lc, ln]); omega) (by (try simp only [la, lc, ln]); omega)).mono ?_; rintro e w57 ⟨v137, rfl, s137, b57⟩; have B57 := bN hHeld.1 b57; have R137 := rS s137
    replace R129 := rB R129 b57; replace R135 := rB R135 b57; replace R136 := rB R136 b57
    have S137 := sM s137 hHeld.1.size
    clear b57 s137
    clear hHeld; refine hK.out _ _ (KP _ B57.out) (fun hHeld => ?_); clear hK K; try simp only [Act.put, pa, pz, ps]
    refine tkm 9 4 (v137) hHeld rfl ?_; try simp only [Act.put, pa, pz, ps]
    have R4 := R137; clear R137
    have S4 := S137; clear S137
    refine wpAnyH_done (by kernel_rfl) ?_ _
    go_wp2
    go_ret
    exact ⟨_, rfl, by rw [HE.out]; exact S4.out.mono (by omega), B0.out.trans (B57.out.mono (by omega))⟩
  ·go_simp; go_at_call 36; refine (HR.out w47 0 (by omega) hHeld.1).mono ?_; rintro e w58 ⟨v125, rfl, s125, b58⟩; have B58 := bN hHeld.1 b58; have R125 := rS s125
   replace R127 := rB R127 b58
   clear b58 s125
   clear hHeld; refine hK.out _ _ (KP _ B58.out) (fun hHeld => ?_); clear hK K; try simp only [Act.put, pa, pz, ps]
   refine rdy [0] (arc 119 rfl (fun K hK => ?_) AllReadyH.nil)
   go_simp; obtain ⟨w59, h59, b59, B59, R119⟩ := nB hHeld.1 [⟨#[40]⟩] #[.string ⟨#[40]⟩] rfl rfl; rw [<- h59]; clear h59
   replace R125 := rB R125 b59; replace R127 := rB R127 b59
   clear b59
   clear hHeld; refine hK.out _ _ (KP _ B59.out) (fun hHeld => ?_); clear hK K; try simp only [Act.put, pa, pz, ps]
   refine rdy [9] (arc 128 rfl (fun K hK => ?_) AllReadyH.nil)
   go_simp; go_at_call 80; refine (za _ _ _ _ _ _ w59 R119.out.rd R125.out.rd R127.out.rd (by (try simp only [la, lc, ln]); omega) (by (try simp only [la, lc, ln]); omega) (by (try simp only [la, lc, ln]); omega)).mono ?_; rintro e w60 ⟨v128, rfl, s128, b60⟩; have B60 := bN hHeld.1 b60; have R128 := rS s128
   replace R119 := rB R119 b60; replace R125 := rB R125 b60; replace R127 := rB R127 b60
   have S128 := sM s128 hHeld.1.size
   clear b60 s128
   clear hHeld; refine hK.out _ _ (KP _ B60.out) (fun hHeld => ?_); clear hK K; try simp only [Act.put, pa, pz, ps]
   refine tkm 10 8 (v128) hHeld rfl ?_; try simp only [Act.put, pa, pz, ps]
   have R8 := R128; clear R128
   have S8 := S128; clear S128
   refine wpAnyH_done (by kernel_rfl) ?_ _
   clear R119; clear R125; clear R127; clear S8
   obtain ⟨-, tc, kc, -⟩ := KP _ B60.out; have lz := B60.out.size; have lz1 : w.heap.size + 1 < w60.heap.size := by omega
   go_wp2_with fail
   clear tc kc lz lz1
   refine wp_region_held_drew (by kernel_rfl) (KP _ B60.out.drew) (fun hHeld => ?_); obtain ⟨w61, h61, b61⟩ := dR w60; rw [<- h61] at hHeld ⊢; clear h61
   replace R8 := rB R8 b61
   clear b61
   refine tkm 0 129 (v128) hHeld rfl ?_; try simp only [Act.put, pa, pz, ps]
   have R129 := R8; clear R8
   refine tkm 1 130 (.agg #[.slice a L c, .int .i64 top]) hHeld rfl ?_; try simp only [Act.put, pa, pz, ps]
   refine tkm 2 131 (.pointer (some ⟨w.heap.size + 1, 3, none⟩)) hHeld rfl ?_; try simp only [Act.put, pa, pz, ps]
   refine tkm 3 132 (.slice (some ⟨bk, ok, none⟩) 2 ck) hHeld rfl ?_; try simp only [Act.put, pa, pz, ps]
   refine tkm 4 133 (.pointer (some ⟨bk, ok + 1, none⟩)) hHeld rfl ?_; try simp only [Act.put, pa, pz, ps]
   refine tkm 5 134 (.int .i64 (y 1)) hHeld rfl ?_; try simp only [Act.put, pa, pz, ps]
   refine rdy [6, 7] (arc 135 rfl (fun K hK => ?_) (arc 136 rfl (fun K hK => ?_) AllReadyH.nil))
   ·go_simp; go_at_call 36; refine (HR.out w61 1 (by omega) hHeld.1).mono ?_; rintro e w62 ⟨v135, rfl, s135, b62⟩; have B62 := bN hHeld.1 b62; have R135 := rS s135
    replace R129 := rB R129 b62
    clear b62 s135
    clear hHeld; refine hK.out _ _ (KP _ B62.out) (fun hHeld => ?_); clear hK K; try simp only [Act.put, pa, pz, ps]
    refine rdy [7] (arc 136 rfl (fun K hK => ?_) AllReadyH.nil)
    go_simp; obtain ⟨w63, h63, b63, B63, R136⟩ := nB hHeld.1 [⟨#[41]⟩] #[.string ⟨#[41]⟩] rfl rfl; rw [<- h63]; clear h63
    replace R129 := rB R129 b63; replace R135 := rB R135 b63
    clear b63
    clear hHeld; refine hK.out _ _ (KP _ B63.out) (fun hHeld => ?_); clear hK K; try simp only [Act.put, pa, pz, ps]
    refine rdy [8] (arc 137 rfl (fun K hK => ?_) AllReadyH.nil)
    go_simp; go_at_call 80; refine (za _ _ _ _ _ _ w63 R129.out.rd R135.out.rd R136.out.rd (by (try simp only [la, lc, ln]); omega) (by (try simp only [la, lc, ln]); omega) (by (try simp only [la, lc, ln]); omega)).mono ?_; rintro e w64 ⟨v137, rfl, s137, b64⟩; have B64 := bN hHeld.1 b64; have R137 := rS s137
    replace R129 := rB R129 b64; replace R135 := rB R135 b64; replace R136 := rB R136 b64
    have S137 := sM s137 hHeld.1.size
    clear b64 s137
    clear hHeld; refine hK.out _ _ (KP _ B64.out) (fun hHeld => ?_); clear hK K; try simp only [Act.put, pa, pz, ps]
    refine tkm 9 4 (v137) hHeld rfl ?_; try simp only [Act.put, pa, pz, ps]
    have R4 := R137; clear R137
    have S4 := S137; clear S137
    refine wpAnyH_done (by kernel_rfl) ?_ _
    go_wp2
    go_ret
    exact ⟨_, rfl, by rw [HE.out]; exact S4.out.mono (by omega), B0.out.trans (B64.out.mono (by omega))⟩
   ·go_simp; obtain ⟨w65, h65, b65, B65, R136⟩ := nB hHeld.1 [⟨#[41]⟩] #[.string ⟨#[41]⟩] rfl rfl; rw [<- h65]; clear h65
    replace R129 := rB R129 b65
    clear b65
    clear hHeld; refine hK.out _ _ (KP _ B65.out) (fun hHeld => ?_); clear hK K; try simp only [Act.put, pa, pz, ps]
    refine rdy [6] (arc 135 rfl (fun K hK => ?_) AllReadyH.nil)
    go_simp; go_at_call 36; refine (HR.out w65 1 (by omega) hHeld.1).mono ?_; rintro e w66 ⟨v135, rfl, s135, b66⟩; have B66 := bN hHeld.1 b66; have R135 := rS s135
    replace R129 := rB R129 b66; replace R136 := rB R136 b66
    clear b66 s135
    clear hHeld; refine hK.out _ _ (KP _ B66.out) (fun hHeld => ?_); clear hK K; try simp only [Act.put, pa, pz, ps]
    refine rdy [8] (arc 137 rfl (fun K hK => ?_) AllReadyH.nil)
    go_simp; go_at_call 80; refine (za _ _ _ _ _ _ w66 R129.out.rd R135.out.rd R136.out.rd (by (try simp only [la, lc, ln]); omega) (by (try simp only [la, lc, ln]); omega) (by (try simp only [la, lc, ln]); omega)).mono ?_; rintro e w67 ⟨v137, rfl, s137, b67⟩; have B67 := bN hHeld.1 b67; have R137 := rS s137
    replace R129 := rB R129 b67; replace R135 := rB R135 b67; replace R136 := rB R136 b67
    have S137 := sM s137 hHeld.1.size
    clear b67 s137
    clear hHeld; refine hK.out _ _ (KP _ B67.out) (fun hHeld => ?_); clear hK K; try simp only [Act.put, pa, pz, ps]
    refine tkm 9 4 (v137) hHeld rfl ?_; try simp only [Act.put, pa, pz, ps]
    have R4 := R137; clear R137
    have S4 := S137; clear S137
    refine wpAnyH_done (by kernel_rfl) ?_ _
    go_wp2
    go_ret
    exact ⟨_, rfl, by rw [HE.out]; exact S4.out.mono (by omega), B0.out.trans (B67.out.mono (by omega))⟩
end Go.Proofs.YtiglkhkfbgjjoaaDoor
