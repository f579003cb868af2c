/- - -/
import Derived.Test.YtiglkhkfbgjjoaaDoorQMtA
namespace Go.Proofs.YtiglkhkfbgjjoaaDoor
set_option maxRecDepth 20000
open Go.RowKit Go.PlainAid Go.Maps
set_option linter.unusedSimpArgs false
set_option linter.unusedVariables false
set_option maxHeartbeats 4000000 in
theorem et8 (a : Option Addr) (L c : Nat) (top : Int) (t : ByteArray) (i : Int) (ak : Option Addr) (ck : Nat) (y : Nat -> Int) (rec : Int -> List ByteArray) (T : Nat) (w : World) (hk : SlF T w (.slice ak (2) ck) (2) (2) (fun i => .int .i64 (y i))) (hT : T <= w.heap.size) (hc1 : 2 <= ck) (hc2 : ck <= 1048576) (hs : smN rec y (2) <= 100000)
 (hr : ∀ (V : World) (m : Nat), m < 2 -> Below w.heap.size w V -> Calls Tryd.prog 36 #[.agg #[.slice a L c, .int .i64 top], .int .i64 (y m)] V (zc V (rec (y m)))) :
 Calls Tryd.prog 78 #[.agg #[.slice a L c, .int .i64 top], .agg #[.int .i64 8, .string t, .int .i64 i, .slice ak (2) ck]] w (zc w (bod rec ⟨8, t, i, 2, y⟩)) := by
 obtain ⟨bk, ok, ck2, hv, tk1, lk, hkk⟩ := hk.parts (k := 0) (by omega)
 simp only [Value.slice.injEq] at hv
 obtain ⟨rfl, _, rfl⟩ := hv
 have yc0 := hkk 0 (by omega)
 rw [Nat.add_zero] at yc0
 have yc1 := hkk 1 (by omega)
 have n0 : (rec (y 0)).length <= 100000 := Nat.le_trans (smA rec y (by omega : 0 < 2)) hs
 have n1 : (rec (y 1)).length <= 100000 := Nat.le_trans (smA rec y (by omega : 1 < 2)) hs
 have HE : Hid (bod rec ⟨8, t, i, 2, y⟩ = ((rec (y 0)) ++ ([⟨#[91]⟩])) ++ (rec (y 1)) ++ ([⟨#[93]⟩])) := by show bod _ _ = _; simp [bod, opB]
 obtain ⟨W0, hW0⟩ : ∃ V, V = (w.alloc (.cells #[.slice a L c, .int .i64 top] 41)).alloc (.cells #[.int .i64 8, .string t, .int .i64 i, .slice (some ⟨bk, ok, none⟩) 2 ck] 71) := ⟨_, rfl⟩
 have z0 : W0.heap.size = w.heap.size + 2 := by rw [hW0]; simp
 have B0 : Hid (Below w.heap.size w W0) := by rw [hW0]; exact ((Below.refl _ _).alloc (Nat.le_refl _) _).alloc (by simp) _
 have T0 : ∀ z, W0.cell? ⟨w.heap.size, z, none⟩ = (#[.slice a L c, .int .i64 top] : Array Value)[z]? := fun z => by rw [hW0]; simp [go_sem]
 have K0 : ∀ z, W0.cell? ⟨w.heap.size + 1, z, none⟩ = (#[.int .i64 8, .string t, .int .i64 i, .slice (some ⟨bk, ok, none⟩) 2 ck] : Array Value)[z]? := fun z => by rw [hW0]; simp [go_sem]
 have HR : Hid (∀ (V : World) (m : Nat), m < 2 -> Below W0.heap.size W0 V -> Calls Tryd.prog 36 #[.agg #[.slice a L c, .int .i64 top], .int .i64 (y m)] V (zc V (rec (y m)))) := fun V m hm hV => hr V m hm (B0.out.trans (hV.mono (by omega)))
 have BK : Hid (∀ V, Below W0.heap.size W0 V -> Below w.heap.size w V) := fun V hV => B0.out.trans (hV.mono (by omega))
 have KP : ∀ V, Below W0.heap.size W0 V -> (SQ2 W0 w.heap.size #[.slice a L c, .int .i64 top] #[.int .i64 8, .string t, .int .i64 i, .slice (some ⟨bk, ok, none⟩) 2 ck] bk (ok) (y 0) (ok + 1) (y 1)) V := fun V hV => ⟨hV, fun z => (hV.cell (p := ⟨w.heap.size, z, none⟩) (by dsimp only; omega)).trans (T0 z), fun z => (hV.cell (p := ⟨w.heap.size + 1, z, none⟩) (by dsimp only; omega)).trans (K0 z), ((BK.out V hV).cell (p := ⟨bk, ok, none⟩) (by dsimp only; omega)).trans yc0, ((BK.out V hV).cell (p := ⟨bk, ok + 1, none⟩) (by dsimp only; omega)).trans yc1⟩
 have KP' : Hid (∀ V, Below W0.heap.size W0 V -> (SQ2 W0 w.heap.size #[.slice a L c, .int .i64 top] #[.int .i64 8, .string t, .int .i64 i, .slice (some ⟨bk, ok, none⟩) 2 ck] bk (ok) (y 0) (ok + 1) (y 1)) V) := KP
 clear hk hr hs hkk KP T0 K0 yc0 yc1
 have BW : Hid (Below W0.heap.size W0 W0) := Below.refl _ _
 go_enter Tryd.func78, Tryd.ntmps78
 go_wp2_with fail
 rw [<- hW0]
 clear hW0
 have KP := KP'.out
 clear KP'
 refine wp_region_held_drew (by kernel_rfl) (KP _ BW.out.drew) (fun hHeld => ?_); obtain ⟨w1, h1, b1⟩ := dR W0; rw [<- h1] at hHeld ⊢; clear h1
 clear b1
 refine tkm 0 71 (.agg #[.slice a L c, .int .i64 top]) hHeld rfl ?_; try simp only [Act.put, pa, pz, ps]
 refine tkm 1 72 (.pointer (some ⟨w.heap.size + 1, 3, none⟩)) hHeld rfl ?_; try simp only [Act.put, pa, pz, ps]
 refine tkm 2 73 (.slice (some ⟨bk, ok, none⟩) 2 ck) hHeld rfl ?_; try simp only [Act.put, pa, pz, ps]
 refine tkm 3 74 (.pointer (some ⟨bk, ok, none⟩)) hHeld rfl ?_; try simp only [Act.put, pa, pz, ps]
 refine tkm 4 75 (.int .i64 (y 0)) hHeld rfl ?_; try simp only [Act.put, pa, pz, ps]
 refine tkm 8 79 (.agg #[.slice a L c, .int .i64 top]) hHeld rfl ?_; try simp only [Act.put, pa, pz, ps]
 refine tkm 9 80 (.pointer (some ⟨w.heap.size + 1, 3, none⟩)) hHeld rfl ?_; try simp only [Act.put, pa, pz, ps]
 refine tkm 10 81 (.slice (some ⟨bk, ok, none⟩) 2 ck) hHeld rfl ?_; try simp only [Act.put, pa, pz, ps]
 refine tkm 11 82 (.pointer (some ⟨bk, ok + 1, none⟩)) hHeld rfl ?_; try simp only [Act.put, pa, pz, ps]
 refine tkm 12 83 (.int .i64 (y 1)) hHeld rfl ?_; try simp only [Act.put, pa, pz, ps]
 refine rdy [5, 6, 14] (arc 76 rfl (fun K hK => ?_) (arc 77 rfl (fun K hK => ?_) (arc 85 rfl (fun K hK => ?_) AllReadyH.nil)))
 ·go_simp; go_at_call 36; refine (HR.out w1 0 (by omega) hHeld.1).mono ?_; rintro e w2 ⟨v76, rfl, s76, b2⟩; have B2 := bN hHeld.1 b2; have R76 := rS s76
  have S76 := sM s76 hHeld.1.size
  clear b2 s76
  clear hHeld; refine hK.out _ _ (KP _ B2.out) (fun hHeld => ?_); clear hK K; try simp only [Act.put, pa, pz, ps]
  refine rdy [6, 14] (arc 77 rfl (fun K hK => ?_) (arc 85 rfl (fun K hK => ?_) AllReadyH.nil))
  ·go_simp; obtain ⟨w3, h3, b3, B3, R77⟩ := nB hHeld.1 [⟨#[91]⟩] #[.string ⟨#[91]⟩] rfl rfl; rw [<- h3]; clear h3
   replace R76 := rB R76 b3; replace S76 := sB S76 b3
   clear b3
   clear hHeld; refine hK.out _ _ (KP _ B3.out) (fun hHeld => ?_); clear hK K; try simp only [Act.put, pa, pz, ps]
   refine rdy [7, 14] (arc 78 rfl (fun K hK => ?_) (arc 85 rfl (fun K hK => ?_) AllReadyH.nil))
   ·rw [if_pos (by kernel_rfl)]; refine zg (by rfl) W0.heap.size W0 _ _ (by rfl) S76.out hHeld.1 _ _ (by rfl) R77.out (by (try simp only [la, lc, ln]); omega) (by (try simp only [la, lc, ln]); omega) hHeld.1.size ?_
    intro v78 w4 s78 b4 hg; have B4 := hI b4; have S78 := hI s78; have R78 := rS s78
    clear R76
    clear R77
    clear S76 s78 b4 hg
    clear hHeld; refine hK.out _ _ (KP _ B4.out) (fun hHeld => ?_); clear hK K; try simp only [Act.put, pa, pz, ps]
    refine rdy [13, 14] (arc 84 rfl (fun K hK => ?_) (arc 85 rfl (fun K hK => ?_) AllReadyH.nil))
    ·go_simp; go_at_call 36; refine (HR.out w4 1 (by omega) hHeld.1).mono ?_; rintro e w5 ⟨v84, rfl, s84, b5⟩; have B5 := bN hHeld.1 b5; have R84 := rS s84
     replace R78 := rB R78 b5; replace S78 := sB S78 b5
     clear b5 s84
     clear hHeld; refine hK.out _ _ (KP _ B5.out) (fun hHeld => ?_); clear hK K; try simp only [Act.put, pa, pz, ps]
     refine rdy [14] (arc 85 rfl (fun K hK => ?_) AllReadyH.nil)
     go_simp; obtain ⟨w6, h6, b6, B6, R85⟩ := nB hHeld.1 [⟨#[93]⟩] #[.string ⟨#[93]⟩] rfl rfl; rw [<- h6]; clear h6
     replace R78 := rB R78 b6; replace R84 := rB R84 b6; replace S78 := sB S78 b6
     clear b6
     clear hHeld; refine hK.out _ _ (KP _ B6.out) (fun hHeld => ?_); clear hK K; try simp only [Act.put, pa, pz, ps]
     refine rdy [15] (arc 86 rfl (fun K hK => ?_) AllReadyH.nil)
     go_simp; go_at_call 80; refine (za _ _ _ _ _ _ w6 R78.out.rd R84.out.rd R85.out.rd (by (try simp only [la, lc, ln]); omega) (by (try simp only [la, lc, ln]); omega) (by (try simp only [la, lc, ln]); omega)).mono ?_; rintro e w7 ⟨v86, rfl, s86, b7⟩; have B7 := bN hHeld.1 b7; have R86 := rS s86
     replace R78 := rB R78 b7; replace R84 := rB R84 b7; replace R85 := rB R85 b7; replace S78 := sB S78 b7
     have S86 := sM s86 hHeld.1.size
     clear b7 s86
     clear hHeld; refine hK.out _ _ (KP _ B7.out) (fun hHeld => ?_); clear hK K; try simp only [Act.put, pa, pz, ps]
     refine tkm 16 4 (v86) hHeld rfl ?_; try simp only [Act.put, pa, pz, ps]
     have R4 := R86; clear R86
     have S4 := S86; clear S86
     refine wpAnyH_done (by kernel_rfl) ?_ _
     go_wp2
     go_ret
     exact ⟨_, rfl, by rw [HE.out]; exact S4.out.mono (by omega), B0.out.trans (B7.out.mono (by omega))⟩
    ·go_simp; obtain ⟨w8, h8, b8, B8, R85⟩ := nB hHeld.1 [⟨#[93]⟩] #[.string ⟨#[93]⟩] rfl rfl; rw [<- h8]; clear h8
     replace R78 := rB R78 b8; replace S78 := sB S78 b8
     clear b8
     clear hHeld; refine hK.out _ _ (KP _ B8.out) (fun hHeld => ?_); clear hK K; try simp only [Act.put, pa, pz, ps]
     refine rdy [13] (arc 84 rfl (fun K hK => ?_) AllReadyH.nil)
     go_simp; go_at_call 36; refine (HR.out w8 1 (by omega) hHeld.1).mono ?_; rintro e w9 ⟨v84, rfl, s84, b9⟩; have B9 := bN hHeld.1 b9; have R84 := rS s84
     replace R78 := rB R78 b9; replace R85 := rB R85 b9; replace S78 := sB S78 b9
     clear b9 s84
     clear hHeld; refine hK.out _ _ (KP _ B9.out) (fun hHeld => ?_); clear hK K; try simp only [Act.put, pa, pz, ps]
     refine rdy [15] (arc 86 rfl (fun K hK => ?_) AllReadyH.nil)
     go_simp; go_at_call 80; refine (za _ _ _ _ _ _ w9 R78.out.rd R84.out.rd R85.out.rd (by (try simp only [la, lc, ln]); omega) (by (try simp only [la, lc, ln]); omega) (by (try simp only [la, lc, ln]); omega)).mono ?_; rintro e w10 ⟨v86, rfl, s86, b10⟩; have B10 := bN hHeld.1 b10; have R86 := rS s86
     replace R78 := rB R78 b10; replace R84 := rB R84 b10; replace R85 := rB R85 b10; replace S78 := sB S78 b10
     have S86 := sM s86 hHeld.1.size
     clear b10 s86
     clear hHeld; refine hK.out _ _ (KP _ B10.out) (fun hHeld => ?_); clear hK K; try simp only [Act.put, pa, pz, ps]
     refine tkm 16 4 (v86) hHeld rfl ?_; try simp only [Act.put, pa, pz, ps]
     have R4 := R86; clear R86
     have S4 := S86; clear S86
     refine wpAnyH_done (by kernel_rfl) ?_ _
     go_wp2
     go_ret
     exact ⟨_, rfl, by rw [HE.out]; exact S4.out.mono (by omega), B0.out.trans (B10.out.mono (by omega))⟩
   ·go_simp; obtain ⟨w11, h11, b11, B11, R85⟩ := nB hHeld.1 [⟨#[93]⟩] #[.string ⟨#[93]⟩] rfl rfl; rw [<- h11]; clear h11
    have N85 := nL R76 1
    replace R76 := rB R76 b11; replace R77 := rB R77 b11; replace S76 := sB S76 b11
    clear b11
    clear hHeld; refine hK.out _ _ (KP _ B11.out) (fun hHeld => ?_); clear hK K; try simp only [Act.put, pa, pz, ps]
    refine rdy [7] (arc 78 rfl (fun K hK => ?_) AllReadyH.nil)
    rw [if_pos (by kernel_rfl)]; refine zg (by rfl) W0.heap.size W0 _ _ (by rfl) S76.out hHeld.1 _ _ (by rfl) R77.out (by (try simp only [la, lc, ln]); omega) (by (try simp only [la, lc, ln]); omega) hHeld.1.size ?_
    intro v78 w12 s78 b12 hg; have B12 := hI b12; have S78 := hI s78; have R78 := rS s78
    clear R76
    clear R77
    replace R85 := rG R85 hg N85
    clear S76 s78 b12 hg
    clear hHeld; refine hK.out _ _ (KP _ B12.out) (fun hHeld => ?_); clear hK K; try simp only [Act.put, pa, pz, ps]
    refine rdy [13] (arc 84 rfl (fun K hK => ?_) AllReadyH.nil)
    go_simp; go_at_call 36; refine (HR.out w12 1 (by omega) hHeld.1).mono ?_; rintro e w13 ⟨v84, rfl, s84, b13⟩; have B13 := bN hHeld.1 b13; have R84 := rS s84
    replace R78 := rB R78 b13; replace R85 := rB R85 b13; replace S78 := sB S78 b13
    clear b13 s84
    clear hHeld; refine hK.out _ _ (KP _ B13.out) (fun hHeld => ?_); clear hK K; try simp only [Act.put, pa, pz, ps]
    refine rdy [15] (arc 86 rfl (fun K hK => ?_) AllReadyH.nil)
    go_simp; go_at_call 80; refine (za _ _ _ _ _ _ w13 R78.out.rd R84.out.rd R85.out.rd (by (try simp only [la, lc, ln]); omega) (by (try simp only [la, lc, ln]); omega) (by (try simp only [la, lc, ln]); omega)).mono ?_; rintro e w14 ⟨v86, rfl, s86, b14⟩; have B14 := bN hHeld.1 b14; have R86 := rS s86
    replace R78 := rB R78 b14; replace R84 := rB R84 b14; replace R85 := rB R85 b14; replace S78 := sB S78 b14
    have S86 := sM s86 hHeld.1.size
    clear b14 s86
    clear hHeld; refine hK.out _ _ (KP _ B14.out) (fun hHeld => ?_); clear hK K; try simp only [Act.put, pa, pz, ps]
    refine tkm 16 4 (v86) hHeld rfl ?_; try simp only [Act.put, pa, pz, ps]
    have R4 := R86; clear R86
    have S4 := S86; clear S86
    refine wpAnyH_done (by kernel_rfl) ?_ _
    go_wp2
    go_ret
    exact ⟨_, rfl, by rw [HE.out]; exact S4.out.mono (by omega), B0.out.trans (B14.out.mono (by omega))⟩
  ·go_simp; obtain ⟨w15, h15, b15, B15, R85⟩ := nB hHeld.1 [⟨#[93]⟩] #[.string ⟨#[93]⟩] rfl rfl; rw [<- h15]; clear h15
   have N85 := nL R76 1
   replace R76 := rB R76 b15; replace S76 := sB S76 b15
   clear b15
   clear hHeld; refine hK.out _ _ (KP _ B15.out) (fun hHeld => ?_); clear hK K; try simp only [Act.put, pa, pz, ps]
   refine rdy [6] (arc 77 rfl (fun K hK => ?_) AllReadyH.nil)
   go_simp; obtain ⟨w16, h16, b16, B16, R77⟩ := nB hHeld.1 [⟨#[91]⟩] #[.string ⟨#[91]⟩] rfl rfl; rw [<- h16]; clear h16
   replace R76 := rB R76 b16; replace R85 := rB R85 b16; replace S76 := sB S76 b16
   clear b16
   clear hHeld; refine hK.out _ _ (KP _ B16.out) (fun hHeld => ?_); clear hK K; try simp only [Act.put, pa, pz, ps]
   refine rdy [7] (arc 78 rfl (fun K hK => ?_) AllReadyH.nil)
   rw [if_pos (by kernel_rfl)]; refine zg (by rfl) W0.heap.size W0 _ _ (by rfl) S76.out hHeld.1 _ _ (by rfl) R77.out (by (try simp only [la, lc, ln]); omega) (by (try simp only [la, lc, ln]); omega) hHeld.1.size ?_
   intro v78 w17 s78 b17 hg; have B17 := hI b17; have S78 := hI s78; have R78 := rS s78
   clear R76
   clear R77
   replace R85 := rG R85 hg N85
   clear S76 s78 b17 hg
   clear hHeld; refine hK.out _ _ (KP _ B17.out) (fun hHeld => ?_); clear hK K; try simp only [Act.put, pa, pz, ps]
   refine rdy [13] (arc 84 rfl (fun K hK => ?_) AllReadyH.nil)
   go_simp; go_at_call 36; refine (HR.out w17 1 (by omega) hHeld.1).mono ?_; rintro e w18 ⟨v84, rfl, s84, b18⟩; have B18 := bN hHeld.1 b18; have R84 := rS s84
   replace R78 := rB R78 b18; replace R85 := rB R85 b18; replace S78 := sB S78 b18
   clear b18 s84
   clear hHeld; refine hK.out _ _ (KP _ B18.out) (fun hHeld => ?_); clear hK K; try simp only [Act.put, pa, pz, ps]
   refine rdy [15] (arc 86 rfl (fun K hK => ?_) AllReadyH.nil)
   go_simp; go_at_call 80; refine (za _ _ _ _ _ _ w18 R78.out.rd R84.out.rd R85.out.rd (by (try simp only [la, lc, ln]); omega) (by (try simp only [la, lc, ln]); omega) (by (try simp only [la, lc, ln]); omega)).mono ?_; rintro e w19 ⟨v86, rfl, s86, b19⟩; have B19 := bN hHeld.1 b19; have R86 := rS s86
   replace R78 := rB R78 b19; replace R84 := rB R84 b19; replace R85 := rB R85 b19; replace S78 := sB S78 b19
   have S86 := sM s86 hHeld.1.size
   clear b19 s86
   clear hHeld; refine hK.out _ _ (KP _ B19.out) (fun hHeld => ?_); clear hK K; try simp only [Act.put, pa, pz, ps]
   refine tkm 16 4 (v86) hHeld rfl ?_; try simp only [Act.put, pa, pz, ps]
   have R4 := R86; clear R86
   have S4 := S86; clear S86
   refine wpAnyH_done (by kernel_rfl) ?_ _
   go_wp2
   go_ret
   exact ⟨_, rfl, by rw [HE.out]; exact S4.out.mono (by omega), B0.out.trans (B19.out.mono (by omega))⟩
 ·go_simp; obtain ⟨w20, h20, b20, B20, R77⟩ := nB hHeld.1 [⟨#[91]⟩] #[.string ⟨#[91]⟩] rfl rfl; rw [<- h20]; clear h20
  clear b20
  clear hHeld; refine hK.out _ _ (KP _ B20.out) (fun hHeld => ?_); clear hK K; try simp only [Act.put, pa, pz, ps]
  refine rdy [5, 14] (arc 76 rfl (fun K hK => ?_) (arc 85 rfl (fun K hK => ?_) AllReadyH.nil))
  ·go_simp; go_at_call 36; refine (HR.out w20 0 (by omega) hHeld.1).mono ?_; rintro e w21 ⟨v76, rfl, s76, b21⟩; have B21 := bN hHeld.1 b21; have R76 := rS s76
   have N77 := nC R77 s76
   replace R77 := rB R77 b21
   have S76 := sM s76 hHeld.1.size
   clear b21 s76
   clear hHeld; refine hK.out _ _ (KP _ B21.out) (fun hHeld => ?_); clear hK K; try simp only [Act.put, pa, pz, ps]
   refine rdy [7, 14] (arc 78 rfl (fun K hK => ?_) (arc 85 rfl (fun K hK => ?_) AllReadyH.nil))
   ·rw [if_pos (by kernel_rfl)]; refine zg (by rfl) W0.heap.size W0 _ _ (by rfl) S76.out hHeld.1 _ _ (by rfl) R77.out (by (try simp only [la, lc, ln]); omega) (by (try simp only [la, lc, ln]); omega) hHeld.1.size ?_
    intro v78 w22 s78 b22 hg; have B22 := hI b22; have S78 := hI s78; have R78 := rS s78
    clear R76
    clear R77
    clear S76 s78 b22 hg
    clear hHeld; refine hK.out _ _ (KP _ B22.out) (fun hHeld => ?_); clear hK K; try simp only [Act.put, pa, pz, ps]
    refine rdy [13, 14] (arc 84 rfl (fun K hK => ?_) (arc 85 rfl (fun K hK => ?_) AllReadyH.nil))
    ·go_simp; go_at_call 36; refine (HR.out w22 1 (by omega) hHeld.1).mono ?_; rintro e w23 ⟨v84, rfl, s84, b23⟩; have B23 := bN hHeld.1 b23; have R84 := rS s84
     replace R78 := rB R78 b23; replace S78 := sB S78 b23
     clear b23 s84
     clear hHeld; refine hK.out _ _ (KP _ B23.out) (fun hHeld => ?_); clear hK K; try simp only [Act.put, pa, pz, ps]
     refine rdy [14] (arc 85 rfl (fun K hK => ?_) AllReadyH.nil)
     go_simp; obtain ⟨w24, h24, b24, B24, R85⟩ := nB hHeld.1 [⟨#[93]⟩] #[.string ⟨#[93]⟩] rfl rfl; rw [<- h24]; clear h24
     replace R78 := rB R78 b24; replace R84 := rB R84 b24; replace S78 := sB S78 b24
     clear b24
     clear hHeld; refine hK.out _ _ (KP _ B24.out) (fun hHeld => ?_); clear hK K; try simp only [Act.put, pa, pz, ps]
     refine rdy [15] (arc 86 rfl (fun K hK => ?_) AllReadyH.nil)
     go_simp; go_at_call 80; refine (za _ _ _ _ _ _ w24 R78.out.rd R84.out.rd R85.out.rd (by (try simp only [la, lc, ln]); omega) (by (try simp only [la, lc, ln]); omega) (by (try simp only [la, lc, ln]); omega)).mono ?_; rintro e w25 ⟨v86, rfl, s86, b25⟩; have B25 := bN hHeld.1 b25; have R86 := rS s86
     replace R78 := rB R78 b25; replace R84 := rB R84 b25; replace R85 := rB R85 b25; replace S78 := sB S78 b25
     have S86 := sM s86 hHeld.1.size
     clear b25 s86
     clear hHeld; refine hK.out _ _ (KP _ B25.out) (fun hHeld => ?_); clear hK K; try simp only [Act.put, pa, pz, ps]
     refine tkm 16 4 (v86) hHeld rfl ?_; try simp only [Act.put, pa, pz, ps]
     have R4 := R86; clear R86
     have S4 := S86; clear S86
     refine wpAnyH_done (by kernel_rfl) ?_ _
     go_wp2
     go_ret
     exact ⟨_, rfl, by rw [HE.out]; exact S4.out.mono (by omega), B0.out.trans (B25.out.mono (by omega))⟩
    ·go_simp; obtain ⟨w26, h26, b26, B26, R85⟩ := nB hHeld.1 [⟨#[93]⟩] #[.string ⟨#[93]⟩] rfl rfl; rw [<- h26]; clear h26
     replace R78 := rB R78 b26; replace S78 := sB S78 b26
     clear b26
     clear hHeld; refine hK.out _ _ (KP _ B26.out) (fun hHeld => ?_); clear hK K; try simp only [Act.put, pa, pz, ps]
     refine rdy [13] (arc 84 rfl (fun K hK => ?_) AllReadyH.nil)
     go_simp; go_at_call 36; refine (HR.out w26 1 (by omega) hHeld.1).mono ?_; rintro e w27 ⟨v84, rfl, s84, b27⟩; have B27 := bN hHeld.1 b27; have R84 := rS s84
     replace R78 := rB R78 b27; replace R85 := rB R85 b27; replace S78 := sB S78 b27
     clear b27 s84
     clear hHeld; refine hK.out _ _ (KP _ B27.out) (fun hHeld => ?_); clear hK K; try simp only [Act.put, pa, pz, ps]
     refine rdy [15] (arc 86 rfl (fun K hK => ?_) AllReadyH.nil)
     go_simp; go_at_call 80; refine (za _ _ _ _ _ _ w27 R78.out.rd R84.out.rd R85.out.rd (by (try simp only [la, lc, ln]); omega) (by (try simp only [la, lc, ln]); omega) (by (try simp only [la, lc, ln]); omega)).mono ?_; rintro e w28 ⟨v86, rfl, s86, b28⟩; have B28 := bN hHeld.1 b28; have R86 := rS s86
     replace R78 := rB R78 b28; replace R84 := rB R84 b28; replace R85 := rB R85 b28; replace S78 := sB S78 b28
     have S86 := sM s86 hHeld.1.size
     clear b28 s86
     clear hHeld; refine hK.out _ _ (KP _ B28.out) (fun hHeld => ?_); clear hK K; try simp only [Act.put, pa, pz, ps]
     refine tkm 16 4 (v86) hHeld rfl ?_; try simp only [Act.put, pa, pz, ps]
     have R4 := R86; clear R86
     have S4 := S86; clear S86
     refine wpAnyH_done (by kernel_rfl) ?_ _
     go_wp2
     go_ret
     exact ⟨_, rfl, by rw [HE.out]; exact S4.out.mono (by omega), B0.out.trans (B28.out.mono (by omega))⟩
   ·go_simp; obtain ⟨w29, h29, b29, B29, R85⟩ := nB hHeld.1 [⟨#[93]⟩] #[.string ⟨#[93]⟩] rfl rfl; rw [<- h29]; clear h29
    have N85 := nL R76 1
    replace R76 := rB R76 b29; replace R77 := rB R77 b29; replace S76 := sB S76 b29
    clear b29
    clear hHeld; refine hK.out _ _ (KP _ B29.out) (fun hHeld => ?_); clear hK K; try simp only [Act.put, pa, pz, ps]
    refine rdy [7] (arc 78 rfl (fun K hK => ?_) AllReadyH.nil)
    rw [if_pos (by kernel_rfl)]; refine zg (by rfl) W0.heap.size W0 _ _ (by rfl) S76.out hHeld.1 _ _ (by rfl) R77.out (by (try simp only [la, lc, ln]); omega) (by (try simp only [la, lc, ln]); omega) hHeld.1.size ?_
    intro v78 w30 s78 b30 hg; have B30 := hI b30; have S78 := hI s78; have R78 := rS s78
    clear R76
    clear R77
    replace R85 := rG R85 hg N85
    clear S76 s78 b30 hg
    clear hHeld; refine hK.out _ _ (KP _ B30.out) (fun hHeld => ?_); clear hK K; try simp only [Act.put, pa, pz, ps]
    refine rdy [13] (arc 84 rfl (fun K hK => ?_) AllReadyH.nil)
    go_simp; go_at_call 36; refine (HR.out w30 1 (by omega) hHeld.1).mono ?_; rintro e w31 ⟨v84, rfl, s84, b31⟩; have B31 := bN hHeld.1 b31; have R84 := rS s84
    replace R78 := rB R78 b31; replace R85 := rB R85 b31; replace S78 := sB S78 b31
    clear b31 s84
    clear hHeld; refine hK.out _ _ (KP _ B31.out) (fun hHeld => ?_); clear hK K; try simp only [Act.put, pa, pz, ps]
    refine rdy [15] (arc 86 rfl (fun K hK => ?_) AllReadyH.nil)
    go_simp; go_at_call 80; refine (za _ _ _ _ _ _ w31 R78.out.rd R84.out.rd R85.out.rd (by (try simp only [la, lc, ln]); omega) (by (try simp only [la, lc, ln]); omega) (by (try simp only [la, lc, ln]); omega)).mono ?_; rintro e w32 ⟨v86, rfl, s86, b32⟩; have B32 := bN hHeld.1 b32; have R86 := rS s86
    replace R78 := rB R78 b32; replace R84 := rB R84 b32; replace R85 := rB R85 b32; replace S78 := sB S78 b32
    have S86 := sM s86 hHeld.1.size
    clear b32 s86
    clear hHeld; refine hK.out _ _ (KP _ B32.out) (fun hHeld => ?_); clear hK K; try simp only [Act.put, pa, pz, ps]
    refine tkm 16 4 (v86) hHeld rfl ?_; try simp only [Act.put, pa, pz, ps]
    have R4 := R86; clear R86
    have S4 := S86; clear S86
    refine wpAnyH_done (by kernel_rfl) ?_ _
    go_wp2
    go_ret
    exact ⟨_, rfl, by rw [HE.out]; exact S4.out.mono (by omega), B0.out.trans (B32.out.mono (by omega))⟩
  ·go_simp; obtain ⟨w33, h33, b33, B33, R85⟩ := nB hHeld.1 [⟨#[93]⟩] #[.string ⟨#[93]⟩] rfl rfl; rw [<- h33]; clear h33
   replace R77 := rB R77 b33
   clear b33
   clear hHeld; refine hK.out _ _ (KP _ B33.out) (fun hHeld => ?_); clear hK K; try simp only [Act.put, pa, pz, ps]
   refine rdy [5] (arc 76 rfl (fun K hK => ?_) AllReadyH.nil)
   go_simp; go_at_call 36; refine (HR.out w33 0 (by omega) hHeld.1).mono ?_; rintro e w34 ⟨v76, rfl, s76, b34⟩; have B34 := bN hHeld.1 b34; have R76 := rS s76
   have N77 := nC R77 s76
   have N85 := nC R85 s76
   replace R77 := rB R77 b34; replace R85 := rB R85 b34
   have S76 := sM s76 hHeld.1.size
   clear b34 s76
   clear hHeld; refine hK.out _ _ (KP _ B34.out) (fun hHeld => ?_); clear hK K; try simp only [Act.put, pa, pz, ps]
   refine rdy [7] (arc 78 rfl (fun K hK => ?_) AllReadyH.nil)
   rw [if_pos (by kernel_rfl)]; refine zg (by rfl) W0.heap.size W0 _ _ (by rfl) S76.out hHeld.1 _ _ (by rfl) R77.out (by (try simp only [la, lc, ln]); omega) (by (try simp only [la, lc, ln]); omega) hHeld.1.size ?_
   intro v78 w35 s78 b35 hg; have B35 := hI b35; have S78 := hI s78; have R78 := rS s78
   clear R76
   clear R77
   replace R85 := rG R85 hg N85
   clear S76 s78 b35 hg
   clear hHeld; refine hK.out _ _ (KP _ B35.out) (fun hHeld => ?_); clear hK K; try simp only [Act.put, pa, pz, ps]
   refine rdy [13] (arc 84 rfl (fun K hK => ?_) AllReadyH.nil)
   go_simp; go_at_call 36; refine (HR.out w35 1 (by omega) hHeld.1).mono ?_; rintro e w36 ⟨v84, rfl, s84, b36⟩; have B36 := bN hHeld.1 b36; have R84 := rS s84
   replace R78 := rB R78 b36; replace R85 := rB R85 b36; replace S78 := sB S78 b36
   clear b36 s84
   clear hHeld; refine hK.out _ _ (KP _ B36.out) (fun hHeld => ?_); clear hK K; try simp only [Act.put, pa, pz, ps]
   refine rdy [15] (arc 86 rfl (fun K hK => ?_) AllReadyH.nil)
   go_simp; go_at_call 80; refine (za _ _ _ _ _ _ w36 R78.out.rd R84.out.rd R85.out.rd (by (try simp only [la, lc, ln]); omega) (by (try simp only [la, lc, ln]); omega) (by (try simp only [la, lc, ln]); omega)).mono ?_; rintro e w37 ⟨v86, rfl, s86, b37⟩; have B37 := bN hHeld.1 b37; have R86 := rS s86
   replace R78 := rB R78 b37; replace R84 := rB R84 b37; replace R85 := rB R85 b37; replace S78 := sB S78 b37
   have S86 := sM s86 hHeld.1.size
   clear b37 s86
   clear hHeld; refine hK.out _ _ (KP _ B37.out) (fun hHeld => ?_); clear hK K; try simp only [Act.put, pa, pz, ps]
   refine tkm 16 4 (v86) hHeld rfl ?_; try simp only [Act.put, pa, pz, ps]
   have R4 := R86; clear R86
   have S4 := S86; clear S86
   refine wpAnyH_done (by kernel_rfl) ?_ _
   go_wp2
   go_ret
   exact ⟨_, rfl, by rw [HE.out]; exact S4.out.mono (by omega), B0.out.trans (B37.out.mono (by omega))⟩
 ·go_simp; obtain ⟨w38, h38, b38, B38, R85⟩ := nB hHeld.1 [⟨#[93]⟩] #[.string ⟨#[93]⟩] rfl rfl; rw [<- h38]; clear h38
  clear b38
  clear hHeld; refine hK.out _ _ (KP _ B38.out) (fun hHeld => ?_); clear hK K; try simp only [Act.put, pa, pz, ps]
  refine rdy [5, 6] (arc 76 rfl (fun K hK => ?_) (arc 77 rfl (fun K hK => ?_) AllReadyH.nil))
  ·go_simp; go_at_call 36; refine (HR.out w38 0 (by omega) hHeld.1).mono ?_; rintro e w39 ⟨v76, rfl, s76, b39⟩; have B39 := bN hHeld.1 b39; have R76 := rS s76
   have N85 := nC R85 s76
   replace R85 := rB R85 b39
   have S76 := sM s76 hHeld.1.size
   clear b39 s76
   clear hHeld; refine hK.out _ _ (KP _ B39.out) (fun hHeld => ?_); clear hK K; try simp only [Act.put, pa, pz, ps]
   refine rdy [6] (arc 77 rfl (fun K hK => ?_) AllReadyH.nil)
   go_simp; obtain ⟨w40, h40, b40, B40, R77⟩ := nB hHeld.1 [⟨#[91]⟩] #[.string ⟨#[91]⟩] rfl rfl; rw [<- h40]; clear h40
   replace R76 := rB R76 b40; replace R85 := rB R85 b40; replace S76 := sB S76 b40
   clear b40
   clear hHeld; refine hK.out _ _ (KP _ B40.out) (fun hHeld => ?_); clear hK K; try simp only [Act.put, pa, pz, ps]
   refine rdy [7] (arc 78 rfl (fun K hK => ?_) AllReadyH.nil)
   rw [if_pos (by kernel_rfl)]; refine zg (by rfl) W0.heap.size W0 _ _ (by rfl) S76.out hHeld.1 _ _ (by rfl) R77.out (by (try simp only [la, lc, ln]); omega) (by (try simp only [la, lc, ln]); omega) hHeld.1.size ?_
   intro v78 w41 s78 b41 hg; have B41 := hI b41; have S78 := hI s78; have R78 := rS s78
   clear R76
   clear R77
   replace R85 := rG R85 hg N85
   clear S76 s78 b41 hg
   clear hHeld; refine hK.out _ _ (KP _ B41.out) (fun hHeld => ?_); clear hK K; try simp only [Act.put, pa, pz, ps]
   refine rdy [13] (arc 84 rfl (fun K hK => ?_) AllReadyH.nil)
   go_simp; go_at_call 36; refine (HR.out w41 1 (by omega) hHeld.1).mono ?_; rintro e w42 ⟨v84, rfl, s84, b42⟩; have B42 := bN hHeld.1 b42; have R84 := rS s84
   replace R78 := rB R78 b42; replace R85 := rB R85 b42; replace S78 := sB S78 b42
   clear b42 s84
   clear hHeld; refine hK.out _ _ (KP _ B42.out) (fun hHeld => ?_); clear hK K; try simp only [Act.put, pa, pz, ps]
   refine rdy [15] (arc 86 rfl (fun K hK => ?_) AllReadyH.nil)
   go_simp; go_at_call 80; refine (za _ _ _ _ _ _ w42 R78.out.rd R84.out.rd R85.out.rd (by (try simp only [la, lc, ln]); omega) (by (try simp only [la, lc, ln]); omega) (by (try simp only [la, lc, ln]); omega)).mono ?_; rintro e w43 ⟨v86, rfl, s86, b43⟩; have B43 := bN hHeld.1 b43; have R86 := rS s86
   replace R78 := rB R78 b43; replace R84 := rB R84 b43; replace R85 := rB R85 b43; replace S78 := sB S78 b43
   have S86 := sM s86 hHeld.1.size
   clear b43 s86
   clear hHeld; refine hK.out _ _ (KP _ B43.out) (fun hHeld => ?_); clear hK K; try simp only [Act.put, pa, pz, ps]
   refine tkm 16 4 (v86) hHeld rfl ?_; try simp only [Act.put, pa, pz, ps]
   have R4 := R86; clear R86
   have S4 := S86; clear S86
   refine wpAnyH_done (by kernel_rfl) ?_ _
   go_wp2
   go_ret
   exact ⟨_, rfl, by rw [HE.out]; exact S4.out.mono (by omega), B0.out.trans (B43.out.mono (by omega))⟩
  ·go_simp; obtain ⟨w44, h44, b44, B44, R77⟩ := nB hHeld.1 [⟨#[91]⟩] #[.string ⟨#[91]⟩] rfl rfl; rw [<- h44]; clear h44
   replace R85 := rB R85 b44
   clear b44
   clear hHeld; refine hK.out _ _ (KP _ B44.out) (fun hHeld => ?_); clear hK K; try simp only [Act.put, pa, pz, ps]
   refine rdy [5] (arc 76 rfl (fun K hK => ?_) AllReadyH.nil)
   go_simp; go_at_call 36; refine (HR.out w44 0 (by omega) hHeld.1).mono ?_; rintro e w45 ⟨v76, rfl, s76, b45⟩; have B45 := bN hHeld.1 b45; have R76 := rS s76
   have N77 := nC R77 s76
   have N85 := nC R85 s76
   replace R77 := rB R77 b45; replace R85 := rB R85 b45
   have S76 := sM s76 hHeld.1.size
   clear b45 s76
   clear hHeld; refine hK.out _ _ (KP _ B45.out) (fun hHeld => ?_); clear hK K; try simp only [Act.put, pa, pz, ps]
   refine rdy [7] (arc 78 rfl (fun K hK => ?_) AllReadyH.nil)
   rw [if_pos (by kernel_rfl)]; refine zg (by rfl) W0.heap.size W0 _ _ (by rfl) S76.out hHeld.1 _ _ (by rfl) R77.out (by (try simp only [la, lc, ln]); omega) (by (try simp only [la, lc, ln]); omega) hHeld.1.size ?_
   intro v78 w46 s78 b46 hg; have B46 := hI b46; have S78 := hI s78; have R78 := rS s78
   clear R76
   clear R77
   replace R85 := rG R85 hg N85
   clear S76 s78 b46 hg
   clear hHeld; refine hK.out _ _ (KP _ B46.out) (fun hHeld => ?_); clear hK K; try simp only [Act.put, pa, pz, ps]
   refine rdy [13] (arc 84 rfl (fun K hK => ?_) AllReadyH.nil)
   go_simp; go_at_call 36; refine (HR.out w46 1 (by omega) hHeld.1).mono ?_; rintro e w47 ⟨v84, rfl, s84, b47⟩; have B47 := bN hHeld.1 b47; have R84 := rS s84
   replace R78 := rB R78 b47; replace R85 := rB R85 b47; replace S78 := sB S78 b47
   clear b47 s84
   clear hHeld; refine hK.out _ _ (KP _ B47.out) (fun hHeld => ?_); clear hK K; try simp only [Act.put, pa, pz, ps]
   refine rdy [15] (arc 86 rfl (fun K hK => ?_) AllReadyH.nil)
   go_simp; go_at_call 80; refine (za _ _ _ _ _ _ w47 R78.out.rd R84.out.rd R85.out.rd (by (try simp only [la, lc, ln]); omega) (by (try simp only [la, lc, ln]); omega) (by (try simp only [la, lc, ln]); omega)).mono ?_; rintro e w48 ⟨v86, rfl, s86, b48⟩; have B48 := bN hHeld.1 b48; have R86 := rS s86
   replace R78 := rB R78 b48; replace R84 := rB R84 b48; replace R85 := rB R85 b48; replace S78 := sB S78 b48
   have S86 := sM s86 hHeld.1.size
   clear b48 s86
   clear hHeld; refine hK.out _ _ (KP _ B48.out) (fun hHeld => ?_); clear hK K; try simp only [Act.put, pa, pz, ps]
   refine tkm 16 4 (v86) hHeld rfl ?_; try simp only [Act.put, pa, pz, ps]
   have R4 := R86; clear R86
   have S4 := S86; clear S86
   refine wpAnyH_done (by kernel_rfl) ?_ _
   go_wp2
   go_ret
   exact ⟨_, rfl, by rw [HE.out]; exact S4.out.mono (by omega), B0.out.trans (B48.out.mono (by omega))⟩
end Go.Proofs.YtiglkhkfbgjjoaaDoor
