/- - -/
import Derived.Test.YtiglkhkfbgjjoaaDoorQMtC
namespace Go.Proofs.YtiglkhkfbgjjoaaDoor
set_option maxRecDepth 20000
open Go.RowKit Go.PlainAid Go.Maps
set_option linter.unusedSimpArgs false
set_option linter.unusedVariables false
set_option maxHeartbeats 4000000 in
theorem et9 (a : Option Addr) (L c : Nat) (top : Int) (t : ByteArray) (i : Int) (ak : Option Addr) (q : Nat) (ck : Nat) (y : Nat -> Int) (rec : Int -> List ByteArray) (T : Nat) (w : World) (hk : SlF T w (.slice ak (q + 1) ck) (q + 1) (q + 1) (fun i => .int .i64 (y i))) (hT : T <= w.heap.size) (hc1 : q + 1 <= ck) (hc2 : ck <= 1048576) (hs : smN rec y (q + 1) <= 100000)
 (hr : ∀ (V : World) (m : Nat), m < q + 1 -> Below w.heap.size w V -> Calls Tryd.prog 36 #[.agg #[.slice a L c, .int .i64 top], .int .i64 (y m)] V (zc V (rec (y m)))) :
 Calls Tryd.prog 78 #[.agg #[.slice a L c, .int .i64 top], .agg #[.int .i64 9, .string t, .int .i64 i, .slice ak (q + 1) ck]] w (zc w (bod rec ⟨9, t, i, q + 1, y⟩)) := by
 obtain ⟨bk, ok, ck2, hv, tk1, lk, hkk⟩ := hk.parts (k := 0) (by omega)
 simp only [Value.slice.injEq] at hv
 obtain ⟨rfl, _, rfl⟩ := hv
 have yc0 := hkk 0 (by omega)
 rw [Nat.add_zero] at yc0
 have n0 : (rec (y 0)).length <= 100000 := Nat.le_trans (smA rec y (by omega : 0 < q + 1)) hs
 have hs2 : smN rec (fun m => y (m + 1)) q <= 100000 := by have := zci rec y q; omega
 have ncm : (cmN rec (fun m => y (m + 1)) q).length <= 100000 := Nat.le_trans (zd rec _ q).1 hs2
 have hq1 : (q : Int) <= 1048576 := by omega
 have HE : Hid (bod rec ⟨9, t, i, q + 1, y⟩ = (rec (y 0) ++ [⟨#[40]⟩]) ++ cmN rec (fun m => y (m + 1)) q ++ [⟨#[41]⟩]) := by show bod _ _ = _; simp [bod, opB]
 obtain ⟨W0, hW0⟩ : ∃ V, V = (w.alloc (.cells #[.slice a L c, .int .i64 top] 41)).alloc (.cells #[.int .i64 9, .string t, .int .i64 i, .slice (some ⟨bk, ok, none⟩) (q + 1) ck] 71) := ⟨_, rfl⟩
 have z0 : W0.heap.size = w.heap.size + 2 := by rw [hW0]; simp
 have B0 : Hid (Below w.heap.size w W0) := by rw [hW0]; exact ((Below.refl _ _).alloc (Nat.le_refl _) _).alloc (by simp) _
 have T0 : ∀ z, W0.cell? ⟨w.heap.size, z, none⟩ = (#[.slice a L c, .int .i64 top] : Array Value)[z]? := fun z => by rw [hW0]; simp [go_sem]
 have K0 : ∀ z, W0.cell? ⟨w.heap.size + 1, z, none⟩ = (#[.int .i64 9, .string t, .int .i64 i, .slice (some ⟨bk, ok, none⟩) (q + 1) ck] : Array Value)[z]? := fun z => by rw [hW0]; simp [go_sem]
 have HR : Hid (∀ (V : World) (m : Nat), m < q + 1 -> Below W0.heap.size W0 V -> Calls Tryd.prog 36 #[.agg #[.slice a L c, .int .i64 top], .int .i64 (y m)] V (zc V (rec (y m)))) := fun V m hm hV => hr V m hm (B0.out.trans (hV.mono (by omega)))
 have BK : Hid (∀ V, Below W0.heap.size W0 V -> Below w.heap.size w V) := fun V hV => B0.out.trans (hV.mono (by omega))
 obtain ⟨ad, had, hsa⟩ := zkn bk ok q ck
 have HC : Hid (∀ V, Below W0.heap.size W0 V -> Calls Tryd.prog 118 #[.agg #[.slice a L c, .int .i64 top], .slice ad q (ck - 1)] V (zc V (cmN rec (fun m => y (m + 1)) q))) := fun V hV => zbm a c L top ad q (ck - 1) (fun m => y (m + 1)) rec T V ((hk.tail1 ad (ck - 1) (fun h => had h (by omega))).below (BK.out V hV) hT) (Nat.le_trans hT (BK.out V hV).size) (by omega) hs2 (fun V' m hm hV' => hr V' (m + 1) (by omega) ((BK.out V hV).trans (hV'.mono (BK.out V hV).size)))
 clear had hs2
 have KP : ∀ V, Below W0.heap.size W0 V -> (SQ1 W0 w.heap.size #[.slice a L c, .int .i64 top] #[.int .i64 9, .string t, .int .i64 i, .slice (some ⟨bk, ok, none⟩) (q + 1) ck] bk (ok) (y 0)) V := fun V hV => ⟨hV, fun z => (hV.cell (p := ⟨w.heap.size, z, none⟩) (by dsimp only; omega)).trans (T0 z), fun z => (hV.cell (p := ⟨w.heap.size + 1, z, none⟩) (by dsimp only; omega)).trans (K0 z), ((BK.out V hV).cell (p := ⟨bk, ok, none⟩) (by dsimp only; omega)).trans yc0⟩
 have KP' : Hid (∀ V, Below W0.heap.size W0 V -> (SQ1 W0 w.heap.size #[.slice a L c, .int .i64 top] #[.int .i64 9, .string t, .int .i64 i, .slice (some ⟨bk, ok, none⟩) (q + 1) ck] bk (ok) (y 0)) V) := KP
 clear hk hr hs hkk KP T0 K0 yc0
 have BW : Hid (Below W0.heap.size W0 W0) := Below.refl _ _
 go_enter Tryd.func78, Tryd.ntmps78
 go_wp2_with fail
 rw [<- hW0]
 clear hW0
 have KP := KP'.out
 clear KP'
 refine wp_region_held_drew (by kernel_rfl) (KP _ BW.out.drew) (fun hHeld => ?_); obtain ⟨w1, h1, b1⟩ := dR W0; rw [<- h1] at hHeld ⊢; clear h1
 clear b1
 refine tkm 0 89 (.agg #[.slice a L c, .int .i64 top]) hHeld rfl ?_; try simp only [Act.put, pa, pz, ps]
 refine tkm 1 90 (.pointer (some ⟨w.heap.size + 1, 3, none⟩)) hHeld rfl ?_; try simp only [Act.put, pa, pz, ps]
 refine tkm 2 91 (.slice (some ⟨bk, ok, none⟩) (q + 1) ck) hHeld rfl ?_; try simp only [Act.put, pa, pz, ps]
 refine tkm 3 92 (.pointer (some ⟨bk, ok, none⟩)) hHeld rfl ?_; try simp only [Act.put, pa, pz, ps]
 refine tkm 4 93 (.int .i64 (y 0)) hHeld rfl ?_; try simp only [Act.put, pa, pz, ps]
 refine tkm 8 97 (.agg #[.slice a L c, .int .i64 top]) hHeld rfl ?_; try simp only [Act.put, pa, pz, ps]
 refine tkm 9 98 (.pointer (some ⟨w.heap.size + 1, 3, none⟩)) hHeld rfl ?_; try simp only [Act.put, pa, pz, ps]
 refine tkm 10 99 (.slice (some ⟨bk, ok, none⟩) (q + 1) ck) hHeld rfl ?_; try simp only [Act.put, pa, pz, ps]
 refine tkm 11 100 (.slice ad q (ck - 1)) hHeld rfl ?_; try simp only [Act.put, pa, pz, ps]
 refine rdy [5, 6, 13] (arc 94 rfl (fun K hK => ?_) (arc 95 rfl (fun K hK => ?_) (arc 102 rfl (fun K hK => ?_) AllReadyH.nil)))
 ·go_simp; go_at_call 36; refine (HR.out w1 0 (by omega) hHeld.1).mono ?_; rintro e w2 ⟨v94, rfl, s94, b2⟩; have B2 := bN hHeld.1 b2; have R94 := rS s94
  have S94 := sM s94 hHeld.1.size
  clear b2 s94
  clear hHeld; refine hK.out _ _ (KP _ B2.out) (fun hHeld => ?_); clear hK K; try simp only [Act.put, pa, pz, ps]
  refine rdy [6, 13] (arc 95 rfl (fun K hK => ?_) (arc 102 rfl (fun K hK => ?_) AllReadyH.nil))
  ·go_simp; obtain ⟨w3, h3, b3, B3, R95⟩ := nB hHeld.1 [⟨#[40]⟩] #[.string ⟨#[40]⟩] rfl rfl; rw [<- h3]; clear h3
   replace R94 := rB R94 b3; replace S94 := sB S94 b3
   clear b3
   clear hHeld; refine hK.out _ _ (KP _ B3.out) (fun hHeld => ?_); clear hK K; try simp only [Act.put, pa, pz, ps]
   refine rdy [7, 13] (arc 96 rfl (fun K hK => ?_) (arc 102 rfl (fun K hK => ?_) AllReadyH.nil))
   ·rw [if_pos (by kernel_rfl)]; refine zg (by rfl) W0.heap.size W0 _ _ (by rfl) S94.out hHeld.1 _ _ (by rfl) R95.out (by (try simp only [la, lc, ln]); omega) (by (try simp only [la, lc, ln]); omega) hHeld.1.size ?_
    intro v96 w4 s96 b4 hg; have B4 := hI b4; have S96 := hI s96; have R96 := rS s96
    clear R94
    clear R95
    clear S94 s96 b4 hg
    clear hHeld; refine hK.out _ _ (KP _ B4.out) (fun hHeld => ?_); clear hK K; try simp only [Act.put, pa, pz, ps]
    refine rdy [12, 13] (arc 101 rfl (fun K hK => ?_) (arc 102 rfl (fun K hK => ?_) AllReadyH.nil))
    ·go_simp; go_at_call 118; refine (HC.out w4 hHeld.1).mono ?_; rintro e w5 ⟨v101, rfl, s101, b5⟩; have B5 := bN hHeld.1 b5; have R101 := rS s101
     replace R96 := rB R96 b5; replace S96 := sB S96 b5
     clear b5 s101
     clear hHeld; refine hK.out _ _ (KP _ B5.out) (fun hHeld => ?_); clear hK K; try simp only [Act.put, pa, pz, ps]
     refine rdy [13] (arc 102 rfl (fun K hK => ?_) AllReadyH.nil)
     go_simp; obtain ⟨w6, h6, b6, B6, R102⟩ := nB hHeld.1 [⟨#[41]⟩] #[.string ⟨#[41]⟩] rfl rfl; rw [<- h6]; clear h6
     replace R96 := rB R96 b6; replace R101 := rB R101 b6; replace S96 := sB S96 b6
     clear b6
     clear hHeld; refine hK.out _ _ (KP _ B6.out) (fun hHeld => ?_); clear hK K; try simp only [Act.put, pa, pz, ps]
     refine rdy [14] (arc 103 rfl (fun K hK => ?_) AllReadyH.nil)
     go_simp; go_at_call 80; refine (za _ _ _ _ _ _ w6 R96.out.rd R101.out.rd R102.out.rd (by (try simp only [la, lc, ln]); omega) (by (try simp only [la, lc, ln]); omega) (by (try simp only [la, lc, ln]); omega)).mono ?_; rintro e w7 ⟨v103, rfl, s103, b7⟩; have B7 := bN hHeld.1 b7; have R103 := rS s103
     replace R96 := rB R96 b7; replace R101 := rB R101 b7; replace R102 := rB R102 b7; replace S96 := sB S96 b7
     have S103 := sM s103 hHeld.1.size
     clear b7 s103
     clear hHeld; refine hK.out _ _ (KP _ B7.out) (fun hHeld => ?_); clear hK K; try simp only [Act.put, pa, pz, ps]
     refine tkm 15 4 (v103) hHeld rfl ?_; try simp only [Act.put, pa, pz, ps]
     have R4 := R103; clear R103
     have S4 := S103; clear S103
     refine wpAnyH_done (by kernel_rfl) ?_ _
     go_wp2
     go_ret
     exact ⟨_, rfl, by rw [HE.out]; exact S4.out.mono (by omega), B0.out.trans (B7.out.mono (by omega))⟩
    ·go_simp; obtain ⟨w8, h8, b8, B8, R102⟩ := nB hHeld.1 [⟨#[41]⟩] #[.string ⟨#[41]⟩] rfl rfl; rw [<- h8]; clear h8
     replace R96 := rB R96 b8; replace S96 := sB S96 b8
     clear b8
     clear hHeld; refine hK.out _ _ (KP _ B8.out) (fun hHeld => ?_); clear hK K; try simp only [Act.put, pa, pz, ps]
     refine rdy [12] (arc 101 rfl (fun K hK => ?_) AllReadyH.nil)
     go_simp; go_at_call 118; refine (HC.out w8 hHeld.1).mono ?_; rintro e w9 ⟨v101, rfl, s101, b9⟩; have B9 := bN hHeld.1 b9; have R101 := rS s101
     replace R96 := rB R96 b9; replace R102 := rB R102 b9; replace S96 := sB S96 b9
     clear b9 s101
     clear hHeld; refine hK.out _ _ (KP _ B9.out) (fun hHeld => ?_); clear hK K; try simp only [Act.put, pa, pz, ps]
     refine rdy [14] (arc 103 rfl (fun K hK => ?_) AllReadyH.nil)
     go_simp; go_at_call 80; refine (za _ _ _ _ _ _ w9 R96.out.rd R101.out.rd R102.out.rd (by (try simp only [la, lc, ln]); omega) (by (try simp only [la, lc, ln]); omega) (by (try simp only [la, lc, ln]); omega)).mono ?_; rintro e w10 ⟨v103, rfl, s103, b10⟩; have B10 := bN hHeld.1 b10; have R103 := rS s103
     replace R96 := rB R96 b10; replace R101 := rB R101 b10; replace R102 := rB R102 b10; replace S96 := sB S96 b10
     have S103 := sM s103 hHeld.1.size
     clear b10 s103
     clear hHeld; refine hK.out _ _ (KP _ B10.out) (fun hHeld => ?_); clear hK K; try simp only [Act.put, pa, pz, ps]
     refine tkm 15 4 (v103) hHeld rfl ?_; try simp only [Act.put, pa, pz, ps]
     have R4 := R103; clear R103
     have S4 := S103; clear S103
     refine wpAnyH_done (by kernel_rfl) ?_ _
     go_wp2
     go_ret
     exact ⟨_, rfl, by rw [HE.out]; exact S4.out.mono (by omega), B0.out.trans (B10.out.mono (by omega))⟩
   ·go_simp; obtain ⟨w11, h11, b11, B11, R102⟩ := nB hHeld.1 [⟨#[41]⟩] #[.string ⟨#[41]⟩] rfl rfl; rw [<- h11]; clear h11
    have N102 := nL R94 1
    replace R94 := rB R94 b11; replace R95 := rB R95 b11; replace S94 := sB S94 b11
    clear b11
    clear hHeld; refine hK.out _ _ (KP _ B11.out) (fun hHeld => ?_); clear hK K; try simp only [Act.put, pa, pz, ps]
    refine rdy [7] (arc 96 rfl (fun K hK => ?_) AllReadyH.nil)
    rw [if_pos (by kernel_rfl)]; refine zg (by rfl) W0.heap.size W0 _ _ (by rfl) S94.out hHeld.1 _ _ (by rfl) R95.out (by (try simp only [la, lc, ln]); omega) (by (try simp only [la, lc, ln]); omega) hHeld.1.size ?_
    intro v96 w12 s96 b12 hg; have B12 := hI b12; have S96 := hI s96; have R96 := rS s96
    clear R94
    clear R95
    replace R102 := rG R102 hg N102
    clear S94 s96 b12 hg
    clear hHeld; refine hK.out _ _ (KP _ B12.out) (fun hHeld => ?_); clear hK K; try simp only [Act.put, pa, pz, ps]
    refine rdy [12] (arc 101 rfl (fun K hK => ?_) AllReadyH.nil)
    go_simp; go_at_call 118; refine (HC.out w12 hHeld.1).mono ?_; rintro e w13 ⟨v101, rfl, s101, b13⟩; have B13 := bN hHeld.1 b13; have R101 := rS s101
    replace R96 := rB R96 b13; replace R102 := rB R102 b13; replace S96 := sB S96 b13
    clear b13 s101
    clear hHeld; refine hK.out _ _ (KP _ B13.out) (fun hHeld => ?_); clear hK K; try simp only [Act.put, pa, pz, ps]
    refine rdy [14] (arc 103 rfl (fun K hK => ?_) AllReadyH.nil)
    go_simp; go_at_call 80; refine (za _ _ _ _ _ _ w13 R96.out.rd R101.out.rd R102.out.rd (by (try simp only [la, lc, ln]); omega) (by (try simp only [la, lc, ln]); omega) (by (try simp only [la, lc, ln]); omega)).mono ?_; rintro e w14 ⟨v103, rfl, s103, b14⟩; have B14 := bN hHeld.1 b14; have R103 := rS s103
    replace R96 := rB R96 b14; replace R101 := rB R101 b14; replace R102 := rB R102 b14; replace S96 := sB S96 b14
    have S103 := sM s103 hHeld.1.size
    clear b14 s103
    clear hHeld; refine hK.out _ _ (KP _ B14.out) (fun hHeld => ?_); clear hK K; try simp only [Act.put, pa, pz, ps]
    refine tkm 15 4 (v103) hHeld rfl ?_; try simp only [Act.put, pa, pz, ps]
    have R4 := R103; clear R103
    have S4 := S103; clear S103
    refine wpAnyH_done (by kernel_rfl) ?_ _
    go_wp2
    go_ret
    exact ⟨_, rfl, by rw [HE.out]; exact S4.out.mono (by omega), B0.out.trans (B14.out.mono (by omega))⟩
  ·go_simp; obtain ⟨w15, h15, b15, B15, R102⟩ := nB hHeld.1 [⟨#[41]⟩] #[.string ⟨#[41]⟩] rfl rfl; rw [<- h15]; clear h15
   have N102 := nL R94 1
   replace R94 := rB R94 b15; replace S94 := sB S94 b15
   clear b15
   clear hHeld; refine hK.out _ _ (KP _ B15.out) (fun hHeld => ?_); clear hK K; try simp only [Act.put, pa, pz, ps]
   refine rdy [6] (arc 95 rfl (fun K hK => ?_) AllReadyH.nil)
   go_simp; obtain ⟨w16, h16, b16, B16, R95⟩ := nB hHeld.1 [⟨#[40]⟩] #[.string ⟨#[40]⟩] rfl rfl; rw [<- h16]; clear h16
   replace R94 := rB R94 b16; replace R102 := rB R102 b16; replace S94 := sB S94 b16
   clear b16
   clear hHeld; refine hK.out _ _ (KP _ B16.out) (fun hHeld => ?_); clear hK K; try simp only [Act.put, pa, pz, ps]
   refine rdy [7] (arc 96 rfl (fun K hK => ?_) AllReadyH.nil)
   rw [if_pos (by kernel_rfl)]; refine zg (by rfl) W0.heap.size W0 _ _ (by rfl) S94.out hHeld.1 _ _ (by rfl) R95.out (by (try simp only [la, lc, ln]); omega) (by (try simp only [la, lc, ln]); omega) hHeld.1.size ?_
   intro v96 w17 s96 b17 hg; have B17 := hI b17; have S96 := hI s96; have R96 := rS s96
   clear R94
   clear R95
   replace R102 := rG R102 hg N102
   clear S94 s96 b17 hg
   clear hHeld; refine hK.out _ _ (KP _ B17.out) (fun hHeld => ?_); clear hK K; try simp only [Act.put, pa, pz, ps]
   refine rdy [12] (arc 101 rfl (fun K hK => ?_) AllReadyH.nil)
   go_simp; go_at_call 118; refine (HC.out w17 hHeld.1).mono ?_; rintro e w18 ⟨v101, rfl, s101, b18⟩; have B18 := bN hHeld.1 b18; have R101 := rS s101
   replace R96 := rB R96 b18; replace R102 := rB R102 b18; replace S96 := sB S96 b18
   clear b18 s101
   clear hHeld; refine hK.out _ _ (KP _ B18.out) (fun hHeld => ?_); clear hK K; try simp only [Act.put, pa, pz, ps]
   refine rdy [14] (arc 103 rfl (fun K hK => ?_) AllReadyH.nil)
   go_simp; go_at_call 80; refine (za _ _ _ _ _ _ w18 R96.out.rd R101.out.rd R102.out.rd (by (try simp only [la, lc, ln]); omega) (by (try simp only [la, lc, ln]); omega) (by (try simp only [la, lc, ln]); omega)).mono ?_; rintro e w19 ⟨v103, rfl, s103, b19⟩; have B19 := bN hHeld.1 b19; have R103 := rS s103
   replace R96 := rB R96 b19; replace R101 := rB R101 b19; replace R102 := rB R102 b19; replace S96 := sB S96 b19
   have S103 := sM s103 hHeld.1.size
   clear b19 s103
   clear hHeld; refine hK.out _ _ (KP _ B19.out) (fun hHeld => ?_); clear hK K; try simp only [Act.put, pa, pz, ps]
   refine tkm 15 4 (v103) hHeld rfl ?_; try simp only [Act.put, pa, pz, ps]
   have R4 := R103; clear R103
   have S4 := S103; clear S103
   refine wpAnyH_done (by kernel_rfl) ?_ _
   go_wp2
   go_ret
   exact ⟨_, rfl, by rw [HE.out]; exact S4.out.mono (by omega), B0.out.trans (B19.out.mono (by omega))⟩
 ·go_simp; obtain ⟨w20, h20, b20, B20, R95⟩ := nB hHeld.1 [⟨#[40]⟩] #[.string ⟨#[40]⟩] rfl rfl; rw [<- h20]; clear h20
  clear b20
  clear hHeld; refine hK.out _ _ (KP _ B20.out) (fun hHeld => ?_); clear hK K; try simp only [Act.put, pa, pz, ps]
  refine rdy [5, 13] (arc 94 rfl (fun K hK => ?_) (arc 102 rfl (fun K hK => ?_) AllReadyH.nil))
  ·go_simp; go_at_call 36; refine (HR.out w20 0 (by omega) hHeld.1).mono ?_; rintro e w21 ⟨v94, rfl, s94, b21⟩; have B21 := bN hHeld.1 b21; have R94 := rS s94
   have N95 := nC R95 s94
   replace R95 := rB R95 b21
   have S94 := sM s94 hHeld.1.size
   clear b21 s94
   clear hHeld; refine hK.out _ _ (KP _ B21.out) (fun hHeld => ?_); clear hK K; try simp only [Act.put, pa, pz, ps]
   refine rdy [7, 13] (arc 96 rfl (fun K hK => ?_) (arc 102 rfl (fun K hK => ?_) AllReadyH.nil))
   ·rw [if_pos (by kernel_rfl)]; refine zg (by rfl) W0.heap.size W0 _ _ (by rfl) S94.out hHeld.1 _ _ (by rfl) R95.out (by (try simp only [la, lc, ln]); omega) (by (try simp only [la, lc, ln]); omega) hHeld.1.size ?_
    intro v96 w22 s96 b22 hg; have B22 := hI b22; have S96 := hI s96; have R96 := rS s96
    clear R94
    clear R95
    clear S94 s96 b22 hg
    clear hHeld; refine hK.out _ _ (KP _ B22.out) (fun hHeld => ?_); clear hK K; try simp only [Act.put, pa, pz, ps]
    refine rdy [12, 13] (arc 101 rfl (fun K hK => ?_) (arc 102 rfl (fun K hK => ?_) AllReadyH.nil))
    ·go_simp; go_at_call 118; refine (HC.out w22 hHeld.1).mono ?_; rintro e w23 ⟨v101, rfl, s101, b23⟩; have B23 := bN hHeld.1 b23; have R101 := rS s101
     replace R96 := rB R96 b23; replace S96 := sB S96 b23
     clear b23 s101
     clear hHeld; refine hK.out _ _ (KP _ B23.out) (fun hHeld => ?_); clear hK K; try simp only [Act.put, pa, pz, ps]
     refine rdy [13] (arc 102 rfl (fun K hK => ?_) AllReadyH.nil)
     go_simp; obtain ⟨w24, h24, b24, B24, R102⟩ := nB hHeld.1 [⟨#[41]⟩] #[.string ⟨#[41]⟩] rfl rfl; rw [<- h24]; clear h24
     replace R96 := rB R96 b24; replace R101 := rB R101 b24; replace S96 := sB S96 b24
     clear b24
     clear hHeld; refine hK.out _ _ (KP _ B24.out) (fun hHeld => ?_); clear hK K; try simp only [Act.put, pa, pz, ps]
     refine rdy [14] (arc 103 rfl (fun K hK => ?_) AllReadyH.nil)
     go_simp; go_at_call 80; refine (za _ _ _ _ _ _ w24 R96.out.rd R101.out.rd R102.out.rd (by (try simp only [la, lc, ln]); omega) (by (try simp only [la, lc, ln]); omega) (by (try simp only [la, lc, ln]); omega)).mono ?_; rintro e w25 ⟨v103, rfl, s103, b25⟩; have B25 := bN hHeld.1 b25; have R103 := rS s103
     replace R96 := rB R96 b25; replace R101 := rB R101 b25; replace R102 := rB R102 b25; replace S96 := sB S96 b25
     have S103 := sM s103 hHeld.1.size
     clear b25 s103
     clear hHeld; refine hK.out _ _ (KP _ B25.out) (fun hHeld => ?_); clear hK K; try simp only [Act.put, pa, pz, ps]
     refine tkm 15 4 (v103) hHeld rfl ?_; try simp only [Act.put, pa, pz, ps]
     have R4 := R103; clear R103
     have S4 := S103; clear S103
     refine wpAnyH_done (by kernel_rfl) ?_ _
     go_wp2
     go_ret
     exact ⟨_, rfl, by rw [HE.out]; exact S4.out.mono (by omega), B0.out.trans (B25.out.mono (by omega))⟩
    ·go_simp; obtain ⟨w26, h26, b26, B26, R102⟩ := nB hHeld.1 [⟨#[41]⟩] #[.string ⟨#[41]⟩] rfl rfl; rw [<- h26]; clear h26
     replace R96 := rB R96 b26; replace S96 := sB S96 b26
     clear b26
     clear hHeld; refine hK.out _ _ (KP _ B26.out) (fun hHeld => ?_); clear hK K; try simp only [Act.put, pa, pz, ps]
     refine rdy [12] (arc 101 rfl (fun K hK => ?_) AllReadyH.nil)
     go_simp; go_at_call 118; refine (HC.out w26 hHeld.1).mono ?_; rintro e w27 ⟨v101, rfl, s101, b27⟩; have B27 := bN hHeld.1 b27; have R101 := rS s101
     replace R96 := rB R96 b27; replace R102 := rB R102 b27; replace S96 := sB S96 b27
     clear b27 s101
     clear hHeld; refine hK.out _ _ (KP _ B27.out) (fun hHeld => ?_); clear hK K; try simp only [Act.put, pa, pz, ps]
     refine rdy [14] (arc 103 rfl (fun K hK => ?_) AllReadyH.nil)
     go_simp; go_at_call 80; refine (za _ _ _ _ _ _ w27 R96.out.rd R101.out.rd R102.out.rd (by (try simp only [la, lc, ln]); omega) (by (try simp only [la, lc, ln]); omega) (by (try simp only [la, lc, ln]); omega)).mono ?_; rintro e w28 ⟨v103, rfl, s103, b28⟩; have B28 := bN hHeld.1 b28; have R103 := rS s103
     replace R96 := rB R96 b28; replace R101 := rB R101 b28; replace R102 := rB R102 b28; replace S96 := sB S96 b28
     have S103 := sM s103 hHeld.1.size
     clear b28 s103
     clear hHeld; refine hK.out _ _ (KP _ B28.out) (fun hHeld => ?_); clear hK K; try simp only [Act.put, pa, pz, ps]
     refine tkm 15 4 (v103) hHeld rfl ?_; try simp only [Act.put, pa, pz, ps]
     have R4 := R103; clear R103
     have S4 := S103; clear S103
     refine wpAnyH_done (by kernel_rfl) ?_ _
     go_wp2
     go_ret
     exact ⟨_, rfl, by rw [HE.out]; exact S4.out.mono (by omega), B0.out.trans (B28.out.mono (by omega))⟩
   ·go_simp; obtain ⟨w29, h29, b29, B29, R102⟩ := nB hHeld.1 [⟨#[41]⟩] #[.string ⟨#[41]⟩] rfl rfl; rw [<- h29]; clear h29
    have N102 := nL R94 1
    replace R94 := rB R94 b29; replace R95 := rB R95 b29; replace S94 := sB S94 b29
    clear b29
    clear hHeld; refine hK.out _ _ (KP _ B29.out) (fun hHeld => ?_); clear hK K; try simp only [Act.put, pa, pz, ps]
    refine rdy [7] (arc 96 rfl (fun K hK => ?_) AllReadyH.nil)
    rw [if_pos (by kernel_rfl)]; refine zg (by rfl) W0.heap.size W0 _ _ (by rfl) S94.out hHeld.1 _ _ (by rfl) R95.out (by (try simp only [la, lc, ln]); omega) (by (try simp only [la, lc, ln]); omega) hHeld.1.size ?_
    intro v96 w30 s96 b30 hg; have B30 := hI b30; have S96 := hI s96; have R96 := rS s96
    clear R94
    clear R95
    replace R102 := rG R102 hg N102
    clear S94 s96 b30 hg
    clear hHeld; refine hK.out _ _ (KP _ B30.out) (fun hHeld => ?_); clear hK K; try simp only [Act.put, pa, pz, ps]
    refine rdy [12] (arc 101 rfl (fun K hK => ?_) AllReadyH.nil)
    go_simp; go_at_call 118; refine (HC.out w30 hHeld.1).mono ?_; rintro e w31 ⟨v101, rfl, s101, b31⟩; have B31 := bN hHeld.1 b31; have R101 := rS s101
    replace R96 := rB R96 b31; replace R102 := rB R102 b31; replace S96 := sB S96 b31
    clear b31 s101
    clear hHeld; refine hK.out _ _ (KP _ B31.out) (fun hHeld => ?_); clear hK K; try simp only [Act.put, pa, pz, ps]
    refine rdy [14] (arc 103 rfl (fun K hK => ?_) AllReadyH.nil)
    go_simp; go_at_call 80; refine (za _ _ _ _ _ _ w31 R96.out.rd R101.out.rd R102.out.rd (by (try simp only [la, lc, ln]); omega) (by (try simp only [la, lc, ln]); omega) (by (try simp only [la, lc, ln]); omega)).mono ?_; rintro e w32 ⟨v103, rfl, s103, b32⟩; have B32 := bN hHeld.1 b32; have R103 := rS s103
    replace R96 := rB R96 b32; replace R101 := rB R101 b32; replace R102 := rB R102 b32; replace S96 := sB S96 b32
    have S103 := sM s103 hHeld.1.size
    clear b32 s103
    clear hHeld; refine hK.out _ _ (KP _ B32.out) (fun hHeld => ?_); clear hK K; try simp only [Act.put, pa, pz, ps]
    refine tkm 15 4 (v103) hHeld rfl ?_; try simp only [Act.put, pa, pz, ps]
    have R4 := R103; clear R103
    have S4 := S103; clear S103
    refine wpAnyH_done (by kernel_rfl) ?_ _
    go_wp2
    go_ret
    exact ⟨_, rfl, by rw [HE.out]; exact S4.out.mono (by omega), B0.out.trans (B32.out.mono (by omega))⟩
  ·go_simp; obtain ⟨w33, h33, b33, B33, R102⟩ := nB hHeld.1 [⟨#[41]⟩] #[.string ⟨#[41]⟩] rfl rfl; rw [<- h33]; clear h33
   replace R95 := rB R95 b33
   clear b33
   clear hHeld; refine hK.out _ _ (KP _ B33.out) (fun hHeld => ?_); clear hK K; try simp only [Act.put, pa, pz, ps]
   refine rdy [5] (arc 94 rfl (fun K hK => ?_) AllReadyH.nil)
   go_simp; go_at_call 36; refine (HR.out w33 0 (by omega) hHeld.1).mono ?_; rintro e w34 ⟨v94, rfl, s94, b34⟩; have B34 := bN hHeld.1 b34; have R94 := rS s94
   have N95 := nC R95 s94
   have N102 := nC R102 s94
   replace R95 := rB R95 b34; replace R102 := rB R102 b34
   have S94 := sM s94 hHeld.1.size
   clear b34 s94
   clear hHeld; refine hK.out _ _ (KP _ B34.out) (fun hHeld => ?_); clear hK K; try simp only [Act.put, pa, pz, ps]
   refine rdy [7] (arc 96 rfl (fun K hK => ?_) AllReadyH.nil)
   rw [if_pos (by kernel_rfl)]; refine zg (by rfl) W0.heap.size W0 _ _ (by rfl) S94.out hHeld.1 _ _ (by rfl) R95.out (by (try simp only [la, lc, ln]); omega) (by (try simp only [la, lc, ln]); omega) hHeld.1.size ?_
   intro v96 w35 s96 b35 hg; have B35 := hI b35; have S96 := hI s96; have R96 := rS s96
   clear R94
   clear R95
   replace R102 := rG R102 hg N102
   clear S94 s96 b35 hg
   clear hHeld; refine hK.out _ _ (KP _ B35.out) (fun hHeld => ?_); clear hK K; try simp only [Act.put, pa, pz, ps]
   refine rdy [12] (arc 101 rfl (fun K hK => ?_) AllReadyH.nil)
   go_simp; go_at_call 118; refine (HC.out w35 hHeld.1).mono ?_; rintro e w36 ⟨v101, rfl, s101, b36⟩; have B36 := bN hHeld.1 b36; have R101 := rS s101
   replace R96 := rB R96 b36; replace R102 := rB R102 b36; replace S96 := sB S96 b36
   clear b36 s101
   clear hHeld; refine hK.out _ _ (KP _ B36.out) (fun hHeld => ?_); clear hK K; try simp only [Act.put, pa, pz, ps]
   refine rdy [14] (arc 103 rfl (fun K hK => ?_) AllReadyH.nil)
   go_simp; go_at_call 80; refine (za _ _ _ _ _ _ w36 R96.out.rd R101.out.rd R102.out.rd (by (try simp only [la, lc, ln]); omega) (by (try simp only [la, lc, ln]); omega) (by (try simp only [la, lc, ln]); omega)).mono ?_; rintro e w37 ⟨v103, rfl, s103, b37⟩; have B37 := bN hHeld.1 b37; have R103 := rS s103
   replace R96 := rB R96 b37; replace R101 := rB R101 b37; replace R102 := rB R102 b37; replace S96 := sB S96 b37
   have S103 := sM s103 hHeld.1.size
   clear b37 s103
   clear hHeld; refine hK.out _ _ (KP _ B37.out) (fun hHeld => ?_); clear hK K; try simp only [Act.put, pa, pz, ps]
   refine tkm 15 4 (v103) hHeld rfl ?_; try simp only [Act.put, pa, pz, ps]
   have R4 := R103; clear R103
   have S4 := S103; clear S103
   refine wpAnyH_done (by kernel_rfl) ?_ _
   go_wp2
   go_ret
   exact ⟨_, rfl, by rw [HE.out]; exact S4.out.mono (by omega), B0.out.trans (B37.out.mono (by omega))⟩
 ·go_simp; obtain ⟨w38, h38, b38, B38, R102⟩ := nB hHeld.1 [⟨#[41]⟩] #[.string ⟨#[41]⟩] rfl rfl; rw [<- h38]; clear h38
  clear b38
  clear hHeld; refine hK.out _ _ (KP _ B38.out) (fun hHeld => ?_); clear hK K; try simp only [Act.put, pa, pz, ps]
  refine rdy [5, 6] (arc 94 rfl (fun K hK => ?_) (arc 95 rfl (fun K hK => ?_) AllReadyH.nil))
  ·go_simp; go_at_call 36; refine (HR.out w38 0 (by omega) hHeld.1).mono ?_; rintro e w39 ⟨v94, rfl, s94, b39⟩; have B39 := bN hHeld.1 b39; have R94 := rS s94
   have N102 := nC R102 s94
   replace R102 := rB R102 b39
   have S94 := sM s94 hHeld.1.size
   clear b39 s94
   clear hHeld; refine hK.out _ _ (KP _ B39.out) (fun hHeld => ?_); clear hK K; try simp only [Act.put, pa, pz, ps]
   refine rdy [6] (arc 95 rfl (fun K hK => ?_) AllReadyH.nil)
   go_simp; obtain ⟨w40, h40, b40, B40, R95⟩ := nB hHeld.1 [⟨#[40]⟩] #[.string ⟨#[40]⟩] rfl rfl; rw [<- h40]; clear h40
   replace R94 := rB R94 b40; replace R102 := rB R102 b40; replace S94 := sB S94 b40
   clear b40
   clear hHeld; refine hK.out _ _ (KP _ B40.out) (fun hHeld => ?_); clear hK K; try simp only [Act.put, pa, pz, ps]
   refine rdy [7] (arc 96 rfl (fun K hK => ?_) AllReadyH.nil)
   rw [if_pos (by kernel_rfl)]; refine zg (by rfl) W0.heap.size W0 _ _ (by rfl) S94.out hHeld.1 _ _ (by rfl) R95.out (by (try simp only [la, lc, ln]); omega) (by (try simp only [la, lc, ln]); omega) hHeld.1.size ?_
   intro v96 w41 s96 b41 hg; have B41 := hI b41; have S96 := hI s96; have R96 := rS s96
   clear R94
   clear R95
   replace R102 := rG R102 hg N102
   clear S94 s96 b41 hg
   clear hHeld; refine hK.out _ _ (KP _ B41.out) (fun hHeld => ?_); clear hK K; try simp only [Act.put, pa, pz, ps]
   refine rdy [12] (arc 101 rfl (fun K hK => ?_) AllReadyH.nil)
   go_simp; go_at_call 118; refine (HC.out w41 hHeld.1).mono ?_; rintro e w42 ⟨v101, rfl, s101, b42⟩; have B42 := bN hHeld.1 b42; have R101 := rS s101
   replace R96 := rB R96 b42; replace R102 := rB R102 b42; replace S96 := sB S96 b42
   clear b42 s101
   clear hHeld; refine hK.out _ _ (KP _ B42.out) (fun hHeld => ?_); clear hK K; try simp only [Act.put, pa, pz, ps]
   refine rdy [14] (arc 103 rfl (fun K hK => ?_) AllReadyH.nil)
   go_simp; go_at_call 80; refine (za _ _ _ _ _ _ w42 R96.out.rd R101.out.rd R102.out.rd (by (try simp only [la, lc, ln]); omega) (by (try simp only [la, lc, ln]); omega) (by (try simp only [la, lc, ln]); omega)).mono ?_; rintro e w43 ⟨v103, rfl, s103, b43⟩; have B43 := bN hHeld.1 b43; have R103 := rS s103
   replace R96 := rB R96 b43; replace R101 := rB R101 b43; replace R102 := rB R102 b43; replace S96 := sB S96 b43
   have S103 := sM s103 hHeld.1.size
   clear b43 s103
   clear hHeld; refine hK.out _ _ (KP _ B43.out) (fun hHeld => ?_); clear hK K; try simp only [Act.put, pa, pz, ps]
   refine tkm 15 4 (v103) hHeld rfl ?_; try simp only [Act.put, pa, pz, ps]
   have R4 := R103; clear R103
   have S4 := S103; clear S103
   refine wpAnyH_done (by kernel_rfl) ?_ _
   go_wp2
   go_ret
   exact ⟨_, rfl, by rw [HE.out]; exact S4.out.mono (by omega), B0.out.trans (B43.out.mono (by omega))⟩
  ·go_simp; obtain ⟨w44, h44, b44, B44, R95⟩ := nB hHeld.1 [⟨#[40]⟩] #[.string ⟨#[40]⟩] rfl rfl; rw [<- h44]; clear h44
   replace R102 := rB R102 b44
   clear b44
   clear hHeld; refine hK.out _ _ (KP _ B44.out) (fun hHeld => ?_); clear hK K; try simp only [Act.put, pa, pz, ps]
   refine rdy [5] (arc 94 rfl (fun K hK => ?_) AllReadyH.nil)
   go_simp; go_at_call 36; refine (HR.out w44 0 (by omega) hHeld.1).mono ?_; rintro e w45 ⟨v94, rfl, s94, b45⟩; have B45 := bN hHeld.1 b45; have R94 := rS s94
   have N95 := nC R95 s94
   have N102 := nC R102 s94
   replace R95 := rB R95 b45; replace R102 := rB R102 b45
   have S94 := sM s94 hHeld.1.size
   clear b45 s94
   clear hHeld; refine hK.out _ _ (KP _ B45.out) (fun hHeld => ?_); clear hK K; try simp only [Act.put, pa, pz, ps]
   refine rdy [7] (arc 96 rfl (fun K hK => ?_) AllReadyH.nil)
   rw [if_pos (by kernel_rfl)]; refine zg (by rfl) W0.heap.size W0 _ _ (by rfl) S94.out hHeld.1 _ _ (by rfl) R95.out (by (try simp only [la, lc, ln]); omega) (by (try simp only [la, lc, ln]); omega) hHeld.1.size ?_
   intro v96 w46 s96 b46 hg; have B46 := hI b46; have S96 := hI s96; have R96 := rS s96
   clear R94
   clear R95
   replace R102 := rG R102 hg N102
   clear S94 s96 b46 hg
   clear hHeld; refine hK.out _ _ (KP _ B46.out) (fun hHeld => ?_); clear hK K; try simp only [Act.put, pa, pz, ps]
   refine rdy [12] (arc 101 rfl (fun K hK => ?_) AllReadyH.nil)
   go_simp; go_at_call 118; refine (HC.out w46 hHeld.1).mono ?_; rintro e w47 ⟨v101, rfl, s101, b47⟩; have B47 := bN hHeld.1 b47; have R101 := rS s101
   replace R96 := rB R96 b47; replace R102 := rB R102 b47; replace S96 := sB S96 b47
   clear b47 s101
   clear hHeld; refine hK.out _ _ (KP _ B47.out) (fun hHeld => ?_); clear hK K; try simp only [Act.put, pa, pz, ps]
   refine rdy [14] (arc 103 rfl (fun K hK => ?_) AllReadyH.nil)
   go_simp; go_at_call 80; refine (za _ _ _ _ _ _ w47 R96.out.rd R101.out.rd R102.out.rd (by (try simp only [la, lc, ln]); omega) (by (try simp only [la, lc, ln]); omega) (by (try simp only [la, lc, ln]); omega)).mono ?_; rintro e w48 ⟨v103, rfl, s103, b48⟩; have B48 := bN hHeld.1 b48; have R103 := rS s103
   replace R96 := rB R96 b48; replace R101 := rB R101 b48; replace R102 := rB R102 b48; replace S96 := sB S96 b48
   have S103 := sM s103 hHeld.1.size
   clear b48 s103
   clear hHeld; refine hK.out _ _ (KP _ B48.out) (fun hHeld => ?_); clear hK K; try simp only [Act.put, pa, pz, ps]
   refine tkm 15 4 (v103) hHeld rfl ?_; try simp only [Act.put, pa, pz, ps]
   have R4 := R103; clear R103
   have S4 := S103; clear S103
   refine wpAnyH_done (by kernel_rfl) ?_ _
   go_wp2
   go_ret
   exact ⟨_, rfl, by rw [HE.out]; exact S4.out.mono (by omega), B0.out.trans (B48.out.mono (by omega))⟩
end Go.Proofs.YtiglkhkfbgjjoaaDoor
