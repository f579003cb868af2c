/- - -/
import Derived.Test.YtiglkhkfbgjjoaaDoorQMtA
namespace Go.Proofs.YtiglkhkfbgjjoaaDoor
set_option maxRecDepth 20000
open Go.RowKit Go.PlainAid Go.Maps
set_option linter.unusedSimpArgs false
set_option linter.unusedVariables false
set_option maxHeartbeats 4000000 in
theorem zky (a : Option Addr) (L c : Nat) (top : Int) (t : ByteArray) (i : Int) (ak : Option Addr) (ck : Nat) (y : Nat -> Int) (rec : Int -> List ByteArray) (T : Nat) (w : World) (hk : SlF T w (.slice ak (3) ck) (3) (3) (fun i => .int .i64 (y i))) (hT : T <= w.heap.size) (hc1 : 3 <= ck) (hc2 : ck <= 1048576) (hs : smN rec y (3) <= 100000)
 (hr : ∀ (V : World) (m : Nat), m < 3 -> Below w.heap.size w V -> Calls Tryd.prog 36 #[.agg #[.slice a L c, .int .i64 top], .int .i64 (y m)] V (zc V (rec (y m)))) :
 Calls Tryd.prog 79 #[.agg #[.slice a L c, .int .i64 top], .agg #[.int .i64 16, .string t, .int .i64 i, .slice ak (3) ck]] w (zc w (bod rec ⟨16, t, i, 3, y⟩)) := by
 obtain ⟨bk, ok, ck2, hv, tk1, lk, hkk⟩ := hk.parts (k := 0) (by omega)
 simp only [Value.slice.injEq] at hv
 obtain ⟨rfl, _, rfl⟩ := hv
 have yc0 := hkk 0 (by omega)
 rw [Nat.add_zero] at yc0
 have yc1 := hkk 1 (by omega)
 have yc2 := hkk 2 (by omega)
 have n0 : (rec (y 0)).length <= 100000 := Nat.le_trans (smA rec y (by omega : 0 < 3)) hs
 have n1 : (rec (y 1)).length <= 100000 := Nat.le_trans (smA rec y (by omega : 1 < 3)) hs
 have n2 : (rec (y 2)).length <= 100000 := Nat.le_trans (smA rec y (by omega : 2 < 3)) hs
 have HE : Hid (bod rec ⟨16, t, i, 3, y⟩ = ((rec (y 0) ++ [⟨#[91]⟩]) ++ rec (y 1) ++ [⟨#[93]⟩, ⟨#[61]⟩]) ++ rec (y 2) ++ [⟨#[59]⟩]) := by show bod _ _ = _; simp [bod, opB]
 obtain ⟨W0, hW0⟩ : ∃ V, V = (w.alloc (.cells #[.slice a L c, .int .i64 top] 41)).alloc (.cells #[.int .i64 16, .string t, .int .i64 i, .slice (some ⟨bk, ok, none⟩) 3 ck] 71) := ⟨_, rfl⟩
 have z0 : W0.heap.size = w.heap.size + 2 := by rw [hW0]; simp
 have B0 : Hid (Below w.heap.size w W0) := by rw [hW0]; exact ((Below.refl _ _).alloc (Nat.le_refl _) _).alloc (by simp) _
 have T0 : ∀ z, W0.cell? ⟨w.heap.size, z, none⟩ = (#[.slice a L c, .int .i64 top] : Array Value)[z]? := fun z => by rw [hW0]; simp [go_sem]
 have K0 : ∀ z, W0.cell? ⟨w.heap.size + 1, z, none⟩ = (#[.int .i64 16, .string t, .int .i64 i, .slice (some ⟨bk, ok, none⟩) 3 ck] : Array Value)[z]? := fun z => by rw [hW0]; simp [go_sem]
 have HR : Hid (∀ (V : World) (m : Nat), m < 3 -> Below W0.heap.size W0 V -> Calls Tryd.prog 36 #[.agg #[.slice a L c, .int .i64 top], .int .i64 (y m)] V (zc V (rec (y m)))) := fun V m hm hV => hr V m hm (B0.out.trans (hV.mono (by omega)))
 have BK : Hid (∀ V, Below W0.heap.size W0 V -> Below w.heap.size w V) := fun V hV => B0.out.trans (hV.mono (by omega))
 have KP : ∀ V, Below W0.heap.size W0 V -> (SQ3 W0 w.heap.size #[.slice a L c, .int .i64 top] #[.int .i64 16, .string t, .int .i64 i, .slice (some ⟨bk, ok, none⟩) 3 ck] bk (ok) (y 0) (ok + 1) (y 1) (ok + 2) (y 2)) V := fun V hV => ⟨hV, fun z => (hV.cell (p := ⟨w.heap.size, z, none⟩) (by dsimp only; omega)).trans (T0 z), fun z => (hV.cell (p := ⟨w.heap.size + 1, z, none⟩) (by dsimp only; omega)).trans (K0 z), ((BK.out V hV).cell (p := ⟨bk, ok, none⟩) (by dsimp only; omega)).trans yc0, ((BK.out V hV).cell (p := ⟨bk, ok + 1, none⟩) (by dsimp only; omega)).trans yc1, ((BK.out V hV).cell (p := ⟨bk, ok + 2, none⟩) (by dsimp only; omega)).trans yc2⟩
 have KP' : Hid (∀ V, Below W0.heap.size W0 V -> (SQ3 W0 w.heap.size #[.slice a L c, .int .i64 top] #[.int .i64 16, .string t, .int .i64 i, .slice (some ⟨bk, ok, none⟩) 3 ck] bk (ok) (y 0) (ok + 1) (y 1) (ok + 2) (y 2)) V) := KP
 clear hk hr hs hkk KP T0 K0 yc0 yc1 yc2
 have BW : Hid (Below W0.heap.size W0 W0) := Below.refl _ _
 go_enter Tryd.func79, Tryd.ntmps79
 go_wp2_with fail
 rw [<- hW0]
 clear hW0
 have KP := KP'.out
 clear KP'
 refine wp_region_held_drew (by kernel_rfl) (KP _ BW.out.drew) (fun hHeld => ?_); obtain ⟨w1, h1, b1⟩ := dR W0; rw [<- h1] at hHeld ⊢; clear h1
 clear b1
 refine tkm 0 37 (.agg #[.slice a L c, .int .i64 top]) hHeld rfl ?_; try simp only [Act.put, pa, pz, ps]
 refine tkm 1 38 (.pointer (some ⟨w.heap.size + 1, 3, none⟩)) hHeld rfl ?_; try simp only [Act.put, pa, pz, ps]
 refine tkm 2 39 (.slice (some ⟨bk, ok, none⟩) 3 ck) hHeld rfl ?_; try simp only [Act.put, pa, pz, ps]
 refine tkm 3 40 (.pointer (some ⟨bk, ok, none⟩)) hHeld rfl ?_; try simp only [Act.put, pa, pz, ps]
 refine tkm 4 41 (.int .i64 (y 0)) hHeld rfl ?_; try simp only [Act.put, pa, pz, ps]
 refine tkm 8 45 (.agg #[.slice a L c, .int .i64 top]) hHeld rfl ?_; try simp only [Act.put, pa, pz, ps]
 refine tkm 9 46 (.pointer (some ⟨w.heap.size + 1, 3, none⟩)) hHeld rfl ?_; try simp only [Act.put, pa, pz, ps]
 refine tkm 10 47 (.slice (some ⟨bk, ok, none⟩) 3 ck) hHeld rfl ?_; try simp only [Act.put, pa, pz, ps]
 refine tkm 11 48 (.pointer (some ⟨bk, ok + 1, none⟩)) hHeld rfl ?_; try simp only [Act.put, pa, pz, ps]
 refine tkm 12 49 (.int .i64 (y 1)) hHeld rfl ?_; try simp only [Act.put, pa, pz, ps]
 refine rdy [5, 6, 14] (arc 42 rfl (fun K hK => ?_) (arc 43 rfl (fun K hK => ?_) (arc 51 rfl (fun K hK => ?_) AllReadyH.nil)))
 ·go_simp; go_at_call 36; refine (HR.out w1 0 (by omega) hHeld.1).mono ?_; rintro e w2 ⟨v42, rfl, s42, b2⟩; have B2 := bN hHeld.1 b2; have R42 := rS s42
  have S42 := sM s42 hHeld.1.size
  clear b2 s42
  clear hHeld; refine hK.out _ _ (KP _ B2.out) (fun hHeld => ?_); clear hK K; try simp only [Act.put, pa, pz, ps]
  refine rdy [6, 14] (arc 43 rfl (fun K hK => ?_) (arc 51 rfl (fun K hK => ?_) AllReadyH.nil))
  ·go_simp; obtain ⟨w3, h3, b3, B3, R43⟩ := nB hHeld.1 [⟨#[91]⟩] #[.string ⟨#[91]⟩] rfl rfl; rw [<- h3]; clear h3
   replace R42 := rB R42 b3; replace S42 := sB S42 b3
   clear b3
   clear hHeld; refine hK.out _ _ (KP _ B3.out) (fun hHeld => ?_); clear hK K; try simp only [Act.put, pa, pz, ps]
   refine rdy [7, 14] (arc 44 rfl (fun K hK => ?_) (arc 51 rfl (fun K hK => ?_) AllReadyH.nil))
   ·rw [if_pos (by kernel_rfl)]; refine zg (by rfl) W0.heap.size W0 _ _ (by rfl) S42.out hHeld.1 _ _ (by rfl) R43.out (by (try simp only [la, lc, ln]); omega) (by (try simp only [la, lc, ln]); omega) hHeld.1.size ?_
    intro v44 w4 s44 b4 hg; have B4 := hI b4; have S44 := hI s44; have R44 := rS s44
    clear R42
    clear R43
    clear S42 s44 b4 hg
    clear hHeld; refine hK.out _ _ (KP _ B4.out) (fun hHeld => ?_); clear hK K; try simp only [Act.put, pa, pz, ps]
    refine rdy [13, 14] (arc 50 rfl (fun K hK => ?_) (arc 51 rfl (fun K hK => ?_) AllReadyH.nil))
    ·go_simp; go_at_call 36; refine (HR.out w4 1 (by omega) hHeld.1).mono ?_; rintro e w5 ⟨v50, rfl, s50, b5⟩; have B5 := bN hHeld.1 b5; have R50 := rS s50
     replace R44 := rB R44 b5; replace S44 := sB S44 b5
     clear b5 s50
     clear hHeld; refine hK.out _ _ (KP _ B5.out) (fun hHeld => ?_); clear hK K; try simp only [Act.put, pa, pz, ps]
     refine rdy [14] (arc 51 rfl (fun K hK => ?_) AllReadyH.nil)
     go_simp; obtain ⟨w6, h6, b6, B6, R51⟩ := nB hHeld.1 [⟨#[93]⟩, ⟨#[61]⟩] #[.string ⟨#[93]⟩, .string ⟨#[61]⟩] rfl rfl; rw [<- h6]; clear h6
     replace R44 := rB R44 b6; replace R50 := rB R50 b6; replace S44 := sB S44 b6
     clear b6
     clear hHeld; refine hK.out _ _ (KP _ B6.out) (fun hHeld => ?_); clear hK K; try simp only [Act.put, pa, pz, ps]
     refine rdy [15] (arc 52 rfl (fun K hK => ?_) AllReadyH.nil)
     go_simp; go_at_call 80; refine (za _ _ _ _ _ _ w6 R44.out.rd R50.out.rd R51.out.rd (by (try simp only [la, lc, ln]); omega) (by (try simp only [la, lc, ln]); omega) (by (try simp only [la, lc, ln]); omega)).mono ?_; rintro e w7 ⟨v52, rfl, s52, b7⟩; have B7 := bN hHeld.1 b7; have R52 := rS s52
     replace R44 := rB R44 b7; replace R50 := rB R50 b7; replace R51 := rB R51 b7; replace S44 := sB S44 b7
     have S52 := sM s52 hHeld.1.size
     clear b7 s52
     clear hHeld; refine hK.out _ _ (KP _ B7.out) (fun hHeld => ?_); clear hK K; try simp only [Act.put, pa, pz, ps]
     refine tkm 16 5 (v52) hHeld rfl ?_; try simp only [Act.put, pa, pz, ps]
     have R5 := R52; clear R52
     have S5 := S52; clear S52
     refine wpAnyH_done (by kernel_rfl) ?_ _
     clear R44; clear R50; clear R51; clear S5; clear S44
     obtain ⟨-, tc, kc, -⟩ := KP _ B7.out; have lz := B7.out.size; have lz1 : w.heap.size + 1 < w7.heap.size := by omega
     go_wp2_with fail
     clear tc kc lz lz1
     refine wp_region_held_drew (by kernel_rfl) (KP _ B7.out.drew) (fun hHeld => ?_); obtain ⟨w8, h8, b8⟩ := dR w7; rw [<- h8] at hHeld ⊢; clear h8
     replace R5 := rB R5 b8
     clear b8
     refine tkm 0 53 (v52) hHeld rfl ?_; try simp only [Act.put, pa, pz, ps]
     have R53 := R5; clear R5
     refine tkm 1 54 (.agg #[.slice a L c, .int .i64 top]) hHeld rfl ?_; try simp only [Act.put, pa, pz, ps]
     refine tkm 2 55 (.pointer (some ⟨w.heap.size + 1, 3, none⟩)) hHeld rfl ?_; try simp only [Act.put, pa, pz, ps]
     refine tkm 3 56 (.slice (some ⟨bk, ok, none⟩) 3 ck) hHeld rfl ?_; try simp only [Act.put, pa, pz, ps]
     refine tkm 4 57 (.pointer (some ⟨bk, ok + 2, none⟩)) hHeld rfl ?_; try simp only [Act.put, pa, pz, ps]
     refine tkm 5 58 (.int .i64 (y 2)) hHeld rfl ?_; try simp only [Act.put, pa, pz, ps]
     refine rdy [6, 7] (arc 59 rfl (fun K hK => ?_) (arc 60 rfl (fun K hK => ?_) AllReadyH.nil))
     ·go_simp; go_at_call 36; refine (HR.out w8 2 (by omega) hHeld.1).mono ?_; rintro e w9 ⟨v59, rfl, s59, b9⟩; have B9 := bN hHeld.1 b9; have R59 := rS s59
      replace R53 := rB R53 b9
      clear b9 s59
      clear hHeld; refine hK.out _ _ (KP _ B9.out) (fun hHeld => ?_); clear hK K; try simp only [Act.put, pa, pz, ps]
      refine rdy [7] (arc 60 rfl (fun K hK => ?_) AllReadyH.nil)
      go_simp; obtain ⟨w10, h10, b10, B10, R60⟩ := nB hHeld.1 [⟨#[59]⟩] #[.string ⟨#[59]⟩] rfl rfl; rw [<- h10]; clear h10
      replace R53 := rB R53 b10; replace R59 := rB R59 b10
      clear b10
      clear hHeld; refine hK.out _ _ (KP _ B10.out) (fun hHeld => ?_); clear hK K; try simp only [Act.put, pa, pz, ps]
      refine rdy [8] (arc 61 rfl (fun K hK => ?_) AllReadyH.nil)
      go_simp; go_at_call 80; refine (za _ _ _ _ _ _ w10 R53.out.rd R59.out.rd R60.out.rd (by (try simp only [la, lc, ln]); omega) (by (try simp only [la, lc, ln]); omega) (by (try simp only [la, lc, ln]); omega)).mono ?_; rintro e w11 ⟨v61, rfl, s61, b11⟩; have B11 := bN hHeld.1 b11; have R61 := rS s61
      replace R53 := rB R53 b11; replace R59 := rB R59 b11; replace R60 := rB R60 b11
      have S61 := sM s61 hHeld.1.size
      clear b11 s61
      clear hHeld; refine hK.out _ _ (KP _ B11.out) (fun hHeld => ?_); clear hK K; try simp only [Act.put, pa, pz, ps]
      refine tkm 9 4 (v61) hHeld rfl ?_; try simp only [Act.put, pa, pz, ps]
      have R4 := R61; clear R61
      have S4 := S61; clear S61
      refine wpAnyH_done (by kernel_rfl) ?_ _
      go_wp2
      go_ret
      exact ⟨_, rfl, by rw [HE.out]; exact S4.out.mono (by omega), B0.out.trans (B11.out.mono (by omega))⟩
     ·go_simp; obtain ⟨w12, h12, b12, B12, R60⟩ := nB hHeld.1 [⟨#[59]⟩] #[.string ⟨#[59]⟩] rfl rfl; rw [<- h12]; clear h12
      replace R53 := rB R53 b12
      clear b12
      clear hHeld; refine hK.out _ _ (KP _ B12.out) (fun hHeld => ?_); clear hK K; try simp only [Act.put, pa, pz, ps]
      refine rdy [6] (arc 59 rfl (fun K hK => ?_) AllReadyH.nil)
      go_simp; go_at_call 36; refine (HR.out w12 2 (by omega) hHeld.1).mono ?_; rintro e w13 ⟨v59, rfl, s59, b13⟩; have B13 := bN hHeld.1 b13; have R59 := rS s59
      replace R53 := rB R53 b13; replace R60 := rB R60 b13
      clear b13 s59
      clear hHeld; refine hK.out _ _ (KP _ B13.out) (fun hHeld => ?_); clear hK K; try simp only [Act.put, pa, pz, ps]
      refine rdy [8] (arc 61 rfl (fun K hK => ?_) AllReadyH.nil)
      go_simp; go_at_call 80; refine (za _ _ _ _ _ _ w13 R53.out.rd R59.out.rd R60.out.rd (by (try simp only [la, lc, ln]); omega) (by (try simp only [la, lc, ln]); omega) (by (try simp only [la, lc, ln]); omega)).mono ?_; rintro e w14 ⟨v61, rfl, s61, b14⟩; have B14 := bN hHeld.1 b14; have R61 := rS s61
      replace R53 := rB R53 b14; replace R59 := rB R59 b14; replace R60 := rB R60 b14
      have S61 := sM s61 hHeld.1.size
      clear b14 s61
      clear hHeld; refine hK.out _ _ (KP _ B14.out) (fun hHeld => ?_); clear hK K; try simp only [Act.put, pa, pz, ps]
      refine tkm 9 4 (v61) hHeld rfl ?_; try simp only [Act.put, pa, pz, ps]
      have R4 := R61; clear R61
      have S4 := S61; clear S61
      refine wpAnyH_done (by kernel_rfl) ?_ _
      go_wp2
      go_ret
      exact ⟨_, rfl, by rw [HE.out]; exact S4.out.mono (by omega), B0.out.trans (B14.out.mono (by omega))⟩
    ·go_simp; obtain ⟨w15, h15, b15, B15, R51⟩ := nB hHeld.1 [⟨#[93]⟩, ⟨#[61]⟩] #[.string ⟨#[93]⟩, .string ⟨#[61]⟩] rfl rfl; rw [<- h15]; clear h15
     replace R44 := rB R44 b15; replace S44 := sB S44 b15
     clear b15
     clear hHeld; refine hK.out _ _ (KP _ B15.out) (fun hHeld => ?_); clear hK K; try simp only [Act.put, pa, pz, ps]
     refine rdy [13] (arc 50 rfl (fun K hK => ?_) AllReadyH.nil)
     go_simp; go_at_call 36; refine (HR.out w15 1 (by omega) hHeld.1).mono ?_; rintro e w16 ⟨v50, rfl, s50, b16⟩; have B16 := bN hHeld.1 b16; have R50 := rS s50
     replace R44 := rB R44 b16; replace R51 := rB R51 b16; replace S44 := sB S44 b16
     clear b16 s50
     clear hHeld; refine hK.out _ _ (KP _ B16.out) (fun hHeld => ?_); clear hK K; try simp only [Act.put, pa, pz, ps]
     refine rdy [15] (arc 52 rfl (fun K hK => ?_) AllReadyH.nil)
     go_simp; go_at_call 80; refine (za _ _ _ _ _ _ w16 R44.out.rd R50.out.rd R51.out.rd (by (try simp only [la, lc, ln]); omega) (by (try simp only [la, lc, ln]); omega) (by (try simp only [la, lc, ln]); omega)).mono ?_; rintro e w17 ⟨v52, rfl, s52, b17⟩; have B17 := bN hHeld.1 b17; have R52 := rS s52
     replace R44 := rB R44 b17; replace R50 := rB R50 b17; replace R51 := rB R51 b17; replace S44 := sB S44 b17
     have S52 := sM s52 hHeld.1.size
     clear b17 s52
     clear hHeld; refine hK.out _ _ (KP _ B17.out) (fun hHeld => ?_); clear hK K; try simp only [Act.put, pa, pz, ps]
     refine tkm 16 5 (v52) hHeld rfl ?_; try simp only [Act.put, pa, pz, ps]
     have R5 := R52; clear R52
     have S5 := S52; clear S52
     refine wpAnyH_done (by kernel_rfl) ?_ _
     clear R44; clear R50; clear R51; clear S5; clear S44
     obtain ⟨-, tc, kc, -⟩ := KP _ B17.out; have lz := B17.out.size; have lz1 : w.heap.size + 1 < w17.heap.size := by omega
     go_wp2_with fail
     clear tc kc lz lz1
     refine wp_region_held_drew (by kernel_rfl) (KP _ B17.out.drew) (fun hHeld => ?_); obtain ⟨w18, h18, b18⟩ := dR w17; rw [<- h18] at hHeld ⊢; clear h18
     replace R5 := rB R5 b18
     clear b18
     refine tkm 0 53 (v52) hHeld rfl ?_; try simp only [Act.put, pa, pz, ps]
     have R53 := R5; clear R5
     refine tkm 1 54 (.agg #[.slice a L c, .int .i64 top]) hHeld rfl ?_; try simp only [Act.put, pa, pz, ps]
     refine tkm 2 55 (.pointer (some ⟨w.heap.size + 1, 3, none⟩)) hHeld rfl ?_; try simp only [Act.put, pa, pz, ps]
     refine tkm 3 56 (.slice (some ⟨bk, ok, none⟩) 3 ck) hHeld rfl ?_; try simp only [Act.put, pa, pz, ps]
     refine tkm 4 57 (.pointer (some ⟨bk, ok + 2, none⟩)) hHeld rfl ?_; try simp only [Act.put, pa, pz, ps]
     refine tkm 5 58 (.int .i64 (y 2)) hHeld rfl ?_; try simp only [Act.put, pa, pz, ps]
     refine rdy [6, 7] (arc 59 rfl (fun K hK => ?_) (arc 60 rfl (fun K hK => ?_) AllReadyH.nil))
     ·go_simp; go_at_call 36; refine (HR.out w18 2 (by omega) hHeld.1).mono ?_; rintro e w19 ⟨v59, rfl, s59, b19⟩; have B19 := bN hHeld.1 b19; have R59 := rS s59
      replace R53 := rB R53 b19
      clear b19 s59
      clear hHeld; refine hK.out _ _ (KP _ B19.out) (fun hHeld => ?_); clear hK K; try simp only [Act.put, pa, pz, ps]
      refine rdy [7] (arc 60 rfl (fun K hK => ?_) AllReadyH.nil)
      go_simp; obtain ⟨w20, h20, b20, B20, R60⟩ := nB hHeld.1 [⟨#[59]⟩] #[.string ⟨#[59]⟩] rfl rfl; rw [<- h20]; clear h20
      replace R53 := rB R53 b20; replace R59 := rB R59 b20
      clear b20
      clear hHeld; refine hK.out _ _ (KP _ B20.out) (fun hHeld => ?_); clear hK K; try simp only [Act.put, pa, pz, ps]
      refine rdy [8] (arc 61 rfl (fun K hK => ?_) AllReadyH.nil)
      go_simp; go_at_call 80; refine (za _ _ _ _ _ _ w20 R53.out.rd R59.out.rd R60.out.rd (by (try simp only [la, lc, ln]); omega) (by (try simp only [la, lc, ln]); omega) (by (try simp only [la, lc, ln]); omega)).mono ?_; rintro e w21 ⟨v61, rfl, s61, b21⟩; have B21 := bN hHeld.1 b21; have R61 := rS s61
      replace R53 := rB R53 b21; replace R59 := rB R59 b21; replace R60 := rB R60 b21
      have S61 := sM s61 hHeld.1.size
      clear b21 s61
      clear hHeld; refine hK.out _ _ (KP _ B21.out) (fun hHeld => ?_); clear hK K; try simp only [Act.put, pa, pz, ps]
      refine tkm 9 4 (v61) hHeld rfl ?_; try simp only [Act.put, pa, pz, ps]
      have R4 := R61; clear R61
      have S4 := S61; clear S61
      refine wpAnyH_done (by kernel_rfl) ?_ _
      go_wp2
      go_ret
      exact ⟨_, rfl, by rw [HE.out]; exact S4.out.mono (by omega), B0.out.trans (B21.out.mono (by omega))⟩
     ·go_simp; obtain ⟨w22, h22, b22, B22, R60⟩ := nB hHeld.1 [⟨#[59]⟩] #[.string ⟨#[59]⟩] rfl rfl; rw [<- h22]; clear h22
      replace R53 := rB R53 b22
      clear b22
      clear hHeld; refine hK.out _ _ (KP _ B22.out) (fun hHeld => ?_); clear hK K; try simp only [Act.put, pa, pz, ps]
      refine rdy [6] (arc 59 rfl (fun K hK => ?_) AllReadyH.nil)
      go_simp; go_at_call 36; refine (HR.out w22 2 (by omega) hHeld.1).mono ?_; rintro e w23 ⟨v59, rfl, s59, b23⟩; have B23 := bN hHeld.1 b23; have R59 := rS s59
      replace R53 := rB R53 b23; replace R60 := rB R60 b23
      clear b23 s59
      clear hHeld; refine hK.out _ _ (KP _ B23.out) (fun hHeld => ?_); clear hK K; try simp only [Act.put, pa, pz, ps]
      refine rdy [8] (arc 61 rfl (fun K hK => ?_) AllReadyH.nil)
      go_simp; go_at_call 80; refine (za _ _ _ _ _ _ w23 R53.out.rd R59.out.rd R60.out.rd (by (try simp only [la, lc, ln]); omega) (by (try simp only [la, lc, ln]); omega) (by (try simp only [la, lc, ln]); omega)).mono ?_; rintro e w24 ⟨v61, rfl, s61, b24⟩; have B24 := bN hHeld.1 b24; have R61 := rS s61
      replace R53 := rB R53 b24; replace R59 := rB R59 b24; replace R60 := rB R60 b24
      have S61 := sM s61 hHeld.1.size
      clear b24 s61
      clear hHeld; refine hK.out _ _ (KP _ B24.out) (fun hHeld => ?_); clear hK K; try simp only [Act.put, pa, pz, ps]
      refine tkm 9 4 (v61) hHeld rfl ?_; try simp only [Act.put, pa, pz, ps]
      have R4 := R61; clear R61
      have S4 := S61; clear S61
      refine wpAnyH_done (by kernel_rfl) ?_ _
      go_wp2
      go_ret
      exact ⟨_, rfl, by rw [HE.out]; exact S4.out.mono (by omega), B0.out.trans (B24.out.mono (by omega))⟩
   ·go_simp; obtain ⟨w25, h25, b25, B25, R51⟩ := nB hHeld.1 [⟨#[93]⟩, ⟨#[61]⟩] #[.string ⟨#[93]⟩, .string ⟨#[61]⟩] rfl rfl; rw [<- h25]; clear h25
    have N51 := nL R42 2
    replace R42 := rB R42 b25; replace R43 := rB R43 b25; replace S42 := sB S42 b25
    clear b25
    clear hHeld; refine hK.out _ _ (KP _ B25.out) (fun hHeld => ?_); clear hK K; try simp only [Act.put, pa, pz, ps]
    refine rdy [7] (arc 44 rfl (fun K hK => ?_) AllReadyH.nil)
    rw [if_pos (by kernel_rfl)]; refine zg (by rfl) W0.heap.size W0 _ _ (by rfl) S42.out hHeld.1 _ _ (by rfl) R43.out (by (try simp only [la, lc, ln]); omega) (by (try simp only [la, lc, ln]); omega) hHeld.1.size ?_
    intro v44 w26 s44 b26 hg; have B26 := hI b26; have S44 := hI s44; have R44 := rS s44
    clear R42
    clear R43
    replace R51 := rG R51 hg N51
    clear S42 s44 b26 hg
    clear hHeld; refine hK.out _ _ (KP _ B26.out) (fun hHeld => ?_); clear hK K; try simp only [Act.put, pa, pz, ps]
    refine rdy [13] (arc 50 rfl (fun K hK => ?_) AllReadyH.nil)
    go_simp; go_at_call 36; refine (HR.out w26 1 (by omega) hHeld.1).mono ?_; rintro e w27 ⟨v50, rfl, s50, b27⟩; have B27 := bN hHeld.1 b27; have R50 := rS s50
    replace R44 := rB R44 b27; replace R51 := rB R51 b27; replace S44 := sB S44 b27
    clear b27 s50
    clear hHeld; refine hK.out _ _ (KP _ B27.out) (fun hHeld => ?_); clear hK K; try simp only [Act.put, pa, pz, ps]
    refine rdy [15] (arc 52 rfl (fun K hK => ?_) AllReadyH.nil)
    go_simp; go_at_call 80; refine (za _ _ _ _ _ _ w27 R44.out.rd R50.out.rd R51.out.rd (by (try simp only [la, lc, ln]); omega) (by (try simp only [la, lc, ln]); omega) (by (try simp only [la, lc, ln]); omega)).mono ?_; rintro e w28 ⟨v52, rfl, s52, b28⟩; have B28 := bN hHeld.1 b28; have R52 := rS s52
    replace R44 := rB R44 b28; replace R50 := rB R50 b28; replace R51 := rB R51 b28; replace S44 := sB S44 b28
    have S52 := sM s52 hHeld.1.size
    clear b28 s52
    clear hHeld; refine hK.out _ _ (KP _ B28.out) (fun hHeld => ?_); clear hK K; try simp only [Act.put, pa, pz, ps]
    refine tkm 16 5 (v52) hHeld rfl ?_; try simp only [Act.put, pa, pz, ps]
    have R5 := R52; clear R52
    have S5 := S52; clear S52
    refine wpAnyH_done (by kernel_rfl) ?_ _
    clear R44; clear R50; clear R51; clear S5; clear S44
    obtain ⟨-, tc, kc, -⟩ := KP _ B28.out; have lz := B28.out.size; have lz1 : w.heap.size + 1 < w28.heap.size := by omega
    go_wp2_with fail
    clear tc kc lz lz1
    refine wp_region_held_drew (by kernel_rfl) (KP _ B28.out.drew) (fun hHeld => ?_); obtain ⟨w29, h29, b29⟩ := dR w28; rw [<- h29] at hHeld ⊢; clear h29
    replace R5 := rB R5 b29
    clear b29
    refine tkm 0 53 (v52) hHeld rfl ?_; try simp only [Act.put, pa, pz, ps]
    have R53 := R5; clear R5
    refine tkm 1 54 (.agg #[.slice a L c, .int .i64 top]) hHeld rfl ?_; try simp only [Act.put, pa, pz, ps]
    refine tkm 2 55 (.pointer (some ⟨w.heap.size + 1, 3, none⟩)) hHeld rfl ?_; try simp only [Act.put, pa, pz, ps]
    refine tkm 3 56 (.slice (some ⟨bk, ok, none⟩) 3 ck) hHeld rfl ?_; try simp only [Act.put, pa, pz, ps]
    refine tkm 4 57 (.pointer (some ⟨bk, ok + 2, none⟩)) hHeld rfl ?_; try simp only [Act.put, pa, pz, ps]
    refine tkm 5 58 (.int .i64 (y 2)) hHeld rfl ?_; try simp only [Act.put, pa, pz, ps]
    refine rdy [6, 7] (arc 59 rfl (fun K hK => ?_) (arc 60 rfl (fun K hK => ?_) AllReadyH.nil))
    ·go_simp; go_at_call 36; refine (HR.out w29 2 (by omega) hHeld.1).mono ?_; rintro e w30 ⟨v59, rfl, s59, b30⟩; have B30 := bN hHeld.1 b30; have R59 := rS s59
     replace R53 := rB R53 b30
     clear b30 s59
     clear hHeld; refine hK.out _ _ (KP _ B30.out) (fun hHeld => ?_); clear hK K; try simp only [Act.put, pa, pz, ps]
     refine rdy [7] (arc 60 rfl (fun K hK => ?_) AllReadyH.nil)
     go_simp; obtain ⟨w31, h31, b31, B31, R60⟩ := nB hHeld.1 [⟨#[59]⟩] #[.string ⟨#[59]⟩] rfl rfl; rw [<- h31]; clear h31
     replace R53 := rB R53 b31; replace R59 := rB R59 b31
     clear b31
     clear hHeld; refine hK.out _ _ (KP _ B31.out) (fun hHeld => ?_); clear hK K; try simp only [Act.put, pa, pz, ps]
     refine rdy [8] (arc 61 rfl (fun K hK => ?_) AllReadyH.nil)
     go_simp; go_at_call 80; refine (za _ _ _ _ _ _ w31 R53.out.rd R59.out.rd R60.out.rd (by (try simp only [la, lc, ln]); omega) (by (try simp only [la, lc, ln]); omega) (by (try simp only [la, lc, ln]); omega)).mono ?_; rintro e w32 ⟨v61, rfl, s61, b32⟩; have B32 := bN hHeld.1 b32; have R61 := rS s61
     replace R53 := rB R53 b32; replace R59 := rB R59 b32; replace R60 := rB R60 b32
     have S61 := sM s61 hHeld.1.size
     clear b32 s61
     clear hHeld; refine hK.out _ _ (KP _ B32.out) (fun hHeld => ?_); clear hK K; try simp only [Act.put, pa, pz, ps]
     refine tkm 9 4 (v61) hHeld rfl ?_; try simp only [Act.put, pa, pz, ps]
     have R4 := R61; clear R61
     have S4 := S61; clear S61
     refine wpAnyH_done (by kernel_rfl) ?_ _
     go_wp2
     go_ret
     exact ⟨_, rfl, by rw [HE.out]; exact S4.out.mono (by omega), B0.out.trans (B32.out.mono (by omega))⟩
    ·go_simp; obtain ⟨w33, h33, b33, B33, R60⟩ := nB hHeld.1 [⟨#[59]⟩] #[.string ⟨#[59]⟩] rfl rfl; rw [<- h33]; clear h33
     replace R53 := rB R53 b33
     clear b33
     clear hHeld; refine hK.out _ _ (KP _ B33.out) (fun hHeld => ?_); clear hK K; try simp only [Act.put, pa, pz, ps]
     refine rdy [6] (arc 59 rfl (fun K hK => ?_) AllReadyH.nil)
     go_simp; go_at_call 36; refine (HR.out w33 2 (by omega) hHeld.1).mono ?_; rintro e w34 ⟨v59, rfl, s59, b34⟩; have B34 := bN hHeld.1 b34; have R59 := rS s59
     replace R53 := rB R53 b34; replace R60 := rB R60 b34
     clear b34 s59
     clear hHeld; refine hK.out _ _ (KP _ B34.out) (fun hHeld => ?_); clear hK K; try simp only [Act.put, pa, pz, ps]
     refine rdy [8] (arc 61 rfl (fun K hK => ?_) AllReadyH.nil)
     go_simp; go_at_call 80; refine (za _ _ _ _ _ _ w34 R53.out.rd R59.out.rd R60.out.rd (by (try simp only [la, lc, ln]); omega) (by (try simp only [la, lc, ln]); omega) (by (try simp only [la, lc, ln]); omega)).mono ?_; rintro e w35 ⟨v61, rfl, s61, b35⟩; have B35 := bN hHeld.1 b35; have R61 := rS s61
     replace R53 := rB R53 b35; replace R59 := rB R59 b35; replace R60 := rB R60 b35
     have S61 := sM s61 hHeld.1.size
     clear b35 s61
     clear hHeld; refine hK.out _ _ (KP _ B35.out) (fun hHeld => ?_); clear hK K; try simp only [Act.put, pa, pz, ps]
     refine tkm 9 4 (v61) hHeld rfl ?_; try simp only [Act.put, pa, pz, ps]
     have R4 := R61; clear R61
     have S4 := S61; clear S61
     refine wpAnyH_done (by kernel_rfl) ?_ _
     go_wp2
     go_ret
     exact ⟨_, rfl, by rw [HE.out]; exact S4.out.mono (by omega), B0.out.trans (B35.out.mono (by omega))⟩
  ·go_simp; obtain ⟨w36, h36, b36, B36, R51⟩ := nB hHeld.1 [⟨#[93]⟩, ⟨#[61]⟩] #[.string ⟨#[93]⟩, .string ⟨#[61]⟩] rfl rfl; rw [<- h36]; clear h36
   have N51 := nL R42 2
   replace R42 := rB R42 b36; replace S42 := sB S42 b36
   clear b36
   clear hHeld; refine hK.out _ _ (KP _ B36.out) (fun hHeld => ?_); clear hK K; try simp only [Act.put, pa, pz, ps]
   refine rdy [6] (arc 43 rfl (fun K hK => ?_) AllReadyH.nil)
   go_simp; obtain ⟨w37, h37, b37, B37, R43⟩ := nB hHeld.1 [⟨#[91]⟩] #[.string ⟨#[91]⟩] rfl rfl; rw [<- h37]; clear h37
   replace R42 := rB R42 b37; replace R51 := rB R51 b37; replace S42 := sB S42 b37
   clear b37
   clear hHeld; refine hK.out _ _ (KP _ B37.out) (fun hHeld => ?_); clear hK K; try simp only [Act.put, pa, pz, ps]
   refine rdy [7] (arc 44 rfl (fun K hK => ?_) AllReadyH.nil)
   rw [if_pos (by kernel_rfl)]; refine zg (by rfl) W0.heap.size W0 _ _ (by rfl) S42.out hHeld.1 _ _ (by rfl) R43.out (by (try simp only [la, lc, ln]); omega) (by (try simp only [la, lc, ln]); omega) hHeld.1.size ?_
   intro v44 w38 s44 b38 hg; have B38 := hI b38; have S44 := hI s44; have R44 := rS s44
   clear R42
   clear R43
   replace R51 := rG R51 hg N51
   clear S42 s44 b38 hg
   clear hHeld; refine hK.out _ _ (KP _ B38.out) (fun hHeld => ?_); clear hK K; try simp only [Act.put, pa, pz, ps]
   refine rdy [13] (arc 50 rfl (fun K hK => ?_) AllReadyH.nil)
   go_simp; go_at_call 36; refine (HR.out w38 1 (by omega) hHeld.1).mono ?_; rintro e w39 ⟨v50, rfl, s50, b39⟩; have B39 := bN hHeld.1 b39; have R50 := rS s50
   replace R44 := rB R44 b39; replace R51 := rB R51 b39; replace S44 := sB S44 b39
   clear b39 s50
   clear hHeld; refine hK.out _ _ (KP _ B39.out) (fun hHeld => ?_); clear hK K; try simp only [Act.put, pa, pz, ps]
   refine rdy [15] (arc 52 rfl (fun K hK => ?_) AllReadyH.nil)
   go_simp; go_at_call 80; refine (za _ _ _ _ _ _ w39 R44.out.rd R50.out.rd R51.out.rd (by (try simp only [la, lc, ln]); omega) (by (try simp only [la, lc, ln]); omega) (by (try simp only [la, lc, ln]); omega)).mono ?_; rintro e w40 ⟨v52, rfl, s52, b40⟩; have B40 := bN hHeld.1 b40; have R52 := rS s52
   replace R44 := rB R44 b40; replace R50 := rB R50 b40; replace R51 := rB R51 b40; replace S44 := sB S44 b40
   have S52 := sM s52 hHeld.1.size
   clear b40 s52
   clear hHeld; refine hK.out _ _ (KP _ B40.out) (fun hHeld => ?_); clear hK K; try simp only [Act.put, pa, pz, ps]
   refine tkm 16 5 (v52) hHeld rfl ?_; try simp only [Act.put, pa, pz, ps]
   have R5 := R52; clear R52
   have S5 := S52; clear S52
   refine wpAnyH_done (by kernel_rfl) ?_ _
   clear R44; clear R50; clear R51; clear S5; clear S44
   obtain ⟨-, tc, kc, -⟩ := KP _ B40.out; have lz := B40.out.size; have lz1 : w.heap.size + 1 < w40.heap.size := by omega
   go_wp2_with fail
   clear tc kc lz lz1
   refine wp_region_held_drew (by kernel_rfl) (KP _ B40.out.drew) (fun hHeld => ?_); obtain ⟨w41, h41, b41⟩ := dR w40; rw [<- h41] at hHeld ⊢; clear h41
   replace R5 := rB R5 b41
   clear b41
   refine tkm 0 53 (v52) hHeld rfl ?_; try simp only [Act.put, pa, pz, ps]
   have R53 := R5; clear R5
   refine tkm 1 54 (.agg #[.slice a L c, .int .i64 top]) hHeld rfl ?_; try simp only [Act.put, pa, pz, ps]
   refine tkm 2 55 (.pointer (some ⟨w.heap.size + 1, 3, none⟩)) hHeld rfl ?_; try simp only [Act.put, pa, pz, ps]
   refine tkm 3 56 (.slice (some ⟨bk, ok, none⟩) 3 ck) hHeld rfl ?_; try simp only [Act.put, pa, pz, ps]
   refine tkm 4 57 (.pointer (some ⟨bk, ok + 2, none⟩)) hHeld rfl ?_; try simp only [Act.put, pa, pz, ps]
   refine tkm 5 58 (.int .i64 (y 2)) hHeld rfl ?_; try simp only [Act.put, pa, pz, ps]
   refine rdy [6, 7] (arc 59 rfl (fun K hK => ?_) (arc 60 rfl (fun K hK => ?_) AllReadyH.nil))
   ·go_simp; go_at_call 36; refine (HR.out w41 2 (by omega) hHeld.1).mono ?_; rintro e w42 ⟨v59, rfl, s59, b42⟩; have B42 := bN hHeld.1 b42; have R59 := rS s59
    replace R53 := rB R53 b42
    clear b42 s59
    clear hHeld; refine hK.out _ _ (KP _ B42.out) (fun hHeld => ?_); clear hK K; try simp only [Act.put, pa, pz, ps]
    refine rdy [7] (arc 60 rfl (fun K hK => ?_) AllReadyH.nil)
    go_simp; obtain ⟨w43, h43, b43, B43, R60⟩ := nB hHeld.1 [⟨#[59]⟩] #[.string ⟨#[59]⟩] rfl rfl; rw [<- h43]; clear h43
    replace R53 := rB R53 b43; replace R59 := rB R59 b43
    clear b43
    clear hHeld; refine hK.out _ _ (KP _ B43.out) (fun hHeld => ?_); clear hK K; try simp only [Act.put, pa, pz, ps]
    refine rdy [8] (arc 61 rfl (fun K hK => ?_) AllReadyH.nil)
    go_simp; go_at_call 80; refine (za _ _ _ _ _ _ w43 R53.out.rd R59.out.rd R60.out.rd (by (try simp only [la, lc, ln]); omega) (by (try simp only [la, lc, ln]); omega) (by (try simp only [la, lc, ln]); omega)).mono ?_; rintro e w44 ⟨v61, rfl, s61, b44⟩; have B44 := bN hHeld.1 b44; have R61 := rS s61
    replace R53 := rB R53 b44; replace R59 := rB R59 b44; replace R60 := rB R60 b44
    have S61 := sM s61 hHeld.1.size
    clear b44 s61
    clear hHeld; refine hK.out _ _ (KP _ B44.out) (fun hHeld => ?_); clear hK K; try simp only [Act.put, pa, pz, ps]
    refine tkm 9 4 (v61) hHeld rfl ?_; try simp only [Act.put, pa, pz, ps]
    have R4 := R61; clear R61
    have S4 := S61; clear S61
    refine wpAnyH_done (by kernel_rfl) ?_ _
    go_wp2
    go_ret
    exact ⟨_, rfl, by rw [HE.out]; exact S4.out.mono (by omega), B0.out.trans (B44.out.mono (by omega))⟩
   ·go_simp; obtain ⟨w45, h45, b45, B45, R60⟩ := nB hHeld.1 [⟨#[59]⟩] #[.string ⟨#[59]⟩] rfl rfl; rw [<- h45]; clear h45
    replace R53 := rB R53 b45
    clear b45
    clear hHeld; refine hK.out _ _ (KP _ B45.out) (fun hHeld => ?_); clear hK K; try simp only [Act.put, pa, pz, ps]
    refine rdy [6] (arc 59 rfl (fun K hK => ?_) AllReadyH.nil)
    go_simp; go_at_call 36; refine (HR.out w45 2 (by omega) hHeld.1).mono ?_; rintro e w46 ⟨v59, rfl, s59, b46⟩; have B46 := bN hHeld.1 b46; have R59 := rS s59
    replace R53 := rB R53 b46; replace R60 := rB R60 b46
    clear b46 s59
    clear hHeld; refine hK.out _ _ (KP _ B46.out) (fun hHeld => ?_); clear hK K; try simp only [Act.put, pa, pz, ps]
    refine rdy [8] (arc 61 rfl (fun K hK => ?_) AllReadyH.nil)
    go_simp; go_at_call 80; refine (za _ _ _ _ _ _ w46 R53.out.rd R59.out.rd R60.out.rd (by (try simp only [la, lc, ln]); omega) (by (try simp only [la, lc, ln]); omega) (by (try simp only [la, lc, ln]); omega)).mono ?_; rintro e w47 ⟨v61, rfl, s61, b47⟩; have B47 := bN hHeld.1 b47; have R61 := rS s61
    replace R53 := rB R53 b47; replace R59 := rB R59 b47; replace R60 := rB R60 b47
    have S61 := sM s61 hHeld.1.size
    clear b47 s61
    clear hHeld; refine hK.out _ _ (KP _ B47.out) (fun hHeld => ?_); clear hK K; try simp only [Act.put, pa, pz, ps]
    refine tkm 9 4 (v61) hHeld rfl ?_; try simp only [Act.put, pa, pz, ps]
    have R4 := R61; clear R61
    have S4 := S61; clear S61
    refine wpAnyH_done (by kernel_rfl) ?_ _
    go_wp2
    go_ret
    exact ⟨_, rfl, by rw [HE.out]; exact S4.out.mono (by omega), B0.out.trans (B47.out.mono (by omega))⟩
 ·go_simp; obtain ⟨w48, h48, b48, B48, R43⟩ := nB hHeld.1 [⟨#[91]⟩] #[.string ⟨#[91]⟩] rfl rfl; rw [<- h48]; clear h48
  clear b48
  clear hHeld; refine hK.out _ _ (KP _ B48.out) (fun hHeld => ?_); clear hK K; try simp only [Act.put, pa, pz, ps]
  refine rdy [5, 14] (arc 42 rfl (fun K hK => ?_) (arc 51 rfl (fun K hK => ?_) AllReadyH.nil))
  ·go_simp; go_at_call 36; refine (HR.out w48 0 (by omega) hHeld.1).mono ?_; rintro e w49 ⟨v42, rfl, s42, b49⟩; have B49 := bN hHeld.1 b49; have R42 := rS s42
   have N43 := nC R43 s42
   replace R43 := rB R43 b49
   have S42 := sM s42 hHeld.1.size
   clear b49 s42
   clear hHeld; refine hK.out _ _ (KP _ B49.out) (fun hHeld => ?_); clear hK K; try simp only [Act.put, pa, pz, ps]
   refine rdy [7, 14] (arc 44 rfl (fun K hK => ?_) (arc 51 rfl (fun K hK => ?_) AllReadyH.nil))
   ·rw [if_pos (by kernel_rfl)]; refine zg (by rfl) W0.heap.size W0 _ _ (by rfl) S42.out hHeld.1 _ _ (by rfl) R43.out (by (try simp only [la, lc, ln]); omega) (by (try simp only [la, lc, ln]); omega) hHeld.1.size ?_
    intro v44 w50 s44 b50 hg; have B50 := hI b50; have S44 := hI s44; have R44 := rS s44
    clear R42
    clear R43
    clear S42 s44 b50 hg
    clear hHeld; refine hK.out _ _ (KP _ B50.out) (fun hHeld => ?_); clear hK K; try simp only [Act.put, pa, pz, ps]
    refine rdy [13, 14] (arc 50 rfl (fun K hK => ?_) (arc 51 rfl (fun K hK => ?_) AllReadyH.nil))
    ·go_simp; go_at_call 36; refine (HR.out w50 1 (by omega) hHeld.1).mono ?_; rintro e w51 ⟨v50, rfl, s50, b51⟩; have B51 := bN hHeld.1 b51; have R50 := rS s50
     replace R44 := rB R44 b51; replace S44 := sB S44 b51
     clear b51 s50
     clear hHeld; refine hK.out _ _ (KP _ B51.out) (fun hHeld => ?_); clear hK K; try simp only [Act.put, pa, pz, ps]
     refine rdy [14] (arc 51 rfl (fun K hK => ?_) AllReadyH.nil)
     go_simp; obtain ⟨w52, h52, b52, B52, R51⟩ := nB hHeld.1 [⟨#[93]⟩, ⟨#[61]⟩] #[.string ⟨#[93]⟩, .string ⟨#[61]⟩] rfl rfl; rw [<- h52]; clear h52
     replace R44 := rB R44 b52; replace R50 := rB R50 b52; replace S44 := sB S44 b52
     clear b52
     clear hHeld; refine hK.out _ _ (KP _ B52.out) (fun hHeld => ?_); clear hK K; try simp only [Act.put, pa, pz, ps]
     refine rdy [15] (arc 52 rfl (fun K hK => ?_) AllReadyH.nil)
     go_simp; go_at_call 80; refine (za _ _ _ _ _ _ w52 R44.out.rd R50.out.rd R51.out.rd (by (try simp only [la, lc, ln]); omega) (by (try simp only [la, lc, ln]); omega) (by (try simp only [la, lc, ln]); omega)).mono ?_; rintro e w53 ⟨v52, rfl, s52, b53⟩; have B53 := bN hHeld.1 b53; have R52 := rS s52
     replace R44 := rB R44 b53; replace R50 := rB R50 b53; replace R51 := rB R51 b53; replace S44 := sB S44 b53
     have S52 := sM s52 hHeld.1.size
     clear b53 s52
     clear hHeld; refine hK.out _ _ (KP _ B53.out) (fun hHeld => ?_); clear hK K; try simp only [Act.put, pa, pz, ps]
     refine tkm 16 5 (v52) hHeld rfl ?_; try simp only [Act.put, pa, pz, ps]
     have R5 := R52; clear R52
     have S5 := S52; clear S52
     refine wpAnyH_done (by kernel_rfl) ?_ _
     clear R44; clear R50; clear R51; clear S5; clear S44
     obtain ⟨-, tc, kc, -⟩ := KP _ B53.out; have lz := B53.out.size; have lz1 : w.heap.size + 1 < w53.heap.size := by omega
     go_wp2_with fail
     clear tc kc lz lz1
     refine wp_region_held_drew (by kernel_rfl) (KP _ B53.out.drew) (fun hHeld => ?_); obtain ⟨w54, h54, b54⟩ := dR w53; rw [<- h54] at hHeld ⊢; clear h54
     replace R5 := rB R5 b54
     clear b54
     refine tkm 0 53 (v52) hHeld rfl ?_; try simp only [Act.put, pa, pz, ps]
     have R53 := R5; clear R5
     refine tkm 1 54 (.agg #[.slice a L c, .int .i64 top]) hHeld rfl ?_; try simp only [Act.put, pa, pz, ps]
     refine tkm 2 55 (.pointer (some ⟨w.heap.size + 1, 3, none⟩)) hHeld rfl ?_; try simp only [Act.put, pa, pz, ps]
     refine tkm 3 56 (.slice (some ⟨bk, ok, none⟩) 3 ck) hHeld rfl ?_; try simp only [Act.put, pa, pz, ps]
     refine tkm 4 57 (.pointer (some ⟨bk, ok + 2, none⟩)) hHeld rfl ?_; try simp only [Act.put, pa, pz, ps]
     refine tkm 5 58 (.int .i64 (y 2)) hHeld rfl ?_; try simp only [Act.put, pa, pz, ps]
     refine rdy [6, 7] (arc 59 rfl (fun K hK => ?_) (arc 60 rfl (fun K hK => ?_) AllReadyH.nil))
     ·go_simp; go_at_call 36; refine (HR.out w54 2 (by omega) hHeld.1).mono ?_; rintro e w55 ⟨v59, rfl, s59, b55⟩; have B55 := bN hHeld.1 b55; have R59 := rS s59
      replace R53 := rB R53 b55
      clear b55 s59
      clear hHeld; refine hK.out _ _ (KP _ B55.out) (fun hHeld => ?_); clear hK K; try simp only [Act.put, pa, pz, ps]
      refine rdy [7] (arc 60 rfl (fun K hK => ?_) AllReadyH.nil)
      go_simp; obtain ⟨w56, h56, b56, B56, R60⟩ := nB hHeld.1 [⟨#[59]⟩] #[.string ⟨#[59]⟩] rfl rfl; rw [<- h56]; clear h56
      replace R53 := rB R53 b56; replace R59 := rB R59 b56
      clear b56
      clear hHeld; refine hK.out _ _ (KP _ B56.out) (fun hHeld => ?_); clear hK K; try simp only [Act.put, pa, pz, ps]
      refine rdy [8] (arc 61 rfl (fun K hK => ?_) AllReadyH.nil)
      go_simp; go_at_call 80; refine (za _ _ _ _ _ _ w56 R53.out.rd R59.out.rd R60.out.rd (by (try simp only [la, lc, ln]); omega) (by (try simp only [la, lc, ln]); omega) (by (try simp only [la, lc, ln]); omega)).mono ?_; rintro e w57 ⟨v61, rfl, s61, b57⟩; have B57 := bN hHeld.1 b57; have R61 := rS s61
      replace R53 := rB R53 b57; replace R59 := rB R59 b57; replace R60 := rB R60 b57
      have S61 := sM s61 hHeld.1.size
      clear b57 s61
      clear hHeld; refine hK.out _ _ (KP _ B57.out) (fun hHeld => ?_); clear hK K; try simp only [Act.put, pa, pz, ps]
      refine tkm 9 4 (v61) hHeld rfl ?_; try simp only [Act.put, pa, pz, ps]
      have R4 := R61; clear R61
      have S4 := S61; clear S61
      refine wpAnyH_done (by kernel_rfl) ?_ _
      go_wp2
      go_ret
      exact ⟨_, rfl, by rw [HE.out]; exact S4.out.mono (by omega), B0.out.trans (B57.out.mono (by omega))⟩
     ·go_simp; obtain ⟨w58, h58, b58, B58, R60⟩ := nB hHeld.1 [⟨#[59]⟩] #[.string ⟨#[59]⟩] rfl rfl; rw [<- h58]; clear h58
      replace R53 := rB R53 b58
      clear b58
      clear hHeld; refine hK.out _ _ (KP _ B58.out) (fun hHeld => ?_); clear hK K; try simp only [Act.put, pa, pz, ps]
      refine rdy [6] (arc 59 rfl (fun K hK => ?_) AllReadyH.nil)
      go_simp; go_at_call 36; refine (HR.out w58 2 (by omega) hHeld.1).mono ?_; rintro e w59 ⟨v59, rfl, s59, b59⟩; have B59 := bN hHeld.1 b59; have R59 := rS s59
      replace R53 := rB R53 b59; replace R60 := rB R60 b59
      clear b59 s59
      clear hHeld; refine hK.out _ _ (KP _ B59.out) (fun hHeld => ?_); clear hK K; try simp only [Act.put, pa, pz, ps]
      refine rdy [8] (arc 61 rfl (fun K hK => ?_) AllReadyH.nil)
      go_simp; go_at_call 80; refine (za _ _ _ _ _ _ w59 R53.out.rd R59.out.rd R60.out.rd (by (try simp only [la, lc, ln]); omega) (by (try simp only [la, lc, ln]); omega) (by (try simp only [la, lc, ln]); omega)).mono ?_; rintro e w60 ⟨v61, rfl, s61, b60⟩; have B60 := bN hHeld.1 b60; have R61 := rS s61
      replace R53 := rB R53 b60; replace R59 := rB R59 b60; replace R60 := rB R60 b60
      have S61 := sM s61 hHeld.1.size
      clear b60 s61
      clear hHeld; refine hK.out _ _ (KP _ B60.out) (fun hHeld => ?_); clear hK K; try simp only [Act.put, pa, pz, ps]
      refine tkm 9 4 (v61) hHeld rfl ?_; try simp only [Act.put, pa, pz, ps]
      have R4 := R61; clear R61
      have S4 := S61; clear S61
      refine wpAnyH_done (by kernel_rfl) ?_ _
      go_wp2
      go_ret
      exact ⟨_, rfl, by rw [HE.out]; exact S4.out.mono (by omega), B0.out.trans (B60.out.mono (by omega))⟩
    ·go_simp; obtain ⟨w61, h61, b61, B61, R51⟩ := nB hHeld.1 [⟨#[93]⟩, ⟨#[61]⟩] #[.string ⟨#[93]⟩, .string ⟨#[61]⟩] rfl rfl; rw [<- h61]; clear h61
     replace R44 := rB R44 b61; replace S44 := sB S44 b61
     clear b61
     clear hHeld; refine hK.out _ _ (KP _ B61.out) (fun hHeld => ?_); clear hK K; try simp only [Act.put, pa, pz, ps]
     refine rdy [13] (arc 50 rfl (fun K hK => ?_) AllReadyH.nil)
     go_simp; go_at_call 36; refine (HR.out w61 1 (by omega) hHeld.1).mono ?_; rintro e w62 ⟨v50, rfl, s50, b62⟩; have B62 := bN hHeld.1 b62; have R50 := rS s50
     replace R44 := rB R44 b62; replace R51 := rB R51 b62; replace S44 := sB S44 b62
     clear b62 s50
     clear hHeld; refine hK.out _ _ (KP _ B62.out) (fun hHeld => ?_); clear hK K; try simp only [Act.put, pa, pz, ps]
     refine rdy [15] (arc 52 rfl (fun K hK => ?_) AllReadyH.nil)
     go_simp; go_at_call 80; refine (za _ _ _ _ _ _ w62 R44.out.rd R50.out.rd R51.out.rd (by (try simp only [la, lc, ln]); omega) (by (try simp only [la, lc, ln]); omega) (by (try simp only [la, lc, ln]); omega)).mono ?_; rintro e w63 ⟨v52, rfl, s52, b63⟩; have B63 := bN hHeld.1 b63; have R52 := rS s52
     replace R44 := rB R44 b63; replace R50 := rB R50 b63; replace R51 := rB R51 b63; replace S44 := sB S44 b63
     have S52 := sM s52 hHeld.1.size
     clear b63 s52
     clear hHeld; refine hK.out _ _ (KP _ B63.out) (fun hHeld => ?_); clear hK K; try simp only [Act.put, pa, pz, ps]
     refine tkm 16 5 (v52) hHeld rfl ?_; try simp only [Act.put, pa, pz, ps]
     have R5 := R52; clear R52
     have S5 := S52; clear S52
     refine wpAnyH_done (by kernel_rfl) ?_ _
     clear R44; clear R50; clear R51; clear S5; clear S44
     obtain ⟨-, tc, kc, -⟩ := KP _ B63.out; have lz := B63.out.size; have lz1 : w.heap.size + 1 < w63.heap.size := by omega
     go_wp2_with fail
     clear tc kc lz lz1
     refine wp_region_held_drew (by kernel_rfl) (KP _ B63.out.drew) (fun hHeld => ?_); obtain ⟨w64, h64, b64⟩ := dR w63; rw [<- h64] at hHeld ⊢; clear h64
     replace R5 := rB R5 b64
     clear b64
     refine tkm 0 53 (v52) hHeld rfl ?_; try simp only [Act.put, pa, pz, ps]
     have R53 := R5; clear R5
     refine tkm 1 54 (.agg #[.slice a L c, .int .i64 top]) hHeld rfl ?_; try simp only [Act.put, pa, pz, ps]
     refine tkm 2 55 (.pointer (some ⟨w.heap.size + 1, 3, none⟩)) hHeld rfl ?_; try simp only [Act.put, pa, pz, ps]
     refine tkm 3 56 (.slice (some ⟨bk, ok, none⟩) 3 ck) hHeld rfl ?_; try simp only [Act.put, pa, pz, ps]
     refine tkm 4 57 (.pointer (some ⟨bk, ok + 2, none⟩)) hHeld rfl ?_; try simp only [Act.put, pa, pz, ps]
     refine tkm 5 58 (.int .i64 (y 2)) hHeld rfl ?_; try simp only [Act.put, pa, pz, ps]
     refine rdy [6, 7] (arc 59 rfl (fun K hK => ?_) (arc 60 rfl (fun K hK => ?_) AllReadyH.nil))
     ·go_simp; go_at_call 36; refine (HR.out w64 2 (by omega) hHeld.1).mono ?_; rintro e w65 ⟨v59, rfl, s59, b65⟩; have B65 := bN hHeld.1 b65; have R59 := rS s59
      replace R53 := rB R53 b65
      clear b65 s59
      clear hHeld; refine hK.out _ _ (KP _ B65.out) (fun hHeld => ?_); clear hK K; try simp only [Act.put, pa, pz, ps]
      refine rdy [7] (arc 60 rfl (fun K hK => ?_) AllReadyH.nil)
      go_simp; obtain ⟨w66, h66, b66, B66, R60⟩ := nB hHeld.1 [⟨#[59]⟩] #[.string ⟨#[59]⟩] rfl rfl; rw [<- h66]; clear h66
      replace R53 := rB R53 b66; replace R59 := rB R59 b66
      clear b66
      clear hHeld; refine hK.out _ _ (KP _ B66.out) (fun hHeld => ?_); clear hK K; try simp only [Act.put, pa, pz, ps]
      refine rdy [8] (arc 61 rfl (fun K hK => ?_) AllReadyH.nil)
      go_simp; go_at_call 80; refine (za _ _ _ _ _ _ w66 R53.out.rd R59.out.rd R60.out.rd (by (try simp only [la, lc, ln]); omega) (by (try simp only [la, lc, ln]); omega) (by (try simp only [la, lc, ln]); omega)).mono ?_; rintro e w67 ⟨v61, rfl, s61, b67⟩; have B67 := bN hHeld.1 b67; have R61 := rS s61
      replace R53 := rB R53 b67; replace R59 := rB R59 b67; replace R60 := rB R60 b67
      have S61 := sM s61 hHeld.1.size
      clear b67 s61
      clear hHeld; refine hK.out _ _ (KP _ B67.out) (fun hHeld => ?_); clear hK K; try simp only [Act.put, pa, pz, ps]
      refine tkm 9 4 (v61) hHeld rfl ?_; try simp only [Act.put, pa, pz, ps]
      have R4 := R61; clear R61
      have S4 := S61; clear S61
      refine wpAnyH_done (by kernel_rfl) ?_ _
      go_wp2
      go_ret
      exact ⟨_, rfl, by rw [HE.out]; exact S4.out.mono (by omega), B0.out.trans (B67.out.mono (by omega))⟩
     ·go_simp; obtain ⟨w68, h68, b68, B68, R60⟩ := nB hHeld.1 [⟨#[59]⟩] #[.string ⟨#[59]⟩] rfl rfl; rw [<- h68]; clear h68
      replace R53 := rB R53 b68
      clear b68
      clear hHeld; refine hK.out _ _ (KP _ B68.out) (fun hHeld => ?_); clear hK K; try simp only [Act.put, pa, pz, ps]
      refine rdy [6] (arc 59 rfl (fun K hK => ?_) AllReadyH.nil)
      go_simp; go_at_call 36; refine (HR.out w68 2 (by omega) hHeld.1).mono ?_; rintro e w69 ⟨v59, rfl, s59, b69⟩; have B69 := bN hHeld.1 b69; have R59 := rS s59
      replace R53 := rB R53 b69; replace R60 := rB R60 b69
      clear b69 s59
      clear hHeld; refine hK.out _ _ (KP _ B69.out) (fun hHeld => ?_); clear hK K; try simp only [Act.put, pa, pz, ps]
      refine rdy [8] (arc 61 rfl (fun K hK => ?_) AllReadyH.nil)
      go_simp; go_at_call 80; refine (za _ _ _ _ _ _ w69 R53.out.rd R59.out.rd R60.out.rd (by (try simp only [la, lc, ln]); omega) (by (try simp only [la, lc, ln]); omega) (by (try simp only [la, lc, ln]); omega)).mono ?_; rintro e w70 ⟨v61, rfl, s61, b70⟩; have B70 := bN hHeld.1 b70; have R61 := rS s61
      replace R53 := rB R53 b70; replace R59 := rB R59 b70; replace R60 := rB R60 b70
      have S61 := sM s61 hHeld.1.size
      clear b70 s61
      clear hHeld; refine hK.out _ _ (KP _ B70.out) (fun hHeld => ?_); clear hK K; try simp only [Act.put, pa, pz, ps]
      refine tkm 9 4 (v61) hHeld rfl ?_; try simp only [Act.put, pa, pz, ps]
      have R4 := R61; clear R61
      have S4 := S61; clear S61
      refine wpAnyH_done (by kernel_rfl) ?_ _
      go_wp2
      go_ret
      exact ⟨_, rfl, by rw [HE.out]; exact S4.out.mono (by omega), B0.out.trans (B70.out.mono (by omega))⟩
   ·go_simp; obtain ⟨w71, h71, b71, B71, R51⟩ := nB hHeld.1 [⟨#[93]⟩, ⟨#[61]⟩] #[.string ⟨#[93]⟩, .string ⟨#[61]⟩] rfl rfl; rw [<- h71]; clear h71
    have N51 := nL R42 2
    replace R42 := rB R42 b71; replace R43 := rB R43 b71; replace S42 := sB S42 b71
    clear b71
    clear hHeld; refine hK.out _ _ (KP _ B71.out) (fun hHeld => ?_); clear hK K; try simp only [Act.put, pa, pz, ps]
    refine rdy [7] (arc 44 rfl (fun K hK => ?_) AllReadyH.nil)
    rw [if_pos (by kernel_rfl)]; refine zg (by rfl) W0.heap.size W0 _ _ (by rfl) S42.out hHeld.1 _ _ (by rfl) R43.out (by (try simp only [la, lc, ln]); omega) (by (try simp only [la, lc, ln]); omega) hHeld.1.size ?_
    intro v44 w72 s44 b72 hg; have B72 := hI b72; have S44 := hI s44; have R44 := rS s44
    clear R42
    clear R43
    replace R51 := rG R51 hg N51
    clear S42 s44 b72 hg
    clear hHeld; refine hK.out _ _ (KP _ B72.out) (fun hHeld => ?_); clear hK K; try simp only [Act.put, pa, pz, ps]
    refine rdy [13] (arc 50 rfl (fun K hK => ?_) AllReadyH.nil)
    go_simp; go_at_call 36; refine (HR.out w72 1 (by omega) hHeld.1).mono ?_; rintro e w73 ⟨v50, rfl, s50, b73⟩; have B73 := bN hHeld.1 b73; have R50 := rS s50
    replace R44 := rB R44 b73; replace R51 := rB R51 b73; replace S44 := sB S44 b73
    clear b73 s50
    clear hHeld; refine hK.out _ _ (KP _ B73.out) (fun hHeld => ?_); clear hK K; try simp only [Act.put, pa, pz, ps]
    refine rdy [15] (arc 52 rfl (fun K hK => ?_) AllReadyH.nil)
    go_simp; go_at_call 80; refine (za _ _ _ _ _ _ w73 R44.out.rd R50.out.rd R51.out.rd (by (try simp only [la, lc, ln]); omega) (by (try simp only [la, lc, ln]); omega) (by (try simp only [la, lc, ln]); omega)).mono ?_; rintro e w74 ⟨v52, rfl, s52, b74⟩; have B74 := bN hHeld.1 b74; have R52 := rS s52
    replace R44 := rB R44 b74; replace R50 := rB R50 b74; replace R51 := rB R51 b74; replace S44 := sB S44 b74
    have S52 := sM s52 hHeld.1.size
    clear b74 s52
    clear hHeld; refine hK.out _ _ (KP _ B74.out) (fun hHeld => ?_); clear hK K; try simp only [Act.put, pa, pz, ps]
    refine tkm 16 5 (v52) hHeld rfl ?_; try simp only [Act.put, pa, pz, ps]
    have R5 := R52; clear R52
    have S5 := S52; clear S52
    refine wpAnyH_done (by kernel_rfl) ?_ _
    clear R44; clear R50; clear R51; clear S5; clear S44
    obtain ⟨-, tc, kc, -⟩ := KP _ B74.out; have lz := B74.out.size; have lz1 : w.heap.size + 1 < w74.heap.size := by omega
    go_wp2_with fail
    clear tc kc lz lz1
    refine wp_region_held_drew (by kernel_rfl) (KP _ B74.out.drew) (fun hHeld => ?_); obtain ⟨w75, h75, b75⟩ := dR w74; rw [<- h75] at hHeld ⊢; clear h75
    replace R5 := rB R5 b75
    clear b75
    refine tkm 0 53 (v52) hHeld rfl ?_; try simp only [Act.put, pa, pz, ps]
    have R53 := R5; clear R5
    refine tkm 1 54 (.agg #[.slice a L c, .int .i64 top]) hHeld rfl ?_; try simp only [Act.put, pa, pz, ps]
    refine tkm 2 55 (.pointer (some ⟨w.heap.size + 1, 3, none⟩)) hHeld rfl ?_; try simp only [Act.put, pa, pz, ps]
    refine tkm 3 56 (.slice (some ⟨bk, ok, none⟩) 3 ck) hHeld rfl ?_; try simp only [Act.put, pa, pz, ps]
    refine tkm 4 57 (.pointer (some ⟨bk, ok + 2, none⟩)) hHeld rfl ?_; try simp only [Act.put, pa, pz, ps]
    refine tkm 5 58 (.int .i64 (y 2)) hHeld rfl ?_; try simp only [Act.put, pa, pz, ps]
    refine rdy [6, 7] (arc 59 rfl (fun K hK => ?_) (arc 60 rfl (fun K hK => ?_) AllReadyH.nil))
    ·go_simp; go_at_call 36; refine (HR.out w75 2 (by omega) hHeld.1).mono ?_; rintro e w76 ⟨v59, rfl, s59, b76⟩; have B76 := bN hHeld.1 b76; have R59 := rS s59
     replace R53 := rB R53 b76
     clear b76 s59
     clear hHeld; refine hK.out _ _ (KP _ B76.out) (fun hHeld => ?_); clear hK K; try simp only [Act.put, pa, pz, ps]
     refine rdy [7] (arc 60 rfl (fun K hK => ?_) AllReadyH.nil)
     go_simp; obtain ⟨w77, h77, b77, B77, R60⟩ := nB hHeld.1 [⟨#[59]⟩] #[.string ⟨#[59]⟩] rfl rfl; rw [<- h77]; clear h77
     replace R53 := rB R53 b77; replace R59 := rB R59 b77
     clear b77
     clear hHeld; refine hK.out _ _ (KP _ B77.out) (fun hHeld => ?_); clear hK K; try simp only [Act.put, pa, pz, ps]
     refine rdy [8] (arc 61 rfl (fun K hK => ?_) AllReadyH.nil)
     go_simp; go_at_call 80; refine (za _ _ _ _ _ _ w77 R53.out.rd R59.out.rd R60.out.rd (by (try simp only [la, lc, ln]); omega) (by (try simp only [la, lc, ln]); omega) (by (try simp only [la, lc, ln]); omega)).mono ?_; rintro e w78 ⟨v61, rfl, s61, b78⟩; have B78 := bN hHeld.1 b78; have R61 := rS s61
     replace R53 := rB R53 b78; replace R59 := rB R59 b78; replace R60 := rB R60 b78
     have S61 := sM s61 hHeld.1.size
     clear b78 s61
     clear hHeld; refine hK.out _ _ (KP _ B78.out) (fun hHeld => ?_); clear hK K; try simp only [Act.put, pa, pz, ps]
     refine tkm 9 4 (v61) hHeld rfl ?_; try simp only [Act.put, pa, pz, ps]
     have R4 := R61; clear R61
     have S4 := S61; clear S61
     refine wpAnyH_done (by kernel_rfl) ?_ _
     go_wp2
     go_ret
     exact ⟨_, rfl, by rw [HE.out]; exact S4.out.mono (by omega), B0.out.trans (B78.out.mono (by omega))⟩
    ·go_simp; obtain ⟨w79, h79, b79, B79, R60⟩ := nB hHeld.1 [⟨#[59]⟩] #[.string ⟨#[59]⟩] rfl rfl; rw [<- h79]; clear h79
     replace R53 := rB R53 b79
     clear b79
     clear hHeld; refine hK.out _ _ (KP _ B79.out) (fun hHeld => ?_); clear hK K; try simp only [Act.put, pa, pz, ps]
     refine rdy [6] (arc 59 rfl (fun K hK => ?_) AllReadyH.nil)
     go_simp; go_at_call 36; refine (HR.out w79 2 (by omega) hHeld.1).mono ?_; rintro e w80 ⟨v59, rfl, s59, b80⟩; have B80 := bN hHeld.1 b80; have R59 := rS s59
     replace R53 := rB R53 b80; replace R60 := rB R60 b80
     clear b80 s59
     clear hHeld; refine hK.out _ _ (KP _ B80.out) (fun hHeld => ?_); clear hK K; try simp only [Act.put, pa, pz, ps]
     refine rdy [8] (arc 61 rfl (fun K hK => ?_) AllReadyH.nil)
     go_simp; go_at_call 80; refine (za _ _ _ _ _ _ w80 R53.out.rd R59.out.rd R60.out.rd (by (try simp only [la, lc, ln]); omega) (by (try simp only [la, lc, ln]); omega) (by (try simp only [la, lc, ln]); omega)).mono ?_; rintro e w81 ⟨v61, rfl, s61, b81⟩; have B81 := bN hHeld.1 b81; have R61 := rS s61
     replace R53 := rB R53 b81; replace R59 := rB R59 b81; replace R60 := rB R60 b81
     have S61 := sM s61 hHeld.1.size
     clear b81 s61
     clear hHeld; refine hK.out _ _ (KP _ B81.out) (fun hHeld => ?_); clear hK K; try simp only [Act.put, pa, pz, ps]
     refine tkm 9 4 (v61) hHeld rfl ?_; try simp only [Act.put, pa, pz, ps]
     have R4 := R61; clear R61
     have S4 := S61; clear S61
     refine wpAnyH_done (by kernel_rfl) ?_ _
     go_wp2
     go_ret
     exact ⟨_, rfl, by rw [HE.out]; exact S4.out.mono (by omega), B0.out.trans (B81.out.mono (by omega))⟩
  ·go_simp; obtain ⟨w82, h82, b82, B82, R51⟩ := nB hHeld.1 [⟨#[93]⟩, ⟨#[61]⟩] #[.string ⟨#[93]⟩, .string ⟨#[61]⟩] rfl rfl; rw [<- h82]; clear h82
   replace R43 := rB R43 b82
   clear b82
   clear hHeld; refine hK.out _ _ (KP _ B82.out) (fun hHeld => ?_); clear hK K; try simp only [Act.put, pa, pz, ps]
   refine rdy [5] (arc 42 rfl (fun K hK => ?_) AllReadyH.nil)
   go_simp; go_at_call 36; refine (HR.out w82 0 (by omega) hHeld.1).mono ?_; rintro e w83 ⟨v42, rfl, s42, b83⟩; have B83 := bN hHeld.1 b83; have R42 := rS s42
   have N43 := nC R43 s42
   have N51 := nC R51 s42
   replace R43 := rB R43 b83; replace R51 := rB R51 b83
   have S42 := sM s42 hHeld.1.size
   clear b83 s42
   clear hHeld; refine hK.out _ _ (KP _ B83.out) (fun hHeld => ?_); clear hK K; try simp only [Act.put, pa, pz, ps]
   refine rdy [7] (arc 44 rfl (fun K hK => ?_) AllReadyH.nil)
   rw [if_pos (by kernel_rfl)]; refine zg (by rfl) W0.heap.size W0 _ _ (by rfl) S42.out hHeld.1 _ _ (by rfl) R43.out (by (try simp only [la, lc, ln]); omega) (by (try simp only [la, lc, ln]); omega) hHeld.1.size ?_
   intro v44 w84 s44 b84 hg; have B84 := hI b84; have S44 := hI s44; have R44 := rS s44
   clear R42
   clear R43
   replace R51 := rG R51 hg N51
   clear S42 s44 b84 hg
   clear hHeld; refine hK.out _ _ (KP _ B84.out) (fun hHeld => ?_); clear hK K; try simp only [Act.put, pa, pz, ps]
   refine rdy [13] (arc 50 rfl (fun K hK => ?_) AllReadyH.nil)
   go_simp; go_at_call 36; refine (HR.out w84 1 (by omega) hHeld.1).mono ?_; rintro e w85 ⟨v50, rfl, s50, b85⟩; have B85 := bN hHeld.1 b85; have R50 := rS s50
   replace R44 := rB R44 b85; replace R51 := rB R51 b85; replace S44 := sB S44 b85
   clear b85 s50
   clear hHeld; refine hK.out _ _ (KP _ B85.out) (fun hHeld => ?_); clear hK K; try simp only [Act.put, pa, pz, ps]
   refine rdy [15] (arc 52 rfl (fun K hK => ?_) AllReadyH.nil)
   go_simp; go_at_call 80; refine (za _ _ _ _ _ _ w85 R44.out.rd R50.out.rd R51.out.rd (by (try simp only [la, lc, ln]); omega) (by (try simp only [la, lc, ln]); omega) (by (try simp only [la, lc, ln]); omega)).mono ?_; rintro e w86 ⟨v52, rfl, s52, b86⟩; have B86 := bN hHeld.1 b86; have R52 := rS s52
   replace R44 := rB R44 b86; replace R50 := rB R50 b86; replace R51 := rB R51 b86; replace S44 := sB S44 b86
   have S52 := sM s52 hHeld.1.size
   clear b86 s52
   clear hHeld; refine hK.out _ _ (KP _ B86.out) (fun hHeld => ?_); clear hK K; try simp only [Act.put, pa, pz, ps]
   refine tkm 16 5 (v52) hHeld rfl ?_; try simp only [Act.put, pa, pz, ps]
   have R5 := R52; clear R52
   have S5 := S52; clear S52
   refine wpAnyH_done (by kernel_rfl) ?_ _
   clear R44; clear R50; clear R51; clear S5; clear S44
   obtain ⟨-, tc, kc, -⟩ := KP _ B86.out; have lz := B86.out.size; have lz1 : w.heap.size + 1 < w86.heap.size := by omega
   go_wp2_with fail
   clear tc kc lz lz1
   refine wp_region_held_drew (by kernel_rfl) (KP _ B86.out.drew) (fun hHeld => ?_); obtain ⟨w87, h87, b87⟩ := dR w86; rw [<- h87] at hHeld ⊢; clear h87
   replace R5 := rB R5 b87
   clear b87
   refine tkm 0 53 (v52) hHeld rfl ?_; try simp only [Act.put, pa, pz, ps]
   have R53 := R5; clear R5
   refine tkm 1 54 (.agg #[.slice a L c, .int .i64 top]) hHeld rfl ?_; try simp only [Act.put, pa, pz, ps]
   refine tkm 2 55 (.pointer (some ⟨w.heap.size + 1, 3, none⟩)) hHeld rfl ?_; try simp only [Act.put, pa, pz, ps]
   refine tkm 3 56 (.slice (some ⟨bk, ok, none⟩) 3 ck) hHeld rfl ?_; try simp only [Act.put, pa, pz, ps]
   refine tkm 4 57 (.pointer (some ⟨bk, ok + 2, none⟩)) hHeld rfl ?_; try simp only [Act.put, pa, pz, ps]
   refine tkm 5 58 (.int .i64 (y 2)) hHeld rfl ?_; try simp only [Act.put, pa, pz, ps]
   refine rdy [6, 7] (arc 59 rfl (fun K hK => ?_) (arc 60 rfl (fun K hK => ?_) AllReadyH.nil))
   ·go_simp; go_at_call 36; refine (HR.out w87 2 (by omega) hHeld.1).mono ?_; rintro e w88 ⟨v59, rfl, s59, b88⟩; have B88 := bN hHeld.1 b88; have R59 := rS s59
    replace R53 := rB R53 b88
    clear b88 s59
    clear hHeld; refine hK.out _ _ (KP _ B88.out) (fun hHeld => ?_); clear hK K; try simp only [Act.put, pa, pz, ps]
    refine rdy [7] (arc 60 rfl (fun K hK => ?_) AllReadyH.nil)
    go_simp; obtain ⟨w89, h89, b89, B89, R60⟩ := nB hHeld.1 [⟨#[59]⟩] #[.string ⟨#[59]⟩] rfl rfl; rw [<- h89]; clear h89
    replace R53 := rB R53 b89; replace R59 := rB R59 b89
    clear b89
    clear hHeld; refine hK.out _ _ (KP _ B89.out) (fun hHeld => ?_); clear hK K; try simp only [Act.put, pa, pz, ps]
    refine rdy [8] (arc 61 rfl (fun K hK => ?_) AllReadyH.nil)
    go_simp; go_at_call 80; refine (za _ _ _ _ _ _ w89 R53.out.rd R59.out.rd R60.out.rd (by (try simp only [la, lc, ln]); omega) (by (try simp only [la, lc, ln]); omega) (by (try simp only [la, lc, ln]); omega)).mono ?_; rintro e w90 ⟨v61, rfl, s61, b90⟩; have B90 := bN hHeld.1 b90; have R61 := rS s61
    replace R53 := rB R53 b90; replace R59 := rB R59 b90; replace R60 := rB R60 b90
    have S61 := sM s61 hHeld.1.size
    clear b90 s61
    clear hHeld; refine hK.out _ _ (KP _ B90.out) (fun hHeld => ?_); clear hK K; try simp only [Act.put, pa, pz, ps]
    refine tkm 9 4 (v61) hHeld rfl ?_; try simp only [Act.put, pa, pz, ps]
    have R4 := R61; clear R61
    have S4 := S61; clear S61
    refine wpAnyH_done (by kernel_rfl) ?_ _
    go_wp2
    go_ret
    exact ⟨_, rfl, by rw [HE.out]; exact S4.out.mono (by omega), B0.out.trans (B90.out.mono (by omega))⟩
   ·go_simp; obtain ⟨w91, h91, b91, B91, R60⟩ := nB hHeld.1 [⟨#[59]⟩] #[.string ⟨#[59]⟩] rfl rfl; rw [<- h91]; clear h91
    replace R53 := rB R53 b91
    clear b91
    clear hHeld; refine hK.out _ _ (KP _ B91.out) (fun hHeld => ?_); clear hK K; try simp only [Act.put, pa, pz, ps]
    refine rdy [6] (arc 59 rfl (fun K hK => ?_) AllReadyH.nil)
    go_simp; go_at_call 36; refine (HR.out w91 2 (by omega) hHeld.1).mono ?_; rintro e w92 ⟨v59, rfl, s59, b92⟩; have B92 := bN hHeld.1 b92; have R59 := rS s59
    replace R53 := rB R53 b92; replace R60 := rB R60 b92
    clear b92 s59
    clear hHeld; refine hK.out _ _ (KP _ B92.out) (fun hHeld => ?_); clear hK K; try simp only [Act.put, pa, pz, ps]
    refine rdy [8] (arc 61 rfl (fun K hK => ?_) AllReadyH.nil)
    go_simp; go_at_call 80; refine (za _ _ _ _ _ _ w92 R53.out.rd R59.out.rd R60.out.rd (by (try simp only [la, lc, ln]); omega) (by (try simp only [la, lc, ln]); omega) (by (try simp only [la, lc, ln]); omega)).mono ?_; rintro e w93 ⟨v61, rfl, s61, b93⟩; have B93 := bN hHeld.1 b93; have R61 := rS s61
    replace R53 := rB R53 b93; replace R59 := rB R59 b93; replace R60 := rB R60 b93
    have S61 := sM s61 hHeld.1.size
    clear b93 s61
    clear hHeld; refine hK.out _ _ (KP _ B93.out) (fun hHeld => ?_); clear hK K; try simp only [Act.put, pa, pz, ps]
    refine tkm 9 4 (v61) hHeld rfl ?_; try simp only [Act.put, pa, pz, ps]
    have R4 := R61; clear R61
    have S4 := S61; clear S61
    refine wpAnyH_done (by kernel_rfl) ?_ _
    go_wp2
    go_ret
    exact ⟨_, rfl, by rw [HE.out]; exact S4.out.mono (by omega), B0.out.trans (B93.out.mono (by omega))⟩
 ·go_simp; obtain ⟨w94, h94, b94, B94, R51⟩ := nB hHeld.1 [⟨#[93]⟩, ⟨#[61]⟩] #[.string ⟨#[93]⟩, .string ⟨#[61]⟩] rfl rfl; rw [<- h94]; clear h94
  clear b94
  clear hHeld; refine hK.out _ _ (KP _ B94.out) (fun hHeld => ?_); clear hK K; try simp only [Act.put, pa, pz, ps]
  refine rdy [5, 6] (arc 42 rfl (fun K hK => ?_) (arc 43 rfl (fun K hK => ?_) AllReadyH.nil))
  ·go_simp; go_at_call 36; refine (HR.out w94 0 (by omega) hHeld.1).mono ?_; rintro e w95 ⟨v42, rfl, s42, b95⟩; have B95 := bN hHeld.1 b95; have R42 := rS s42
   have N51 := nC R51 s42
   replace R51 := rB R51 b95
   have S42 := sM s42 hHeld.1.size
   clear b95 s42
   clear hHeld; refine hK.out _ _ (KP _ B95.out) (fun hHeld => ?_); clear hK K; try simp only [Act.put, pa, pz, ps]
   refine rdy [6] (arc 43 rfl (fun K hK => ?_) AllReadyH.nil)
   go_simp; obtain ⟨w96, h96, b96, B96, R43⟩ := nB hHeld.1 [⟨#[91]⟩] #[.string ⟨#[91]⟩] rfl rfl; rw [<- h96]; clear h96
   replace R42 := rB R42 b96; replace R51 := rB R51 b96; replace S42 := sB S42 b96
   clear b96
   clear hHeld; refine hK.out _ _ (KP _ B96.out) (fun hHeld => ?_); clear hK K; try simp only [Act.put, pa, pz, ps]
   refine rdy [7] (arc 44 rfl (fun K hK => ?_) AllReadyH.nil)
   rw [if_pos (by kernel_rfl)]; refine zg (by rfl) W0.heap.size W0 _ _ (by rfl) S42.out hHeld.1 _ _ (by rfl) R43.out (by (try simp only [la, lc, ln]); omega) (by (try simp only [la, lc, ln]); omega) hHeld.1.size ?_
   intro v44 w97 s44 b97 hg; have B97 := hI b97; have S44 := hI s44; have R44 := rS s44
   clear R42
   clear R43
   replace R51 := rG R51 hg N51
   clear S42 s44 b97 hg
   clear hHeld; refine hK.out _ _ (KP _ B97.out) (fun hHeld => ?_); clear hK K; try simp only [Act.put, pa, pz, ps]
   refine rdy [13] (arc 50 rfl (fun K hK => ?_) AllReadyH.nil)
   go_simp; go_at_call 36; refine (HR.out w97 1 (by omega) hHeld.1).mono ?_; rintro e w98 ⟨v50, rfl, s50, b98⟩; have B98 := bN hHeld.1 b98; have R50 := rS s50
   replace R44 := rB R44 b98; replace R51 := rB R51 b98; replace S44 := sB S44 b98
   clear b98 s50
   clear hHeld; refine hK.out _ _ (KP _ B98.out) (fun hHeld => ?_); clear hK K; try simp only [Act.put, pa, pz, ps]
   refine rdy [15] (arc 52 rfl (fun K hK => ?_) AllReadyH.nil)
   go_simp; go_at_call 80; refine (za _ _ _ _ _ _ w98 R44.out.rd R50.out.rd R51.out.rd (by (try simp only [la, lc, ln]); omega) (by (try simp only [la, lc, ln]); omega) (by (try simp only [la, lc, ln]); omega)).mono ?_; rintro e w99 ⟨v52, rfl, s52, b99⟩; have B99 := bN hHeld.1 b99; have R52 := rS s52
   replace R44 := rB R44 b99; replace R50 := rB R50 b99; replace R51 := rB R51 b99; replace S44 := sB S44 b99
   have S52 := sM s52 hHeld.1.size
   clear b99 s52
   clear hHeld; refine hK.out _ _ (KP _ B99.out) (fun hHeld => ?_); clear hK K; try simp only [Act.put, pa, pz, ps]
   refine tkm 16 5 (v52) hHeld rfl ?_; try simp only [Act.put, pa, pz, ps]
   have R5 := R52; clear R52
   have S5 := S52; clear S52
   refine wpAnyH_done (by kernel_rfl) ?_ _
   clear R44; clear R50; clear R51; clear S5; clear S44
   obtain ⟨-, tc, kc, -⟩ := KP _ B99.out; have lz := B99.out.size; have lz1 : w.heap.size + 1 < w99.heap.size := by omega
   go_wp2_with fail
   clear tc kc lz lz1
   refine wp_region_held_drew (by kernel_rfl) (KP _ B99.out.drew) (fun hHeld => ?_); obtain ⟨w100, h100, b100⟩ := dR w99; rw [<- h100] at hHeld ⊢; clear h100
   replace R5 := rB R5 b100
   clear b100
   refine tkm 0 53 (v52) hHeld rfl ?_; try simp only [Act.put, pa, pz, ps]
   have R53 := R5; clear R5
   refine tkm 1 54 (.agg #[.slice a L c, .int .i64 top]) hHeld rfl ?_; try simp only [Act.put, pa, pz, ps]
   refine tkm 2 55 (.pointer (some ⟨w.heap.size + 1, 3, none⟩)) hHeld rfl ?_; try simp only [Act.put, pa, pz, ps]
   refine tkm 3 56 (.slice (some ⟨bk, ok, none⟩) 3 ck) hHeld rfl ?_; try simp only [Act.put, pa, pz, ps]
   refine tkm 4 57 (.pointer (some ⟨bk, ok + 2, none⟩)) hHeld rfl ?_; try simp only [Act.put, pa, pz, ps]
   refine tkm 5 58 (.int .i64 (y 2)) hHeld rfl ?_; try simp only [Act.put, pa, pz, ps]
   refine rdy [6, 7] (arc 59 rfl (fun K hK => ?_) (arc 60 rfl (fun K hK => ?_) AllReadyH.nil))
   ·go_simp; go_at_call 36; refine (HR.out w100 2 (by omega) hHeld.1).mono ?_; rintro e w101 ⟨v59, rfl, s59, b101⟩; have B101 := bN hHeld.1 b101; have R59 := rS s59
    replace R53 := rB R53 b101
    clear b101 s59
    clear hHeld; refine hK.out _ _ (KP _ B101.out) (fun hHeld => ?_); clear hK K; try simp only [Act.put, pa, pz, ps]
    refine rdy [7] (arc 60 rfl (fun K hK => ?_) AllReadyH.nil)
    go_simp; obtain ⟨w102, h102, b102, B102, R60⟩ := nB hHeld.1 [⟨#[59]⟩] #[.string ⟨#[59]⟩] rfl rfl; rw [<- h102]; clear h102
    replace R53 := rB R53 b102; replace R59 := rB R59 b102
    clear b102
    clear hHeld; refine hK.out _ _ (KP _ B102.out) (fun hHeld => ?_); clear hK K; try simp only [Act.put, pa, pz, ps]
    refine rdy [8] (arc 61 rfl (fun K hK => ?_) AllReadyH.nil)
    go_simp; go_at_call 80; refine (za _ _ _ _ _ _ w102 R53.out.rd R59.out.rd R60.out.rd (by (try simp only [la, lc, ln]); omega) (by (try simp only [la, lc, ln]); omega) (by (try simp only [la, lc, ln]); omega)).mono ?_; rintro e w103 ⟨v61, rfl, s61, b103⟩; have B103 := bN hHeld.1 b103; have R61 := rS s61
    replace R53 := rB R53 b103; replace R59 := rB R59 b103; replace R60 := rB R60 b103
    have S61 := sM s61 hHeld.1.size
    clear b103 s61
    clear hHeld; refine hK.out _ _ (KP _ B103.out) (fun hHeld => ?_); clear hK K; try simp only [Act.put, pa, pz, ps]
    refine tkm 9 4 (v61) hHeld rfl ?_; try simp only [Act.put, pa, pz, ps]
    have R4 := R61; clear R61
    have S4 := S61; clear S61
    refine wpAnyH_done (by kernel_rfl) ?_ _
    go_wp2
    go_ret
    exact ⟨_, rfl, by rw [HE.out]; exact S4.out.mono (by omega), B0.out.trans (B103.out.mono (by omega))⟩
   ·go_simp; obtain ⟨w104, h104, b104, B104, R60⟩ := nB hHeld.1 [⟨#[59]⟩] #[.string ⟨#[59]⟩] rfl rfl; rw [<- h104]; clear h104
    replace R53 := rB R53 b104
    clear b104
    clear hHeld; refine hK.out _ _ (KP _ B104.out) (fun hHeld => ?_); clear hK K; try simp only [Act.put, pa, pz, ps]
    refine rdy [6] (arc 59 rfl (fun K hK => ?_) AllReadyH.nil)
    go_simp; go_at_call 36; refine (HR.out w104 2 (by omega) hHeld.1).mono ?_; rintro e w105 ⟨v59, rfl, s59, b105⟩; have B105 := bN hHeld.1 b105; have R59 := rS s59
    replace R53 := rB R53 b105; replace R60 := rB R60 b105
    clear b105 s59
    clear hHeld; refine hK.out _ _ (KP _ B105.out) (fun hHeld => ?_); clear hK K; try simp only [Act.put, pa, pz, ps]
    refine rdy [8] (arc 61 rfl (fun K hK => ?_) AllReadyH.nil)
    go_simp; go_at_call 80; refine (za _ _ _ _ _ _ w105 R53.out.rd R59.out.rd R60.out.rd (by (try simp only [la, lc, ln]); omega) (by (try simp only [la, lc, ln]); omega) (by (try simp only [la, lc, ln]); omega)).mono ?_; rintro e w106 ⟨v61, rfl, s61, b106⟩; have B106 := bN hHeld.1 b106; have R61 := rS s61
    replace R53 := rB R53 b106; replace R59 := rB R59 b106; replace R60 := rB R60 b106
    have S61 := sM s61 hHeld.1.size
    clear b106 s61
    clear hHeld; refine hK.out _ _ (KP _ B106.out) (fun hHeld => ?_); clear hK K; try simp only [Act.put, pa, pz, ps]
    refine tkm 9 4 (v61) hHeld rfl ?_; try simp only [Act.put, pa, pz, ps]
    have R4 := R61; clear R61
    have S4 := S61; clear S61
    refine wpAnyH_done (by kernel_rfl) ?_ _
    go_wp2
    go_ret
    exact ⟨_, rfl, by rw [HE.out]; exact S4.out.mono (by omega), B0.out.trans (B106.out.mono (by omega))⟩
  ·go_simp; obtain ⟨w107, h107, b107, B107, R43⟩ := nB hHeld.1 [⟨#[91]⟩] #[.string ⟨#[91]⟩] rfl rfl; rw [<- h107]; clear h107
   replace R51 := rB R51 b107
   clear b107
   clear hHeld; refine hK.out _ _ (KP _ B107.out) (fun hHeld => ?_); clear hK K; try simp only [Act.put, pa, pz, ps]
   refine rdy [5] (arc 42 rfl (fun K hK => ?_) AllReadyH.nil)
   go_simp; go_at_call 36; refine (HR.out w107 0 (by omega) hHeld.1).mono ?_; rintro e w108 ⟨v42, rfl, s42, b108⟩; have B108 := bN hHeld.1 b108; have R42 := rS s42
   have N43 := nC R43 s42
   have N51 := nC R51 s42
   replace R43 := rB R43 b108; replace R51 := rB R51 b108
   have S42 := sM s42 hHeld.1.size
   clear b108 s42
   clear hHeld; refine hK.out _ _ (KP _ B108.out) (fun hHeld => ?_); clear hK K; try simp only [Act.put, pa, pz, ps]
   refine rdy [7] (arc 44 rfl (fun K hK => ?_) AllReadyH.nil)
   rw [if_pos (by kernel_rfl)]; refine zg (by rfl) W0.heap.size W0 _ _ (by rfl) S42.out hHeld.1 _ _ (by rfl) R43.out (by (try simp only [la, lc, ln]); omega) (by (try simp only [la, lc, ln]); omega) hHeld.1.size ?_
   intro v44 w109 s44 b109 hg; have B109 := hI b109; have S44 := hI s44; have R44 := rS s44
   clear R42
   clear R43
   replace R51 := rG R51 hg N51
   clear S42 s44 b109 hg
   clear hHeld; refine hK.out _ _ (KP _ B109.out) (fun hHeld => ?_); clear hK K; try simp only [Act.put, pa, pz, ps]
   refine rdy [13] (arc 50 rfl (fun K hK => ?_) AllReadyH.nil)
   go_simp; go_at_call 36; refine (HR.out w109 1 (by omega) hHeld.1).mono ?_; rintro e w110 ⟨v50, rfl, s50, b110⟩; have B110 := bN hHeld.1 b110; have R50 := rS s50
   replace R44 := rB R44 b110; replace R51 := rB R51 b110; replace S44 := sB S44 b110
   clear b110 s50
   clear hHeld; refine hK.out _ _ (KP _ B110.out) (fun hHeld => ?_); clear hK K; try simp only [Act.put, pa, pz, ps]
   refine rdy [15] (arc 52 rfl (fun K hK => ?_) AllReadyH.nil)
   go_simp; go_at_call 80; refine (za _ _ _ _ _ _ w110 R44.out.rd R50.out.rd R51.out.rd (by (try simp only [la, lc, ln]); omega) (by (try simp only [la, lc, ln]); omega) (by (try simp only [la, lc, ln]); omega)).mono ?_; rintro e w111 ⟨v52, rfl, s52, b111⟩; have B111 := bN hHeld.1 b111; have R52 := rS s52
   replace R44 := rB R44 b111; replace R50 := rB R50 b111; replace R51 := rB R51 b111; replace S44 := sB S44 b111
   have S52 := sM s52 hHeld.1.size
   clear b111 s52
   clear hHeld; refine hK.out _ _ (KP _ B111.out) (fun hHeld => ?_); clear hK K; try simp only [Act.put, pa, pz, ps]
   refine tkm 16 5 (v52) hHeld rfl ?_; try simp only [Act.put, pa, pz, ps]
   have R5 := R52; clear R52
   have S5 := S52; clear S52
   refine wpAnyH_done (by kernel_rfl) ?_ _
   clear R44; clear R50; clear R51; clear S5; clear S44
   obtain ⟨-, tc, kc, -⟩ := KP _ B111.out; have lz := B111.out.size; have lz1 : w.heap.size + 1 < w111.heap.size := by omega
   go_wp2_with fail
   clear tc kc lz lz1
   refine wp_region_held_drew (by kernel_rfl) (KP _ B111.out.drew) (fun hHeld => ?_); obtain ⟨w112, h112, b112⟩ := dR w111; rw [<- h112] at hHeld ⊢; clear h112
   replace R5 := rB R5 b112
   clear b112
   refine tkm 0 53 (v52) hHeld rfl ?_; try simp only [Act.put, pa, pz, ps]
   have R53 := R5; clear R5
   refine tkm 1 54 (.agg #[.slice a L c, .int .i64 top]) hHeld rfl ?_; try simp only [Act.put, pa, pz, ps]
   refine tkm 2 55 (.pointer (some ⟨w.heap.size + 1, 3, none⟩)) hHeld rfl ?_; try simp only [Act.put, pa, pz, ps]
   refine tkm 3 56 (.slice (some ⟨bk, ok, none⟩) 3 ck) hHeld rfl ?_; try simp only [Act.put, pa, pz, ps]
   refine tkm 4 57 (.pointer (some ⟨bk, ok + 2, none⟩)) hHeld rfl ?_; try simp only [Act.put, pa, pz, ps]
   refine tkm 5 58 (.int .i64 (y 2)) hHeld rfl ?_; try simp only [Act.put, pa, pz, ps]
   refine rdy [6, 7] (arc 59 rfl (fun K hK => ?_) (arc 60 rfl (fun K hK => ?_) AllReadyH.nil))
   ·go_simp; go_at_call 36; refine (HR.out w112 2 (by omega) hHeld.1).mono ?_; rintro e w113 ⟨v59, rfl, s59, b113⟩; have B113 := bN hHeld.1 b113; have R59 := rS s59
    replace R53 := rB R53 b113
    clear b113 s59
    clear hHeld; refine hK.out _ _ (KP _ B113.out) (fun hHeld => ?_); clear hK K; try simp only [Act.put, pa, pz, ps]
    refine rdy [7] (arc 60 rfl (fun K hK => ?_) AllReadyH.nil)
    go_simp; obtain ⟨w114, h114, b114, B114, R60⟩ := nB hHeld.1 [⟨#[59]⟩] #[.string ⟨#[59]⟩] rfl rfl; rw [<- h114]; clear h114
    replace R53 := rB R53 b114; replace R59 := rB R59 b114
    clear b114
    clear hHeld; refine hK.out _ _ (KP _ B114.out) (fun hHeld => ?_); clear hK K; try simp only [Act.put, pa, pz, ps]
    refine rdy [8] (arc 61 rfl (fun K hK => ?_) AllReadyH.nil)
    go_simp; go_at_call 80; refine (za _ _ _ _ _ _ w114 R53.out.rd R59.out.rd R60.out.rd (by (try simp only [la, lc, ln]); omega) (by (try simp only [la, lc, ln]); omega) (by (try simp only [la, lc, ln]); omega)).mono ?_; rintro e w115 ⟨v61, rfl, s61, b115⟩; have B115 := bN hHeld.1 b115; have R61 := rS s61
    replace R53 := rB R53 b115; replace R59 := rB R59 b115; replace R60 := rB R60 b115
    have S61 := sM s61 hHeld.1.size
    clear b115 s61
    clear hHeld; refine hK.out _ _ (KP _ B115.out) (fun hHeld => ?_); clear hK K; try simp only [Act.put, pa, pz, ps]
    refine tkm 9 4 (v61) hHeld rfl ?_; try simp only [Act.put, pa, pz, ps]
    have R4 := R61; clear R61
    have S4 := S61; clear S61
    refine wpAnyH_done (by kernel_rfl) ?_ _
    go_wp2
    go_ret
    exact ⟨_, rfl, by rw [HE.out]; exact S4.out.mono (by omega), B0.out.trans (B115.out.mono (by omega))⟩
   ·go_simp; obtain ⟨w116, h116, b116, B116, R60⟩ := nB hHeld.1 [⟨#[59]⟩] #[.string ⟨#[59]⟩] rfl rfl; rw [<- h116]; clear h116
    replace R53 := rB R53 b116
    clear b116
    clear hHeld; refine hK.out _ _ (KP _ B116.out) (fun hHeld => ?_); clear hK K; try simp only [Act.put, pa, pz, ps]
    refine rdy [6] (arc 59 rfl (fun K hK => ?_) AllReadyH.nil)
    go_simp; go_at_call 36; refine (HR.out w116 2 (by omega) hHeld.1).mono ?_; rintro e w117 ⟨v59, rfl, s59, b117⟩; have B117 := bN hHeld.1 b117; have R59 := rS s59
    replace R53 := rB R53 b117; replace R60 := rB R60 b117
    clear b117 s59
    clear hHeld; refine hK.out _ _ (KP _ B117.out) (fun hHeld => ?_); clear hK K; try simp only [Act.put, pa, pz, ps]
    refine rdy [8] (arc 61 rfl (fun K hK => ?_) AllReadyH.nil)
    go_simp; go_at_call 80; refine (za _ _ _ _ _ _ w117 R53.out.rd R59.out.rd R60.out.rd (by (try simp only [la, lc, ln]); omega) (by (try simp only [la, lc, ln]); omega) (by (try simp only [la, lc, ln]); omega)).mono ?_; rintro e w118 ⟨v61, rfl, s61, b118⟩; have B118 := bN hHeld.1 b118; have R61 := rS s61
    replace R53 := rB R53 b118; replace R59 := rB R59 b118; replace R60 := rB R60 b118
    have S61 := sM s61 hHeld.1.size
    clear b118 s61
    clear hHeld; refine hK.out _ _ (KP _ B118.out) (fun hHeld => ?_); clear hK K; try simp only [Act.put, pa, pz, ps]
    refine tkm 9 4 (v61) hHeld rfl ?_; try simp only [Act.put, pa, pz, ps]
    have R4 := R61; clear R61
    have S4 := S61; clear S61
    refine wpAnyH_done (by kernel_rfl) ?_ _
    go_wp2
    go_ret
    exact ⟨_, rfl, by rw [HE.out]; exact S4.out.mono (by omega), B0.out.trans (B118.out.mono (by omega))⟩
end Go.Proofs.YtiglkhkfbgjjoaaDoor
