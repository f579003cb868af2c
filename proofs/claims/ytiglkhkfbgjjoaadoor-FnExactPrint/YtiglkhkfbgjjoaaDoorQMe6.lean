/- - -/
import Derived.Test.YtiglkhkfbgjjoaaDoorQMtC
namespace Go.Proofs.YtiglkhkfbgjjoaaDoor
set_option maxRecDepth 20000
open Go.RowKit Go.PlainAid Go.Maps
set_option linter.unusedSimpArgs false
set_option linter.unusedVariables false
set_option maxHeartbeats 4000000 in
theorem et6 (a : Option Addr) (L c : Nat) (top : Int) (t : ByteArray) (i : Int) (ak : Option Addr) (q : Nat) (ck : Nat) (y : Nat -> Int) (rec : Int -> List ByteArray) (T : Nat) (w : World) (hk : SlF T w (.slice ak (q + 1) ck) (q + 1) (q + 1) (fun i => .int .i64 (y i))) (hT : T <= w.heap.size) (hc1 : q + 1 <= ck) (hc2 : ck <= 1048576) (hs : smN rec y (q + 1) <= 100000)
 (hr : ∀ (V : World) (m : Nat), m < q + 1 -> Below w.heap.size w V -> Calls Tryd.prog 36 #[.agg #[.slice a L c, .int .i64 top], .int .i64 (y m)] V (zc V (rec (y m)))) :
 Calls Tryd.prog 78 #[.agg #[.slice a L c, .int .i64 top], .agg #[.int .i64 6, .string t, .int .i64 i, .slice ak (q + 1) ck]] w (zc w (bod rec ⟨6, t, i, q + 1, y⟩)) := by
 obtain ⟨bk, ok, ck2, hv, tk1, lk, hkk⟩ := hk.parts (k := 0) (by omega)
 simp only [Value.slice.injEq] at hv
 obtain ⟨rfl, _, rfl⟩ := hv
 have ycq := hkk q (by omega)
 have nq : (rec (y q)).length <= 100000 := Nat.le_trans (smA rec y (by omega : q < q + 1)) hs
 have ncm : (cmN rec y q).length <= 100000 := Nat.le_trans (Nat.le_trans (zd rec y q).1 (smU rec y q 1)) hs
 have hq1 : (q : Int) <= 1048576 := by omega
 have hqc : (q : Int) <= (ck : Int) := by omega
 have hq3 : ¬ ((q : Int) + 1 <= (q : Int)) := by omega
 have HE : Hid (bod rec ⟨6, t, i, q + 1, y⟩ = ([⟨#[40]⟩, ⟨#[102, 110]⟩, ⟨#[40]⟩] ++ cmN rec y q ++ [⟨#[41]⟩]) ++ rec (y q) ++ [⟨#[41]⟩]) := by show bod _ _ = _; simp [bod, opB]
 obtain ⟨W0, hW0⟩ : ∃ V, V = (w.alloc (.cells #[.slice a L c, .int .i64 top] 41)).alloc (.cells #[.int .i64 6, .string t, .int .i64 i, .slice (some ⟨bk, ok, none⟩) (q + 1) ck] 71) := ⟨_, rfl⟩
 have z0 : W0.heap.size = w.heap.size + 2 := by rw [hW0]; simp
 have B0 : Hid (Below w.heap.size w W0) := by rw [hW0]; exact ((Below.refl _ _).alloc (Nat.le_refl _) _).alloc (by simp) _
 have T0 : ∀ z, W0.cell? ⟨w.heap.size, z, none⟩ = (#[.slice a L c, .int .i64 top] : Array Value)[z]? := fun z => by rw [hW0]; simp [go_sem]
 have K0 : ∀ z, W0.cell? ⟨w.heap.size + 1, z, none⟩ = (#[.int .i64 6, .string t, .int .i64 i, .slice (some ⟨bk, ok, none⟩) (q + 1) ck] : Array Value)[z]? := fun z => by rw [hW0]; simp [go_sem]
 have HR : Hid (∀ (V : World) (m : Nat), m < q + 1 -> Below W0.heap.size W0 V -> Calls Tryd.prog 36 #[.agg #[.slice a L c, .int .i64 top], .int .i64 (y m)] V (zc V (rec (y m)))) := fun V m hm hV => hr V m hm (B0.out.trans (hV.mono (by omega)))
 have BK : Hid (∀ V, Below W0.heap.size W0 V -> Below w.heap.size w V) := fun V hV => B0.out.trans (hV.mono (by omega))
 have hsa := zkm bk ok (q + 1) q ck (by omega)
 have HC : Hid (∀ V, Below W0.heap.size W0 V -> Calls Tryd.prog 118 #[.agg #[.slice a L c, .int .i64 top], .slice (some ⟨bk, ok, none⟩) q ck] V (zc V (cmN rec y q))) := fun V hV => zbm a c L top _ q ck y rec T V ((hk.head1 (by omega)).below (BK.out V hV) hT) (Nat.le_trans hT (BK.out V hV).size) (by omega) (Nat.le_trans (smU rec y q 1) hs) (fun V' m hm hV' => hr V' m (by omega) ((BK.out V hV).trans (hV'.mono (BK.out V hV).size)))
 have KP : ∀ V, Below W0.heap.size W0 V -> (SQ1 W0 w.heap.size #[.slice a L c, .int .i64 top] #[.int .i64 6, .string t, .int .i64 i, .slice (some ⟨bk, ok, none⟩) (q + 1) ck] bk (ok + q) (y q)) V := fun V hV => ⟨hV, fun z => (hV.cell (p := ⟨w.heap.size, z, none⟩) (by dsimp only; omega)).trans (T0 z), fun z => (hV.cell (p := ⟨w.heap.size + 1, z, none⟩) (by dsimp only; omega)).trans (K0 z), ((BK.out V hV).cell (p := ⟨bk, ok + q, none⟩) (by dsimp only; omega)).trans ycq⟩
 have KP' : Hid (∀ V, Below W0.heap.size W0 V -> (SQ1 W0 w.heap.size #[.slice a L c, .int .i64 top] #[.int .i64 6, .string t, .int .i64 i, .slice (some ⟨bk, ok, none⟩) (q + 1) ck] bk (ok + q) (y q)) V) := KP
 clear hk hr hs hkk KP T0 K0 ycq
 have BW : Hid (Below W0.heap.size W0 W0) := Below.refl _ _
 go_enter Tryd.func78, Tryd.ntmps78
 go_wp2_with fail
 rw [<- hW0]
 clear hW0
 have KP := KP'.out
 clear KP'
 refine wp_region_held_drew (by kernel_rfl) (KP _ BW.out.drew) (fun hHeld => ?_); obtain ⟨w1, h1, b1⟩ := dR W0; rw [<- h1] at hHeld ⊢; clear h1
 clear b1
 refine tkm 1 42 (.agg #[.slice a L c, .int .i64 top]) hHeld rfl ?_; try simp only [Act.put, pa, pz, ps]
 refine tkm 2 43 (.pointer (some ⟨w.heap.size + 1, 3, none⟩)) hHeld rfl ?_; try simp only [Act.put, pa, pz, ps]
 refine tkm 3 44 (.slice (some ⟨bk, ok, none⟩) (q + 1) ck) hHeld rfl ?_; try simp only [Act.put, pa, pz, ps]
 refine tkm 4 45 (.int .i64 (q : Int)) hHeld rfl ?_; try simp only [Act.put, pa, pz, ps]
 refine tkm 5 46 (.slice (some ⟨bk, ok, none⟩) q ck) hHeld rfl ?_; try simp only [Act.put, pa, pz, ps]
 refine rdy [0, 6, 7] (arc 41 rfl (fun K hK => ?_) (arc 47 rfl (fun K hK => ?_) (arc 48 rfl (fun K hK => ?_) AllReadyH.nil)))
 ·go_simp; obtain ⟨w2, h2, b2, B2, R41⟩ := nB hHeld.1 [⟨#[40]⟩, ⟨#[102, 110]⟩, ⟨#[40]⟩] #[.string ⟨#[40]⟩, .string ⟨#[102, 110]⟩, .string ⟨#[40]⟩] rfl rfl; rw [<- h2]; clear h2
  clear b2
  clear hHeld; refine hK.out _ _ (KP _ B2.out) (fun hHeld => ?_); clear hK K; try simp only [Act.put, pa, pz, ps]
  refine rdy [6, 7] (arc 47 rfl (fun K hK => ?_) (arc 48 rfl (fun K hK => ?_) AllReadyH.nil))
  ·go_simp; go_at_call 118; refine (HC.out w2 hHeld.1).mono ?_; rintro e w3 ⟨v47, rfl, s47, b3⟩; have B3 := bN hHeld.1 b3; have R47 := rS s47
   replace R41 := rB R41 b3
   clear b3 s47
   clear hHeld; refine hK.out _ _ (KP _ B3.out) (fun hHeld => ?_); clear hK K; try simp only [Act.put, pa, pz, ps]
   refine rdy [7] (arc 48 rfl (fun K hK => ?_) AllReadyH.nil)
   go_simp; obtain ⟨w4, h4, b4, B4, R48⟩ := nB hHeld.1 [⟨#[41]⟩] #[.string ⟨#[41]⟩] rfl rfl; rw [<- h4]; clear h4
   replace R41 := rB R41 b4; replace R47 := rB R47 b4
   clear b4
   clear hHeld; refine hK.out _ _ (KP _ B4.out) (fun hHeld => ?_); clear hK K; try simp only [Act.put, pa, pz, ps]
   refine rdy [8] (arc 49 rfl (fun K hK => ?_) AllReadyH.nil)
   go_simp; go_at_call 80; refine (za _ _ _ _ _ _ w4 R41.out.rd R47.out.rd R48.out.rd (by (try simp only [la, lc, ln]); omega) (by (try simp only [la, lc, ln]); omega) (by (try simp only [la, lc, ln]); omega)).mono ?_; rintro e w5 ⟨v49, rfl, s49, b5⟩; have B5 := bN hHeld.1 b5; have R49 := rS s49
   replace R41 := rB R41 b5; replace R47 := rB R47 b5; replace R48 := rB R48 b5
   have S49 := sM s49 hHeld.1.size
   clear b5 s49
   clear hHeld; refine hK.out _ _ (KP _ B5.out) (fun hHeld => ?_); clear hK K; try simp only [Act.put, pa, pz, ps]
   refine tkm 9 6 (v49) hHeld rfl ?_; try simp only [Act.put, pa, pz, ps]
   have R6 := R49; clear R49
   have S6 := S49; clear S49
   refine wpAnyH_done (by kernel_rfl) ?_ _
   clear R41; clear R47; clear R48; clear S6
   obtain ⟨-, tc, kc, -⟩ := KP _ B5.out; have lz := B5.out.size; have lz1 : w.heap.size + 1 < w5.heap.size := by omega
   go_wp2_with fail
   clear tc kc lz lz1
   refine wp_region_held_drew (by kernel_rfl) (KP _ B5.out.drew) (fun hHeld => ?_); obtain ⟨w6, h6, b6⟩ := dR w5; rw [<- h6] at hHeld ⊢; clear h6
   replace R6 := rB R6 b6
   clear b6
   refine tkm 0 50 (v49) hHeld rfl ?_; try simp only [Act.put, pa, pz, ps]
   have R50 := R6; clear R6
   refine tkm 1 51 (.agg #[.slice a L c, .int .i64 top]) hHeld rfl ?_; try simp only [Act.put, pa, pz, ps]
   refine tkm 2 52 (.pointer (some ⟨w.heap.size + 1, 3, none⟩)) hHeld rfl ?_; try simp only [Act.put, pa, pz, ps]
   refine tkm 3 53 (.slice (some ⟨bk, ok, none⟩) (q + 1) ck) hHeld rfl ?_; try simp only [Act.put, pa, pz, ps]
   refine tkm 4 54 (.int .i64 (q : Int)) hHeld rfl ?_; try simp only [Act.put, pa, pz, ps]
   refine tkm 5 55 (.pointer (some ⟨bk, ok + q, none⟩)) hHeld rfl ?_; try simp only [Act.put, pa, pz, ps]
   refine tkm 6 56 (.int .i64 (y q)) hHeld rfl ?_; try simp only [Act.put, pa, pz, ps]
   refine rdy [7, 8] (arc 57 rfl (fun K hK => ?_) (arc 58 rfl (fun K hK => ?_) AllReadyH.nil))
   ·go_simp; go_at_call 36; refine (HR.out w6 q (by omega) hHeld.1).mono ?_; rintro e w7 ⟨v57, rfl, s57, b7⟩; have B7 := bN hHeld.1 b7; have R57 := rS s57
    replace R50 := rB R50 b7
    clear b7 s57
    clear hHeld; refine hK.out _ _ (KP _ B7.out) (fun hHeld => ?_); clear hK K; try simp only [Act.put, pa, pz, ps]
    refine rdy [8] (arc 58 rfl (fun K hK => ?_) AllReadyH.nil)
    go_simp; obtain ⟨w8, h8, b8, B8, R58⟩ := nB hHeld.1 [⟨#[41]⟩] #[.string ⟨#[41]⟩] rfl rfl; rw [<- h8]; clear h8
    replace R50 := rB R50 b8; replace R57 := rB R57 b8
    clear b8
    clear hHeld; refine hK.out _ _ (KP _ B8.out) (fun hHeld => ?_); clear hK K; try simp only [Act.put, pa, pz, ps]
    refine rdy [9] (arc 59 rfl (fun K hK => ?_) AllReadyH.nil)
    go_simp; go_at_call 80; refine (za _ _ _ _ _ _ w8 R50.out.rd R57.out.rd R58.out.rd (by (try simp only [la, lc, ln]); omega) (by (try simp only [la, lc, ln]); omega) (by (try simp only [la, lc, ln]); omega)).mono ?_; rintro e w9 ⟨v59, rfl, s59, b9⟩; have B9 := bN hHeld.1 b9; have R59 := rS s59
    replace R50 := rB R50 b9; replace R57 := rB R57 b9; replace R58 := rB R58 b9
    have S59 := sM s59 hHeld.1.size
    clear b9 s59
    clear hHeld; refine hK.out _ _ (KP _ B9.out) (fun hHeld => ?_); clear hK K; try simp only [Act.put, pa, pz, ps]
    refine tkm 10 4 (v59) hHeld rfl ?_; try simp only [Act.put, pa, pz, ps]
    have R4 := R59; clear R59
    have S4 := S59; clear S59
    refine wpAnyH_done (by kernel_rfl) ?_ _
    go_wp2
    go_ret
    exact ⟨_, rfl, by rw [HE.out]; exact S4.out.mono (by omega), B0.out.trans (B9.out.mono (by omega))⟩
   ·go_simp; obtain ⟨w10, h10, b10, B10, R58⟩ := nB hHeld.1 [⟨#[41]⟩] #[.string ⟨#[41]⟩] rfl rfl; rw [<- h10]; clear h10
    replace R50 := rB R50 b10
    clear b10
    clear hHeld; refine hK.out _ _ (KP _ B10.out) (fun hHeld => ?_); clear hK K; try simp only [Act.put, pa, pz, ps]
    refine rdy [7] (arc 57 rfl (fun K hK => ?_) AllReadyH.nil)
    go_simp; go_at_call 36; refine (HR.out w10 q (by omega) hHeld.1).mono ?_; rintro e w11 ⟨v57, rfl, s57, b11⟩; have B11 := bN hHeld.1 b11; have R57 := rS s57
    replace R50 := rB R50 b11; replace R58 := rB R58 b11
    clear b11 s57
    clear hHeld; refine hK.out _ _ (KP _ B11.out) (fun hHeld => ?_); clear hK K; try simp only [Act.put, pa, pz, ps]
    refine rdy [9] (arc 59 rfl (fun K hK => ?_) AllReadyH.nil)
    go_simp; go_at_call 80; refine (za _ _ _ _ _ _ w11 R50.out.rd R57.out.rd R58.out.rd (by (try simp only [la, lc, ln]); omega) (by (try simp only [la, lc, ln]); omega) (by (try simp only [la, lc, ln]); omega)).mono ?_; rintro e w12 ⟨v59, rfl, s59, b12⟩; have B12 := bN hHeld.1 b12; have R59 := rS s59
    replace R50 := rB R50 b12; replace R57 := rB R57 b12; replace R58 := rB R58 b12
    have S59 := sM s59 hHeld.1.size
    clear b12 s59
    clear hHeld; refine hK.out _ _ (KP _ B12.out) (fun hHeld => ?_); clear hK K; try simp only [Act.put, pa, pz, ps]
    refine tkm 10 4 (v59) hHeld rfl ?_; try simp only [Act.put, pa, pz, ps]
    have R4 := R59; clear R59
    have S4 := S59; clear S59
    refine wpAnyH_done (by kernel_rfl) ?_ _
    go_wp2
    go_ret
    exact ⟨_, rfl, by rw [HE.out]; exact S4.out.mono (by omega), B0.out.trans (B12.out.mono (by omega))⟩
  ·go_simp; obtain ⟨w13, h13, b13, B13, R48⟩ := nB hHeld.1 [⟨#[41]⟩] #[.string ⟨#[41]⟩] rfl rfl; rw [<- h13]; clear h13
   replace R41 := rB R41 b13
   clear b13
   clear hHeld; refine hK.out _ _ (KP _ B13.out) (fun hHeld => ?_); clear hK K; try simp only [Act.put, pa, pz, ps]
   refine rdy [6] (arc 47 rfl (fun K hK => ?_) AllReadyH.nil)
   go_simp; go_at_call 118; refine (HC.out w13 hHeld.1).mono ?_; rintro e w14 ⟨v47, rfl, s47, b14⟩; have B14 := bN hHeld.1 b14; have R47 := rS s47
   replace R41 := rB R41 b14; replace R48 := rB R48 b14
   clear b14 s47
   clear hHeld; refine hK.out _ _ (KP _ B14.out) (fun hHeld => ?_); clear hK K; try simp only [Act.put, pa, pz, ps]
   refine rdy [8] (arc 49 rfl (fun K hK => ?_) AllReadyH.nil)
   go_simp; go_at_call 80; refine (za _ _ _ _ _ _ w14 R41.out.rd R47.out.rd R48.out.rd (by (try simp only [la, lc, ln]); omega) (by (try simp only [la, lc, ln]); omega) (by (try simp only [la, lc, ln]); omega)).mono ?_; rintro e w15 ⟨v49, rfl, s49, b15⟩; have B15 := bN hHeld.1 b15; have R49 := rS s49
   replace R41 := rB R41 b15; replace R47 := rB R47 b15; replace R48 := rB R48 b15
   have S49 := sM s49 hHeld.1.size
   clear b15 s49
   clear hHeld; refine hK.out _ _ (KP _ B15.out) (fun hHeld => ?_); clear hK K; try simp only [Act.put, pa, pz, ps]
   refine tkm 9 6 (v49) hHeld rfl ?_; try simp only [Act.put, pa, pz, ps]
   have R6 := R49; clear R49
   have S6 := S49; clear S49
   refine wpAnyH_done (by kernel_rfl) ?_ _
   clear R41; clear R47; clear R48; clear S6
   obtain ⟨-, tc, kc, -⟩ := KP _ B15.out; have lz := B15.out.size; have lz1 : w.heap.size + 1 < w15.heap.size := by omega
   go_wp2_with fail
   clear tc kc lz lz1
   refine wp_region_held_drew (by kernel_rfl) (KP _ B15.out.drew) (fun hHeld => ?_); obtain ⟨w16, h16, b16⟩ := dR w15; rw [<- h16] at hHeld ⊢; clear h16
   replace R6 := rB R6 b16
   clear b16
   refine tkm 0 50 (v49) hHeld rfl ?_; try simp only [Act.put, pa, pz, ps]
   have R50 := R6; clear R6
   refine tkm 1 51 (.agg #[.slice a L c, .int .i64 top]) hHeld rfl ?_; try simp only [Act.put, pa, pz, ps]
   refine tkm 2 52 (.pointer (some ⟨w.heap.size + 1, 3, none⟩)) hHeld rfl ?_; try simp only [Act.put, pa, pz, ps]
   refine tkm 3 53 (.slice (some ⟨bk, ok, none⟩) (q + 1) ck) hHeld rfl ?_; try simp only [Act.put, pa, pz, ps]
   refine tkm 4 54 (.int .i64 (q : Int)) hHeld rfl ?_; try simp only [Act.put, pa, pz, ps]
   refine tkm 5 55 (.pointer (some ⟨bk, ok + q, none⟩)) hHeld rfl ?_; try simp only [Act.put, pa, pz, ps]
   refine tkm 6 56 (.int .i64 (y q)) hHeld rfl ?_; try simp only [Act.put, pa, pz, ps]
   refine rdy [7, 8] (arc 57 rfl (fun K hK => ?_) (arc 58 rfl (fun K hK => ?_) AllReadyH.nil))
   ·go_simp; go_at_call 36; refine (HR.out w16 q (by omega) hHeld.1).mono ?_; rintro e w17 ⟨v57, rfl, s57, b17⟩; have B17 := bN hHeld.1 b17; have R57 := rS s57
    replace R50 := rB R50 b17
    clear b17 s57
    clear hHeld; refine hK.out _ _ (KP _ B17.out) (fun hHeld => ?_); clear hK K; try simp only [Act.put, pa, pz, ps]
    refine rdy [8] (arc 58 rfl (fun K hK => ?_) AllReadyH.nil)
    go_simp; obtain ⟨w18, h18, b18, B18, R58⟩ := nB hHeld.1 [⟨#[41]⟩] #[.string ⟨#[41]⟩] rfl rfl; rw [<- h18]; clear h18
    replace R50 := rB R50 b18; replace R57 := rB R57 b18
    clear b18
    clear hHeld; refine hK.out _ _ (KP _ B18.out) (fun hHeld => ?_); clear hK K; try simp only [Act.put, pa, pz, ps]
    refine rdy [9] (arc 59 rfl (fun K hK => ?_) AllReadyH.nil)
    go_simp; go_at_call 80; refine (za _ _ _ _ _ _ w18 R50.out.rd R57.out.rd R58.out.rd (by (try simp only [la, lc, ln]); omega) (by (try simp only [la, lc, ln]); omega) (by (try simp only [la, lc, ln]); omega)).mono ?_; rintro e w19 ⟨v59, rfl, s59, b19⟩; have B19 := bN hHeld.1 b19; have R59 := rS s59
    replace R50 := rB R50 b19; replace R57 := rB R57 b19; replace R58 := rB R58 b19
    have S59 := sM s59 hHeld.1.size
    clear b19 s59
    clear hHeld; refine hK.out _ _ (KP _ B19.out) (fun hHeld => ?_); clear hK K; try simp only [Act.put, pa, pz, ps]
    refine tkm 10 4 (v59) hHeld rfl ?_; try simp only [Act.put, pa, pz, ps]
    have R4 := R59; clear R59
    have S4 := S59; clear S59
    refine wpAnyH_done (by kernel_rfl) ?_ _
    go_wp2
    go_ret
    exact ⟨_, rfl, by rw [HE.out]; exact S4.out.mono (by omega), B0.out.trans (B19.out.mono (by omega))⟩
   ·go_simp; obtain ⟨w20, h20, b20, B20, R58⟩ := nB hHeld.1 [⟨#[41]⟩] #[.string ⟨#[41]⟩] rfl rfl; rw [<- h20]; clear h20
    replace R50 := rB R50 b20
    clear b20
    clear hHeld; refine hK.out _ _ (KP _ B20.out) (fun hHeld => ?_); clear hK K; try simp only [Act.put, pa, pz, ps]
    refine rdy [7] (arc 57 rfl (fun K hK => ?_) AllReadyH.nil)
    go_simp; go_at_call 36; refine (HR.out w20 q (by omega) hHeld.1).mono ?_; rintro e w21 ⟨v57, rfl, s57, b21⟩; have B21 := bN hHeld.1 b21; have R57 := rS s57
    replace R50 := rB R50 b21; replace R58 := rB R58 b21
    clear b21 s57
    clear hHeld; refine hK.out _ _ (KP _ B21.out) (fun hHeld => ?_); clear hK K; try simp only [Act.put, pa, pz, ps]
    refine rdy [9] (arc 59 rfl (fun K hK => ?_) AllReadyH.nil)
    go_simp; go_at_call 80; refine (za _ _ _ _ _ _ w21 R50.out.rd R57.out.rd R58.out.rd (by (try simp only [la, lc, ln]); omega) (by (try simp only [la, lc, ln]); omega) (by (try simp only [la, lc, ln]); omega)).mono ?_; rintro e w22 ⟨v59, rfl, s59, b22⟩; have B22 := bN hHeld.1 b22; have R59 := rS s59
    replace R50 := rB R50 b22; replace R57 := rB R57 b22; replace R58 := rB R58 b22
    have S59 := sM s59 hHeld.1.size
    clear b22 s59
    clear hHeld; refine hK.out _ _ (KP _ B22.out) (fun hHeld => ?_); clear hK K; try simp only [Act.put, pa, pz, ps]
    refine tkm 10 4 (v59) hHeld rfl ?_; try simp only [Act.put, pa, pz, ps]
    have R4 := R59; clear R59
    have S4 := S59; clear S59
    refine wpAnyH_done (by kernel_rfl) ?_ _
    go_wp2
    go_ret
    exact ⟨_, rfl, by rw [HE.out]; exact S4.out.mono (by omega), B0.out.trans (B22.out.mono (by omega))⟩
 ·go_simp; go_at_call 118; refine (HC.out w1 hHeld.1).mono ?_; rintro e w23 ⟨v47, rfl, s47, b23⟩; have B23 := bN hHeld.1 b23; have R47 := rS s47
  clear b23 s47
  clear hHeld; refine hK.out _ _ (KP _ B23.out) (fun hHeld => ?_); clear hK K; try simp only [Act.put, pa, pz, ps]
  refine rdy [0, 7] (arc 41 rfl (fun K hK => ?_) (arc 48 rfl (fun K hK => ?_) AllReadyH.nil))
  ·go_simp; obtain ⟨w24, h24, b24, B24, R41⟩ := nB hHeld.1 [⟨#[40]⟩, ⟨#[102, 110]⟩, ⟨#[40]⟩] #[.string ⟨#[40]⟩, .string ⟨#[102, 110]⟩, .string ⟨#[40]⟩] rfl rfl; rw [<- h24]; clear h24
   replace R47 := rB R47 b24
   clear b24
   clear hHeld; refine hK.out _ _ (KP _ B24.out) (fun hHeld => ?_); clear hK K; try simp only [Act.put, pa, pz, ps]
   refine rdy [7] (arc 48 rfl (fun K hK => ?_) AllReadyH.nil)
   go_simp; obtain ⟨w25, h25, b25, B25, R48⟩ := nB hHeld.1 [⟨#[41]⟩] #[.string ⟨#[41]⟩] rfl rfl; rw [<- h25]; clear h25
   replace R41 := rB R41 b25; replace R47 := rB R47 b25
   clear b25
   clear hHeld; refine hK.out _ _ (KP _ B25.out) (fun hHeld => ?_); clear hK K; try simp only [Act.put, pa, pz, ps]
   refine rdy [8] (arc 49 rfl (fun K hK => ?_) AllReadyH.nil)
   go_simp; go_at_call 80; refine (za _ _ _ _ _ _ w25 R41.out.rd R47.out.rd R48.out.rd (by (try simp only [la, lc, ln]); omega) (by (try simp only [la, lc, ln]); omega) (by (try simp only [la, lc, ln]); omega)).mono ?_; rintro e w26 ⟨v49, rfl, s49, b26⟩; have B26 := bN hHeld.1 b26; have R49 := rS s49
   replace R41 := rB R41 b26; replace R47 := rB R47 b26; replace R48 := rB R48 b26
   have S49 := sM s49 hHeld.1.size
   clear b26 s49
   clear hHeld; refine hK.out _ _ (KP _ B26.out) (fun hHeld => ?_); clear hK K; try simp only [Act.put, pa, pz, ps]
   refine tkm 9 6 (v49) hHeld rfl ?_; try simp only [Act.put, pa, pz, ps]
   have R6 := R49; clear R49
   have S6 := S49; clear S49
   refine wpAnyH_done (by kernel_rfl) ?_ _
   clear R41; clear R47; clear R48; clear S6
   obtain ⟨-, tc, kc, -⟩ := KP _ B26.out; have lz := B26.out.size; have lz1 : w.heap.size + 1 < w26.heap.size := by omega
   go_wp2_with fail
   clear tc kc lz lz1
   refine wp_region_held_drew (by kernel_rfl) (KP _ B26.out.drew) (fun hHeld => ?_); obtain ⟨w27, h27, b27⟩ := dR w26; rw [<- h27] at hHeld ⊢; clear h27
   replace R6 := rB R6 b27
   clear b27
   refine tkm 0 50 (v49) hHeld rfl ?_; try simp only [Act.put, pa, pz, ps]
   have R50 := R6; clear R6
   refine tkm 1 51 (.agg #[.slice a L c, .int .i64 top]) hHeld rfl ?_; try simp only [Act.put, pa, pz, ps]
   refine tkm 2 52 (.pointer (some ⟨w.heap.size + 1, 3, none⟩)) hHeld rfl ?_; try simp only [Act.put, pa, pz, ps]
   refine tkm 3 53 (.slice (some ⟨bk, ok, none⟩) (q + 1) ck) hHeld rfl ?_; try simp only [Act.put, pa, pz, ps]
   refine tkm 4 54 (.int .i64 (q : Int)) hHeld rfl ?_; try simp only [Act.put, pa, pz, ps]
   refine tkm 5 55 (.pointer (some ⟨bk, ok + q, none⟩)) hHeld rfl ?_; try simp only [Act.put, pa, pz, ps]
   refine tkm 6 56 (.int .i64 (y q)) hHeld rfl ?_; try simp only [Act.put, pa, pz, ps]
   refine rdy [7, 8] (arc 57 rfl (fun K hK => ?_) (arc 58 rfl (fun K hK => ?_) AllReadyH.nil))
   ·go_simp; go_at_call 36; refine (HR.out w27 q (by omega) hHeld.1).mono ?_; rintro e w28 ⟨v57, rfl, s57, b28⟩; have B28 := bN hHeld.1 b28; have R57 := rS s57
    replace R50 := rB R50 b28
    clear b28 s57
    clear hHeld; refine hK.out _ _ (KP _ B28.out) (fun hHeld => ?_); clear hK K; try simp only [Act.put, pa, pz, ps]
    refine rdy [8] (arc 58 rfl (fun K hK => ?_) AllReadyH.nil)
    go_simp; obtain ⟨w29, h29, b29, B29, R58⟩ := nB hHeld.1 [⟨#[41]⟩] #[.string ⟨#[41]⟩] rfl rfl; rw [<- h29]; clear h29
    replace R50 := rB R50 b29; replace R57 := rB R57 b29
    clear b29
    clear hHeld; refine hK.out _ _ (KP _ B29.out) (fun hHeld => ?_); clear hK K; try simp only [Act.put, pa, pz, ps]
    refine rdy [9] (arc 59 rfl (fun K hK => ?_) AllReadyH.nil)
    go_simp; go_at_call 80; refine (za _ _ _ _ _ _ w29 R50.out.rd R57.out.rd R58.out.rd (by (try simp only [la, lc, ln]); omega) (by (try simp only [la, lc, ln]); omega) (by (try simp only [la, lc, ln]); omega)).mono ?_; rintro e w30 ⟨v59, rfl, s59, b30⟩; have B30 := bN hHeld.1 b30; have R59 := rS s59
    replace R50 := rB R50 b30; replace R57 := rB R57 b30; replace R58 := rB R58 b30
    have S59 := sM s59 hHeld.1.size
    clear b30 s59
    clear hHeld; refine hK.out _ _ (KP _ B30.out) (fun hHeld => ?_); clear hK K; try simp only [Act.put, pa, pz, ps]
    refine tkm 10 4 (v59) hHeld rfl ?_; try simp only [Act.put, pa, pz, ps]
    have R4 := R59; clear R59
    have S4 := S59; clear S59
    refine wpAnyH_done (by kernel_rfl) ?_ _
    go_wp2
    go_ret
    exact ⟨_, rfl, by rw [HE.out]; exact S4.out.mono (by omega), B0.out.trans (B30.out.mono (by omega))⟩
   ·go_simp; obtain ⟨w31, h31, b31, B31, R58⟩ := nB hHeld.1 [⟨#[41]⟩] #[.string ⟨#[41]⟩] rfl rfl; rw [<- h31]; clear h31
    replace R50 := rB R50 b31
    clear b31
    clear hHeld; refine hK.out _ _ (KP _ B31.out) (fun hHeld => ?_); clear hK K; try simp only [Act.put, pa, pz, ps]
    refine rdy [7] (arc 57 rfl (fun K hK => ?_) AllReadyH.nil)
    go_simp; go_at_call 36; refine (HR.out w31 q (by omega) hHeld.1).mono ?_; rintro e w32 ⟨v57, rfl, s57, b32⟩; have B32 := bN hHeld.1 b32; have R57 := rS s57
    replace R50 := rB R50 b32; replace R58 := rB R58 b32
    clear b32 s57
    clear hHeld; refine hK.out _ _ (KP _ B32.out) (fun hHeld => ?_); clear hK K; try simp only [Act.put, pa, pz, ps]
    refine rdy [9] (arc 59 rfl (fun K hK => ?_) AllReadyH.nil)
    go_simp; go_at_call 80; refine (za _ _ _ _ _ _ w32 R50.out.rd R57.out.rd R58.out.rd (by (try simp only [la, lc, ln]); omega) (by (try simp only [la, lc, ln]); omega) (by (try simp only [la, lc, ln]); omega)).mono ?_; rintro e w33 ⟨v59, rfl, s59, b33⟩; have B33 := bN hHeld.1 b33; have R59 := rS s59
    replace R50 := rB R50 b33; replace R57 := rB R57 b33; replace R58 := rB R58 b33
    have S59 := sM s59 hHeld.1.size
    clear b33 s59
    clear hHeld; refine hK.out _ _ (KP _ B33.out) (fun hHeld => ?_); clear hK K; try simp only [Act.put, pa, pz, ps]
    refine tkm 10 4 (v59) hHeld rfl ?_; try simp only [Act.put, pa, pz, ps]
    have R4 := R59; clear R59
    have S4 := S59; clear S59
    refine wpAnyH_done (by kernel_rfl) ?_ _
    go_wp2
    go_ret
    exact ⟨_, rfl, by rw [HE.out]; exact S4.out.mono (by omega), B0.out.trans (B33.out.mono (by omega))⟩
  ·go_simp; obtain ⟨w34, h34, b34, B34, R48⟩ := nB hHeld.1 [⟨#[41]⟩] #[.string ⟨#[41]⟩] rfl rfl; rw [<- h34]; clear h34
   replace R47 := rB R47 b34
   clear b34
   clear hHeld; refine hK.out _ _ (KP _ B34.out) (fun hHeld => ?_); clear hK K; try simp only [Act.put, pa, pz, ps]
   refine rdy [0] (arc 41 rfl (fun K hK => ?_) AllReadyH.nil)
   go_simp; obtain ⟨w35, h35, b35, B35, R41⟩ := nB hHeld.1 [⟨#[40]⟩, ⟨#[102, 110]⟩, ⟨#[40]⟩] #[.string ⟨#[40]⟩, .string ⟨#[102, 110]⟩, .string ⟨#[40]⟩] rfl rfl; rw [<- h35]; clear h35
   replace R47 := rB R47 b35; replace R48 := rB R48 b35
   clear b35
   clear hHeld; refine hK.out _ _ (KP _ B35.out) (fun hHeld => ?_); clear hK K; try simp only [Act.put, pa, pz, ps]
   refine rdy [8] (arc 49 rfl (fun K hK => ?_) AllReadyH.nil)
   go_simp; go_at_call 80; refine (za _ _ _ _ _ _ w35 R41.out.rd R47.out.rd R48.out.rd (by (try simp only [la, lc, ln]); omega) (by (try simp only [la, lc, ln]); omega) (by (try simp only [la, lc, ln]); omega)).mono ?_; rintro e w36 ⟨v49, rfl, s49, b36⟩; have B36 := bN hHeld.1 b36; have R49 := rS s49
   replace R41 := rB R41 b36; replace R47 := rB R47 b36; replace R48 := rB R48 b36
   have S49 := sM s49 hHeld.1.size
   clear b36 s49
   clear hHeld; refine hK.out _ _ (KP _ B36.out) (fun hHeld => ?_); clear hK K; try simp only [Act.put, pa, pz, ps]
   refine tkm 9 6 (v49) hHeld rfl ?_; try simp only [Act.put, pa, pz, ps]
   have R6 := R49; clear R49
   have S6 := S49; clear S49
   refine wpAnyH_done (by kernel_rfl) ?_ _
   clear R41; clear R47; clear R48; clear S6
   obtain ⟨-, tc, kc, -⟩ := KP _ B36.out; have lz := B36.out.size; have lz1 : w.heap.size + 1 < w36.heap.size := by omega
   go_wp2_with fail
   clear tc kc lz lz1
   refine wp_region_held_drew (by kernel_rfl) (KP _ B36.out.drew) (fun hHeld => ?_); obtain ⟨w37, h37, b37⟩ := dR w36; rw [<- h37] at hHeld ⊢; clear h37
   replace R6 := rB R6 b37
   clear b37
   refine tkm 0 50 (v49) hHeld rfl ?_; try simp only [Act.put, pa, pz, ps]
   have R50 := R6; clear R6
   refine tkm 1 51 (.agg #[.slice a L c, .int .i64 top]) hHeld rfl ?_; try simp only [Act.put, pa, pz, ps]
   refine tkm 2 52 (.pointer (some ⟨w.heap.size + 1, 3, none⟩)) hHeld rfl ?_; try simp only [Act.put, pa, pz, ps]
   refine tkm 3 53 (.slice (some ⟨bk, ok, none⟩) (q + 1) ck) hHeld rfl ?_; try simp only [Act.put, pa, pz, ps]
   refine tkm 4 54 (.int .i64 (q : Int)) hHeld rfl ?_; try simp only [Act.put, pa, pz, ps]
   refine tkm 5 55 (.pointer (some ⟨bk, ok + q, none⟩)) hHeld rfl ?_; try simp only [Act.put, pa, pz, ps]
   refine tkm 6 56 (.int .i64 (y q)) hHeld rfl ?_; try simp only [Act.put, pa, pz, ps]
   refine rdy [7, 8] (arc 57 rfl (fun K hK => ?_) (arc 58 rfl (fun K hK => ?_) AllReadyH.nil))
   ·go_simp; go_at_call 36; refine (HR.out w37 q (by omega) hHeld.1).mono ?_; rintro e w38 ⟨v57, rfl, s57, b38⟩; have B38 := bN hHeld.1 b38; have R57 := rS s57
    replace R50 := rB R50 b38
    clear b38 s57
    clear hHeld; refine hK.out _ _ (KP _ B38.out) (fun hHeld => ?_); clear hK K; try simp only [Act.put, pa, pz, ps]
    refine rdy [8] (arc 58 rfl (fun K hK => ?_) AllReadyH.nil)
    go_simp; obtain ⟨w39, h39, b39, B39, R58⟩ := nB hHeld.1 [⟨#[41]⟩] #[.string ⟨#[41]⟩] rfl rfl; rw [<- h39]; clear h39
    replace R50 := rB R50 b39; replace R57 := rB R57 b39
    clear b39
    clear hHeld; refine hK.out _ _ (KP _ B39.out) (fun hHeld => ?_); clear hK K; try simp only [Act.put, pa, pz, ps]
    refine rdy [9] (arc 59 rfl (fun K hK => ?_) AllReadyH.nil)
    go_simp; go_at_call 80; refine (za _ _ _ _ _ _ w39 R50.out.rd R57.out.rd R58.out.rd (by (try simp only [la, lc, ln]); omega) (by (try simp only [la, lc, ln]); omega) (by (try simp only [la, lc, ln]); omega)).mono ?_; rintro e w40 ⟨v59, rfl, s59, b40⟩; have B40 := bN hHeld.1 b40; have R59 := rS s59
    replace R50 := rB R50 b40; replace R57 := rB R57 b40; replace R58 := rB R58 b40
    have S59 := sM s59 hHeld.1.size
    clear b40 s59
    clear hHeld; refine hK.out _ _ (KP _ B40.out) (fun hHeld => ?_); clear hK K; try simp only [Act.put, pa, pz, ps]
    refine tkm 10 4 (v59) hHeld rfl ?_; try simp only [Act.put, pa, pz, ps]
    have R4 := R59; clear R59
    have S4 := S59; clear S59
    refine wpAnyH_done (by kernel_rfl) ?_ _
    go_wp2
    go_ret
    exact ⟨_, rfl, by rw [HE.out]; exact S4.out.mono (by omega), B0.out.trans (B40.out.mono (by omega))⟩
   ·go_simp; obtain ⟨w41, h41, b41, B41, R58⟩ := nB hHeld.1 [⟨#[41]⟩] #[.string ⟨#[41]⟩] rfl rfl; rw [<- h41]; clear h41
    replace R50 := rB R50 b41
    clear b41
    clear hHeld; refine hK.out _ _ (KP _ B41.out) (fun hHeld => ?_); clear hK K; try simp only [Act.put, pa, pz, ps]
    refine rdy [7] (arc 57 rfl (fun K hK => ?_) AllReadyH.nil)
    go_simp; go_at_call 36; refine (HR.out w41 q (by omega) hHeld.1).mono ?_; rintro e w42 ⟨v57, rfl, s57, b42⟩; have B42 := bN hHeld.1 b42; have R57 := rS s57
    replace R50 := rB R50 b42; replace R58 := rB R58 b42
    clear b42 s57
    clear hHeld; refine hK.out _ _ (KP _ B42.out) (fun hHeld => ?_); clear hK K; try simp only [Act.put, pa, pz, ps]
    refine rdy [9] (arc 59 rfl (fun K hK => ?_) AllReadyH.nil)
    go_simp; go_at_call 80; refine (za _ _ _ _ _ _ w42 R50.out.rd R57.out.rd R58.out.rd (by (try simp only [la, lc, ln]); omega) (by (try simp only [la, lc, ln]); omega) (by (try simp only [la, lc, ln]); omega)).mono ?_; rintro e w43 ⟨v59, rfl, s59, b43⟩; have B43 := bN hHeld.1 b43; have R59 := rS s59
    replace R50 := rB R50 b43; replace R57 := rB R57 b43; replace R58 := rB R58 b43
    have S59 := sM s59 hHeld.1.size
    clear b43 s59
    clear hHeld; refine hK.out _ _ (KP _ B43.out) (fun hHeld => ?_); clear hK K; try simp only [Act.put, pa, pz, ps]
    refine tkm 10 4 (v59) hHeld rfl ?_; try simp only [Act.put, pa, pz, ps]
    have R4 := R59; clear R59
    have S4 := S59; clear S59
    refine wpAnyH_done (by kernel_rfl) ?_ _
    go_wp2
    go_ret
    exact ⟨_, rfl, by rw [HE.out]; exact S4.out.mono (by omega), B0.out.trans (B43.out.mono (by omega))⟩
 ·go_simp; obtain ⟨w44, h44, b44, B44, R48⟩ := nB hHeld.1 [⟨#[41]⟩] #[.string ⟨#[41]⟩] rfl rfl; rw [<- h44]; clear h44
  clear b44
  clear hHeld; refine hK.out _ _ (KP _ B44.out) (fun hHeld => ?_); clear hK K; try simp only [Act.put, pa, pz, ps]
  refine rdy [0, 6] (arc 41 rfl (fun K hK => ?_) (arc 47 rfl (fun K hK => ?_) AllReadyH.nil))
  ·go_simp; obtain ⟨w45, h45, b45, B45, R41⟩ := nB hHeld.1 [⟨#[40]⟩, ⟨#[102, 110]⟩, ⟨#[40]⟩] #[.string ⟨#[40]⟩, .string ⟨#[102, 110]⟩, .string ⟨#[40]⟩] rfl rfl; rw [<- h45]; clear h45
   replace R48 := rB R48 b45
   clear b45
   clear hHeld; refine hK.out _ _ (KP _ B45.out) (fun hHeld => ?_); clear hK K; try simp only [Act.put, pa, pz, ps]
   refine rdy [6] (arc 47 rfl (fun K hK => ?_) AllReadyH.nil)
   go_simp; go_at_call 118; refine (HC.out w45 hHeld.1).mono ?_; rintro e w46 ⟨v47, rfl, s47, b46⟩; have B46 := bN hHeld.1 b46; have R47 := rS s47
   replace R41 := rB R41 b46; replace R48 := rB R48 b46
   clear b46 s47
   clear hHeld; refine hK.out _ _ (KP _ B46.out) (fun hHeld => ?_); clear hK K; try simp only [Act.put, pa, pz, ps]
   refine rdy [8] (arc 49 rfl (fun K hK => ?_) AllReadyH.nil)
   go_simp; go_at_call 80; refine (za _ _ _ _ _ _ w46 R41.out.rd R47.out.rd R48.out.rd (by (try simp only [la, lc, ln]); omega) (by (try simp only [la, lc, ln]); omega) (by (try simp only [la, lc, ln]); omega)).mono ?_; rintro e w47 ⟨v49, rfl, s49, b47⟩; have B47 := bN hHeld.1 b47; have R49 := rS s49
   replace R41 := rB R41 b47; replace R47 := rB R47 b47; replace R48 := rB R48 b47
   have S49 := sM s49 hHeld.1.size
   clear b47 s49
   clear hHeld; refine hK.out _ _ (KP _ B47.out) (fun hHeld => ?_); clear hK K; try simp only [Act.put, pa, pz, ps]
   refine tkm 9 6 (v49) hHeld rfl ?_; try simp only [Act.put, pa, pz, ps]
   have R6 := R49; clear R49
   have S6 := S49; clear S49
   refine wpAnyH_done (by kernel_rfl) ?_ _
   clear R41; clear R47; clear R48; clear S6
   obtain ⟨-, tc, kc, -⟩ := KP _ B47.out; have lz := B47.out.size; have lz1 : w.heap.size + 1 < w47.heap.size := by omega
   go_wp2_with fail
   clear tc kc lz lz1
   refine wp_region_held_drew (by kernel_rfl) (KP _ B47.out.drew) (fun hHeld => ?_); obtain ⟨w48, h48, b48⟩ := dR w47; rw [<- h48] at hHeld ⊢; clear h48
   replace R6 := rB R6 b48
   clear b48
   refine tkm 0 50 (v49) hHeld rfl ?_; try simp only [Act.put, pa, pz, ps]
   have R50 := R6; clear R6
   refine tkm 1 51 (.agg #[.slice a L c, .int .i64 top]) hHeld rfl ?_; try simp only [Act.put, pa, pz, ps]
   refine tkm 2 52 (.pointer (some ⟨w.heap.size + 1, 3, none⟩)) hHeld rfl ?_; try simp only [Act.put, pa, pz, ps]
   refine tkm 3 53 (.slice (some ⟨bk, ok, none⟩) (q + 1) ck) hHeld rfl ?_; try simp only [Act.put, pa, pz, ps]
   refine tkm 4 54 (.int .i64 (q : Int)) hHeld rfl ?_; try simp only [Act.put, pa, pz, ps]
   refine tkm 5 55 (.pointer (some ⟨bk, ok + q, none⟩)) hHeld rfl ?_; try simp only [Act.put, pa, pz, ps]
   refine tkm 6 56 (.int .i64 (y q)) hHeld rfl ?_; try simp only [Act.put, pa, pz, ps]
   refine rdy [7, 8] (arc 57 rfl (fun K hK => ?_) (arc 58 rfl (fun K hK => ?_) AllReadyH.nil))
   ·go_simp; go_at_call 36; refine (HR.out w48 q (by omega) hHeld.1).mono ?_; rintro e w49 ⟨v57, rfl, s57, b49⟩; have B49 := bN hHeld.1 b49; have R57 := rS s57
    replace R50 := rB R50 b49
    clear b49 s57
    clear hHeld; refine hK.out _ _ (KP _ B49.out) (fun hHeld => ?_); clear hK K; try simp only [Act.put, pa, pz, ps]
    refine rdy [8] (arc 58 rfl (fun K hK => ?_) AllReadyH.nil)
    go_simp; obtain ⟨w50, h50, b50, B50, R58⟩ := nB hHeld.1 [⟨#[41]⟩] #[.string ⟨#[41]⟩] rfl rfl; rw [<- h50]; clear h50
    replace R50 := rB R50 b50; replace R57 := rB R57 b50
    clear b50
    clear hHeld; refine hK.out _ _ (KP _ B50.out) (fun hHeld => ?_); clear hK K; try simp only [Act.put, pa, pz, ps]
    refine rdy [9] (arc 59 rfl (fun K hK => ?_) AllReadyH.nil)
    go_simp; go_at_call 80; refine (za _ _ _ _ _ _ w50 R50.out.rd R57.out.rd R58.out.rd (by (try simp only [la, lc, ln]); omega) (by (try simp only [la, lc, ln]); omega) (by (try simp only [la, lc, ln]); omega)).mono ?_; rintro e w51 ⟨v59, rfl, s59, b51⟩; have B51 := bN hHeld.1 b51; have R59 := rS s59
    replace R50 := rB R50 b51; replace R57 := rB R57 b51; replace R58 := rB R58 b51
    have S59 := sM s59 hHeld.1.size
    clear b51 s59
    clear hHeld; refine hK.out _ _ (KP _ B51.out) (fun hHeld => ?_); clear hK K; try simp only [Act.put, pa, pz, ps]
    refine tkm 10 4 (v59) hHeld rfl ?_; try simp only [Act.put, pa, pz, ps]
    have R4 := R59; clear R59
    have S4 := S59; clear S59
    refine wpAnyH_done (by kernel_rfl) ?_ _
    go_wp2
    go_ret
    exact ⟨_, rfl, by rw [HE.out]; exact S4.out.mono (by omega), B0.out.trans (B51.out.mono (by omega))⟩
   ·go_simp; obtain ⟨w52, h52, b52, B52, R58⟩ := nB hHeld.1 [⟨#[41]⟩] #[.string ⟨#[41]⟩] rfl rfl; rw [<- h52]; clear h52
    replace R50 := rB R50 b52
    clear b52
    clear hHeld; refine hK.out _ _ (KP _ B52.out) (fun hHeld => ?_); clear hK K; try simp only [Act.put, pa, pz, ps]
    refine rdy [7] (arc 57 rfl (fun K hK => ?_) AllReadyH.nil)
    go_simp; go_at_call 36; refine (HR.out w52 q (by omega) hHeld.1).mono ?_; rintro e w53 ⟨v57, rfl, s57, b53⟩; have B53 := bN hHeld.1 b53; have R57 := rS s57
    replace R50 := rB R50 b53; replace R58 := rB R58 b53
    clear b53 s57
    clear hHeld; refine hK.out _ _ (KP _ B53.out) (fun hHeld => ?_); clear hK K; try simp only [Act.put, pa, pz, ps]
    refine rdy [9] (arc 59 rfl (fun K hK => ?_) AllReadyH.nil)
    go_simp; go_at_call 80; refine (za _ _ _ _ _ _ w53 R50.out.rd R57.out.rd R58.out.rd (by (try simp only [la, lc, ln]); omega) (by (try simp only [la, lc, ln]); omega) (by (try simp only [la, lc, ln]); omega)).mono ?_; rintro e w54 ⟨v59, rfl, s59, b54⟩; have B54 := bN hHeld.1 b54; have R59 := rS s59
    replace R50 := rB R50 b54; replace R57 := rB R57 b54; replace R58 := rB R58 b54
    have S59 := sM s59 hHeld.1.size
    clear b54 s59
    clear hHeld; refine hK.out _ _ (KP _ B54.out) (fun hHeld => ?_); clear hK K; try simp only [Act.put, pa, pz, ps]
    refine tkm 10 4 (v59) hHeld rfl ?_; try simp only [Act.put, pa, pz, ps]
    have R4 := R59; clear R59
    have S4 := S59; clear S59
    refine wpAnyH_done (by kernel_rfl) ?_ _
    go_wp2
    go_ret
    exact ⟨_, rfl, by rw [HE.out]; exact S4.out.mono (by omega), B0.out.trans (B54.out.mono (by omega))⟩
  ·go_simp; go_at_call 118; refine (HC.out w44 hHeld.1).mono ?_; rintro e w55 ⟨v47, rfl, s47, b55⟩; have B55 := bN hHeld.1 b55; have R47 := rS s47
   replace R48 := rB R48 b55
   clear b55 s47
   clear hHeld; refine hK.out _ _ (KP _ B55.out) (fun hHeld => ?_); clear hK K; try simp only [Act.put, pa, pz, ps]
   refine rdy [0] (arc 41 rfl (fun K hK => ?_) AllReadyH.nil)
   go_simp; obtain ⟨w56, h56, b56, B56, R41⟩ := nB hHeld.1 [⟨#[40]⟩, ⟨#[102, 110]⟩, ⟨#[40]⟩] #[.string ⟨#[40]⟩, .string ⟨#[102, 110]⟩, .string ⟨#[40]⟩] rfl rfl; rw [<- h56]; clear h56
   replace R47 := rB R47 b56; replace R48 := rB R48 b56
   clear b56
   clear hHeld; refine hK.out _ _ (KP _ B56.out) (fun hHeld => ?_); clear hK K; try simp only [Act.put, pa, pz, ps]
   refine rdy [8] (arc 49 rfl (fun K hK => ?_) AllReadyH.nil)
   go_simp; go_at_call 80; refine (za _ _ _ _ _ _ w56 R41.out.rd R47.out.rd R48.out.rd (by (try simp only [la, lc, ln]); omega) (by (try simp only [la, lc, ln]); omega) (by (try simp only [la, lc, ln]); omega)).mono ?_; rintro e w57 ⟨v49, rfl, s49, b57⟩; have B57 := bN hHeld.1 b57; have R49 := rS s49
   replace R41 := rB R41 b57; replace R47 := rB R47 b57; replace R48 := rB R48 b57
   have S49 := sM s49 hHeld.1.size
   clear b57 s49
   clear hHeld; refine hK.out _ _ (KP _ B57.out) (fun hHeld => ?_); clear hK K; try simp only [Act.put, pa, pz, ps]
   refine tkm 9 6 (v49) hHeld rfl ?_; try simp only [Act.put, pa, pz, ps]
   have R6 := R49; clear R49
   have S6 := S49; clear S49
   refine wpAnyH_done (by kernel_rfl) ?_ _
   clear R41; clear R47; clear R48; clear S6
   obtain ⟨-, tc, kc, -⟩ := KP _ B57.out; have lz := B57.out.size; have lz1 : w.heap.size + 1 < w57.heap.size := by omega
   go_wp2_with fail
   clear tc kc lz lz1
   refine wp_region_held_drew (by kernel_rfl) (KP _ B57.out.drew) (fun hHeld => ?_); obtain ⟨w58, h58, b58⟩ := dR w57; rw [<- h58] at hHeld ⊢; clear h58
   replace R6 := rB R6 b58
   clear b58
   refine tkm 0 50 (v49) hHeld rfl ?_; try simp only [Act.put, pa, pz, ps]
   have R50 := R6; clear R6
   refine tkm 1 51 (.agg #[.slice a L c, .int .i64 top]) hHeld rfl ?_; try simp only [Act.put, pa, pz, ps]
   refine tkm 2 52 (.pointer (some ⟨w.heap.size + 1, 3, none⟩)) hHeld rfl ?_; try simp only [Act.put, pa, pz, ps]
   refine tkm 3 53 (.slice (some ⟨bk, ok, none⟩) (q + 1) ck) hHeld rfl ?_; try simp only [Act.put, pa, pz, ps]
   refine tkm 4 54 (.int .i64 (q : Int)) hHeld rfl ?_; try simp only [Act.put, pa, pz, ps]
   refine tkm 5 55 (.pointer (some ⟨bk, ok + q, none⟩)) hHeld rfl ?_; try simp only [Act.put, pa, pz, ps]
   refine tkm 6 56 (.int .i64 (y q)) hHeld rfl ?_; try simp only [Act.put, pa, pz, ps]
   refine rdy [7, 8] (arc 57 rfl (fun K hK => ?_) (arc 58 rfl (fun K hK => ?_) AllReadyH.nil))
   ·go_simp; go_at_call 36; refine (HR.out w58 q (by omega) hHeld.1).mono ?_; rintro e w59 ⟨v57, rfl, s57, b59⟩; have B59 := bN hHeld.1 b59; have R57 := rS s57
    replace R50 := rB R50 b59
    clear b59 s57
    clear hHeld; refine hK.out _ _ (KP _ B59.out) (fun hHeld => ?_); clear hK K; try simp only [Act.put, pa, pz, ps]
    refine rdy [8] (arc 58 rfl (fun K hK => ?_) AllReadyH.nil)
    go_simp; obtain ⟨w60, h60, b60, B60, R58⟩ := nB hHeld.1 [⟨#[41]⟩] #[.string ⟨#[41]⟩] rfl rfl; rw [<- h60]; clear h60
    replace R50 := rB R50 b60; replace R57 := rB R57 b60
    clear b60
    clear hHeld; refine hK.out _ _ (KP _ B60.out) (fun hHeld => ?_); clear hK K; try simp only [Act.put, pa, pz, ps]
    refine rdy [9] (arc 59 rfl (fun K hK => ?_) AllReadyH.nil)
    go_simp; go_at_call 80; refine (za _ _ _ _ _ _ w60 R50.out.rd R57.out.rd R58.out.rd (by (try simp only [la, lc, ln]); omega) (by (try simp only [la, lc, ln]); omega) (by (try simp only [la, lc, ln]); omega)).mono ?_; rintro e w61 ⟨v59, rfl, s59, b61⟩; have B61 := bN hHeld.1 b61; have R59 := rS s59
    replace R50 := rB R50 b61; replace R57 := rB R57 b61; replace R58 := rB R58 b61
    have S59 := sM s59 hHeld.1.size
    clear b61 s59
    clear hHeld; refine hK.out _ _ (KP _ B61.out) (fun hHeld => ?_); clear hK K; try simp only [Act.put, pa, pz, ps]
    refine tkm 10 4 (v59) hHeld rfl ?_; try simp only [Act.put, pa, pz, ps]
    have R4 := R59; clear R59
    have S4 := S59; clear S59
    refine wpAnyH_done (by kernel_rfl) ?_ _
    go_wp2
    go_ret
    exact ⟨_, rfl, by rw [HE.out]; exact S4.out.mono (by omega), B0.out.trans (B61.out.mono (by omega))⟩
   ·go_simp; obtain ⟨w62, h62, b62, B62, R58⟩ := nB hHeld.1 [⟨#[41]⟩] #[.string ⟨#[41]⟩] rfl rfl; rw [<- h62]; clear h62
    replace R50 := rB R50 b62
    clear b62
    clear hHeld; refine hK.out _ _ (KP _ B62.out) (fun hHeld => ?_); clear hK K; try simp only [Act.put, pa, pz, ps]
    refine rdy [7] (arc 57 rfl (fun K hK => ?_) AllReadyH.nil)
    go_simp; go_at_call 36; refine (HR.out w62 q (by omega) hHeld.1).mono ?_; rintro e w63 ⟨v57, rfl, s57, b63⟩; have B63 := bN hHeld.1 b63; have R57 := rS s57
    replace R50 := rB R50 b63; replace R58 := rB R58 b63
    clear b63 s57
    clear hHeld; refine hK.out _ _ (KP _ B63.out) (fun hHeld => ?_); clear hK K; try simp only [Act.put, pa, pz, ps]
    refine rdy [9] (arc 59 rfl (fun K hK => ?_) AllReadyH.nil)
    go_simp; go_at_call 80; refine (za _ _ _ _ _ _ w63 R50.out.rd R57.out.rd R58.out.rd (by (try simp only [la, lc, ln]); omega) (by (try simp only [la, lc, ln]); omega) (by (try simp only [la, lc, ln]); omega)).mono ?_; rintro e w64 ⟨v59, rfl, s59, b64⟩; have B64 := bN hHeld.1 b64; have R59 := rS s59
    replace R50 := rB R50 b64; replace R57 := rB R57 b64; replace R58 := rB R58 b64
    have S59 := sM s59 hHeld.1.size
    clear b64 s59
    clear hHeld; refine hK.out _ _ (KP _ B64.out) (fun hHeld => ?_); clear hK K; try simp only [Act.put, pa, pz, ps]
    refine tkm 10 4 (v59) hHeld rfl ?_; try simp only [Act.put, pa, pz, ps]
    have R4 := R59; clear R59
    have S4 := S59; clear S59
    refine wpAnyH_done (by kernel_rfl) ?_ _
    go_wp2
    go_ret
    exact ⟨_, rfl, by rw [HE.out]; exact S4.out.mono (by omega), B0.out.trans (B64.out.mono (by omega))⟩
end Go.Proofs.YtiglkhkfbgjjoaaDoor
