/- - -/
import Derived.Test.YtiglkhkfbgjjoaaDoorQMtA
namespace Go.Proofs.YtiglkhkfbgjjoaaDoor
set_option maxRecDepth 20000
open Go.RowKit Go.PlainAid Go.Maps
set_option linter.unusedSimpArgs false
set_option linter.unusedVariables false
set_option maxHeartbeats 4000000 in
theorem zkt (a : Option Addr) (L c : Nat) (top : Int) (t : ByteArray) (m : Nat) (ak : Option Addr) (ck : Nat) (y : Nat -> Int) (rec : Int -> List ByteArray) (T : Nat) (w : World) (hm : m <= 3) (hk : SlF T w (.slice ak (1) ck) (1) (1) (fun i => .int .i64 (y i))) (hT : T <= w.heap.size) (hc1 : 1 <= ck) (hc2 : ck <= 1048576) (hs : smN rec y (1) <= 100000)
 (hr : ∀ (V : World) (m : Nat), m < 1 -> Below w.heap.size w V -> Calls Tryd.prog 36 #[.agg #[.slice a L c, .int .i64 top], .int .i64 (y m)] V (zc V (rec (y m)))) :
 Calls Tryd.prog 78 #[.agg #[.slice a L c, .int .i64 top], .agg #[.int .i64 11, .string t, .int .i64 (m : Int), .slice ak (1) ck]] w (zc w (bod rec ⟨11, t, (m : Int), 1, y⟩)) := by
 obtain ⟨bk, ok, ck2, hv, tk1, lk, hkk⟩ := hk.parts (k := 0) (by omega)
 simp only [Value.slice.injEq] at hv
 obtain ⟨rfl, _, rfl⟩ := hv
 have yc0 := hkk 0 (by omega)
 rw [Nat.add_zero] at yc0
 have n0 : (rec (y 0)).length <= 100000 := Nat.le_trans (smA rec y (by omega : 0 < 1)) hs
 have hm1 : (m : Int) < 4 := by omega
 have hm2 : (m : Int) <= 3 := by omega
 obtain ⟨ob, hob⟩ : ∃ s, tnL.getD m ⟨#[]⟩ = s := ⟨_, rfl⟩
 have HOB := hI hob
 clear hob
 have HE : Hid (bod rec ⟨11, t, (m : Int), 1, y⟩ = [⟨#[40]⟩, ob] ++ rec (y 0) ++ [⟨#[41]⟩]) := by show bod _ _ = _; rw [<- HOB.out]; simp [bod, opB]
 obtain ⟨W0, hW0⟩ : ∃ V, V = (w.alloc (.cells #[.slice a L c, .int .i64 top] 41)).alloc (.cells #[.int .i64 11, .string t, .int .i64 (m : Int), .slice (some ⟨bk, ok, none⟩) 1 ck] 71) := ⟨_, rfl⟩
 have z0 : W0.heap.size = w.heap.size + 2 := by rw [hW0]; simp
 have B0 : Hid (Below w.heap.size w W0) := by rw [hW0]; exact ((Below.refl _ _).alloc (Nat.le_refl _) _).alloc (by simp) _
 have T0 : ∀ z, W0.cell? ⟨w.heap.size, z, none⟩ = (#[.slice a L c, .int .i64 top] : Array Value)[z]? := fun z => by rw [hW0]; simp [go_sem]
 have K0 : ∀ z, W0.cell? ⟨w.heap.size + 1, z, none⟩ = (#[.int .i64 11, .string t, .int .i64 (m : Int), .slice (some ⟨bk, ok, none⟩) 1 ck] : Array Value)[z]? := fun z => by rw [hW0]; simp [go_sem]
 have HR : Hid (∀ (V : World) (m : Nat), m < 1 -> Below W0.heap.size W0 V -> Calls Tryd.prog 36 #[.agg #[.slice a L c, .int .i64 top], .int .i64 (y m)] V (zc V (rec (y m)))) := fun V m hm hV => hr V m hm (B0.out.trans (hV.mono (by omega)))
 have BK : Hid (∀ V, Below W0.heap.size W0 V -> Below w.heap.size w V) := fun V hV => B0.out.trans (hV.mono (by omega))
 have KP : ∀ V, Below W0.heap.size W0 V -> (SQ1 W0 w.heap.size #[.slice a L c, .int .i64 top] #[.int .i64 11, .string t, .int .i64 (m : Int), .slice (some ⟨bk, ok, none⟩) 1 ck] bk (ok) (y 0)) V := fun V hV => ⟨hV, fun z => (hV.cell (p := ⟨w.heap.size, z, none⟩) (by dsimp only; omega)).trans (T0 z), fun z => (hV.cell (p := ⟨w.heap.size + 1, z, none⟩) (by dsimp only; omega)).trans (K0 z), ((BK.out V hV).cell (p := ⟨bk, ok, none⟩) (by dsimp only; omega)).trans yc0⟩
 have KP' : Hid (∀ V, Below W0.heap.size W0 V -> (SQ1 W0 w.heap.size #[.slice a L c, .int .i64 top] #[.int .i64 11, .string t, .int .i64 (m : Int), .slice (some ⟨bk, ok, none⟩) 1 ck] bk (ok) (y 0)) V) := KP
 clear hk hr hs hkk KP T0 K0 yc0
 have BW : Hid (Below W0.heap.size W0 W0) := Below.refl _ _
 go_enter Tryd.func78, Tryd.ntmps78
 go_wp2_with fail
 rw [<- hW0]
 clear hW0
 have KP := KP'.out
 clear KP'
 refine wp_region_held_drew (by kernel_rfl) (KP _ BW.out.drew) (fun hHeld => ?_); obtain ⟨w1, h1, b1⟩ := dR W0; rw [<- h1] at hHeld ⊢; clear h1
 clear b1
 refine tkm 1 141 (.pointer (some ⟨w.heap.size + 1, 2, none⟩)) hHeld rfl ?_; try simp only [Act.put, pa, pz, ps]
 refine tkm 2 142 (.int .i64 (m : Int)) hHeld rfl ?_; try simp only [Act.put, pa, pz, ps]
 refine tkm 6 146 (.agg #[.slice a L c, .int .i64 top]) hHeld rfl ?_; try simp only [Act.put, pa, pz, ps]
 refine tkm 7 147 (.pointer (some ⟨w.heap.size + 1, 3, none⟩)) hHeld rfl ?_; try simp only [Act.put, pa, pz, ps]
 refine tkm 8 148 (.slice (some ⟨bk, ok, none⟩) 1 ck) hHeld rfl ?_; try simp only [Act.put, pa, pz, ps]
 refine tkm 9 149 (.pointer (some ⟨bk, ok, none⟩)) hHeld rfl ?_; try simp only [Act.put, pa, pz, ps]
 refine tkm 10 150 (.int .i64 (y 0)) hHeld rfl ?_; try simp only [Act.put, pa, pz, ps]
 refine rdy [0, 11, 12] (arc 140 rfl (fun K hK => ?_) (arc 151 rfl (fun K hK => ?_) (arc 152 rfl (fun K hK => ?_) AllReadyH.nil)))
 ·go_simp; obtain ⟨w2, h2, b2, B2, R140⟩ := nB hHeld.1 [⟨#[]⟩, ⟨#[45]⟩, ⟨#[110, 111, 116]⟩, ⟨#[35]⟩] #[.string ⟨#[]⟩, .string ⟨#[45]⟩, .string ⟨#[110, 111, 116]⟩, .string ⟨#[35]⟩] rfl rfl; rw [<- h2]; clear h2
  clear b2
  clear hHeld; refine hK.out _ _ (KP _ B2.out) (fun hHeld => ?_); clear hK K; try simp only [Act.put, pa, pz, ps]
  refine tkm 3 143 (.pointer (some ⟨w1.heap.size, m, none⟩)) hHeld rfl ?_; try simp only [Act.put, pa, pz, ps]
  refine rdy [4, 11, 12] (arc 144 rfl (fun K hK => ?_) (arc 151 rfl (fun K hK => ?_) (arc 152 rfl (fun K hK => ?_) AllReadyH.nil)))
  ·have hcell := (show w2.cell? ⟨w1.heap.size, m, none⟩ = some (.string ob) from HOB.out ▸ R140.out.at_ rfl (by show m < 4; omega)); go_simp; clear hcell; have B3 := hI hHeld.1
   clear hHeld; refine hK.out _ _ (KP _ B3.out) (fun hHeld => ?_); clear hK K; try simp only [Act.put, pa, pz, ps]
   refine rdy [5, 11, 12] (arc 145 rfl (fun K hK => ?_) (arc 151 rfl (fun K hK => ?_) (arc 152 rfl (fun K hK => ?_) AllReadyH.nil)))
   ·go_simp; obtain ⟨w4, h4, b4, B4, R145⟩ := nB hHeld.1 [⟨#[40]⟩, ob] #[.string ⟨#[40]⟩, .string ob] rfl rfl; rw [<- h4]; clear h4
    replace R140 := rB R140 b4
    clear b4
    clear hHeld; refine hK.out _ _ (KP _ B4.out) (fun hHeld => ?_); clear hK K; try simp only [Act.put, pa, pz, ps]
    refine rdy [11, 12] (arc 151 rfl (fun K hK => ?_) (arc 152 rfl (fun K hK => ?_) AllReadyH.nil))
    ·go_simp; go_at_call 36; refine (HR.out w4 0 (by omega) hHeld.1).mono ?_; rintro e w5 ⟨v151, rfl, s151, b5⟩; have B5 := bN hHeld.1 b5; have R151 := rS s151
     replace R140 := rB R140 b5; replace R145 := rB R145 b5
     clear b5 s151
     clear hHeld; refine hK.out _ _ (KP _ B5.out) (fun hHeld => ?_); clear hK K; try simp only [Act.put, pa, pz, ps]
     refine rdy [12] (arc 152 rfl (fun K hK => ?_) AllReadyH.nil)
     go_simp; obtain ⟨w6, h6, b6, B6, R152⟩ := nB hHeld.1 [⟨#[41]⟩] #[.string ⟨#[41]⟩] rfl rfl; rw [<- h6]; clear h6
     replace R140 := rB R140 b6; replace R145 := rB R145 b6; replace R151 := rB R151 b6
     clear b6
     clear hHeld; refine hK.out _ _ (KP _ B6.out) (fun hHeld => ?_); clear hK K; try simp only [Act.put, pa, pz, ps]
     refine rdy [13] (arc 153 rfl (fun K hK => ?_) AllReadyH.nil)
     go_simp; go_at_call 80; refine (za _ _ _ _ _ _ w6 R145.out.rd R151.out.rd R152.out.rd (by (try simp only [la, lc, ln]); omega) (by (try simp only [la, lc, ln]); omega) (by (try simp only [la, lc, ln]); omega)).mono ?_; rintro e w7 ⟨v153, rfl, s153, b7⟩; have B7 := bN hHeld.1 b7; have R153 := rS s153
     replace R140 := rB R140 b7; replace R145 := rB R145 b7; replace R151 := rB R151 b7; replace R152 := rB R152 b7
     have S153 := sM s153 hHeld.1.size
     clear b7 s153
     clear hHeld; refine hK.out _ _ (KP _ B7.out) (fun hHeld => ?_); clear hK K; try simp only [Act.put, pa, pz, ps]
     refine tkm 14 4 (v153) hHeld rfl ?_; try simp only [Act.put, pa, pz, ps]
     have R4 := R153; clear R153
     have S4 := S153; clear S153
     refine wpAnyH_done (by kernel_rfl) ?_ _
     go_wp2
     go_ret
     exact ⟨_, rfl, by rw [HE.out]; exact S4.out.mono (by omega), B0.out.trans (B7.out.mono (by omega))⟩
    ·go_simp; obtain ⟨w8, h8, b8, B8, R152⟩ := nB hHeld.1 [⟨#[41]⟩] #[.string ⟨#[41]⟩] rfl rfl; rw [<- h8]; clear h8
     replace R140 := rB R140 b8; replace R145 := rB R145 b8
     clear b8
     clear hHeld; refine hK.out _ _ (KP _ B8.out) (fun hHeld => ?_); clear hK K; try simp only [Act.put, pa, pz, ps]
     refine rdy [11] (arc 151 rfl (fun K hK => ?_) AllReadyH.nil)
     go_simp; go_at_call 36; refine (HR.out w8 0 (by omega) hHeld.1).mono ?_; rintro e w9 ⟨v151, rfl, s151, b9⟩; have B9 := bN hHeld.1 b9; have R151 := rS s151
     replace R140 := rB R140 b9; replace R145 := rB R145 b9; replace R152 := rB R152 b9
     clear b9 s151
     clear hHeld; refine hK.out _ _ (KP _ B9.out) (fun hHeld => ?_); clear hK K; try simp only [Act.put, pa, pz, ps]
     refine rdy [13] (arc 153 rfl (fun K hK => ?_) AllReadyH.nil)
     go_simp; go_at_call 80; refine (za _ _ _ _ _ _ w9 R145.out.rd R151.out.rd R152.out.rd (by (try simp only [la, lc, ln]); omega) (by (try simp only [la, lc, ln]); omega) (by (try simp only [la, lc, ln]); omega)).mono ?_; rintro e w10 ⟨v153, rfl, s153, b10⟩; have B10 := bN hHeld.1 b10; have R153 := rS s153
     replace R140 := rB R140 b10; replace R145 := rB R145 b10; replace R151 := rB R151 b10; replace R152 := rB R152 b10
     have S153 := sM s153 hHeld.1.size
     clear b10 s153
     clear hHeld; refine hK.out _ _ (KP _ B10.out) (fun hHeld => ?_); clear hK K; try simp only [Act.put, pa, pz, ps]
     refine tkm 14 4 (v153) hHeld rfl ?_; try simp only [Act.put, pa, pz, ps]
     have R4 := R153; clear R153
     have S4 := S153; clear S153
     refine wpAnyH_done (by kernel_rfl) ?_ _
     go_wp2
     go_ret
     exact ⟨_, rfl, by rw [HE.out]; exact S4.out.mono (by omega), B0.out.trans (B10.out.mono (by omega))⟩
   ·go_simp; go_at_call 36; refine (HR.out w2 0 (by omega) hHeld.1).mono ?_; rintro e w11 ⟨v151, rfl, s151, b11⟩; have B11 := bN hHeld.1 b11; have R151 := rS s151
    replace R140 := rB R140 b11
    clear b11 s151
    clear hHeld; refine hK.out _ _ (KP _ B11.out) (fun hHeld => ?_); clear hK K; try simp only [Act.put, pa, pz, ps]
    refine rdy [5, 12] (arc 145 rfl (fun K hK => ?_) (arc 152 rfl (fun K hK => ?_) AllReadyH.nil))
    ·go_simp; obtain ⟨w12, h12, b12, B12, R145⟩ := nB hHeld.1 [⟨#[40]⟩, ob] #[.string ⟨#[40]⟩, .string ob] rfl rfl; rw [<- h12]; clear h12
     replace R140 := rB R140 b12; replace R151 := rB R151 b12
     clear b12
     clear hHeld; refine hK.out _ _ (KP _ B12.out) (fun hHeld => ?_); clear hK K; try simp only [Act.put, pa, pz, ps]
     refine rdy [12] (arc 152 rfl (fun K hK => ?_) AllReadyH.nil)
     go_simp; obtain ⟨w13, h13, b13, B13, R152⟩ := nB hHeld.1 [⟨#[41]⟩] #[.string ⟨#[41]⟩] rfl rfl; rw [<- h13]; clear h13
     replace R140 := rB R140 b13; replace R145 := rB R145 b13; replace R151 := rB R151 b13
     clear b13
     clear hHeld; refine hK.out _ _ (KP _ B13.out) (fun hHeld => ?_); clear hK K; try simp only [Act.put, pa, pz, ps]
     refine rdy [13] (arc 153 rfl (fun K hK => ?_) AllReadyH.nil)
     go_simp; go_at_call 80; refine (za _ _ _ _ _ _ w13 R145.out.rd R151.out.rd R152.out.rd (by (try simp only [la, lc, ln]); omega) (by (try simp only [la, lc, ln]); omega) (by (try simp only [la, lc, ln]); omega)).mono ?_; rintro e w14 ⟨v153, rfl, s153, b14⟩; have B14 := bN hHeld.1 b14; have R153 := rS s153
     replace R140 := rB R140 b14; replace R145 := rB R145 b14; replace R151 := rB R151 b14; replace R152 := rB R152 b14
     have S153 := sM s153 hHeld.1.size
     clear b14 s153
     clear hHeld; refine hK.out _ _ (KP _ B14.out) (fun hHeld => ?_); clear hK K; try simp only [Act.put, pa, pz, ps]
     refine tkm 14 4 (v153) hHeld rfl ?_; try simp only [Act.put, pa, pz, ps]
     have R4 := R153; clear R153
     have S4 := S153; clear S153
     refine wpAnyH_done (by kernel_rfl) ?_ _
     go_wp2
     go_ret
     exact ⟨_, rfl, by rw [HE.out]; exact S4.out.mono (by omega), B0.out.trans (B14.out.mono (by omega))⟩
    ·go_simp; obtain ⟨w15, h15, b15, B15, R152⟩ := nB hHeld.1 [⟨#[41]⟩] #[.string ⟨#[41]⟩] rfl rfl; rw [<- h15]; clear h15
     replace R140 := rB R140 b15; replace R151 := rB R151 b15
     clear b15
     clear hHeld; refine hK.out _ _ (KP _ B15.out) (fun hHeld => ?_); clear hK K; try simp only [Act.put, pa, pz, ps]
     refine rdy [5] (arc 145 rfl (fun K hK => ?_) AllReadyH.nil)
     go_simp; obtain ⟨w16, h16, b16, B16, R145⟩ := nB hHeld.1 [⟨#[40]⟩, ob] #[.string ⟨#[40]⟩, .string ob] rfl rfl; rw [<- h16]; clear h16
     replace R140 := rB R140 b16; replace R151 := rB R151 b16; replace R152 := rB R152 b16
     clear b16
     clear hHeld; refine hK.out _ _ (KP _ B16.out) (fun hHeld => ?_); clear hK K; try simp only [Act.put, pa, pz, ps]
     refine rdy [13] (arc 153 rfl (fun K hK => ?_) AllReadyH.nil)
     go_simp; go_at_call 80; refine (za _ _ _ _ _ _ w16 R145.out.rd R151.out.rd R152.out.rd (by (try simp only [la, lc, ln]); omega) (by (try simp only [la, lc, ln]); omega) (by (try simp only [la, lc, ln]); omega)).mono ?_; rintro e w17 ⟨v153, rfl, s153, b17⟩; have B17 := bN hHeld.1 b17; have R153 := rS s153
     replace R140 := rB R140 b17; replace R145 := rB R145 b17; replace R151 := rB R151 b17; replace R152 := rB R152 b17
     have S153 := sM s153 hHeld.1.size
     clear b17 s153
     clear hHeld; refine hK.out _ _ (KP _ B17.out) (fun hHeld => ?_); clear hK K; try simp only [Act.put, pa, pz, ps]
     refine tkm 14 4 (v153) hHeld rfl ?_; try simp only [Act.put, pa, pz, ps]
     have R4 := R153; clear R153
     have S4 := S153; clear S153
     refine wpAnyH_done (by kernel_rfl) ?_ _
     go_wp2
     go_ret
     exact ⟨_, rfl, by rw [HE.out]; exact S4.out.mono (by omega), B0.out.trans (B17.out.mono (by omega))⟩
   ·go_simp; obtain ⟨w18, h18, b18, B18, R152⟩ := nB hHeld.1 [⟨#[41]⟩] #[.string ⟨#[41]⟩] rfl rfl; rw [<- h18]; clear h18
    replace R140 := rB R140 b18
    clear b18
    clear hHeld; refine hK.out _ _ (KP _ B18.out) (fun hHeld => ?_); clear hK K; try simp only [Act.put, pa, pz, ps]
    refine rdy [5, 11] (arc 145 rfl (fun K hK => ?_) (arc 151 rfl (fun K hK => ?_) AllReadyH.nil))
    ·go_simp; obtain ⟨w19, h19, b19, B19, R145⟩ := nB hHeld.1 [⟨#[40]⟩, ob] #[.string ⟨#[40]⟩, .string ob] rfl rfl; rw [<- h19]; clear h19
     replace R140 := rB R140 b19; replace R152 := rB R152 b19
     clear b19
     clear hHeld; refine hK.out _ _ (KP _ B19.out) (fun hHeld => ?_); clear hK K; try simp only [Act.put, pa, pz, ps]
     refine rdy [11] (arc 151 rfl (fun K hK => ?_) AllReadyH.nil)
     go_simp; go_at_call 36; refine (HR.out w19 0 (by omega) hHeld.1).mono ?_; rintro e w20 ⟨v151, rfl, s151, b20⟩; have B20 := bN hHeld.1 b20; have R151 := rS s151
     replace R140 := rB R140 b20; replace R145 := rB R145 b20; replace R152 := rB R152 b20
     clear b20 s151
     clear hHeld; refine hK.out _ _ (KP _ B20.out) (fun hHeld => ?_); clear hK K; try simp only [Act.put, pa, pz, ps]
     refine rdy [13] (arc 153 rfl (fun K hK => ?_) AllReadyH.nil)
     go_simp; go_at_call 80; refine (za _ _ _ _ _ _ w20 R145.out.rd R151.out.rd R152.out.rd (by (try simp only [la, lc, ln]); omega) (by (try simp only [la, lc, ln]); omega) (by (try simp only [la, lc, ln]); omega)).mono ?_; rintro e w21 ⟨v153, rfl, s153, b21⟩; have B21 := bN hHeld.1 b21; have R153 := rS s153
     replace R140 := rB R140 b21; replace R145 := rB R145 b21; replace R151 := rB R151 b21; replace R152 := rB R152 b21
     have S153 := sM s153 hHeld.1.size
     clear b21 s153
     clear hHeld; refine hK.out _ _ (KP _ B21.out) (fun hHeld => ?_); clear hK K; try simp only [Act.put, pa, pz, ps]
     refine tkm 14 4 (v153) hHeld rfl ?_; try simp only [Act.put, pa, pz, ps]
     have R4 := R153; clear R153
     have S4 := S153; clear S153
     refine wpAnyH_done (by kernel_rfl) ?_ _
     go_wp2
     go_ret
     exact ⟨_, rfl, by rw [HE.out]; exact S4.out.mono (by omega), B0.out.trans (B21.out.mono (by omega))⟩
    ·go_simp; go_at_call 36; refine (HR.out w18 0 (by omega) hHeld.1).mono ?_; rintro e w22 ⟨v151, rfl, s151, b22⟩; have B22 := bN hHeld.1 b22; have R151 := rS s151
     replace R140 := rB R140 b22; replace R152 := rB R152 b22
     clear b22 s151
     clear hHeld; refine hK.out _ _ (KP _ B22.out) (fun hHeld => ?_); clear hK K; try simp only [Act.put, pa, pz, ps]
     refine rdy [5] (arc 145 rfl (fun K hK => ?_) AllReadyH.nil)
     go_simp; obtain ⟨w23, h23, b23, B23, R145⟩ := nB hHeld.1 [⟨#[40]⟩, ob] #[.string ⟨#[40]⟩, .string ob] rfl rfl; rw [<- h23]; clear h23
     replace R140 := rB R140 b23; replace R151 := rB R151 b23; replace R152 := rB R152 b23
     clear b23
     clear hHeld; refine hK.out _ _ (KP _ B23.out) (fun hHeld => ?_); clear hK K; try simp only [Act.put, pa, pz, ps]
     refine rdy [13] (arc 153 rfl (fun K hK => ?_) AllReadyH.nil)
     go_simp; go_at_call 80; refine (za _ _ _ _ _ _ w23 R145.out.rd R151.out.rd R152.out.rd (by (try simp only [la, lc, ln]); omega) (by (try simp only [la, lc, ln]); omega) (by (try simp only [la, lc, ln]); omega)).mono ?_; rintro e w24 ⟨v153, rfl, s153, b24⟩; have B24 := bN hHeld.1 b24; have R153 := rS s153
     replace R140 := rB R140 b24; replace R145 := rB R145 b24; replace R151 := rB R151 b24; replace R152 := rB R152 b24
     have S153 := sM s153 hHeld.1.size
     clear b24 s153
     clear hHeld; refine hK.out _ _ (KP _ B24.out) (fun hHeld => ?_); clear hK K; try simp only [Act.put, pa, pz, ps]
     refine tkm 14 4 (v153) hHeld rfl ?_; try simp only [Act.put, pa, pz, ps]
     have R4 := R153; clear R153
     have S4 := S153; clear S153
     refine wpAnyH_done (by kernel_rfl) ?_ _
     go_wp2
     go_ret
     exact ⟨_, rfl, by rw [HE.out]; exact S4.out.mono (by omega), B0.out.trans (B24.out.mono (by omega))⟩
  ·go_simp; go_at_call 36; refine (HR.out w2 0 (by omega) hHeld.1).mono ?_; rintro e w25 ⟨v151, rfl, s151, b25⟩; have B25 := bN hHeld.1 b25; have R151 := rS s151
   replace R140 := rB R140 b25
   clear b25 s151
   clear hHeld; refine hK.out _ _ (KP _ B25.out) (fun hHeld => ?_); clear hK K; try simp only [Act.put, pa, pz, ps]
   refine rdy [4, 12] (arc 144 rfl (fun K hK => ?_) (arc 152 rfl (fun K hK => ?_) AllReadyH.nil))
   ·have hcell := (show w25.cell? ⟨w1.heap.size, m, none⟩ = some (.string ob) from HOB.out ▸ R140.out.at_ rfl (by show m < 4; omega)); go_simp; clear hcell; have B26 := hI hHeld.1
    clear hHeld; refine hK.out _ _ (KP _ B26.out) (fun hHeld => ?_); clear hK K; try simp only [Act.put, pa, pz, ps]
    refine rdy [5, 12] (arc 145 rfl (fun K hK => ?_) (arc 152 rfl (fun K hK => ?_) AllReadyH.nil))
    ·go_simp; obtain ⟨w27, h27, b27, B27, R145⟩ := nB hHeld.1 [⟨#[40]⟩, ob] #[.string ⟨#[40]⟩, .string ob] rfl rfl; rw [<- h27]; clear h27
     replace R140 := rB R140 b27; replace R151 := rB R151 b27
     clear b27
     clear hHeld; refine hK.out _ _ (KP _ B27.out) (fun hHeld => ?_); clear hK K; try simp only [Act.put, pa, pz, ps]
     refine rdy [12] (arc 152 rfl (fun K hK => ?_) AllReadyH.nil)
     go_simp; obtain ⟨w28, h28, b28, B28, R152⟩ := nB hHeld.1 [⟨#[41]⟩] #[.string ⟨#[41]⟩] rfl rfl; rw [<- h28]; clear h28
     replace R140 := rB R140 b28; replace R145 := rB R145 b28; replace R151 := rB R151 b28
     clear b28
     clear hHeld; refine hK.out _ _ (KP _ B28.out) (fun hHeld => ?_); clear hK K; try simp only [Act.put, pa, pz, ps]
     refine rdy [13] (arc 153 rfl (fun K hK => ?_) AllReadyH.nil)
     go_simp; go_at_call 80; refine (za _ _ _ _ _ _ w28 R145.out.rd R151.out.rd R152.out.rd (by (try simp only [la, lc, ln]); omega) (by (try simp only [la, lc, ln]); omega) (by (try simp only [la, lc, ln]); omega)).mono ?_; rintro e w29 ⟨v153, rfl, s153, b29⟩; have B29 := bN hHeld.1 b29; have R153 := rS s153
     replace R140 := rB R140 b29; replace R145 := rB R145 b29; replace R151 := rB R151 b29; replace R152 := rB R152 b29
     have S153 := sM s153 hHeld.1.size
     clear b29 s153
     clear hHeld; refine hK.out _ _ (KP _ B29.out) (fun hHeld => ?_); clear hK K; try simp only [Act.put, pa, pz, ps]
     refine tkm 14 4 (v153) hHeld rfl ?_; try simp only [Act.put, pa, pz, ps]
     have R4 := R153; clear R153
     have S4 := S153; clear S153
     refine wpAnyH_done (by kernel_rfl) ?_ _
     go_wp2
     go_ret
     exact ⟨_, rfl, by rw [HE.out]; exact S4.out.mono (by omega), B0.out.trans (B29.out.mono (by omega))⟩
    ·go_simp; obtain ⟨w30, h30, b30, B30, R152⟩ := nB hHeld.1 [⟨#[41]⟩] #[.string ⟨#[41]⟩] rfl rfl; rw [<- h30]; clear h30
     replace R140 := rB R140 b30; replace R151 := rB R151 b30
     clear b30
     clear hHeld; refine hK.out _ _ (KP _ B30.out) (fun hHeld => ?_); clear hK K; try simp only [Act.put, pa, pz, ps]
     refine rdy [5] (arc 145 rfl (fun K hK => ?_) AllReadyH.nil)
     go_simp; obtain ⟨w31, h31, b31, B31, R145⟩ := nB hHeld.1 [⟨#[40]⟩, ob] #[.string ⟨#[40]⟩, .string ob] rfl rfl; rw [<- h31]; clear h31
     replace R140 := rB R140 b31; replace R151 := rB R151 b31; replace R152 := rB R152 b31
     clear b31
     clear hHeld; refine hK.out _ _ (KP _ B31.out) (fun hHeld => ?_); clear hK K; try simp only [Act.put, pa, pz, ps]
     refine rdy [13] (arc 153 rfl (fun K hK => ?_) AllReadyH.nil)
     go_simp; go_at_call 80; refine (za _ _ _ _ _ _ w31 R145.out.rd R151.out.rd R152.out.rd (by (try simp only [la, lc, ln]); omega) (by (try simp only [la, lc, ln]); omega) (by (try simp only [la, lc, ln]); omega)).mono ?_; rintro e w32 ⟨v153, rfl, s153, b32⟩; have B32 := bN hHeld.1 b32; have R153 := rS s153
     replace R140 := rB R140 b32; replace R145 := rB R145 b32; replace R151 := rB R151 b32; replace R152 := rB R152 b32
     have S153 := sM s153 hHeld.1.size
     clear b32 s153
     clear hHeld; refine hK.out _ _ (KP _ B32.out) (fun hHeld => ?_); clear hK K; try simp only [Act.put, pa, pz, ps]
     refine tkm 14 4 (v153) hHeld rfl ?_; try simp only [Act.put, pa, pz, ps]
     have R4 := R153; clear R153
     have S4 := S153; clear S153
     refine wpAnyH_done (by kernel_rfl) ?_ _
     go_wp2
     go_ret
     exact ⟨_, rfl, by rw [HE.out]; exact S4.out.mono (by omega), B0.out.trans (B32.out.mono (by omega))⟩
   ·go_simp; obtain ⟨w33, h33, b33, B33, R152⟩ := nB hHeld.1 [⟨#[41]⟩] #[.string ⟨#[41]⟩] rfl rfl; rw [<- h33]; clear h33
    replace R140 := rB R140 b33; replace R151 := rB R151 b33
    clear b33
    clear hHeld; refine hK.out _ _ (KP _ B33.out) (fun hHeld => ?_); clear hK K; try simp only [Act.put, pa, pz, ps]
    refine rdy [4] (arc 144 rfl (fun K hK => ?_) AllReadyH.nil)
    have hcell := (show w33.cell? ⟨w1.heap.size, m, none⟩ = some (.string ob) from HOB.out ▸ R140.out.at_ rfl (by show m < 4; omega)); go_simp; clear hcell; have B34 := hI hHeld.1
    clear hHeld; refine hK.out _ _ (KP _ B34.out) (fun hHeld => ?_); clear hK K; try simp only [Act.put, pa, pz, ps]
    refine rdy [5] (arc 145 rfl (fun K hK => ?_) AllReadyH.nil)
    go_simp; obtain ⟨w35, h35, b35, B35, R145⟩ := nB hHeld.1 [⟨#[40]⟩, ob] #[.string ⟨#[40]⟩, .string ob] rfl rfl; rw [<- h35]; clear h35
    replace R140 := rB R140 b35; replace R151 := rB R151 b35; replace R152 := rB R152 b35
    clear b35
    clear hHeld; refine hK.out _ _ (KP _ B35.out) (fun hHeld => ?_); clear hK K; try simp only [Act.put, pa, pz, ps]
    refine rdy [13] (arc 153 rfl (fun K hK => ?_) AllReadyH.nil)
    go_simp; go_at_call 80; refine (za _ _ _ _ _ _ w35 R145.out.rd R151.out.rd R152.out.rd (by (try simp only [la, lc, ln]); omega) (by (try simp only [la, lc, ln]); omega) (by (try simp only [la, lc, ln]); omega)).mono ?_; rintro e w36 ⟨v153, rfl, s153, b36⟩; have B36 := bN hHeld.1 b36; have R153 := rS s153
    replace R140 := rB R140 b36; replace R145 := rB R145 b36; replace R151 := rB R151 b36; replace R152 := rB R152 b36
    have S153 := sM s153 hHeld.1.size
    clear b36 s153
    clear hHeld; refine hK.out _ _ (KP _ B36.out) (fun hHeld => ?_); clear hK K; try simp only [Act.put, pa, pz, ps]
    refine tkm 14 4 (v153) hHeld rfl ?_; try simp only [Act.put, pa, pz, ps]
    have R4 := R153; clear R153
    have S4 := S153; clear S153
    refine wpAnyH_done (by kernel_rfl) ?_ _
    go_wp2
    go_ret
    exact ⟨_, rfl, by rw [HE.out]; exact S4.out.mono (by omega), B0.out.trans (B36.out.mono (by omega))⟩
  ·go_simp; obtain ⟨w37, h37, b37, B37, R152⟩ := nB hHeld.1 [⟨#[41]⟩] #[.string ⟨#[41]⟩] rfl rfl; rw [<- h37]; clear h37
   replace R140 := rB R140 b37
   clear b37
   clear hHeld; refine hK.out _ _ (KP _ B37.out) (fun hHeld => ?_); clear hK K; try simp only [Act.put, pa, pz, ps]
   refine rdy [4, 11] (arc 144 rfl (fun K hK => ?_) (arc 151 rfl (fun K hK => ?_) AllReadyH.nil))
   ·have hcell := (show w37.cell? ⟨w1.heap.size, m, none⟩ = some (.string ob) from HOB.out ▸ R140.out.at_ rfl (by show m < 4; omega)); go_simp; clear hcell; have B38 := hI hHeld.1
    clear hHeld; refine hK.out _ _ (KP _ B38.out) (fun hHeld => ?_); clear hK K; try simp only [Act.put, pa, pz, ps]
    refine rdy [5, 11] (arc 145 rfl (fun K hK => ?_) (arc 151 rfl (fun K hK => ?_) AllReadyH.nil))
    ·go_simp; obtain ⟨w39, h39, b39, B39, R145⟩ := nB hHeld.1 [⟨#[40]⟩, ob] #[.string ⟨#[40]⟩, .string ob] rfl rfl; rw [<- h39]; clear h39
     replace R140 := rB R140 b39; replace R152 := rB R152 b39
     clear b39
     clear hHeld; refine hK.out _ _ (KP _ B39.out) (fun hHeld => ?_); clear hK K; try simp only [Act.put, pa, pz, ps]
     refine rdy [11] (arc 151 rfl (fun K hK => ?_) AllReadyH.nil)
     go_simp; go_at_call 36; refine (HR.out w39 0 (by omega) hHeld.1).mono ?_; rintro e w40 ⟨v151, rfl, s151, b40⟩; have B40 := bN hHeld.1 b40; have R151 := rS s151
     replace R140 := rB R140 b40; replace R145 := rB R145 b40; replace R152 := rB R152 b40
     clear b40 s151
     clear hHeld; refine hK.out _ _ (KP _ B40.out) (fun hHeld => ?_); clear hK K; try simp only [Act.put, pa, pz, ps]
     refine rdy [13] (arc 153 rfl (fun K hK => ?_) AllReadyH.nil)
     go_simp; go_at_call 80; refine (za _ _ _ _ _ _ w40 R145.out.rd R151.out.rd R152.out.rd (by (try simp only [la, lc, ln]); omega) (by (try simp only [la, lc, ln]); omega) (by (try simp only [la, lc, ln]); omega)).mono ?_; rintro e w41 ⟨v153, rfl, s153, b41⟩; have B41 := bN hHeld.1 b41; have R153 := rS s153
     replace R140 := rB R140 b41; replace R145 := rB R145 b41; replace R151 := rB R151 b41; replace R152 := rB R152 b41
     have S153 := sM s153 hHeld.1.size
     clear b41 s153
     clear hHeld; refine hK.out _ _ (KP _ B41.out) (fun hHeld => ?_); clear hK K; try simp only [Act.put, pa, pz, ps]
     refine tkm 14 4 (v153) hHeld rfl ?_; try simp only [Act.put, pa, pz, ps]
     have R4 := R153; clear R153
     have S4 := S153; clear S153
     refine wpAnyH_done (by kernel_rfl) ?_ _
     go_wp2
     go_ret
     exact ⟨_, rfl, by rw [HE.out]; exact S4.out.mono (by omega), B0.out.trans (B41.out.mono (by omega))⟩
    ·go_simp; go_at_call 36; refine (HR.out w37 0 (by omega) hHeld.1).mono ?_; rintro e w42 ⟨v151, rfl, s151, b42⟩; have B42 := bN hHeld.1 b42; have R151 := rS s151
     replace R140 := rB R140 b42; replace R152 := rB R152 b42
     clear b42 s151
     clear hHeld; refine hK.out _ _ (KP _ B42.out) (fun hHeld => ?_); clear hK K; try simp only [Act.put, pa, pz, ps]
     refine rdy [5] (arc 145 rfl (fun K hK => ?_) AllReadyH.nil)
     go_simp; obtain ⟨w43, h43, b43, B43, R145⟩ := nB hHeld.1 [⟨#[40]⟩, ob] #[.string ⟨#[40]⟩, .string ob] rfl rfl; rw [<- h43]; clear h43
     replace R140 := rB R140 b43; replace R151 := rB R151 b43; replace R152 := rB R152 b43
     clear b43
     clear hHeld; refine hK.out _ _ (KP _ B43.out) (fun hHeld => ?_); clear hK K; try simp only [Act.put, pa, pz, ps]
     refine rdy [13] (arc 153 rfl (fun K hK => ?_) AllReadyH.nil)
     go_simp; go_at_call 80; refine (za _ _ _ _ _ _ w43 R145.out.rd R151.out.rd R152.out.rd (by (try simp only [la, lc, ln]); omega) (by (try simp only [la, lc, ln]); omega) (by (try simp only [la, lc, ln]); omega)).mono ?_; rintro e w44 ⟨v153, rfl, s153, b44⟩; have B44 := bN hHeld.1 b44; have R153 := rS s153
     replace R140 := rB R140 b44; replace R145 := rB R145 b44; replace R151 := rB R151 b44; replace R152 := rB R152 b44
     have S153 := sM s153 hHeld.1.size
     clear b44 s153
     clear hHeld; refine hK.out _ _ (KP _ B44.out) (fun hHeld => ?_); clear hK K; try simp only [Act.put, pa, pz, ps]
     refine tkm 14 4 (v153) hHeld rfl ?_; try simp only [Act.put, pa, pz, ps]
     have R4 := R153; clear R153
     have S4 := S153; clear S153
     refine wpAnyH_done (by kernel_rfl) ?_ _
     go_wp2
     go_ret
     exact ⟨_, rfl, by rw [HE.out]; exact S4.out.mono (by omega), B0.out.trans (B44.out.mono (by omega))⟩
   ·go_simp; go_at_call 36; refine (HR.out w37 0 (by omega) hHeld.1).mono ?_; rintro e w45 ⟨v151, rfl, s151, b45⟩; have B45 := bN hHeld.1 b45; have R151 := rS s151
    replace R140 := rB R140 b45; replace R152 := rB R152 b45
    clear b45 s151
    clear hHeld; refine hK.out _ _ (KP _ B45.out) (fun hHeld => ?_); clear hK K; try simp only [Act.put, pa, pz, ps]
    refine rdy [4] (arc 144 rfl (fun K hK => ?_) AllReadyH.nil)
    have hcell := (show w45.cell? ⟨w1.heap.size, m, none⟩ = some (.string ob) from HOB.out ▸ R140.out.at_ rfl (by show m < 4; omega)); go_simp; clear hcell; have B46 := hI hHeld.1
    clear hHeld; refine hK.out _ _ (KP _ B46.out) (fun hHeld => ?_); clear hK K; try simp only [Act.put, pa, pz, ps]
    refine rdy [5] (arc 145 rfl (fun K hK => ?_) AllReadyH.nil)
    go_simp; obtain ⟨w47, h47, b47, B47, R145⟩ := nB hHeld.1 [⟨#[40]⟩, ob] #[.string ⟨#[40]⟩, .string ob] rfl rfl; rw [<- h47]; clear h47
    replace R140 := rB R140 b47; replace R151 := rB R151 b47; replace R152 := rB R152 b47
    clear b47
    clear hHeld; refine hK.out _ _ (KP _ B47.out) (fun hHeld => ?_); clear hK K; try simp only [Act.put, pa, pz, ps]
    refine rdy [13] (arc 153 rfl (fun K hK => ?_) AllReadyH.nil)
    go_simp; go_at_call 80; refine (za _ _ _ _ _ _ w47 R145.out.rd R151.out.rd R152.out.rd (by (try simp only [la, lc, ln]); omega) (by (try simp only [la, lc, ln]); omega) (by (try simp only [la, lc, ln]); omega)).mono ?_; rintro e w48 ⟨v153, rfl, s153, b48⟩; have B48 := bN hHeld.1 b48; have R153 := rS s153
    replace R140 := rB R140 b48; replace R145 := rB R145 b48; replace R151 := rB R151 b48; replace R152 := rB R152 b48
    have S153 := sM s153 hHeld.1.size
    clear b48 s153
    clear hHeld; refine hK.out _ _ (KP _ B48.out) (fun hHeld => ?_); clear hK K; try simp only [Act.put, pa, pz, ps]
    refine tkm 14 4 (v153) hHeld rfl ?_; try simp only [Act.put, pa, pz, ps]
    have R4 := R153; clear R153
    have S4 := S153; clear S153
    refine wpAnyH_done (by kernel_rfl) ?_ _
    go_wp2
    go_ret
    exact ⟨_, rfl, by rw [HE.out]; exact S4.out.mono (by omega), B0.out.trans (B48.out.mono (by omega))⟩
 ·go_simp; go_at_call 36; refine (HR.out w1 0 (by omega) hHeld.1).mono ?_; rintro e w49 ⟨v151, rfl, s151, b49⟩; have B49 := bN hHeld.1 b49; have R151 := rS s151
  clear b49 s151
  clear hHeld; refine hK.out _ _ (KP _ B49.out) (fun hHeld => ?_); clear hK K; try simp only [Act.put, pa, pz, ps]
  refine rdy [0, 12] (arc 140 rfl (fun K hK => ?_) (arc 152 rfl (fun K hK => ?_) AllReadyH.nil))
  ·go_simp; obtain ⟨w50, h50, b50, B50, R140⟩ := nB hHeld.1 [⟨#[]⟩, ⟨#[45]⟩, ⟨#[110, 111, 116]⟩, ⟨#[35]⟩] #[.string ⟨#[]⟩, .string ⟨#[45]⟩, .string ⟨#[110, 111, 116]⟩, .string ⟨#[35]⟩] rfl rfl; rw [<- h50]; clear h50
   replace R151 := rB R151 b50
   clear b50
   clear hHeld; refine hK.out _ _ (KP _ B50.out) (fun hHeld => ?_); clear hK K; try simp only [Act.put, pa, pz, ps]
   refine tkm 3 143 (.pointer (some ⟨w49.heap.size, m, none⟩)) hHeld rfl ?_; try simp only [Act.put, pa, pz, ps]
   refine rdy [4, 12] (arc 144 rfl (fun K hK => ?_) (arc 152 rfl (fun K hK => ?_) AllReadyH.nil))
   ·have hcell := (show w50.cell? ⟨w49.heap.size, m, none⟩ = some (.string ob) from HOB.out ▸ R140.out.at_ rfl (by show m < 4; omega)); go_simp; clear hcell; have B51 := hI hHeld.1
    clear hHeld; refine hK.out _ _ (KP _ B51.out) (fun hHeld => ?_); clear hK K; try simp only [Act.put, pa, pz, ps]
    refine rdy [5, 12] (arc 145 rfl (fun K hK => ?_) (arc 152 rfl (fun K hK => ?_) AllReadyH.nil))
    ·go_simp; obtain ⟨w52, h52, b52, B52, R145⟩ := nB hHeld.1 [⟨#[40]⟩, ob] #[.string ⟨#[40]⟩, .string ob] rfl rfl; rw [<- h52]; clear h52
     replace R140 := rB R140 b52; replace R151 := rB R151 b52
     clear b52
     clear hHeld; refine hK.out _ _ (KP _ B52.out) (fun hHeld => ?_); clear hK K; try simp only [Act.put, pa, pz, ps]
     refine rdy [12] (arc 152 rfl (fun K hK => ?_) AllReadyH.nil)
     go_simp; obtain ⟨w53, h53, b53, B53, R152⟩ := nB hHeld.1 [⟨#[41]⟩] #[.string ⟨#[41]⟩] rfl rfl; rw [<- h53]; clear h53
     replace R140 := rB R140 b53; replace R145 := rB R145 b53; replace R151 := rB R151 b53
     clear b53
     clear hHeld; refine hK.out _ _ (KP _ B53.out) (fun hHeld => ?_); clear hK K; try simp only [Act.put, pa, pz, ps]
     refine rdy [13] (arc 153 rfl (fun K hK => ?_) AllReadyH.nil)
     go_simp; go_at_call 80; refine (za _ _ _ _ _ _ w53 R145.out.rd R151.out.rd R152.out.rd (by (try simp only [la, lc, ln]); omega) (by (try simp only [la, lc, ln]); omega) (by (try simp only [la, lc, ln]); omega)).mono ?_; rintro e w54 ⟨v153, rfl, s153, b54⟩; have B54 := bN hHeld.1 b54; have R153 := rS s153
     replace R140 := rB R140 b54; replace R145 := rB R145 b54; replace R151 := rB R151 b54; replace R152 := rB R152 b54
     have S153 := sM s153 hHeld.1.size
     clear b54 s153
     clear hHeld; refine hK.out _ _ (KP _ B54.out) (fun hHeld => ?_); clear hK K; try simp only [Act.put, pa, pz, ps]
     refine tkm 14 4 (v153) hHeld rfl ?_; try simp only [Act.put, pa, pz, ps]
     have R4 := R153; clear R153
     have S4 := S153; clear S153
     refine wpAnyH_done (by kernel_rfl) ?_ _
     go_wp2
     go_ret
     exact ⟨_, rfl, by rw [HE.out]; exact S4.out.mono (by omega), B0.out.trans (B54.out.mono (by omega))⟩
    ·go_simp; obtain ⟨w55, h55, b55, B55, R152⟩ := nB hHeld.1 [⟨#[41]⟩] #[.string ⟨#[41]⟩] rfl rfl; rw [<- h55]; clear h55
     replace R140 := rB R140 b55; replace R151 := rB R151 b55
     clear b55
     clear hHeld; refine hK.out _ _ (KP _ B55.out) (fun hHeld => ?_); clear hK K; try simp only [Act.put, pa, pz, ps]
     refine rdy [5] (arc 145 rfl (fun K hK => ?_) AllReadyH.nil)
     go_simp; obtain ⟨w56, h56, b56, B56, R145⟩ := nB hHeld.1 [⟨#[40]⟩, ob] #[.string ⟨#[40]⟩, .string ob] rfl rfl; rw [<- h56]; clear h56
     replace R140 := rB R140 b56; replace R151 := rB R151 b56; replace R152 := rB R152 b56
     clear b56
     clear hHeld; refine hK.out _ _ (KP _ B56.out) (fun hHeld => ?_); clear hK K; try simp only [Act.put, pa, pz, ps]
     refine rdy [13] (arc 153 rfl (fun K hK => ?_) AllReadyH.nil)
     go_simp; go_at_call 80; refine (za _ _ _ _ _ _ w56 R145.out.rd R151.out.rd R152.out.rd (by (try simp only [la, lc, ln]); omega) (by (try simp only [la, lc, ln]); omega) (by (try simp only [la, lc, ln]); omega)).mono ?_; rintro e w57 ⟨v153, rfl, s153, b57⟩; have B57 := bN hHeld.1 b57; have R153 := rS s153
     replace R140 := rB R140 b57; replace R145 := rB R145 b57; replace R151 := rB R151 b57; replace R152 := rB R152 b57
     have S153 := sM s153 hHeld.1.size
     clear b57 s153
     clear hHeld; refine hK.out _ _ (KP _ B57.out) (fun hHeld => ?_); clear hK K; try simp only [Act.put, pa, pz, ps]
     refine tkm 14 4 (v153) hHeld rfl ?_; try simp only [Act.put, pa, pz, ps]
     have R4 := R153; clear R153
     have S4 := S153; clear S153
     refine wpAnyH_done (by kernel_rfl) ?_ _
     go_wp2
     go_ret
     exact ⟨_, rfl, by rw [HE.out]; exact S4.out.mono (by omega), B0.out.trans (B57.out.mono (by omega))⟩
   ·go_simp; obtain ⟨w58, h58, b58, B58, R152⟩ := nB hHeld.1 [⟨#[41]⟩] #[.string ⟨#[41]⟩] rfl rfl; rw [<- h58]; clear h58
    replace R140 := rB R140 b58; replace R151 := rB R151 b58
    clear b58
    clear hHeld; refine hK.out _ _ (KP _ B58.out) (fun hHeld => ?_); clear hK K; try simp only [Act.put, pa, pz, ps]
    refine rdy [4] (arc 144 rfl (fun K hK => ?_) AllReadyH.nil)
    have hcell := (show w58.cell? ⟨w49.heap.size, m, none⟩ = some (.string ob) from HOB.out ▸ R140.out.at_ rfl (by show m < 4; omega)); go_simp; clear hcell; have B59 := hI hHeld.1
    clear hHeld; refine hK.out _ _ (KP _ B59.out) (fun hHeld => ?_); clear hK K; try simp only [Act.put, pa, pz, ps]
    refine rdy [5] (arc 145 rfl (fun K hK => ?_) AllReadyH.nil)
    go_simp; obtain ⟨w60, h60, b60, B60, R145⟩ := nB hHeld.1 [⟨#[40]⟩, ob] #[.string ⟨#[40]⟩, .string ob] rfl rfl; rw [<- h60]; clear h60
    replace R140 := rB R140 b60; replace R151 := rB R151 b60; replace R152 := rB R152 b60
    clear b60
    clear hHeld; refine hK.out _ _ (KP _ B60.out) (fun hHeld => ?_); clear hK K; try simp only [Act.put, pa, pz, ps]
    refine rdy [13] (arc 153 rfl (fun K hK => ?_) AllReadyH.nil)
    go_simp; go_at_call 80; refine (za _ _ _ _ _ _ w60 R145.out.rd R151.out.rd R152.out.rd (by (try simp only [la, lc, ln]); omega) (by (try simp only [la, lc, ln]); omega) (by (try simp only [la, lc, ln]); omega)).mono ?_; rintro e w61 ⟨v153, rfl, s153, b61⟩; have B61 := bN hHeld.1 b61; have R153 := rS s153
    replace R140 := rB R140 b61; replace R145 := rB R145 b61; replace R151 := rB R151 b61; replace R152 := rB R152 b61
    have S153 := sM s153 hHeld.1.size
    clear b61 s153
    clear hHeld; refine hK.out _ _ (KP _ B61.out) (fun hHeld => ?_); clear hK K; try simp only [Act.put, pa, pz, ps]
    refine tkm 14 4 (v153) hHeld rfl ?_; try simp only [Act.put, pa, pz, ps]
    have R4 := R153; clear R153
    have S4 := S153; clear S153
    refine wpAnyH_done (by kernel_rfl) ?_ _
    go_wp2
    go_ret
    exact ⟨_, rfl, by rw [HE.out]; exact S4.out.mono (by omega), B0.out.trans (B61.out.mono (by omega))⟩
  ·go_simp; obtain ⟨w62, h62, b62, B62, R152⟩ := nB hHeld.1 [⟨#[41]⟩] #[.string ⟨#[41]⟩] rfl rfl; rw [<- h62]; clear h62
   replace R151 := rB R151 b62
   clear b62
   clear hHeld; refine hK.out _ _ (KP _ B62.out) (fun hHeld => ?_); clear hK K; try simp only [Act.put, pa, pz, ps]
   refine rdy [0] (arc 140 rfl (fun K hK => ?_) AllReadyH.nil)
   go_simp; obtain ⟨w63, h63, b63, B63, R140⟩ := nB hHeld.1 [⟨#[]⟩, ⟨#[45]⟩, ⟨#[110, 111, 116]⟩, ⟨#[35]⟩] #[.string ⟨#[]⟩, .string ⟨#[45]⟩, .string ⟨#[110, 111, 116]⟩, .string ⟨#[35]⟩] rfl rfl; rw [<- h63]; clear h63
   replace R151 := rB R151 b63; replace R152 := rB R152 b63
   clear b63
   clear hHeld; refine hK.out _ _ (KP _ B63.out) (fun hHeld => ?_); clear hK K; try simp only [Act.put, pa, pz, ps]
   refine tkm 3 143 (.pointer (some ⟨w62.heap.size, m, none⟩)) hHeld rfl ?_; try simp only [Act.put, pa, pz, ps]
   refine rdy [4] (arc 144 rfl (fun K hK => ?_) AllReadyH.nil)
   have hcell := (show w63.cell? ⟨w62.heap.size, m, none⟩ = some (.string ob) from HOB.out ▸ R140.out.at_ rfl (by show m < 4; omega)); go_simp; clear hcell; have B64 := hI hHeld.1
   clear hHeld; refine hK.out _ _ (KP _ B64.out) (fun hHeld => ?_); clear hK K; try simp only [Act.put, pa, pz, ps]
   refine rdy [5] (arc 145 rfl (fun K hK => ?_) AllReadyH.nil)
   go_simp; obtain ⟨w65, h65, b65, B65, R145⟩ := nB hHeld.1 [⟨#[40]⟩, ob] #[.string ⟨#[40]⟩, .string ob] rfl rfl; rw [<- h65]; clear h65
   replace R140 := rB R140 b65; replace R151 := rB R151 b65; replace R152 := rB R152 b65
   clear b65
   clear hHeld; refine hK.out _ _ (KP _ B65.out) (fun hHeld => ?_); clear hK K; try simp only [Act.put, pa, pz, ps]
   refine rdy [13] (arc 153 rfl (fun K hK => ?_) AllReadyH.nil)
   go_simp; go_at_call 80; refine (za _ _ _ _ _ _ w65 R145.out.rd R151.out.rd R152.out.rd (by (try simp only [la, lc, ln]); omega) (by (try simp only [la, lc, ln]); omega) (by (try simp only [la, lc, ln]); omega)).mono ?_; rintro e w66 ⟨v153, rfl, s153, b66⟩; have B66 := bN hHeld.1 b66; have R153 := rS s153
   replace R140 := rB R140 b66; replace R145 := rB R145 b66; replace R151 := rB R151 b66; replace R152 := rB R152 b66
   have S153 := sM s153 hHeld.1.size
   clear b66 s153
   clear hHeld; refine hK.out _ _ (KP _ B66.out) (fun hHeld => ?_); clear hK K; try simp only [Act.put, pa, pz, ps]
   refine tkm 14 4 (v153) hHeld rfl ?_; try simp only [Act.put, pa, pz, ps]
   have R4 := R153; clear R153
   have S4 := S153; clear S153
   refine wpAnyH_done (by kernel_rfl) ?_ _
   go_wp2
   go_ret
   exact ⟨_, rfl, by rw [HE.out]; exact S4.out.mono (by omega), B0.out.trans (B66.out.mono (by omega))⟩
 ·go_simp; obtain ⟨w67, h67, b67, B67, R152⟩ := nB hHeld.1 [⟨#[41]⟩] #[.string ⟨#[41]⟩] rfl rfl; rw [<- h67]; clear h67
  clear b67
  clear hHeld; refine hK.out _ _ (KP _ B67.out) (fun hHeld => ?_); clear hK K; try simp only [Act.put, pa, pz, ps]
  refine rdy [0, 11] (arc 140 rfl (fun K hK => ?_) (arc 151 rfl (fun K hK => ?_) AllReadyH.nil))
  ·go_simp; obtain ⟨w68, h68, b68, B68, R140⟩ := nB hHeld.1 [⟨#[]⟩, ⟨#[45]⟩, ⟨#[110, 111, 116]⟩, ⟨#[35]⟩] #[.string ⟨#[]⟩, .string ⟨#[45]⟩, .string ⟨#[110, 111, 116]⟩, .string ⟨#[35]⟩] rfl rfl; rw [<- h68]; clear h68
   replace R152 := rB R152 b68
   clear b68
   clear hHeld; refine hK.out _ _ (KP _ B68.out) (fun hHeld => ?_); clear hK K; try simp only [Act.put, pa, pz, ps]
   refine tkm 3 143 (.pointer (some ⟨w67.heap.size, m, none⟩)) hHeld rfl ?_; try simp only [Act.put, pa, pz, ps]
   refine rdy [4, 11] (arc 144 rfl (fun K hK => ?_) (arc 151 rfl (fun K hK => ?_) AllReadyH.nil))
   ·have hcell := (show w68.cell? ⟨w67.heap.size, m, none⟩ = some (.string ob) from HOB.out ▸ R140.out.at_ rfl (by show m < 4; omega)); go_simp; clear hcell; have B69 := hI hHeld.1
    clear hHeld; refine hK.out _ _ (KP _ B69.out) (fun hHeld => ?_); clear hK K; try simp only [Act.put, pa, pz, ps]
    refine rdy [5, 11] (arc 145 rfl (fun K hK => ?_) (arc 151 rfl (fun K hK => ?_) AllReadyH.nil))
    ·go_simp; obtain ⟨w70, h70, b70, B70, R145⟩ := nB hHeld.1 [⟨#[40]⟩, ob] #[.string ⟨#[40]⟩, .string ob] rfl rfl; rw [<- h70]; clear h70
     replace R140 := rB R140 b70; replace R152 := rB R152 b70
     clear b70
     clear hHeld; refine hK.out _ _ (KP _ B70.out) (fun hHeld => ?_); clear hK K; try simp only [Act.put, pa, pz, ps]
     refine rdy [11] (arc 151 rfl (fun K hK => ?_) AllReadyH.nil)
     go_simp; go_at_call 36; refine (HR.out w70 0 (by omega) hHeld.1).mono ?_; rintro e w71 ⟨v151, rfl, s151, b71⟩; have B71 := bN hHeld.1 b71; have R151 := rS s151
     replace R140 := rB R140 b71; replace R145 := rB R145 b71; replace R152 := rB R152 b71
     clear b71 s151
     clear hHeld; refine hK.out _ _ (KP _ B71.out) (fun hHeld => ?_); clear hK K; try simp only [Act.put, pa, pz, ps]
     refine rdy [13] (arc 153 rfl (fun K hK => ?_) AllReadyH.nil)
     go_simp; go_at_call 80; refine (za _ _ _ _ _ _ w71 R145.out.rd R151.out.rd R152.out.rd (by (try simp only [la, lc, ln]); omega) (by (try simp only [la, lc, ln]); omega) (by (try simp only [la, lc, ln]); omega)).mono ?_; rintro e w72 ⟨v153, rfl, s153, b72⟩; have B72 := bN hHeld.1 b72; have R153 := rS s153
     replace R140 := rB R140 b72; replace R145 := rB R145 b72; replace R151 := rB R151 b72; replace R152 := rB R152 b72
     have S153 := sM s153 hHeld.1.size
     clear b72 s153
     clear hHeld; refine hK.out _ _ (KP _ B72.out) (fun hHeld => ?_); clear hK K; try simp only [Act.put, pa, pz, ps]
     refine tkm 14 4 (v153) hHeld rfl ?_; try simp only [Act.put, pa, pz, ps]
     have R4 := R153; clear R153
     have S4 := S153; clear S153
     refine wpAnyH_done (by kernel_rfl) ?_ _
     go_wp2
     go_ret
     exact ⟨_, rfl, by rw [HE.out]; exact S4.out.mono (by omega), B0.out.trans (B72.out.mono (by omega))⟩
    ·go_simp; go_at_call 36; refine (HR.out w68 0 (by omega) hHeld.1).mono ?_; rintro e w73 ⟨v151, rfl, s151, b73⟩; have B73 := bN hHeld.1 b73; have R151 := rS s151
     replace R140 := rB R140 b73; replace R152 := rB R152 b73
     clear b73 s151
     clear hHeld; refine hK.out _ _ (KP _ B73.out) (fun hHeld => ?_); clear hK K; try simp only [Act.put, pa, pz, ps]
     refine rdy [5] (arc 145 rfl (fun K hK => ?_) AllReadyH.nil)
     go_simp; obtain ⟨w74, h74, b74, B74, R145⟩ := nB hHeld.1 [⟨#[40]⟩, ob] #[.string ⟨#[40]⟩, .string ob] rfl rfl; rw [<- h74]; clear h74
     replace R140 := rB R140 b74; replace R151 := rB R151 b74; replace R152 := rB R152 b74
     clear b74
     clear hHeld; refine hK.out _ _ (KP _ B74.out) (fun hHeld => ?_); clear hK K; try simp only [Act.put, pa, pz, ps]
     refine rdy [13] (arc 153 rfl (fun K hK => ?_) AllReadyH.nil)
     go_simp; go_at_call 80; refine (za _ _ _ _ _ _ w74 R145.out.rd R151.out.rd R152.out.rd (by (try simp only [la, lc, ln]); omega) (by (try simp only [la, lc, ln]); omega) (by (try simp only [la, lc, ln]); omega)).mono ?_; rintro e w75 ⟨v153, rfl, s153, b75⟩; have B75 := bN hHeld.1 b75; have R153 := rS s153
     replace R140 := rB R140 b75; replace R145 := rB R145 b75; replace R151 := rB R151 b75; replace R152 := rB R152 b75
     have S153 := sM s153 hHeld.1.size
     clear b75 s153
     clear hHeld; refine hK.out _ _ (KP _ B75.out) (fun hHeld => ?_); clear hK K; try simp only [Act.put, pa, pz, ps]
     refine tkm 14 4 (v153) hHeld rfl ?_; try simp only [Act.put, pa, pz, ps]
     have R4 := R153; clear R153
     have S4 := S153; clear S153
     refine wpAnyH_done (by kernel_rfl) ?_ _
     go_wp2
     go_ret
     exact ⟨_, rfl, by rw [HE.out]; exact S4.out.mono (by omega), B0.out.trans (B75.out.mono (by omega))⟩
   ·go_simp; go_at_call 36; refine (HR.out w68 0 (by omega) hHeld.1).mono ?_; rintro e w76 ⟨v151, rfl, s151, b76⟩; have B76 := bN hHeld.1 b76; have R151 := rS s151
    replace R140 := rB R140 b76; replace R152 := rB R152 b76
    clear b76 s151
    clear hHeld; refine hK.out _ _ (KP _ B76.out) (fun hHeld => ?_); clear hK K; try simp only [Act.put, pa, pz, ps]
    refine rdy [4] (arc 144 rfl (fun K hK => ?_) AllReadyH.nil)
    have hcell := (show w76.cell? ⟨w67.heap.size, m, none⟩ = some (.string ob) from HOB.out ▸ R140.out.at_ rfl (by show m < 4; omega)); go_simp; clear hcell; have B77 := hI hHeld.1
    clear hHeld; refine hK.out _ _ (KP _ B77.out) (fun hHeld => ?_); clear hK K; try simp only [Act.put, pa, pz, ps]
    refine rdy [5] (arc 145 rfl (fun K hK => ?_) AllReadyH.nil)
    go_simp; obtain ⟨w78, h78, b78, B78, R145⟩ := nB hHeld.1 [⟨#[40]⟩, ob] #[.string ⟨#[40]⟩, .string ob] rfl rfl; rw [<- h78]; clear h78
    replace R140 := rB R140 b78; replace R151 := rB R151 b78; replace R152 := rB R152 b78
    clear b78
    clear hHeld; refine hK.out _ _ (KP _ B78.out) (fun hHeld => ?_); clear hK K; try simp only [Act.put, pa, pz, ps]
    refine rdy [13] (arc 153 rfl (fun K hK => ?_) AllReadyH.nil)
    go_simp; go_at_call 80; refine (za _ _ _ _ _ _ w78 R145.out.rd R151.out.rd R152.out.rd (by (try simp only [la, lc, ln]); omega) (by (try simp only [la, lc, ln]); omega) (by (try simp only [la, lc, ln]); omega)).mono ?_; rintro e w79 ⟨v153, rfl, s153, b79⟩; have B79 := bN hHeld.1 b79; have R153 := rS s153
    replace R140 := rB R140 b79; replace R145 := rB R145 b79; replace R151 := rB R151 b79; replace R152 := rB R152 b79
    have S153 := sM s153 hHeld.1.size
    clear b79 s153
    clear hHeld; refine hK.out _ _ (KP _ B79.out) (fun hHeld => ?_); clear hK K; try simp only [Act.put, pa, pz, ps]
    refine tkm 14 4 (v153) hHeld rfl ?_; try simp only [Act.put, pa, pz, ps]
    have R4 := R153; clear R153
    have S4 := S153; clear S153
    refine wpAnyH_done (by kernel_rfl) ?_ _
    go_wp2
    go_ret
    exact ⟨_, rfl, by rw [HE.out]; exact S4.out.mono (by omega), B0.out.trans (B79.out.mono (by omega))⟩
  ·go_simp; go_at_call 36; refine (HR.out w67 0 (by omega) hHeld.1).mono ?_; rintro e w80 ⟨v151, rfl, s151, b80⟩; have B80 := bN hHeld.1 b80; have R151 := rS s151
   replace R152 := rB R152 b80
   clear b80 s151
   clear hHeld; refine hK.out _ _ (KP _ B80.out) (fun hHeld => ?_); clear hK K; try simp only [Act.put, pa, pz, ps]
   refine rdy [0] (arc 140 rfl (fun K hK => ?_) AllReadyH.nil)
   go_simp; obtain ⟨w81, h81, b81, B81, R140⟩ := nB hHeld.1 [⟨#[]⟩, ⟨#[45]⟩, ⟨#[110, 111, 116]⟩, ⟨#[35]⟩] #[.string ⟨#[]⟩, .string ⟨#[45]⟩, .string ⟨#[110, 111, 116]⟩, .string ⟨#[35]⟩] rfl rfl; rw [<- h81]; clear h81
   replace R151 := rB R151 b81; replace R152 := rB R152 b81
   clear b81
   clear hHeld; refine hK.out _ _ (KP _ B81.out) (fun hHeld => ?_); clear hK K; try simp only [Act.put, pa, pz, ps]
   refine tkm 3 143 (.pointer (some ⟨w80.heap.size, m, none⟩)) hHeld rfl ?_; try simp only [Act.put, pa, pz, ps]
   refine rdy [4] (arc 144 rfl (fun K hK => ?_) AllReadyH.nil)
   have hcell := (show w81.cell? ⟨w80.heap.size, m, none⟩ = some (.string ob) from HOB.out ▸ R140.out.at_ rfl (by show m < 4; omega)); go_simp; clear hcell; have B82 := hI hHeld.1
   clear hHeld; refine hK.out _ _ (KP _ B82.out) (fun hHeld => ?_); clear hK K; try simp only [Act.put, pa, pz, ps]
   refine rdy [5] (arc 145 rfl (fun K hK => ?_) AllReadyH.nil)
   go_simp; obtain ⟨w83, h83, b83, B83, R145⟩ := nB hHeld.1 [⟨#[40]⟩, ob] #[.string ⟨#[40]⟩, .string ob] rfl rfl; rw [<- h83]; clear h83
   replace R140 := rB R140 b83; replace R151 := rB R151 b83; replace R152 := rB R152 b83
   clear b83
   clear hHeld; refine hK.out _ _ (KP _ B83.out) (fun hHeld => ?_); clear hK K; try simp only [Act.put, pa, pz, ps]
   refine rdy [13] (arc 153 rfl (fun K hK => ?_) AllReadyH.nil)
   go_simp; go_at_call 80; refine (za _ _ _ _ _ _ w83 R145.out.rd R151.out.rd R152.out.rd (by (try simp only [la, lc, ln]); omega) (by (try simp only [la, lc, ln]); omega) (by (try simp only [la, lc, ln]); omega)).mono ?_; rintro e w84 ⟨v153, rfl, s153, b84⟩; have B84 := bN hHeld.1 b84; have R153 := rS s153
   replace R140 := rB R140 b84; replace R145 := rB R145 b84; replace R151 := rB R151 b84; replace R152 := rB R152 b84
   have S153 := sM s153 hHeld.1.size
   clear b84 s153
   clear hHeld; refine hK.out _ _ (KP _ B84.out) (fun hHeld => ?_); clear hK K; try simp only [Act.put, pa, pz, ps]
   refine tkm 14 4 (v153) hHeld rfl ?_; try simp only [Act.put, pa, pz, ps]
   have R4 := R153; clear R153
   have S4 := S153; clear S153
   refine wpAnyH_done (by kernel_rfl) ?_ _
   go_wp2
   go_ret
   exact ⟨_, rfl, by rw [HE.out]; exact S4.out.mono (by omega), B0.out.trans (B84.out.mono (by omega))⟩
end Go.Proofs.YtiglkhkfbgjjoaaDoor
