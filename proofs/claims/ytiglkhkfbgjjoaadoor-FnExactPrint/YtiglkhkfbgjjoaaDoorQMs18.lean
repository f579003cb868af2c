/- - -/
import Derived.Test.YtiglkhkfbgjjoaaDoorQMtA
namespace Go.Proofs.YtiglkhkfbgjjoaaDoor
set_option maxRecDepth 20000
open Go.RowKit Go.PlainAid Go.Maps
set_option linter.unusedSimpArgs false
set_option linter.unusedVariables false
set_option maxHeartbeats 4000000 in
theorem zk0 (a : Option Addr) (L c : Nat) (top : Int) (t : ByteArray) (i : Int) (ak : Option Addr) (ck : Nat) (y : Nat -> Int) (rec : Int -> List ByteArray) (T : Nat) (w : World) (hk : SlF T w (.slice ak (2) ck) (2) (2) (fun i => .int .i64 (y i))) (hT : T <= w.heap.size) (hc1 : 2 <= ck) (hc2 : ck <= 1048576) (hs : smN rec y (2) <= 100000)
 (hr : ∀ (V : World) (m : Nat), m < 2 -> Below w.heap.size w V -> Calls Tryd.prog 36 #[.agg #[.slice a L c, .int .i64 top], .int .i64 (y m)] V (zc V (rec (y m)))) :
 Calls Tryd.prog 79 #[.agg #[.slice a L c, .int .i64 top], .agg #[.int .i64 18, .string t, .int .i64 i, .slice ak (2) ck]] w (zc w (bod rec ⟨18, t, i, 2, y⟩)) := by
 obtain ⟨bk, ok, ck2, hv, tk1, lk, hkk⟩ := hk.parts (k := 0) (by omega)
 simp only [Value.slice.injEq] at hv
 obtain ⟨rfl, _, rfl⟩ := hv
 have yc0 := hkk 0 (by omega)
 rw [Nat.add_zero] at yc0
 have yc1 := hkk 1 (by omega)
 have n0 : (rec (y 0)).length <= 100000 := Nat.le_trans (smA rec y (by omega : 0 < 2)) hs
 have n1 : (rec (y 1)).length <= 100000 := Nat.le_trans (smA rec y (by omega : 1 < 2)) hs
 have HE : Hid (bod rec ⟨18, t, i, 2, y⟩ = [⟨#[119, 104, 105, 108, 101]⟩] ++ rec (y 0) ++ rec (y 1)) := by show bod _ _ = _; simp [bod, opB]
 obtain ⟨W0, hW0⟩ : ∃ V, V = (w.alloc (.cells #[.slice a L c, .int .i64 top] 41)).alloc (.cells #[.int .i64 18, .string t, .int .i64 i, .slice (some ⟨bk, ok, none⟩) 2 ck] 71) := ⟨_, rfl⟩
 have z0 : W0.heap.size = w.heap.size + 2 := by rw [hW0]; simp
 have B0 : Hid (Below w.heap.size w W0) := by rw [hW0]; exact ((Below.refl _ _).alloc (Nat.le_refl _) _).alloc (by simp) _
 have T0 : ∀ z, W0.cell? ⟨w.heap.size, z, none⟩ = (#[.slice a L c, .int .i64 top] : Array Value)[z]? := fun z => by rw [hW0]; simp [go_sem]
 have K0 : ∀ z, W0.cell? ⟨w.heap.size + 1, z, none⟩ = (#[.int .i64 18, .string t, .int .i64 i, .slice (some ⟨bk, ok, none⟩) 2 ck] : Array Value)[z]? := fun z => by rw [hW0]; simp [go_sem]
 have HR : Hid (∀ (V : World) (m : Nat), m < 2 -> Below W0.heap.size W0 V -> Calls Tryd.prog 36 #[.agg #[.slice a L c, .int .i64 top], .int .i64 (y m)] V (zc V (rec (y m)))) := fun V m hm hV => hr V m hm (B0.out.trans (hV.mono (by omega)))
 have BK : Hid (∀ V, Below W0.heap.size W0 V -> Below w.heap.size w V) := fun V hV => B0.out.trans (hV.mono (by omega))
 have KP : ∀ V, Below W0.heap.size W0 V -> (SQ2 W0 w.heap.size #[.slice a L c, .int .i64 top] #[.int .i64 18, .string t, .int .i64 i, .slice (some ⟨bk, ok, none⟩) 2 ck] bk (ok) (y 0) (ok + 1) (y 1)) V := fun V hV => ⟨hV, fun z => (hV.cell (p := ⟨w.heap.size, z, none⟩) (by dsimp only; omega)).trans (T0 z), fun z => (hV.cell (p := ⟨w.heap.size + 1, z, none⟩) (by dsimp only; omega)).trans (K0 z), ((BK.out V hV).cell (p := ⟨bk, ok, none⟩) (by dsimp only; omega)).trans yc0, ((BK.out V hV).cell (p := ⟨bk, ok + 1, none⟩) (by dsimp only; omega)).trans yc1⟩
 have KP' : Hid (∀ V, Below W0.heap.size W0 V -> (SQ2 W0 w.heap.size #[.slice a L c, .int .i64 top] #[.int .i64 18, .string t, .int .i64 i, .slice (some ⟨bk, ok, none⟩) 2 ck] bk (ok) (y 0) (ok + 1) (y 1)) V) := KP
 clear hk hr hs hkk KP T0 K0 yc0 yc1
 have BW : Hid (Below W0.heap.size W0 W0) := Below.refl _ _
 go_enter Tryd.func79, Tryd.ntmps79
 go_wp2_with fail
 rw [<- hW0]
 clear hW0
 have KP := KP'.out
 clear KP'
 refine wp_region_held_drew (by kernel_rfl) (KP _ BW.out.drew) (fun hHeld => ?_); obtain ⟨w1, h1, b1⟩ := dR W0; rw [<- h1] at hHeld ⊢; clear h1
 clear b1
 refine tkm 1 95 (.agg #[.slice a L c, .int .i64 top]) hHeld rfl ?_; try simp only [Act.put, pa, pz, ps]
 refine tkm 2 96 (.pointer (some ⟨w.heap.size + 1, 3, none⟩)) hHeld rfl ?_; try simp only [Act.put, pa, pz, ps]
 refine tkm 3 97 (.slice (some ⟨bk, ok, none⟩) 2 ck) hHeld rfl ?_; try simp only [Act.put, pa, pz, ps]
 refine tkm 4 98 (.pointer (some ⟨bk, ok, none⟩)) hHeld rfl ?_; try simp only [Act.put, pa, pz, ps]
 refine tkm 5 99 (.int .i64 (y 0)) hHeld rfl ?_; try simp only [Act.put, pa, pz, ps]
 refine tkm 7 101 (.agg #[.slice a L c, .int .i64 top]) hHeld rfl ?_; try simp only [Act.put, pa, pz, ps]
 refine tkm 8 102 (.pointer (some ⟨w.heap.size + 1, 3, none⟩)) hHeld rfl ?_; try simp only [Act.put, pa, pz, ps]
 refine tkm 9 103 (.slice (some ⟨bk, ok, none⟩) 2 ck) hHeld rfl ?_; try simp only [Act.put, pa, pz, ps]
 refine tkm 10 104 (.pointer (some ⟨bk, ok + 1, none⟩)) hHeld rfl ?_; try simp only [Act.put, pa, pz, ps]
 refine tkm 11 105 (.int .i64 (y 1)) hHeld rfl ?_; try simp only [Act.put, pa, pz, ps]
 refine rdy [0, 6] (arc 94 rfl (fun K hK => ?_) (arc 100 rfl (fun K hK => ?_) AllReadyH.nil))
 ·go_simp; obtain ⟨w2, h2, b2, B2, R94⟩ := nB hHeld.1 [⟨#[119, 104, 105, 108, 101]⟩] #[.string ⟨#[119, 104, 105, 108, 101]⟩] rfl rfl; rw [<- h2]; clear h2
  clear b2
  clear hHeld; refine hK.out _ _ (KP _ B2.out) (fun hHeld => ?_); clear hK K; try simp only [Act.put, pa, pz, ps]
  refine rdy [6] (arc 100 rfl (fun K hK => ?_) AllReadyH.nil)
  go_simp; go_at_call 36; refine (HR.out w2 0 (by omega) hHeld.1).mono ?_; rintro e w3 ⟨v100, rfl, s100, b3⟩; have B3 := bN hHeld.1 b3; have R100 := rS s100
  replace R94 := rB R94 b3
  clear b3 s100
  clear hHeld; refine hK.out _ _ (KP _ B3.out) (fun hHeld => ?_); clear hK K; try simp only [Act.put, pa, pz, ps]
  refine rdy [12] (arc 106 rfl (fun K hK => ?_) AllReadyH.nil)
  go_simp; go_at_call 36; refine (HR.out w3 1 (by omega) hHeld.1).mono ?_; rintro e w4 ⟨v106, rfl, s106, b4⟩; have B4 := bN hHeld.1 b4; have R106 := rS s106
  replace R94 := rB R94 b4; replace R100 := rB R100 b4
  clear b4 s106
  clear hHeld; refine hK.out _ _ (KP _ B4.out) (fun hHeld => ?_); clear hK K; try simp only [Act.put, pa, pz, ps]
  refine rdy [13] (arc 107 rfl (fun K hK => ?_) AllReadyH.nil)
  go_simp; go_at_call 80; refine (za _ _ _ _ _ _ w4 R94.out.rd R100.out.rd R106.out.rd (by (try simp only [la, lc, ln]); omega) (by (try simp only [la, lc, ln]); omega) (by (try simp only [la, lc, ln]); omega)).mono ?_; rintro e w5 ⟨v107, rfl, s107, b5⟩; have B5 := bN hHeld.1 b5; have R107 := rS s107
  replace R94 := rB R94 b5; replace R100 := rB R100 b5; replace R106 := rB R106 b5
  have S107 := sM s107 hHeld.1.size
  clear b5 s107
  clear hHeld; refine hK.out _ _ (KP _ B5.out) (fun hHeld => ?_); clear hK K; try simp only [Act.put, pa, pz, ps]
  refine tkm 14 4 (v107) hHeld rfl ?_; try simp only [Act.put, pa, pz, ps]
  have R4 := R107; clear R107
  have S4 := S107; clear S107
  refine wpAnyH_done (by kernel_rfl) ?_ _
  go_wp2
  go_ret
  exact ⟨_, rfl, by rw [HE.out]; exact S4.out.mono (by omega), B0.out.trans (B5.out.mono (by omega))⟩
 ·go_simp; go_at_call 36; refine (HR.out w1 0 (by omega) hHeld.1).mono ?_; rintro e w6 ⟨v100, rfl, s100, b6⟩; have B6 := bN hHeld.1 b6; have R100 := rS s100
  clear b6 s100
  clear hHeld; refine hK.out _ _ (KP _ B6.out) (fun hHeld => ?_); clear hK K; try simp only [Act.put, pa, pz, ps]
  refine rdy [0, 12] (arc 94 rfl (fun K hK => ?_) (arc 106 rfl (fun K hK => ?_) AllReadyH.nil))
  ·go_simp; obtain ⟨w7, h7, b7, B7, R94⟩ := nB hHeld.1 [⟨#[119, 104, 105, 108, 101]⟩] #[.string ⟨#[119, 104, 105, 108, 101]⟩] rfl rfl; rw [<- h7]; clear h7
   replace R100 := rB R100 b7
   clear b7
   clear hHeld; refine hK.out _ _ (KP _ B7.out) (fun hHeld => ?_); clear hK K; try simp only [Act.put, pa, pz, ps]
   refine rdy [12] (arc 106 rfl (fun K hK => ?_) AllReadyH.nil)
   go_simp; go_at_call 36; refine (HR.out w7 1 (by omega) hHeld.1).mono ?_; rintro e w8 ⟨v106, rfl, s106, b8⟩; have B8 := bN hHeld.1 b8; have R106 := rS s106
   replace R94 := rB R94 b8; replace R100 := rB R100 b8
   clear b8 s106
   clear hHeld; refine hK.out _ _ (KP _ B8.out) (fun hHeld => ?_); clear hK K; try simp only [Act.put, pa, pz, ps]
   refine rdy [13] (arc 107 rfl (fun K hK => ?_) AllReadyH.nil)
   go_simp; go_at_call 80; refine (za _ _ _ _ _ _ w8 R94.out.rd R100.out.rd R106.out.rd (by (try simp only [la, lc, ln]); omega) (by (try simp only [la, lc, ln]); omega) (by (try simp only [la, lc, ln]); omega)).mono ?_; rintro e w9 ⟨v107, rfl, s107, b9⟩; have B9 := bN hHeld.1 b9; have R107 := rS s107
   replace R94 := rB R94 b9; replace R100 := rB R100 b9; replace R106 := rB R106 b9
   have S107 := sM s107 hHeld.1.size
   clear b9 s107
   clear hHeld; refine hK.out _ _ (KP _ B9.out) (fun hHeld => ?_); clear hK K; try simp only [Act.put, pa, pz, ps]
   refine tkm 14 4 (v107) hHeld rfl ?_; try simp only [Act.put, pa, pz, ps]
   have R4 := R107; clear R107
   have S4 := S107; clear S107
   refine wpAnyH_done (by kernel_rfl) ?_ _
   go_wp2
   go_ret
   exact ⟨_, rfl, by rw [HE.out]; exact S4.out.mono (by omega), B0.out.trans (B9.out.mono (by omega))⟩
  ·go_simp; go_at_call 36; refine (HR.out w6 1 (by omega) hHeld.1).mono ?_; rintro e w10 ⟨v106, rfl, s106, b10⟩; have B10 := bN hHeld.1 b10; have R106 := rS s106
   replace R100 := rB R100 b10
   clear b10 s106
   clear hHeld; refine hK.out _ _ (KP _ B10.out) (fun hHeld => ?_); clear hK K; try simp only [Act.put, pa, pz, ps]
   refine rdy [0] (arc 94 rfl (fun K hK => ?_) AllReadyH.nil)
   go_simp; obtain ⟨w11, h11, b11, B11, R94⟩ := nB hHeld.1 [⟨#[119, 104, 105, 108, 101]⟩] #[.string ⟨#[119, 104, 105, 108, 101]⟩] rfl rfl; rw [<- h11]; clear h11
   replace R100 := rB R100 b11; replace R106 := rB R106 b11
   clear b11
   clear hHeld; refine hK.out _ _ (KP _ B11.out) (fun hHeld => ?_); clear hK K; try simp only [Act.put, pa, pz, ps]
   refine rdy [13] (arc 107 rfl (fun K hK => ?_) AllReadyH.nil)
   go_simp; go_at_call 80; refine (za _ _ _ _ _ _ w11 R94.out.rd R100.out.rd R106.out.rd (by (try simp only [la, lc, ln]); omega) (by (try simp only [la, lc, ln]); omega) (by (try simp only [la, lc, ln]); omega)).mono ?_; rintro e w12 ⟨v107, rfl, s107, b12⟩; have B12 := bN hHeld.1 b12; have R107 := rS s107
   replace R94 := rB R94 b12; replace R100 := rB R100 b12; replace R106 := rB R106 b12
   have S107 := sM s107 hHeld.1.size
   clear b12 s107
   clear hHeld; refine hK.out _ _ (KP _ B12.out) (fun hHeld => ?_); clear hK K; try simp only [Act.put, pa, pz, ps]
   refine tkm 14 4 (v107) hHeld rfl ?_; try simp only [Act.put, pa, pz, ps]
   have R4 := R107; clear R107
   have S4 := S107; clear S107
   refine wpAnyH_done (by kernel_rfl) ?_ _
   go_wp2
   go_ret
   exact ⟨_, rfl, by rw [HE.out]; exact S4.out.mono (by omega), B0.out.trans (B12.out.mono (by omega))⟩
set_option maxHeartbeats 4000000 in
theorem zk1 (a : Option Addr) (L c : Nat) (top : Int) (t : ByteArray) (i : Int) (ak : Option Addr) (ck : Nat) (y : Nat -> Int) (rec : Int -> List ByteArray) (T : Nat) (w : World) (hk : SlF T w (.slice ak (1) ck) (1) (1) (fun i => .int .i64 (y i))) (hT : T <= w.heap.size) (hc1 : 1 <= ck) (hc2 : ck <= 1048576) (hs : smN rec y (1) <= 100000)
 (hr : ∀ (V : World) (m : Nat), m < 1 -> Below w.heap.size w V -> Calls Tryd.prog 36 #[.agg #[.slice a L c, .int .i64 top], .int .i64 (y m)] V (zc V (rec (y m)))) :
 Calls Tryd.prog 79 #[.agg #[.slice a L c, .int .i64 top], .agg #[.int .i64 19, .string t, .int .i64 i, .slice ak (1) ck]] w (zc w (bod rec ⟨19, t, i, 1, y⟩)) := by
 obtain ⟨bk, ok, ck2, hv, tk1, lk, hkk⟩ := hk.parts (k := 0) (by omega)
 simp only [Value.slice.injEq] at hv
 obtain ⟨rfl, _, rfl⟩ := hv
 have yc0 := hkk 0 (by omega)
 rw [Nat.add_zero] at yc0
 have n0 : (rec (y 0)).length <= 100000 := Nat.le_trans (smA rec y (by omega : 0 < 1)) hs
 have HE : Hid (bod rec ⟨19, t, i, 1, y⟩ = [⟨#[114, 101, 116, 117, 114, 110]⟩] ++ rec (y 0) ++ [⟨#[59]⟩]) := by show bod _ _ = _; simp [bod, opB]
 obtain ⟨W0, hW0⟩ : ∃ V, V = (w.alloc (.cells #[.slice a L c, .int .i64 top] 41)).alloc (.cells #[.int .i64 19, .string t, .int .i64 i, .slice (some ⟨bk, ok, none⟩) 1 ck] 71) := ⟨_, rfl⟩
 have z0 : W0.heap.size = w.heap.size + 2 := by rw [hW0]; simp
 have B0 : Hid (Below w.heap.size w W0) := by rw [hW0]; exact ((Below.refl _ _).alloc (Nat.le_refl _) _).alloc (by simp) _
 have T0 : ∀ z, W0.cell? ⟨w.heap.size, z, none⟩ = (#[.slice a L c, .int .i64 top] : Array Value)[z]? := fun z => by rw [hW0]; simp [go_sem]
 have K0 : ∀ z, W0.cell? ⟨w.heap.size + 1, z, none⟩ = (#[.int .i64 19, .string t, .int .i64 i, .slice (some ⟨bk, ok, none⟩) 1 ck] : Array Value)[z]? := fun z => by rw [hW0]; simp [go_sem]
 have HR : Hid (∀ (V : World) (m : Nat), m < 1 -> Below W0.heap.size W0 V -> Calls Tryd.prog 36 #[.agg #[.slice a L c, .int .i64 top], .int .i64 (y m)] V (zc V (rec (y m)))) := fun V m hm hV => hr V m hm (B0.out.trans (hV.mono (by omega)))
 have BK : Hid (∀ V, Below W0.heap.size W0 V -> Below w.heap.size w V) := fun V hV => B0.out.trans (hV.mono (by omega))
 have KP : ∀ V, Below W0.heap.size W0 V -> (SQ1 W0 w.heap.size #[.slice a L c, .int .i64 top] #[.int .i64 19, .string t, .int .i64 i, .slice (some ⟨bk, ok, none⟩) 1 ck] bk (ok) (y 0)) V := fun V hV => ⟨hV, fun z => (hV.cell (p := ⟨w.heap.size, z, none⟩) (by dsimp only; omega)).trans (T0 z), fun z => (hV.cell (p := ⟨w.heap.size + 1, z, none⟩) (by dsimp only; omega)).trans (K0 z), ((BK.out V hV).cell (p := ⟨bk, ok, none⟩) (by dsimp only; omega)).trans yc0⟩
 have KP' : Hid (∀ V, Below W0.heap.size W0 V -> (SQ1 W0 w.heap.size #[.slice a L c, .int .i64 top] #[.int .i64 19, .string t, .int .i64 i, .slice (some ⟨bk, ok, none⟩) 1 ck] bk (ok) (y 0)) V) := KP
 clear hk hr hs hkk KP T0 K0 yc0
 have BW : Hid (Below W0.heap.size W0 W0) := Below.refl _ _
 go_enter Tryd.func79, Tryd.ntmps79
 go_wp2_with fail
 rw [<- hW0]
 clear hW0
 have KP := KP'.out
 clear KP'
 refine wp_region_held_drew (by kernel_rfl) (KP _ BW.out.drew) (fun hHeld => ?_); obtain ⟨w1, h1, b1⟩ := dR W0; rw [<- h1] at hHeld ⊢; clear h1
 clear b1
 refine tkm 1 111 (.agg #[.slice a L c, .int .i64 top]) hHeld rfl ?_; try simp only [Act.put, pa, pz, ps]
 refine tkm 2 112 (.pointer (some ⟨w.heap.size + 1, 3, none⟩)) hHeld rfl ?_; try simp only [Act.put, pa, pz, ps]
 refine tkm 3 113 (.slice (some ⟨bk, ok, none⟩) 1 ck) hHeld rfl ?_; try simp only [Act.put, pa, pz, ps]
 refine tkm 4 114 (.pointer (some ⟨bk, ok, none⟩)) hHeld rfl ?_; try simp only [Act.put, pa, pz, ps]
 refine tkm 5 115 (.int .i64 (y 0)) hHeld rfl ?_; try simp only [Act.put, pa, pz, ps]
 refine rdy [0, 6, 7] (arc 110 rfl (fun K hK => ?_) (arc 116 rfl (fun K hK => ?_) (arc 117 rfl (fun K hK => ?_) AllReadyH.nil)))
 ·go_simp; obtain ⟨w2, h2, b2, B2, R110⟩ := nB hHeld.1 [⟨#[114, 101, 116, 117, 114, 110]⟩] #[.string ⟨#[114, 101, 116, 117, 114, 110]⟩] rfl rfl; rw [<- h2]; clear h2
  clear b2
  clear hHeld; refine hK.out _ _ (KP _ B2.out) (fun hHeld => ?_); clear hK K; try simp only [Act.put, pa, pz, ps]
  refine rdy [6, 7] (arc 116 rfl (fun K hK => ?_) (arc 117 rfl (fun K hK => ?_) AllReadyH.nil))
  ·go_simp; go_at_call 36; refine (HR.out w2 0 (by omega) hHeld.1).mono ?_; rintro e w3 ⟨v116, rfl, s116, b3⟩; have B3 := bN hHeld.1 b3; have R116 := rS s116
   replace R110 := rB R110 b3
   clear b3 s116
   clear hHeld; refine hK.out _ _ (KP _ B3.out) (fun hHeld => ?_); clear hK K; try simp only [Act.put, pa, pz, ps]
   refine rdy [7] (arc 117 rfl (fun K hK => ?_) AllReadyH.nil)
   go_simp; obtain ⟨w4, h4, b4, B4, R117⟩ := nB hHeld.1 [⟨#[59]⟩] #[.string ⟨#[59]⟩] rfl rfl; rw [<- h4]; clear h4
   replace R110 := rB R110 b4; replace R116 := rB R116 b4
   clear b4
   clear hHeld; refine hK.out _ _ (KP _ B4.out) (fun hHeld => ?_); clear hK K; try simp only [Act.put, pa, pz, ps]
   refine rdy [8] (arc 118 rfl (fun K hK => ?_) AllReadyH.nil)
   go_simp; go_at_call 80; refine (za _ _ _ _ _ _ w4 R110.out.rd R116.out.rd R117.out.rd (by (try simp only [la, lc, ln]); omega) (by (try simp only [la, lc, ln]); omega) (by (try simp only [la, lc, ln]); omega)).mono ?_; rintro e w5 ⟨v118, rfl, s118, b5⟩; have B5 := bN hHeld.1 b5; have R118 := rS s118
   replace R110 := rB R110 b5; replace R116 := rB R116 b5; replace R117 := rB R117 b5
   have S118 := sM s118 hHeld.1.size
   clear b5 s118
   clear hHeld; refine hK.out _ _ (KP _ B5.out) (fun hHeld => ?_); clear hK K; try simp only [Act.put, pa, pz, ps]
   refine tkm 9 4 (v118) hHeld rfl ?_; try simp only [Act.put, pa, pz, ps]
   have R4 := R118; clear R118
   have S4 := S118; clear S118
   refine wpAnyH_done (by kernel_rfl) ?_ _
   go_wp2
   go_ret
   exact ⟨_, rfl, by rw [HE.out]; exact S4.out.mono (by omega), B0.out.trans (B5.out.mono (by omega))⟩
  ·go_simp; obtain ⟨w6, h6, b6, B6, R117⟩ := nB hHeld.1 [⟨#[59]⟩] #[.string ⟨#[59]⟩] rfl rfl; rw [<- h6]; clear h6
   replace R110 := rB R110 b6
   clear b6
   clear hHeld; refine hK.out _ _ (KP _ B6.out) (fun hHeld => ?_); clear hK K; try simp only [Act.put, pa, pz, ps]
   refine rdy [6] (arc 116 rfl (fun K hK => ?_) AllReadyH.nil)
   go_simp; go_at_call 36; refine (HR.out w6 0 (by omega) hHeld.1).mono ?_; rintro e w7 ⟨v116, rfl, s116, b7⟩; have B7 := bN hHeld.1 b7; have R116 := rS s116
   replace R110 := rB R110 b7; replace R117 := rB R117 b7
   clear b7 s116
   clear hHeld; refine hK.out _ _ (KP _ B7.out) (fun hHeld => ?_); clear hK K; try simp only [Act.put, pa, pz, ps]
   refine rdy [8] (arc 118 rfl (fun K hK => ?_) AllReadyH.nil)
   go_simp; go_at_call 80; refine (za _ _ _ _ _ _ w7 R110.out.rd R116.out.rd R117.out.rd (by (try simp only [la, lc, ln]); omega) (by (try simp only [la, lc, ln]); omega) (by (try simp only [la, lc, ln]); omega)).mono ?_; rintro e w8 ⟨v118, rfl, s118, b8⟩; have B8 := bN hHeld.1 b8; have R118 := rS s118
   replace R110 := rB R110 b8; replace R116 := rB R116 b8; replace R117 := rB R117 b8
   have S118 := sM s118 hHeld.1.size
   clear b8 s118
   clear hHeld; refine hK.out _ _ (KP _ B8.out) (fun hHeld => ?_); clear hK K; try simp only [Act.put, pa, pz, ps]
   refine tkm 9 4 (v118) hHeld rfl ?_; try simp only [Act.put, pa, pz, ps]
   have R4 := R118; clear R118
   have S4 := S118; clear S118
   refine wpAnyH_done (by kernel_rfl) ?_ _
   go_wp2
   go_ret
   exact ⟨_, rfl, by rw [HE.out]; exact S4.out.mono (by omega), B0.out.trans (B8.out.mono (by omega))⟩
 ·go_simp; go_at_call 36; refine (HR.out w1 0 (by omega) hHeld.1).mono ?_; rintro e w9 ⟨v116, rfl, s116, b9⟩; have B9 := bN hHeld.1 b9; have R116 := rS s116
  clear b9 s116
  clear hHeld; refine hK.out _ _ (KP _ B9.out) (fun hHeld => ?_); clear hK K; try simp only [Act.put, pa, pz, ps]
  refine rdy [0, 7] (arc 110 rfl (fun K hK => ?_) (arc 117 rfl (fun K hK => ?_) AllReadyH.nil))
  ·go_simp; obtain ⟨w10, h10, b10, B10, R110⟩ := nB hHeld.1 [⟨#[114, 101, 116, 117, 114, 110]⟩] #[.string ⟨#[114, 101, 116, 117, 114, 110]⟩] rfl rfl; rw [<- h10]; clear h10
   replace R116 := rB R116 b10
   clear b10
   clear hHeld; refine hK.out _ _ (KP _ B10.out) (fun hHeld => ?_); clear hK K; try simp only [Act.put, pa, pz, ps]
   refine rdy [7] (arc 117 rfl (fun K hK => ?_) AllReadyH.nil)
   go_simp; obtain ⟨w11, h11, b11, B11, R117⟩ := nB hHeld.1 [⟨#[59]⟩] #[.string ⟨#[59]⟩] rfl rfl; rw [<- h11]; clear h11
   replace R110 := rB R110 b11; replace R116 := rB R116 b11
   clear b11
   clear hHeld; refine hK.out _ _ (KP _ B11.out) (fun hHeld => ?_); clear hK K; try simp only [Act.put, pa, pz, ps]
   refine rdy [8] (arc 118 rfl (fun K hK => ?_) AllReadyH.nil)
   go_simp; go_at_call 80; refine (za _ _ _ _ _ _ w11 R110.out.rd R116.out.rd R117.out.rd (by (try simp only [la, lc, ln]); omega) (by (try simp only [la, lc, ln]); omega) (by (try simp only [la, lc, ln]); omega)).mono ?_; rintro e w12 ⟨v118, rfl, s118, b12⟩; have B12 := bN hHeld.1 b12; have R118 := rS s118
   replace R110 := rB R110 b12; replace R116 := rB R116 b12; replace R117 := rB R117 b12
   have S118 := sM s118 hHeld.1.size
   clear b12 s118
   clear hHeld; refine hK.out _ _ (KP _ B12.out) (fun hHeld => ?_); clear hK K; try simp only [Act.put, pa, pz, ps]
   refine tkm 9 4 (v118) hHeld rfl ?_; try simp only [Act.put, pa, pz, ps]
   have R4 := R118; clear R118
   have S4 := S118; clear S118
   refine wpAnyH_done (by kernel_rfl) ?_ _
   go_wp2
   go_ret
   exact ⟨_, rfl, by rw [HE.out]; exact S4.out.mono (by omega), B0.out.trans (B12.out.mono (by omega))⟩
  ·go_simp; obtain ⟨w13, h13, b13, B13, R117⟩ := nB hHeld.1 [⟨#[59]⟩] #[.string ⟨#[59]⟩] rfl rfl; rw [<- h13]; clear h13
   replace R116 := rB R116 b13
   clear b13
   clear hHeld; refine hK.out _ _ (KP _ B13.out) (fun hHeld => ?_); clear hK K; try simp only [Act.put, pa, pz, ps]
   refine rdy [0] (arc 110 rfl (fun K hK => ?_) AllReadyH.nil)
   go_simp; obtain ⟨w14, h14, b14, B14, R110⟩ := nB hHeld.1 [⟨#[114, 101, 116, 117, 114, 110]⟩] #[.string ⟨#[114, 101, 116, 117, 114, 110]⟩] rfl rfl; rw [<- h14]; clear h14
   replace R116 := rB R116 b14; replace R117 := rB R117 b14
   clear b14
   clear hHeld; refine hK.out _ _ (KP _ B14.out) (fun hHeld => ?_); clear hK K; try simp only [Act.put, pa, pz, ps]
   refine rdy [8] (arc 118 rfl (fun K hK => ?_) AllReadyH.nil)
   go_simp; go_at_call 80; refine (za _ _ _ _ _ _ w14 R110.out.rd R116.out.rd R117.out.rd (by (try simp only [la, lc, ln]); omega) (by (try simp only [la, lc, ln]); omega) (by (try simp only [la, lc, ln]); omega)).mono ?_; rintro e w15 ⟨v118, rfl, s118, b15⟩; have B15 := bN hHeld.1 b15; have R118 := rS s118
   replace R110 := rB R110 b15; replace R116 := rB R116 b15; replace R117 := rB R117 b15
   have S118 := sM s118 hHeld.1.size
   clear b15 s118
   clear hHeld; refine hK.out _ _ (KP _ B15.out) (fun hHeld => ?_); clear hK K; try simp only [Act.put, pa, pz, ps]
   refine tkm 9 4 (v118) hHeld rfl ?_; try simp only [Act.put, pa, pz, ps]
   have R4 := R118; clear R118
   have S4 := S118; clear S118
   refine wpAnyH_done (by kernel_rfl) ?_ _
   go_wp2
   go_ret
   exact ⟨_, rfl, by rw [HE.out]; exact S4.out.mono (by omega), B0.out.trans (B15.out.mono (by omega))⟩
 ·go_simp; obtain ⟨w16, h16, b16, B16, R117⟩ := nB hHeld.1 [⟨#[59]⟩] #[.string ⟨#[59]⟩] rfl rfl; rw [<- h16]; clear h16
  clear b16
  clear hHeld; refine hK.out _ _ (KP _ B16.out) (fun hHeld => ?_); clear hK K; try simp only [Act.put, pa, pz, ps]
  refine rdy [0, 6] (arc 110 rfl (fun K hK => ?_) (arc 116 rfl (fun K hK => ?_) AllReadyH.nil))
  ·go_simp; obtain ⟨w17, h17, b17, B17, R110⟩ := nB hHeld.1 [⟨#[114, 101, 116, 117, 114, 110]⟩] #[.string ⟨#[114, 101, 116, 117, 114, 110]⟩] rfl rfl; rw [<- h17]; clear h17
   replace R117 := rB R117 b17
   clear b17
   clear hHeld; refine hK.out _ _ (KP _ B17.out) (fun hHeld => ?_); clear hK K; try simp only [Act.put, pa, pz, ps]
   refine rdy [6] (arc 116 rfl (fun K hK => ?_) AllReadyH.nil)
   go_simp; go_at_call 36; refine (HR.out w17 0 (by omega) hHeld.1).mono ?_; rintro e w18 ⟨v116, rfl, s116, b18⟩; have B18 := bN hHeld.1 b18; have R116 := rS s116
   replace R110 := rB R110 b18; replace R117 := rB R117 b18
   clear b18 s116
   clear hHeld; refine hK.out _ _ (KP _ B18.out) (fun hHeld => ?_); clear hK K; try simp only [Act.put, pa, pz, ps]
   refine rdy [8] (arc 118 rfl (fun K hK => ?_) AllReadyH.nil)
   go_simp; go_at_call 80; refine (za _ _ _ _ _ _ w18 R110.out.rd R116.out.rd R117.out.rd (by (try simp only [la, lc, ln]); omega) (by (try simp only [la, lc, ln]); omega) (by (try simp only [la, lc, ln]); omega)).mono ?_; rintro e w19 ⟨v118, rfl, s118, b19⟩; have B19 := bN hHeld.1 b19; have R118 := rS s118
   replace R110 := rB R110 b19; replace R116 := rB R116 b19; replace R117 := rB R117 b19
   have S118 := sM s118 hHeld.1.size
   clear b19 s118
   clear hHeld; refine hK.out _ _ (KP _ B19.out) (fun hHeld => ?_); clear hK K; try simp only [Act.put, pa, pz, ps]
   refine tkm 9 4 (v118) hHeld rfl ?_; try simp only [Act.put, pa, pz, ps]
   have R4 := R118; clear R118
   have S4 := S118; clear S118
   refine wpAnyH_done (by kernel_rfl) ?_ _
   go_wp2
   go_ret
   exact ⟨_, rfl, by rw [HE.out]; exact S4.out.mono (by omega), B0.out.trans (B19.out.mono (by omega))⟩
  ·go_simp; go_at_call 36; refine (HR.out w16 0 (by omega) hHeld.1).mono ?_; rintro e w20 ⟨v116, rfl, s116, b20⟩; have B20 := bN hHeld.1 b20; have R116 := rS s116
   replace R117 := rB R117 b20
   clear b20 s116
   clear hHeld; refine hK.out _ _ (KP _ B20.out) (fun hHeld => ?_); clear hK K; try simp only [Act.put, pa, pz, ps]
   refine rdy [0] (arc 110 rfl (fun K hK => ?_) AllReadyH.nil)
   go_simp; obtain ⟨w21, h21, b21, B21, R110⟩ := nB hHeld.1 [⟨#[114, 101, 116, 117, 114, 110]⟩] #[.string ⟨#[114, 101, 116, 117, 114, 110]⟩] rfl rfl; rw [<- h21]; clear h21
   replace R116 := rB R116 b21; replace R117 := rB R117 b21
   clear b21
   clear hHeld; refine hK.out _ _ (KP _ B21.out) (fun hHeld => ?_); clear hK K; try simp only [Act.put, pa, pz, ps]
   refine rdy [8] (arc 118 rfl (fun K hK => ?_) AllReadyH.nil)
   go_simp; go_at_call 80; refine (za _ _ _ _ _ _ w21 R110.out.rd R116.out.rd R117.out.rd (by (try simp only [la, lc, ln]); omega) (by (try simp only [la, lc, ln]); omega) (by (try simp only [la, lc, ln]); omega)).mono ?_; rintro e w22 ⟨v118, rfl, s118, b22⟩; have B22 := bN hHeld.1 b22; have R118 := rS s118
   replace R110 := rB R110 b22; replace R116 := rB R116 b22; replace R117 := rB R117 b22
   have S118 := sM s118 hHeld.1.size
   clear b22 s118
   clear hHeld; refine hK.out _ _ (KP _ B22.out) (fun hHeld => ?_); clear hK K; try simp only [Act.put, pa, pz, ps]
   refine tkm 9 4 (v118) hHeld rfl ?_; try simp only [Act.put, pa, pz, ps]
   have R4 := R118; clear R118
   have S4 := S118; clear S118
   refine wpAnyH_done (by kernel_rfl) ?_ _
   go_wp2
   go_ret
   exact ⟨_, rfl, by rw [HE.out]; exact S4.out.mono (by omega), B0.out.trans (B22.out.mono (by omega))⟩
set_option maxHeartbeats 4000000 in
theorem zk2 (a : Option Addr) (L c : Nat) (top : Int) (t : ByteArray) (i : Int) (ak : Option Addr) (ck : Nat) (y : Nat -> Int) (rec : Int -> List ByteArray) (T : Nat) (w : World) (hk : SlF T w (.slice ak (1) ck) (1) (1) (fun i => .int .i64 (y i))) (hT : T <= w.heap.size) (hc1 : 1 <= ck) (hc2 : ck <= 1048576) (hs : smN rec y (1) <= 100000)
 (hr : ∀ (V : World) (m : Nat), m < 1 -> Below w.heap.size w V -> Calls Tryd.prog 36 #[.agg #[.slice a L c, .int .i64 top], .int .i64 (y m)] V (zc V (rec (y m)))) :
 Calls Tryd.prog 79 #[.agg #[.slice a L c, .int .i64 top], .agg #[.int .i64 20, .string t, .int .i64 i, .slice ak (1) ck]] w (zc w (bod rec ⟨20, t, i, 1, y⟩)) := by
 obtain ⟨bk, ok, ck2, hv, tk1, lk, hkk⟩ := hk.parts (k := 0) (by omega)
 simp only [Value.slice.injEq] at hv
 obtain ⟨rfl, _, rfl⟩ := hv
 have yc0 := hkk 0 (by omega)
 rw [Nat.add_zero] at yc0
 have n0 : (rec (y 0)).length <= 100000 := Nat.le_trans (smA rec y (by omega : 0 < 1)) hs
 have HE : Hid (bod rec ⟨20, t, i, 1, y⟩ = [] ++ rec (y 0) ++ [⟨#[59]⟩]) := by show bod _ _ = _; simp [bod, opB]
 obtain ⟨W0, hW0⟩ : ∃ V, V = (w.alloc (.cells #[.slice a L c, .int .i64 top] 41)).alloc (.cells #[.int .i64 20, .string t, .int .i64 i, .slice (some ⟨bk, ok, none⟩) 1 ck] 71) := ⟨_, rfl⟩
 have z0 : W0.heap.size = w.heap.size + 2 := by rw [hW0]; simp
 have B0 : Hid (Below w.heap.size w W0) := by rw [hW0]; exact ((Below.refl _ _).alloc (Nat.le_refl _) _).alloc (by simp) _
 have T0 : ∀ z, W0.cell? ⟨w.heap.size, z, none⟩ = (#[.slice a L c, .int .i64 top] : Array Value)[z]? := fun z => by rw [hW0]; simp [go_sem]
 have K0 : ∀ z, W0.cell? ⟨w.heap.size + 1, z, none⟩ = (#[.int .i64 20, .string t, .int .i64 i, .slice (some ⟨bk, ok, none⟩) 1 ck] : Array Value)[z]? := fun z => by rw [hW0]; simp [go_sem]
 have HR : Hid (∀ (V : World) (m : Nat), m < 1 -> Below W0.heap.size W0 V -> Calls Tryd.prog 36 #[.agg #[.slice a L c, .int .i64 top], .int .i64 (y m)] V (zc V (rec (y m)))) := fun V m hm hV => hr V m hm (B0.out.trans (hV.mono (by omega)))
 have BK : Hid (∀ V, Below W0.heap.size W0 V -> Below w.heap.size w V) := fun V hV => B0.out.trans (hV.mono (by omega))
 have KP : ∀ V, Below W0.heap.size W0 V -> (SQ1 W0 w.heap.size #[.slice a L c, .int .i64 top] #[.int .i64 20, .string t, .int .i64 i, .slice (some ⟨bk, ok, none⟩) 1 ck] bk (ok) (y 0)) V := fun V hV => ⟨hV, fun z => (hV.cell (p := ⟨w.heap.size, z, none⟩) (by dsimp only; omega)).trans (T0 z), fun z => (hV.cell (p := ⟨w.heap.size + 1, z, none⟩) (by dsimp only; omega)).trans (K0 z), ((BK.out V hV).cell (p := ⟨bk, ok, none⟩) (by dsimp only; omega)).trans yc0⟩
 have KP' : Hid (∀ V, Below W0.heap.size W0 V -> (SQ1 W0 w.heap.size #[.slice a L c, .int .i64 top] #[.int .i64 20, .string t, .int .i64 i, .slice (some ⟨bk, ok, none⟩) 1 ck] bk (ok) (y 0)) V) := KP
 clear hk hr hs hkk KP T0 K0 yc0
 have BW : Hid (Below W0.heap.size W0 W0) := Below.refl _ _
 go_enter Tryd.func79, Tryd.ntmps79
 go_wp2_with fail
 rw [<- hW0]
 clear hW0
 have KP := KP'.out
 clear KP'
 refine wp_region_held_drew (by kernel_rfl) (KP _ BW.out.drew) (fun hHeld => ?_); obtain ⟨w1, h1, b1⟩ := dR W0; rw [<- h1] at hHeld ⊢; clear h1
 clear b1
 refine tkm 0 119 (.agg #[.slice a L c, .int .i64 top]) hHeld rfl ?_; try simp only [Act.put, pa, pz, ps]
 refine tkm 1 120 (.pointer (some ⟨w.heap.size + 1, 3, none⟩)) hHeld rfl ?_; try simp only [Act.put, pa, pz, ps]
 refine tkm 2 121 (.slice (some ⟨bk, ok, none⟩) 1 ck) hHeld rfl ?_; try simp only [Act.put, pa, pz, ps]
 refine tkm 3 122 (.pointer (some ⟨bk, ok, none⟩)) hHeld rfl ?_; try simp only [Act.put, pa, pz, ps]
 refine tkm 4 123 (.int .i64 (y 0)) hHeld rfl ?_; try simp only [Act.put, pa, pz, ps]
 refine rdy [5, 6] (arc 124 rfl (fun K hK => ?_) (arc 125 rfl (fun K hK => ?_) AllReadyH.nil))
 ·go_simp; go_at_call 36; refine (HR.out w1 0 (by omega) hHeld.1).mono ?_; rintro e w2 ⟨v124, rfl, s124, b2⟩; have B2 := bN hHeld.1 b2; have R124 := rS s124
  clear b2 s124
  clear hHeld; refine hK.out _ _ (KP _ B2.out) (fun hHeld => ?_); clear hK K; try simp only [Act.put, pa, pz, ps]
  refine rdy [6] (arc 125 rfl (fun K hK => ?_) AllReadyH.nil)
  go_simp; obtain ⟨w3, h3, b3, B3, R125⟩ := nB hHeld.1 [⟨#[59]⟩] #[.string ⟨#[59]⟩] rfl rfl; rw [<- h3]; clear h3
  replace R124 := rB R124 b3
  clear b3
  clear hHeld; refine hK.out _ _ (KP _ B3.out) (fun hHeld => ?_); clear hK K; try simp only [Act.put, pa, pz, ps]
  refine rdy [7] (arc 126 rfl (fun K hK => ?_) AllReadyH.nil)
  go_simp; go_at_call 80; refine (za _ _ _ _ _ _ w3 (RdS.nil _) R124.out.rd R125.out.rd (by (try simp only [la, lc, ln]); omega) (by (try simp only [la, lc, ln]); omega) (by (try simp only [la, lc, ln]); omega)).mono ?_; rintro e w4 ⟨v126, rfl, s126, b4⟩; have B4 := bN hHeld.1 b4; have R126 := rS s126
  replace R124 := rB R124 b4; replace R125 := rB R125 b4
  have S126 := sM s126 hHeld.1.size
  clear b4 s126
  clear hHeld; refine hK.out _ _ (KP _ B4.out) (fun hHeld => ?_); clear hK K; try simp only [Act.put, pa, pz, ps]
  refine tkm 8 4 (v126) hHeld rfl ?_; try simp only [Act.put, pa, pz, ps]
  have R4 := R126; clear R126
  have S4 := S126; clear S126
  refine wpAnyH_done (by kernel_rfl) ?_ _
  go_wp2
  go_ret
  exact ⟨_, rfl, by rw [HE.out]; exact S4.out.mono (by omega), B0.out.trans (B4.out.mono (by omega))⟩
 ·go_simp; obtain ⟨w5, h5, b5, B5, R125⟩ := nB hHeld.1 [⟨#[59]⟩] #[.string ⟨#[59]⟩] rfl rfl; rw [<- h5]; clear h5
  clear b5
  clear hHeld; refine hK.out _ _ (KP _ B5.out) (fun hHeld => ?_); clear hK K; try simp only [Act.put, pa, pz, ps]
  refine rdy [5] (arc 124 rfl (fun K hK => ?_) AllReadyH.nil)
  go_simp; go_at_call 36; refine (HR.out w5 0 (by omega) hHeld.1).mono ?_; rintro e w6 ⟨v124, rfl, s124, b6⟩; have B6 := bN hHeld.1 b6; have R124 := rS s124
  replace R125 := rB R125 b6
  clear b6 s124
  clear hHeld; refine hK.out _ _ (KP _ B6.out) (fun hHeld => ?_); clear hK K; try simp only [Act.put, pa, pz, ps]
  refine rdy [7] (arc 126 rfl (fun K hK => ?_) AllReadyH.nil)
  go_simp; go_at_call 80; refine (za _ _ _ _ _ _ w6 (RdS.nil _) R124.out.rd R125.out.rd (by (try simp only [la, lc, ln]); omega) (by (try simp only [la, lc, ln]); omega) (by (try simp only [la, lc, ln]); omega)).mono ?_; rintro e w7 ⟨v126, rfl, s126, b7⟩; have B7 := bN hHeld.1 b7; have R126 := rS s126
  replace R124 := rB R124 b7; replace R125 := rB R125 b7
  have S126 := sM s126 hHeld.1.size
  clear b7 s126
  clear hHeld; refine hK.out _ _ (KP _ B7.out) (fun hHeld => ?_); clear hK K; try simp only [Act.put, pa, pz, ps]
  refine tkm 8 4 (v126) hHeld rfl ?_; try simp only [Act.put, pa, pz, ps]
  have R4 := R126; clear R126
  have S4 := S126; clear S126
  refine wpAnyH_done (by kernel_rfl) ?_ _
  go_wp2
  go_ret
  exact ⟨_, rfl, by rw [HE.out]; exact S4.out.mono (by omega), B0.out.trans (B7.out.mono (by omega))⟩
end Go.Proofs.YtiglkhkfbgjjoaaDoor
