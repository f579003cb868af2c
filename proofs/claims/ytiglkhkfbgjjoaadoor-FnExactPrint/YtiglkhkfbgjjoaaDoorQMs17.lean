/- - -/
import Derived.Test.YtiglkhkfbgjjoaaDoorQMtA
namespace Go.Proofs.YtiglkhkfbgjjoaaDoor
set_option maxRecDepth 20000
open Go.RowKit Go.PlainAid Go.Maps
set_option linter.unusedSimpArgs false
set_option linter.unusedVariables false
set_option maxHeartbeats 4000000 in
theorem zkz (a : Option Addr) (L c : Nat) (top : Int) (t : ByteArray) (i : Int) (ak : Option Addr) (ck : Nat) (y : Nat -> Int) (rec : Int -> List ByteArray) (T : Nat) (w : World) (hk : SlF T w (.slice ak (2) ck) (2) (2) (fun i => .int .i64 (y i))) (hT : T <= w.heap.size) (hc1 : 2 <= ck) (hc2 : ck <= 1048576) (hs : smN rec y (2) <= 100000)
 (hr : ∀ (V : World) (m : Nat), m < 2 -> Below w.heap.size w V -> Calls Tryd.prog 36 #[.agg #[.slice a L c, .int .i64 top], .int .i64 (y m)] V (zc V (rec (y m)))) :
 Calls Tryd.prog 79 #[.agg #[.slice a L c, .int .i64 top], .agg #[.int .i64 17, .string t, .int .i64 i, .slice ak (2) ck]] w (zc w (bod rec ⟨17, t, i, 2, y⟩)) := by
 obtain ⟨bk, ok, ck2, hv, tk1, lk, hkk⟩ := hk.parts (k := 0) (by omega)
 simp only [Value.slice.injEq] at hv
 obtain ⟨rfl, _, rfl⟩ := hv
 have yc0 := hkk 0 (by omega)
 rw [Nat.add_zero] at yc0
 have yc1 := hkk 1 (by omega)
 have n0 : (rec (y 0)).length <= 100000 := Nat.le_trans (smA rec y (by omega : 0 < 2)) hs
 have n1 : (rec (y 1)).length <= 100000 := Nat.le_trans (smA rec y (by omega : 1 < 2)) hs
 have HE : Hid (bod rec ⟨17, t, i, 2, y⟩ = [⟨#[105, 102]⟩] ++ rec (y 0) ++ rec (y 1)) := by show bod _ _ = _; simp [bod, opB]
 obtain ⟨W0, hW0⟩ : ∃ V, V = (w.alloc (.cells #[.slice a L c, .int .i64 top] 41)).alloc (.cells #[.int .i64 17, .string t, .int .i64 i, .slice (some ⟨bk, ok, none⟩) 2 ck] 71) := ⟨_, rfl⟩
 have z0 : W0.heap.size = w.heap.size + 2 := by rw [hW0]; simp
 have B0 : Hid (Below w.heap.size w W0) := by rw [hW0]; exact ((Below.refl _ _).alloc (Nat.le_refl _) _).alloc (by simp) _
 have T0 : ∀ z, W0.cell? ⟨w.heap.size, z, none⟩ = (#[.slice a L c, .int .i64 top] : Array Value)[z]? := fun z => by rw [hW0]; simp [go_sem]
 have K0 : ∀ z, W0.cell? ⟨w.heap.size + 1, z, none⟩ = (#[.int .i64 17, .string t, .int .i64 i, .slice (some ⟨bk, ok, none⟩) 2 ck] : Array Value)[z]? := fun z => by rw [hW0]; simp [go_sem]
 have HR : Hid (∀ (V : World) (m : Nat), m < 2 -> Below W0.heap.size W0 V -> Calls Tryd.prog 36 #[.agg #[.slice a L c, .int .i64 top], .int .i64 (y m)] V (zc V (rec (y m)))) := fun V m hm hV => hr V m hm (B0.out.trans (hV.mono (by omega)))
 have BK : Hid (∀ V, Below W0.heap.size W0 V -> Below w.heap.size w V) := fun V hV => B0.out.trans (hV.mono (by omega))
 have KP : ∀ V, Below W0.heap.size W0 V -> (SQ2 W0 w.heap.size #[.slice a L c, .int .i64 top] #[.int .i64 17, .string t, .int .i64 i, .slice (some ⟨bk, ok, none⟩) 2 ck] bk (ok) (y 0) (ok + 1) (y 1)) V := fun V hV => ⟨hV, fun z => (hV.cell (p := ⟨w.heap.size, z, none⟩) (by dsimp only; omega)).trans (T0 z), fun z => (hV.cell (p := ⟨w.heap.size + 1, z, none⟩) (by dsimp only; omega)).trans (K0 z), ((BK.out V hV).cell (p := ⟨bk, ok, none⟩) (by dsimp only; omega)).trans yc0, ((BK.out V hV).cell (p := ⟨bk, ok + 1, none⟩) (by dsimp only; omega)).trans yc1⟩
 have KP' : Hid (∀ V, Below W0.heap.size W0 V -> (SQ2 W0 w.heap.size #[.slice a L c, .int .i64 top] #[.int .i64 17, .string t, .int .i64 i, .slice (some ⟨bk, ok, none⟩) 2 ck] bk (ok) (y 0) (ok + 1) (y 1)) V) := KP
 clear hk hr hs hkk KP T0 K0 yc0 yc1
 have BW : Hid (Below W0.heap.size W0 W0) := Below.refl _ _
 go_enter Tryd.func79, Tryd.ntmps79
 go_wp2_with fail
 rw [<- hW0]
 clear hW0
 have KP := KP'.out
 clear KP'
 refine wp_region_held_drew (by kernel_rfl) (KP _ BW.out.drew) (fun hHeld => ?_); obtain ⟨w1, h1, b1⟩ := dR W0; rw [<- h1] at hHeld ⊢; clear h1
 clear b1
 refine tkm 1 65 (.agg #[.slice a L c, .int .i64 top]) hHeld rfl ?_; try simp only [Act.put, pa, pz, ps]
 refine tkm 2 66 (.pointer (some ⟨w.heap.size + 1, 3, none⟩)) hHeld rfl ?_; try simp only [Act.put, pa, pz, ps]
 refine tkm 3 67 (.slice (some ⟨bk, ok, none⟩) 2 ck) hHeld rfl ?_; try simp only [Act.put, pa, pz, ps]
 refine tkm 4 68 (.pointer (some ⟨bk, ok, none⟩)) hHeld rfl ?_; try simp only [Act.put, pa, pz, ps]
 refine tkm 5 69 (.int .i64 (y 0)) hHeld rfl ?_; try simp only [Act.put, pa, pz, ps]
 refine tkm 7 71 (.agg #[.slice a L c, .int .i64 top]) hHeld rfl ?_; try simp only [Act.put, pa, pz, ps]
 refine tkm 8 72 (.pointer (some ⟨w.heap.size + 1, 3, none⟩)) hHeld rfl ?_; try simp only [Act.put, pa, pz, ps]
 refine tkm 9 73 (.slice (some ⟨bk, ok, none⟩) 2 ck) hHeld rfl ?_; try simp only [Act.put, pa, pz, ps]
 refine tkm 10 74 (.pointer (some ⟨bk, ok + 1, none⟩)) hHeld rfl ?_; try simp only [Act.put, pa, pz, ps]
 refine tkm 11 75 (.int .i64 (y 1)) hHeld rfl ?_; try simp only [Act.put, pa, pz, ps]
 refine rdy [0, 6] (arc 64 rfl (fun K hK => ?_) (arc 70 rfl (fun K hK => ?_) AllReadyH.nil))
 ·go_simp; obtain ⟨w2, h2, b2, B2, R64⟩ := nB hHeld.1 [⟨#[105, 102]⟩] #[.string ⟨#[105, 102]⟩] rfl rfl; rw [<- h2]; clear h2
  clear b2
  clear hHeld; refine hK.out _ _ (KP _ B2.out) (fun hHeld => ?_); clear hK K; try simp only [Act.put, pa, pz, ps]
  refine rdy [6] (arc 70 rfl (fun K hK => ?_) AllReadyH.nil)
  go_simp; go_at_call 36; refine (HR.out w2 0 (by omega) hHeld.1).mono ?_; rintro e w3 ⟨v70, rfl, s70, b3⟩; have B3 := bN hHeld.1 b3; have R70 := rS s70
  replace R64 := rB R64 b3
  clear b3 s70
  clear hHeld; refine hK.out _ _ (KP _ B3.out) (fun hHeld => ?_); clear hK K; try simp only [Act.put, pa, pz, ps]
  refine rdy [12] (arc 76 rfl (fun K hK => ?_) AllReadyH.nil)
  go_simp; go_at_call 36; refine (HR.out w3 1 (by omega) hHeld.1).mono ?_; rintro e w4 ⟨v76, rfl, s76, b4⟩; have B4 := bN hHeld.1 b4; have R76 := rS s76
  replace R64 := rB R64 b4; replace R70 := rB R70 b4
  clear b4 s76
  clear hHeld; refine hK.out _ _ (KP _ B4.out) (fun hHeld => ?_); clear hK K; try simp only [Act.put, pa, pz, ps]
  refine rdy [13] (arc 77 rfl (fun K hK => ?_) AllReadyH.nil)
  go_simp; go_at_call 80; refine (za _ _ _ _ _ _ w4 R64.out.rd R70.out.rd R76.out.rd (by (try simp only [la, lc, ln]); omega) (by (try simp only [la, lc, ln]); omega) (by (try simp only [la, lc, ln]); omega)).mono ?_; rintro e w5 ⟨v77, rfl, s77, b5⟩; have B5 := bN hHeld.1 b5; have R77 := rS s77
  replace R64 := rB R64 b5; replace R70 := rB R70 b5; replace R76 := rB R76 b5
  have S77 := sM s77 hHeld.1.size
  clear b5 s77
  clear hHeld; refine hK.out _ _ (KP _ B5.out) (fun hHeld => ?_); clear hK K; try simp only [Act.put, pa, pz, ps]
  refine tkm 14 6 (v77) hHeld rfl ?_; try simp only [Act.put, pa, pz, ps]
  have R6 := R77; clear R77
  have S6 := S77; clear S77
  refine wpAnyH_done (by kernel_rfl) ?_ _
  obtain ⟨-, tc, kc, -⟩ := KP _ B5.out; have lz := B5.out.size; have lz1 : w.heap.size + 1 < w5.heap.size := by omega
  go_wp2
  go_ret
  exact ⟨_, rfl, by rw [HE.out]; exact S6.out.mono (by omega), B0.out.trans (B5.out.mono (by omega))⟩
 ·go_simp; go_at_call 36; refine (HR.out w1 0 (by omega) hHeld.1).mono ?_; rintro e w6 ⟨v70, rfl, s70, b6⟩; have B6 := bN hHeld.1 b6; have R70 := rS s70
  clear b6 s70
  clear hHeld; refine hK.out _ _ (KP _ B6.out) (fun hHeld => ?_); clear hK K; try simp only [Act.put, pa, pz, ps]
  refine rdy [0, 12] (arc 64 rfl (fun K hK => ?_) (arc 76 rfl (fun K hK => ?_) AllReadyH.nil))
  ·go_simp; obtain ⟨w7, h7, b7, B7, R64⟩ := nB hHeld.1 [⟨#[105, 102]⟩] #[.string ⟨#[105, 102]⟩] rfl rfl; rw [<- h7]; clear h7
   replace R70 := rB R70 b7
   clear b7
   clear hHeld; refine hK.out _ _ (KP _ B7.out) (fun hHeld => ?_); clear hK K; try simp only [Act.put, pa, pz, ps]
   refine rdy [12] (arc 76 rfl (fun K hK => ?_) AllReadyH.nil)
   go_simp; go_at_call 36; refine (HR.out w7 1 (by omega) hHeld.1).mono ?_; rintro e w8 ⟨v76, rfl, s76, b8⟩; have B8 := bN hHeld.1 b8; have R76 := rS s76
   replace R64 := rB R64 b8; replace R70 := rB R70 b8
   clear b8 s76
   clear hHeld; refine hK.out _ _ (KP _ B8.out) (fun hHeld => ?_); clear hK K; try simp only [Act.put, pa, pz, ps]
   refine rdy [13] (arc 77 rfl (fun K hK => ?_) AllReadyH.nil)
   go_simp; go_at_call 80; refine (za _ _ _ _ _ _ w8 R64.out.rd R70.out.rd R76.out.rd (by (try simp only [la, lc, ln]); omega) (by (try simp only [la, lc, ln]); omega) (by (try simp only [la, lc, ln]); omega)).mono ?_; rintro e w9 ⟨v77, rfl, s77, b9⟩; have B9 := bN hHeld.1 b9; have R77 := rS s77
   replace R64 := rB R64 b9; replace R70 := rB R70 b9; replace R76 := rB R76 b9
   have S77 := sM s77 hHeld.1.size
   clear b9 s77
   clear hHeld; refine hK.out _ _ (KP _ B9.out) (fun hHeld => ?_); clear hK K; try simp only [Act.put, pa, pz, ps]
   refine tkm 14 6 (v77) hHeld rfl ?_; try simp only [Act.put, pa, pz, ps]
   have R6 := R77; clear R77
   have S6 := S77; clear S77
   refine wpAnyH_done (by kernel_rfl) ?_ _
   obtain ⟨-, tc, kc, -⟩ := KP _ B9.out; have lz := B9.out.size; have lz1 : w.heap.size + 1 < w9.heap.size := by omega
   go_wp2
   go_ret
   exact ⟨_, rfl, by rw [HE.out]; exact S6.out.mono (by omega), B0.out.trans (B9.out.mono (by omega))⟩
  ·go_simp; go_at_call 36; refine (HR.out w6 1 (by omega) hHeld.1).mono ?_; rintro e w10 ⟨v76, rfl, s76, b10⟩; have B10 := bN hHeld.1 b10; have R76 := rS s76
   replace R70 := rB R70 b10
   clear b10 s76
   clear hHeld; refine hK.out _ _ (KP _ B10.out) (fun hHeld => ?_); clear hK K; try simp only [Act.put, pa, pz, ps]
   refine rdy [0] (arc 64 rfl (fun K hK => ?_) AllReadyH.nil)
   go_simp; obtain ⟨w11, h11, b11, B11, R64⟩ := nB hHeld.1 [⟨#[105, 102]⟩] #[.string ⟨#[105, 102]⟩] rfl rfl; rw [<- h11]; clear h11
   replace R70 := rB R70 b11; replace R76 := rB R76 b11
   clear b11
   clear hHeld; refine hK.out _ _ (KP _ B11.out) (fun hHeld => ?_); clear hK K; try simp only [Act.put, pa, pz, ps]
   refine rdy [13] (arc 77 rfl (fun K hK => ?_) AllReadyH.nil)
   go_simp; go_at_call 80; refine (za _ _ _ _ _ _ w11 R64.out.rd R70.out.rd R76.out.rd (by (try simp only [la, lc, ln]); omega) (by (try simp only [la, lc, ln]); omega) (by (try simp only [la, lc, ln]); omega)).mono ?_; rintro e w12 ⟨v77, rfl, s77, b12⟩; have B12 := bN hHeld.1 b12; have R77 := rS s77
   replace R64 := rB R64 b12; replace R70 := rB R70 b12; replace R76 := rB R76 b12
   have S77 := sM s77 hHeld.1.size
   clear b12 s77
   clear hHeld; refine hK.out _ _ (KP _ B12.out) (fun hHeld => ?_); clear hK K; try simp only [Act.put, pa, pz, ps]
   refine tkm 14 6 (v77) hHeld rfl ?_; try simp only [Act.put, pa, pz, ps]
   have R6 := R77; clear R77
   have S6 := S77; clear S77
   refine wpAnyH_done (by kernel_rfl) ?_ _
   obtain ⟨-, tc, kc, -⟩ := KP _ B12.out; have lz := B12.out.size; have lz1 : w.heap.size + 1 < w12.heap.size := by omega
   go_wp2
   go_ret
   exact ⟨_, rfl, by rw [HE.out]; exact S6.out.mono (by omega), B0.out.trans (B12.out.mono (by omega))⟩
set_option maxHeartbeats 4000000 in
theorem zke (a : Option Addr) (L c : Nat) (top : Int) (t : ByteArray) (i : Int) (ak : Option Addr) (ck : Nat) (y : Nat -> Int) (rec : Int -> List ByteArray) (T : Nat) (w : World) (hk : SlF T w (.slice ak (3) ck) (3) (3) (fun i => .int .i64 (y i))) (hT : T <= w.heap.size) (hc1 : 3 <= ck) (hc2 : ck <= 1048576) (hs : smN rec y (3) <= 100000)
 (hr : ∀ (V : World) (m : Nat), m < 3 -> Below w.heap.size w V -> Calls Tryd.prog 36 #[.agg #[.slice a L c, .int .i64 top], .int .i64 (y m)] V (zc V (rec (y m)))) :
 Calls Tryd.prog 79 #[.agg #[.slice a L c, .int .i64 top], .agg #[.int .i64 17, .string t, .int .i64 i, .slice ak (3) ck]] w (zc w (bod rec ⟨17, t, i, 3, y⟩)) := by
 obtain ⟨bk, ok, ck2, hv, tk1, lk, hkk⟩ := hk.parts (k := 0) (by omega)
 simp only [Value.slice.injEq] at hv
 obtain ⟨rfl, _, rfl⟩ := hv
 have yc0 := hkk 0 (by omega)
 rw [Nat.add_zero] at yc0
 have yc1 := hkk 1 (by omega)
 have yc2 := hkk 2 (by omega)
 have n0 : (rec (y 0)).length <= 100000 := Nat.le_trans (smA rec y (by omega : 0 < 3)) hs
 have n1 : (rec (y 1)).length <= 100000 := Nat.le_trans (smA rec y (by omega : 1 < 3)) hs
 have n2 : (rec (y 2)).length <= 100000 := Nat.le_trans (smA rec y (by omega : 2 < 3)) hs
 have HE : Hid (bod rec ⟨17, t, i, 3, y⟩ = ([⟨#[105, 102]⟩] ++ rec (y 0) ++ rec (y 1)) ++ [⟨#[101, 108, 115, 101]⟩] ++ rec (y 2)) := by show bod _ _ = _; simp [bod, opB]
 obtain ⟨W0, hW0⟩ : ∃ V, V = (w.alloc (.cells #[.slice a L c, .int .i64 top] 41)).alloc (.cells #[.int .i64 17, .string t, .int .i64 i, .slice (some ⟨bk, ok, none⟩) 3 ck] 71) := ⟨_, rfl⟩
 have z0 : W0.heap.size = w.heap.size + 2 := by rw [hW0]; simp
 have B0 : Hid (Below w.heap.size w W0) := by rw [hW0]; exact ((Below.refl _ _).alloc (Nat.le_refl _) _).alloc (by simp) _
 have T0 : ∀ z, W0.cell? ⟨w.heap.size, z, none⟩ = (#[.slice a L c, .int .i64 top] : Array Value)[z]? := fun z => by rw [hW0]; simp [go_sem]
 have K0 : ∀ z, W0.cell? ⟨w.heap.size + 1, z, none⟩ = (#[.int .i64 17, .string t, .int .i64 i, .slice (some ⟨bk, ok, none⟩) 3 ck] : Array Value)[z]? := fun z => by rw [hW0]; simp [go_sem]
 have HR : Hid (∀ (V : World) (m : Nat), m < 3 -> Below W0.heap.size W0 V -> Calls Tryd.prog 36 #[.agg #[.slice a L c, .int .i64 top], .int .i64 (y m)] V (zc V (rec (y m)))) := fun V m hm hV => hr V m hm (B0.out.trans (hV.mono (by omega)))
 have BK : Hid (∀ V, Below W0.heap.size W0 V -> Below w.heap.size w V) := fun V hV => B0.out.trans (hV.mono (by omega))
 have KP : ∀ V, Below W0.heap.size W0 V -> (SQ3 W0 w.heap.size #[.slice a L c, .int .i64 top] #[.int .i64 17, .string t, .int .i64 i, .slice (some ⟨bk, ok, none⟩) 3 ck] bk (ok) (y 0) (ok + 1) (y 1) (ok + 2) (y 2)) V := fun V hV => ⟨hV, fun z => (hV.cell (p := ⟨w.heap.size, z, none⟩) (by dsimp only; omega)).trans (T0 z), fun z => (hV.cell (p := ⟨w.heap.size + 1, z, none⟩) (by dsimp only; omega)).trans (K0 z), ((BK.out V hV).cell (p := ⟨bk, ok, none⟩) (by dsimp only; omega)).trans yc0, ((BK.out V hV).cell (p := ⟨bk, ok + 1, none⟩) (by dsimp only; omega)).trans yc1, ((BK.out V hV).cell (p := ⟨bk, ok + 2, none⟩) (by dsimp only; omega)).trans yc2⟩
 have KP' : Hid (∀ V, Below W0.heap.size W0 V -> (SQ3 W0 w.heap.size #[.slice a L c, .int .i64 top] #[.int .i64 17, .string t, .int .i64 i, .slice (some ⟨bk, ok, none⟩) 3 ck] bk (ok) (y 0) (ok + 1) (y 1) (ok + 2) (y 2)) V) := KP
 clear hk hr hs hkk KP T0 K0 yc0 yc1 yc2
 have BW : Hid (Below W0.heap.size W0 W0) := Below.refl _ _
 go_enter Tryd.func79, Tryd.ntmps79
 go_wp2_with fail
 rw [<- hW0]
 clear hW0
 have KP := KP'.out
 clear KP'
 refine wp_region_held_drew (by kernel_rfl) (KP _ BW.out.drew) (fun hHeld => ?_); obtain ⟨w1, h1, b1⟩ := dR W0; rw [<- h1] at hHeld ⊢; clear h1
 clear b1
 refine tkm 1 65 (.agg #[.slice a L c, .int .i64 top]) hHeld rfl ?_; try simp only [Act.put, pa, pz, ps]
 refine tkm 2 66 (.pointer (some ⟨w.heap.size + 1, 3, none⟩)) hHeld rfl ?_; try simp only [Act.put, pa, pz, ps]
 refine tkm 3 67 (.slice (some ⟨bk, ok, none⟩) 3 ck) hHeld rfl ?_; try simp only [Act.put, pa, pz, ps]
 refine tkm 4 68 (.pointer (some ⟨bk, ok, none⟩)) hHeld rfl ?_; try simp only [Act.put, pa, pz, ps]
 refine tkm 5 69 (.int .i64 (y 0)) hHeld rfl ?_; try simp only [Act.put, pa, pz, ps]
 refine tkm 7 71 (.agg #[.slice a L c, .int .i64 top]) hHeld rfl ?_; try simp only [Act.put, pa, pz, ps]
 refine tkm 8 72 (.pointer (some ⟨w.heap.size + 1, 3, none⟩)) hHeld rfl ?_; try simp only [Act.put, pa, pz, ps]
 refine tkm 9 73 (.slice (some ⟨bk, ok, none⟩) 3 ck) hHeld rfl ?_; try simp only [Act.put, pa, pz, ps]
 refine tkm 10 74 (.pointer (some ⟨bk, ok + 1, none⟩)) hHeld rfl ?_; try simp only [Act.put, pa, pz, ps]
 refine tkm 11 75 (.int .i64 (y 1)) hHeld rfl ?_; try simp only [Act.put, pa, pz, ps]
 refine rdy [0, 6] (arc 64 rfl (fun K hK => ?_) (arc 70 rfl (fun K hK => ?_) AllReadyH.nil))
 ·go_simp; obtain ⟨w2, h2, b2, B2, R64⟩ := nB hHeld.1 [⟨#[105, 102]⟩] #[.string ⟨#[105, 102]⟩] rfl rfl; rw [<- h2]; clear h2
  clear b2
  clear hHeld; refine hK.out _ _ (KP _ B2.out) (fun hHeld => ?_); clear hK K; try simp only [Act.put, pa, pz, ps]
  refine rdy [6] (arc 70 rfl (fun K hK => ?_) AllReadyH.nil)
  go_simp; go_at_call 36; refine (HR.out w2 0 (by omega) hHeld.1).mono ?_; rintro e w3 ⟨v70, rfl, s70, b3⟩; have B3 := bN hHeld.1 b3; have R70 := rS s70
  replace R64 := rB R64 b3
  clear b3 s70
  clear hHeld; refine hK.out _ _ (KP _ B3.out) (fun hHeld => ?_); clear hK K; try simp only [Act.put, pa, pz, ps]
  refine rdy [12] (arc 76 rfl (fun K hK => ?_) AllReadyH.nil)
  go_simp; go_at_call 36; refine (HR.out w3 1 (by omega) hHeld.1).mono ?_; rintro e w4 ⟨v76, rfl, s76, b4⟩; have B4 := bN hHeld.1 b4; have R76 := rS s76
  replace R64 := rB R64 b4; replace R70 := rB R70 b4
  clear b4 s76
  clear hHeld; refine hK.out _ _ (KP _ B4.out) (fun hHeld => ?_); clear hK K; try simp only [Act.put, pa, pz, ps]
  refine rdy [13] (arc 77 rfl (fun K hK => ?_) AllReadyH.nil)
  go_simp; go_at_call 80; refine (za _ _ _ _ _ _ w4 R64.out.rd R70.out.rd R76.out.rd (by (try simp only [la, lc, ln]); omega) (by (try simp only [la, lc, ln]); omega) (by (try simp only [la, lc, ln]); omega)).mono ?_; rintro e w5 ⟨v77, rfl, s77, b5⟩; have B5 := bN hHeld.1 b5; have R77 := rS s77
  replace R64 := rB R64 b5; replace R70 := rB R70 b5; replace R76 := rB R76 b5
  have S77 := sM s77 hHeld.1.size
  clear b5 s77
  clear hHeld; refine hK.out _ _ (KP _ B5.out) (fun hHeld => ?_); clear hK K; try simp only [Act.put, pa, pz, ps]
  refine tkm 14 6 (v77) hHeld rfl ?_; try simp only [Act.put, pa, pz, ps]
  have R6 := R77; clear R77
  have S6 := S77; clear S77
  refine wpAnyH_done (by kernel_rfl) ?_ _
  clear R64; clear R70; clear R76; clear S6
  obtain ⟨-, tc, kc, -⟩ := KP _ B5.out; have lz := B5.out.size; have lz1 : w.heap.size + 1 < w5.heap.size := by omega
  go_wp2_with fail
  clear tc kc lz lz1
  refine wp_region_held_drew (by kernel_rfl) (KP _ B5.out.drew) (fun hHeld => ?_); obtain ⟨w6, h6, b6⟩ := dR w5; rw [<- h6] at hHeld ⊢; clear h6
  replace R6 := rB R6 b6
  clear b6
  refine tkm 0 82 (v77) hHeld rfl ?_; try simp only [Act.put, pa, pz, ps]
  have R82 := R6; clear R6
  refine tkm 2 84 (.agg #[.slice a L c, .int .i64 top]) hHeld rfl ?_; try simp only [Act.put, pa, pz, ps]
  refine tkm 3 85 (.pointer (some ⟨w.heap.size + 1, 3, none⟩)) hHeld rfl ?_; try simp only [Act.put, pa, pz, ps]
  refine tkm 4 86 (.slice (some ⟨bk, ok, none⟩) 3 ck) hHeld rfl ?_; try simp only [Act.put, pa, pz, ps]
  refine tkm 5 87 (.pointer (some ⟨bk, ok + 2, none⟩)) hHeld rfl ?_; try simp only [Act.put, pa, pz, ps]
  refine tkm 6 88 (.int .i64 (y 2)) hHeld rfl ?_; try simp only [Act.put, pa, pz, ps]
  refine rdy [1, 7] (arc 83 rfl (fun K hK => ?_) (arc 89 rfl (fun K hK => ?_) AllReadyH.nil))
  ·go_simp; obtain ⟨w7, h7, b7, B7, R83⟩ := nB hHeld.1 [⟨#[101, 108, 115, 101]⟩] #[.string ⟨#[101, 108, 115, 101]⟩] rfl rfl; rw [<- h7]; clear h7
   replace R82 := rB R82 b7
   clear b7
   clear hHeld; refine hK.out _ _ (KP _ B7.out) (fun hHeld => ?_); clear hK K; try simp only [Act.put, pa, pz, ps]
   refine rdy [7] (arc 89 rfl (fun K hK => ?_) AllReadyH.nil)
   go_simp; go_at_call 36; refine (HR.out w7 2 (by omega) hHeld.1).mono ?_; rintro e w8 ⟨v89, rfl, s89, b8⟩; have B8 := bN hHeld.1 b8; have R89 := rS s89
   replace R82 := rB R82 b8; replace R83 := rB R83 b8
   clear b8 s89
   clear hHeld; refine hK.out _ _ (KP _ B8.out) (fun hHeld => ?_); clear hK K; try simp only [Act.put, pa, pz, ps]
   refine rdy [8] (arc 90 rfl (fun K hK => ?_) AllReadyH.nil)
   go_simp; go_at_call 80; refine (za _ _ _ _ _ _ w8 R82.out.rd R83.out.rd R89.out.rd (by (try simp only [la, lc, ln]); omega) (by (try simp only [la, lc, ln]); omega) (by (try simp only [la, lc, ln]); omega)).mono ?_; rintro e w9 ⟨v90, rfl, s90, b9⟩; have B9 := bN hHeld.1 b9; have R90 := rS s90
   replace R82 := rB R82 b9; replace R83 := rB R83 b9; replace R89 := rB R89 b9
   have S90 := sM s90 hHeld.1.size
   clear b9 s90
   clear hHeld; refine hK.out _ _ (KP _ B9.out) (fun hHeld => ?_); clear hK K; try simp only [Act.put, pa, pz, ps]
   refine tkm 9 6 (v90) hHeld rfl ?_; try simp only [Act.put, pa, pz, ps]
   have R6 := R90; clear R90
   have S6 := S90; clear S90
   refine wpAnyH_done (by kernel_rfl) ?_ _
   obtain ⟨-, tc, kc, -⟩ := KP _ B9.out; have lz := B9.out.size; have lz1 : w.heap.size + 1 < w9.heap.size := by omega
   go_wp2
   go_ret
   exact ⟨_, rfl, by rw [HE.out]; exact S6.out.mono (by omega), B0.out.trans (B9.out.mono (by omega))⟩
  ·go_simp; go_at_call 36; refine (HR.out w6 2 (by omega) hHeld.1).mono ?_; rintro e w10 ⟨v89, rfl, s89, b10⟩; have B10 := bN hHeld.1 b10; have R89 := rS s89
   replace R82 := rB R82 b10
   clear b10 s89
   clear hHeld; refine hK.out _ _ (KP _ B10.out) (fun hHeld => ?_); clear hK K; try simp only [Act.put, pa, pz, ps]
   refine rdy [1] (arc 83 rfl (fun K hK => ?_) AllReadyH.nil)
   go_simp; obtain ⟨w11, h11, b11, B11, R83⟩ := nB hHeld.1 [⟨#[101, 108, 115, 101]⟩] #[.string ⟨#[101, 108, 115, 101]⟩] rfl rfl; rw [<- h11]; clear h11
   replace R82 := rB R82 b11; replace R89 := rB R89 b11
   clear b11
   clear hHeld; refine hK.out _ _ (KP _ B11.out) (fun hHeld => ?_); clear hK K; try simp only [Act.put, pa, pz, ps]
   refine rdy [8] (arc 90 rfl (fun K hK => ?_) AllReadyH.nil)
   go_simp; go_at_call 80; refine (za _ _ _ _ _ _ w11 R82.out.rd R83.out.rd R89.out.rd (by (try simp only [la, lc, ln]); omega) (by (try simp only [la, lc, ln]); omega) (by (try simp only [la, lc, ln]); omega)).mono ?_; rintro e w12 ⟨v90, rfl, s90, b12⟩; have B12 := bN hHeld.1 b12; have R90 := rS s90
   replace R82 := rB R82 b12; replace R83 := rB R83 b12; replace R89 := rB R89 b12
   have S90 := sM s90 hHeld.1.size
   clear b12 s90
   clear hHeld; refine hK.out _ _ (KP _ B12.out) (fun hHeld => ?_); clear hK K; try simp only [Act.put, pa, pz, ps]
   refine tkm 9 6 (v90) hHeld rfl ?_; try simp only [Act.put, pa, pz, ps]
   have R6 := R90; clear R90
   have S6 := S90; clear S90
   refine wpAnyH_done (by kernel_rfl) ?_ _
   obtain ⟨-, tc, kc, -⟩ := KP _ B12.out; have lz := B12.out.size; have lz1 : w.heap.size + 1 < w12.heap.size := by omega
   go_wp2
   go_ret
   exact ⟨_, rfl, by rw [HE.out]; exact S6.out.mono (by omega), B0.out.trans (B12.out.mono (by omega))⟩
 ·go_simp; go_at_call 36; refine (HR.out w1 0 (by omega) hHeld.1).mono ?_; rintro e w13 ⟨v70, rfl, s70, b13⟩; have B13 := bN hHeld.1 b13; have R70 := rS s70
  clear b13 s70
  clear hHeld; refine hK.out _ _ (KP _ B13.out) (fun hHeld => ?_); clear hK K; try simp only [Act.put, pa, pz, ps]
  refine rdy [0, 12] (arc 64 rfl (fun K hK => ?_) (arc 76 rfl (fun K hK => ?_) AllReadyH.nil))
  ·go_simp; obtain ⟨w14, h14, b14, B14, R64⟩ := nB hHeld.1 [⟨#[105, 102]⟩] #[.string ⟨#[105, 102]⟩] rfl rfl; rw [<- h14]; clear h14
   replace R70 := rB R70 b14
   clear b14
   clear hHeld; refine hK.out _ _ (KP _ B14.out) (fun hHeld => ?_); clear hK K; try simp only [Act.put, pa, pz, ps]
   refine rdy [12] (arc 76 rfl (fun K hK => ?_) AllReadyH.nil)
   go_simp; go_at_call 36; refine (HR.out w14 1 (by omega) hHeld.1).mono ?_; rintro e w15 ⟨v76, rfl, s76, b15⟩; have B15 := bN hHeld.1 b15; have R76 := rS s76
   replace R64 := rB R64 b15; replace R70 := rB R70 b15
   clear b15 s76
   clear hHeld; refine hK.out _ _ (KP _ B15.out) (fun hHeld => ?_); clear hK K; try simp only [Act.put, pa, pz, ps]
   refine rdy [13] (arc 77 rfl (fun K hK => ?_) AllReadyH.nil)
   go_simp; go_at_call 80; refine (za _ _ _ _ _ _ w15 R64.out.rd R70.out.rd R76.out.rd (by (try simp only [la, lc, ln]); omega) (by (try simp only [la, lc, ln]); omega) (by (try simp only [la, lc, ln]); omega)).mono ?_; rintro e w16 ⟨v77, rfl, s77, b16⟩; have B16 := bN hHeld.1 b16; have R77 := rS s77
   replace R64 := rB R64 b16; replace R70 := rB R70 b16; replace R76 := rB R76 b16
   have S77 := sM s77 hHeld.1.size
   clear b16 s77
   clear hHeld; refine hK.out _ _ (KP _ B16.out) (fun hHeld => ?_); clear hK K; try simp only [Act.put, pa, pz, ps]
   refine tkm 14 6 (v77) hHeld rfl ?_; try simp only [Act.put, pa, pz, ps]
   have R6 := R77; clear R77
   have S6 := S77; clear S77
   refine wpAnyH_done (by kernel_rfl) ?_ _
   clear R64; clear R70; clear R76; clear S6
   obtain ⟨-, tc, kc, -⟩ := KP _ B16.out; have lz := B16.out.size; have lz1 : w.heap.size + 1 < w16.heap.size := by omega
   go_wp2_with fail
   clear tc kc lz lz1
   refine wp_region_held_drew (by kernel_rfl) (KP _ B16.out.drew) (fun hHeld => ?_); obtain ⟨w17, h17, b17⟩ := dR w16; rw [<- h17] at hHeld ⊢; clear h17
   replace R6 := rB R6 b17
   clear b17
   refine tkm 0 82 (v77) hHeld rfl ?_; try simp only [Act.put, pa, pz, ps]
   have R82 := R6; clear R6
   refine tkm 2 84 (.agg #[.slice a L c, .int .i64 top]) hHeld rfl ?_; try simp only [Act.put, pa, pz, ps]
   refine tkm 3 85 (.pointer (some ⟨w.heap.size + 1, 3, none⟩)) hHeld rfl ?_; try simp only [Act.put, pa, pz, ps]
   refine tkm 4 86 (.slice (some ⟨bk, ok, none⟩) 3 ck) hHeld rfl ?_; try simp only [Act.put, pa, pz, ps]
   refine tkm 5 87 (.pointer (some ⟨bk, ok + 2, none⟩)) hHeld rfl ?_; try simp only [Act.put, pa, pz, ps]
   refine tkm 6 88 (.int .i64 (y 2)) hHeld rfl ?_; try simp only [Act.put, pa, pz, ps]
   refine rdy [1, 7] (arc 83 rfl (fun K hK => ?_) (arc 89 rfl (fun K hK => ?_) AllReadyH.nil))
   ·go_simp; obtain ⟨w18, h18, b18, B18, R83⟩ := nB hHeld.1 [⟨#[101, 108, 115, 101]⟩] #[.string ⟨#[101, 108, 115, 101]⟩] rfl rfl; rw [<- h18]; clear h18
    replace R82 := rB R82 b18
    clear b18
    clear hHeld; refine hK.out _ _ (KP _ B18.out) (fun hHeld => ?_); clear hK K; try simp only [Act.put, pa, pz, ps]
    refine rdy [7] (arc 89 rfl (fun K hK => ?_) AllReadyH.nil)
    go_simp; go_at_call 36; refine (HR.out w18 2 (by omega) hHeld.1).mono ?_; rintro e w19 ⟨v89, rfl, s89, b19⟩; have B19 := bN hHeld.1 b19; have R89 := rS s89
    replace R82 := rB R82 b19; replace R83 := rB R83 b19
    clear b19 s89
    clear hHeld; refine hK.out _ _ (KP _ B19.out) (fun hHeld => ?_); clear hK K; try simp only [Act.put, pa, pz, ps]
    refine rdy [8] (arc 90 rfl (fun K hK => ?_) AllReadyH.nil)
    go_simp; go_at_call 80; refine (za _ _ _ _ _ _ w19 R82.out.rd R83.out.rd R89.out.rd (by (try simp only [la, lc, ln]); omega) (by (try simp only [la, lc, ln]); omega) (by (try simp only [la, lc, ln]); omega)).mono ?_; rintro e w20 ⟨v90, rfl, s90, b20⟩; have B20 := bN hHeld.1 b20; have R90 := rS s90
    replace R82 := rB R82 b20; replace R83 := rB R83 b20; replace R89 := rB R89 b20
    have S90 := sM s90 hHeld.1.size
    clear b20 s90
    clear hHeld; refine hK.out _ _ (KP _ B20.out) (fun hHeld => ?_); clear hK K; try simp only [Act.put, pa, pz, ps]
    refine tkm 9 6 (v90) hHeld rfl ?_; try simp only [Act.put, pa, pz, ps]
    have R6 := R90; clear R90
    have S6 := S90; clear S90
    refine wpAnyH_done (by kernel_rfl) ?_ _
    obtain ⟨-, tc, kc, -⟩ := KP _ B20.out; have lz := B20.out.size; have lz1 : w.heap.size + 1 < w20.heap.size := by omega
    go_wp2
    go_ret
    exact ⟨_, rfl, by rw [HE.out]; exact S6.out.mono (by omega), B0.out.trans (B20.out.mono (by omega))⟩
   ·go_simp; go_at_call 36; refine (HR.out w17 2 (by omega) hHeld.1).mono ?_; rintro e w21 ⟨v89, rfl, s89, b21⟩; have B21 := bN hHeld.1 b21; have R89 := rS s89
    replace R82 := rB R82 b21
    clear b21 s89
    clear hHeld; refine hK.out _ _ (KP _ B21.out) (fun hHeld => ?_); clear hK K; try simp only [Act.put, pa, pz, ps]
    refine rdy [1] (arc 83 rfl (fun K hK => ?_) AllReadyH.nil)
    go_simp; obtain ⟨w22, h22, b22, B22, R83⟩ := nB hHeld.1 [⟨#[101, 108, 115, 101]⟩] #[.string ⟨#[101, 108, 115, 101]⟩] rfl rfl; rw [<- h22]; clear h22
    replace R82 := rB R82 b22; replace R89 := rB R89 b22
    clear b22
    clear hHeld; refine hK.out _ _ (KP _ B22.out) (fun hHeld => ?_); clear hK K; try simp only [Act.put, pa, pz, ps]
    refine rdy [8] (arc 90 rfl (fun K hK => ?_) AllReadyH.nil)
    go_simp; go_at_call 80; refine (za _ _ _ _ _ _ w22 R82.out.rd R83.out.rd R89.out.rd (by (try simp only [la, lc, ln]); omega) (by (try simp only [la, lc, ln]); omega) (by (try simp only [la, lc, ln]); omega)).mono ?_; rintro e w23 ⟨v90, rfl, s90, b23⟩; have B23 := bN hHeld.1 b23; have R90 := rS s90
    replace R82 := rB R82 b23; replace R83 := rB R83 b23; replace R89 := rB R89 b23
    have S90 := sM s90 hHeld.1.size
    clear b23 s90
    clear hHeld; refine hK.out _ _ (KP _ B23.out) (fun hHeld => ?_); clear hK K; try simp only [Act.put, pa, pz, ps]
    refine tkm 9 6 (v90) hHeld rfl ?_; try simp only [Act.put, pa, pz, ps]
    have R6 := R90; clear R90
    have S6 := S90; clear S90
    refine wpAnyH_done (by kernel_rfl) ?_ _
    obtain ⟨-, tc, kc, -⟩ := KP _ B23.out; have lz := B23.out.size; have lz1 : w.heap.size + 1 < w23.heap.size := by omega
    go_wp2
    go_ret
    exact ⟨_, rfl, by rw [HE.out]; exact S6.out.mono (by omega), B0.out.trans (B23.out.mono (by omega))⟩
  ·go_simp; go_at_call 36; refine (HR.out w13 1 (by omega) hHeld.1).mono ?_; rintro e w24 ⟨v76, rfl, s76, b24⟩; have B24 := bN hHeld.1 b24; have R76 := rS s76
   replace R70 := rB R70 b24
   clear b24 s76
   clear hHeld; refine hK.out _ _ (KP _ B24.out) (fun hHeld => ?_); clear hK K; try simp only [Act.put, pa, pz, ps]
   refine rdy [0] (arc 64 rfl (fun K hK => ?_) AllReadyH.nil)
   go_simp; obtain ⟨w25, h25, b25, B25, R64⟩ := nB hHeld.1 [⟨#[105, 102]⟩] #[.string ⟨#[105, 102]⟩] rfl rfl; rw [<- h25]; clear h25
   replace R70 := rB R70 b25; replace R76 := rB R76 b25
   clear b25
   clear hHeld; refine hK.out _ _ (KP _ B25.out) (fun hHeld => ?_); clear hK K; try simp only [Act.put, pa, pz, ps]
   refine rdy [13] (arc 77 rfl (fun K hK => ?_) AllReadyH.nil)
   go_simp; go_at_call 80; refine (za _ _ _ _ _ _ w25 R64.out.rd R70.out.rd R76.out.rd (by (try simp only [la, lc, ln]); omega) (by (try simp only [la, lc, ln]); omega) (by (try simp only [la, lc, ln]); omega)).mono ?_; rintro e w26 ⟨v77, rfl, s77, b26⟩; have B26 := bN hHeld.1 b26; have R77 := rS s77
   replace R64 := rB R64 b26; replace R70 := rB R70 b26; replace R76 := rB R76 b26
   have S77 := sM s77 hHeld.1.size
   clear b26 s77
   clear hHeld; refine hK.out _ _ (KP _ B26.out) (fun hHeld => ?_); clear hK K; try simp only [Act.put, pa, pz, ps]
   refine tkm 14 6 (v77) hHeld rfl ?_; try simp only [Act.put, pa, pz, ps]
   have R6 := R77; clear R77
   have S6 := S77; clear S77
   refine wpAnyH_done (by kernel_rfl) ?_ _
   clear R64; clear R70; clear R76; clear S6
   obtain ⟨-, tc, kc, -⟩ := KP _ B26.out; have lz := B26.out.size; have lz1 : w.heap.size + 1 < w26.heap.size := by omega
   go_wp2_with fail
   clear tc kc lz lz1
   refine wp_region_held_drew (by kernel_rfl) (KP _ B26.out.drew) (fun hHeld => ?_); obtain ⟨w27, h27, b27⟩ := dR w26; rw [<- h27] at hHeld ⊢; clear h27
   replace R6 := rB R6 b27
   clear b27
   refine tkm 0 82 (v77) hHeld rfl ?_; try simp only [Act.put, pa, pz, ps]
   have R82 := R6; clear R6
   refine tkm 2 84 (.agg #[.slice a L c, .int .i64 top]) hHeld rfl ?_; try simp only [Act.put, pa, pz, ps]
   refine tkm 3 85 (.pointer (some ⟨w.heap.size + 1, 3, none⟩)) hHeld rfl ?_; try simp only [Act.put, pa, pz, ps]
   refine tkm 4 86 (.slice (some ⟨bk, ok, none⟩) 3 ck) hHeld rfl ?_; try simp only [Act.put, pa, pz, ps]
   refine tkm 5 87 (.pointer (some ⟨bk, ok + 2, none⟩)) hHeld rfl ?_; try simp only [Act.put, pa, pz, ps]
   refine tkm 6 88 (.int .i64 (y 2)) hHeld rfl ?_; try simp only [Act.put, pa, pz, ps]
   refine rdy [1, 7] (arc 83 rfl (fun K hK => ?_) (arc 89 rfl (fun K hK => ?_) AllReadyH.nil))
   ·go_simp; obtain ⟨w28, h28, b28, B28, R83⟩ := nB hHeld.1 [⟨#[101, 108, 115, 101]⟩] #[.string ⟨#[101, 108, 115, 101]⟩] rfl rfl; rw [<- h28]; clear h28
    replace R82 := rB R82 b28
    clear b28
    clear hHeld; refine hK.out _ _ (KP _ B28.out) (fun hHeld => ?_); clear hK K; try simp only [Act.put, pa, pz, ps]
    refine rdy [7] (arc 89 rfl (fun K hK => ?_) AllReadyH.nil)
    go_simp; go_at_call 36; refine (HR.out w28 2 (by omega) hHeld.1).mono ?_; rintro e w29 ⟨v89, rfl, s89, b29⟩; have B29 := bN hHeld.1 b29; have R89 := rS s89
    replace R82 := rB R82 b29; replace R83 := rB R83 b29
    clear b29 s89
    clear hHeld; refine hK.out _ _ (KP _ B29.out) (fun hHeld => ?_); clear hK K; try simp only [Act.put, pa, pz, ps]
    refine rdy [8] (arc 90 rfl (fun K hK => ?_) AllReadyH.nil)
    go_simp; go_at_call 80; refine (za _ _ _ _ _ _ w29 R82.out.rd R83.out.rd R89.out.rd (by (try simp only [la, lc, ln]); omega) (by (try simp only [la, lc, ln]); omega) (by (try simp only [la, lc, ln]); omega)).mono ?_; rintro e w30 ⟨v90, rfl, s90, b30⟩; have B30 := bN hHeld.1 b30; have R90 := rS s90
    replace R82 := rB R82 b30; replace R83 := rB R83 b30; replace R89 := rB R89 b30
    have S90 := sM s90 hHeld.1.size
    clear b30 s90
    clear hHeld; refine hK.out _ _ (KP _ B30.out) (fun hHeld => ?_); clear hK K; try simp only [Act.put, pa, pz, ps]
    refine tkm 9 6 (v90) hHeld rfl ?_; try simp only [Act.put, pa, pz, ps]
    have R6 := R90; clear R90
    have S6 := S90; clear S90
    refine wpAnyH_done (by kernel_rfl) ?_ _
    obtain ⟨-, tc, kc, -⟩ := KP _ B30.out; have lz := B30.out.size; have lz1 : w.heap.size + 1 < w30.heap.size := by omega
    go_wp2
    go_ret
    exact ⟨_, rfl, by rw [HE.out]; exact S6.out.mono (by omega), B0.out.trans (B30.out.mono (by omega))⟩
   ·go_simp; go_at_call 36; refine (HR.out w27 2 (by omega) hHeld.1).mono ?_; rintro e w31 ⟨v89, rfl, s89, b31⟩; have B31 := bN hHeld.1 b31; have R89 := rS s89
    replace R82 := rB R82 b31
    clear b31 s89
    clear hHeld; refine hK.out _ _ (KP _ B31.out) (fun hHeld => ?_); clear hK K; try simp only [Act.put, pa, pz, ps]
    refine rdy [1] (arc 83 rfl (fun K hK => ?_) AllReadyH.nil)
    go_simp; obtain ⟨w32, h32, b32, B32, R83⟩ := nB hHeld.1 [⟨#[101, 108, 115, 101]⟩] #[.string ⟨#[101, 108, 115, 101]⟩] rfl rfl; rw [<- h32]; clear h32
    replace R82 := rB R82 b32; replace R89 := rB R89 b32
    clear b32
    clear hHeld; refine hK.out _ _ (KP _ B32.out) (fun hHeld => ?_); clear hK K; try simp only [Act.put, pa, pz, ps]
    refine rdy [8] (arc 90 rfl (fun K hK => ?_) AllReadyH.nil)
    go_simp; go_at_call 80; refine (za _ _ _ _ _ _ w32 R82.out.rd R83.out.rd R89.out.rd (by (try simp only [la, lc, ln]); omega) (by (try simp only [la, lc, ln]); omega) (by (try simp only [la, lc, ln]); omega)).mono ?_; rintro e w33 ⟨v90, rfl, s90, b33⟩; have B33 := bN hHeld.1 b33; have R90 := rS s90
    replace R82 := rB R82 b33; replace R83 := rB R83 b33; replace R89 := rB R89 b33
    have S90 := sM s90 hHeld.1.size
    clear b33 s90
    clear hHeld; refine hK.out _ _ (KP _ B33.out) (fun hHeld => ?_); clear hK K; try simp only [Act.put, pa, pz, ps]
    refine tkm 9 6 (v90) hHeld rfl ?_; try simp only [Act.put, pa, pz, ps]
    have R6 := R90; clear R90
    have S6 := S90; clear S90
    refine wpAnyH_done (by kernel_rfl) ?_ _
    obtain ⟨-, tc, kc, -⟩ := KP _ B33.out; have lz := B33.out.size; have lz1 : w.heap.size + 1 < w33.heap.size := by omega
    go_wp2
    go_ret
    exact ⟨_, rfl, by rw [HE.out]; exact S6.out.mono (by omega), B0.out.trans (B33.out.mono (by omega))⟩
end Go.Proofs.YtiglkhkfbgjjoaaDoor
