/- - -/
import Derived.Test.YtiglkhkfbgjjoaaDoorQMeP
import Derived.Test.YtiglkhkfbgjjoaaDoorQTkM
namespace Go.Proofs.YtiglkhkfbgjjoaaDoor
set_option maxRecDepth 20000
open Go.RowKit Go.PlainAid Go.Maps
set_option linter.unusedSimpArgs false
set_option linter.unusedVariables false
theorem zb6 (k n : Int) (h : zt k = n) (w : World) : Calls Tryd.prog 77 #[.int .i64 k] w fun e w' => e = .returned (.int .i64 n) /\ w = w' := by
 subst h
 exact (zb3 k w).mono fun e w' ⟨h1, h2⟩ => ⟨h1, h2.symm⟩
set_option maxHeartbeats 1000000 in
theorem tt1 (b off L c z : Nat) (top k : Int) (t : ByteArray) (i : Int) (ak : Option Addr) (l ck : Nat) (xs : List ByteArray) (w : World) (hk : zt k = 1) (hb : b < w.heap.size) (hz : z < L) (hL : L <= 3000) (c0 : w.cell? ⟨b, off + z * 4, none⟩ = some (.int .i64 k)) (c1 : w.cell? ⟨b, off + z * 4 + 1, none⟩ = some (.string t)) (c2 : w.cell? ⟨b, off + z * 4 + 2, none⟩ = some (.int .i64 i)) (c3 : w.cell? ⟨b, off + z * 4 + 3, none⟩ = some (.slice ak l ck))
 (hx : ∀ V, Below w.heap.size w V -> Calls Tryd.prog 78 #[.agg #[.slice (some ⟨b, off, none⟩) L c, .int .i64 top], .agg #[.int .i64 k, .string t, .int .i64 i, .slice ak l ck]] V (zc V xs)) :
 Calls Tryd.prog 36 #[.agg #[.slice (some ⟨b, off, none⟩) L c, .int .i64 top], .int .i64 (z : Int)] w (zc w xs) := by
 have B2 : Hid (Below w.heap.size w ((w.alloc (.cells #[.slice (some ⟨b, off, none⟩) L c, .int .i64 top] 41)).alloc (.cells #[.int .i64 k, .string t, .int .i64 i, .slice ak l ck] 71))) := ((Below.refl _ _).alloc (Nat.le_refl _) _).alloc (by simp) _
 have HX := hI hx
 have hz' : (z : Int) < (L : Int) := by omega
 have hL' : (L : Int) <= 3000 := by omega
 clear hx
 go_enter Tryd.func36, Tryd.ntmps36
 go_wp2_with (first | (go_at_call 77; refine (zb6 k 1 hk _).mono ?_; rintro e w1 ⟨rfl, rfl⟩) | (go_at_call 78; refine (HX.out _ B2.out).mono ?_; rintro e w1 ⟨v1, rfl, s1, b1⟩))
 go_ret
 exact ⟨_, rfl, s1.mono (by simp; omega), B2.out.trans (b1.mono (by simp; omega))⟩
set_option maxHeartbeats 1000000 in
theorem tt2 (b off L c z : Nat) (top k : Int) (t : ByteArray) (i : Int) (ak : Option Addr) (l ck : Nat) (xs : List ByteArray) (w : World) (hk : zt k = 2) (hb : b < w.heap.size) (hz : z < L) (hL : L <= 3000) (c0 : w.cell? ⟨b, off + z * 4, none⟩ = some (.int .i64 k)) (c1 : w.cell? ⟨b, off + z * 4 + 1, none⟩ = some (.string t)) (c2 : w.cell? ⟨b, off + z * 4 + 2, none⟩ = some (.int .i64 i)) (c3 : w.cell? ⟨b, off + z * 4 + 3, none⟩ = some (.slice ak l ck))
 (hx : ∀ V, Below w.heap.size w V -> Calls Tryd.prog 79 #[.agg #[.slice (some ⟨b, off, none⟩) L c, .int .i64 top], .agg #[.int .i64 k, .string t, .int .i64 i, .slice ak l ck]] V (zc V xs)) :
 Calls Tryd.prog 36 #[.agg #[.slice (some ⟨b, off, none⟩) L c, .int .i64 top], .int .i64 (z : Int)] w (zc w xs) := by
 have B2 : Hid (Below w.heap.size w ((w.alloc (.cells #[.slice (some ⟨b, off, none⟩) L c, .int .i64 top] 41)).alloc (.cells #[.int .i64 k, .string t, .int .i64 i, .slice ak l ck] 71))) := ((Below.refl _ _).alloc (Nat.le_refl _) _).alloc (by simp) _
 have HX := hI hx
 have hz' : (z : Int) < (L : Int) := by omega
 have hL' : (L : Int) <= 3000 := by omega
 clear hx
 go_enter Tryd.func36, Tryd.ntmps36
 go_wp2_with (first | (go_at_call 77; refine (zb6 k 2 hk _).mono ?_; rintro e w1 ⟨rfl, rfl⟩) | (go_at_call 79; refine (HX.out _ B2.out).mono ?_; rintro e w1 ⟨v1, rfl, s1, b1⟩))
 go_ret
 exact ⟨_, rfl, s1.mono (by simp; omega), B2.out.trans (b1.mono (by simp; omega))⟩
set_option maxHeartbeats 1000000 in
theorem zkg (b off L c z : Nat) (top : Int) (t : ByteArray) (i : Int) (ak : Option Addr) (l ck : Nat) (y : Nat -> Int) (rec : Int -> List ByteArray) (w : World) (hb : b < w.heap.size) (hz : z < L) (hL : L <= 3000) (c0 : w.cell? ⟨b, off + z * 4, none⟩ = some (.int .i64 22)) (c1 : w.cell? ⟨b, off + z * 4 + 1, none⟩ = some (.string t)) (c2 : w.cell? ⟨b, off + z * 4 + 2, none⟩ = some (.int .i64 i)) (c3 : w.cell? ⟨b, off + z * 4 + 3, none⟩ = some (.slice ak l ck)) :
 Calls Tryd.prog 36 #[.agg #[.slice (some ⟨b, off, none⟩) L c, .int .i64 top], .int .i64 (z : Int)] w (zc w (bod rec ⟨22, t, i, l, y⟩)) := by
 have HE : Hid (bod rec ⟨22, t, i, l, y⟩ = [t]) := by show bod _ _ = _; simp [bod]
 have B2 : Hid (Below w.heap.size w ((w.alloc (.cells #[.slice (some ⟨b, off, none⟩) L c, .int .i64 top] 41)).alloc (.cells #[.int .i64 22, .string t, .int .i64 i, .slice ak l ck] 71))) := ((Below.refl _ _).alloc (Nat.le_refl _) _).alloc (by simp) _
 have hz' : (z : Int) < (L : Int) := by omega
 have hL' : (L : Int) <= 3000 := by omega
 go_enter Tryd.func36, Tryd.ntmps36
 go_wp2_with (go_at_call 77; refine (zb6 22 4 (by decide) _).mono ?_; rintro e w1 ⟨rfl, rfl⟩)
 go_ret
 rw [HE.out]
 exact za3 _ _ rfl (by simp) rfl (by simp) B2.out
set_option maxHeartbeats 4000000 in
theorem zkh (b off L c z : Nat) (top : Int) (t : ByteArray) (i : Int) (ak : Option Addr) (ck : Nat) (y : Nat -> Int) (rec : Int -> List ByteArray) (T : Nat) (w : World) (hb : b < w.heap.size) (hz : z < L) (hL : L <= 3000) (c0 : w.cell? ⟨b, off + z * 4, none⟩ = some (.int .i64 23)) (c1 : w.cell? ⟨b, off + z * 4 + 1, none⟩ = some (.string t)) (c2 : w.cell? ⟨b, off + z * 4 + 2, none⟩ = some (.int .i64 i)) (c3 : w.cell? ⟨b, off + z * 4 + 3, none⟩ = some (.slice ak (1) ck)) (hk : SlF T w (.slice ak (1) ck) (1) (1) (fun i => .int .i64 (y i))) (hT : T <= w.heap.size) (hc1 : 1 <= ck) (hc2 : ck <= 1048576) (hs : smN rec y (1) <= 100000)
 (hr : ∀ (V : World) (m : Nat), m < 1 -> Below w.heap.size w V -> Calls Tryd.prog 36 #[.agg #[.slice (some ⟨b, off, none⟩) L c, .int .i64 top], .int .i64 (y m)] V (zc V (rec (y m)))) :
 Calls Tryd.prog 36 #[.agg #[.slice (some ⟨b, off, none⟩) L c, .int .i64 top], .int .i64 (z : Int)] w (zc w (bod rec ⟨23, t, i, 1, y⟩)) := by
 obtain ⟨bk, ok, ck2, hv, tk1, lk, hkk⟩ := hk.parts (k := 0) (by omega)
 simp only [Value.slice.injEq] at hv
 obtain ⟨rfl, _, rfl⟩ := hv
 have yc0 := hkk 0 (by omega)
 rw [Nat.add_zero] at yc0
 have n0 : (rec (y 0)).length <= 100000 := Nat.le_trans (smA rec y (by omega : 0 < 1)) hs
 have HE : Hid (bod rec ⟨23, t, i, 1, y⟩ = rec (y 0)) := by show bod _ _ = _; simp [bod, opB]
 obtain ⟨W0, hW0⟩ : ∃ V, V = (w.alloc (.cells #[.slice (some ⟨b, off, none⟩) L c, .int .i64 top] 41)).alloc (.cells #[.int .i64 23, .string t, .int .i64 i, .slice (some ⟨bk, ok, none⟩) 1 ck] 71) := ⟨_, rfl⟩
 have z0 : W0.heap.size = w.heap.size + 2 := by rw [hW0]; simp
 have B0 : Hid (Below w.heap.size w W0) := by rw [hW0]; exact ((Below.refl _ _).alloc (Nat.le_refl _) _).alloc (by simp) _
 have T0 : ∀ z, W0.cell? ⟨w.heap.size, z, none⟩ = (#[.slice (some ⟨b, off, none⟩) L c, .int .i64 top] : Array Value)[z]? := fun z => by rw [hW0]; simp [go_sem]
 have K0 : ∀ z, W0.cell? ⟨w.heap.size + 1, z, none⟩ = (#[.int .i64 23, .string t, .int .i64 i, .slice (some ⟨bk, ok, none⟩) 1 ck] : Array Value)[z]? := fun z => by rw [hW0]; simp [go_sem]
 have HR : Hid (∀ (V : World) (m : Nat), m < 1 -> Below W0.heap.size W0 V -> Calls Tryd.prog 36 #[.agg #[.slice (some ⟨b, off, none⟩) L c, .int .i64 top], .int .i64 (y m)] V (zc V (rec (y m)))) := fun V m hm hV => hr V m hm (B0.out.trans (hV.mono (by omega)))
 have BK : Hid (∀ V, Below W0.heap.size W0 V -> Below w.heap.size w V) := fun V hV => B0.out.trans (hV.mono (by omega))
 have KP : ∀ V, Below W0.heap.size W0 V -> (SQ1 W0 w.heap.size #[.slice (some ⟨b, off, none⟩) L c, .int .i64 top] #[.int .i64 23, .string t, .int .i64 i, .slice (some ⟨bk, ok, none⟩) 1 ck] bk (ok) (y 0)) V := fun V hV => ⟨hV, fun z => (hV.cell (p := ⟨w.heap.size, z, none⟩) (by dsimp only; omega)).trans (T0 z), fun z => (hV.cell (p := ⟨w.heap.size + 1, z, none⟩) (by dsimp only; omega)).trans (K0 z), ((BK.out V hV).cell (p := ⟨bk, ok, none⟩) (by dsimp only; omega)).trans yc0⟩
 have KP' : Hid (∀ V, Below W0.heap.size W0 V -> (SQ1 W0 w.heap.size #[.slice (some ⟨b, off, none⟩) L c, .int .i64 top] #[.int .i64 23, .string t, .int .i64 i, .slice (some ⟨bk, ok, none⟩) 1 ck] bk (ok) (y 0)) V) := KP
 clear hk hr hs hkk KP T0 K0 yc0
 have BW : Hid (Below W0.heap.size W0 W0) := Below.refl _ _
 go_enter Tryd.func36, Tryd.ntmps36
 have hz' : (z : Int) < (L : Int) := by omega
 have hL' : (L : Int) <= 3000 := by omega
 go_wp2_with (go_at_call 77; refine (zb6 23 5 (by decide) _).mono ?_; rintro e w1 ⟨rfl, rfl⟩)
 rw [<- hW0]
 clear hW0
 have KP := KP'.out
 clear KP'
 refine wp_region_held_drew (by kernel_rfl) (KP _ BW.out.drew) (fun hHeld => ?_); obtain ⟨w1, h1, b1⟩ := dR W0; rw [<- h1] at hHeld ⊢; clear h1
 clear b1
 refine tkm 0 71 (.agg #[.slice (some ⟨b, off, none⟩) L c, .int .i64 top]) hHeld rfl ?_; try simp only [Act.put, pa, pz, ps]
 refine tkm 1 72 (.pointer (some ⟨w.heap.size + 1, 3, none⟩)) hHeld rfl ?_; try simp only [Act.put, pa, pz, ps]
 refine tkm 2 73 (.slice (some ⟨bk, ok, none⟩) 1 ck) hHeld rfl ?_; try simp only [Act.put, pa, pz, ps]
 refine tkm 3 74 (.pointer (some ⟨bk, ok, none⟩)) hHeld rfl ?_; try simp only [Act.put, pa, pz, ps]
 refine tkm 4 75 (.int .i64 (y 0)) hHeld rfl ?_; try simp only [Act.put, pa, pz, ps]
 refine rdy [5] (arc 76 rfl (fun K hK => ?_) AllReadyH.nil)
 go_simp; go_at_call 36; refine (HR.out w1 0 (by omega) hHeld.1).mono ?_; rintro e w2 ⟨v76, rfl, s76, b2⟩; have B2 := bN hHeld.1 b2; have R76 := rS s76
 have S76 := sM s76 hHeld.1.size
 clear b2 s76
 clear hHeld; refine hK.out _ _ (KP _ B2.out) (fun hHeld => ?_); clear hK K; try simp only [Act.put, pa, pz, ps]
 refine tkm 6 4 (v76) hHeld rfl ?_; try simp only [Act.put, pa, pz, ps]
 have R4 := R76; clear R76
 have S4 := S76; clear S76
 refine wpAnyH_done (by kernel_rfl) ?_ _
 go_wp2
 go_ret
 exact ⟨_, rfl, by rw [HE.out]; exact S4.out.mono (by omega), B0.out.trans (B2.out.mono (by omega))⟩
set_option maxHeartbeats 4000000 in
theorem zki (b off L c z : Nat) (top : Int) (t : ByteArray) (i : Int) (ak : Option Addr) (ck : Nat) (y : Nat -> Int) (rec : Int -> List ByteArray) (T : Nat) (w : World) (hb : b < w.heap.size) (hz : z < L) (hL : L <= 3000) (c0 : w.cell? ⟨b, off + z * 4, none⟩ = some (.int .i64 24)) (c1 : w.cell? ⟨b, off + z * 4 + 1, none⟩ = some (.string t)) (c2 : w.cell? ⟨b, off + z * 4 + 2, none⟩ = some (.int .i64 i)) (c3 : w.cell? ⟨b, off + z * 4 + 3, none⟩ = some (.slice ak (2) ck)) (hk : SlF T w (.slice ak (2) ck) (2) (2) (fun i => .int .i64 (y i))) (hT : T <= w.heap.size) (hc1 : 2 <= ck) (hc2 : ck <= 1048576) (hs : smN rec y (2) <= 100000)
 (hr : ∀ (V : World) (m : Nat), m < 2 -> Below w.heap.size w V -> Calls Tryd.prog 36 #[.agg #[.slice (some ⟨b, off, none⟩) L c, .int .i64 top], .int .i64 (y m)] V (zc V (rec (y m)))) :
 Calls Tryd.prog 36 #[.agg #[.slice (some ⟨b, off, none⟩) L c, .int .i64 top], .int .i64 (z : Int)] w (zc w (bod rec ⟨24, t, i, 2, y⟩)) := by
 obtain ⟨bk, ok, ck2, hv, tk1, lk, hkk⟩ := hk.parts (k := 0) (by omega)
 simp only [Value.slice.injEq] at hv
 obtain ⟨rfl, _, rfl⟩ := hv
 have yc0 := hkk 0 (by omega)
 rw [Nat.add_zero] at yc0
 have yc1 := hkk 1 (by omega)
 have n0 : (rec (y 0)).length <= 100000 := Nat.le_trans (smA rec y (by omega : 0 < 2)) hs
 have n1 : (rec (y 1)).length <= 100000 := Nat.le_trans (smA rec y (by omega : 1 < 2)) hs
 have HE : Hid (bod rec ⟨24, t, i, 2, y⟩ = ([⟨#[91]⟩] ++ rec (y 0) ++ [⟨#[93]⟩, ⟨#[61]⟩]) ++ rec (y 1) ++ []) := by show bod _ _ = _; simp [bod, opB]
 obtain ⟨W0, hW0⟩ : ∃ V, V = (w.alloc (.cells #[.slice (some ⟨b, off, none⟩) L c, .int .i64 top] 41)).alloc (.cells #[.int .i64 24, .string t, .int .i64 i, .slice (some ⟨bk, ok, none⟩) 2 ck] 71) := ⟨_, rfl⟩
 have z0 : W0.heap.size = w.heap.size + 2 := by rw [hW0]; simp
 have B0 : Hid (Below w.heap.size w W0) := by rw [hW0]; exact ((Below.refl _ _).alloc (Nat.le_refl _) _).alloc (by simp) _
 have T0 : ∀ z, W0.cell? ⟨w.heap.size, z, none⟩ = (#[.slice (some ⟨b, off, none⟩) L c, .int .i64 top] : Array Value)[z]? := fun z => by rw [hW0]; simp [go_sem]
 have K0 : ∀ z, W0.cell? ⟨w.heap.size + 1, z, none⟩ = (#[.int .i64 24, .string t, .int .i64 i, .slice (some ⟨bk, ok, none⟩) 2 ck] : Array Value)[z]? := fun z => by rw [hW0]; simp [go_sem]
 have HR : Hid (∀ (V : World) (m : Nat), m < 2 -> Below W0.heap.size W0 V -> Calls Tryd.prog 36 #[.agg #[.slice (some ⟨b, off, none⟩) L c, .int .i64 top], .int .i64 (y m)] V (zc V (rec (y m)))) := fun V m hm hV => hr V m hm (B0.out.trans (hV.mono (by omega)))
 have BK : Hid (∀ V, Below W0.heap.size W0 V -> Below w.heap.size w V) := fun V hV => B0.out.trans (hV.mono (by omega))
 have KP : ∀ V, Below W0.heap.size W0 V -> (SQ2 W0 w.heap.size #[.slice (some ⟨b, off, none⟩) L c, .int .i64 top] #[.int .i64 24, .string t, .int .i64 i, .slice (some ⟨bk, ok, none⟩) 2 ck] bk (ok) (y 0) (ok + 1) (y 1)) V := fun V hV => ⟨hV, fun z => (hV.cell (p := ⟨w.heap.size, z, none⟩) (by dsimp only; omega)).trans (T0 z), fun z => (hV.cell (p := ⟨w.heap.size + 1, z, none⟩) (by dsimp only; omega)).trans (K0 z), ((BK.out V hV).cell (p := ⟨bk, ok, none⟩) (by dsimp only; omega)).trans yc0, ((BK.out V hV).cell (p := ⟨bk, ok + 1, none⟩) (by dsimp only; omega)).trans yc1⟩
 have KP' : Hid (∀ V, Below W0.heap.size W0 V -> (SQ2 W0 w.heap.size #[.slice (some ⟨b, off, none⟩) L c, .int .i64 top] #[.int .i64 24, .string t, .int .i64 i, .slice (some ⟨bk, ok, none⟩) 2 ck] bk (ok) (y 0) (ok + 1) (y 1)) V) := KP
 clear hk hr hs hkk KP T0 K0 yc0 yc1
 have BW : Hid (Below W0.heap.size W0 W0) := Below.refl _ _
 go_enter Tryd.func36, Tryd.ntmps36
 have hz' : (z : Int) < (L : Int) := by omega
 have hL' : (L : Int) <= 3000 := by omega
 go_wp2_with (go_at_call 77; refine (zb6 24 5 (by decide) _).mono ?_; rintro e w1 ⟨rfl, rfl⟩)
 rw [<- hW0]
 clear hW0
 have KP := KP'.out
 clear KP'
 refine wp_region_held_drew (by kernel_rfl) (KP _ BW.out.drew) (fun hHeld => ?_); obtain ⟨w1, h1, b1⟩ := dR W0; rw [<- h1] at hHeld ⊢; clear h1
 clear b1
 refine tkm 1 55 (.agg #[.slice (some ⟨b, off, none⟩) L c, .int .i64 top]) hHeld rfl ?_; try simp only [Act.put, pa, pz, ps]
 refine tkm 2 56 (.pointer (some ⟨w.heap.size + 1, 3, none⟩)) hHeld rfl ?_; try simp only [Act.put, pa, pz, ps]
 refine tkm 3 57 (.slice (some ⟨bk, ok, none⟩) 2 ck) hHeld rfl ?_; try simp only [Act.put, pa, pz, ps]
 refine tkm 4 58 (.pointer (some ⟨bk, ok, none⟩)) hHeld rfl ?_; try simp only [Act.put, pa, pz, ps]
 refine tkm 5 59 (.int .i64 (y 0)) hHeld rfl ?_; try simp only [Act.put, pa, pz, ps]
 refine rdy [0, 6, 7] (arc 54 rfl (fun K hK => ?_) (arc 60 rfl (fun K hK => ?_) (arc 61 rfl (fun K hK => ?_) AllReadyH.nil)))
 ·go_simp; obtain ⟨w2, h2, b2, B2, R54⟩ := nB hHeld.1 [⟨#[91]⟩] #[.string ⟨#[91]⟩] rfl rfl; rw [<- h2]; clear h2
  clear b2
  clear hHeld; refine hK.out _ _ (KP _ B2.out) (fun hHeld => ?_); clear hK K; try simp only [Act.put, pa, pz, ps]
  refine rdy [6, 7] (arc 60 rfl (fun K hK => ?_) (arc 61 rfl (fun K hK => ?_) AllReadyH.nil))
  ·go_simp; go_at_call 36; refine (HR.out w2 0 (by omega) hHeld.1).mono ?_; rintro e w3 ⟨v60, rfl, s60, b3⟩; have B3 := bN hHeld.1 b3; have R60 := rS s60
   replace R54 := rB R54 b3
   clear b3 s60
   clear hHeld; refine hK.out _ _ (KP _ B3.out) (fun hHeld => ?_); clear hK K; try simp only [Act.put, pa, pz, ps]
   refine rdy [7] (arc 61 rfl (fun K hK => ?_) AllReadyH.nil)
   go_simp; obtain ⟨w4, h4, b4, B4, R61⟩ := nB hHeld.1 [⟨#[93]⟩, ⟨#[61]⟩] #[.string ⟨#[93]⟩, .string ⟨#[61]⟩] rfl rfl; rw [<- h4]; clear h4
   replace R54 := rB R54 b4; replace R60 := rB R60 b4
   clear b4
   clear hHeld; refine hK.out _ _ (KP _ B4.out) (fun hHeld => ?_); clear hK K; try simp only [Act.put, pa, pz, ps]
   refine rdy [8] (arc 62 rfl (fun K hK => ?_) AllReadyH.nil)
   go_simp; go_at_call 80; refine (za _ _ _ _ _ _ w4 R54.out.rd R60.out.rd R61.out.rd (by (try simp only [la, lc, ln]); omega) (by (try simp only [la, lc, ln]); omega) (by (try simp only [la, lc, ln]); omega)).mono ?_; rintro e w5 ⟨v62, rfl, s62, b5⟩; have B5 := bN hHeld.1 b5; have R62 := rS s62
   replace R54 := rB R54 b5; replace R60 := rB R60 b5; replace R61 := rB R61 b5
   have S62 := sM s62 hHeld.1.size
   clear b5 s62
   clear hHeld; refine hK.out _ _ (KP _ B5.out) (fun hHeld => ?_); clear hK K; try simp only [Act.put, pa, pz, ps]
   refine tkm 9 8 (v62) hHeld rfl ?_; try simp only [Act.put, pa, pz, ps]
   have R8 := R62; clear R62
   have S8 := S62; clear S62
   refine wpAnyH_done (by kernel_rfl) ?_ _
   clear R54; clear R60; clear R61; clear S8
   obtain ⟨-, tc, kc, -⟩ := KP _ B5.out; have lz := B5.out.size; have lz1 : w.heap.size + 1 < w5.heap.size := by omega
   go_wp2_with fail
   clear tc kc lz lz1
   refine wp_region_held_drew (by kernel_rfl) (KP _ B5.out.drew) (fun hHeld => ?_); obtain ⟨w6, h6, b6⟩ := dR w5; rw [<- h6] at hHeld ⊢; clear h6
   replace R8 := rB R8 b6
   clear b6
   refine tkm 0 63 (v62) hHeld rfl ?_; try simp only [Act.put, pa, pz, ps]
   have R63 := R8; clear R8
   refine tkm 1 64 (.agg #[.slice (some ⟨b, off, none⟩) L c, .int .i64 top]) hHeld rfl ?_; try simp only [Act.put, pa, pz, ps]
   refine tkm 2 65 (.pointer (some ⟨w.heap.size + 1, 3, none⟩)) hHeld rfl ?_; try simp only [Act.put, pa, pz, ps]
   refine tkm 3 66 (.slice (some ⟨bk, ok, none⟩) 2 ck) hHeld rfl ?_; try simp only [Act.put, pa, pz, ps]
   refine tkm 4 67 (.pointer (some ⟨bk, ok + 1, none⟩)) hHeld rfl ?_; try simp only [Act.put, pa, pz, ps]
   refine tkm 5 68 (.int .i64 (y 1)) hHeld rfl ?_; try simp only [Act.put, pa, pz, ps]
   refine rdy [6] (arc 69 rfl (fun K hK => ?_) AllReadyH.nil)
   go_simp; go_at_call 36; refine (HR.out w6 1 (by omega) hHeld.1).mono ?_; rintro e w7 ⟨v69, rfl, s69, b7⟩; have B7 := bN hHeld.1 b7; have R69 := rS s69
   replace R63 := rB R63 b7
   clear b7 s69
   clear hHeld; refine hK.out _ _ (KP _ B7.out) (fun hHeld => ?_); clear hK K; try simp only [Act.put, pa, pz, ps]
   refine rdy [7] (arc 70 rfl (fun K hK => ?_) AllReadyH.nil)
   go_simp; go_at_call 80; refine (za _ _ _ _ _ _ w7 R63.out.rd R69.out.rd (RdS.nil _) (by (try simp only [la, lc, ln]); omega) (by (try simp only [la, lc, ln]); omega) (by (try simp only [la, lc, ln]); omega)).mono ?_; rintro e w8 ⟨v70, rfl, s70, b8⟩; have B8 := bN hHeld.1 b8; have R70 := rS s70
   replace R63 := rB R63 b8; replace R69 := rB R69 b8
   have S70 := sM s70 hHeld.1.size
   clear b8 s70
   clear hHeld; refine hK.out _ _ (KP _ B8.out) (fun hHeld => ?_); clear hK K; try simp only [Act.put, pa, pz, ps]
   refine tkm 8 4 (v70) hHeld rfl ?_; try simp only [Act.put, pa, pz, ps]
   have R4 := R70; clear R70
   have S4 := S70; clear S70
   refine wpAnyH_done (by kernel_rfl) ?_ _
   go_wp2
   go_ret
   exact ⟨_, rfl, by rw [HE.out]; exact S4.out.mono (by omega), B0.out.trans (B8.out.mono (by omega))⟩
  ·go_simp; obtain ⟨w9, h9, b9, B9, R61⟩ := nB hHeld.1 [⟨#[93]⟩, ⟨#[61]⟩] #[.string ⟨#[93]⟩, .string ⟨#[61]⟩] rfl rfl; rw [<- h9]; clear h9
   replace R54 := rB R54 b9
   clear b9
   clear hHeld; refine hK.out _ _ (KP _ B9.out) (fun hHeld => ?_); clear hK K; try simp only [Act.put, pa, pz, ps]
   refine rdy [6] (arc 60 rfl (fun K hK => ?_) AllReadyH.nil)
   go_simp; go_at_call 36; refine (HR.out w9 0 (by omega) hHeld.1).mono ?_; rintro e w10 ⟨v60, rfl, s60, b10⟩; have B10 := bN hHeld.1 b10; have R60 := rS s60
   replace R54 := rB R54 b10; replace R61 := rB R61 b10
   clear b10 s60
   clear hHeld; refine hK.out _ _ (KP _ B10.out) (fun hHeld => ?_); clear hK K; try simp only [Act.put, pa, pz, ps]
   refine rdy [8] (arc 62 rfl (fun K hK => ?_) AllReadyH.nil)
   go_simp; go_at_call 80; refine (za _ _ _ _ _ _ w10 R54.out.rd R60.out.rd R61.out.rd (by (try simp only [la, lc, ln]); omega) (by (try simp only [la, lc, ln]); omega) (by (try simp only [la, lc, ln]); omega)).mono ?_; rintro e w11 ⟨v62, rfl, s62, b11⟩; have B11 := bN hHeld.1 b11; have R62 := rS s62
   replace R54 := rB R54 b11; replace R60 := rB R60 b11; replace R61 := rB R61 b11
   have S62 := sM s62 hHeld.1.size
   clear b11 s62
   clear hHeld; refine hK.out _ _ (KP _ B11.out) (fun hHeld => ?_); clear hK K; try simp only [Act.put, pa, pz, ps]
   refine tkm 9 8 (v62) hHeld rfl ?_; try simp only [Act.put, pa, pz, ps]
   have R8 := R62; clear R62
   have S8 := S62; clear S62
   refine wpAnyH_done (by kernel_rfl) ?_ _
   clear R54; clear R60; clear R61; clear S8
   obtain ⟨-, tc, kc, -⟩ := KP _ B11.out; have lz := B11.out.size; have lz1 : w.heap.size + 1 < w11.heap.size := by omega
   go_wp2_with fail
   clear tc kc lz lz1
   refine wp_region_held_drew (by kernel_rfl) (KP _ B11.out.drew) (fun hHeld => ?_); obtain ⟨w12, h12, b12⟩ := dR w11; rw [<- h12] at hHeld ⊢; clear h12
   replace R8 := rB R8 b12
   clear b12
   refine tkm 0 63 (v62) hHeld rfl ?_; try simp only [Act.put, pa, pz, ps]
   have R63 := R8; clear R8
   refine tkm 1 64 (.agg #[.slice (some ⟨b, off, none⟩) L c, .int .i64 top]) hHeld rfl ?_; try simp only [Act.put, pa, pz, ps]
   refine tkm 2 65 (.pointer (some ⟨w.heap.size + 1, 3, none⟩)) hHeld rfl ?_; try simp only [Act.put, pa, pz, ps]
   refine tkm 3 66 (.slice (some ⟨bk, ok, none⟩) 2 ck) hHeld rfl ?_; try simp only [Act.put, pa, pz, ps]
   refine tkm 4 67 (.pointer (some ⟨bk, ok + 1, none⟩)) hHeld rfl ?_; try simp only [Act.put, pa, pz, ps]
   refine tkm 5 68 (.int .i64 (y 1)) hHeld rfl ?_; try simp only [Act.put, pa, pz, ps]
   refine rdy [6] (arc 69 rfl (fun K hK => ?_) AllReadyH.nil)
   go_simp; go_at_call 36; refine (HR.out w12 1 (by omega) hHeld.1).mono ?_; rintro e w13 ⟨v69, rfl, s69, b13⟩; have B13 := bN hHeld.1 b13; have R69 := rS s69
   replace R63 := rB R63 b13
   clear b13 s69
   clear hHeld; refine hK.out _ _ (KP _ B13.out) (fun hHeld => ?_); clear hK K; try simp only [Act.put, pa, pz, ps]
   refine rdy [7] (arc 70 rfl (fun K hK => ?_) AllReadyH.nil)
   go_simp; go_at_call 80; refine (za _ _ _ _ _ _ w13 R63.out.rd R69.out.rd (RdS.nil _) (by (try simp only [la, lc, ln]); omega) (by (try simp only [la, lc, ln]); omega) (by (try simp only [la, lc, ln]); omega)).mono ?_; rintro e w14 ⟨v70, rfl, s70, b14⟩; have B14 := bN hHeld.1 b14; have R70 := rS s70
   replace R63 := rB R63 b14; replace R69 := rB R69 b14
   have S70 := sM s70 hHeld.1.size
   clear b14 s70
   clear hHeld; refine hK.out _ _ (KP _ B14.out) (fun hHeld => ?_); clear hK K; try simp only [Act.put, pa, pz, ps]
   refine tkm 8 4 (v70) hHeld rfl ?_; try simp only [Act.put, pa, pz, ps]
   have R4 := R70; clear R70
   have S4 := S70; clear S70
   refine wpAnyH_done (by kernel_rfl) ?_ _
   go_wp2
   go_ret
   exact ⟨_, rfl, by rw [HE.out]; exact S4.out.mono (by omega), B0.out.trans (B14.out.mono (by omega))⟩
 ·go_simp; go_at_call 36; refine (HR.out w1 0 (by omega) hHeld.1).mono ?_; rintro e w15 ⟨v60, rfl, s60, b15⟩; have B15 := bN hHeld.1 b15; have R60 := rS s60
  clear b15 s60
  clear hHeld; refine hK.out _ _ (KP _ B15.out) (fun hHeld => ?_); clear hK K; try simp only [Act.put, pa, pz, ps]
  refine rdy [0, 7] (arc 54 rfl (fun K hK => ?_) (arc 61 rfl (fun K hK => ?_) AllReadyH.nil))
  ·go_simp; obtain ⟨w16, h16, b16, B16, R54⟩ := nB hHeld.1 [⟨#[91]⟩] #[.string ⟨#[91]⟩] rfl rfl; rw [<- h16]; clear h16
   replace R60 := rB R60 b16
   clear b16
   clear hHeld; refine hK.out _ _ (KP _ B16.out) (fun hHeld => ?_); clear hK K; try simp only [Act.put, pa, pz, ps]
   refine rdy [7] (arc 61 rfl (fun K hK => ?_) AllReadyH.nil)
   go_simp; obtain ⟨w17, h17, b17, B17, R61⟩ := nB hHeld.1 [⟨#[93]⟩, ⟨#[61]⟩] #[.string ⟨#[93]⟩, .string ⟨#[61]⟩] rfl rfl; rw [<- h17]; clear h17
   replace R54 := rB R54 b17; replace R60 := rB R60 b17
   clear b17
   clear hHeld; refine hK.out _ _ (KP _ B17.out) (fun hHeld => ?_); clear hK K; try simp only [Act.put, pa, pz, ps]
   refine rdy [8] (arc 62 rfl (fun K hK => ?_) AllReadyH.nil)
   go_simp; go_at_call 80; refine (za _ _ _ _ _ _ w17 R54.out.rd R60.out.rd R61.out.rd (by (try simp only [la, lc, ln]); omega) (by (try simp only [la, lc, ln]); omega) (by (try simp only [la, lc, ln]); omega)).mono ?_; rintro e w18 ⟨v62, rfl, s62, b18⟩; have B18 := bN hHeld.1 b18; have R62 := rS s62
   replace R54 := rB R54 b18; replace R60 := rB R60 b18; replace R61 := rB R61 b18
   have S62 := sM s62 hHeld.1.size
   clear b18 s62
   clear hHeld; refine hK.out _ _ (KP _ B18.out) (fun hHeld => ?_); clear hK K; try simp only [Act.put, pa, pz, ps]
   refine tkm 9 8 (v62) hHeld rfl ?_; try simp only [Act.put, pa, pz, ps]
   have R8 := R62; clear R62
   have S8 := S62; clear S62
   refine wpAnyH_done (by kernel_rfl) ?_ _
   clear R54; clear R60; clear R61; clear S8
   obtain ⟨-, tc, kc, -⟩ := KP _ B18.out; have lz := B18.out.size; have lz1 : w.heap.size + 1 < w18.heap.size := by omega
   go_wp2_with fail
   clear tc kc lz lz1
   refine wp_region_held_drew (by kernel_rfl) (KP _ B18.out.drew) (fun hHeld => ?_); obtain ⟨w19, h19, b19⟩ := dR w18; rw [<- h19] at hHeld ⊢; clear h19
   replace R8 := rB R8 b19
   clear b19
   refine tkm 0 63 (v62) hHeld rfl ?_; try simp only [Act.put, pa, pz, ps]
   have R63 := R8; clear R8
   refine tkm 1 64 (.agg #[.slice (some ⟨b, off, none⟩) L c, .int .i64 top]) hHeld rfl ?_; try simp only [Act.put, pa, pz, ps]
   refine tkm 2 65 (.pointer (some ⟨w.heap.size + 1, 3, none⟩)) hHeld rfl ?_; try simp only [Act.put, pa, pz, ps]
   refine tkm 3 66 (.slice (some ⟨bk, ok, none⟩) 2 ck) hHeld rfl ?_; try simp only [Act.put, pa, pz, ps]
   refine tkm 4 67 (.pointer (some ⟨bk, ok + 1, none⟩)) hHeld rfl ?_; try simp only [Act.put, pa, pz, ps]
   refine tkm 5 68 (.int .i64 (y 1)) hHeld rfl ?_; try simp only [Act.put, pa, pz, ps]
   refine rdy [6] (arc 69 rfl (fun K hK => ?_) AllReadyH.nil)
   go_simp; go_at_call 36; refine (HR.out w19 1 (by omega) hHeld.1).mono ?_; rintro e w20 ⟨v69, rfl, s69, b20⟩; have B20 := bN hHeld.1 b20; have R69 := rS s69
   replace R63 := rB R63 b20
   clear b20 s69
   clear hHeld; refine hK.out _ _ (KP _ B20.out) (fun hHeld => ?_); clear hK K; try simp only [Act.put, pa, pz, ps]
   refine rdy [7] (arc 70 rfl (fun K hK => ?_) AllReadyH.nil)
   go_simp; go_at_call 80; refine (za _ _ _ _ _ _ w20 R63.out.rd R69.out.rd (RdS.nil _) (by (try simp only [la, lc, ln]); omega) (by (try simp only [la, lc, ln]); omega) (by (try simp only [la, lc, ln]); omega)).mono ?_; rintro e w21 ⟨v70, rfl, s70, b21⟩; have B21 := bN hHeld.1 b21; have R70 := rS s70
   replace R63 := rB R63 b21; replace R69 := rB R69 b21
   have S70 := sM s70 hHeld.1.size
   clear b21 s70
   clear hHeld; refine hK.out _ _ (KP _ B21.out) (fun hHeld => ?_); clear hK K; try simp only [Act.put, pa, pz, ps]
   refine tkm 8 4 (v70) hHeld rfl ?_; try simp only [Act.put, pa, pz, ps]
   have R4 := R70; clear R70
   have S4 := S70; clear S70
   refine wpAnyH_done (by kernel_rfl) ?_ _
   go_wp2
   go_ret
   exact ⟨_, rfl, by rw [HE.out]; exact S4.out.mono (by omega), B0.out.trans (B21.out.mono (by omega))⟩
  ·go_simp; obtain ⟨w22, h22, b22, B22, R61⟩ := nB hHeld.1 [⟨#[93]⟩, ⟨#[61]⟩] #[.string ⟨#[93]⟩, .string ⟨#[61]⟩] rfl rfl; rw [<- h22]; clear h22
   replace R60 := rB R60 b22
   clear b22
   clear hHeld; refine hK.out _ _ (KP _ B22.out) (fun hHeld => ?_); clear hK K; try simp only [Act.put, pa, pz, ps]
   refine rdy [0] (arc 54 rfl (fun K hK => ?_) AllReadyH.nil)
   go_simp; obtain ⟨w23, h23, b23, B23, R54⟩ := nB hHeld.1 [⟨#[91]⟩] #[.string ⟨#[91]⟩] rfl rfl; rw [<- h23]; clear h23
   replace R60 := rB R60 b23; replace R61 := rB R61 b23
   clear b23
   clear hHeld; refine hK.out _ _ (KP _ B23.out) (fun hHeld => ?_); clear hK K; try simp only [Act.put, pa, pz, ps]
   refine rdy [8] (arc 62 rfl (fun K hK => ?_) AllReadyH.nil)
   go_simp; go_at_call 80; refine (za _ _ _ _ _ _ w23 R54.out.rd R60.out.rd R61.out.rd (by (try simp only [la, lc, ln]); omega) (by (try simp only [la, lc, ln]); omega) (by (try simp only [la, lc, ln]); omega)).mono ?_; rintro e w24 ⟨v62, rfl, s62, b24⟩; have B24 := bN hHeld.1 b24; have R62 := rS s62
   replace R54 := rB R54 b24; replace R60 := rB R60 b24; replace R61 := rB R61 b24
   have S62 := sM s62 hHeld.1.size
   clear b24 s62
   clear hHeld; refine hK.out _ _ (KP _ B24.out) (fun hHeld => ?_); clear hK K; try simp only [Act.put, pa, pz, ps]
   refine tkm 9 8 (v62) hHeld rfl ?_; try simp only [Act.put, pa, pz, ps]
   have R8 := R62; clear R62
   have S8 := S62; clear S62
   refine wpAnyH_done (by kernel_rfl) ?_ _
   clear R54; clear R60; clear R61; clear S8
   obtain ⟨-, tc, kc, -⟩ := KP _ B24.out; have lz := B24.out.size; have lz1 : w.heap.size + 1 < w24.heap.size := by omega
   go_wp2_with fail
   clear tc kc lz lz1
   refine wp_region_held_drew (by kernel_rfl) (KP _ B24.out.drew) (fun hHeld => ?_); obtain ⟨w25, h25, b25⟩ := dR w24; rw [<- h25] at hHeld ⊢; clear h25
   replace R8 := rB R8 b25
   clear b25
   refine tkm 0 63 (v62) hHeld rfl ?_; try simp only [Act.put, pa, pz, ps]
   have R63 := R8; clear R8
   refine tkm 1 64 (.agg #[.slice (some ⟨b, off, none⟩) L c, .int .i64 top]) hHeld rfl ?_; try simp only [Act.put, pa, pz, ps]
   refine tkm 2 65 (.pointer (some ⟨w.heap.size + 1, 3, none⟩)) hHeld rfl ?_; try simp only [Act.put, pa, pz, ps]
   refine tkm 3 66 (.slice (some ⟨bk, ok, none⟩) 2 ck) hHeld rfl ?_; try simp only [Act.put, pa, pz, ps]
   refine tkm 4 67 (.pointer (some ⟨bk, ok + 1, none⟩)) hHeld rfl ?_; try simp only [Act.put, pa, pz, ps]
   refine tkm 5 68 (.int .i64 (y 1)) hHeld rfl ?_; try simp only [Act.put, pa, pz, ps]
   refine rdy [6] (arc 69 rfl (fun K hK => ?_) AllReadyH.nil)
   go_simp; go_at_call 36; refine (HR.out w25 1 (by omega) hHeld.1).mono ?_; rintro e w26 ⟨v69, rfl, s69, b26⟩; have B26 := bN hHeld.1 b26; have R69 := rS s69
   replace R63 := rB R63 b26
   clear b26 s69
   clear hHeld; refine hK.out _ _ (KP _ B26.out) (fun hHeld => ?_); clear hK K; try simp only [Act.put, pa, pz, ps]
   refine rdy [7] (arc 70 rfl (fun K hK => ?_) AllReadyH.nil)
   go_simp; go_at_call 80; refine (za _ _ _ _ _ _ w26 R63.out.rd R69.out.rd (RdS.nil _) (by (try simp only [la, lc, ln]); omega) (by (try simp only [la, lc, ln]); omega) (by (try simp only [la, lc, ln]); omega)).mono ?_; rintro e w27 ⟨v70, rfl, s70, b27⟩; have B27 := bN hHeld.1 b27; have R70 := rS s70
   replace R63 := rB R63 b27; replace R69 := rB R69 b27
   have S70 := sM s70 hHeld.1.size
   clear b27 s70
   clear hHeld; refine hK.out _ _ (KP _ B27.out) (fun hHeld => ?_); clear hK K; try simp only [Act.put, pa, pz, ps]
   refine tkm 8 4 (v70) hHeld rfl ?_; try simp only [Act.put, pa, pz, ps]
   have R4 := R70; clear R70
   have S4 := S70; clear S70
   refine wpAnyH_done (by kernel_rfl) ?_ _
   go_wp2
   go_ret
   exact ⟨_, rfl, by rw [HE.out]; exact S4.out.mono (by omega), B0.out.trans (B27.out.mono (by omega))⟩
 ·go_simp; obtain ⟨w28, h28, b28, B28, R61⟩ := nB hHeld.1 [⟨#[93]⟩, ⟨#[61]⟩] #[.string ⟨#[93]⟩, .string ⟨#[61]⟩] rfl rfl; rw [<- h28]; clear h28
  clear b28
  clear hHeld; refine hK.out _ _ (KP _ B28.out) (fun hHeld => ?_); clear hK K; try simp only [Act.put, pa, pz, ps]
  refine rdy [0, 6] (arc 54 rfl (fun K hK => ?_) (arc 60 rfl (fun K hK => ?_) AllReadyH.nil))
  ·go_simp; obtain ⟨w29, h29, b29, B29, R54⟩ := nB hHeld.1 [⟨#[91]⟩] #[.string ⟨#[91]⟩] rfl rfl; rw [<- h29]; clear h29
   replace R61 := rB R61 b29
   clear b29
   clear hHeld; refine hK.out _ _ (KP _ B29.out) (fun hHeld => ?_); clear hK K; try simp only [Act.put, pa, pz, ps]
   refine rdy [6] (arc 60 rfl (fun K hK => ?_) AllReadyH.nil)
   go_simp; go_at_call 36; refine (HR.out w29 0 (by omega) hHeld.1).mono ?_; rintro e w30 ⟨v60, rfl, s60, b30⟩; have B30 := bN hHeld.1 b30; have R60 := rS s60
   replace R54 := rB R54 b30; replace R61 := rB R61 b30
   clear b30 s60
   clear hHeld; refine hK.out _ _ (KP _ B30.out) (fun hHeld => ?_); clear hK K; try simp only [Act.put, pa, pz, ps]
   refine rdy [8] (arc 62 rfl (fun K hK => ?_) AllReadyH.nil)
   go_simp; go_at_call 80; refine (za _ _ _ _ _ _ w30 R54.out.rd R60.out.rd R61.out.rd (by (try simp only [la, lc, ln]); omega) (by (try simp only [la, lc, ln]); omega) (by (try simp only [la, lc, ln]); omega)).mono ?_; rintro e w31 ⟨v62, rfl, s62, b31⟩; have B31 := bN hHeld.1 b31; have R62 := rS s62
   replace R54 := rB R54 b31; replace R60 := rB R60 b31; replace R61 := rB R61 b31
   have S62 := sM s62 hHeld.1.size
   clear b31 s62
   clear hHeld; refine hK.out _ _ (KP _ B31.out) (fun hHeld => ?_); clear hK K; try simp only [Act.put, pa, pz, ps]
   refine tkm 9 8 (v62) hHeld rfl ?_; try simp only [Act.put, pa, pz, ps]
   have R8 := R62; clear R62
   have S8 := S62; clear S62
   refine wpAnyH_done (by kernel_rfl) ?_ _
   clear R54; clear R60; clear R61; clear S8
   obtain ⟨-, tc, kc, -⟩ := KP _ B31.out; have lz := B31.out.size; have lz1 : w.heap.size + 1 < w31.heap.size := by omega
   go_wp2_with fail
   clear tc kc lz lz1
   refine wp_region_held_drew (by kernel_rfl) (KP _ B31.out.drew) (fun hHeld => ?_); obtain ⟨w32, h32, b32⟩ := dR w31; rw [<- h32] at hHeld ⊢; clear h32
   replace R8 := rB R8 b32
   clear b32
   refine tkm 0 63 (v62) hHeld rfl ?_; try simp only [Act.put, pa, pz, ps]
   have R63 := R8; clear R8
   refine tkm 1 64 (.agg #[.slice (some ⟨b, off, none⟩) L c, .int .i64 top]) hHeld rfl ?_; try simp only [Act.put, pa, pz, ps]
   refine tkm 2 65 (.pointer (some ⟨w.heap.size + 1, 3, none⟩)) hHeld rfl ?_; try simp only [Act.put, pa, pz, ps]
   refine tkm 3 66 (.slice (some ⟨bk, ok, none⟩) 2 ck) hHeld rfl ?_; try simp only [Act.put, pa, pz, ps]
   refine tkm 4 67 (.pointer (some ⟨bk, ok + 1, none⟩)) hHeld rfl ?_; try simp only [Act.put, pa, pz, ps]
   refine tkm 5 68 (.int .i64 (y 1)) hHeld rfl ?_; try simp only [Act.put, pa, pz, ps]
   refine rdy [6] (arc 69 rfl (fun K hK => ?_) AllReadyH.nil)
   go_simp; go_at_call 36; refine (HR.out w32 1 (by omega) hHeld.1).mono ?_; rintro e w33 ⟨v69, rfl, s69, b33⟩; have B33 := bN hHeld.1 b33; have R69 := rS s69
   replace R63 := rB R63 b33
   clear b33 s69
   clear hHeld; refine hK.out _ _ (KP _ B33.out) (fun hHeld => ?_); clear hK K; try simp only [Act.put, pa, pz, ps]
   refine rdy [7] (arc 70 rfl (fun K hK => ?_) AllReadyH.nil)
   go_simp; go_at_call 80; refine (za _ _ _ _ _ _ w33 R63.out.rd R69.out.rd (RdS.nil _) (by (try simp only [la, lc, ln]); omega) (by (try simp only [la, lc, ln]); omega) (by (try simp only [la, lc, ln]); omega)).mono ?_; rintro e w34 ⟨v70, rfl, s70, b34⟩; have B34 := bN hHeld.1 b34; have R70 := rS s70
   replace R63 := rB R63 b34; replace R69 := rB R69 b34
   have S70 := sM s70 hHeld.1.size
   clear b34 s70
   clear hHeld; refine hK.out _ _ (KP _ B34.out) (fun hHeld => ?_); clear hK K; try simp only [Act.put, pa, pz, ps]
   refine tkm 8 4 (v70) hHeld rfl ?_; try simp only [Act.put, pa, pz, ps]
   have R4 := R70; clear R70
   have S4 := S70; clear S70
   refine wpAnyH_done (by kernel_rfl) ?_ _
   go_wp2
   go_ret
   exact ⟨_, rfl, by rw [HE.out]; exact S4.out.mono (by omega), B0.out.trans (B34.out.mono (by omega))⟩
  ·go_simp; go_at_call 36; refine (HR.out w28 0 (by omega) hHeld.1).mono ?_; rintro e w35 ⟨v60, rfl, s60, b35⟩; have B35 := bN hHeld.1 b35; have R60 := rS s60
   replace R61 := rB R61 b35
   clear b35 s60
   clear hHeld; refine hK.out _ _ (KP _ B35.out) (fun hHeld => ?_); clear hK K; try simp only [Act.put, pa, pz, ps]
   refine rdy [0] (arc 54 rfl (fun K hK => ?_) AllReadyH.nil)
   go_simp; obtain ⟨w36, h36, b36, B36, R54⟩ := nB hHeld.1 [⟨#[91]⟩] #[.string ⟨#[91]⟩] rfl rfl; rw [<- h36]; clear h36
   replace R60 := rB R60 b36; replace R61 := rB R61 b36
   clear b36
   clear hHeld; refine hK.out _ _ (KP _ B36.out) (fun hHeld => ?_); clear hK K; try simp only [Act.put, pa, pz, ps]
   refine rdy [8] (arc 62 rfl (fun K hK => ?_) AllReadyH.nil)
   go_simp; go_at_call 80; refine (za _ _ _ _ _ _ w36 R54.out.rd R60.out.rd R61.out.rd (by (try simp only [la, lc, ln]); omega) (by (try simp only [la, lc, ln]); omega) (by (try simp only [la, lc, ln]); omega)).mono ?_; rintro e w37 ⟨v62, rfl, s62, b37⟩; have B37 := bN hHeld.1 b37; have R62 := rS s62
   replace R54 := rB R54 b37; replace R60 := rB R60 b37; replace R61 := rB R61 b37
   have S62 := sM s62 hHeld.1.size
   clear b37 s62
   clear hHeld; refine hK.out _ _ (KP _ B37.out) (fun hHeld => ?_); clear hK K; try simp only [Act.put, pa, pz, ps]
   refine tkm 9 8 (v62) hHeld rfl ?_; try simp only [Act.put, pa, pz, ps]
   have R8 := R62; clear R62
   have S8 := S62; clear S62
   refine wpAnyH_done (by kernel_rfl) ?_ _
   clear R54; clear R60; clear R61; clear S8
   obtain ⟨-, tc, kc, -⟩ := KP _ B37.out; have lz := B37.out.size; have lz1 : w.heap.size + 1 < w37.heap.size := by omega
   go_wp2_with fail
   clear tc kc lz lz1
   refine wp_region_held_drew (by kernel_rfl) (KP _ B37.out.drew) (fun hHeld => ?_); obtain ⟨w38, h38, b38⟩ := dR w37; rw [<- h38] at hHeld ⊢; clear h38
   replace R8 := rB R8 b38
   clear b38
   refine tkm 0 63 (v62) hHeld rfl ?_; try simp only [Act.put, pa, pz, ps]
   have R63 := R8; clear R8
   refine tkm 1 64 (.agg #[.slice (some ⟨b, off, none⟩) L c, .int .i64 top]) hHeld rfl ?_; try simp only [Act.put, pa, pz, ps]
   refine tkm 2 65 (.pointer (some ⟨w.heap.size + 1, 3, none⟩)) hHeld rfl ?_; try simp only [Act.put, pa, pz, ps]
   refine tkm 3 66 (.slice (some ⟨bk, ok, none⟩) 2 ck) hHeld rfl ?_; try simp only [Act.put, pa, pz, ps]
   refine tkm 4 67 (.pointer (some ⟨bk, ok + 1, none⟩)) hHeld rfl ?_; try simp only [Act.put, pa, pz, ps]
   refine tkm 5 68 (.int .i64 (y 1)) hHeld rfl ?_; try simp only [Act.put, pa, pz, ps]
   refine rdy [6] (arc 69 rfl (fun K hK => ?_) AllReadyH.nil)
   go_simp; go_at_call 36; refine (HR.out w38 1 (by omega) hHeld.1).mono ?_; rintro e w39 ⟨v69, rfl, s69, b39⟩; have B39 := bN hHeld.1 b39; have R69 := rS s69
   replace R63 := rB R63 b39
   clear b39 s69
   clear hHeld; refine hK.out _ _ (KP _ B39.out) (fun hHeld => ?_); clear hK K; try simp only [Act.put, pa, pz, ps]
   refine rdy [7] (arc 70 rfl (fun K hK => ?_) AllReadyH.nil)
   go_simp; go_at_call 80; refine (za _ _ _ _ _ _ w39 R63.out.rd R69.out.rd (RdS.nil _) (by (try simp only [la, lc, ln]); omega) (by (try simp only [la, lc, ln]); omega) (by (try simp only [la, lc, ln]); omega)).mono ?_; rintro e w40 ⟨v70, rfl, s70, b40⟩; have B40 := bN hHeld.1 b40; have R70 := rS s70
   replace R63 := rB R63 b40; replace R69 := rB R69 b40
   have S70 := sM s70 hHeld.1.size
   clear b40 s70
   clear hHeld; refine hK.out _ _ (KP _ B40.out) (fun hHeld => ?_); clear hK K; try simp only [Act.put, pa, pz, ps]
   refine tkm 8 4 (v70) hHeld rfl ?_; try simp only [Act.put, pa, pz, ps]
   have R4 := R70; clear R70
   have S4 := S70; clear S70
   refine wpAnyH_done (by kernel_rfl) ?_ _
   go_wp2
   go_ret
   exact ⟨_, rfl, by rw [HE.out]; exact S4.out.mono (by omega), B0.out.trans (B40.out.mono (by omega))⟩
set_option maxHeartbeats 4000000 in
theorem zkj (b off L c z : Nat) (top : Int) (t : ByteArray) (i : Int) (ak : Option Addr) (l ck : Nat) (y : Nat -> Int) (rec : Int -> List ByteArray) (T : Nat) (w : World) (hb : b < w.heap.size) (hz : z < L) (hL : L <= 3000) (c0 : w.cell? ⟨b, off + z * 4, none⟩ = some (.int .i64 21)) (c1 : w.cell? ⟨b, off + z * 4 + 1, none⟩ = some (.string t)) (c2 : w.cell? ⟨b, off + z * 4 + 2, none⟩ = some (.int .i64 i)) (c3 : w.cell? ⟨b, off + z * 4 + 3, none⟩ = some (.slice ak l ck)) (hk : SlF T w (.slice ak l ck) l l (fun i => .int .i64 (y i))) (hT : T <= w.heap.size) (hl : l <= 1048576) (hs : smN rec y l <= 100000)
 (hr : ∀ (V : World) (m : Nat), m < l -> Below w.heap.size w V -> Calls Tryd.prog 36 #[.agg #[.slice (some ⟨b, off, none⟩) L c, .int .i64 top], .int .i64 (y m)] V (zc V (rec (y m)))) :
 Calls Tryd.prog 36 #[.agg #[.slice (some ⟨b, off, none⟩) L c, .int .i64 top], .int .i64 (z : Int)] w (zc w (bod rec ⟨21, t, i, l, y⟩)) := by
 have HE : Hid (bod rec ⟨21, t, i, l, y⟩ = [⟨#[123]⟩] ++ flN rec y l ++ [⟨#[125]⟩]) := by show bod _ _ = _; simp [bod]
 have hl' : (l : Int) <= 1048576 := by omega
 have HK := hI hk
 have HLE : Hid (∀ m, m <= l -> (flN rec y m).length <= 100000) := fun m hm => by
  have h1 := (zd rec y m).2
  have h3 := smU rec y m (l - m)
  rw [show m + (l - m) = l by omega] at h3
  omega
 have HL2 : Hid (∀ m, m < l -> (rec (y m)).length <= 100000) := fun m hm => Nat.le_trans (smA rec y hm) hs
 obtain ⟨W0, hW0⟩ : ∃ V, V = (w.alloc (.cells #[.slice (some ⟨b, off, none⟩) L c, .int .i64 top] 41)).alloc (.cells #[.int .i64 21, .string t, .int .i64 i, .slice ak l ck] 71) := ⟨_, rfl⟩
 have z0 : W0.heap.size = w.heap.size + 2 := by rw [hW0]; simp
 have B0 : Hid (Below w.heap.size w W0) := by rw [hW0]; exact ((Below.refl _ _).alloc (Nat.le_refl _) _).alloc (by simp) _
 have T0 : Hid (∀ z, W0.cell? ⟨w.heap.size, z, none⟩ = (#[.slice (some ⟨b, off, none⟩) L c, .int .i64 top] : Array Value)[z]?) := fun z => by rw [hW0]; simp [go_sem]
 have K0 : Hid (∀ z, W0.cell? ⟨w.heap.size + 1, z, none⟩ = (#[.int .i64 21, .string t, .int .i64 i, .slice ak l ck] : Array Value)[z]?) := fun z => by rw [hW0]; simp [go_sem]
 have HR : Hid (∀ (V : World) (m : Nat), m < l -> Below W0.heap.size W0 V -> Calls Tryd.prog 36 #[.agg #[.slice (some ⟨b, off, none⟩) L c, .int .i64 top], .int .i64 (y m)] V (zc V (rec (y m)))) := fun V m hm hV => hr V m hm (B0.out.trans (hV.mono (by omega)))
 have BK : Hid (∀ V, Below W0.heap.size W0 V -> Below w.heap.size w V) := fun V hV => B0.out.trans (hV.mono (by omega))
 have S0 : Hid (SR W0.heap.size (W0.alloc (.cells #[.string ⟨#[123]⟩] 9)) (.slice (some ⟨W0.heap.size, 0, none⟩) 1 1) ([⟨#[123]⟩] ++ flN rec y 0)) := SR.new [⟨#[123]⟩] (Nat.le_refl _) (by decide) _ rfl
 rw [z0] at S0
 have hz' : (z : Int) < (L : Int) := by omega
 have hL' : (L : Int) <= 3000 := by omega
 clear hk hr hs
 go_enter Tryd.func36, Tryd.ntmps36
 go_wp2_with (go_at_call 77; refine (zb6 21 3 (by decide) _).mono ?_; rintro e w1 ⟨rfl, rfl⟩)
 rw [<- hW0]
 clear hW0 c0 c1 c2 c3
 go_loopw [6, 7] (fun v q wr => ∃ (m : Nat), m <= l /\ q = .int .i64 m /\ Hid (SR W0.heap.size wr v ([⟨#[123]⟩] ++ flN rec y m)) /\ Hid (Below W0.heap.size W0 wr)) (fun _ q _ => l - (intOf q).toNat)
 case atStart => exact ⟨0, Nat.zero_le _, rfl, by rw [z0]; exact S0, (Below.refl _ _).alloc (Nat.le_refl _) _⟩
 case round =>
  obtain ⟨m, hm, rfl, S6, HB⟩ := hrel
  have n1 := HLE.out m hm
  clear S0
  have tc := fun q => (HB.out.cell (p := ⟨w.heap.size, q, none⟩) (by dsimp only; omega)).trans (T0.out q)
  have kc := fun q => (HB.out.cell (p := ⟨w.heap.size + 1, q, none⟩) (by dsimp only; omega)).trans (K0.out q)
  have lz1 : w.heap.size + 1 < wr.heap.size := by have := HB.out.size; omega
  by_cases hlt : m < l
  rotate_left
  · have hge : ¬ (m : Int) < (l : Int) := by omega
    obtain rfl : m = l := by omega
    have RL : Hid (RdF (wr.alloc (.cells #[.string ⟨#[125]⟩] 9)) (.slice (some ⟨wr.heap.size, 0, none⟩) 1 1) [⟨#[125]⟩]) := RdF.new _ _ rfl rfl
    have SL' : Hid (SR W0.heap.size (wr.alloc (.cells #[.string ⟨#[125]⟩] 9)) u6 ([⟨#[123]⟩] ++ flN rec y m)) := S6.out.alloc _
    have BL : Hid (Below W0.heap.size W0 (wr.alloc (.cells #[.string ⟨#[125]⟩] 9))) := HB.out.alloc HB.out.size _
    have n3 : (([⟨#[123]⟩] : List ByteArray) ++ flN rec y m).length <= 1048576 := (by (try simp only [la, lc, ln]); omega)
    have Z0 := hI z0
    clear S6
    go_wp2_with (at_builtin; refine za5 rfl _ _ rfl W0.heap.size W0 u6 ([⟨#[123]⟩] ++ flN rec y m) rfl SL'.out BL.out _ [⟨#[125]⟩] rfl RL.out.rd n3 (by decide) BL.out.size ?_)
    intro vc wc s5 b5
    have S5 : Hid (SR W0.heap.size wc vc (([⟨#[123]⟩] ++ flN rec y m) ++ [⟨#[125]⟩])) := by rw [Z0.out] at *; exact s5
    have BC : Hid (Below W0.heap.size W0 wc) := by rw [Z0.out] at *; exact b5
    go_wp2
    go_ret
    exact ⟨_, rfl, by rw [HE.out]; exact S5.out.mono (by omega), BK.out _ BC.out⟩
  have hlt' : (m : Int) < (l : Int) := by omega
  have n2 := HL2.out m hlt
  have R6 := rS S6.out
  have HFL : Hid (([⟨#[123]⟩] : List ByteArray) ++ flN rec y (m + 1) = ([⟨#[123]⟩] ++ flN rec y m) ++ rec (y m)) := by show _ = _; simp [flN]
  obtain ⟨bk, ok, ck2, hv, tk1, lk, hkk⟩ := HK.out.parts (k := 0) (by omega)
  simp only [Value.slice.injEq] at hv
  obtain ⟨rfl, _, rfl⟩ := hv
  have yk := hkk m hlt
  have KPH : Hid (∀ V, Below W0.heap.size W0 V -> SQ1 W0 w.heap.size #[.slice (some ⟨b, off, none⟩) L c, .int .i64 top] #[.int .i64 21, .string t, .int .i64 i, .slice (some ⟨bk, ok, none⟩) l ck] bk (ok + m) (y m) V) := fun V hV => ⟨hV, fun z => (hV.cell (p := ⟨w.heap.size, z, none⟩) (by dsimp only; omega)).trans (T0.out z), fun z => (hV.cell (p := ⟨w.heap.size + 1, z, none⟩) (by dsimp only; omega)).trans (K0.out z), ((BK.out V hV).cell (p := ⟨bk, ok + m, none⟩) (by dsimp only; omega)).trans yk⟩
  clear hkk yk HLE HK T0 K0
  go_wp2_with fail
  clear tc kc lz1
  have KP := KPH.out
  clear KPH
  refine wp_region_held_drew (by kernel_rfl) (KP _ HB.out.drew) (fun hHeld => ?_); obtain ⟨w1, h1, b1⟩ := dR wr; rw [<- h1] at hHeld ⊢; clear h1
  replace R6 := rB R6 b1; replace S6 := sB S6 b1
  clear b1
  refine tkm 0 37 (u6) hHeld rfl ?_; try simp only [Act.put, pa, pz, ps]
  have R37 := R6; clear R6
  have S37 := S6; clear S6
  refine tkm 1 38 (.agg #[.slice (some ⟨b, off, none⟩) L c, .int .i64 top]) hHeld rfl ?_; try simp only [Act.put, pa, pz, ps]
  refine tkm 2 39 (.pointer (some ⟨w.heap.size + 1, 3, none⟩)) hHeld rfl ?_; try simp only [Act.put, pa, pz, ps]
  refine tkm 3 40 (.slice (some ⟨bk, ok, none⟩) l ck) hHeld rfl ?_; try simp only [Act.put, pa, pz, ps]
  refine tkm 4 41 (.int .i64 (m : Int)) hHeld rfl ?_; try simp only [Act.put, pa, pz, ps]
  refine tkm 5 42 (.pointer (some ⟨bk, ok + m, none⟩)) hHeld rfl ?_; try simp only [Act.put, pa, pz, ps]
  refine tkm 6 43 (.int .i64 (y m)) hHeld rfl ?_; try simp only [Act.put, pa, pz, ps]
  refine rdy [7] (arc 44 rfl (fun K hK => ?_) AllReadyH.nil)
  go_simp; go_at_call 36; refine (HR.out w1 m hlt hHeld.1).mono ?_; rintro e w2 ⟨v44, rfl, s44, b2⟩; have B2 := bN hHeld.1 b2; have R44 := rS s44
  replace R37 := rB R37 b2; replace S37 := sB S37 b2
  clear b2 s44
  clear hHeld; refine hK.out _ _ (KP _ B2.out) (fun hHeld => ?_); clear hK K; try simp only [Act.put, pa, pz, ps]
  refine rdy [8] (arc 45 rfl (fun K hK => ?_) AllReadyH.nil)
  rw [if_pos (by kernel_rfl)]; refine zg (by rfl) W0.heap.size W0 _ _ (by rfl) S37.out hHeld.1 _ _ (by rfl) R44.out (by (try simp only [la, lc, ln]); omega) (by (try simp only [la, lc, ln]); omega) hHeld.1.size ?_
  intro v45 w3 s45 b3 hg; have B3 := hI b3; have S45 := hI s45; have R45 := rS s45
  clear R37
  clear R44
  clear S37 s45 b3 hg
  clear hHeld; refine hK.out _ _ (KP _ B3.out) (fun hHeld => ?_); clear hK K; try simp only [Act.put, pa, pz, ps]
  refine tkm 9 6 (v45) hHeld rfl ?_; try simp only [Act.put, pa, pz, ps]
  have R6 := R45; clear R45
  have S6 := S45; clear S45
  refine wpAnyH_done (by kernel_rfl) ?_ _
  obtain ⟨-, tc, kc, -⟩ := KP _ B3.out; have lz := B3.out.size; have lz1 : w.heap.size + 1 < w3.heap.size := by omega
  go_wp2
  go_roundw
  case rel => exact ⟨m + 1, by omega, by go_num, by rw [HFL.out]; exact S6.out, B3⟩
  case measure => simp [intOf]; omega
end Go.Proofs.YtiglkhkfbgjjoaaDoor
