/- - -/
import Derived.Test.YtblcfbhlmdhnpaaGreatBMrD
namespace Go.Proofs.YtblcfbhlmdhnpaaGreat
set_option maxRecDepth 20000
open Go.RowKit Go.PlainAid
set_option linter.unusedSimpArgs false
set_option linter.unusedVariables false
structure MwW (ow : Nat -> Nat) (B g : Nat) (w : World) (a1 : Option Addr) (L : Nat) (X : Nat -> PtD) (au : Nat -> Option Addr) (cu : Nat -> Nat) (ac : Nat -> Option Addr) (cc : Nat -> Nat) (a2 : Option Addr) (n : Nat) (s : Nat -> ByteArray) (aw : Option Addr) (wl : Nat) (fz : Nat -> Value) (ar : Option Addr) (rl : Nat) (fy : Nat -> Value) (ao : Option Addr) (m : Nat) (u : Nat -> ByteArray) : Prop where
 md : MdW ow B g w a1 L X au cu ac cc a2 n s
 wd : RwT ow B (g + 2 + 2 * L) 88 w aw wl fz
 rt : RwT ow B (g + 2 + 2 * L + 1) 35 w ar (2 * rl) fy
 ot : RwT ow B (g + 4 + 2 * L) 9 w ao m (fun i => .string (u i))
theorem MwW.kept {ow : Nat -> Nat} {B g : Nat} {w w' : World} {a1 : Option Addr} {L : Nat} {X : Nat -> PtD} {au : Nat -> Option Addr} {cu : Nat -> Nat} {ac : Nat -> Option Addr} {cc : Nat -> Nat} {a2 : Option Addr} {n : Nat} {s : Nat -> ByteArray} {aw : Option Addr} {wl : Nat} {fz : Nat -> Value} {ar : Option Addr} {rl : Nat} {fy : Nat -> Value} {ao : Option Addr} {m : Nat} {u : Nat -> ByteArray} {p : Nat -> Prop} (h : MwW ow B g w a1 L X au cu ac cc a2 n s aw wl fz ar rl fy ao m u) (hk : zc ow p w w') (hp : ∀ t, g <= t -> t <= g + 4 + 2 * L -> ¬ p t) : MwW ow B g w' a1 L X au cu ac cc a2 n s aw wl fz ar rl fy ao m u :=
 ⟨h.md.kept hk (fun t h1 h2 => hp t h1 (by omega)), h.wd.kept hk (hp _ (by omega) (by omega)), h.rt.kept hk (hp _ (by omega) (by omega)), h.ot.kept hk (hp _ (by omega) (by omega))⟩
set_option maxHeartbeats 4000000 in
theorem zc8 (ow : Nat -> Nat) (B g : Nat) (a1 : Option Addr) (L c1 : Nat) (X : Nat -> PtD) (au : Nat -> Option Addr) (cu : Nat -> Nat) (ac : Nat -> Option Addr) (cc : Nat -> Nat) (a2 : Option Addr) (n c2 : Nat) (s : Nat -> ByteArray) (aw : Option Addr) (wl cw : Nat) (smz toh top : Int) (cyc : Bool) (sn old cp srz : Int) (ar : Option Addr) (rl cr : Nat) (z y : Nat -> Int) (fa de sh : Bool) (st e0 e1 sp : Int) (ao : Option Addr) (m co : Nat) (u : Nat -> ByteArray) (k0 kt : Nat) (w : World) (h : MwW ow B g w a1 L X au cu ac cc a2 n s aw wl (fun i => .int .u64 (z i)) ar rl (fun i => .int .i64 (y i)) ao m u) (hg : 1 <= g) (hown : ∀ k, w.heap.size <= k -> ow k = 0) (hL : (L : Int) <= 1048576) (hX : ∀ j, j < L -> PLe (X j) 1048576) (hn : (n : Int) <= 1048576) (hw : (wl : Int) <= 1048576) (hr : (rl : Int) <= 1048576) (hm : (m : Int) <= 1048576) (hk0 : 0 < k0) (hkt : ptP X (k0 : Int) L = (kt : Int)) (hk1 : (kt : Int) + n + wl + 2 * rl + m <= 9000000) :
 Calls Tryz.prog 11 #[.agg #[.slice a1 L c1, .slice a2 n c2, .slice aw wl cw, .int .i64 smz, .int .i64 toh, .int .i64 top, .bool cyc, .int .i64 sn, .int .i64 old, .int .i64 cp, .int .i64 srz, .slice ar rl cr, .bool fa, .bool de, .bool sh, .int .i64 st, .int .i64 e0, .int .i64 e1, .int .i64 sp, .slice ao m co], .int .i64 (k0 : Int)] w fun e w' => e = .returned (.int .i64 ((kt : Int) + n + wl + 2 * rl + m)) /\ MwW ow B g w' a1 L (ptX X (k0 : Int) L) au cu ac cc a2 n (fun i => mtx (kt + i)) aw wl (mkW ((kt + n : Nat) : Int)) ar rl (mkI (((kt + n : Nat) : Int) + wl)) ao m (fun i => mtx (kt + n + wl + 2 * rl + i)) /\ zc ow (fun t => g <= t /\ t <= g + 4 + 2 * L) w w' := by
 have b0 : Below w.heap.size w (w.alloc (.cells #[.slice a1 L c1, .slice a2 n c2, .slice aw wl cw, .int .i64 smz, .int .i64 toh, .int .i64 top, .bool cyc, .int .i64 sn, .int .i64 old, .int .i64 cp, .int .i64 srz, .slice ar rl cr, .bool fa, .bool de, .bool sh, .int .i64 st, .int .i64 e0, .int .i64 e1, .int .i64 sp, .slice ao m co] 37)) := (Below.refl _ _).alloc (Nat.le_refl _) _
 have T0 : Hid (zc ow (fun t => g <= t /\ t <= g + 4 + 2 * L) w (w.alloc (.cells #[.slice a1 L c1, .slice a2 n c2, .slice aw wl cw, .int .i64 smz, .int .i64 toh, .int .i64 top, .bool cyc, .int .i64 sn, .int .i64 old, .int .i64 cp, .int .i64 srz, .slice ar rl cr, .bool fa, .bool de, .bool sh, .int .i64 st, .int .i64 e0, .int .i64 e1, .int .i64 sp, .slice ao m co] 37))) := zc.of_below b0
 have M0 : Hid (MwW ow B g (w.alloc (.cells #[.slice a1 L c1, .slice a2 n c2, .slice aw wl cw, .int .i64 smz, .int .i64 toh, .int .i64 top, .bool cyc, .int .i64 sn, .int .i64 old, .int .i64 cp, .int .i64 srz, .slice ar rl cr, .bool fa, .bool de, .bool sh, .int .i64 st, .int .i64 e0, .int .i64 e1, .int .i64 sp, .slice ao m co] 37)) a1 L X au cu ac cc a2 n s aw wl (fun i => .int .u64 (z i)) ar rl (fun i => .int .i64 (y i)) ao m u) := h.kept (p := fun _ => False) (zc.of_below b0) (fun _ _ _ h => h)
 have hs0 : ∀ k, (w.alloc (.cells #[.slice a1 L c1, .slice a2 n c2, .slice aw wl cw, .int .i64 smz, .int .i64 toh, .int .i64 top, .bool cyc, .int .i64 sn, .int .i64 old, .int .i64 cp, .int .i64 srz, .slice ar rl cr, .bool fa, .bool de, .bool sh, .int .i64 st, .int .i64 e0, .int .i64 e1, .int .i64 sp, .slice ao m co] 37)).heap.size <= k -> ow k = 0 := fun k hk => hown k (by have := World.size_alloc w (.cells #[.slice a1 L c1, .slice a2 n c2, .slice aw wl cw, .int .i64 smz, .int .i64 toh, .int .i64 top, .bool cyc, .int .i64 sn, .int .i64 old, .int .i64 cp, .int .i64 srz, .slice ar rl cr, .bool fa, .bool de, .bool sh, .int .i64 st, .int .i64 e0, .int .i64 e1, .int .i64 sp, .slice ao m co] 37); omega)
 have HC : Hid (Calls _ _ _ _ _) := zbo ow B g a1 L c1 X au cu ac cc a2 n c2 s k0 kt _ M0.out.md hg hs0 hL hX hn hk0 hkt (by omega)
 have hle := zap X (k0 : Int) L
 rw [hkt] at hle
 have x0 := za.new w 37 #[.slice a1 L c1, .slice a2 n c2, .slice aw wl cw, .int .i64 smz, .int .i64 toh, .int .i64 top, .bool cyc, .int .i64 sn, .int .i64 old, .int .i64 cp, .int .i64 srz, .slice ar rl cr, .bool fa, .bool de, .bool sh, .int .i64 st, .int .i64 e0, .int .i64 e1, .int .i64 sp, .slice ao m co]
 have o0 : ow w.heap.size = 0 := hown _ (Nat.le_refl _)
 clear h b0 hs0
 go_enter Tryz.func11, Tryz.ntmps11
 go_wp2_with fail
 refine HC.out.mono ?_
 rintro e w1 ⟨rfl, r1, t1⟩
 have x1 : za w1 w.heap.size 37 #[.slice a1 L c1, .slice a2 n c2, .slice aw wl cw, .int .i64 smz, .int .i64 toh, .int .i64 top, .bool cyc, .int .i64 sn, .int .i64 old, .int .i64 cp, .int .i64 srz, .slice ar rl cr, .bool fa, .bool de, .bool sh, .int .i64 st, .int .i64 e0, .int .i64 e1, .int .i64 sp, .slice ao m co] := (t1.block _ x0.lt (by show ¬ (g <= ow w.heap.size /\ _); rw [o0]; omega)).trans x0
 have k1 := x1.cell
 have l1 := x1.lt
 have X1 : Hid (za w1 w.heap.size 37 #[.slice a1 L c1, .slice a2 n c2, .slice aw wl cw, .int .i64 smz, .int .i64 toh, .int .i64 top, .bool cyc, .int .i64 sn, .int .i64 old, .int .i64 cp, .int .i64 srz, .slice ar rl cr, .bool fa, .bool de, .bool sh, .int .i64 st, .int .i64 e0, .int .i64 e1, .int .i64 sp, .slice ao m co]) := x1
 have R1 : Hid (MdW ow B g w1 a1 L (ptX X (k0 : Int) L) au cu ac cc a2 n (fun i => mtx (kt + i))) := r1
 have W1 : Hid (RwT ow B (g + 2 + 2 * L) 88 w1 aw wl (fun i => .int .u64 (z i))) := M0.out.wd.kept t1 (by omega)
 have V1 : Hid (RwT ow B (g + 2 + 2 * L + 1) 35 w1 ar (2 * rl) (fun i => .int .i64 (y i))) := M0.out.rt.kept t1 (by omega)
 have O1 : Hid (RwT ow B (g + 4 + 2 * L) 9 w1 ao m (fun i => .string (u i))) := M0.out.ot.kept t1 (by omega)
 have T1 : Hid (zc ow (fun t => g <= t /\ t <= g + 4 + 2 * L) w w1) := T0.out.trans (t1.mono (fun t h => by omega))
 have hs1 : ∀ k, w1.heap.size <= k -> ow k = 0 := fun k hk => hown k (by have := T1.out.size; omega)
 clear r1 t1 HC M0 x0 x1 T0
 go_wp2_with fail
 rw [show (kt : Int) + n = ((kt + n : Nat) : Int) by omega]
 refine (zdt ow B (g + 2 + 2 * L) aw wl cw smz toh top cyc sn old cp srz ar rl cr z y (kt + n) w1 W1.out V1.out (by omega) hs1 hw hr (by omega)).mono ?_
 rintro e w2 ⟨rfl, rw2, rv2, t2⟩
 have x2 : za w2 w.heap.size 37 #[.slice a1 L c1, .slice a2 n c2, .slice aw wl cw, .int .i64 smz, .int .i64 toh, .int .i64 top, .bool cyc, .int .i64 sn, .int .i64 old, .int .i64 cp, .int .i64 srz, .slice ar rl cr, .bool fa, .bool de, .bool sh, .int .i64 st, .int .i64 e0, .int .i64 e1, .int .i64 sp, .slice ao m co] := (t2.block _ l1 (by show ¬ (ow w.heap.size = g + 2 + 2 * L \/ ow w.heap.size = g + 2 + 2 * L + 1); rw [o0]; omega)).trans X1.out
 have k2 := x2.cell
 have l2 := x2.lt
 have R2 : Hid (MdW ow B g w2 a1 L (ptX X (k0 : Int) L) au cu ac cc a2 n (fun i => mtx (kt + i))) := R1.out.kept t2 (fun t h1 h2 => by omega)
 have W2 : Hid (RwT ow B (g + 2 + 2 * L) 88 w2 aw wl (mkW ((kt + n : Nat) : Int))) := rw2
 have V2 : Hid (RwT ow B (g + 2 + 2 * L + 1) 35 w2 ar (2 * rl) (mkI (((kt + n : Nat) : Int) + wl))) := rv2
 have O2 : Hid (RwT ow B (g + 4 + 2 * L) 9 w2 ao m (fun i => .string (u i))) := O1.out.kept t2 (by omega)
 have T2 : Hid (zc ow (fun t => g <= t /\ t <= g + 4 + 2 * L) w w2) := T1.out.trans (t2.mono (fun t h => by omega))
 clear rw2 rv2 t2 R1 W1 V1 O1 T1 k1 l1 x2 X1 hs1
 go_wp2_with fail
 rw [show (kt : Int) + n + wl + 2 * rl = ((kt + n + wl + 2 * rl : Nat) : Int) by omega]
 refine (zbf ow B (g + 4 + 2 * L) ao m co u (kt + n + wl + 2 * rl) w2 O2.out hm (by omega) (by omega)).mono ?_
 rintro e w3 ⟨rfl, r3, t3⟩
 have HF : Hid (MwW ow B g w3 a1 L (ptX X (k0 : Int) L) au cu ac cc a2 n (fun i => mtx (kt + i)) aw wl (mkW ((kt + n : Nat) : Int)) ar rl (mkI (((kt + n : Nat) : Int) + wl)) ao m (fun i => mtx (kt + n + wl + 2 * rl + i))) := ⟨R2.out.kept t3 (fun t h1 h2 => by omega), W2.out.kept t3 (by omega), V2.out.kept t3 (by omega), r3⟩
 have HT : Hid (zc ow (fun t => g <= t /\ t <= g + 4 + 2 * L) w w3) := T2.out.trans (t3.mono (fun t h => by omega))
 clear r3 t3 R2 W2 V2 O2 T2 k2
 go_wp2
 go_ret
 exact ⟨rfl, HF.out, HT.out⟩
set_option maxHeartbeats 4000000 in
theorem zbe (ow : Nat -> Nat) (B g : Nat) (a1 : Option Addr) (L c1 : Nat) (X : Nat -> PtD) (au : Nat -> Option Addr) (cu : Nat -> Nat) (ac : Nat -> Option Addr) (cc : Nat -> Nat) (a2 : Option Addr) (n c2 : Nat) (aw : Option Addr) (wl cw : Nat) (smz toh top : Int) (cyc : Bool) (sn old cp srz : Int) (ar : Option Addr) (rl cr : Nat) (fa de sh : Bool) (st e0 e1 sp : Int) (ao : Option Addr) (m co : Nat) (k0 kt : Nat) (w : World) (h : MwW ow B g w a1 L (ptX X (k0 : Int) L) au cu ac cc a2 n (fun i => mtx (kt + i)) aw wl (mkW ((kt + n : Nat) : Int)) ar rl (mkI (((kt + n : Nat) : Int) + wl)) ao m (fun i => mtx (kt + n + wl + 2 * rl + i))) (hL : (L : Int) <= 1048576) (hX : ∀ j, j < L -> PLe (X j) 1048576) (hn : (n : Int) <= 1048576) (hw : (wl : Int) <= 1048576) (hr : (rl : Int) <= 1048576) (hm : (m : Int) <= 1048576) (hk0 : 0 < k0) (hkt : ptP X (k0 : Int) L = (kt : Int)) (hk1 : (kt : Int) + n + wl + 2 * rl + m <= 9000000) :
 Calls Tryz.prog 12 #[.agg #[.slice a1 L c1, .slice a2 n c2, .slice aw wl cw, .int .i64 smz, .int .i64 toh, .int .i64 top, .bool cyc, .int .i64 sn, .int .i64 old, .int .i64 cp, .int .i64 srz, .slice ar rl cr, .bool fa, .bool de, .bool sh, .int .i64 st, .int .i64 e0, .int .i64 e1, .int .i64 sp, .slice ao m co], .int .i64 (k0 : Int)] w fun e w' => e = .returned (.int .i64 ((kt : Int) + n + wl + 2 * rl + m)) /\ Below w.heap.size w w' := by
 have b0 : Below w.heap.size w (w.alloc (.cells #[.slice a1 L c1, .slice a2 n c2, .slice aw wl cw, .int .i64 smz, .int .i64 toh, .int .i64 top, .bool cyc, .int .i64 sn, .int .i64 old, .int .i64 cp, .int .i64 srz, .slice ar rl cr, .bool fa, .bool de, .bool sh, .int .i64 st, .int .i64 e0, .int .i64 e1, .int .i64 sp, .slice ao m co] 37)) := (Below.refl _ _).alloc (Nat.le_refl _) _
 have B0 : Hid (Below w.heap.size w (w.alloc (.cells #[.slice a1 L c1, .slice a2 n c2, .slice aw wl cw, .int .i64 smz, .int .i64 toh, .int .i64 top, .bool cyc, .int .i64 sn, .int .i64 old, .int .i64 cp, .int .i64 srz, .slice ar rl cr, .bool fa, .bool de, .bool sh, .int .i64 st, .int .i64 e0, .int .i64 e1, .int .i64 sp, .slice ao m co] 37))) := b0
 have M0 : Hid (MwW ow B g (w.alloc (.cells #[.slice a1 L c1, .slice a2 n c2, .slice aw wl cw, .int .i64 smz, .int .i64 toh, .int .i64 top, .bool cyc, .int .i64 sn, .int .i64 old, .int .i64 cp, .int .i64 srz, .slice ar rl cr, .bool fa, .bool de, .bool sh, .int .i64 st, .int .i64 e0, .int .i64 e1, .int .i64 sp, .slice ao m co] 37)) a1 L (ptX X (k0 : Int) L) au cu ac cc a2 n (fun i => mtx (kt + i)) aw wl (mkW ((kt + n : Nat) : Int)) ar rl (mkI (((kt + n : Nat) : Int) + wl)) ao m (fun i => mtx (kt + n + wl + 2 * rl + i))) := h.kept (p := fun _ => False) (zc.of_below b0) (fun _ _ _ h => h)
 have HC : Hid (Calls _ _ _ _ _) := zdw ow B g a1 L c1 X au cu ac cc a2 n c2 k0 kt _ M0.out.md hL hX hn hk0 hkt (by omega)
 have hle := zap X (k0 : Int) L
 rw [hkt] at hle
 have x0 := za.new w 37 #[.slice a1 L c1, .slice a2 n c2, .slice aw wl cw, .int .i64 smz, .int .i64 toh, .int .i64 top, .bool cyc, .int .i64 sn, .int .i64 old, .int .i64 cp, .int .i64 srz, .slice ar rl cr, .bool fa, .bool de, .bool sh, .int .i64 st, .int .i64 e0, .int .i64 e1, .int .i64 sp, .slice ao m co]
 have n0 : ¬ (kt : Int) + n < 0 := by omega
 have n1 : ¬ (kt : Int) + n + wl + 2 * rl < 0 := by omega
 have n2 : ¬ (kt : Int) + n + wl + 2 * rl + m < 0 := by omega
 clear h b0
 go_enter Tryz.func12, Tryz.ntmps12
 go_wp2_with fail
 refine HC.out.mono ?_
 rintro e w1 ⟨rfl, d1⟩
 have x1 : za w1 w.heap.size 37 #[.slice a1 L c1, .slice a2 n c2, .slice aw wl cw, .int .i64 smz, .int .i64 toh, .int .i64 top, .bool cyc, .int .i64 sn, .int .i64 old, .int .i64 cp, .int .i64 srz, .slice ar rl cr, .bool fa, .bool de, .bool sh, .int .i64 st, .int .i64 e0, .int .i64 e1, .int .i64 sp, .slice ao m co] := x0.below d1 x0.lt
 have X1 : Hid (za w1 w.heap.size 37 #[.slice a1 L c1, .slice a2 n c2, .slice aw wl cw, .int .i64 smz, .int .i64 toh, .int .i64 top, .bool cyc, .int .i64 sn, .int .i64 old, .int .i64 cp, .int .i64 srz, .slice ar rl cr, .bool fa, .bool de, .bool sh, .int .i64 st, .int .i64 e0, .int .i64 e1, .int .i64 sp, .slice ao m co]) := x1
 have k1 := x1.cell
 have l1 := x1.lt
 have B1 : Hid (Below w.heap.size w w1) := zb B0.out d1
 have M1 : Hid (MwW ow B g w1 a1 L (ptX X (k0 : Int) L) au cu ac cc a2 n (fun i => mtx (kt + i)) aw wl (mkW ((kt + n : Nat) : Int)) ar rl (mkI (((kt + n : Nat) : Int) + wl)) ao m (fun i => mtx (kt + n + wl + 2 * rl + i))) := M0.out.kept (p := fun _ => False) (zc.of_below d1) (fun _ _ _ h => h)
 clear d1 HC M0 x0 x1 B0
 go_wp2_with fail
 rw [show (kt : Int) + n = ((kt + n : Nat) : Int) by omega]
 refine (zdu ow B (g + 2 + 2 * L) aw wl cw smz toh top cyc sn old cp srz ar rl cr (kt + n) w1 M1.out.wd M1.out.rt hw hr (by omega)).mono ?_
 rintro e w2 ⟨rfl, d2⟩
 have x2 : za w2 w.heap.size 37 #[.slice a1 L c1, .slice a2 n c2, .slice aw wl cw, .int .i64 smz, .int .i64 toh, .int .i64 top, .bool cyc, .int .i64 sn, .int .i64 old, .int .i64 cp, .int .i64 srz, .slice ar rl cr, .bool fa, .bool de, .bool sh, .int .i64 st, .int .i64 e0, .int .i64 e1, .int .i64 sp, .slice ao m co] := X1.out.below d2 l1
 have k2 := x2.cell
 have l2 := x2.lt
 have B2 : Hid (Below w.heap.size w w2) := zb B1.out d2
 have S2 : Hid (SlF w2.heap.size w2 (.slice ao m co) m m (fun i => .string (mtx (kt + n + wl + 2 * rl + i)))) := (M1.out.kept (p := fun _ => False) (zc.of_below d2) (fun _ _ _ h => h)).ot.sl m co
 clear d2 M1 X1 x2 B1 k1 l1
 go_wp2_with fail
 rw [show (kt : Int) + n + wl + 2 * rl = ((kt + n + wl + 2 * rl : Nat) : Int) by omega]
 refine (zbg _ ao m co (kt + n + wl + 2 * rl) _ S2.out (by simp) hm (by omega) (by omega)).mono ?_
 rintro e w3 ⟨rfl, d3⟩
 have B3 := zb B2.out d3
 clear d3 S2 B2 k2
 go_wp2
 go_ret
 exact ⟨rfl, B3⟩
end Go.Proofs.YtblcfbhlmdhnpaaGreat
