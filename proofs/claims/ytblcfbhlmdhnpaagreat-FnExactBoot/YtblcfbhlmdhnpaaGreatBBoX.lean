/- - -/
import Derived.Test.YtblcfbhlmdhnpaaGreatBBoV
import Derived.Test.YtblcfbhlmdhnpaaGreatBBoW
import Derived.Test.YtblcfbhlmdhnpaaGreatBBoM
import Derived.Test.YtblcfbhlmdhnpaaGreatBBoT
namespace Go.Proofs.YtblcfbhlmdhnpaaGreat
set_option maxRecDepth 20000
open Go.RowKit
set_option linter.unusedSimpArgs false
set_option linter.unusedVariables false
theorem zc0 (smz : Int) (w : World) (h0 : 256 <= smz) (h1 : smz <= 4000) :
 Calls Tryz.prog 15 #[.int .i64 smz, .int .i64 6] w fun e w' => ∃ bw cw br cr : Nat, e = .returned (.tuple #[.agg #[.slice (some ⟨bw, 0, none⟩) (2 * smz).toNat cw, .int .i64 smz, .int .i64 0, .int .i64 1, .bool false, .int .i64 0, .int .i64 0, .int .i64 0, .int .i64 1, .slice (some ⟨br, 0, none⟩) 6 cr], .bool true]) /\ RwW w' bw (zrW (2 * smz).toNat) /\ RwR w' br 6 (fun _ => 0) /\ w.heap.size <= bw /\ w.heap.size <= br /\ br ≠ bw /\ Below w.heap.size w w' := by
 refine (za2 smz 6 w h0 h1 (by omega) (by omega)).mono ?_
 rintro e w1 ⟨vw, vr, rfl, ⟨b1, t1, b2, t2, h1, h2, h3, h4, h5, ⟨_, cw, rfl, g | ⟨bw, M, f, rfl, q1, q2, q3, q4, q5⟩⟩, ⟨_, cr, rfl, g' | ⟨br, M', f', rfl, p1, p2, p3, p4, p5⟩⟩⟩, hb⟩
 · omega
 · omega
 · simp at g'
 · refine ⟨bw, cw, br, cr, rfl, ⟨M, f, by rw [zz]; exact q3, q4, fun i hi => ?_⟩, ⟨M', f', p3, p4, p5⟩, by omega, by omega, by omega, hb⟩
   show _ = Value.int .u64 (zj (zrW _) i)
   rw [zaw]
   exact q5 i (by rw [zz] at hi; exact hi)
theorem zcl {w : World} {b : Nat} (A : Array Value) : Kp [b] w (w.setRow b A) := ⟨rfl, rfl, rfl, by simp [World.setRow], fun k _ hn => zm (by simpa using hn) A⟩
theorem zcm {w : World} {b m y : Nat} {t t' : TypeId} {f : Nat -> Value} {cs : Array Value} {fr : Nat × Nat} (r : Rw w b t m f) (h : w.heap[y]? = some (.cells cs t' fr)) (ht : t' ≠ t) : b ≠ y := by
 intro e
 subst e
 obtain ⟨cs', fr', h'⟩ := zbd r
 rw [h] at h'
 simp only [Option.some.injEq, Obj.cells.injEq] at h'
 exact ht h'.2.1
theorem zf0 {nw : Nat} (h : 130 <= nw) (slots : Int) : (((((((((((zrW nw).set 1 1048596).set 3 2099174).set 4 2).set 5 (3 + slots)).set 6 3).set 10 2).set 11 0).set 12 2).set 13 0).set 14 5).set 15 1 = btW nw slots := by
 refine zf7 (by simp [zz]) (fun i hi => ?_)
 have l := zz nw
 rw [zr (by simp [l]; omega), zr (by simp [l]; omega), zr (by simp [l]; omega), zr (by simp [l]; omega), zr (by simp [l]; omega), zr (by simp [l]; omega), zr (by simp [l]; omega), zr (by simp [l]; omega), zr (by simp [l]; omega), zr (by simp [l]; omega), zr (by simp [l]; omega), zaw]
 unfold btF
 by_cases h15 : i = 15
 · subst h15; simp
 by_cases h14 : i = 14
 · subst h14; simp
 by_cases h13 : i = 13
 · subst h13; simp
 by_cases h12 : i = 12
 · subst h12; simp
 by_cases h11 : i = 11
 · subst h11; simp
 by_cases h10 : i = 10
 · subst h10; simp
 by_cases h6 : i = 6
 · subst h6; simp
 by_cases h5 : i = 5
 · subst h5; simp
 by_cases h4 : i = 4
 · subst h4; simp
 by_cases h3 : i = 3
 · subst h3; simp
 by_cases h1 : i = 1
 · subst h1; simp
 simp [h15, h14, h13, h12, h11, h10, h6, h5, h4, h3, h1]
def BtS (wc : World) (bm bw : Nat) (A : Array Value) (V : World) : Prop := za V bm 37 A /\ Kp [bm, bw] wc V
theorem BtS.drew {wc V : World} {bm bw : Nat} {A : Array Value} (h : BtS wc bm bw A V) : BtS wc bm bw A V.drew := ⟨h.1, h.2.drew⟩
theorem BtS.kp {wc V V' : World} {bm bw : Nat} {A : Array Value} (h : BtS wc bm bw A V) (k : Kp [bw] V V') (hb : bm ≠ bw) : BtS wc bm bw A V' := ⟨(k.block _ h.1.lt (by simpa using hb)).trans h.1, h.2.trans (k.mono (by simp))⟩
theorem BtS.below {wc V V' : World} {bm bw : Nat} {A : Array Value} (h : BtS wc bm bw A V) (k : Below V.heap.size V V') : BtS wc bm bw A V' := ⟨h.1.below k h.1.lt, h.2.next k⟩
theorem BtS.row {wc V : World} {bm bw : Nat} {A : Array Value} (h : BtS wc bm bw A V) : BtS wc bm bw A (V.setRow bm A) := ⟨h.1.row A, h.2.trans ((zcl A).mono (by simp))⟩
set_option maxHeartbeats 4000000 in
theorem zd0 (a1 : Option Addr) (L c1 : Nat) (a2 : Option Addr) (n c2 : Nat) (X : Nat -> PtD) (s : Nat -> ByteArray) (smz : Int) (w : World) (h1 : MdF w.heap.size w (.slice a1 L c1) (.slice a2 n c2) L X n s) (hL : L <= 1048576) (hn : n <= 1048576) (hX : ∀ j, j < L -> PLe (X j) 1048576) (hR : ∀ j, j < L -> PLr (X j)) (hsz : ∀ j, j < n -> (s j).size <= 9223372036854775807) (s0 : 256 <= smz) (s1 : smz <= 4000) (hm : MOk L X n s) :
 Calls Tryz.prog 5 #[.agg #[.slice a1 L c1, .slice a2 n c2], .int .i64 smz] w fun e w' => ∃ (v1 v2 : Value) (bw cw br cr : Nat), e = .returned (.tuple #[.agg #[v1, v2, .slice (some ⟨bw, 0, none⟩) (2 * smz).toNat cw, .int .i64 smz, .int .i64 0, .int .i64 130, .bool false, .int .i64 0, .int .i64 0, .int .i64 0, .int .i64 3, .slice (some ⟨br, 0, none⟩) 6 cr, .bool false, .bool false, .bool false, .int .i64 0, .int .i64 0, .int .i64 0, .int .i64 0, .slice none 0 0], .bool true]) /\ PtF w'.heap.size w' v1 L X /\ TxF w'.heap.size w' v2 n s /\ RwW w' bw (btW (2 * smz).toNat (X 0).sl) /\ RwR w' br 6 btR /\ Below w.heap.size w w' := by
 have HF : Hid (MdF w.heap.size w (.slice a1 L c1) (.slice a2 n c2) L X n s) := h1
 have HX : Hid (∀ j, j < L -> PLe (X j) 1048576) := hX
 have HS : Hid (∀ j, j < n -> (s j).size <= 9223372036854775807) := hsz
 have HM : Hid (MOk L X n s) := hm
 have HRR : Hid (∀ j, j < L -> PLr (X j)) := hR
 clear h1 hX hsz hm hR
 go_enter Tryz.func5, Tryz.ntmps5
 go_wp2_with fail
 obtain ⟨w0, hw0⟩ : ∃ V, V = (w.alloc (.cells #[.slice a1 L c1, .slice a2 n c2] 29)).alloc (.cells #[.slice none 0 0, .slice none 0 0, .slice none 0 0, .int .i64 0, .int .i64 0, .int .i64 0, .bool false, .int .i64 0, .int .i64 0, .int .i64 0, .int .i64 0, .slice none 0 0, .bool false, .bool false, .bool false, .int .i64 0, .int .i64 0, .int .i64 0, .int .i64 0, .slice none 0 0] 37) := ⟨_, rfl⟩
 have B0 : Below w.heap.size w w0 := by rw [hw0]; exact ((Below.refl _ _).alloc (Nat.le_refl _) _).alloc (by simp) _
 have X2 : za w0 w.heap.size 29 #[.slice a1 L c1, .slice a2 n c2] := by rw [hw0]; exact (za.new w _ _).alloc _
 have X4 : za w0 (w.heap.size + 1) 37 #[.slice none 0 0, .slice none 0 0, .slice none 0 0, .int .i64 0, .int .i64 0, .int .i64 0, .bool false, .int .i64 0, .int .i64 0, .int .i64 0, .int .i64 0, .slice none 0 0, .bool false, .bool false, .bool false, .int .i64 0, .int .i64 0, .int .i64 0, .int .i64 0, .slice none 0 0] := by rw [hw0]; have := za.new (w.alloc (.cells #[.slice a1 L c1, .slice a2 n c2] 29)) 37 #[.slice none 0 0, .slice none 0 0, .slice none 0 0, .int .i64 0, .int .i64 0, .int .i64 0, .bool false, .int .i64 0, .int .i64 0, .int .i64 0, .int .i64 0, .slice none 0 0, .bool false, .bool false, .bool false, .int .i64 0, .int .i64 0, .int .i64 0, .int .i64 0, .slice none 0 0]; simpa using this
 rw [<- hw0]
 clear hw0
 refine (zc0 smz w0 s0 s1).mono ?_
 rintro e w1 ⟨bw, cw, br, cr, rfl, hW1, hR1, l1, l2, nbr, b1⟩
 obtain ⟨w2, hw2⟩ : ∃ V, V = w1.alloc (.cells #[.slice (some ⟨bw, 0, none⟩) (2 * smz).toNat cw, .int .i64 smz, .int .i64 0, .int .i64 1, .bool false, .int .i64 0, .int .i64 0, .int .i64 0, .int .i64 1, .slice (some ⟨br, 0, none⟩) 6 cr] 33) := ⟨_, rfl⟩
 have b2 : Below w1.heap.size w1 w2 := by rw [hw2]; exact (Below.refl _ _).alloc (Nat.le_refl _) _
 have YA : za w2 w1.heap.size 33 #[.slice (some ⟨bw, 0, none⟩) (2 * smz).toNat cw, .int .i64 smz, .int .i64 0, .int .i64 1, .bool false, .int .i64 0, .int .i64 0, .int .i64 0, .int .i64 1, .slice (some ⟨br, 0, none⟩) 6 cr] := by rw [hw2]; exact za.new _ _ _
 have b02 := zb b1 b2
 have Y2 := X2.below b02 X2.lt
 have Y4 := X4.below b02 X4.lt
 have B2 := zb B0 b02
 have W2 : RwW w2 bw (zrW (2 * smz).toNat) := Rw.below hW1 b2
 have R2 : RwR w2 br 6 (fun _ => 0) := Rw.below hR1 b2
 have k0 := Y2.cell 0
 have k1 := Y2.cell 1
 simp at k0 k1
 have l1' : w.heap.size + 1 < bw := by have := X4.lt; omega
 have l2' : w.heap.size + 1 < br := by have := X4.lt; omega
 have e1 : bw < w1.heap.size := hW1.lt
 have e2 : br < w1.heap.size := hR1.lt
 clear X2 X4 b1 b02 hW1 hR1 l1 l2
 go_upto_region 2 with fail
 rw [<- hw2]
 clear hw2 b2
 go_wp2_with fail
 refine (za4 a1 L c1 a2 n c2 X s w.heap.size w2 (HF.out.below B2 (Nat.le_refl _)) B2.size hL hn HX.out HRR.out HS.out).mono ?_
 rintro e w3 ⟨q, rfl, hq, b3⟩
 obtain rfl : q = true := hq.2 HM.out
 have HZ2 : Hid (za w3 w.heap.size 29 #[.slice a1 L c1, .slice a2 n c2]) := Y2.below b3 Y2.lt
 have HZ4 : Hid (za w3 (w.heap.size + 1) 37 #[.slice none 0 0, .slice none 0 0, .slice none 0 0, .int .i64 0, .int .i64 0, .int .i64 0, .bool false, .int .i64 0, .int .i64 0, .int .i64 0, .int .i64 0, .slice none 0 0, .bool false, .bool false, .bool false, .int .i64 0, .int .i64 0, .int .i64 0, .int .i64 0, .slice none 0 0]) := Y4.below b3 Y4.lt
 have ZA := YA.below b3 YA.lt
 have HZA : Hid (za w3 w1.heap.size 33 #[.slice (some ⟨bw, 0, none⟩) (2 * smz).toNat cw, .int .i64 smz, .int .i64 0, .int .i64 1, .bool false, .int .i64 0, .int .i64 0, .int .i64 0, .int .i64 1, .slice (some ⟨br, 0, none⟩) 6 cr]) := ZA
 have HW3 : Hid (RwW w3 bw (zrW (2 * smz).toNat)) := Rw.below W2 b3
 have HR3 : Hid (RwR w3 br 6 (fun _ => 0)) := Rw.below R2 b3
 have HB3 : Hid (Below w.heap.size w w3) := zb B2 b3
 clear hq b3 Y2 Y4 YA W2 R2 k0 k1 B2 B0
 go_upto_region 4 with fail
 have a0 := ZA.cell 0
 have a1' := ZA.cell 1
 have a2' := ZA.cell 2
 have a3 := ZA.cell 3
 have a4 := ZA.cell 4
 have a5 := ZA.cell 5
 have a6 := ZA.cell 6
 have a7 := ZA.cell 7
 have a8 := ZA.cell 8
 have a9 := ZA.cell 9
 simp at a0 a1' a2' a3 a4 a5 a6 a7 a8 a9
 clear ZA
 go_wp2_with fail
 refine (zhj bw (2 * smz).toNat cw br cr smz 1 1 (zrW (2 * smz).toNat) w3 HW3.out (zz _) (by omega) s0 s1 (by omega) (by omega) (by omega) (by decide) (by omega) (by omega) (fun i _ _ => zaw _ _)).mono ?_
 rintro e w4 ⟨rfl, W4, K4⟩
 have ZA4 : za w4 w1.heap.size 33 #[.slice (some ⟨bw, 0, none⟩) (2 * smz).toNat cw, .int .i64 smz, .int .i64 0, .int .i64 1, .bool false, .int .i64 0, .int .i64 0, .int .i64 0, .int .i64 1, .slice (some ⟨br, 0, none⟩) 6 cr] := (K4.block _ HZA.out.lt (by simp; omega)).trans HZA.out
 have f4 := ZA4.frozen
 clear a0 a1' a2' a3 a4 a5 a6 a7 a8 a9
 have a0 := ZA4.cell 0
 have a1' := ZA4.cell 1
 have a2' := ZA4.cell 2
 have a3 := ZA4.cell 3
 have a4 := ZA4.cell 4
 have a5 := ZA4.cell 5
 have a6 := ZA4.cell 6
 have a7 := ZA4.cell 7
 have a8 := ZA4.cell 8
 have a9 := ZA4.cell 9
 simp at a0 a1' a2' a3 a4 a5 a6 a7 a8 a9
 have HZA4 : Hid _ := ZA4
 have HW4 : Hid _ := W4
 have HK4 : Hid _ := K4
 clear ZA4 W4 K4
 go_upto_region 5 with fail
 clear a0 a1' a2' a3 a4 a5 a6 a7 a8 a9 f4
 obtain ⟨w5, hw5⟩ : ∃ V, V = ((((((((((w4.setCell ⟨w1.heap.size, 0, none⟩ (.slice (some ⟨bw, 0, none⟩) (2 * smz).toNat cw)).setCell ⟨w1.heap.size, 1, none⟩ (.int .i64 smz)).setCell ⟨w1.heap.size, 2, none⟩ (.int .i64 0)).setCell ⟨w1.heap.size, 3, none⟩ (.int .i64 3)).setCell ⟨w1.heap.size, 4, none⟩ (.bool false)).setCell ⟨w1.heap.size, 5, none⟩ (.int .i64 0)).setCell ⟨w1.heap.size, 6, none⟩ (.int .i64 0)).setCell ⟨w1.heap.size, 7, none⟩ (.int .i64 0)).setCell ⟨w1.heap.size, 8, none⟩ (.int .i64 2)).setCell ⟨w1.heap.size, 9, none⟩ (.slice (some ⟨br, 0, none⟩) 6 cr)) := ⟨_, rfl⟩
 rw [<- hw5]
 have HA5 : Hid (za w5 w1.heap.size 33 #[.slice (some ⟨bw, 0, none⟩) (2 * smz).toNat cw, .int .i64 smz, .int .i64 0, .int .i64 3, .bool false, .int .i64 0, .int .i64 0, .int .i64 0, .int .i64 2, .slice (some ⟨br, 0, none⟩) 6 cr]) := by rw [hw5]; have := (za.set (za.set (za.set (za.set (za.set (za.set (za.set (za.set (za.set (za.set HZA4.out 0 (.slice (some ⟨bw, 0, none⟩) (2 * smz).toNat cw)) 1 (.int .i64 smz)) 2 (.int .i64 0)) 3 (.int .i64 3)) 4 (.bool false)) 5 (.int .i64 0)) 6 (.int .i64 0)) 7 (.int .i64 0)) 8 (.int .i64 2)) 9 (.slice (some ⟨br, 0, none⟩) 6 cr)); simp only [List.setIfInBounds_toArray, List.set_cons_zero, List.set_cons_succ] at this; exact this
 have K45 : Kp [w1.heap.size] w4 w5 := by rw [hw5]; exact (Kp.setCell (Kp.setCell (Kp.setCell (Kp.setCell (Kp.setCell (Kp.setCell (Kp.setCell (Kp.setCell (Kp.setCell (Kp.setCell (Kp.refl _ _) (p := ⟨w1.heap.size, 0, none⟩) (.inl (by simp)) _) (p := ⟨w1.heap.size, 1, none⟩) (.inl (by simp)) _) (p := ⟨w1.heap.size, 2, none⟩) (.inl (by simp)) _) (p := ⟨w1.heap.size, 3, none⟩) (.inl (by simp)) _) (p := ⟨w1.heap.size, 4, none⟩) (.inl (by simp)) _) (p := ⟨w1.heap.size, 5, none⟩) (.inl (by simp)) _) (p := ⟨w1.heap.size, 6, none⟩) (.inl (by simp)) _) (p := ⟨w1.heap.size, 7, none⟩) (.inl (by simp)) _) (p := ⟨w1.heap.size, 8, none⟩) (.inl (by simp)) _) (p := ⟨w1.heap.size, 9, none⟩) (.inl (by simp)) _)
 clear hw5
 have HW5 : Hid (RwW w5 bw ((zrW (2 * smz).toNat).set 1 1048596)) := Rw.kp HW4.out K45 (by simp; omega)
 have HR5 : Hid (RwR w5 br 6 (fun _ => 0)) := Rw.kp (Rw.kp HR3.out HK4.out (by simp; omega)) K45 (by simp; omega)
 have HK5 : Hid (Kp [bw, br, w1.heap.size] w3 w5) := (HK4.out.mono (by simp)).trans (K45.mono (by simp))
 clear K45 HZA4 HW4 HK4 HZA HW3 HR3
 have a9 : w5.cell? ⟨w1.heap.size, 9, none⟩ = some (.slice (some ⟨br, 0, none⟩) 6 cr) := HA5.out.cell 9
 have r2 : w5.cell? ⟨br, 2, none⟩ = some (.int .i64 0) := HR5.out.cell (i := 2) (by omega)
 have r3 : w5.cell? ⟨br, 3, none⟩ = some (.int .i64 0) := HR5.out.cell (i := 3) (by omega)
 have fr := fun i => HR5.out.frozen i
 go_upto_region 6 with fail
 clear a9 r2 r3 fr
 obtain ⟨w6, hw6⟩ : ∃ V, V = (w5.setCell ⟨br, 2, none⟩ (.int .i64 5)).setCell ⟨br, 3, none⟩ (.int .i64 1) := ⟨_, rfl⟩
 rw [<- hw6]
 have K56 : Kp [br] w5 w6 := by rw [hw6]; exact Kp.setCell (Kp.setCell (Kp.refl _ _) (p := ⟨br, 2, none⟩) (.inl (by simp)) _) (p := ⟨br, 3, none⟩) (.inl (by simp)) _
 have HA6 : Hid (za w6 w1.heap.size 33 #[.slice (some ⟨bw, 0, none⟩) (2 * smz).toNat cw, .int .i64 smz, .int .i64 0, .int .i64 3, .bool false, .int .i64 0, .int .i64 0, .int .i64 0, .int .i64 2, .slice (some ⟨br, 0, none⟩) 6 cr]) := (K56.block _ HA5.out.lt (by simp; omega)).trans HA5.out
 have HW6 : Hid (RwW w6 bw ((zrW (2 * smz).toNat).set 1 1048596)) := Rw.kp HW5.out K56 (by simp; omega)
 have HR6 : Hid (RwR w6 br 6 (fun i => if i = 2 then 5 else if i = 3 then 1 else 0)) := by rw [hw6]; exact ((HR5.out.set 2 _).set 3 _).congr (fun i hi => by by_cases h2 : i = 2 <;> by_cases h3 : i = 3 <;> simp [h2, h3] <;> omega)
 have HK6 : Hid (Kp [bw, br, w1.heap.size] w3 w6) := HK5.out.trans (K56.mono (by simp))
 clear hw6 K56 HA5 HW5 HR5 HK5
 have a0' := HA6.out.cell 0
 have a1' := HA6.out.cell 1
 have a2' := HA6.out.cell 2
 have a3' := HA6.out.cell 3
 have a4' := HA6.out.cell 4
 have a5' := HA6.out.cell 5
 have a6' := HA6.out.cell 6
 have a7' := HA6.out.cell 7
 have a8' := HA6.out.cell 8
 have a9' := HA6.out.cell 9
 simp at a0' a1' a2' a3' a4' a5' a6' a7' a8' a9'
 go_wp2_with fail
 refine (zhk bw (2 * smz).toNat cw br cr smz 3 2 ((zrW (2 * smz).toNat).set 1 1048596) w6 HW6.out (by rw [List.length_set]; exact zz _) (by omega) s0 s1 (by omega) (by omega) (by omega) (by decide) (by omega) (by omega) (fun i h3 _ => by rw [zr (by rw [zz]; omega), if_neg (by omega)]; exact zaw _ _)).mono ?_
 rintro e w7 ⟨rfl, W7, K7⟩
 have ZA7 : za w7 w1.heap.size 33 #[.slice (some ⟨bw, 0, none⟩) (2 * smz).toNat cw, .int .i64 smz, .int .i64 0, .int .i64 3, .bool false, .int .i64 0, .int .i64 0, .int .i64 0, .int .i64 2, .slice (some ⟨br, 0, none⟩) 6 cr] := (K7.block _ HA6.out.lt (by simp; omega)).trans HA6.out
 have f7 := ZA7.frozen
 clear a0' a1' a2' a3' a4' a5' a6' a7' a8' a9'
 have a0' := ZA7.cell 0
 have a1' := ZA7.cell 1
 have a2' := ZA7.cell 2
 have a3' := ZA7.cell 3
 have a4' := ZA7.cell 4
 have a5' := ZA7.cell 5
 have a6' := ZA7.cell 6
 have a7' := ZA7.cell 7
 have a8' := ZA7.cell 8
 have a9' := ZA7.cell 9
 simp at a0' a1' a2' a3' a4' a5' a6' a7' a8' a9'
 have HZA7 : Hid _ := ZA7
 have HW7 : Hid _ := W7
 have HK7 : Hid _ := K7
 clear ZA7 W7 K7
 go_upto_region 7 with fail
 clear f7
 clear a0' a1' a2' a3' a4' a5' a6' a7' a8' a9'
 obtain ⟨w8, hw8⟩ : ∃ V, V = ((((((((((w7.setCell ⟨w1.heap.size, 0, none⟩ (.slice (some ⟨bw, 0, none⟩) (2 * smz).toNat cw)).setCell ⟨w1.heap.size, 1, none⟩ (.int .i64 smz)).setCell ⟨w1.heap.size, 2, none⟩ (.int .i64 0)).setCell ⟨w1.heap.size, 3, none⟩ (.int .i64 130)).setCell ⟨w1.heap.size, 4, none⟩ (.bool false)).setCell ⟨w1.heap.size, 5, none⟩ (.int .i64 0)).setCell ⟨w1.heap.size, 6, none⟩ (.int .i64 0)).setCell ⟨w1.heap.size, 7, none⟩ (.int .i64 0)).setCell ⟨w1.heap.size, 8, none⟩ (.int .i64 3)).setCell ⟨w1.heap.size, 9, none⟩ (.slice (some ⟨br, 0, none⟩) 6 cr)) := ⟨_, rfl⟩
 rw [<- hw8]
 have HA8 : Hid (za w8 w1.heap.size 33 #[.slice (some ⟨bw, 0, none⟩) (2 * smz).toNat cw, .int .i64 smz, .int .i64 0, .int .i64 130, .bool false, .int .i64 0, .int .i64 0, .int .i64 0, .int .i64 3, .slice (some ⟨br, 0, none⟩) 6 cr]) := by rw [hw8]; have := (za.set (za.set (za.set (za.set (za.set (za.set (za.set (za.set (za.set (za.set HZA7.out 0 (.slice (some ⟨bw, 0, none⟩) (2 * smz).toNat cw)) 1 (.int .i64 smz)) 2 (.int .i64 0)) 3 (.int .i64 130)) 4 (.bool false)) 5 (.int .i64 0)) 6 (.int .i64 0)) 7 (.int .i64 0)) 8 (.int .i64 3)) 9 (.slice (some ⟨br, 0, none⟩) 6 cr)); simp only [List.setIfInBounds_toArray, List.set_cons_zero, List.set_cons_succ] at this; exact this
 have K78 : Kp [w1.heap.size] w7 w8 := by rw [hw8]; exact (Kp.setCell (Kp.setCell (Kp.setCell (Kp.setCell (Kp.setCell (Kp.setCell (Kp.setCell (Kp.setCell (Kp.setCell (Kp.setCell (Kp.refl _ _) (p := ⟨w1.heap.size, 0, none⟩) (.inl (by simp)) _) (p := ⟨w1.heap.size, 1, none⟩) (.inl (by simp)) _) (p := ⟨w1.heap.size, 2, none⟩) (.inl (by simp)) _) (p := ⟨w1.heap.size, 3, none⟩) (.inl (by simp)) _) (p := ⟨w1.heap.size, 4, none⟩) (.inl (by simp)) _) (p := ⟨w1.heap.size, 5, none⟩) (.inl (by simp)) _) (p := ⟨w1.heap.size, 6, none⟩) (.inl (by simp)) _) (p := ⟨w1.heap.size, 7, none⟩) (.inl (by simp)) _) (p := ⟨w1.heap.size, 8, none⟩) (.inl (by simp)) _) (p := ⟨w1.heap.size, 9, none⟩) (.inl (by simp)) _)
 clear hw8
 have HW8 : Hid (RwW w8 bw (((zrW (2 * smz).toNat).set 1 1048596).set 3 2099174)) := Rw.kp HW7.out K78 (by simp; omega)
 have HR8 : Hid (RwR w8 br 6 (fun i => if i = 2 then 5 else if i = 3 then 1 else 0)) := Rw.kp (Rw.kp HR6.out HK7.out (by simp; omega)) K78 (by simp; omega)
 have HK8 : Hid (Kp [bw, br, w1.heap.size] w3 w8) := HK6.out.trans ((HK7.out.mono (by simp)).trans (K78.mono (by simp)))
 clear K78 HZA7 HW7 HK7 HA6 HW6 HR6 HK6
 have a9 : w8.cell? ⟨w1.heap.size, 9, none⟩ = some (.slice (some ⟨br, 0, none⟩) 6 cr) := HA8.out.cell 9
 have r2 : w8.cell? ⟨br, 0, none⟩ = some (.int .i64 0) := HR8.out.cell (i := 0) (by omega)
 have r3 : w8.cell? ⟨br, 1, none⟩ = some (.int .i64 0) := HR8.out.cell (i := 1) (by omega)
 have fr := fun i => HR8.out.frozen i
 go_upto_region 8 with fail
 clear a9 r2 r3 fr
 obtain ⟨w9, hw9⟩ : ∃ V, V = (w8.setCell ⟨br, 0, none⟩ (.int .i64 6)).setCell ⟨br, 1, none⟩ (.int .i64 3) := ⟨_, rfl⟩
 rw [<- hw9]
 have K89 : Kp [br] w8 w9 := by rw [hw9]; exact Kp.setCell (Kp.setCell (Kp.refl _ _) (p := ⟨br, 0, none⟩) (.inl (by simp)) _) (p := ⟨br, 1, none⟩) (.inl (by simp)) _
 have HA9 : Hid (za w9 w1.heap.size 33 #[.slice (some ⟨bw, 0, none⟩) (2 * smz).toNat cw, .int .i64 smz, .int .i64 0, .int .i64 130, .bool false, .int .i64 0, .int .i64 0, .int .i64 0, .int .i64 3, .slice (some ⟨br, 0, none⟩) 6 cr]) := (K89.block _ HA8.out.lt (by simp; omega)).trans HA8.out
 have HW9 : Hid (RwW w9 bw (((zrW (2 * smz).toNat).set 1 1048596).set 3 2099174)) := Rw.kp HW8.out K89 (by simp; omega)
 have HR9 : Hid (RwR w9 br 6 (fun i => if i = 0 then 6 else if i = 1 then 3 else if i = 2 then 5 else if i = 3 then 1 else 0)) := by rw [hw9]; exact ((HR8.out.set 0 _).set 1 _).congr (fun i hi => by by_cases h2 : i = 0 <;> by_cases h3 : i = 1 <;> simp [h2, h3] <;> omega)
 have HK9 : Hid (Kp [bw, br, w1.heap.size] w3 w9) := HK8.out.trans (K89.mono (by simp))
 clear hw9 K89 HA8 HW8 HR8 HK8
 have HB9 : Hid (Below w.heap.size w w9) := HB3.out.trans (HK9.out.below (fun x hx => by simp at hx; rcases hx with rfl | rfl | rfl <;> omega) HB3.out.size)
 have Z2 : za w9 w.heap.size 29 #[.slice a1 L c1, .slice a2 n c2] := (HK9.out.block _ HZ2.out.lt (by simp; omega)).trans HZ2.out
 have ZA := HA9.out
 go_cut [12] from 48 to 51 (fun s12 wc => ∃ (p1 : Option Addr) (d1 b2 d2 bm Bc : Nat) (bu cu bc cc : Nat -> Nat), s12 = .pointer (some ⟨bm, 0, none⟩) /\ za wc bm 37 #[.slice p1 L d1, .slice (some ⟨b2, 0, none⟩) n d2, .slice (some ⟨bw, 0, none⟩) (2 * smz).toNat cw, .int .i64 smz, .int .i64 0, .int .i64 130, .bool false, .int .i64 0, .int .i64 0, .int .i64 0, .int .i64 3, .slice (some ⟨br, 0, none⟩) 6 cr, .bool false, .bool false, .bool false, .int .i64 0, .int .i64 0, .int .i64 0, .int .i64 0, .slice none 0 0] /\ PcM Bc wc (.slice p1 L d1) L X bu cu bc cc /\ Rw wc b2 9 n (fun i => .string (s i)) /\ w9.heap.size <= bm /\ Below w9.heap.size w9 wc)
 case first =>
  have HCL : Hid (∀ W, Below w9.heap.size w9 W -> Calls _ _ _ W _) := fun W hW => zcf a1 L c1 a2 n c2 X s W (((HF.out.below HB9.out (Nat.le_refl _)).below hW HB9.out.size).1.mono (Nat.le_trans HB9.out.size hW.size)) (((HF.out.below HB9.out (Nat.le_refl _)).below hW HB9.out.size).2.mono (Nat.le_trans HB9.out.size hW.size)) hL hn HX.out
  have KP : ∀ V, Below w9.heap.size w9 V -> (Below w9.heap.size w9 V /\ za V w.heap.size 29 #[.slice a1 L c1, .slice a2 n c2] /\ za V w1.heap.size 33 #[.slice (some ⟨bw, 0, none⟩) (2 * smz).toNat cw, .int .i64 smz, .int .i64 0, .int .i64 130, .bool false, .int .i64 0, .int .i64 0, .int .i64 0, .int .i64 3, .slice (some ⟨br, 0, none⟩) 6 cr]) := fun V hV => ⟨hV, Z2.below hV Z2.lt, ZA.below hV ZA.lt⟩
  refine wp_region_held_drew (S := fun V => Below w9.heap.size w9 V /\ za V w.heap.size 29 #[.slice a1 L c1, .slice a2 n c2] /\ za V w1.heap.size 33 #[.slice (some ⟨bw, 0, none⟩) (2 * smz).toNat cw, .int .i64 smz, .int .i64 0, .int .i64 130, .bool false, .int .i64 0, .int .i64 0, .int .i64 0, .int .i64 3, .slice (some ⟨br, 0, none⟩) 6 cr]) (by kernel_rfl) (KP _ (Below.refl _ _).drew) (fun hHeld => ?_)
  obtain ⟨wd, hwd⟩ : ∃ V, V = w9.drew := ⟨_, rfl⟩
  rw [<- hwd] at hHeld ⊢
  clear hwd
  refine tk 0 48 (.agg #[.slice a1 L c1, .slice a2 n c2]) hHeld rfl (by intro V hS; have q0 := hS.2.1.cell 0; have q1 := hS.2.1.cell 1; simp at q0 q1; go_simp) ?_
  try simp only [Act.put, zig, zih, zii]
  refine tk 2 50 (.agg #[.slice (some ⟨bw, 0, none⟩) (2 * smz).toNat cw, .int .i64 smz, .int .i64 0, .int .i64 130, .bool false, .int .i64 0, .int .i64 0, .int .i64 0, .int .i64 3, .slice (some ⟨br, 0, none⟩) 6 cr]) hHeld rfl (by intro V hS; have q0 := hS.2.2.cell 0; have q1 := hS.2.2.cell 1; have q2 := hS.2.2.cell 2; have q3 := hS.2.2.cell 3; have q4 := hS.2.2.cell 4; have q5 := hS.2.2.cell 5; have q6 := hS.2.2.cell 6; have q7 := hS.2.2.cell 7; have q8 := hS.2.2.cell 8; have q9 := hS.2.2.cell 9; simp at q0 q1 q2 q3 q4 q5 q6 q7 q8 q9; go_simp) ?_
  try simp only [Act.put, zig, zih, zii]
  refine wpAnyH_ready (rs := [1, 4]) (by kernel_rfl) (by simp) ?_
  refine AllReadyH.cons (o := { dst := some 49, op := _, type := _, pos := _, after := _, guard := _ }) rfl (fun K hK => ?_) (AllReadyH.cons (o := { dst := some 12, op := _, type := _, pos := _, after := _, guard := _ }) rfl (fun K hK => ?_) AllReadyH.nil)
  · go_simp
    go_at_call 18
    refine (HCL.out _ hHeld.1).mono ?_
    rintro e wa ⟨p1, d1, b2, d2, Bc, bu, cu, bc, cc, rfl, PC0, RT0, bC⟩
    have hN := zb (w := w9) hHeld.1 bC
    clear hHeld
    refine hK.out _ _ (KP _ hN) (fun hHeld => ?_)
    clear hK K hN
    try simp only [Act.put, zig, zih, zii]
    refine tk 3 51 (.agg #[.slice p1 L d1, .slice (some ⟨b2, 0, none⟩) n d2, .slice (some ⟨bw, 0, none⟩) (2 * smz).toNat cw, .int .i64 smz, .int .i64 0, .int .i64 130, .bool false, .int .i64 0, .int .i64 0, .int .i64 0, .int .i64 3, .slice (some ⟨br, 0, none⟩) 6 cr, .bool false, .bool false, .bool false, .int .i64 0, .int .i64 0, .int .i64 0, .int .i64 0, .slice none 0 0]) hHeld rfl (by intro V hS; go_simp) ?_
    try simp only [Act.put, zig, zih, zii]
    refine wpAnyH_ready (rs := [4]) (by kernel_rfl) (by simp) ?_
    refine AllReadyH.cons (o := { dst := some 12, op := _, type := _, pos := _, after := _, guard := _ }) rfl (fun K hK => ?_) AllReadyH.nil
    go_simp
    obtain ⟨wb, hwb⟩ : ∃ V, V = wa.alloc (.cells #[.slice none 0 0, .slice none 0 0, .slice none 0 0, .int .i64 0, .int .i64 0, .int .i64 0, .bool false, .int .i64 0, .int .i64 0, .int .i64 0, .int .i64 0, .slice none 0 0, .bool false, .bool false, .bool false, .int .i64 0, .int .i64 0, .int .i64 0, .int .i64 0, .slice none 0 0] 37) := ⟨_, rfl⟩
    have bA : Below wa.heap.size wa wb := by rw [hwb]; exact (Below.refl _ _).alloc (Nat.le_refl _) _
    have XB : za wb wa.heap.size 37 #[.slice none 0 0, .slice none 0 0, .slice none 0 0, .int .i64 0, .int .i64 0, .int .i64 0, .bool false, .int .i64 0, .int .i64 0, .int .i64 0, .int .i64 0, .slice none 0 0, .bool false, .bool false, .bool false, .int .i64 0, .int .i64 0, .int .i64 0, .int .i64 0, .slice none 0 0] := by rw [hwb]; exact za.new _ _ _
    rw [<- hwb]
    clear hwb
    have hN := zb (w := w9) hHeld.1 bA
    have gB : w9.heap.size <= wa.heap.size := hHeld.1.size
    have PC := ((PC0.below bA).kp (zcl #[.slice p1 L d1, .slice (some ⟨b2, 0, none⟩) n d2, .slice (some ⟨bw, 0, none⟩) (2 * smz).toNat cw, .int .i64 smz, .int .i64 0, .int .i64 130, .bool false, .int .i64 0, .int .i64 0, .int .i64 0, .int .i64 3, .slice (some ⟨br, 0, none⟩) 6 cr, .bool false, .bool false, .bool false, .int .i64 0, .int .i64 0, .int .i64 0, .int .i64 0, .slice none 0 0]) (fun y hy => by simp at hy; subst hy; exact ⟨_, _, _, XB, by decide, by decide, by decide⟩))
    have RT := Rw.of_block (Rw.below RT0 bA) (zm (zcw XB (Rw.below RT0 bA) (by decide)) #[.slice p1 L d1, .slice (some ⟨b2, 0, none⟩) n d2, .slice (some ⟨bw, 0, none⟩) (2 * smz).toNat cw, .int .i64 smz, .int .i64 0, .int .i64 130, .bool false, .int .i64 0, .int .i64 0, .int .i64 0, .int .i64 3, .slice (some ⟨br, 0, none⟩) 6 cr, .bool false, .bool false, .bool false, .int .i64 0, .int .i64 0, .int .i64 0, .int .i64 0, .slice none 0 0])
    clear hHeld bA PC0 RT0
    refine hK.out _ _ (KP _ hN) (fun hHeld => ?_)
    clear hK K hN
    try simp only [Act.put, zig, zih, zii]
    have HST := zt (A := #[.slice p1 L d1, .slice (some ⟨b2, 0, none⟩) n d2, .slice (some ⟨bw, 0, none⟩) (2 * smz).toNat cw, .int .i64 smz, .int .i64 0, .int .i64 130, .bool false, .int .i64 0, .int .i64 0, .int .i64 0, .int .i64 3, .slice (some ⟨br, 0, none⟩) 6 cr, .bool false, .bool false, .bool false, .int .i64 0, .int .i64 0, .int .i64 0, .int .i64 0, .slice none 0 0]) rfl rfl (by simp [Value.oneCell']) XB
    refine wpAnyH_ready (rs := [5]) (by kernel_rfl) (by simp) ?_
    refine AllReadyH.cons (o := { dst := none, op := _, type := _, pos := _, after := _, guard := _ }) rfl (fun K hK => ?_) AllReadyH.nil
    rw [if_pos (by kernel_rfl)]
    refine z8 _ _ _ rfl HST ?_
    have hN := zx #[.slice p1 L d1, .slice (some ⟨b2, 0, none⟩) n d2, .slice (some ⟨bw, 0, none⟩) (2 * smz).toNat cw, .int .i64 smz, .int .i64 0, .int .i64 130, .bool false, .int .i64 0, .int .i64 0, .int .i64 0, .int .i64 3, .slice (some ⟨br, 0, none⟩) 6 cr, .bool false, .bool false, .bool false, .int .i64 0, .int .i64 0, .int .i64 0, .int .i64 0, .slice none 0 0] hHeld.1 gB
    clear hHeld
    refine hK.out _ _ (KP _ hN) (fun hHeld => ?_)
    clear hK K
    try simp only [Act.put, zig, zih, zii]
    refine wpAnyH_done (by kernel_rfl) ?_ _
    go_wp2_with fail
    go_meet
    exact ⟨p1, d1, b2, d2, _, Bc, bu, cu, bc, cc, rfl, XB.row #[.slice p1 L d1, .slice (some ⟨b2, 0, none⟩) n d2, .slice (some ⟨bw, 0, none⟩) (2 * smz).toNat cw, .int .i64 smz, .int .i64 0, .int .i64 130, .bool false, .int .i64 0, .int .i64 0, .int .i64 0, .int .i64 3, .slice (some ⟨br, 0, none⟩) 6 cr, .bool false, .bool false, .bool false, .int .i64 0, .int .i64 0, .int .i64 0, .int .i64 0, .slice none 0 0], PC, RT, gB, hN⟩
  · go_simp
    obtain ⟨wb, hwb⟩ : ∃ V, V = wd.alloc (.cells #[.slice none 0 0, .slice none 0 0, .slice none 0 0, .int .i64 0, .int .i64 0, .int .i64 0, .bool false, .int .i64 0, .int .i64 0, .int .i64 0, .int .i64 0, .slice none 0 0, .bool false, .bool false, .bool false, .int .i64 0, .int .i64 0, .int .i64 0, .int .i64 0, .slice none 0 0] 37) := ⟨_, rfl⟩
    have bA : Below wd.heap.size wd wb := by rw [hwb]; exact (Below.refl _ _).alloc (Nat.le_refl _) _
    have XB0 : za wb wd.heap.size 37 #[.slice none 0 0, .slice none 0 0, .slice none 0 0, .int .i64 0, .int .i64 0, .int .i64 0, .bool false, .int .i64 0, .int .i64 0, .int .i64 0, .int .i64 0, .slice none 0 0, .bool false, .bool false, .bool false, .int .i64 0, .int .i64 0, .int .i64 0, .int .i64 0, .slice none 0 0] := by rw [hwb]; exact za.new _ _ _
    rw [<- hwb]
    clear hwb
    have hN := zb (w := w9) hHeld.1 bA
    have gB : w9.heap.size <= wd.heap.size := hHeld.1.size
    clear hHeld bA
    refine hK.out _ _ (KP _ hN) (fun hHeld => ?_)
    clear hK K hN
    try simp only [Act.put, zig, zih, zii]
    refine wpAnyH_ready (rs := [1]) (by kernel_rfl) (by simp) ?_
    refine AllReadyH.cons (o := { dst := some 49, op := _, type := _, pos := _, after := _, guard := _ }) rfl (fun K hK => ?_) AllReadyH.nil
    go_simp
    go_at_call 18
    refine (HCL.out _ hHeld.1).mono ?_
    rintro e wa ⟨p1, d1, b2, d2, Bc, bu, cu, bc, cc, rfl, PC0, RT0, bC⟩
    have XB := XB0.below bC XB0.lt
    have hN := zb (w := w9) hHeld.1 bC
    have PC := (PC0.kp (zcl #[.slice p1 L d1, .slice (some ⟨b2, 0, none⟩) n d2, .slice (some ⟨bw, 0, none⟩) (2 * smz).toNat cw, .int .i64 smz, .int .i64 0, .int .i64 130, .bool false, .int .i64 0, .int .i64 0, .int .i64 0, .int .i64 3, .slice (some ⟨br, 0, none⟩) 6 cr, .bool false, .bool false, .bool false, .int .i64 0, .int .i64 0, .int .i64 0, .int .i64 0, .slice none 0 0]) (fun y hy => by simp at hy; subst hy; exact ⟨_, _, _, XB, by decide, by decide, by decide⟩))
    have RT := Rw.of_block RT0 (zm (zcw XB RT0 (by decide)) #[.slice p1 L d1, .slice (some ⟨b2, 0, none⟩) n d2, .slice (some ⟨bw, 0, none⟩) (2 * smz).toNat cw, .int .i64 smz, .int .i64 0, .int .i64 130, .bool false, .int .i64 0, .int .i64 0, .int .i64 0, .int .i64 3, .slice (some ⟨br, 0, none⟩) 6 cr, .bool false, .bool false, .bool false, .int .i64 0, .int .i64 0, .int .i64 0, .int .i64 0, .slice none 0 0])
    clear hHeld bC XB0 PC0 RT0
    refine hK.out _ _ (KP _ hN) (fun hHeld => ?_)
    clear hK K hN
    try simp only [Act.put, zig, zih, zii]
    refine tk 3 51 (.agg #[.slice p1 L d1, .slice (some ⟨b2, 0, none⟩) n d2, .slice (some ⟨bw, 0, none⟩) (2 * smz).toNat cw, .int .i64 smz, .int .i64 0, .int .i64 130, .bool false, .int .i64 0, .int .i64 0, .int .i64 0, .int .i64 3, .slice (some ⟨br, 0, none⟩) 6 cr, .bool false, .bool false, .bool false, .int .i64 0, .int .i64 0, .int .i64 0, .int .i64 0, .slice none 0 0]) hHeld rfl (by intro V hS; go_simp) ?_
    try simp only [Act.put, zig, zih, zii]
    have HST := zt (A := #[.slice p1 L d1, .slice (some ⟨b2, 0, none⟩) n d2, .slice (some ⟨bw, 0, none⟩) (2 * smz).toNat cw, .int .i64 smz, .int .i64 0, .int .i64 130, .bool false, .int .i64 0, .int .i64 0, .int .i64 0, .int .i64 3, .slice (some ⟨br, 0, none⟩) 6 cr, .bool false, .bool false, .bool false, .int .i64 0, .int .i64 0, .int .i64 0, .int .i64 0, .slice none 0 0]) rfl rfl (by simp [Value.oneCell']) XB
    refine wpAnyH_ready (rs := [5]) (by kernel_rfl) (by simp) ?_
    refine AllReadyH.cons (o := { dst := none, op := _, type := _, pos := _, after := _, guard := _ }) rfl (fun K hK => ?_) AllReadyH.nil
    rw [if_pos (by kernel_rfl)]
    refine z8 _ _ _ rfl HST ?_
    have hN := zx #[.slice p1 L d1, .slice (some ⟨b2, 0, none⟩) n d2, .slice (some ⟨bw, 0, none⟩) (2 * smz).toNat cw, .int .i64 smz, .int .i64 0, .int .i64 130, .bool false, .int .i64 0, .int .i64 0, .int .i64 0, .int .i64 3, .slice (some ⟨br, 0, none⟩) 6 cr, .bool false, .bool false, .bool false, .int .i64 0, .int .i64 0, .int .i64 0, .int .i64 0, .slice none 0 0] hHeld.1 gB
    clear hHeld
    refine hK.out _ _ (KP _ hN) (fun hHeld => ?_)
    clear hK K
    try simp only [Act.put, zig, zih, zii]
    refine wpAnyH_done (by kernel_rfl) ?_ _
    go_wp2_with fail
    go_meet
    exact ⟨p1, d1, b2, d2, _, Bc, bu, cu, bc, cc, rfl, XB.row #[.slice p1 L d1, .slice (some ⟨b2, 0, none⟩) n d2, .slice (some ⟨bw, 0, none⟩) (2 * smz).toNat cw, .int .i64 smz, .int .i64 0, .int .i64 130, .bool false, .int .i64 0, .int .i64 0, .int .i64 0, .int .i64 3, .slice (some ⟨br, 0, none⟩) 6 cr, .bool false, .bool false, .bool false, .int .i64 0, .int .i64 0, .int .i64 0, .int .i64 0, .slice none 0 0], PC, RT, gB, hN⟩
 case rest =>
  obtain ⟨p1, d1, b2, d2, bm, Bc, bu, cu, bc, cc, rfl, XB, PC, RT, gB, hBc⟩ := hcut
  rename World => wc
  have HWc : Hid (RwW wc bw (((zrW (2 * smz).toNat).set 1 1048596).set 3 2099174)) := Rw.below HW9.out hBc
  have HRc : Hid (RwR wc br 6 (fun i => if i = 0 then 6 else if i = 1 then 3 else if i = 2 then 5 else if i = 3 then 1 else 0)) := Rw.below HR9.out hBc
  have HPC : Hid (PcM Bc wc (.slice p1 L d1) L X bu cu bc cc) := PC
  have HRT : Hid (Rw wc b2 9 n (fun i => .string (s i))) := RT
  have HXB : Hid (za wc bm 37 #[.slice p1 L d1, .slice (some ⟨b2, 0, none⟩) n d2, .slice (some ⟨bw, 0, none⟩) (2 * smz).toNat cw, .int .i64 smz, .int .i64 0, .int .i64 130, .bool false, .int .i64 0, .int .i64 0, .int .i64 0, .int .i64 3, .slice (some ⟨br, 0, none⟩) 6 cr, .bool false, .bool false, .bool false, .int .i64 0, .int .i64 0, .int .i64 0, .int .i64 0, .slice none 0 0]) := XB
  have HBc : Hid (Below w9.heap.size w9 wc) := hBc
  have HZc : Hid (za wc w.heap.size 29 #[.slice a1 L c1, .slice a2 n c2]) := Z2.below hBc Z2.lt
  have lw9 : bw < w9.heap.size := HW9.out.lt
  have lr9 : br < w9.heap.size := HR9.out.lt
  have lwc : w9.heap.size <= wc.heap.size := hBc.size
  have HLD := zv rfl XB.cell
  have rr : wc.cell? ⟨br, 1, none⟩ = some (.int .i64 3) := HRc.out.cell (i := 1) (by omega)
  clear XB PC RT hBc Z2 ZA HW9 HR9 HA9
  go_wp2_with (refine zk rfl _ _ rfl _ HLD ?_)
  refine (zci p1 L d1 (some ⟨b2, 0, none⟩) n d2 bw (2 * smz).toNat cw br cr smz 1 2 (((zrW (2 * smz).toNat).set 1 1048596).set 3 2099174) wc HWc.out (by rw [List.length_set, List.length_set]; exact zz _) rr (by omega) (by omega) (by omega) (by omega) (by omega) (by omega) nbr).mono ?_
  rintro e wa ⟨rfl, Wa, Ka⟩
  have Xa : za wa bm 37 #[.slice p1 L d1, .slice (some ⟨b2, 0, none⟩) n d2, .slice (some ⟨bw, 0, none⟩) (2 * smz).toNat cw, .int .i64 smz, .int .i64 0, .int .i64 130, .bool false, .int .i64 0, .int .i64 0, .int .i64 0, .int .i64 3, .slice (some ⟨br, 0, none⟩) 6 cr, .bool false, .bool false, .bool false, .int .i64 0, .int .i64 0, .int .i64 0, .int .i64 0, .slice none 0 0] := (Ka.block _ HXB.out.lt (by simp; omega)).trans HXB.out
  have HSR := zt (A := #[.slice p1 L d1, .slice (some ⟨b2, 0, none⟩) n d2, .slice (some ⟨bw, 0, none⟩) (2 * smz).toNat cw, .int .i64 smz, .int .i64 0, .int .i64 130, .bool false, .int .i64 0, .int .i64 0, .int .i64 0, .int .i64 3, .slice (some ⟨br, 0, none⟩) 6 cr, .bool false, .bool false, .bool false, .int .i64 0, .int .i64 0, .int .i64 0, .int .i64 0, .slice none 0 0]) rfl rfl (by simp [Value.oneCell']) Xa
  clear HLD rr
  go_upto_region 10 with (refine zi rfl _ _ _ rfl HSR ?_)
  have HXa : Hid (za wa bm 37 #[.slice p1 L d1, .slice (some ⟨b2, 0, none⟩) n d2, .slice (some ⟨bw, 0, none⟩) (2 * smz).toNat cw, .int .i64 smz, .int .i64 0, .int .i64 130, .bool false, .int .i64 0, .int .i64 0, .int .i64 0, .int .i64 3, .slice (some ⟨br, 0, none⟩) 6 cr, .bool false, .bool false, .bool false, .int .i64 0, .int .i64 0, .int .i64 0, .int .i64 0, .slice none 0 0]) := Xa
  have Se : BtS wc bm bw #[.slice p1 L d1, .slice (some ⟨b2, 0, none⟩) n d2, .slice (some ⟨bw, 0, none⟩) (2 * smz).toNat cw, .int .i64 smz, .int .i64 0, .int .i64 130, .bool false, .int .i64 0, .int .i64 0, .int .i64 0, .int .i64 3, .slice (some ⟨br, 0, none⟩) 6 cr, .bool false, .bool false, .bool false, .int .i64 0, .int .i64 0, .int .i64 0, .int .i64 0, .slice none 0 0] wa := ⟨Xa, Ka.mono (by simp)⟩
  have nbm : bm ≠ bw := by omega
  have nbw : bw ≠ bm := by omega
  obtain ⟨u1, hU1⟩ : ∃ u, u = (((zrW (2 * smz).toNat).set 1 1048596).set 3 2099174).set 4 2 := ⟨_, rfl⟩
  obtain ⟨wb, hV⟩ : ∃ V, V = wa.setRow bm #[.slice p1 L d1, .slice (some ⟨b2, 0, none⟩) n d2, .slice (some ⟨bw, 0, none⟩) (2 * smz).toNat cw, .int .i64 smz, .int .i64 0, .int .i64 130, .bool false, .int .i64 0, .int .i64 0, .int .i64 0, .int .i64 3, .slice (some ⟨br, 0, none⟩) 6 cr, .bool false, .bool false, .bool false, .int .i64 0, .int .i64 0, .int .i64 0, .int .i64 0, .slice none 0 0] := ⟨_, rfl⟩
  rw [<- hV]
  have HS : Hid (BtS wc bm bw #[.slice p1 L d1, .slice (some ⟨b2, 0, none⟩) n d2, .slice (some ⟨bw, 0, none⟩) (2 * smz).toNat cw, .int .i64 smz, .int .i64 0, .int .i64 130, .bool false, .int .i64 0, .int .i64 0, .int .i64 0, .int .i64 3, .slice (some ⟨br, 0, none⟩) 6 cr, .bool false, .bool false, .bool false, .int .i64 0, .int .i64 0, .int .i64 0, .int .i64 0, .slice none 0 0] wb) := by rw [hV]; exact Se.row
  have HW : Hid (RwW wb bw u1) := by rw [hV, hU1]; exact Rw.of_block Wa (zm nbw _)
  have hl1 : u1.length = (2 * smz).toNat := by rw [hU1]; simp only [List.length_set]; exact zz _
  clear hV Se Wa Ka HSR Xa HXa
  have hL1 : 1 <= L := HM.out.2.1.1
  have hL1' : (0 : Int) < (L : Int) := by omega
  have hL2 : ¬ (L : Int) = 0 := by omega
  have hsl := HM.out.2.1.2.2.1 0 (by omega)
  have lww : w.heap.size <= w9.heap.size := HB9.out.size
  have HBc' : Hid (Below w.heap.size w wc) := zb HB9.out HBc.out
  obtain ⟨au, cu', ac, cc', rP, rU, rC⟩ := HF.out.1.open_
  obtain ⟨bs, off, cap', hv, _, lbs, hcs⟩ := rP.parts (k := 0) (by omega)
  simp only [Value.slice.injEq] at hv
  obtain ⟨rfl, _, rfl⟩ := hv
  have ps : wc.cell? ⟨bs, off + 1, none⟩ = some (.int .i64 (X 0).sl) := (HBc'.out.cell (p := ⟨bs, off + 1, none⟩) lbs).trans ((hcs 1 (by omega)).trans (by have := zaq X au cu' ac cc' 0; rw [Nat.zero_mul, Nat.zero_add] at this; rw [this]))
  clear rP rU rC hcs
  have z0 : wc.cell? ⟨w.heap.size, 0, none⟩ = some (.slice (some ⟨bs, off, none⟩) L c1) := HZc.out.cell 0
  have lzc := HZc.out.lt
  have rr : wc.cell? ⟨br, 1, none⟩ = some (.int .i64 3) := HRc.out.cell (i := 1) (by omega)
  have HQ : Hid (∀ V, BtS wc bm bw #[.slice p1 L d1, .slice (some ⟨b2, 0, none⟩) n d2, .slice (some ⟨bw, 0, none⟩) (2 * smz).toNat cw, .int .i64 smz, .int .i64 0, .int .i64 130, .bool false, .int .i64 0, .int .i64 0, .int .i64 0, .int .i64 3, .slice (some ⟨br, 0, none⟩) 6 cr, .bool false, .bool false, .bool false, .int .i64 0, .int .i64 0, .int .i64 0, .int .i64 0, .slice none 0 0] V -> V.cell? ⟨w.heap.size, 0, none⟩ = some (.slice (some ⟨bs, off, none⟩) L c1) /\ V.cell? ⟨bs, off + 1, none⟩ = some (.int .i64 (X 0).sl) /\ V.cell? ⟨br, 1, none⟩ = some (.int .i64 3) /\ br < V.heap.size) := fun V hS => ⟨(hS.2.cell (p := ⟨w.heap.size, 0, none⟩) lzc (by simp; omega)).trans z0, (hS.2.cell (p := ⟨bs, off + 1, none⟩) (by show bs < wc.heap.size; omega) (by simp; omega)).trans ps, (hS.2.cell (p := ⟨br, 1, none⟩) (by show br < wc.heap.size; omega) (by simp; omega)).trans rr, by have := hS.2.size; omega⟩
  have hs3 : IntKind.i64.wrap (3 + (X 0).sl) = 3 + (X 0).sl := by rw [IntKind.wrap_i64]; have := hsl.1; have := hsl.2.1; have := hsl.2.2.1; omega
  have hs4 : 0 <= 3 + (X 0).sl := by have := hsl.1; have := hsl.2.1; omega
  have hs5 : 3 + (X 0).sl <= 1048576 := by have := hsl.2.2.1; omega
  clear z0 ps rr hsl
  refine wp_region_held_drew (S := BtS wc bm bw #[.slice p1 L d1, .slice (some ⟨b2, 0, none⟩) n d2, .slice (some ⟨bw, 0, none⟩) (2 * smz).toNat cw, .int .i64 smz, .int .i64 0, .int .i64 130, .bool false, .int .i64 0, .int .i64 0, .int .i64 0, .int .i64 3, .slice (some ⟨br, 0, none⟩) 6 cr, .bool false, .bool false, .bool false, .int .i64 0, .int .i64 0, .int .i64 0, .int .i64 0, .slice none 0 0]) (by kernel_rfl) HS.out.drew (fun hHeld => ?_)
  have HWd : Hid (RwW wb.drew bw u1) := Rw.drew HW.out
  clear HW HS
  refine tk 0 54 (.agg #[.slice p1 L d1, .slice (some ⟨b2, 0, none⟩) n d2, .slice (some ⟨bw, 0, none⟩) (2 * smz).toNat cw, .int .i64 smz, .int .i64 0, .int .i64 130, .bool false, .int .i64 0, .int .i64 0, .int .i64 0, .int .i64 3, .slice (some ⟨br, 0, none⟩) 6 cr, .bool false, .bool false, .bool false, .int .i64 0, .int .i64 0, .int .i64 0, .int .i64 0, .slice none 0 0]) hHeld rfl (fun V hS => zbh rfl (zv rfl hS.1.cell)) ?_
  try simp only [Act.put, zig, zih, zii]
  refine tk 1 55 (.pointer (some ⟨w.heap.size, 0, none⟩)) hHeld rfl (by intro V hS; go_simp) ?_
  try simp only [Act.put, zig, zih, zii]
  refine tk 2 56 (.slice (some ⟨bs, off, none⟩) L c1) hHeld rfl (by intro V hS; have q1 := (HQ.out _ hS).1; go_simp) ?_
  try simp only [Act.put, zig, zih, zii]
  refine tk 3 57 (.pointer (some ⟨bs, off, none⟩)) hHeld rfl (by intro V hS; go_simp; intro h0; omega) ?_
  try simp only [Act.put, zig, zih, zii]
  refine tk 4 58 (.pointer (some ⟨bs, off + 1, none⟩)) hHeld rfl (by intro V hS; go_simp) ?_
  try simp only [Act.put, zig, zih, zii]
  refine tk 5 59 (.int .i64 (X 0).sl) hHeld rfl (by intro V hS; have q1 := (HQ.out _ hS).2.1; go_simp) ?_
  try simp only [Act.put, zig, zih, zii]
  refine tk 6 60 (.int .i64 (3 + (X 0).sl)) hHeld rfl (by intro V hS; have q1 := hs3; go_simp) ?_
  try simp only [Act.put, zig, zih, zii]
  refine wpAnyH_ready (rs := [7]) (by kernel_rfl) (by simp) ?_
  refine AllReadyH.cons (o := { dst := some 61, op := _, type := _, pos := _, after := _, guard := _ }) rfl (fun K hK => ?_) AllReadyH.nil
  go_simp
  go_at_call 19
  refine (zci p1 L d1 (some ⟨b2, 0, none⟩) n d2 bw (2 * smz).toNat cw br cr smz 2 (3 + (X 0).sl) u1 wb.drew HWd.out hl1 (HQ.out _ hHeld).2.2.1 (by have := (HQ.out _ hHeld).2.2.2; omega) (by omega) (by omega) (by omega) hs4 hs5 nbr).mono ?_
  rintro e we ⟨rfl, We, Ke⟩
  have Se := hHeld.kp Ke nbm
  have HSR := zt (A := #[.slice p1 L d1, .slice (some ⟨b2, 0, none⟩) n d2, .slice (some ⟨bw, 0, none⟩) (2 * smz).toNat cw, .int .i64 smz, .int .i64 0, .int .i64 130, .bool false, .int .i64 0, .int .i64 0, .int .i64 0, .int .i64 3, .slice (some ⟨br, 0, none⟩) 6 cr, .bool false, .bool false, .bool false, .int .i64 0, .int .i64 0, .int .i64 0, .int .i64 0, .slice none 0 0]) rfl rfl (by simp [Value.oneCell']) Se.1
  refine hK.out _ _ Se (fun hHeld' => ?_)
  clear hK K hHeld' hHeld
  try simp only [Act.put, zig, zih, zii]
  refine wpAnyH_ready (rs := [8]) (by kernel_rfl) (by simp) ?_
  refine AllReadyH.cons (o := { dst := none, op := _, type := _, pos := _, after := _, guard := _ }) rfl (fun K hK => ?_) AllReadyH.nil
  rw [if_pos (by kernel_rfl)]
  refine z8 _ _ _ rfl HSR ?_
  refine hK.out _ _ Se.row (fun hHeld => ?_)
  clear hK K hHeld
  try simp only [Act.put, zig, zih, zii]
  refine wpAnyH_done (by kernel_rfl) ?_ _
  obtain ⟨wf, hV⟩ : ∃ V, V = we.setRow bm #[.slice p1 L d1, .slice (some ⟨b2, 0, none⟩) n d2, .slice (some ⟨bw, 0, none⟩) (2 * smz).toNat cw, .int .i64 smz, .int .i64 0, .int .i64 130, .bool false, .int .i64 0, .int .i64 0, .int .i64 0, .int .i64 3, .slice (some ⟨br, 0, none⟩) 6 cr, .bool false, .bool false, .bool false, .int .i64 0, .int .i64 0, .int .i64 0, .int .i64 0, .slice none 0 0] := ⟨_, rfl⟩
  rw [<- hV]
  obtain ⟨u2, hU2⟩ : ∃ u, u = u1.set 5 (3 + (X 0).sl) := ⟨_, rfl⟩
  have HS : Hid (BtS wc bm bw #[.slice p1 L d1, .slice (some ⟨b2, 0, none⟩) n d2, .slice (some ⟨bw, 0, none⟩) (2 * smz).toNat cw, .int .i64 smz, .int .i64 0, .int .i64 130, .bool false, .int .i64 0, .int .i64 0, .int .i64 0, .int .i64 3, .slice (some ⟨br, 0, none⟩) 6 cr, .bool false, .bool false, .bool false, .int .i64 0, .int .i64 0, .int .i64 0, .int .i64 0, .slice none 0 0] wf) := by rw [hV]; exact Se.row
  have HW : Hid (RwW wf bw u2) := by rw [hV, hU2]; exact Rw.of_block We (zm nbw _)
  have hl2 : u2.length = (2 * smz).toNat := by rw [hU2]; simp only [List.length_set]; exact hl1
  clear hV Se We Ke HSR
  clear HWd
  have HLD := zv rfl HS.out.1.cell
  go_wp2_with (refine zk rfl _ _ rfl _ HLD ?_)
  refine (zci p1 L d1 (some ⟨b2, 0, none⟩) n d2 bw (2 * smz).toNat cw br cr smz 3 3 u2 wf HW.out hl2 (HQ.out _ HS.out).2.2.1 (by have := (HQ.out _ HS.out).2.2.2; omega) (by omega) (by omega) (by omega) (by omega) (by omega) nbr).mono ?_
  rintro e we ⟨rfl, We, Ke⟩
  have Se := HS.out.kp Ke nbm
  have HSR := zt (A := #[.slice p1 L d1, .slice (some ⟨b2, 0, none⟩) n d2, .slice (some ⟨bw, 0, none⟩) (2 * smz).toNat cw, .int .i64 smz, .int .i64 0, .int .i64 130, .bool false, .int .i64 0, .int .i64 0, .int .i64 0, .int .i64 3, .slice (some ⟨br, 0, none⟩) 6 cr, .bool false, .bool false, .bool false, .int .i64 0, .int .i64 0, .int .i64 0, .int .i64 0, .slice none 0 0]) rfl rfl (by simp [Value.oneCell']) Se.1
  clear HLD HS HW
  go_upto_region 12 with (refine zi rfl _ _ _ rfl HSR ?_)
  obtain ⟨wg, hV⟩ : ∃ V, V = we.setRow bm #[.slice p1 L d1, .slice (some ⟨b2, 0, none⟩) n d2, .slice (some ⟨bw, 0, none⟩) (2 * smz).toNat cw, .int .i64 smz, .int .i64 0, .int .i64 130, .bool false, .int .i64 0, .int .i64 0, .int .i64 0, .int .i64 3, .slice (some ⟨br, 0, none⟩) 6 cr, .bool false, .bool false, .bool false, .int .i64 0, .int .i64 0, .int .i64 0, .int .i64 0, .slice none 0 0] := ⟨_, rfl⟩
  rw [<- hV]
  obtain ⟨u3, hU3⟩ : ∃ u, u = u2.set 6 3 := ⟨_, rfl⟩
  have HS : Hid (BtS wc bm bw #[.slice p1 L d1, .slice (some ⟨b2, 0, none⟩) n d2, .slice (some ⟨bw, 0, none⟩) (2 * smz).toNat cw, .int .i64 smz, .int .i64 0, .int .i64 130, .bool false, .int .i64 0, .int .i64 0, .int .i64 0, .int .i64 3, .slice (some ⟨br, 0, none⟩) 6 cr, .bool false, .bool false, .bool false, .int .i64 0, .int .i64 0, .int .i64 0, .int .i64 0, .slice none 0 0] wg) := by rw [hV]; exact Se.row
  have HW : Hid (RwW wg bw u3) := by rw [hV, hU3]; exact Rw.of_block We (zm nbw _)
  have hl3 : u3.length = (2 * smz).toNat := by rw [hU3]; simp only [List.length_set]; exact hl2
  clear hV Se We Ke HSR
  refine wp_region_held_drew (S := BtS wc bm bw #[.slice p1 L d1, .slice (some ⟨b2, 0, none⟩) n d2, .slice (some ⟨bw, 0, none⟩) (2 * smz).toNat cw, .int .i64 smz, .int .i64 0, .int .i64 130, .bool false, .int .i64 0, .int .i64 0, .int .i64 0, .int .i64 3, .slice (some ⟨br, 0, none⟩) 6 cr, .bool false, .bool false, .bool false, .int .i64 0, .int .i64 0, .int .i64 0, .int .i64 0, .slice none 0 0]) (by kernel_rfl) HS.out.drew (fun hHeld => ?_)
  have HWd : Hid (RwW wg.drew bw u3) := Rw.drew HW.out
  clear HW HS
  refine tk 0 64 (.agg #[.slice p1 L d1, .slice (some ⟨b2, 0, none⟩) n d2, .slice (some ⟨bw, 0, none⟩) (2 * smz).toNat cw, .int .i64 smz, .int .i64 0, .int .i64 130, .bool false, .int .i64 0, .int .i64 0, .int .i64 0, .int .i64 3, .slice (some ⟨br, 0, none⟩) 6 cr, .bool false, .bool false, .bool false, .int .i64 0, .int .i64 0, .int .i64 0, .int .i64 0, .slice none 0 0]) hHeld rfl (fun V hS => zbh rfl (zv rfl hS.1.cell)) ?_
  try simp only [Act.put, zig, zih, zii]
  refine wpAnyH_ready (rs := [1]) (by kernel_rfl) (by simp) ?_
  refine AllReadyH.cons (o := { dst := some 65, op := _, type := _, pos := _, after := _, guard := _ }) rfl (fun K hK => ?_) AllReadyH.nil
  go_simp
  go_at_call 21
  refine (zeg 0 _).mono ?_
  rintro e wi ⟨rfl, bi⟩
  have Si := hHeld.below bi
  have Wi := Rw.below HWd.out bi
  refine hK.out _ _ Si (fun hHeld' => ?_)
  clear hK K hHeld' hHeld bi HWd
  try simp only [Act.put, zig, zih, zii]
  have hHeld := Si
  refine wpAnyH_ready (rs := [2]) (by kernel_rfl) (by simp) ?_
  refine AllReadyH.cons (o := { dst := some 66, op := _, type := _, pos := _, after := _, guard := _ }) rfl (fun K hK => ?_) AllReadyH.nil
  go_simp
  go_at_call 20
  refine (zch p1 L d1 (some ⟨b2, 0, none⟩) n d2 bw (2 * smz).toNat cw br cr smz 0 2 0 u3 wi Wi hl3 (HQ.out _ Si).2.2.1 (by have := (HQ.out _ Si).2.2.2; omega) (by omega) (by omega) (by omega) (by omega) (by omega) (by omega) (by omega) nbr).mono ?_
  rintro e we ⟨rfl, We, Ke⟩
  clear Si Wi
  have Se := hHeld.kp Ke nbm
  have HSR := zt (A := #[.slice p1 L d1, .slice (some ⟨b2, 0, none⟩) n d2, .slice (some ⟨bw, 0, none⟩) (2 * smz).toNat cw, .int .i64 smz, .int .i64 0, .int .i64 130, .bool false, .int .i64 0, .int .i64 0, .int .i64 0, .int .i64 3, .slice (some ⟨br, 0, none⟩) 6 cr, .bool false, .bool false, .bool false, .int .i64 0, .int .i64 0, .int .i64 0, .int .i64 0, .slice none 0 0]) rfl rfl (by simp [Value.oneCell']) Se.1
  refine hK.out _ _ Se (fun hHeld' => ?_)
  clear hK K hHeld' hHeld
  try simp only [Act.put, zig, zih, zii]
  refine wpAnyH_ready (rs := [3]) (by kernel_rfl) (by simp) ?_
  refine AllReadyH.cons (o := { dst := none, op := _, type := _, pos := _, after := _, guard := _ }) rfl (fun K hK => ?_) AllReadyH.nil
  rw [if_pos (by kernel_rfl)]
  refine z8 _ _ _ rfl HSR ?_
  refine hK.out _ _ Se.row (fun hHeld => ?_)
  clear hK K hHeld
  try simp only [Act.put, zig, zih, zii]
  refine wpAnyH_done (by kernel_rfl) ?_ _
  obtain ⟨wh, hV⟩ : ∃ V, V = we.setRow bm #[.slice p1 L d1, .slice (some ⟨b2, 0, none⟩) n d2, .slice (some ⟨bw, 0, none⟩) (2 * smz).toNat cw, .int .i64 smz, .int .i64 0, .int .i64 130, .bool false, .int .i64 0, .int .i64 0, .int .i64 0, .int .i64 3, .slice (some ⟨br, 0, none⟩) 6 cr, .bool false, .bool false, .bool false, .int .i64 0, .int .i64 0, .int .i64 0, .int .i64 0, .slice none 0 0] := ⟨_, rfl⟩
  rw [<- hV]
  obtain ⟨u4, hU4⟩ : ∃ u, u = (u3.set 10 2).set 11 0 := ⟨_, rfl⟩
  have HS : Hid (BtS wc bm bw #[.slice p1 L d1, .slice (some ⟨b2, 0, none⟩) n d2, .slice (some ⟨bw, 0, none⟩) (2 * smz).toNat cw, .int .i64 smz, .int .i64 0, .int .i64 130, .bool false, .int .i64 0, .int .i64 0, .int .i64 0, .int .i64 3, .slice (some ⟨br, 0, none⟩) 6 cr, .bool false, .bool false, .bool false, .int .i64 0, .int .i64 0, .int .i64 0, .int .i64 0, .slice none 0 0] wh) := by rw [hV]; exact Se.row
  have HW : Hid (RwW wh bw u4) := by rw [hV, hU4]; exact Rw.of_block We (zm nbw _)
  have hl4 : u4.length = (2 * smz).toNat := by rw [hU4]; simp only [List.length_set]; exact hl3
  clear hV Se We Ke HSR
  go_upto_region 13 with fail
  refine wp_region_held_drew (S := BtS wc bm bw #[.slice p1 L d1, .slice (some ⟨b2, 0, none⟩) n d2, .slice (some ⟨bw, 0, none⟩) (2 * smz).toNat cw, .int .i64 smz, .int .i64 0, .int .i64 130, .bool false, .int .i64 0, .int .i64 0, .int .i64 0, .int .i64 3, .slice (some ⟨br, 0, none⟩) 6 cr, .bool false, .bool false, .bool false, .int .i64 0, .int .i64 0, .int .i64 0, .int .i64 0, .slice none 0 0]) (by kernel_rfl) HS.out.drew (fun hHeld => ?_)
  have HWd : Hid (RwW wh.drew bw u4) := Rw.drew HW.out
  clear HW HS
  refine tk 0 67 (.agg #[.slice p1 L d1, .slice (some ⟨b2, 0, none⟩) n d2, .slice (some ⟨bw, 0, none⟩) (2 * smz).toNat cw, .int .i64 smz, .int .i64 0, .int .i64 130, .bool false, .int .i64 0, .int .i64 0, .int .i64 0, .int .i64 3, .slice (some ⟨br, 0, none⟩) 6 cr, .bool false, .bool false, .bool false, .int .i64 0, .int .i64 0, .int .i64 0, .int .i64 0, .slice none 0 0]) hHeld rfl (fun V hS => zbh rfl (zv rfl hS.1.cell)) ?_
  try simp only [Act.put, zig, zih, zii]
  refine wpAnyH_ready (rs := [1]) (by kernel_rfl) (by simp) ?_
  refine AllReadyH.cons (o := { dst := some 68, op := _, type := _, pos := _, after := _, guard := _ }) rfl (fun K hK => ?_) AllReadyH.nil
  go_simp
  go_at_call 21
  refine (zeg 0 _).mono ?_
  rintro e wi ⟨rfl, bi⟩
  have Si := hHeld.below bi
  have Wi := Rw.below HWd.out bi
  refine hK.out _ _ Si (fun hHeld' => ?_)
  clear hK K hHeld' hHeld bi HWd
  try simp only [Act.put, zig, zih, zii]
  have hHeld := Si
  refine wpAnyH_ready (rs := [2]) (by kernel_rfl) (by simp) ?_
  refine AllReadyH.cons (o := { dst := some 69, op := _, type := _, pos := _, after := _, guard := _ }) rfl (fun K hK => ?_) AllReadyH.nil
  go_simp
  go_at_call 20
  refine (zch p1 L d1 (some ⟨b2, 0, none⟩) n d2 bw (2 * smz).toNat cw br cr smz 1 2 0 u4 wi Wi hl4 (HQ.out _ Si).2.2.1 (by have := (HQ.out _ Si).2.2.2; omega) (by omega) (by omega) (by omega) (by omega) (by omega) (by omega) (by omega) nbr).mono ?_
  rintro e we ⟨rfl, We, Ke⟩
  clear Si Wi
  have Se := hHeld.kp Ke nbm
  have HSR := zt (A := #[.slice p1 L d1, .slice (some ⟨b2, 0, none⟩) n d2, .slice (some ⟨bw, 0, none⟩) (2 * smz).toNat cw, .int .i64 smz, .int .i64 0, .int .i64 130, .bool false, .int .i64 0, .int .i64 0, .int .i64 0, .int .i64 3, .slice (some ⟨br, 0, none⟩) 6 cr, .bool false, .bool false, .bool false, .int .i64 0, .int .i64 0, .int .i64 0, .int .i64 0, .slice none 0 0]) rfl rfl (by simp [Value.oneCell']) Se.1
  refine hK.out _ _ Se (fun hHeld' => ?_)
  clear hK K hHeld' hHeld
  try simp only [Act.put, zig, zih, zii]
  refine wpAnyH_ready (rs := [3]) (by kernel_rfl) (by simp) ?_
  refine AllReadyH.cons (o := { dst := none, op := _, type := _, pos := _, after := _, guard := _ }) rfl (fun K hK => ?_) AllReadyH.nil
  rw [if_pos (by kernel_rfl)]
  refine z8 _ _ _ rfl HSR ?_
  refine hK.out _ _ Se.row (fun hHeld => ?_)
  clear hK K hHeld
  try simp only [Act.put, zig, zih, zii]
  refine wpAnyH_done (by kernel_rfl) ?_ _
  obtain ⟨wj, hV⟩ : ∃ V, V = we.setRow bm #[.slice p1 L d1, .slice (some ⟨b2, 0, none⟩) n d2, .slice (some ⟨bw, 0, none⟩) (2 * smz).toNat cw, .int .i64 smz, .int .i64 0, .int .i64 130, .bool false, .int .i64 0, .int .i64 0, .int .i64 0, .int .i64 3, .slice (some ⟨br, 0, none⟩) 6 cr, .bool false, .bool false, .bool false, .int .i64 0, .int .i64 0, .int .i64 0, .int .i64 0, .slice none 0 0] := ⟨_, rfl⟩
  rw [<- hV]
  obtain ⟨u5, hU5⟩ : ∃ u, u = (u4.set 12 2).set 13 0 := ⟨_, rfl⟩
  have HS : Hid (BtS wc bm bw #[.slice p1 L d1, .slice (some ⟨b2, 0, none⟩) n d2, .slice (some ⟨bw, 0, none⟩) (2 * smz).toNat cw, .int .i64 smz, .int .i64 0, .int .i64 130, .bool false, .int .i64 0, .int .i64 0, .int .i64 0, .int .i64 3, .slice (some ⟨br, 0, none⟩) 6 cr, .bool false, .bool false, .bool false, .int .i64 0, .int .i64 0, .int .i64 0, .int .i64 0, .slice none 0 0] wj) := by rw [hV]; exact Se.row
  have HW : Hid (RwW wj bw u5) := by rw [hV, hU5]; exact Rw.of_block We (zm nbw _)
  have hl5 : u5.length = (2 * smz).toNat := by rw [hU5]; simp only [List.length_set]; exact hl4
  clear hV Se We Ke HSR
  have r2 : wc.cell? ⟨br, 2, none⟩ = some (.int .i64 5) := HRc.out.cell (i := 2) (by omega)
  have r3 : wc.cell? ⟨br, 3, none⟩ = some (.int .i64 1) := HRc.out.cell (i := 3) (by omega)
  have HQ2 : Hid (∀ V, BtS wc bm bw #[.slice p1 L d1, .slice (some ⟨b2, 0, none⟩) n d2, .slice (some ⟨bw, 0, none⟩) (2 * smz).toNat cw, .int .i64 smz, .int .i64 0, .int .i64 130, .bool false, .int .i64 0, .int .i64 0, .int .i64 0, .int .i64 3, .slice (some ⟨br, 0, none⟩) 6 cr, .bool false, .bool false, .bool false, .int .i64 0, .int .i64 0, .int .i64 0, .int .i64 0, .slice none 0 0] V -> V.cell? ⟨bm, 11, none⟩ = some (.slice (some ⟨br, 0, none⟩) 6 cr) /\ V.cell? ⟨br, 2, none⟩ = some (.int .i64 5) /\ V.cell? ⟨br, 3, none⟩ = some (.int .i64 1)) := fun V hS => ⟨hS.1.cell 11, (hS.2.cell (p := ⟨br, 2, none⟩) (by show br < wc.heap.size; omega) (by simp; omega)).trans r2, (hS.2.cell (p := ⟨br, 3, none⟩) (by show br < wc.heap.size; omega) (by simp; omega)).trans r3⟩
  clear r2 r3
  go_upto_region 14 with fail
  refine wp_region_held_drew (S := BtS wc bm bw #[.slice p1 L d1, .slice (some ⟨b2, 0, none⟩) n d2, .slice (some ⟨bw, 0, none⟩) (2 * smz).toNat cw, .int .i64 smz, .int .i64 0, .int .i64 130, .bool false, .int .i64 0, .int .i64 0, .int .i64 0, .int .i64 3, .slice (some ⟨br, 0, none⟩) 6 cr, .bool false, .bool false, .bool false, .int .i64 0, .int .i64 0, .int .i64 0, .int .i64 0, .slice none 0 0]) (by kernel_rfl) HS.out.drew (fun hHeld => ?_)
  have HWd : Hid (RwW wj.drew bw u5) := Rw.drew HW.out
  clear HW HS
  refine tk 0 70 (.agg #[.slice p1 L d1, .slice (some ⟨b2, 0, none⟩) n d2, .slice (some ⟨bw, 0, none⟩) (2 * smz).toNat cw, .int .i64 smz, .int .i64 0, .int .i64 130, .bool false, .int .i64 0, .int .i64 0, .int .i64 0, .int .i64 3, .slice (some ⟨br, 0, none⟩) 6 cr, .bool false, .bool false, .bool false, .int .i64 0, .int .i64 0, .int .i64 0, .int .i64 0, .slice none 0 0]) hHeld rfl (fun V hS => zbh rfl (zv rfl hS.1.cell)) ?_
  try simp only [Act.put, zig, zih, zii]
  refine tk 1 71 (.pointer (some ⟨bm, 2, none⟩)) hHeld rfl (by intro V hS; go_simp) ?_
  try simp only [Act.put, zig, zih, zii]
  refine tk 2 72 (.pointer (some ⟨bm, 11, none⟩)) hHeld rfl (by intro V hS; go_simp) ?_
  try simp only [Act.put, zig, zih, zii]
  refine tk 3 73 (.slice (some ⟨br, 0, none⟩) 6 cr) hHeld rfl (by intro V hS; have q1 := (HQ2.out _ hS).1; go_simp) ?_
  try simp only [Act.put, zig, zih, zii]
  refine tk 4 74 (.pointer (some ⟨br, 2, none⟩)) hHeld rfl (by intro V hS; go_simp) ?_
  try simp only [Act.put, zig, zih, zii]
  refine tk 5 75 (.agg #[.int .i64 5, .int .i64 1]) hHeld rfl (by intro V hS; have q1 := (HQ2.out _ hS).2.1; have q2 := (HQ2.out _ hS).2.2; go_simp) ?_
  try simp only [Act.put, zig, zih, zii]
  refine wpAnyH_ready (rs := [6]) (by kernel_rfl) (by simp) ?_
  refine AllReadyH.cons (o := { dst := some 76, op := _, type := _, pos := _, after := _, guard := _ }) rfl (fun K hK => ?_) AllReadyH.nil
  go_simp
  go_at_call 20
  refine (zch p1 L d1 (some ⟨b2, 0, none⟩) n d2 bw (2 * smz).toNat cw br cr smz 2 5 1 u5 wj.drew HWd.out hl5 (HQ.out _ hHeld).2.2.1 (by have := (HQ.out _ hHeld).2.2.2; omega) (by omega) (by omega) (by omega) (by omega) (by omega) (by omega) (by omega) nbr).mono ?_
  rintro e we ⟨rfl, We, Ke⟩
  have Se := hHeld.kp Ke nbm
  have HSR := zt (A := #[.slice p1 L d1, .slice (some ⟨b2, 0, none⟩) n d2, .slice (some ⟨bw, 0, none⟩) (2 * smz).toNat cw, .int .i64 smz, .int .i64 0, .int .i64 130, .bool false, .int .i64 0, .int .i64 0, .int .i64 0, .int .i64 3, .slice (some ⟨br, 0, none⟩) 6 cr, .bool false, .bool false, .bool false, .int .i64 0, .int .i64 0, .int .i64 0, .int .i64 0, .slice none 0 0]) rfl rfl (by simp [Value.oneCell']) Se.1
  refine hK.out _ _ Se (fun hHeld' => ?_)
  clear hK K hHeld' hHeld
  try simp only [Act.put, zig, zih, zii]
  refine wpAnyH_ready (rs := [7]) (by kernel_rfl) (by simp) ?_
  refine AllReadyH.cons (o := { dst := none, op := _, type := _, pos := _, after := _, guard := _ }) rfl (fun K hK => ?_) AllReadyH.nil
  rw [if_pos (by kernel_rfl)]
  refine z8 _ _ _ rfl HSR ?_
  refine hK.out _ _ Se.row (fun hHeld => ?_)
  clear hK K hHeld
  try simp only [Act.put, zig, zih, zii]
  refine wpAnyH_done (by kernel_rfl) ?_ _
  obtain ⟨wk, hV⟩ : ∃ V, V = we.setRow bm #[.slice p1 L d1, .slice (some ⟨b2, 0, none⟩) n d2, .slice (some ⟨bw, 0, none⟩) (2 * smz).toNat cw, .int .i64 smz, .int .i64 0, .int .i64 130, .bool false, .int .i64 0, .int .i64 0, .int .i64 0, .int .i64 3, .slice (some ⟨br, 0, none⟩) 6 cr, .bool false, .bool false, .bool false, .int .i64 0, .int .i64 0, .int .i64 0, .int .i64 0, .slice none 0 0] := ⟨_, rfl⟩
  rw [<- hV]
  obtain ⟨u6, hU6⟩ : ∃ u, u = (u5.set 14 5).set 15 1 := ⟨_, rfl⟩
  have HS : Hid (BtS wc bm bw #[.slice p1 L d1, .slice (some ⟨b2, 0, none⟩) n d2, .slice (some ⟨bw, 0, none⟩) (2 * smz).toNat cw, .int .i64 smz, .int .i64 0, .int .i64 130, .bool false, .int .i64 0, .int .i64 0, .int .i64 0, .int .i64 3, .slice (some ⟨br, 0, none⟩) 6 cr, .bool false, .bool false, .bool false, .int .i64 0, .int .i64 0, .int .i64 0, .int .i64 0, .slice none 0 0] wk) := by rw [hV]; exact Se.row
  have HW : Hid (RwW wk bw u6) := by rw [hV, hU6]; exact Rw.of_block We (zm nbw _)
  have hl6 : u6.length = (2 * smz).toNat := by rw [hU6]; simp only [List.length_set]; exact hl5
  clear hV Se We Ke HSR
  clear HWd
  have c11 := (HQ2.out _ HS.out).1
  have c2 := (HQ2.out _ HS.out).2.1
  have c3 := (HQ2.out _ HS.out).2.2
  have HRk : Hid (RwR wk br 6 (fun i => if i = 0 then 6 else if i = 1 then 3 else if i = 2 then 5 else if i = 3 then 1 else 0)) := Rw.kp HRc.out HS.out.2 (by simp; omega)
  have fr := fun i => HRk.out.frozen i
  have HZ4c : Hid (za wc (w.heap.size + 1) 37 #[.slice none 0 0, .slice none 0 0, .slice none 0 0, .int .i64 0, .int .i64 0, .int .i64 0, .bool false, .int .i64 0, .int .i64 0, .int .i64 0, .int .i64 0, .slice none 0 0, .bool false, .bool false, .bool false, .int .i64 0, .int .i64 0, .int .i64 0, .int .i64 0, .slice none 0 0]) := za.below ((HK9.out.block _ HZ4.out.lt (by simp; omega)).trans HZ4.out) HBc.out (by have := HZ4.out.lt; have := HK9.out.size; omega)
  have HZ4k : Hid (za wk (w.heap.size + 1) 37 #[.slice none 0 0, .slice none 0 0, .slice none 0 0, .int .i64 0, .int .i64 0, .int .i64 0, .bool false, .int .i64 0, .int .i64 0, .int .i64 0, .int .i64 0, .slice none 0 0, .bool false, .bool false, .bool false, .int .i64 0, .int .i64 0, .int .i64 0, .int .i64 0, .slice none 0 0]) := (HS.out.2.block _ HZ4c.out.lt (by simp; omega)).trans HZ4c.out
  clear HQ HQ2
  go_upto_region 16 with fail
  clear c11 c2 c3 fr
  obtain ⟨wl, hV⟩ : ∃ V, V = (wk.setCell ⟨br, 2, none⟩ (.int .i64 0)).setCell ⟨br, 3, none⟩ (.int .i64 0) := ⟨_, rfl⟩
  rw [<- hV]
  have Kl : Kp [br] wk wl := by rw [hV]; exact Kp.setCell (Kp.setCell (Kp.refl _ _) (p := ⟨br, 2, none⟩) (.inl (by simp)) _) (p := ⟨br, 3, none⟩) (.inl (by simp)) _
  have HRl : Hid (RwR wl br 6 btR) := by rw [hV]; exact ((HRk.out.set 2 _).set 3 _).congr (fun i hi => by unfold btR; by_cases h2 : i = 2 <;> by_cases h3 : i = 3 <;> simp [h2, h3] <;> omega)
  have HWl : Hid (RwW wl bw u6) := Rw.kp HW.out Kl (by simp; omega)
  have Xl : za wl bm 37 #[.slice p1 L d1, .slice (some ⟨b2, 0, none⟩) n d2, .slice (some ⟨bw, 0, none⟩) (2 * smz).toNat cw, .int .i64 smz, .int .i64 0, .int .i64 130, .bool false, .int .i64 0, .int .i64 0, .int .i64 0, .int .i64 3, .slice (some ⟨br, 0, none⟩) 6 cr, .bool false, .bool false, .bool false, .int .i64 0, .int .i64 0, .int .i64 0, .int .i64 0, .slice none 0 0] := (Kl.block _ HS.out.1.lt (by simp; omega)).trans HS.out.1
  have Z4l : za wl (w.heap.size + 1) 37 #[.slice none 0 0, .slice none 0 0, .slice none 0 0, .int .i64 0, .int .i64 0, .int .i64 0, .bool false, .int .i64 0, .int .i64 0, .int .i64 0, .int .i64 0, .slice none 0 0, .bool false, .bool false, .bool false, .int .i64 0, .int .i64 0, .int .i64 0, .int .i64 0, .slice none 0 0] := (Kl.block _ HZ4k.out.lt (by simp; omega)).trans HZ4k.out
  have HLD := zv rfl Xl.cell
  have HST := zt (A := #[.slice p1 L d1, .slice (some ⟨b2, 0, none⟩) n d2, .slice (some ⟨bw, 0, none⟩) (2 * smz).toNat cw, .int .i64 smz, .int .i64 0, .int .i64 130, .bool false, .int .i64 0, .int .i64 0, .int .i64 0, .int .i64 3, .slice (some ⟨br, 0, none⟩) 6 cr, .bool false, .bool false, .bool false, .int .i64 0, .int .i64 0, .int .i64 0, .int .i64 0, .slice none 0 0]) rfl rfl (by simp [Value.oneCell']) Z4l
  have HZ4l : Hid (za wl (w.heap.size + 1) 37 #[.slice none 0 0, .slice none 0 0, .slice none 0 0, .int .i64 0, .int .i64 0, .int .i64 0, .bool false, .int .i64 0, .int .i64 0, .int .i64 0, .int .i64 0, .slice none 0 0, .bool false, .bool false, .bool false, .int .i64 0, .int .i64 0, .int .i64 0, .int .i64 0, .slice none 0 0]) := Z4l
  have HT : Hid (Kp [bm, bw, br, w.heap.size + 1] wc (wl.setRow (w.heap.size + 1) #[.slice p1 L d1, .slice (some ⟨b2, 0, none⟩) n d2, .slice (some ⟨bw, 0, none⟩) (2 * smz).toNat cw, .int .i64 smz, .int .i64 0, .int .i64 130, .bool false, .int .i64 0, .int .i64 0, .int .i64 0, .int .i64 3, .slice (some ⟨br, 0, none⟩) 6 cr, .bool false, .bool false, .bool false, .int .i64 0, .int .i64 0, .int .i64 0, .int .i64 0, .slice none 0 0])) := ((HS.out.2.mono (by simp)).trans (Kl.mono (by simp))).trans ((zcl _).mono (by simp))
  clear hV Kl HRk HW HS Xl Z4l HZ4k
  go_wp2_with (first | refine zk rfl _ _ rfl _ HLD ?_ | refine zi rfl _ _ _ rfl HST ?_)
  obtain ⟨c1', f1', k1⟩ := zbd HWc.out
  obtain ⟨c2', f2', k2⟩ := zbd HRc.out
  have kB := HXB.out
  have kZ := HZ4c.out
  have hu : u6 = btW (2 * smz).toNat (X 0).sl := by subst hU6 hU5 hU4 hU3 hU2 hU1; exact zf0 (by omega) _
  refine bodyPost_ret (zcd rfl (HZ4l.out.row #[.slice p1 L d1, .slice (some ⟨b2, 0, none⟩) n d2, .slice (some ⟨bw, 0, none⟩) (2 * smz).toNat cw, .int .i64 smz, .int .i64 0, .int .i64 130, .bool false, .int .i64 0, .int .i64 0, .int .i64 0, .int .i64 3, .slice (some ⟨br, 0, none⟩) 6 cr, .bool false, .bool false, .bool false, .int .i64 0, .int .i64 0, .int .i64 0, .int .i64 0, .slice none 0 0]).cell rfl rfl) rfl ⟨_, _, bw, cw, br, cr, rfl, (HPC.out.kp HT.out ?_).ptF, Rw.slF (Rw.kp HRT.out HT.out ?_), ?_, Rw.of_block HRl.out (zm (by omega) _), HBc'.out.trans (HT.out.below ?_ HBc'.out.size)⟩
  · intro y hy
    simp only [List.mem_cons, List.not_mem_nil, or_false] at hy
    rcases hy with rfl | rfl | rfl | rfl
    · exact ⟨_, _, _, kB, by decide, by decide, by decide⟩
    · exact ⟨_, _, _, k1, by decide, by decide, by decide⟩
    · exact ⟨_, _, _, k2, by decide, by decide, by decide⟩
    · exact ⟨_, _, _, kZ, by decide, by decide, by decide⟩
  · intro hy
    simp only [List.mem_cons, List.not_mem_nil, or_false] at hy
    rcases hy with h | h | h | h
    · exact zcm HRT.out kB (by decide) h
    · exact zcm HRT.out k1 (by decide) h
    · exact zcm HRT.out k2 (by decide) h
    · exact zcm HRT.out kZ (by decide) h
  · rw [<- hu]
    exact Rw.of_block HWl.out (zm (by omega) _)
  · intro y hy
    simp only [List.mem_cons, List.not_mem_nil, or_false] at hy
    omega
end Go.Proofs.YtblcfbhlmdhnpaaGreat
