/- - -/
import Derived.Test.YtiglkhkfbgjjoaaDoorQPrJ
namespace Go.Proofs.YtiglkhkfbgjjoaaDoor
set_option maxRecDepth 20000
open Go.RowKit Go.PlainAid Go.Maps
set_option linter.unusedSimpArgs false
set_option linter.unusedVariables false
set_option maxHeartbeats 1000000 in
theorem za2 (pb : Nat) (nv v : Value) (xs : List ByteArray) (q : Int) (rec : Int -> List ByteArray) (w0 w : World) (hp : Pnt pb nv w v xs) (hb : Below pb w0 w) (hr : Pr pb nv w0 rec q) (hs : xs.length + 40 * ((rec q).length + 1 + 1) <= 1000000) :
 Calls Tryd.prog 164 #[.pointer (some ⟨pb, 0, none⟩), .int .i64 q] w (zb pb nv xs (rec q ++ [⟨#[59]⟩]) w v) := by
 have HP : Hid (Pnt pb nv w v xs) := hp
 have HB : Hid (Below pb w0 w) := hb
 have HR : Hid (Pr pb nv w0 rec q) := hr
 have G0 : Hid (Pg pb w v w v) := Pg.refl _ _ _
 clear hp hb hr
 go_enter Tryd.func164, Tryd.ntmps164
 have BL0 : Hid (Below pb w0 w) := HB.out.trans (G0.out.low HP.out)
 go_wp2_with fail
 refine (HR.out w v _ HP.out BL0.out (by (try simp [List.length_append] at hs); (try simp [List.length_append]); omega)).mono ?_
 rintro e w1 ⟨rfl, v1, p1, g1⟩
 have P1 : Hid (Pnt pb nv w1 v1 _) := p1
 have G1 : Hid (Pg pb w v w1 v1) := G0.out.trans g1
 clear p1 g1
 have BL1 : Hid (Below pb w0 w1) := HB.out.trans (G1.out.low HP.out)
 go_wp2_with fail
 refine (ze pb nv v1 _ [⟨#[59]⟩] _ _ w1 _ (by first | rfl | simp) rfl rfl P1.out (by (try simp [List.length_append] at hs); (try simp [List.length_append]); omega)).mono ?_
 rintro e w2 ⟨rfl, v2, p2, g2⟩
 have P2 : Hid (Pnt pb nv w2 v2 _) := p2
 have G2 : Hid (Pg pb w v w2 v2) := G1.out.trans g2
 clear p2 g2
 go_wp2
 go_end0
 refine ⟨rfl, v2, ?_, G2.out⟩
 have h9 := P2.out
 simpa [List.append_assoc] using h9
set_option maxHeartbeats 1000000 in
theorem zcd (pb : Nat) (nv v : Value) (xs : List ByteArray) (ak : Option Addr) (l ck : Nat) (y : Nat -> Int) (rec : Int -> List ByteArray) (T : Nat) (w0 w : World) (hk : SlF T w0 (.slice ak l ck) l l (fun i => .int .i64 (y i))) (hT : T <= pb) (hl : l <= 1048576) (hs : xs.length + 40 * ((rec (y 0) ++ [⟨#[91]⟩] ++ rec (y 1) ++ [⟨#[93]⟩] : List ByteArray).length + 1) <= 1000000) (hn : 2 <= l)
 (hp : Pnt pb nv w v xs) (hb : Below pb w0 w) (hr : ∀ m, m < l -> Pr pb nv w0 rec (y m)) :
 Calls Tryd.prog 131 #[.pointer (some ⟨pb, 0, none⟩), .slice ak l ck] w (zb pb nv xs (rec (y 0) ++ [⟨#[91]⟩] ++ rec (y 1) ++ [⟨#[93]⟩]) w v) := by
 have hl' : (l : Int) <= 1048576 := by omega
 obtain ⟨bk, ok, ck2, hv, tk1, lk, hkk⟩ := hk.parts (k := 0) (by omega)
 simp only [Value.slice.injEq] at hv
 obtain ⟨rfl, _, rfl⟩ := hv
 have hl0 : ((2 : Nat) : Int) <= (l : Int) := by omega
 have hi0 : (0 : Int) < (l : Int) := by omega
 have hi1 : (1 : Int) < (l : Int) := by omega
 have hfl := (zd rec y l).2
 have hcm := (zd rec y l).1
 have s1 : smN rec y 1 = (rec (y 0)).length + 1 := by simp [smN]
 have s2 : smN rec y 2 = (rec (y 0)).length + 1 + ((rec (y 1)).length + 1) := by simp [smN]
 have s3 : smN rec y 3 = (rec (y 0)).length + 1 + ((rec (y 1)).length + 1) + ((rec (y 2)).length + 1) := by simp [smN]
 have hsu : smN rec y 2 <= smN rec y l := (by have := zak rec y 2 (l - 2); rw [show 2 + (l - 2) = l by omega] at this; exact this)
 have HP : Hid (Pnt pb nv w v xs) := hp
 have HB : Hid (Below pb w0 w) := hb
 have HR0 : Hid (∀ (V : World) (v : Value) (zs : List ByteArray), Pnt pb nv V v zs -> Below pb w0 V -> zs.length + 40 * ((rec (y 0)).length + 1) <= 1000000 -> Calls Tryd.prog 87 #[.pointer (some ⟨pb, 0, none⟩), .int .i64 (y 0)] V (zb pb nv zs (rec (y 0)) V v)) := hr 0 (by omega)
 have HR1 : Hid (∀ (V : World) (v : Value) (zs : List ByteArray), Pnt pb nv V v zs -> Below pb w0 V -> zs.length + 40 * ((rec (y 1)).length + 1) <= 1000000 -> Calls Tryd.prog 87 #[.pointer (some ⟨pb, 0, none⟩), .int .i64 (y 1)] V (zb pb nv zs (rec (y 1)) V v)) := hr 1 (by omega)
 have G0 : Hid (Pg pb w v w v) := Pg.refl _ _ _
 clear hk hp hb hr
 go_enter Tryd.func131, Tryd.ntmps131
 have BL0 : Hid (Below pb w0 w) := HB.out.trans (G0.out.low HP.out)
 have y0_0 : w.cell? ⟨bk, ok + 0, none⟩ = some (.int .i64 (y 0)) := (by rw [BL0.out.cell (p := ⟨bk, ok + 0, none⟩) (Nat.lt_of_lt_of_le tk1 hT)]; exact hkk 0 (by omega))
 rw [Nat.add_zero] at y0_0
 go_wp2_with fail
 clear y0_0
 refine (HR0.out w v _ HP.out BL0.out (by (try simp [List.length_append] at hs); (try simp [List.length_append]); omega)).mono ?_
 rintro e w1 ⟨rfl, v1, p1, g1⟩
 have P1 : Hid (Pnt pb nv w1 v1 _) := p1
 have G1 : Hid (Pg pb w v w1 v1) := G0.out.trans g1
 clear p1 g1
 have BL1 : Hid (Below pb w0 w1) := HB.out.trans (G1.out.low HP.out)
 go_wp2_with fail
 refine (ze pb nv v1 _ [⟨#[91]⟩] _ _ w1 _ (by first | rfl | simp) rfl rfl P1.out (by (try simp [List.length_append] at hs); (try simp [List.length_append]); omega)).mono ?_
 rintro e w2 ⟨rfl, v2, p2, g2⟩
 have P2 : Hid (Pnt pb nv w2 v2 _) := p2
 have G2 : Hid (Pg pb w v w2 v2) := G1.out.trans g2
 clear p2 g2
 have BL2 : Hid (Below pb w0 w2) := HB.out.trans (G2.out.low HP.out)
 have y2_1 : w2.cell? ⟨bk, ok + 1, none⟩ = some (.int .i64 (y 1)) := (by rw [BL2.out.cell (p := ⟨bk, ok + 1, none⟩) (Nat.lt_of_lt_of_le tk1 hT)]; exact hkk 1 (by omega))
 go_wp2_with fail
 clear y2_1
 refine (HR1.out w2 v2 _ P2.out BL2.out (by (try simp [List.length_append] at hs); (try simp [List.length_append]); omega)).mono ?_
 rintro e w3 ⟨rfl, v3, p3, g3⟩
 have P3 : Hid (Pnt pb nv w3 v3 _) := p3
 have G3 : Hid (Pg pb w v w3 v3) := G2.out.trans g3
 clear p3 g3
 have BL3 : Hid (Below pb w0 w3) := HB.out.trans (G3.out.low HP.out)
 go_wp2_with fail
 refine (ze pb nv v3 _ [⟨#[93]⟩] _ _ w3 _ (by first | rfl | simp) rfl rfl P3.out (by (try simp [List.length_append] at hs); (try simp [List.length_append]); omega)).mono ?_
 rintro e w4 ⟨rfl, v4, p4, g4⟩
 have P4 : Hid (Pnt pb nv w4 v4 _) := p4
 have G4 : Hid (Pg pb w v w4 v4) := G3.out.trans g4
 clear p4 g4
 go_wp2
 go_end0
 refine ⟨rfl, v4, ?_, G4.out⟩
 have h9 := P4.out
 simpa [List.append_assoc] using h9
set_option maxHeartbeats 1000000 in
theorem za7 (pb : Nat) (nv v : Value) (xs : List ByteArray) (ak : Option Addr) (l ck : Nat) (y : Nat -> Int) (ot : ByteArray) (rec : Int -> List ByteArray) (T : Nat) (w0 w : World) (hk : SlF T w0 (.slice ak l ck) l l (fun i => .int .i64 (y i))) (hT : T <= pb) (hl : l <= 1048576) (hs : xs.length + 40 * ((rec (y 0) ++ [ot] ++ rec (y 1) : List ByteArray).length + 1) <= 1000000) (hn : 2 <= l)
 (hp : Pnt pb nv w v xs) (hb : Below pb w0 w) (hr : ∀ m, m < l -> Pr pb nv w0 rec (y m)) :
 Calls Tryd.prog 163 #[.pointer (some ⟨pb, 0, none⟩), .slice ak l ck, .string ot] w (zb pb nv xs (rec (y 0) ++ [ot] ++ rec (y 1)) w v) := by
 have hl' : (l : Int) <= 1048576 := by omega
 obtain ⟨bk, ok, ck2, hv, tk1, lk, hkk⟩ := hk.parts (k := 0) (by omega)
 simp only [Value.slice.injEq] at hv
 obtain ⟨rfl, _, rfl⟩ := hv
 have hl0 : ((2 : Nat) : Int) <= (l : Int) := by omega
 have hi0 : (0 : Int) < (l : Int) := by omega
 have hi1 : (1 : Int) < (l : Int) := by omega
 have hfl := (zd rec y l).2
 have hcm := (zd rec y l).1
 have s1 : smN rec y 1 = (rec (y 0)).length + 1 := by simp [smN]
 have s2 : smN rec y 2 = (rec (y 0)).length + 1 + ((rec (y 1)).length + 1) := by simp [smN]
 have s3 : smN rec y 3 = (rec (y 0)).length + 1 + ((rec (y 1)).length + 1) + ((rec (y 2)).length + 1) := by simp [smN]
 have hsu : smN rec y 2 <= smN rec y l := (by have := zak rec y 2 (l - 2); rw [show 2 + (l - 2) = l by omega] at this; exact this)
 have HP : Hid (Pnt pb nv w v xs) := hp
 have HB : Hid (Below pb w0 w) := hb
 have HR0 : Hid (∀ (V : World) (v : Value) (zs : List ByteArray), Pnt pb nv V v zs -> Below pb w0 V -> zs.length + 40 * ((rec (y 0)).length + 1) <= 1000000 -> Calls Tryd.prog 87 #[.pointer (some ⟨pb, 0, none⟩), .int .i64 (y 0)] V (zb pb nv zs (rec (y 0)) V v)) := hr 0 (by omega)
 have HR1 : Hid (∀ (V : World) (v : Value) (zs : List ByteArray), Pnt pb nv V v zs -> Below pb w0 V -> zs.length + 40 * ((rec (y 1)).length + 1) <= 1000000 -> Calls Tryd.prog 87 #[.pointer (some ⟨pb, 0, none⟩), .int .i64 (y 1)] V (zb pb nv zs (rec (y 1)) V v)) := hr 1 (by omega)
 have G0 : Hid (Pg pb w v w v) := Pg.refl _ _ _
 clear hk hp hb hr
 go_enter Tryd.func163, Tryd.ntmps163
 have BL0 : Hid (Below pb w0 w) := HB.out.trans (G0.out.low HP.out)
 have y0_0 : w.cell? ⟨bk, ok + 0, none⟩ = some (.int .i64 (y 0)) := (by rw [BL0.out.cell (p := ⟨bk, ok + 0, none⟩) (Nat.lt_of_lt_of_le tk1 hT)]; exact hkk 0 (by omega))
 rw [Nat.add_zero] at y0_0
 go_wp2_with fail
 clear y0_0
 refine (HR0.out w v _ HP.out BL0.out (by (try simp [List.length_append] at hs); (try simp [List.length_append]); omega)).mono ?_
 rintro e w1 ⟨rfl, v1, p1, g1⟩
 have P1 : Hid (Pnt pb nv w1 v1 _) := p1
 have G1 : Hid (Pg pb w v w1 v1) := G0.out.trans g1
 clear p1 g1
 have BL1 : Hid (Below pb w0 w1) := HB.out.trans (G1.out.low HP.out)
 go_wp2_with fail
 refine (ze pb nv v1 _ [ot] _ _ w1 _ (by first | rfl | simp) rfl rfl P1.out (by (try simp [List.length_append] at hs); (try simp [List.length_append]); omega)).mono ?_
 rintro e w2 ⟨rfl, v2, p2, g2⟩
 have P2 : Hid (Pnt pb nv w2 v2 _) := p2
 have G2 : Hid (Pg pb w v w2 v2) := G1.out.trans g2
 clear p2 g2
 have BL2 : Hid (Below pb w0 w2) := HB.out.trans (G2.out.low HP.out)
 have y2_1 : w2.cell? ⟨bk, ok + 1, none⟩ = some (.int .i64 (y 1)) := (by rw [BL2.out.cell (p := ⟨bk, ok + 1, none⟩) (Nat.lt_of_lt_of_le tk1 hT)]; exact hkk 1 (by omega))
 go_wp2_with fail
 clear y2_1
 refine (HR1.out w2 v2 _ P2.out BL2.out (by (try simp [List.length_append] at hs); (try simp [List.length_append]); omega)).mono ?_
 rintro e w3 ⟨rfl, v3, p3, g3⟩
 have P3 : Hid (Pnt pb nv w3 v3 _) := p3
 have G3 : Hid (Pg pb w v w3 v3) := G2.out.trans g3
 clear p3 g3
 go_wp2
 go_end0
 refine ⟨rfl, v3, ?_, G3.out⟩
 have h9 := P3.out
 simpa [List.append_assoc] using h9
set_option maxHeartbeats 1000000 in
theorem zda (pb : Nat) (nv v : Value) (xs : List ByteArray) (t : ByteArray) (ii : Int) (ak : Option Addr) (l ck : Nat) (y : Nat -> Int) (rec : Int -> List ByteArray) (T : Nat) (w0 w : World) (hk : SlF T w0 (.slice ak l ck) l l (fun i => .int .i64 (y i))) (hT : T <= pb) (hl : l <= 1048576) (hs : xs.length + 40 * (([⟨#[108, 111, 99, 97, 108]⟩, t, ⟨#[61]⟩] ++ rec (y 0) ++ [⟨#[59]⟩] : List ByteArray).length + 1) <= 1000000) (hn : 1 <= l)
 (hp : Pnt pb nv w v xs) (hb : Below pb w0 w) (hr : ∀ m, m < l -> Pr pb nv w0 rec (y m)) :
 Calls Tryd.prog 135 #[.pointer (some ⟨pb, 0, none⟩), .agg #[.int .i64 14, .string t, .int .i64 ii, .slice ak l ck]] w (zb pb nv xs ([⟨#[108, 111, 99, 97, 108]⟩, t, ⟨#[61]⟩] ++ rec (y 0) ++ [⟨#[59]⟩]) w v) := by
 have hl' : (l : Int) <= 1048576 := by omega
 obtain ⟨bk, ok, ck2, hv, tk1, lk, hkk⟩ := hk.parts (k := 0) (by omega)
 simp only [Value.slice.injEq] at hv
 obtain ⟨rfl, _, rfl⟩ := hv
 have hl0 : ((1 : Nat) : Int) <= (l : Int) := by omega
 have hi0 : (0 : Int) < (l : Int) := by omega
 have hsu : smN rec y 1 <= smN rec y l := (by have := zak rec y 1 (l - 1); rw [show 1 + (l - 1) = l by omega] at this; exact this)
 have hfl := (zd rec y l).2
 have hcm := (zd rec y l).1
 have s1 : smN rec y 1 = (rec (y 0)).length + 1 := by simp [smN]
 have s2 : smN rec y 2 = (rec (y 0)).length + 1 + ((rec (y 1)).length + 1) := by simp [smN]
 have s3 : smN rec y 3 = (rec (y 0)).length + 1 + ((rec (y 1)).length + 1) + ((rec (y 2)).length + 1) := by simp [smN]
 have lw := hp.lt
 have lkw : pb < w.heap.size := lw
 have lkb : bk < w.heap.size := by omega
 have B1 : Below w.heap.size w (w.alloc (.cells #[.int .i64 14, .string t, .int .i64 ii, .slice (some ⟨bk, ok, none⟩) l ck] 71)) := (Below.refl _ _).alloc (Nat.le_refl _) _
 have KC : ∀ z, (w.alloc (.cells #[.int .i64 14, .string t, .int .i64 ii, .slice (some ⟨bk, ok, none⟩) l ck] 71)).cell? ⟨w.heap.size, z, none⟩ = (#[.int .i64 14, .string t, .int .i64 ii, .slice (some ⟨bk, ok, none⟩) l ck] : Array Value)[z]? := fun z => by simp [go_sem]
 have hrb : v.ownBlock ≠ some w.heap.size := fun e => by have := (World.ownsRow.lt hp.own _ e).2; omega
 have HP : Hid (Pnt pb nv (w.alloc (.cells #[.int .i64 14, .string t, .int .i64 ii, .slice (some ⟨bk, ok, none⟩) l ck] 71)) v xs) := hp.below B1
 have HB : Hid (Below pb w0 (w.alloc (.cells #[.int .i64 14, .string t, .int .i64 ii, .slice (some ⟨bk, ok, none⟩) l ck] 71))) := hb.trans (B1.mono (by omega))
 have HR0 : Hid (Pr pb nv w0 rec (y 0)) := hr 0 (by omega)
 have HRA : Hid (∀ m, m < l -> Pr pb nv w0 rec (y m)) := hr
 have HKA : Hid (SlF T w0 (.slice (some ⟨bk, ok, none⟩) l ck) l l (fun i => .int .i64 (y i))) := hk
 have G0 : Hid (Pg pb (w.alloc (.cells #[.int .i64 14, .string t, .int .i64 ii, .slice (some ⟨bk, ok, none⟩) l ck] 71)) v (w.alloc (.cells #[.int .i64 14, .string t, .int .i64 ii, .slice (some ⟨bk, ok, none⟩) l ck] 71)) v) := Pg.refl _ _ _
 clear hk hp hr
 go_enter Tryd.func135, Tryd.ntmps135
 have BL0 : Hid (Below pb w0 (w.alloc (.cells #[.int .i64 14, .string t, .int .i64 ii, .slice (some ⟨bk, ok, none⟩) l ck] 71))) := HB
 go_wp2_with fail
 refine (ze pb nv v _ [⟨#[108, 111, 99, 97, 108]⟩, t, ⟨#[61]⟩] _ _ (w.alloc (.cells #[.int .i64 14, .string t, .int .i64 ii, .slice (some ⟨bk, ok, none⟩) l ck] 71)) _ (by first | rfl | simp) rfl rfl HP.out (by (try simp [List.length_append] at hs); (try simp [List.length_append]); omega)).mono ?_
 rintro e w1 ⟨rfl, v1, p1, g1⟩
 have P1 : Hid (Pnt pb nv w1 v1 _) := p1
 have G1 : Hid (Pg pb (w.alloc (.cells #[.int .i64 14, .string t, .int .i64 ii, .slice (some ⟨bk, ok, none⟩) l ck] 71)) v w1 v1) := G0.out.trans g1
 clear p1 g1
 have BL1 : Hid (Below pb w0 w1) := HB.out.trans (G1.out.low HP.out)
 have K1 := G1.out.cells (by simp) (by have := HP.out.lt; omega) hrb KC
 have k1_0 := K1 0
 have k1_1 := K1 1
 have k1_2 := K1 2
 have k1_3 := K1 3
 simp at k1_0 k1_1 k1_2 k1_3
 clear K1
 have y1_0 : w1.cell? ⟨bk, ok + 0, none⟩ = some (.int .i64 (y 0)) := (by rw [BL1.out.cell (p := ⟨bk, ok + 0, none⟩) (Nat.lt_of_lt_of_le tk1 hT)]; exact hkk 0 (by omega))
 rw [Nat.add_zero] at y1_0
 go_wp2_with fail
 clear k1_0 k1_1 k1_2 k1_3
 clear y1_0
 refine (za2 pb nv v1 _ (y 0) rec w0 w1 P1.out BL1.out HR0.out (by (try simp [List.length_append] at hs); (try simp [List.length_append]); omega)).mono ?_
 rintro e w2 ⟨rfl, v2, p2, g2⟩
 have P2 : Hid (Pnt pb nv w2 v2 _) := p2
 have G2 : Hid (Pg pb (w.alloc (.cells #[.int .i64 14, .string t, .int .i64 ii, .slice (some ⟨bk, ok, none⟩) l ck] 71)) v w2 v2) := G1.out.trans g2
 clear p2 g2
 go_wp2
 go_end0
 refine ⟨rfl, v2, ?_, (Pg.of_below B1).trans G2.out⟩
 have h9 := P2.out
 simpa [List.append_assoc] using h9
set_option maxHeartbeats 1000000 in
theorem zdb (pb : Nat) (nv v : Value) (xs : List ByteArray) (t : ByteArray) (ii : Int) (ak : Option Addr) (l ck : Nat) (y : Nat -> Int) (rec : Int -> List ByteArray) (T : Nat) (w0 w : World) (hk : SlF T w0 (.slice ak l ck) l l (fun i => .int .i64 (y i))) (hT : T <= pb) (hl : l <= 1048576) (hs : xs.length + 40 * (([t, ⟨#[61]⟩] ++ rec (y 0) ++ [⟨#[59]⟩] : List ByteArray).length + 1) <= 1000000) (hn : 1 <= l)
 (hp : Pnt pb nv w v xs) (hb : Below pb w0 w) (hr : ∀ m, m < l -> Pr pb nv w0 rec (y m)) :
 Calls Tryd.prog 135 #[.pointer (some ⟨pb, 0, none⟩), .agg #[.int .i64 15, .string t, .int .i64 ii, .slice ak l ck]] w (zb pb nv xs ([t, ⟨#[61]⟩] ++ rec (y 0) ++ [⟨#[59]⟩]) w v) := by
 have hl' : (l : Int) <= 1048576 := by omega
 obtain ⟨bk, ok, ck2, hv, tk1, lk, hkk⟩ := hk.parts (k := 0) (by omega)
 simp only [Value.slice.injEq] at hv
 obtain ⟨rfl, _, rfl⟩ := hv
 have hl0 : ((1 : Nat) : Int) <= (l : Int) := by omega
 have hi0 : (0 : Int) < (l : Int) := by omega
 have hsu : smN rec y 1 <= smN rec y l := (by have := zak rec y 1 (l - 1); rw [show 1 + (l - 1) = l by omega] at this; exact this)
 have hfl := (zd rec y l).2
 have hcm := (zd rec y l).1
 have s1 : smN rec y 1 = (rec (y 0)).length + 1 := by simp [smN]
 have s2 : smN rec y 2 = (rec (y 0)).length + 1 + ((rec (y 1)).length + 1) := by simp [smN]
 have s3 : smN rec y 3 = (rec (y 0)).length + 1 + ((rec (y 1)).length + 1) + ((rec (y 2)).length + 1) := by simp [smN]
 have lw := hp.lt
 have lkw : pb < w.heap.size := lw
 have lkb : bk < w.heap.size := by omega
 have B1 : Below w.heap.size w (w.alloc (.cells #[.int .i64 15, .string t, .int .i64 ii, .slice (some ⟨bk, ok, none⟩) l ck] 71)) := (Below.refl _ _).alloc (Nat.le_refl _) _
 have KC : ∀ z, (w.alloc (.cells #[.int .i64 15, .string t, .int .i64 ii, .slice (some ⟨bk, ok, none⟩) l ck] 71)).cell? ⟨w.heap.size, z, none⟩ = (#[.int .i64 15, .string t, .int .i64 ii, .slice (some ⟨bk, ok, none⟩) l ck] : Array Value)[z]? := fun z => by simp [go_sem]
 have hrb : v.ownBlock ≠ some w.heap.size := fun e => by have := (World.ownsRow.lt hp.own _ e).2; omega
 have HP : Hid (Pnt pb nv (w.alloc (.cells #[.int .i64 15, .string t, .int .i64 ii, .slice (some ⟨bk, ok, none⟩) l ck] 71)) v xs) := hp.below B1
 have HB : Hid (Below pb w0 (w.alloc (.cells #[.int .i64 15, .string t, .int .i64 ii, .slice (some ⟨bk, ok, none⟩) l ck] 71))) := hb.trans (B1.mono (by omega))
 have HR0 : Hid (Pr pb nv w0 rec (y 0)) := hr 0 (by omega)
 have HRA : Hid (∀ m, m < l -> Pr pb nv w0 rec (y m)) := hr
 have HKA : Hid (SlF T w0 (.slice (some ⟨bk, ok, none⟩) l ck) l l (fun i => .int .i64 (y i))) := hk
 have G0 : Hid (Pg pb (w.alloc (.cells #[.int .i64 15, .string t, .int .i64 ii, .slice (some ⟨bk, ok, none⟩) l ck] 71)) v (w.alloc (.cells #[.int .i64 15, .string t, .int .i64 ii, .slice (some ⟨bk, ok, none⟩) l ck] 71)) v) := Pg.refl _ _ _
 clear hk hp hr
 go_enter Tryd.func135, Tryd.ntmps135
 have BL0 : Hid (Below pb w0 (w.alloc (.cells #[.int .i64 15, .string t, .int .i64 ii, .slice (some ⟨bk, ok, none⟩) l ck] 71))) := HB
 go_wp2_with fail
 refine (ze pb nv v _ [t, ⟨#[61]⟩] _ _ (w.alloc (.cells #[.int .i64 15, .string t, .int .i64 ii, .slice (some ⟨bk, ok, none⟩) l ck] 71)) _ (by first | rfl | simp) rfl rfl HP.out (by (try simp [List.length_append] at hs); (try simp [List.length_append]); omega)).mono ?_
 rintro e w1 ⟨rfl, v1, p1, g1⟩
 have P1 : Hid (Pnt pb nv w1 v1 _) := p1
 have G1 : Hid (Pg pb (w.alloc (.cells #[.int .i64 15, .string t, .int .i64 ii, .slice (some ⟨bk, ok, none⟩) l ck] 71)) v w1 v1) := G0.out.trans g1
 clear p1 g1
 have BL1 : Hid (Below pb w0 w1) := HB.out.trans (G1.out.low HP.out)
 have K1 := G1.out.cells (by simp) (by have := HP.out.lt; omega) hrb KC
 have k1_0 := K1 0
 have k1_1 := K1 1
 have k1_2 := K1 2
 have k1_3 := K1 3
 simp at k1_0 k1_1 k1_2 k1_3
 clear K1
 have y1_0 : w1.cell? ⟨bk, ok + 0, none⟩ = some (.int .i64 (y 0)) := (by rw [BL1.out.cell (p := ⟨bk, ok + 0, none⟩) (Nat.lt_of_lt_of_le tk1 hT)]; exact hkk 0 (by omega))
 rw [Nat.add_zero] at y1_0
 go_wp2_with fail
 clear k1_0 k1_1 k1_2 k1_3
 clear y1_0
 refine (za2 pb nv v1 _ (y 0) rec w0 w1 P1.out BL1.out HR0.out (by (try simp [List.length_append] at hs); (try simp [List.length_append]); omega)).mono ?_
 rintro e w2 ⟨rfl, v2, p2, g2⟩
 have P2 : Hid (Pnt pb nv w2 v2 _) := p2
 have G2 : Hid (Pg pb (w.alloc (.cells #[.int .i64 15, .string t, .int .i64 ii, .slice (some ⟨bk, ok, none⟩) l ck] 71)) v w2 v2) := G1.out.trans g2
 clear p2 g2
 go_wp2
 go_end0
 refine ⟨rfl, v2, ?_, (Pg.of_below B1).trans G2.out⟩
 have h9 := P2.out
 simpa [List.append_assoc] using h9
set_option maxHeartbeats 1000000 in
theorem zdc (pb : Nat) (nv v : Value) (xs : List ByteArray) (t : ByteArray) (ii : Int) (ak : Option Addr) (l ck : Nat) (y : Nat -> Int) (rec : Int -> List ByteArray) (T : Nat) (w0 w : World) (hk : SlF T w0 (.slice ak l ck) l l (fun i => .int .i64 (y i))) (hT : T <= pb) (hl : l <= 1048576) (hs : xs.length + 40 * (([⟨#[114, 101, 116, 117, 114, 110]⟩] ++ rec (y 0) ++ [⟨#[59]⟩] : List ByteArray).length + 1) <= 1000000) (hn : 1 <= l)
 (hp : Pnt pb nv w v xs) (hb : Below pb w0 w) (hr : ∀ m, m < l -> Pr pb nv w0 rec (y m)) :
 Calls Tryd.prog 135 #[.pointer (some ⟨pb, 0, none⟩), .agg #[.int .i64 19, .string t, .int .i64 ii, .slice ak l ck]] w (zb pb nv xs ([⟨#[114, 101, 116, 117, 114, 110]⟩] ++ rec (y 0) ++ [⟨#[59]⟩]) w v) := by
 have hl' : (l : Int) <= 1048576 := by omega
 obtain ⟨bk, ok, ck2, hv, tk1, lk, hkk⟩ := hk.parts (k := 0) (by omega)
 simp only [Value.slice.injEq] at hv
 obtain ⟨rfl, _, rfl⟩ := hv
 have hl0 : ((1 : Nat) : Int) <= (l : Int) := by omega
 have hi0 : (0 : Int) < (l : Int) := by omega
 have hsu : smN rec y 1 <= smN rec y l := (by have := zak rec y 1 (l - 1); rw [show 1 + (l - 1) = l by omega] at this; exact this)
 have hfl := (zd rec y l).2
 have hcm := (zd rec y l).1
 have s1 : smN rec y 1 = (rec (y 0)).length + 1 := by simp [smN]
 have s2 : smN rec y 2 = (rec (y 0)).length + 1 + ((rec (y 1)).length + 1) := by simp [smN]
 have s3 : smN rec y 3 = (rec (y 0)).length + 1 + ((rec (y 1)).length + 1) + ((rec (y 2)).length + 1) := by simp [smN]
 have lw := hp.lt
 have lkw : pb < w.heap.size := lw
 have lkb : bk < w.heap.size := by omega
 have B1 : Below w.heap.size w (w.alloc (.cells #[.int .i64 19, .string t, .int .i64 ii, .slice (some ⟨bk, ok, none⟩) l ck] 71)) := (Below.refl _ _).alloc (Nat.le_refl _) _
 have KC : ∀ z, (w.alloc (.cells #[.int .i64 19, .string t, .int .i64 ii, .slice (some ⟨bk, ok, none⟩) l ck] 71)).cell? ⟨w.heap.size, z, none⟩ = (#[.int .i64 19, .string t, .int .i64 ii, .slice (some ⟨bk, ok, none⟩) l ck] : Array Value)[z]? := fun z => by simp [go_sem]
 have hrb : v.ownBlock ≠ some w.heap.size := fun e => by have := (World.ownsRow.lt hp.own _ e).2; omega
 have HP : Hid (Pnt pb nv (w.alloc (.cells #[.int .i64 19, .string t, .int .i64 ii, .slice (some ⟨bk, ok, none⟩) l ck] 71)) v xs) := hp.below B1
 have HB : Hid (Below pb w0 (w.alloc (.cells #[.int .i64 19, .string t, .int .i64 ii, .slice (some ⟨bk, ok, none⟩) l ck] 71))) := hb.trans (B1.mono (by omega))
 have HR0 : Hid (Pr pb nv w0 rec (y 0)) := hr 0 (by omega)
 have HRA : Hid (∀ m, m < l -> Pr pb nv w0 rec (y m)) := hr
 have HKA : Hid (SlF T w0 (.slice (some ⟨bk, ok, none⟩) l ck) l l (fun i => .int .i64 (y i))) := hk
 have G0 : Hid (Pg pb (w.alloc (.cells #[.int .i64 19, .string t, .int .i64 ii, .slice (some ⟨bk, ok, none⟩) l ck] 71)) v (w.alloc (.cells #[.int .i64 19, .string t, .int .i64 ii, .slice (some ⟨bk, ok, none⟩) l ck] 71)) v) := Pg.refl _ _ _
 clear hk hp hr
 go_enter Tryd.func135, Tryd.ntmps135
 have BL0 : Hid (Below pb w0 (w.alloc (.cells #[.int .i64 19, .string t, .int .i64 ii, .slice (some ⟨bk, ok, none⟩) l ck] 71))) := HB
 go_wp2_with fail
 refine (ze pb nv v _ [⟨#[114, 101, 116, 117, 114, 110]⟩] _ _ (w.alloc (.cells #[.int .i64 19, .string t, .int .i64 ii, .slice (some ⟨bk, ok, none⟩) l ck] 71)) _ (by first | rfl | simp) rfl rfl HP.out (by (try simp [List.length_append] at hs); (try simp [List.length_append]); omega)).mono ?_
 rintro e w1 ⟨rfl, v1, p1, g1⟩
 have P1 : Hid (Pnt pb nv w1 v1 _) := p1
 have G1 : Hid (Pg pb (w.alloc (.cells #[.int .i64 19, .string t, .int .i64 ii, .slice (some ⟨bk, ok, none⟩) l ck] 71)) v w1 v1) := G0.out.trans g1
 clear p1 g1
 have BL1 : Hid (Below pb w0 w1) := HB.out.trans (G1.out.low HP.out)
 have K1 := G1.out.cells (by simp) (by have := HP.out.lt; omega) hrb KC
 have k1_0 := K1 0
 have k1_1 := K1 1
 have k1_2 := K1 2
 have k1_3 := K1 3
 simp at k1_0 k1_1 k1_2 k1_3
 clear K1
 have y1_0 : w1.cell? ⟨bk, ok + 0, none⟩ = some (.int .i64 (y 0)) := (by rw [BL1.out.cell (p := ⟨bk, ok + 0, none⟩) (Nat.lt_of_lt_of_le tk1 hT)]; exact hkk 0 (by omega))
 rw [Nat.add_zero] at y1_0
 go_wp2_with fail
 clear k1_0 k1_1 k1_2 k1_3
 clear y1_0
 refine (za2 pb nv v1 _ (y 0) rec w0 w1 P1.out BL1.out HR0.out (by (try simp [List.length_append] at hs); (try simp [List.length_append]); omega)).mono ?_
 rintro e w2 ⟨rfl, v2, p2, g2⟩
 have P2 : Hid (Pnt pb nv w2 v2 _) := p2
 have G2 : Hid (Pg pb (w.alloc (.cells #[.int .i64 19, .string t, .int .i64 ii, .slice (some ⟨bk, ok, none⟩) l ck] 71)) v w2 v2) := G1.out.trans g2
 clear p2 g2
 go_wp2
 go_end0
 refine ⟨rfl, v2, ?_, (Pg.of_below B1).trans G2.out⟩
 have h9 := P2.out
 simpa [List.append_assoc] using h9
set_option maxHeartbeats 1000000 in
theorem zdd (pb : Nat) (nv v : Value) (xs : List ByteArray) (t : ByteArray) (ii : Int) (ak : Option Addr) (l ck : Nat) (y : Nat -> Int) (rec : Int -> List ByteArray) (T : Nat) (w0 w : World) (hk : SlF T w0 (.slice ak l ck) l l (fun i => .int .i64 (y i))) (hT : T <= pb) (hl : l <= 1048576) (hs : xs.length + 40 * ((rec (y 0) ++ [⟨#[59]⟩] : List ByteArray).length + 1) <= 1000000) (hn : 1 <= l)
 (hp : Pnt pb nv w v xs) (hb : Below pb w0 w) (hr : ∀ m, m < l -> Pr pb nv w0 rec (y m)) :
 Calls Tryd.prog 135 #[.pointer (some ⟨pb, 0, none⟩), .agg #[.int .i64 20, .string t, .int .i64 ii, .slice ak l ck]] w (zb pb nv xs (rec (y 0) ++ [⟨#[59]⟩]) w v) := by
 have hl' : (l : Int) <= 1048576 := by omega
 obtain ⟨bk, ok, ck2, hv, tk1, lk, hkk⟩ := hk.parts (k := 0) (by omega)
 simp only [Value.slice.injEq] at hv
 obtain ⟨rfl, _, rfl⟩ := hv
 have hl0 : ((1 : Nat) : Int) <= (l : Int) := by omega
 have hi0 : (0 : Int) < (l : Int) := by omega
 have hsu : smN rec y 1 <= smN rec y l := (by have := zak rec y 1 (l - 1); rw [show 1 + (l - 1) = l by omega] at this; exact this)
 have hfl := (zd rec y l).2
 have hcm := (zd rec y l).1
 have s1 : smN rec y 1 = (rec (y 0)).length + 1 := by simp [smN]
 have s2 : smN rec y 2 = (rec (y 0)).length + 1 + ((rec (y 1)).length + 1) := by simp [smN]
 have s3 : smN rec y 3 = (rec (y 0)).length + 1 + ((rec (y 1)).length + 1) + ((rec (y 2)).length + 1) := by simp [smN]
 have lw := hp.lt
 have lkw : pb < w.heap.size := lw
 have lkb : bk < w.heap.size := by omega
 have B1 : Below w.heap.size w (w.alloc (.cells #[.int .i64 20, .string t, .int .i64 ii, .slice (some ⟨bk, ok, none⟩) l ck] 71)) := (Below.refl _ _).alloc (Nat.le_refl _) _
 have KC : ∀ z, (w.alloc (.cells #[.int .i64 20, .string t, .int .i64 ii, .slice (some ⟨bk, ok, none⟩) l ck] 71)).cell? ⟨w.heap.size, z, none⟩ = (#[.int .i64 20, .string t, .int .i64 ii, .slice (some ⟨bk, ok, none⟩) l ck] : Array Value)[z]? := fun z => by simp [go_sem]
 have hrb : v.ownBlock ≠ some w.heap.size := fun e => by have := (World.ownsRow.lt hp.own _ e).2; omega
 have HP : Hid (Pnt pb nv (w.alloc (.cells #[.int .i64 20, .string t, .int .i64 ii, .slice (some ⟨bk, ok, none⟩) l ck] 71)) v xs) := hp.below B1
 have HB : Hid (Below pb w0 (w.alloc (.cells #[.int .i64 20, .string t, .int .i64 ii, .slice (some ⟨bk, ok, none⟩) l ck] 71))) := hb.trans (B1.mono (by omega))
 have HR0 : Hid (Pr pb nv w0 rec (y 0)) := hr 0 (by omega)
 have HRA : Hid (∀ m, m < l -> Pr pb nv w0 rec (y m)) := hr
 have HKA : Hid (SlF T w0 (.slice (some ⟨bk, ok, none⟩) l ck) l l (fun i => .int .i64 (y i))) := hk
 have G0 : Hid (Pg pb (w.alloc (.cells #[.int .i64 20, .string t, .int .i64 ii, .slice (some ⟨bk, ok, none⟩) l ck] 71)) v (w.alloc (.cells #[.int .i64 20, .string t, .int .i64 ii, .slice (some ⟨bk, ok, none⟩) l ck] 71)) v) := Pg.refl _ _ _
 clear hk hp hr
 go_enter Tryd.func135, Tryd.ntmps135
 have BL0 : Hid (Below pb w0 (w.alloc (.cells #[.int .i64 20, .string t, .int .i64 ii, .slice (some ⟨bk, ok, none⟩) l ck] 71))) := HB
 have y0_0 : w.cell? ⟨bk, ok + 0, none⟩ = some (.int .i64 (y 0)) := (by rw [hb.cell (p := ⟨bk, ok + 0, none⟩) (Nat.lt_of_lt_of_le tk1 hT)]; exact hkk 0 (by omega))
 rw [Nat.add_zero] at y0_0
 go_wp2_with fail
 clear y0_0
 refine (za2 pb nv v _ (y 0) rec w0 (w.alloc (.cells #[.int .i64 20, .string t, .int .i64 ii, .slice (some ⟨bk, ok, none⟩) l ck] 71)) HP.out BL0.out HR0.out (by (try simp [List.length_append] at hs); (try simp [List.length_append]); omega)).mono ?_
 rintro e w1 ⟨rfl, v1, p1, g1⟩
 have P1 : Hid (Pnt pb nv w1 v1 _) := p1
 have G1 : Hid (Pg pb (w.alloc (.cells #[.int .i64 20, .string t, .int .i64 ii, .slice (some ⟨bk, ok, none⟩) l ck] 71)) v w1 v1) := G0.out.trans g1
 clear p1 g1
 go_wp2
 go_end0
 refine ⟨rfl, v1, ?_, (Pg.of_below B1).trans G1.out⟩
 have h9 := P1.out
 simpa [List.append_assoc] using h9
set_option maxHeartbeats 1000000 in
theorem zde (pb : Nat) (nv v : Value) (xs : List ByteArray) (t : ByteArray) (ii : Int) (ak : Option Addr) (l ck : Nat) (y : Nat -> Int) (rec : Int -> List ByteArray) (T : Nat) (w0 w : World) (hk : SlF T w0 (.slice ak l ck) l l (fun i => .int .i64 (y i))) (hT : T <= pb) (hl : l <= 1048576) (hs : xs.length + 40 * ((rec (y 0) ++ [⟨#[91]⟩] ++ rec (y 1) ++ [⟨#[93]⟩, ⟨#[61]⟩] ++ rec (y 2) ++ [⟨#[59]⟩] : List ByteArray).length + 1) <= 1000000) (hn : 3 <= l)
 (hp : Pnt pb nv w v xs) (hb : Below pb w0 w) (hr : ∀ m, m < l -> Pr pb nv w0 rec (y m)) :
 Calls Tryd.prog 135 #[.pointer (some ⟨pb, 0, none⟩), .agg #[.int .i64 16, .string t, .int .i64 ii, .slice ak l ck]] w (zb pb nv xs (rec (y 0) ++ [⟨#[91]⟩] ++ rec (y 1) ++ [⟨#[93]⟩, ⟨#[61]⟩] ++ rec (y 2) ++ [⟨#[59]⟩]) w v) := by
 have hl' : (l : Int) <= 1048576 := by omega
 obtain ⟨bk, ok, ck2, hv, tk1, lk, hkk⟩ := hk.parts (k := 0) (by omega)
 simp only [Value.slice.injEq] at hv
 obtain ⟨rfl, _, rfl⟩ := hv
 have hl0 : ((3 : Nat) : Int) <= (l : Int) := by omega
 have hi0 : (0 : Int) < (l : Int) := by omega
 have hi1 : (1 : Int) < (l : Int) := by omega
 have hi2 : (2 : Int) < (l : Int) := by omega
 have hsu : smN rec y 3 <= smN rec y l := (by have := zak rec y 3 (l - 3); rw [show 3 + (l - 3) = l by omega] at this; exact this)
 have hfl := (zd rec y l).2
 have hcm := (zd rec y l).1
 have s1 : smN rec y 1 = (rec (y 0)).length + 1 := by simp [smN]
 have s2 : smN rec y 2 = (rec (y 0)).length + 1 + ((rec (y 1)).length + 1) := by simp [smN]
 have s3 : smN rec y 3 = (rec (y 0)).length + 1 + ((rec (y 1)).length + 1) + ((rec (y 2)).length + 1) := by simp [smN]
 have lw := hp.lt
 have lkw : pb < w.heap.size := lw
 have lkb : bk < w.heap.size := by omega
 have B1 : Below w.heap.size w (w.alloc (.cells #[.int .i64 16, .string t, .int .i64 ii, .slice (some ⟨bk, ok, none⟩) l ck] 71)) := (Below.refl _ _).alloc (Nat.le_refl _) _
 have KC : ∀ z, (w.alloc (.cells #[.int .i64 16, .string t, .int .i64 ii, .slice (some ⟨bk, ok, none⟩) l ck] 71)).cell? ⟨w.heap.size, z, none⟩ = (#[.int .i64 16, .string t, .int .i64 ii, .slice (some ⟨bk, ok, none⟩) l ck] : Array Value)[z]? := fun z => by simp [go_sem]
 have hrb : v.ownBlock ≠ some w.heap.size := fun e => by have := (World.ownsRow.lt hp.own _ e).2; omega
 have HP : Hid (Pnt pb nv (w.alloc (.cells #[.int .i64 16, .string t, .int .i64 ii, .slice (some ⟨bk, ok, none⟩) l ck] 71)) v xs) := hp.below B1
 have HB : Hid (Below pb w0 (w.alloc (.cells #[.int .i64 16, .string t, .int .i64 ii, .slice (some ⟨bk, ok, none⟩) l ck] 71))) := hb.trans (B1.mono (by omega))
 have HR0 : Hid (Pr pb nv w0 rec (y 0)) := hr 0 (by omega)
 have HR1 : Hid (Pr pb nv w0 rec (y 1)) := hr 1 (by omega)
 have HR2 : Hid (Pr pb nv w0 rec (y 2)) := hr 2 (by omega)
 have HRA : Hid (∀ m, m < l -> Pr pb nv w0 rec (y m)) := hr
 have HKA : Hid (SlF T w0 (.slice (some ⟨bk, ok, none⟩) l ck) l l (fun i => .int .i64 (y i))) := hk
 have G0 : Hid (Pg pb (w.alloc (.cells #[.int .i64 16, .string t, .int .i64 ii, .slice (some ⟨bk, ok, none⟩) l ck] 71)) v (w.alloc (.cells #[.int .i64 16, .string t, .int .i64 ii, .slice (some ⟨bk, ok, none⟩) l ck] 71)) v) := Pg.refl _ _ _
 clear hk hp hr
 go_enter Tryd.func135, Tryd.ntmps135
 have BL0 : Hid (Below pb w0 (w.alloc (.cells #[.int .i64 16, .string t, .int .i64 ii, .slice (some ⟨bk, ok, none⟩) l ck] 71))) := HB
 go_wp2_with fail
 refine (zcd pb nv v _ _ l ck y rec T w0 (w.alloc (.cells #[.int .i64 16, .string t, .int .i64 ii, .slice (some ⟨bk, ok, none⟩) l ck] 71)) HKA.out hT hl (by (try simp [List.length_append] at hs); (try simp [List.length_append]); omega) (by omega) HP.out BL0.out HRA.out).mono ?_
 rintro e w1 ⟨rfl, v1, p1, g1⟩
 have P1 : Hid (Pnt pb nv w1 v1 _) := p1
 have G1 : Hid (Pg pb (w.alloc (.cells #[.int .i64 16, .string t, .int .i64 ii, .slice (some ⟨bk, ok, none⟩) l ck] 71)) v w1 v1) := G0.out.trans g1
 clear p1 g1
 have BL1 : Hid (Below pb w0 w1) := HB.out.trans (G1.out.low HP.out)
 have K1 := G1.out.cells (by simp) (by have := HP.out.lt; omega) hrb KC
 have k1_0 := K1 0
 have k1_1 := K1 1
 have k1_2 := K1 2
 have k1_3 := K1 3
 simp at k1_0 k1_1 k1_2 k1_3
 clear K1
 go_wp2_with fail
 clear k1_0 k1_1 k1_2 k1_3
 refine (ze pb nv v1 _ [⟨#[61]⟩] _ _ w1 _ (by first | rfl | simp) rfl rfl P1.out (by (try simp [List.length_append] at hs); (try simp [List.length_append]); omega)).mono ?_
 rintro e w2 ⟨rfl, v2, p2, g2⟩
 have P2 : Hid (Pnt pb nv w2 v2 _) := p2
 have G2 : Hid (Pg pb (w.alloc (.cells #[.int .i64 16, .string t, .int .i64 ii, .slice (some ⟨bk, ok, none⟩) l ck] 71)) v w2 v2) := G1.out.trans g2
 clear p2 g2
 have BL2 : Hid (Below pb w0 w2) := HB.out.trans (G2.out.low HP.out)
 have K2 := G2.out.cells (by simp) (by have := HP.out.lt; omega) hrb KC
 have k2_0 := K2 0
 have k2_1 := K2 1
 have k2_2 := K2 2
 have k2_3 := K2 3
 simp at k2_0 k2_1 k2_2 k2_3
 clear K2
 have y2_2 : w2.cell? ⟨bk, ok + 2, none⟩ = some (.int .i64 (y 2)) := (by rw [BL2.out.cell (p := ⟨bk, ok + 2, none⟩) (Nat.lt_of_lt_of_le tk1 hT)]; exact hkk 2 (by omega))
 go_wp2_with fail
 clear k2_0 k2_1 k2_2 k2_3
 clear y2_2
 refine (za2 pb nv v2 _ (y 2) rec w0 w2 P2.out BL2.out HR2.out (by (try simp [List.length_append] at hs); (try simp [List.length_append]); omega)).mono ?_
 rintro e w3 ⟨rfl, v3, p3, g3⟩
 have P3 : Hid (Pnt pb nv w3 v3 _) := p3
 have G3 : Hid (Pg pb (w.alloc (.cells #[.int .i64 16, .string t, .int .i64 ii, .slice (some ⟨bk, ok, none⟩) l ck] 71)) v w3 v3) := G2.out.trans g3
 clear p3 g3
 go_wp2
 go_end0
 refine ⟨rfl, v3, ?_, (Pg.of_below B1).trans G3.out⟩
 have h9 := P3.out
 simpa [List.append_assoc] using h9
set_option maxHeartbeats 1000000 in
theorem zdf (pb : Nat) (nv v : Value) (xs : List ByteArray) (t : ByteArray) (ii : Int) (ak : Option Addr) (l ck : Nat) (y : Nat -> Int) (rec : Int -> List ByteArray) (T : Nat) (w0 w : World) (hk : SlF T w0 (.slice ak l ck) l l (fun i => .int .i64 (y i))) (hT : T <= pb) (hl : l <= 1048576) (hs : xs.length + 40 * (([⟨#[119, 104, 105, 108, 101]⟩] ++ flN rec y l : List ByteArray).length + 1) <= 1000000) (hn : 2 <= l)
 (hp : Pnt pb nv w v xs) (hb : Below pb w0 w) (hr : ∀ m, m < l -> Pr pb nv w0 rec (y m)) :
 Calls Tryd.prog 135 #[.pointer (some ⟨pb, 0, none⟩), .agg #[.int .i64 18, .string t, .int .i64 ii, .slice ak l ck]] w (zb pb nv xs ([⟨#[119, 104, 105, 108, 101]⟩] ++ flN rec y l) w v) := by
 have hl' : (l : Int) <= 1048576 := by omega
 obtain ⟨bk, ok, ck2, hv, tk1, lk, hkk⟩ := hk.parts (k := 0) (by omega)
 simp only [Value.slice.injEq] at hv
 obtain ⟨rfl, _, rfl⟩ := hv
 have hl0 : ((2 : Nat) : Int) <= (l : Int) := by omega
 have hi0 : (0 : Int) < (l : Int) := by omega
 have hi1 : (1 : Int) < (l : Int) := by omega
 have hsu : smN rec y 2 <= smN rec y l := (by have := zak rec y 2 (l - 2); rw [show 2 + (l - 2) = l by omega] at this; exact this)
 have hfl := (zd rec y l).2
 have hcm := (zd rec y l).1
 have s1 : smN rec y 1 = (rec (y 0)).length + 1 := by simp [smN]
 have s2 : smN rec y 2 = (rec (y 0)).length + 1 + ((rec (y 1)).length + 1) := by simp [smN]
 have s3 : smN rec y 3 = (rec (y 0)).length + 1 + ((rec (y 1)).length + 1) + ((rec (y 2)).length + 1) := by simp [smN]
 have lw := hp.lt
 have lkw : pb < w.heap.size := lw
 have lkb : bk < w.heap.size := by omega
 have B1 : Below w.heap.size w (w.alloc (.cells #[.int .i64 18, .string t, .int .i64 ii, .slice (some ⟨bk, ok, none⟩) l ck] 71)) := (Below.refl _ _).alloc (Nat.le_refl _) _
 have KC : ∀ z, (w.alloc (.cells #[.int .i64 18, .string t, .int .i64 ii, .slice (some ⟨bk, ok, none⟩) l ck] 71)).cell? ⟨w.heap.size, z, none⟩ = (#[.int .i64 18, .string t, .int .i64 ii, .slice (some ⟨bk, ok, none⟩) l ck] : Array Value)[z]? := fun z => by simp [go_sem]
 have hrb : v.ownBlock ≠ some w.heap.size := fun e => by have := (World.ownsRow.lt hp.own _ e).2; omega
 have HP : Hid (Pnt pb nv (w.alloc (.cells #[.int .i64 18, .string t, .int .i64 ii, .slice (some ⟨bk, ok, none⟩) l ck] 71)) v xs) := hp.below B1
 have HB : Hid (Below pb w0 (w.alloc (.cells #[.int .i64 18, .string t, .int .i64 ii, .slice (some ⟨bk, ok, none⟩) l ck] 71))) := hb.trans (B1.mono (by omega))
 have HR0 : Hid (Pr pb nv w0 rec (y 0)) := hr 0 (by omega)
 have HR1 : Hid (Pr pb nv w0 rec (y 1)) := hr 1 (by omega)
 have HRA : Hid (∀ m, m < l -> Pr pb nv w0 rec (y m)) := hr
 have HKA : Hid (SlF T w0 (.slice (some ⟨bk, ok, none⟩) l ck) l l (fun i => .int .i64 (y i))) := hk
 have G0 : Hid (Pg pb (w.alloc (.cells #[.int .i64 18, .string t, .int .i64 ii, .slice (some ⟨bk, ok, none⟩) l ck] 71)) v (w.alloc (.cells #[.int .i64 18, .string t, .int .i64 ii, .slice (some ⟨bk, ok, none⟩) l ck] 71)) v) := Pg.refl _ _ _
 clear hk hp hr
 go_enter Tryd.func135, Tryd.ntmps135
 have BL0 : Hid (Below pb w0 (w.alloc (.cells #[.int .i64 18, .string t, .int .i64 ii, .slice (some ⟨bk, ok, none⟩) l ck] 71))) := HB
 go_wp2_with fail
 refine (ze pb nv v _ [⟨#[119, 104, 105, 108, 101]⟩] _ _ (w.alloc (.cells #[.int .i64 18, .string t, .int .i64 ii, .slice (some ⟨bk, ok, none⟩) l ck] 71)) _ (by first | rfl | simp) rfl rfl HP.out (by (try simp [List.length_append] at hs); (try simp [List.length_append]); omega)).mono ?_
 rintro e w1 ⟨rfl, v1, p1, g1⟩
 have P1 : Hid (Pnt pb nv w1 v1 _) := p1
 have G1 : Hid (Pg pb (w.alloc (.cells #[.int .i64 18, .string t, .int .i64 ii, .slice (some ⟨bk, ok, none⟩) l ck] 71)) v w1 v1) := G0.out.trans g1
 clear p1 g1
 have BL1 : Hid (Below pb w0 w1) := HB.out.trans (G1.out.low HP.out)
 have K1 := G1.out.cells (by simp) (by have := HP.out.lt; omega) hrb KC
 have k1_0 := K1 0
 have k1_1 := K1 1
 have k1_2 := K1 2
 have k1_3 := K1 3
 simp at k1_0 k1_1 k1_2 k1_3
 clear K1
 go_wp2_with fail
 clear k1_0 k1_1 k1_2 k1_3
 refine (za6 pb nv v1 _ _ l ck y rec T w0 w1 HKA.out hT hl (by (try simp [List.length_append] at hs); (try simp [List.length_append]); omega) P1.out BL1.out HRA.out).mono ?_
 rintro e w2 ⟨rfl, v2, p2, g2⟩
 have P2 : Hid (Pnt pb nv w2 v2 _) := p2
 have G2 : Hid (Pg pb (w.alloc (.cells #[.int .i64 18, .string t, .int .i64 ii, .slice (some ⟨bk, ok, none⟩) l ck] 71)) v w2 v2) := G1.out.trans g2
 clear p2 g2
 go_wp2
 go_end0
 refine ⟨rfl, v2, ?_, (Pg.of_below B1).trans G2.out⟩
 have h9 := P2.out
 simpa [List.append_assoc] using h9
set_option maxHeartbeats 1000000 in
theorem zeu (pb : Nat) (nv v : Value) (xs : List ByteArray) (t : ByteArray) (ii : Int) (ak : Option Addr) (l ck : Nat) (y : Nat -> Int) (rec : Int -> List ByteArray) (T : Nat) (w0 w : World) (hk : SlF T w0 (.slice ak l ck) l l (fun i => .int .i64 (y i))) (hT : T <= pb) (hl : l <= 1048576) (hs : xs.length + 40 * (([⟨#[123]⟩] ++ cmN rec y l ++ [⟨#[125]⟩] : List ByteArray).length + 1) <= 1000000) (hn : 0 <= l)
 (hp : Pnt pb nv w v xs) (hb : Below pb w0 w) (hr : ∀ m, m < l -> Pr pb nv w0 rec (y m)) :
 Calls Tryd.prog 134 #[.pointer (some ⟨pb, 0, none⟩), .agg #[.int .i64 7, .string t, .int .i64 ii, .slice ak l ck]] w (zb pb nv xs ([⟨#[123]⟩] ++ cmN rec y l ++ [⟨#[125]⟩]) w v) := by
 have hl' : (l : Int) <= 1048576 := by omega
 have hfl := (zd rec y l).2
 have hcm := (zd rec y l).1
 have s1 : smN rec y 1 = (rec (y 0)).length + 1 := by simp [smN]
 have s2 : smN rec y 2 = (rec (y 0)).length + 1 + ((rec (y 1)).length + 1) := by simp [smN]
 have s3 : smN rec y 3 = (rec (y 0)).length + 1 + ((rec (y 1)).length + 1) + ((rec (y 2)).length + 1) := by simp [smN]
 have lw := hp.lt
 have lkw : pb < w.heap.size := lw
 have B1 : Below w.heap.size w (w.alloc (.cells #[.int .i64 7, .string t, .int .i64 ii, .slice ak l ck] 71)) := (Below.refl _ _).alloc (Nat.le_refl _) _
 have KC : ∀ z, (w.alloc (.cells #[.int .i64 7, .string t, .int .i64 ii, .slice ak l ck] 71)).cell? ⟨w.heap.size, z, none⟩ = (#[.int .i64 7, .string t, .int .i64 ii, .slice ak l ck] : Array Value)[z]? := fun z => by simp [go_sem]
 have hrb : v.ownBlock ≠ some w.heap.size := fun e => by have := (World.ownsRow.lt hp.own _ e).2; omega
 have HP : Hid (Pnt pb nv (w.alloc (.cells #[.int .i64 7, .string t, .int .i64 ii, .slice ak l ck] 71)) v xs) := hp.below B1
 have HB : Hid (Below pb w0 (w.alloc (.cells #[.int .i64 7, .string t, .int .i64 ii, .slice ak l ck] 71))) := hb.trans (B1.mono (by omega))
 have HRA : Hid (∀ m, m < l -> Pr pb nv w0 rec (y m)) := hr
 have HKA : Hid (SlF T w0 (.slice ak l ck) l l (fun i => .int .i64 (y i))) := hk
 have G0 : Hid (Pg pb (w.alloc (.cells #[.int .i64 7, .string t, .int .i64 ii, .slice ak l ck] 71)) v (w.alloc (.cells #[.int .i64 7, .string t, .int .i64 ii, .slice ak l ck] 71)) v) := Pg.refl _ _ _
 clear hk hp hr
 go_enter Tryd.func134, Tryd.ntmps134
 have BL0 : Hid (Below pb w0 (w.alloc (.cells #[.int .i64 7, .string t, .int .i64 ii, .slice ak l ck] 71))) := HB
 go_wp2_with fail
 refine (zbv pb nv v _ ⟨#[123]⟩ ⟨#[125]⟩ _ l ck y rec T w0 (w.alloc (.cells #[.int .i64 7, .string t, .int .i64 ii, .slice ak l ck] 71)) HKA.out hT hl (by (try simp [List.length_append] at hs); (try simp [List.length_append]); omega) HP.out BL0.out HRA.out).mono ?_
 rintro e w1 ⟨rfl, v1, p1, g1⟩
 have P1 : Hid (Pnt pb nv w1 v1 _) := p1
 have G1 : Hid (Pg pb (w.alloc (.cells #[.int .i64 7, .string t, .int .i64 ii, .slice ak l ck] 71)) v w1 v1) := G0.out.trans g1
 clear p1 g1
 go_wp2
 go_end0
 refine ⟨rfl, v1, ?_, (Pg.of_below B1).trans G1.out⟩
 have h9 := P1.out
 simpa [List.append_assoc] using h9
set_option maxHeartbeats 1000000 in
theorem zee (pb : Nat) (nv v : Value) (xs : List ByteArray) (t : ByteArray) (ii : Int) (ak : Option Addr) (l ck : Nat) (y : Nat -> Int) (rec : Int -> List ByteArray) (T : Nat) (w0 w : World) (hk : SlF T w0 (.slice ak l ck) l l (fun i => .int .i64 (y i))) (hT : T <= pb) (hl : l <= 1048576) (hs : xs.length + 40 * ((rec (y 0) ++ [⟨#[97, 110, 100]⟩] ++ rec (y 1) : List ByteArray).length + 1) <= 1000000) (hn : 2 <= l)
 (hp : Pnt pb nv w v xs) (hb : Below pb w0 w) (hr : ∀ m, m < l -> Pr pb nv w0 rec (y m)) :
 Calls Tryd.prog 134 #[.pointer (some ⟨pb, 0, none⟩), .agg #[.int .i64 12, .string t, .int .i64 ii, .slice ak l ck]] w (zb pb nv xs (rec (y 0) ++ [⟨#[97, 110, 100]⟩] ++ rec (y 1)) w v) := by
 have hl' : (l : Int) <= 1048576 := by omega
 obtain ⟨bk, ok, ck2, hv, tk1, lk, hkk⟩ := hk.parts (k := 0) (by omega)
 simp only [Value.slice.injEq] at hv
 obtain ⟨rfl, _, rfl⟩ := hv
 have hl0 : ((2 : Nat) : Int) <= (l : Int) := by omega
 have hi0 : (0 : Int) < (l : Int) := by omega
 have hi1 : (1 : Int) < (l : Int) := by omega
 have hsu : smN rec y 2 <= smN rec y l := (by have := zak rec y 2 (l - 2); rw [show 2 + (l - 2) = l by omega] at this; exact this)
 have hfl := (zd rec y l).2
 have hcm := (zd rec y l).1
 have s1 : smN rec y 1 = (rec (y 0)).length + 1 := by simp [smN]
 have s2 : smN rec y 2 = (rec (y 0)).length + 1 + ((rec (y 1)).length + 1) := by simp [smN]
 have s3 : smN rec y 3 = (rec (y 0)).length + 1 + ((rec (y 1)).length + 1) + ((rec (y 2)).length + 1) := by simp [smN]
 have lw := hp.lt
 have lkw : pb < w.heap.size := lw
 have lkb : bk < w.heap.size := by omega
 have B1 : Below w.heap.size w (w.alloc (.cells #[.int .i64 12, .string t, .int .i64 ii, .slice (some ⟨bk, ok, none⟩) l ck] 71)) := (Below.refl _ _).alloc (Nat.le_refl _) _
 have KC : ∀ z, (w.alloc (.cells #[.int .i64 12, .string t, .int .i64 ii, .slice (some ⟨bk, ok, none⟩) l ck] 71)).cell? ⟨w.heap.size, z, none⟩ = (#[.int .i64 12, .string t, .int .i64 ii, .slice (some ⟨bk, ok, none⟩) l ck] : Array Value)[z]? := fun z => by simp [go_sem]
 have hrb : v.ownBlock ≠ some w.heap.size := fun e => by have := (World.ownsRow.lt hp.own _ e).2; omega
 have HP : Hid (Pnt pb nv (w.alloc (.cells #[.int .i64 12, .string t, .int .i64 ii, .slice (some ⟨bk, ok, none⟩) l ck] 71)) v xs) := hp.below B1
 have HB : Hid (Below pb w0 (w.alloc (.cells #[.int .i64 12, .string t, .int .i64 ii, .slice (some ⟨bk, ok, none⟩) l ck] 71))) := hb.trans (B1.mono (by omega))
 have HR0 : Hid (Pr pb nv w0 rec (y 0)) := hr 0 (by omega)
 have HR1 : Hid (Pr pb nv w0 rec (y 1)) := hr 1 (by omega)
 have HRA : Hid (∀ m, m < l -> Pr pb nv w0 rec (y m)) := hr
 have HKA : Hid (SlF T w0 (.slice (some ⟨bk, ok, none⟩) l ck) l l (fun i => .int .i64 (y i))) := hk
 have G0 : Hid (Pg pb (w.alloc (.cells #[.int .i64 12, .string t, .int .i64 ii, .slice (some ⟨bk, ok, none⟩) l ck] 71)) v (w.alloc (.cells #[.int .i64 12, .string t, .int .i64 ii, .slice (some ⟨bk, ok, none⟩) l ck] 71)) v) := Pg.refl _ _ _
 clear hk hp hr
 go_enter Tryd.func134, Tryd.ntmps134
 have BL0 : Hid (Below pb w0 (w.alloc (.cells #[.int .i64 12, .string t, .int .i64 ii, .slice (some ⟨bk, ok, none⟩) l ck] 71))) := HB
 go_wp2_with fail
 refine (za7 pb nv v _ _ l ck y ⟨#[97, 110, 100]⟩ rec T w0 (w.alloc (.cells #[.int .i64 12, .string t, .int .i64 ii, .slice (some ⟨bk, ok, none⟩) l ck] 71)) HKA.out hT hl (by (try simp [List.length_append] at hs); (try simp [List.length_append]); omega) (by omega) HP.out BL0.out HRA.out).mono ?_
 rintro e w1 ⟨rfl, v1, p1, g1⟩
 have P1 : Hid (Pnt pb nv w1 v1 _) := p1
 have G1 : Hid (Pg pb (w.alloc (.cells #[.int .i64 12, .string t, .int .i64 ii, .slice (some ⟨bk, ok, none⟩) l ck] 71)) v w1 v1) := G0.out.trans g1
 clear p1 g1
 go_wp2
 go_end0
 refine ⟨rfl, v1, ?_, (Pg.of_below B1).trans G1.out⟩
 have h9 := P1.out
 simpa [List.append_assoc] using h9
set_option maxHeartbeats 1000000 in
theorem zef (pb : Nat) (nv v : Value) (xs : List ByteArray) (t : ByteArray) (ii : Int) (ak : Option Addr) (l ck : Nat) (y : Nat -> Int) (rec : Int -> List ByteArray) (T : Nat) (w0 w : World) (hk : SlF T w0 (.slice ak l ck) l l (fun i => .int .i64 (y i))) (hT : T <= pb) (hl : l <= 1048576) (hs : xs.length + 40 * ((rec (y 0) ++ [⟨#[111, 114]⟩] ++ rec (y 1) : List ByteArray).length + 1) <= 1000000) (hn : 2 <= l)
 (hp : Pnt pb nv w v xs) (hb : Below pb w0 w) (hr : ∀ m, m < l -> Pr pb nv w0 rec (y m)) :
 Calls Tryd.prog 134 #[.pointer (some ⟨pb, 0, none⟩), .agg #[.int .i64 13, .string t, .int .i64 ii, .slice ak l ck]] w (zb pb nv xs (rec (y 0) ++ [⟨#[111, 114]⟩] ++ rec (y 1)) w v) := by
 have hl' : (l : Int) <= 1048576 := by omega
 obtain ⟨bk, ok, ck2, hv, tk1, lk, hkk⟩ := hk.parts (k := 0) (by omega)
 simp only [Value.slice.injEq] at hv
 obtain ⟨rfl, _, rfl⟩ := hv
 have hl0 : ((2 : Nat) : Int) <= (l : Int) := by omega
 have hi0 : (0 : Int) < (l : Int) := by omega
 have hi1 : (1 : Int) < (l : Int) := by omega
 have hsu : smN rec y 2 <= smN rec y l := (by have := zak rec y 2 (l - 2); rw [show 2 + (l - 2) = l by omega] at this; exact this)
 have hfl := (zd rec y l).2
 have hcm := (zd rec y l).1
 have s1 : smN rec y 1 = (rec (y 0)).length + 1 := by simp [smN]
 have s2 : smN rec y 2 = (rec (y 0)).length + 1 + ((rec (y 1)).length + 1) := by simp [smN]
 have s3 : smN rec y 3 = (rec (y 0)).length + 1 + ((rec (y 1)).length + 1) + ((rec (y 2)).length + 1) := by simp [smN]
 have lw := hp.lt
 have lkw : pb < w.heap.size := lw
 have lkb : bk < w.heap.size := by omega
 have B1 : Below w.heap.size w (w.alloc (.cells #[.int .i64 13, .string t, .int .i64 ii, .slice (some ⟨bk, ok, none⟩) l ck] 71)) := (Below.refl _ _).alloc (Nat.le_refl _) _
 have KC : ∀ z, (w.alloc (.cells #[.int .i64 13, .string t, .int .i64 ii, .slice (some ⟨bk, ok, none⟩) l ck] 71)).cell? ⟨w.heap.size, z, none⟩ = (#[.int .i64 13, .string t, .int .i64 ii, .slice (some ⟨bk, ok, none⟩) l ck] : Array Value)[z]? := fun z => by simp [go_sem]
 have hrb : v.ownBlock ≠ some w.heap.size := fun e => by have := (World.ownsRow.lt hp.own _ e).2; omega
 have HP : Hid (Pnt pb nv (w.alloc (.cells #[.int .i64 13, .string t, .int .i64 ii, .slice (some ⟨bk, ok, none⟩) l ck] 71)) v xs) := hp.below B1
 have HB : Hid (Below pb w0 (w.alloc (.cells #[.int .i64 13, .string t, .int .i64 ii, .slice (some ⟨bk, ok, none⟩) l ck] 71))) := hb.trans (B1.mono (by omega))
 have HR0 : Hid (Pr pb nv w0 rec (y 0)) := hr 0 (by omega)
 have HR1 : Hid (Pr pb nv w0 rec (y 1)) := hr 1 (by omega)
 have HRA : Hid (∀ m, m < l -> Pr pb nv w0 rec (y m)) := hr
 have HKA : Hid (SlF T w0 (.slice (some ⟨bk, ok, none⟩) l ck) l l (fun i => .int .i64 (y i))) := hk
 have G0 : Hid (Pg pb (w.alloc (.cells #[.int .i64 13, .string t, .int .i64 ii, .slice (some ⟨bk, ok, none⟩) l ck] 71)) v (w.alloc (.cells #[.int .i64 13, .string t, .int .i64 ii, .slice (some ⟨bk, ok, none⟩) l ck] 71)) v) := Pg.refl _ _ _
 clear hk hp hr
 go_enter Tryd.func134, Tryd.ntmps134
 have BL0 : Hid (Below pb w0 (w.alloc (.cells #[.int .i64 13, .string t, .int .i64 ii, .slice (some ⟨bk, ok, none⟩) l ck] 71))) := HB
 go_wp2_with fail
 refine (za7 pb nv v _ _ l ck y ⟨#[111, 114]⟩ rec T w0 (w.alloc (.cells #[.int .i64 13, .string t, .int .i64 ii, .slice (some ⟨bk, ok, none⟩) l ck] 71)) HKA.out hT hl (by (try simp [List.length_append] at hs); (try simp [List.length_append]); omega) (by omega) HP.out BL0.out HRA.out).mono ?_
 rintro e w1 ⟨rfl, v1, p1, g1⟩
 have P1 : Hid (Pnt pb nv w1 v1 _) := p1
 have G1 : Hid (Pg pb (w.alloc (.cells #[.int .i64 13, .string t, .int .i64 ii, .slice (some ⟨bk, ok, none⟩) l ck] 71)) v w1 v1) := G0.out.trans g1
 clear p1 g1
 go_wp2
 go_end0
 refine ⟨rfl, v1, ?_, (Pg.of_below B1).trans G1.out⟩
 have h9 := P1.out
 simpa [List.append_assoc] using h9
set_option maxHeartbeats 1000000 in
theorem zf0 (pb : Nat) (nv v : Value) (xs : List ByteArray) (t : ByteArray) (ii : Int) (ak : Option Addr) (l ck : Nat) (y : Nat -> Int) (rec : Int -> List ByteArray) (T : Nat) (w0 w : World) (hk : SlF T w0 (.slice ak l ck) l l (fun i => .int .i64 (y i))) (hT : T <= pb) (hl : l <= 1048576) (hs : xs.length + 40 * (([⟨#[110, 105, 108]⟩] : List ByteArray).length + 1) <= 1000000) (hn : 0 <= l)
 (hp : Pnt pb nv w v xs) (hb : Below pb w0 w) (hr : ∀ m, m < l -> Pr pb nv w0 rec (y m)) :
 Calls Tryd.prog 130 #[.pointer (some ⟨pb, 0, none⟩), .agg #[.int .i64 1, .string t, .int .i64 ii, .slice ak l ck]] w (zb pb nv xs ([⟨#[110, 105, 108]⟩]) w v) := by
 have hl' : (l : Int) <= 1048576 := by omega
 have hfl := (zd rec y l).2
 have hcm := (zd rec y l).1
 have s1 : smN rec y 1 = (rec (y 0)).length + 1 := by simp [smN]
 have s2 : smN rec y 2 = (rec (y 0)).length + 1 + ((rec (y 1)).length + 1) := by simp [smN]
 have s3 : smN rec y 3 = (rec (y 0)).length + 1 + ((rec (y 1)).length + 1) + ((rec (y 2)).length + 1) := by simp [smN]
 have lw := hp.lt
 have lkw : pb < w.heap.size := lw
 have B1 : Below w.heap.size w (w.alloc (.cells #[.int .i64 1, .string t, .int .i64 ii, .slice ak l ck] 71)) := (Below.refl _ _).alloc (Nat.le_refl _) _
 have KC : ∀ z, (w.alloc (.cells #[.int .i64 1, .string t, .int .i64 ii, .slice ak l ck] 71)).cell? ⟨w.heap.size, z, none⟩ = (#[.int .i64 1, .string t, .int .i64 ii, .slice ak l ck] : Array Value)[z]? := fun z => by simp [go_sem]
 have hrb : v.ownBlock ≠ some w.heap.size := fun e => by have := (World.ownsRow.lt hp.own _ e).2; omega
 have HP : Hid (Pnt pb nv (w.alloc (.cells #[.int .i64 1, .string t, .int .i64 ii, .slice ak l ck] 71)) v xs) := hp.below B1
 have HB : Hid (Below pb w0 (w.alloc (.cells #[.int .i64 1, .string t, .int .i64 ii, .slice ak l ck] 71))) := hb.trans (B1.mono (by omega))
 have HRA : Hid (∀ m, m < l -> Pr pb nv w0 rec (y m)) := hr
 have HKA : Hid (SlF T w0 (.slice ak l ck) l l (fun i => .int .i64 (y i))) := hk
 have G0 : Hid (Pg pb (w.alloc (.cells #[.int .i64 1, .string t, .int .i64 ii, .slice ak l ck] 71)) v (w.alloc (.cells #[.int .i64 1, .string t, .int .i64 ii, .slice ak l ck] 71)) v) := Pg.refl _ _ _
 clear hk hp hr
 go_enter Tryd.func130, Tryd.ntmps130
 have BL0 : Hid (Below pb w0 (w.alloc (.cells #[.int .i64 1, .string t, .int .i64 ii, .slice ak l ck] 71))) := HB
 go_wp2_with fail
 refine (ze pb nv v _ [⟨#[110, 105, 108]⟩] _ _ (w.alloc (.cells #[.int .i64 1, .string t, .int .i64 ii, .slice ak l ck] 71)) _ (by first | rfl | simp) rfl rfl HP.out (by (try simp [List.length_append] at hs); (try simp [List.length_append]); omega)).mono ?_
 rintro e w1 ⟨rfl, v1, p1, g1⟩
 have P1 : Hid (Pnt pb nv w1 v1 _) := p1
 have G1 : Hid (Pg pb (w.alloc (.cells #[.int .i64 1, .string t, .int .i64 ii, .slice ak l ck] 71)) v w1 v1) := G0.out.trans g1
 clear p1 g1
 go_wp2
 go_end0
 refine ⟨rfl, v1, ?_, (Pg.of_below B1).trans G1.out⟩
 have h9 := P1.out
 simpa [List.append_assoc] using h9
set_option maxHeartbeats 1000000 in
theorem zf1 (pb : Nat) (nv v : Value) (xs : List ByteArray) (t : ByteArray) (ii : Int) (ak : Option Addr) (l ck : Nat) (y : Nat -> Int) (rec : Int -> List ByteArray) (T : Nat) (w0 w : World) (hk : SlF T w0 (.slice ak l ck) l l (fun i => .int .i64 (y i))) (hT : T <= pb) (hl : l <= 1048576) (hs : xs.length + 40 * (([t] : List ByteArray).length + 1) <= 1000000) (hn : 0 <= l)
 (hp : Pnt pb nv w v xs) (hb : Below pb w0 w) (hr : ∀ m, m < l -> Pr pb nv w0 rec (y m)) :
 Calls Tryd.prog 130 #[.pointer (some ⟨pb, 0, none⟩), .agg #[.int .i64 5, .string t, .int .i64 ii, .slice ak l ck]] w (zb pb nv xs ([t]) w v) := by
 have hl' : (l : Int) <= 1048576 := by omega
 have hfl := (zd rec y l).2
 have hcm := (zd rec y l).1
 have s1 : smN rec y 1 = (rec (y 0)).length + 1 := by simp [smN]
 have s2 : smN rec y 2 = (rec (y 0)).length + 1 + ((rec (y 1)).length + 1) := by simp [smN]
 have s3 : smN rec y 3 = (rec (y 0)).length + 1 + ((rec (y 1)).length + 1) + ((rec (y 2)).length + 1) := by simp [smN]
 have lw := hp.lt
 have lkw : pb < w.heap.size := lw
 have B1 : Below w.heap.size w (w.alloc (.cells #[.int .i64 5, .string t, .int .i64 ii, .slice ak l ck] 71)) := (Below.refl _ _).alloc (Nat.le_refl _) _
 have KC : ∀ z, (w.alloc (.cells #[.int .i64 5, .string t, .int .i64 ii, .slice ak l ck] 71)).cell? ⟨w.heap.size, z, none⟩ = (#[.int .i64 5, .string t, .int .i64 ii, .slice ak l ck] : Array Value)[z]? := fun z => by simp [go_sem]
 have hrb : v.ownBlock ≠ some w.heap.size := fun e => by have := (World.ownsRow.lt hp.own _ e).2; omega
 have HP : Hid (Pnt pb nv (w.alloc (.cells #[.int .i64 5, .string t, .int .i64 ii, .slice ak l ck] 71)) v xs) := hp.below B1
 have HB : Hid (Below pb w0 (w.alloc (.cells #[.int .i64 5, .string t, .int .i64 ii, .slice ak l ck] 71))) := hb.trans (B1.mono (by omega))
 have HRA : Hid (∀ m, m < l -> Pr pb nv w0 rec (y m)) := hr
 have HKA : Hid (SlF T w0 (.slice ak l ck) l l (fun i => .int .i64 (y i))) := hk
 have G0 : Hid (Pg pb (w.alloc (.cells #[.int .i64 5, .string t, .int .i64 ii, .slice ak l ck] 71)) v (w.alloc (.cells #[.int .i64 5, .string t, .int .i64 ii, .slice ak l ck] 71)) v) := Pg.refl _ _ _
 clear hk hp hr
 go_enter Tryd.func130, Tryd.ntmps130
 have BL0 : Hid (Below pb w0 (w.alloc (.cells #[.int .i64 5, .string t, .int .i64 ii, .slice ak l ck] 71))) := HB
 go_wp2_with fail
 refine (ze pb nv v _ [t] _ _ (w.alloc (.cells #[.int .i64 5, .string t, .int .i64 ii, .slice ak l ck] 71)) _ (by first | rfl | simp) rfl rfl HP.out (by (try simp [List.length_append] at hs); (try simp [List.length_append]); omega)).mono ?_
 rintro e w1 ⟨rfl, v1, p1, g1⟩
 have P1 : Hid (Pnt pb nv w1 v1 _) := p1
 have G1 : Hid (Pg pb (w.alloc (.cells #[.int .i64 5, .string t, .int .i64 ii, .slice ak l ck] 71)) v w1 v1) := G0.out.trans g1
 clear p1 g1
 go_wp2
 go_end0
 refine ⟨rfl, v1, ?_, (Pg.of_below B1).trans G1.out⟩
 have h9 := P1.out
 simpa [List.append_assoc] using h9
set_option maxHeartbeats 1000000 in
theorem zf2 (pb : Nat) (nv v : Value) (xs : List ByteArray) (t : ByteArray) (ii : Int) (ak : Option Addr) (l ck : Nat) (y : Nat -> Int) (rec : Int -> List ByteArray) (T : Nat) (w0 w : World) (hk : SlF T w0 (.slice ak l ck) l l (fun i => .int .i64 (y i))) (hT : T <= pb) (hl : l <= 1048576) (hs : xs.length + 40 * (([⟨#[123]⟩] ++ flN rec y l ++ [⟨#[125]⟩] : List ByteArray).length + 1) <= 1000000) (hn : 0 <= l)
 (hp : Pnt pb nv w v xs) (hb : Below pb w0 w) (hr : ∀ m, m < l -> Pr pb nv w0 rec (y m)) :
 Calls Tryd.prog 136 #[.pointer (some ⟨pb, 0, none⟩), .agg #[.int .i64 21, .string t, .int .i64 ii, .slice ak l ck]] w (zb pb nv xs ([⟨#[123]⟩] ++ flN rec y l ++ [⟨#[125]⟩]) w v) := by
 have hl' : (l : Int) <= 1048576 := by omega
 have hfl := (zd rec y l).2
 have hcm := (zd rec y l).1
 have s1 : smN rec y 1 = (rec (y 0)).length + 1 := by simp [smN]
 have s2 : smN rec y 2 = (rec (y 0)).length + 1 + ((rec (y 1)).length + 1) := by simp [smN]
 have s3 : smN rec y 3 = (rec (y 0)).length + 1 + ((rec (y 1)).length + 1) + ((rec (y 2)).length + 1) := by simp [smN]
 have lw := hp.lt
 have lkw : pb < w.heap.size := lw
 have B1 : Below w.heap.size w (w.alloc (.cells #[.int .i64 21, .string t, .int .i64 ii, .slice ak l ck] 71)) := (Below.refl _ _).alloc (Nat.le_refl _) _
 have KC : ∀ z, (w.alloc (.cells #[.int .i64 21, .string t, .int .i64 ii, .slice ak l ck] 71)).cell? ⟨w.heap.size, z, none⟩ = (#[.int .i64 21, .string t, .int .i64 ii, .slice ak l ck] : Array Value)[z]? := fun z => by simp [go_sem]
 have hrb : v.ownBlock ≠ some w.heap.size := fun e => by have := (World.ownsRow.lt hp.own _ e).2; omega
 have HP : Hid (Pnt pb nv (w.alloc (.cells #[.int .i64 21, .string t, .int .i64 ii, .slice ak l ck] 71)) v xs) := hp.below B1
 have HB : Hid (Below pb w0 (w.alloc (.cells #[.int .i64 21, .string t, .int .i64 ii, .slice ak l ck] 71))) := hb.trans (B1.mono (by omega))
 have HRA : Hid (∀ m, m < l -> Pr pb nv w0 rec (y m)) := hr
 have HKA : Hid (SlF T w0 (.slice ak l ck) l l (fun i => .int .i64 (y i))) := hk
 have G0 : Hid (Pg pb (w.alloc (.cells #[.int .i64 21, .string t, .int .i64 ii, .slice ak l ck] 71)) v (w.alloc (.cells #[.int .i64 21, .string t, .int .i64 ii, .slice ak l ck] 71)) v) := Pg.refl _ _ _
 clear hk hp hr
 go_enter Tryd.func136, Tryd.ntmps136
 have BL0 : Hid (Below pb w0 (w.alloc (.cells #[.int .i64 21, .string t, .int .i64 ii, .slice ak l ck] 71))) := HB
 go_wp2_with fail
 refine (ze pb nv v _ [⟨#[123]⟩] _ _ (w.alloc (.cells #[.int .i64 21, .string t, .int .i64 ii, .slice ak l ck] 71)) _ (by first | rfl | simp) rfl rfl HP.out (by (try simp [List.length_append] at hs); (try simp [List.length_append]); omega)).mono ?_
 rintro e w1 ⟨rfl, v1, p1, g1⟩
 have P1 : Hid (Pnt pb nv w1 v1 _) := p1
 have G1 : Hid (Pg pb (w.alloc (.cells #[.int .i64 21, .string t, .int .i64 ii, .slice ak l ck] 71)) v w1 v1) := G0.out.trans g1
 clear p1 g1
 have BL1 : Hid (Below pb w0 w1) := HB.out.trans (G1.out.low HP.out)
 have K1 := G1.out.cells (by simp) (by have := HP.out.lt; omega) hrb KC
 have k1_0 := K1 0
 have k1_1 := K1 1
 have k1_2 := K1 2
 have k1_3 := K1 3
 simp at k1_0 k1_1 k1_2 k1_3
 clear K1
 go_wp2_with fail
 clear k1_0 k1_1 k1_2 k1_3
 refine (za6 pb nv v1 _ _ l ck y rec T w0 w1 HKA.out hT hl (by (try simp [List.length_append] at hs); (try simp [List.length_append]); omega) P1.out BL1.out HRA.out).mono ?_
 rintro e w2 ⟨rfl, v2, p2, g2⟩
 have P2 : Hid (Pnt pb nv w2 v2 _) := p2
 have G2 : Hid (Pg pb (w.alloc (.cells #[.int .i64 21, .string t, .int .i64 ii, .slice ak l ck] 71)) v w2 v2) := G1.out.trans g2
 clear p2 g2
 have BL2 : Hid (Below pb w0 w2) := HB.out.trans (G2.out.low HP.out)
 have K2 := G2.out.cells (by simp) (by have := HP.out.lt; omega) hrb KC
 have k2_0 := K2 0
 have k2_1 := K2 1
 have k2_2 := K2 2
 have k2_3 := K2 3
 simp at k2_0 k2_1 k2_2 k2_3
 clear K2
 go_wp2_with fail
 clear k2_0 k2_1 k2_2 k2_3
 refine (ze pb nv v2 _ [⟨#[125]⟩] _ _ w2 _ (by first | rfl | simp) rfl rfl P2.out (by (try simp [List.length_append] at hs); (try simp [List.length_append]); omega)).mono ?_
 rintro e w3 ⟨rfl, v3, p3, g3⟩
 have P3 : Hid (Pnt pb nv w3 v3 _) := p3
 have G3 : Hid (Pg pb (w.alloc (.cells #[.int .i64 21, .string t, .int .i64 ii, .slice ak l ck] 71)) v w3 v3) := G2.out.trans g3
 clear p3 g3
 go_wp2
 go_end0
 refine ⟨rfl, v3, ?_, (Pg.of_below B1).trans G3.out⟩
 have h9 := P3.out
 simpa [List.append_assoc] using h9
set_option maxHeartbeats 1000000 in
theorem zf3 (pb : Nat) (nv v : Value) (xs : List ByteArray) (t : ByteArray) (ii : Int) (ak : Option Addr) (l ck : Nat) (y : Nat -> Int) (rec : Int -> List ByteArray) (T : Nat) (w0 w : World) (hk : SlF T w0 (.slice ak l ck) l l (fun i => .int .i64 (y i))) (hT : T <= pb) (hl : l <= 1048576) (hs : xs.length + 40 * (([t] : List ByteArray).length + 1) <= 1000000) (hn : 0 <= l)
 (hp : Pnt pb nv w v xs) (hb : Below pb w0 w) (hr : ∀ m, m < l -> Pr pb nv w0 rec (y m)) :
 Calls Tryd.prog 136 #[.pointer (some ⟨pb, 0, none⟩), .agg #[.int .i64 22, .string t, .int .i64 ii, .slice ak l ck]] w (zb pb nv xs ([t]) w v) := by
 have hl' : (l : Int) <= 1048576 := by omega
 have hfl := (zd rec y l).2
 have hcm := (zd rec y l).1
 have s1 : smN rec y 1 = (rec (y 0)).length + 1 := by simp [smN]
 have s2 : smN rec y 2 = (rec (y 0)).length + 1 + ((rec (y 1)).length + 1) := by simp [smN]
 have s3 : smN rec y 3 = (rec (y 0)).length + 1 + ((rec (y 1)).length + 1) + ((rec (y 2)).length + 1) := by simp [smN]
 have lw := hp.lt
 have lkw : pb < w.heap.size := lw
 have B1 : Below w.heap.size w (w.alloc (.cells #[.int .i64 22, .string t, .int .i64 ii, .slice ak l ck] 71)) := (Below.refl _ _).alloc (Nat.le_refl _) _
 have KC : ∀ z, (w.alloc (.cells #[.int .i64 22, .string t, .int .i64 ii, .slice ak l ck] 71)).cell? ⟨w.heap.size, z, none⟩ = (#[.int .i64 22, .string t, .int .i64 ii, .slice ak l ck] : Array Value)[z]? := fun z => by simp [go_sem]
 have hrb : v.ownBlock ≠ some w.heap.size := fun e => by have := (World.ownsRow.lt hp.own _ e).2; omega
 have HP : Hid (Pnt pb nv (w.alloc (.cells #[.int .i64 22, .string t, .int .i64 ii, .slice ak l ck] 71)) v xs) := hp.below B1
 have HB : Hid (Below pb w0 (w.alloc (.cells #[.int .i64 22, .string t, .int .i64 ii, .slice ak l ck] 71))) := hb.trans (B1.mono (by omega))
 have HRA : Hid (∀ m, m < l -> Pr pb nv w0 rec (y m)) := hr
 have HKA : Hid (SlF T w0 (.slice ak l ck) l l (fun i => .int .i64 (y i))) := hk
 have G0 : Hid (Pg pb (w.alloc (.cells #[.int .i64 22, .string t, .int .i64 ii, .slice ak l ck] 71)) v (w.alloc (.cells #[.int .i64 22, .string t, .int .i64 ii, .slice ak l ck] 71)) v) := Pg.refl _ _ _
 clear hk hp hr
 go_enter Tryd.func136, Tryd.ntmps136
 have BL0 : Hid (Below pb w0 (w.alloc (.cells #[.int .i64 22, .string t, .int .i64 ii, .slice ak l ck] 71))) := HB
 go_wp2_with fail
 refine (ze pb nv v _ [t] _ _ (w.alloc (.cells #[.int .i64 22, .string t, .int .i64 ii, .slice ak l ck] 71)) _ (by first | rfl | simp) rfl rfl HP.out (by (try simp [List.length_append] at hs); (try simp [List.length_append]); omega)).mono ?_
 rintro e w1 ⟨rfl, v1, p1, g1⟩
 have P1 : Hid (Pnt pb nv w1 v1 _) := p1
 have G1 : Hid (Pg pb (w.alloc (.cells #[.int .i64 22, .string t, .int .i64 ii, .slice ak l ck] 71)) v w1 v1) := G0.out.trans g1
 clear p1 g1
 go_wp2
 go_end0
 refine ⟨rfl, v1, ?_, (Pg.of_below B1).trans G1.out⟩
 have h9 := P1.out
 simpa [List.append_assoc] using h9
set_option maxHeartbeats 1000000 in
theorem zf4 (pb : Nat) (nv v : Value) (xs : List ByteArray) (t : ByteArray) (ii : Int) (ak : Option Addr) (l ck : Nat) (y : Nat -> Int) (rec : Int -> List ByteArray) (T : Nat) (w0 w : World) (hk : SlF T w0 (.slice ak l ck) l l (fun i => .int .i64 (y i))) (hT : T <= pb) (hl : l <= 1048576) (hs : xs.length + 40 * ((rec (y 0) : List ByteArray).length + 1) <= 1000000) (hn : 1 <= l)
 (hp : Pnt pb nv w v xs) (hb : Below pb w0 w) (hr : ∀ m, m < l -> Pr pb nv w0 rec (y m)) :
 Calls Tryd.prog 136 #[.pointer (some ⟨pb, 0, none⟩), .agg #[.int .i64 23, .string t, .int .i64 ii, .slice ak l ck]] w (zb pb nv xs (rec (y 0)) w v) := by
 have hl' : (l : Int) <= 1048576 := by omega
 obtain ⟨bk, ok, ck2, hv, tk1, lk, hkk⟩ := hk.parts (k := 0) (by omega)
 simp only [Value.slice.injEq] at hv
 obtain ⟨rfl, _, rfl⟩ := hv
 have hl0 : ((1 : Nat) : Int) <= (l : Int) := by omega
 have hi0 : (0 : Int) < (l : Int) := by omega
 have hsu : smN rec y 1 <= smN rec y l := (by have := zak rec y 1 (l - 1); rw [show 1 + (l - 1) = l by omega] at this; exact this)
 have hfl := (zd rec y l).2
 have hcm := (zd rec y l).1
 have s1 : smN rec y 1 = (rec (y 0)).length + 1 := by simp [smN]
 have s2 : smN rec y 2 = (rec (y 0)).length + 1 + ((rec (y 1)).length + 1) := by simp [smN]
 have s3 : smN rec y 3 = (rec (y 0)).length + 1 + ((rec (y 1)).length + 1) + ((rec (y 2)).length + 1) := by simp [smN]
 have lw := hp.lt
 have lkw : pb < w.heap.size := lw
 have lkb : bk < w.heap.size := by omega
 have B1 : Below w.heap.size w (w.alloc (.cells #[.int .i64 23, .string t, .int .i64 ii, .slice (some ⟨bk, ok, none⟩) l ck] 71)) := (Below.refl _ _).alloc (Nat.le_refl _) _
 have KC : ∀ z, (w.alloc (.cells #[.int .i64 23, .string t, .int .i64 ii, .slice (some ⟨bk, ok, none⟩) l ck] 71)).cell? ⟨w.heap.size, z, none⟩ = (#[.int .i64 23, .string t, .int .i64 ii, .slice (some ⟨bk, ok, none⟩) l ck] : Array Value)[z]? := fun z => by simp [go_sem]
 have hrb : v.ownBlock ≠ some w.heap.size := fun e => by have := (World.ownsRow.lt hp.own _ e).2; omega
 have HP : Hid (Pnt pb nv (w.alloc (.cells #[.int .i64 23, .string t, .int .i64 ii, .slice (some ⟨bk, ok, none⟩) l ck] 71)) v xs) := hp.below B1
 have HB : Hid (Below pb w0 (w.alloc (.cells #[.int .i64 23, .string t, .int .i64 ii, .slice (some ⟨bk, ok, none⟩) l ck] 71))) := hb.trans (B1.mono (by omega))
 have HR0 : Hid (Pr pb nv w0 rec (y 0)) := hr 0 (by omega)
 have HRA : Hid (∀ m, m < l -> Pr pb nv w0 rec (y m)) := hr
 have HKA : Hid (SlF T w0 (.slice (some ⟨bk, ok, none⟩) l ck) l l (fun i => .int .i64 (y i))) := hk
 have G0 : Hid (Pg pb (w.alloc (.cells #[.int .i64 23, .string t, .int .i64 ii, .slice (some ⟨bk, ok, none⟩) l ck] 71)) v (w.alloc (.cells #[.int .i64 23, .string t, .int .i64 ii, .slice (some ⟨bk, ok, none⟩) l ck] 71)) v) := Pg.refl _ _ _
 clear hk hp hr
 go_enter Tryd.func136, Tryd.ntmps136
 have BL0 : Hid (Below pb w0 (w.alloc (.cells #[.int .i64 23, .string t, .int .i64 ii, .slice (some ⟨bk, ok, none⟩) l ck] 71))) := HB
 have y0_0 : w.cell? ⟨bk, ok + 0, none⟩ = some (.int .i64 (y 0)) := (by rw [hb.cell (p := ⟨bk, ok + 0, none⟩) (Nat.lt_of_lt_of_le tk1 hT)]; exact hkk 0 (by omega))
 rw [Nat.add_zero] at y0_0
 go_wp2_with fail
 clear y0_0
 refine (HR0.out (w.alloc (.cells #[.int .i64 23, .string t, .int .i64 ii, .slice (some ⟨bk, ok, none⟩) l ck] 71)) v _ HP.out BL0.out (by (try simp [List.length_append] at hs); (try simp [List.length_append]); omega)).mono ?_
 rintro e w1 ⟨rfl, v1, p1, g1⟩
 have P1 : Hid (Pnt pb nv w1 v1 _) := p1
 have G1 : Hid (Pg pb (w.alloc (.cells #[.int .i64 23, .string t, .int .i64 ii, .slice (some ⟨bk, ok, none⟩) l ck] 71)) v w1 v1) := G0.out.trans g1
 clear p1 g1
 go_wp2
 go_end0
 refine ⟨rfl, v1, ?_, (Pg.of_below B1).trans G1.out⟩
 have h9 := P1.out
 simpa [List.append_assoc] using h9
set_option maxHeartbeats 1000000 in
theorem zf5 (pb : Nat) (nv v : Value) (xs : List ByteArray) (t : ByteArray) (ii : Int) (ak : Option Addr) (l ck : Nat) (y : Nat -> Int) (rec : Int -> List ByteArray) (T : Nat) (w0 w : World) (hk : SlF T w0 (.slice ak l ck) l l (fun i => .int .i64 (y i))) (hT : T <= pb) (hl : l <= 1048576) (hs : xs.length + 40 * (([⟨#[91]⟩] ++ rec (y 0) ++ [⟨#[93]⟩, ⟨#[61]⟩] ++ rec (y 1) : List ByteArray).length + 1) <= 1000000) (hn : 2 <= l)
 (hp : Pnt pb nv w v xs) (hb : Below pb w0 w) (hr : ∀ m, m < l -> Pr pb nv w0 rec (y m)) :
 Calls Tryd.prog 136 #[.pointer (some ⟨pb, 0, none⟩), .agg #[.int .i64 24, .string t, .int .i64 ii, .slice ak l ck]] w (zb pb nv xs ([⟨#[91]⟩] ++ rec (y 0) ++ [⟨#[93]⟩, ⟨#[61]⟩] ++ rec (y 1)) w v) := by
 have hl' : (l : Int) <= 1048576 := by omega
 obtain ⟨bk, ok, ck2, hv, tk1, lk, hkk⟩ := hk.parts (k := 0) (by omega)
 simp only [Value.slice.injEq] at hv
 obtain ⟨rfl, _, rfl⟩ := hv
 have hl0 : ((2 : Nat) : Int) <= (l : Int) := by omega
 have hi0 : (0 : Int) < (l : Int) := by omega
 have hi1 : (1 : Int) < (l : Int) := by omega
 have hsu : smN rec y 2 <= smN rec y l := (by have := zak rec y 2 (l - 2); rw [show 2 + (l - 2) = l by omega] at this; exact this)
 have hfl := (zd rec y l).2
 have hcm := (zd rec y l).1
 have s1 : smN rec y 1 = (rec (y 0)).length + 1 := by simp [smN]
 have s2 : smN rec y 2 = (rec (y 0)).length + 1 + ((rec (y 1)).length + 1) := by simp [smN]
 have s3 : smN rec y 3 = (rec (y 0)).length + 1 + ((rec (y 1)).length + 1) + ((rec (y 2)).length + 1) := by simp [smN]
 have lw := hp.lt
 have lkw : pb < w.heap.size := lw
 have lkb : bk < w.heap.size := by omega
 have B1 : Below w.heap.size w (w.alloc (.cells #[.int .i64 24, .string t, .int .i64 ii, .slice (some ⟨bk, ok, none⟩) l ck] 71)) := (Below.refl _ _).alloc (Nat.le_refl _) _
 have KC : ∀ z, (w.alloc (.cells #[.int .i64 24, .string t, .int .i64 ii, .slice (some ⟨bk, ok, none⟩) l ck] 71)).cell? ⟨w.heap.size, z, none⟩ = (#[.int .i64 24, .string t, .int .i64 ii, .slice (some ⟨bk, ok, none⟩) l ck] : Array Value)[z]? := fun z => by simp [go_sem]
 have hrb : v.ownBlock ≠ some w.heap.size := fun e => by have := (World.ownsRow.lt hp.own _ e).2; omega
 have HP : Hid (Pnt pb nv (w.alloc (.cells #[.int .i64 24, .string t, .int .i64 ii, .slice (some ⟨bk, ok, none⟩) l ck] 71)) v xs) := hp.below B1
 have HB : Hid (Below pb w0 (w.alloc (.cells #[.int .i64 24, .string t, .int .i64 ii, .slice (some ⟨bk, ok, none⟩) l ck] 71))) := hb.trans (B1.mono (by omega))
 have HR0 : Hid (Pr pb nv w0 rec (y 0)) := hr 0 (by omega)
 have HR1 : Hid (Pr pb nv w0 rec (y 1)) := hr 1 (by omega)
 have HRA : Hid (∀ m, m < l -> Pr pb nv w0 rec (y m)) := hr
 have HKA : Hid (SlF T w0 (.slice (some ⟨bk, ok, none⟩) l ck) l l (fun i => .int .i64 (y i))) := hk
 have G0 : Hid (Pg pb (w.alloc (.cells #[.int .i64 24, .string t, .int .i64 ii, .slice (some ⟨bk, ok, none⟩) l ck] 71)) v (w.alloc (.cells #[.int .i64 24, .string t, .int .i64 ii, .slice (some ⟨bk, ok, none⟩) l ck] 71)) v) := Pg.refl _ _ _
 clear hk hp hr
 go_enter Tryd.func136, Tryd.ntmps136
 have BL0 : Hid (Below pb w0 (w.alloc (.cells #[.int .i64 24, .string t, .int .i64 ii, .slice (some ⟨bk, ok, none⟩) l ck] 71))) := HB
 go_wp2_with fail
 refine (ze pb nv v _ [⟨#[91]⟩] _ _ (w.alloc (.cells #[.int .i64 24, .string t, .int .i64 ii, .slice (some ⟨bk, ok, none⟩) l ck] 71)) _ (by first | rfl | simp) rfl rfl HP.out (by (try simp [List.length_append] at hs); (try simp [List.length_append]); omega)).mono ?_
 rintro e w1 ⟨rfl, v1, p1, g1⟩
 have P1 : Hid (Pnt pb nv w1 v1 _) := p1
 have G1 : Hid (Pg pb (w.alloc (.cells #[.int .i64 24, .string t, .int .i64 ii, .slice (some ⟨bk, ok, none⟩) l ck] 71)) v w1 v1) := G0.out.trans g1
 clear p1 g1
 have BL1 : Hid (Below pb w0 w1) := HB.out.trans (G1.out.low HP.out)
 have K1 := G1.out.cells (by simp) (by have := HP.out.lt; omega) hrb KC
 have k1_0 := K1 0
 have k1_1 := K1 1
 have k1_2 := K1 2
 have k1_3 := K1 3
 simp at k1_0 k1_1 k1_2 k1_3
 clear K1
 have y1_0 : w1.cell? ⟨bk, ok + 0, none⟩ = some (.int .i64 (y 0)) := (by rw [BL1.out.cell (p := ⟨bk, ok + 0, none⟩) (Nat.lt_of_lt_of_le tk1 hT)]; exact hkk 0 (by omega))
 rw [Nat.add_zero] at y1_0
 go_wp2_with fail
 clear k1_0 k1_1 k1_2 k1_3
 clear y1_0
 refine (HR0.out w1 v1 _ P1.out BL1.out (by (try simp [List.length_append] at hs); (try simp [List.length_append]); omega)).mono ?_
 rintro e w2 ⟨rfl, v2, p2, g2⟩
 have P2 : Hid (Pnt pb nv w2 v2 _) := p2
 have G2 : Hid (Pg pb (w.alloc (.cells #[.int .i64 24, .string t, .int .i64 ii, .slice (some ⟨bk, ok, none⟩) l ck] 71)) v w2 v2) := G1.out.trans g2
 clear p2 g2
 have BL2 : Hid (Below pb w0 w2) := HB.out.trans (G2.out.low HP.out)
 have K2 := G2.out.cells (by simp) (by have := HP.out.lt; omega) hrb KC
 have k2_0 := K2 0
 have k2_1 := K2 1
 have k2_2 := K2 2
 have k2_3 := K2 3
 simp at k2_0 k2_1 k2_2 k2_3
 clear K2
 go_wp2_with fail
 clear k2_0 k2_1 k2_2 k2_3
 refine (ze pb nv v2 _ [⟨#[93]⟩, ⟨#[61]⟩] _ _ w2 _ (by first | rfl | simp) rfl rfl P2.out (by (try simp [List.length_append] at hs); (try simp [List.length_append]); omega)).mono ?_
 rintro e w3 ⟨rfl, v3, p3, g3⟩
 have P3 : Hid (Pnt pb nv w3 v3 _) := p3
 have G3 : Hid (Pg pb (w.alloc (.cells #[.int .i64 24, .string t, .int .i64 ii, .slice (some ⟨bk, ok, none⟩) l ck] 71)) v w3 v3) := G2.out.trans g3
 clear p3 g3
 have BL3 : Hid (Below pb w0 w3) := HB.out.trans (G3.out.low HP.out)
 have K3 := G3.out.cells (by simp) (by have := HP.out.lt; omega) hrb KC
 have k3_0 := K3 0
 have k3_1 := K3 1
 have k3_2 := K3 2
 have k3_3 := K3 3
 simp at k3_0 k3_1 k3_2 k3_3
 clear K3
 have y3_1 : w3.cell? ⟨bk, ok + 1, none⟩ = some (.int .i64 (y 1)) := (by rw [BL3.out.cell (p := ⟨bk, ok + 1, none⟩) (Nat.lt_of_lt_of_le tk1 hT)]; exact hkk 1 (by omega))
 go_wp2_with fail
 clear k3_0 k3_1 k3_2 k3_3
 clear y3_1
 refine (HR1.out w3 v3 _ P3.out BL3.out (by (try simp [List.length_append] at hs); (try simp [List.length_append]); omega)).mono ?_
 rintro e w4 ⟨rfl, v4, p4, g4⟩
 have P4 : Hid (Pnt pb nv w4 v4 _) := p4
 have G4 : Hid (Pg pb (w.alloc (.cells #[.int .i64 24, .string t, .int .i64 ii, .slice (some ⟨bk, ok, none⟩) l ck] 71)) v w4 v4) := G3.out.trans g4
 clear p4 g4
 go_wp2
 go_end0
 refine ⟨rfl, v4, ?_, (Pg.of_below B1).trans G4.out⟩
 have h9 := P4.out
 simpa [List.append_assoc] using h9
theorem SlF.first {T : Nat} {w : World} {a : Option Addr} {l c m : Nat} {f : Nat -> Value} (h : SlF T w (.slice a l c) l l f) (hm : m <= l) : SlF T w (.slice a m c) m m f := by
 obtain ⟨a', c', hv, h⟩ := h
 simp only [Value.slice.injEq] at hv
 obtain ⟨rfl, _, rfl⟩ := hv
 refine ⟨a, c, rfl, ?_⟩
 rcases h with h | ⟨b, off, rfl, h1, h2, h3⟩
 · exact .inl (by omega)
 · exact .inr ⟨b, off, rfl, h1, h2, fun i hi => h3 i (by omega)⟩
set_option maxHeartbeats 1000000 in
theorem zje (pb : Nat) (nv v : Value) (xs : List ByteArray) (ak : Option Addr) (ck : Nat) (y : Nat -> Int) (rec : Int -> List ByteArray) (T : Nat) (w0 w : World) (hk : SlF T w0 (.slice ak 2 ck) 2 2 (fun i => .int .i64 (y i))) (hT : T <= pb) (hc1 : 2 <= ck) (hc2 : ck <= 1048576) (hs : xs.length + 40 * (([⟨#[105, 102]⟩] ++ flN rec y 2 : List ByteArray).length + 1) <= 1000000)
 (hp : Pnt pb nv w v xs) (hb : Below pb w0 w) (hr : ∀ m, m < 2 -> Pr pb nv w0 rec (y m)) :
 Calls Tryd.prog 165 #[.pointer (some ⟨pb, 0, none⟩), .slice ak 2 ck] w (zb pb nv xs ([⟨#[105, 102]⟩] ++ flN rec y 2) w v) := by
 have hc3 : ((2 : Nat) : Int) <= (ck : Int) := by omega
 have hc4 : (2 : Int) <= (ck : Int) := by omega
 have hc5 : (ck : Int) <= 1048576 := by omega
 obtain ⟨bk, ok, ck2, hv, tk1, lk, hkk⟩ := hk.parts (k := 0) (by omega)
 simp only [Value.slice.injEq] at hv
 obtain ⟨rfl, _, rfl⟩ := hv
 have hl0 : ((2 : Nat) : Int) <= ((2 : Nat) : Int) := by omega
 have hi0 : (0 : Int) < ((2 : Nat) : Int) := by omega
 have hi1 : (1 : Int) < ((2 : Nat) : Int) := by omega
 have hfl := (zd rec y 2).2
 have hcm := (zd rec y 2).1
 have s1 : smN rec y 1 = (rec (y 0)).length + 1 := by simp [smN]
 have s2 : smN rec y 2 = (rec (y 0)).length + 1 + ((rec (y 1)).length + 1) := by simp [smN]
 have s3 : smN rec y 3 = (rec (y 0)).length + 1 + ((rec (y 1)).length + 1) + ((rec (y 2)).length + 1) := by simp [smN]
 have HP : Hid (Pnt pb nv w v xs) := hp
 have HB : Hid (Below pb w0 w) := hb
 have HR0 : Hid (∀ (V : World) (v : Value) (zs : List ByteArray), Pnt pb nv V v zs -> Below pb w0 V -> zs.length + 40 * ((rec (y 0)).length + 1) <= 1000000 -> Calls Tryd.prog 87 #[.pointer (some ⟨pb, 0, none⟩), .int .i64 (y 0)] V (zb pb nv zs (rec (y 0)) V v)) := hr 0 (by omega)
 have HR1 : Hid (∀ (V : World) (v : Value) (zs : List ByteArray), Pnt pb nv V v zs -> Below pb w0 V -> zs.length + 40 * ((rec (y 1)).length + 1) <= 1000000 -> Calls Tryd.prog 87 #[.pointer (some ⟨pb, 0, none⟩), .int .i64 (y 1)] V (zb pb nv zs (rec (y 1)) V v)) := hr 1 (by omega)
 have HRA : Hid (∀ m, m < 2 -> Pr pb nv w0 rec (y m)) := hr
 have HKA : Hid (SlF T w0 (.slice (some ⟨bk, ok, none⟩) 2 ck) 2 2 (fun i => .int .i64 (y i))) := hk
 have G0 : Hid (Pg pb w v w v) := Pg.refl _ _ _
 clear hk hp hb hr
 go_enter Tryd.func165, Tryd.ntmps165
 have BL0 : Hid (Below pb w0 w) := HB.out.trans (G0.out.low HP.out)
 go_wp2_with fail
 refine (ze pb nv v _ [⟨#[105, 102]⟩] _ _ w _ (by first | rfl | simp) rfl rfl HP.out (by (try simp [List.length_append] at hs); (try simp [List.length_append]); omega)).mono ?_
 rintro e w1 ⟨rfl, v1, p1, g1⟩
 have P1 : Hid (Pnt pb nv w1 v1 _) := p1
 have G1 : Hid (Pg pb w v w1 v1) := G0.out.trans g1
 clear p1 g1
 have BL1 : Hid (Below pb w0 w1) := HB.out.trans (G1.out.low HP.out)
 go_wp2_with fail
 refine (za6 pb nv v1 _ _ 2 ck y rec T w0 w1 (HKA.out.first (by omega)) hT (by omega) (by (try simp [List.length_append] at hs); (try simp [List.length_append]); omega) P1.out BL1.out (fun m hm => HRA.out m (by omega))).mono ?_
 rintro e w2 ⟨rfl, v2, p2, g2⟩
 have P2 : Hid (Pnt pb nv w2 v2 _) := p2
 have G2 : Hid (Pg pb w v w2 v2) := G1.out.trans g2
 clear p2 g2
 go_wp2
 go_end0
 refine ⟨rfl, v2, ?_, G2.out⟩
 have h9 := P2.out
 simpa [List.append_assoc] using h9
set_option maxHeartbeats 1000000 in
theorem zjf (pb : Nat) (nv v : Value) (xs : List ByteArray) (ak : Option Addr) (ck : Nat) (y : Nat -> Int) (rec : Int -> List ByteArray) (T : Nat) (w0 w : World) (hk : SlF T w0 (.slice ak 3 ck) 3 3 (fun i => .int .i64 (y i))) (hT : T <= pb) (hc1 : 3 <= ck) (hc2 : ck <= 1048576) (hs : xs.length + 40 * (([⟨#[105, 102]⟩] ++ flN rec y 2 ++ [⟨#[101, 108, 115, 101]⟩] ++ rec (y 2) : List ByteArray).length + 1) <= 1000000)
 (hp : Pnt pb nv w v xs) (hb : Below pb w0 w) (hr : ∀ m, m < 3 -> Pr pb nv w0 rec (y m)) :
 Calls Tryd.prog 165 #[.pointer (some ⟨pb, 0, none⟩), .slice ak 3 ck] w (zb pb nv xs ([⟨#[105, 102]⟩] ++ flN rec y 2 ++ [⟨#[101, 108, 115, 101]⟩] ++ rec (y 2)) w v) := by
 have hc3 : ((3 : Nat) : Int) <= (ck : Int) := by omega
 have hc4 : (2 : Int) <= (ck : Int) := by omega
 have hc5 : (ck : Int) <= 1048576 := by omega
 obtain ⟨bk, ok, ck2, hv, tk1, lk, hkk⟩ := hk.parts (k := 0) (by omega)
 simp only [Value.slice.injEq] at hv
 obtain ⟨rfl, _, rfl⟩ := hv
 have hl0 : ((3 : Nat) : Int) <= ((3 : Nat) : Int) := by omega
 have hi0 : (0 : Int) < ((3 : Nat) : Int) := by omega
 have hi1 : (1 : Int) < ((3 : Nat) : Int) := by omega
 have hi2 : (2 : Int) < ((3 : Nat) : Int) := by omega
 have hfl := (zd rec y 2).2
 have hcm := (zd rec y 2).1
 have s1 : smN rec y 1 = (rec (y 0)).length + 1 := by simp [smN]
 have s2 : smN rec y 2 = (rec (y 0)).length + 1 + ((rec (y 1)).length + 1) := by simp [smN]
 have s3 : smN rec y 3 = (rec (y 0)).length + 1 + ((rec (y 1)).length + 1) + ((rec (y 2)).length + 1) := by simp [smN]
 have HP : Hid (Pnt pb nv w v xs) := hp
 have HB : Hid (Below pb w0 w) := hb
 have HR0 : Hid (∀ (V : World) (v : Value) (zs : List ByteArray), Pnt pb nv V v zs -> Below pb w0 V -> zs.length + 40 * ((rec (y 0)).length + 1) <= 1000000 -> Calls Tryd.prog 87 #[.pointer (some ⟨pb, 0, none⟩), .int .i64 (y 0)] V (zb pb nv zs (rec (y 0)) V v)) := hr 0 (by omega)
 have HR1 : Hid (∀ (V : World) (v : Value) (zs : List ByteArray), Pnt pb nv V v zs -> Below pb w0 V -> zs.length + 40 * ((rec (y 1)).length + 1) <= 1000000 -> Calls Tryd.prog 87 #[.pointer (some ⟨pb, 0, none⟩), .int .i64 (y 1)] V (zb pb nv zs (rec (y 1)) V v)) := hr 1 (by omega)
 have HR2 : Hid (∀ (V : World) (v : Value) (zs : List ByteArray), Pnt pb nv V v zs -> Below pb w0 V -> zs.length + 40 * ((rec (y 2)).length + 1) <= 1000000 -> Calls Tryd.prog 87 #[.pointer (some ⟨pb, 0, none⟩), .int .i64 (y 2)] V (zb pb nv zs (rec (y 2)) V v)) := hr 2 (by omega)
 have HRA : Hid (∀ m, m < 3 -> Pr pb nv w0 rec (y m)) := hr
 have HKA : Hid (SlF T w0 (.slice (some ⟨bk, ok, none⟩) 3 ck) 3 3 (fun i => .int .i64 (y i))) := hk
 have G0 : Hid (Pg pb w v w v) := Pg.refl _ _ _
 clear hk hp hb hr
 go_enter Tryd.func165, Tryd.ntmps165
 have BL0 : Hid (Below pb w0 w) := HB.out.trans (G0.out.low HP.out)
 go_wp2_with fail
 refine (ze pb nv v _ [⟨#[105, 102]⟩] _ _ w _ (by first | rfl | simp) rfl rfl HP.out (by (try simp [List.length_append] at hs); (try simp [List.length_append]); omega)).mono ?_
 rintro e w1 ⟨rfl, v1, p1, g1⟩
 have P1 : Hid (Pnt pb nv w1 v1 _) := p1
 have G1 : Hid (Pg pb w v w1 v1) := G0.out.trans g1
 clear p1 g1
 have BL1 : Hid (Below pb w0 w1) := HB.out.trans (G1.out.low HP.out)
 go_wp2_with fail
 refine (za6 pb nv v1 _ _ 2 ck y rec T w0 w1 (HKA.out.first (by omega)) hT (by omega) (by (try simp [List.length_append] at hs); (try simp [List.length_append]); omega) P1.out BL1.out (fun m hm => HRA.out m (by omega))).mono ?_
 rintro e w2 ⟨rfl, v2, p2, g2⟩
 have P2 : Hid (Pnt pb nv w2 v2 _) := p2
 have G2 : Hid (Pg pb w v w2 v2) := G1.out.trans g2
 clear p2 g2
 have BL2 : Hid (Below pb w0 w2) := HB.out.trans (G2.out.low HP.out)
 go_wp2_with fail
 refine (ze pb nv v2 _ [⟨#[101, 108, 115, 101]⟩] _ _ w2 _ (by first | rfl | simp) rfl rfl P2.out (by (try simp [List.length_append] at hs); (try simp [List.length_append]); omega)).mono ?_
 rintro e w3 ⟨rfl, v3, p3, g3⟩
 have P3 : Hid (Pnt pb nv w3 v3 _) := p3
 have G3 : Hid (Pg pb w v w3 v3) := G2.out.trans g3
 clear p3 g3
 have BL3 : Hid (Below pb w0 w3) := HB.out.trans (G3.out.low HP.out)
 have y3_2 : w3.cell? ⟨bk, ok + 2, none⟩ = some (.int .i64 (y 2)) := (by rw [BL3.out.cell (p := ⟨bk, ok + 2, none⟩) (Nat.lt_of_lt_of_le tk1 hT)]; exact hkk 2 (by omega))
 go_wp2_with fail
 clear y3_2
 refine (HR2.out w3 v3 _ P3.out BL3.out (by (try simp [List.length_append] at hs); (try simp [List.length_append]); omega)).mono ?_
 rintro e w4 ⟨rfl, v4, p4, g4⟩
 have P4 : Hid (Pnt pb nv w4 v4 _) := p4
 have G4 : Hid (Pg pb w v w4 v4) := G3.out.trans g4
 clear p4 g4
 go_wp2
 go_end0
 refine ⟨rfl, v4, ?_, G4.out⟩
 have h9 := P4.out
 simpa [List.append_assoc] using h9
set_option maxHeartbeats 1000000 in
theorem zcs (pb : Nat) (nv v : Value) (xs : List ByteArray) (t : ByteArray) (ii : Int) (ak : Option Addr) (ck : Nat) (y : Nat -> Int) (rec : Int -> List ByteArray) (T : Nat) (w0 w : World) (hk : SlF T w0 (.slice ak 2 ck) 2 2 (fun i => .int .i64 (y i))) (hT : T <= pb) (hc1 : 2 <= ck) (hc2 : ck <= 1048576) (hs : xs.length + 40 * (([⟨#[105, 102]⟩] ++ flN rec y 2 : List ByteArray).length + 1) <= 1000000)
 (hp : Pnt pb nv w v xs) (hb : Below pb w0 w) (hr : ∀ m, m < 2 -> Pr pb nv w0 rec (y m)) :
 Calls Tryd.prog 135 #[.pointer (some ⟨pb, 0, none⟩), .agg #[.int .i64 17, .string t, .int .i64 ii, .slice ak 2 ck]] w (zb pb nv xs ([⟨#[105, 102]⟩] ++ flN rec y 2) w v) := by
 have lw := hp.lt
 have B1 : Below w.heap.size w (w.alloc (.cells #[.int .i64 17, .string t, .int .i64 ii, .slice ak 2 ck] 71)) := (Below.refl _ _).alloc (Nat.le_refl _) _
 have HP : Hid (Pnt pb nv (w.alloc (.cells #[.int .i64 17, .string t, .int .i64 ii, .slice ak 2 ck] 71)) v xs) := hp.below B1
 have HB : Hid (Below pb w0 (w.alloc (.cells #[.int .i64 17, .string t, .int .i64 ii, .slice ak 2 ck] 71))) := hb.trans (B1.mono (by omega))
 have HK : Hid (SlF T w0 (.slice ak 2 ck) 2 2 (fun i => .int .i64 (y i))) := hk
 have HRA : Hid (∀ m, m < 2 -> Pr pb nv w0 rec (y m)) := hr
 clear hk hp hb hr
 go_enter Tryd.func135, Tryd.ntmps135
 go_wp2_with fail
 refine (zje pb nv v xs ak ck y rec T w0 (w.alloc (.cells #[.int .i64 17, .string t, .int .i64 ii, .slice ak 2 ck] 71)) HK.out hT hc1 hc2 hs HP.out HB.out HRA.out).mono ?_
 rintro e w2 ⟨rfl, v2, p2, g2⟩
 go_wp2
 go_end0
 exact ⟨rfl, v2, p2, (Pg.of_below B1).trans g2⟩
set_option maxHeartbeats 1000000 in
theorem zct (pb : Nat) (nv v : Value) (xs : List ByteArray) (t : ByteArray) (ii : Int) (ak : Option Addr) (ck : Nat) (y : Nat -> Int) (rec : Int -> List ByteArray) (T : Nat) (w0 w : World) (hk : SlF T w0 (.slice ak 3 ck) 3 3 (fun i => .int .i64 (y i))) (hT : T <= pb) (hc1 : 3 <= ck) (hc2 : ck <= 1048576) (hs : xs.length + 40 * (([⟨#[105, 102]⟩] ++ flN rec y 2 ++ [⟨#[101, 108, 115, 101]⟩] ++ rec (y 2) : List ByteArray).length + 1) <= 1000000)
 (hp : Pnt pb nv w v xs) (hb : Below pb w0 w) (hr : ∀ m, m < 3 -> Pr pb nv w0 rec (y m)) :
 Calls Tryd.prog 135 #[.pointer (some ⟨pb, 0, none⟩), .agg #[.int .i64 17, .string t, .int .i64 ii, .slice ak 3 ck]] w (zb pb nv xs ([⟨#[105, 102]⟩] ++ flN rec y 2 ++ [⟨#[101, 108, 115, 101]⟩] ++ rec (y 2)) w v) := by
 have lw := hp.lt
 have B1 : Below w.heap.size w (w.alloc (.cells #[.int .i64 17, .string t, .int .i64 ii, .slice ak 3 ck] 71)) := (Below.refl _ _).alloc (Nat.le_refl _) _
 have HP : Hid (Pnt pb nv (w.alloc (.cells #[.int .i64 17, .string t, .int .i64 ii, .slice ak 3 ck] 71)) v xs) := hp.below B1
 have HB : Hid (Below pb w0 (w.alloc (.cells #[.int .i64 17, .string t, .int .i64 ii, .slice ak 3 ck] 71))) := hb.trans (B1.mono (by omega))
 have HK : Hid (SlF T w0 (.slice ak 3 ck) 3 3 (fun i => .int .i64 (y i))) := hk
 have HRA : Hid (∀ m, m < 3 -> Pr pb nv w0 rec (y m)) := hr
 clear hk hp hb hr
 go_enter Tryd.func135, Tryd.ntmps135
 go_wp2_with fail
 refine (zjf pb nv v xs ak ck y rec T w0 (w.alloc (.cells #[.int .i64 17, .string t, .int .i64 ii, .slice ak 3 ck] 71)) HK.out hT hc1 hc2 hs HP.out HB.out HRA.out).mono ?_
 rintro e w2 ⟨rfl, v2, p2, g2⟩
 go_wp2
 go_end0
 exact ⟨rfl, v2, p2, (Pg.of_below B1).trans g2⟩
end Go.Proofs.YtiglkhkfbgjjoaaDoor
