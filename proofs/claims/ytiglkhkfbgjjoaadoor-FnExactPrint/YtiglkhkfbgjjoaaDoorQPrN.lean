/- - -/
import Derived.Test.YtiglkhkfbgjjoaaDoorQPrM
namespace Go.Proofs.YtiglkhkfbgjjoaaDoor
set_option maxRecDepth 20000
open Go.RowKit Go.PlainAid Go.Maps
set_option linter.unusedSimpArgs false
set_option linter.unusedVariables false
theorem zv (k : Int) (w : World) : Calls Tryd.prog 126 #[.int .i64 k] w fun e w' => e = .returned (.bool (decide (1 <= k /\ k <= 13))) /\ w' = w := by
 go_enter Tryd.func126, Tryd.ntmps126
 go_wp2
 all_goals
  go_ret
  exact ⟨by first | rfl | (simp; done) | (simp; rw [Bool.eq_iff_iff]; simp) | (simp; omega), rfl⟩
theorem zaf (k : Int) (w : World) : Calls Tryd.prog 129 #[.int .i64 k] w fun e w' => e = .returned (.bool (decide (14 <= k /\ k <= 20))) /\ w' = w := by
 go_enter Tryd.func129, Tryd.ntmps129
 go_wp2
 all_goals
  go_ret
  exact ⟨by first | rfl | (simp; done) | (simp; rw [Bool.eq_iff_iff]; simp) | (simp; omega), rfl⟩
theorem SlF.tail {T : Nat} {w : World} {b off l c : Nat} {y : Nat -> Int} (h : SlF T w (.slice (some ⟨b, off, none⟩) (l + 1) c) (l + 1) (l + 1) (fun i => .int .i64 (y i))) (ad : Option Addr) (c' : Nat) (had : l ≠ 0 -> ad = some ⟨b, off + 1, none⟩) : SlF T w (.slice ad l c') l l (fun i => .int .i64 (y (i + 1))) := by
 by_cases h0 : l = 0
 · exact ⟨_, _, rfl, .inl h0⟩
 obtain ⟨b', off', c2, hv, h1, h2, h3⟩ := h.parts (k := 0) (by omega)
 simp only [Value.slice.injEq, Option.some.injEq, Addr.mk.injEq] at hv
 obtain ⟨⟨rfl, rfl, _⟩, _, rfl⟩ := hv
 refine ⟨_, _, rfl, .inr ⟨b, off + 1, had h0, h1, h2, fun i hi => ?_⟩⟩
 rw [show off + 1 + i = off + (i + 1) by omega]
 exact h3 (i + 1) (by omega)
set_option maxHeartbeats 2000000 in
theorem zj0 (pb b off c L z : Nat) (v : Value) (xs : List ByteArray) (t : ByteArray) (ii : Int) (ak : Option Addr) (l : Nat) (ck : Nat) (y : Nat -> Int) (rec : Int -> List ByteArray) (T : Nat) (w0 w : World) 
 (hbT : b < pb) (hz : z < L) (hL : L <= 3000) (c0 : w0.cell? ⟨b, off + z * 4, none⟩ = some (.int .i64 1)) (c1 : w0.cell? ⟨b, off + z * 4 + 1, none⟩ = some (.string t)) (c2 : w0.cell? ⟨b, off + z * 4 + 2, none⟩ = some (.int .i64 ii)) (c3 : w0.cell? ⟨b, off + z * 4 + 3, none⟩ = some (.slice ak l ck))
 (hk : SlF T w0 (.slice ak l ck) l l (fun i => .int .i64 (y i))) (hT : T <= pb) (hl : l <= 1048576) (hc1 : l <= ck) (hc2 : ck <= 1048576) (hs : xs.length + 40 * (([⟨#[110, 105, 108]⟩] : List ByteArray).length + 1) <= 1000000)
 (hp : Pnt pb (.slice (some ⟨b, off, none⟩) L c) w v xs) (hb : Below pb w0 w) (hr : ∀ m, m < l -> Pr pb (.slice (some ⟨b, off, none⟩) L c) w0 rec (y m)) :
 Calls Tryd.prog 87 #[.pointer (some ⟨pb, 0, none⟩), .int .i64 (z : Int)] w (zb pb (.slice (some ⟨b, off, none⟩) L c) xs ([⟨#[110, 105, 108]⟩]) w v) := by
 have hz' : (z : Int) < (L : Int) := by omega
 have hL' : (L : Int) <= 3000 := by omega
 have lw := hp.lt
 have n0 := hp.c0
 have lb1 : b < w.heap.size := by omega
 rw [<- hb.cell (p := ⟨b, off + z * 4, none⟩) hbT] at c0
 rw [<- hb.cell (p := ⟨b, off + z * 4 + 1, none⟩) hbT] at c1
 rw [<- hb.cell (p := ⟨b, off + z * 4 + 2, none⟩) hbT] at c2
 rw [<- hb.cell (p := ⟨b, off + z * 4 + 3, none⟩) hbT] at c3
 have B1 : Below w.heap.size w (w.alloc (.cells #[.int .i64 1, .string t, .int .i64 ii, .slice ak l ck] 71)) := (Below.refl _ _).alloc (Nat.le_refl _) _
 have KC : ∀ z, ((w.alloc (.cells #[.int .i64 1, .string t, .int .i64 ii, .slice ak l ck] 71))).cell? ⟨w.heap.size, z, none⟩ = (#[.int .i64 1, .string t, .int .i64 ii, .slice ak l ck] : Array Value)[z]? := fun z => by simp [go_sem]
 have hrb : v.ownBlock ≠ some w.heap.size := fun e => by have := (World.ownsRow.lt hp.own _ e).2; omega
 have HP : Hid (Pnt pb (.slice (some ⟨b, off, none⟩) L c) (w.alloc (.cells #[.int .i64 1, .string t, .int .i64 ii, .slice ak l ck] 71)) v xs) := hp.below B1
 have HB : Hid (Below pb w0 (w.alloc (.cells #[.int .i64 1, .string t, .int .i64 ii, .slice ak l ck] 71))) := hb.trans (B1.mono (by omega))
 have HKA : Hid (SlF T w0 (.slice ak l ck) l l (fun i => .int .i64 (y i))) := hk
 have HRA : Hid (∀ m, m < l -> Pr pb (.slice (some ⟨b, off, none⟩) L c) w0 rec (y m)) := hr
 have G0 : Hid (Pg pb (w.alloc (.cells #[.int .i64 1, .string t, .int .i64 ii, .slice ak l ck] 71)) v (w.alloc (.cells #[.int .i64 1, .string t, .int .i64 ii, .slice ak l ck] 71)) v) := Pg.refl _ _ _
 clear hp hr
 go_enter Tryd.func87, Tryd.ntmps87
 go_wp2_with fail
 refine (zf0 pb _ v xs t ii ak l ck y rec T w0 (w.alloc (.cells #[.int .i64 1, .string t, .int .i64 ii, .slice ak l ck] 71)) HKA.out hT hl (by (try simp [List.length_append] at hs); (try simp [List.length_append]); omega) (by omega) HP.out HB.out HRA.out).mono ?_
 rintro e w2 ⟨rfl, v2, p2, g2⟩
 go_wp2
 go_end0
 exact ⟨rfl, v2, p2, (Pg.of_below B1).trans g2⟩
set_option maxHeartbeats 2000000 in
theorem zj1 (pb b off c L z : Nat) (v : Value) (xs : List ByteArray) (t : ByteArray) (ii : Int) (ak : Option Addr) (l : Nat) (ck : Nat) (y : Nat -> Int) (rec : Int -> List ByteArray) (T : Nat) (w0 w : World) 
 (hbT : b < pb) (hz : z < L) (hL : L <= 3000) (c0 : w0.cell? ⟨b, off + z * 4, none⟩ = some (.int .i64 5)) (c1 : w0.cell? ⟨b, off + z * 4 + 1, none⟩ = some (.string t)) (c2 : w0.cell? ⟨b, off + z * 4 + 2, none⟩ = some (.int .i64 ii)) (c3 : w0.cell? ⟨b, off + z * 4 + 3, none⟩ = some (.slice ak l ck))
 (hk : SlF T w0 (.slice ak l ck) l l (fun i => .int .i64 (y i))) (hT : T <= pb) (hl : l <= 1048576) (hc1 : l <= ck) (hc2 : ck <= 1048576) (hs : xs.length + 40 * (([t] : List ByteArray).length + 1) <= 1000000)
 (hp : Pnt pb (.slice (some ⟨b, off, none⟩) L c) w v xs) (hb : Below pb w0 w) (hr : ∀ m, m < l -> Pr pb (.slice (some ⟨b, off, none⟩) L c) w0 rec (y m)) :
 Calls Tryd.prog 87 #[.pointer (some ⟨pb, 0, none⟩), .int .i64 (z : Int)] w (zb pb (.slice (some ⟨b, off, none⟩) L c) xs ([t]) w v) := by
 have hz' : (z : Int) < (L : Int) := by omega
 have hL' : (L : Int) <= 3000 := by omega
 have lw := hp.lt
 have n0 := hp.c0
 have lb1 : b < w.heap.size := by omega
 rw [<- hb.cell (p := ⟨b, off + z * 4, none⟩) hbT] at c0
 rw [<- hb.cell (p := ⟨b, off + z * 4 + 1, none⟩) hbT] at c1
 rw [<- hb.cell (p := ⟨b, off + z * 4 + 2, none⟩) hbT] at c2
 rw [<- hb.cell (p := ⟨b, off + z * 4 + 3, none⟩) hbT] at c3
 have B1 : Below w.heap.size w (w.alloc (.cells #[.int .i64 5, .string t, .int .i64 ii, .slice ak l ck] 71)) := (Below.refl _ _).alloc (Nat.le_refl _) _
 have KC : ∀ z, ((w.alloc (.cells #[.int .i64 5, .string t, .int .i64 ii, .slice ak l ck] 71))).cell? ⟨w.heap.size, z, none⟩ = (#[.int .i64 5, .string t, .int .i64 ii, .slice ak l ck] : Array Value)[z]? := fun z => by simp [go_sem]
 have hrb : v.ownBlock ≠ some w.heap.size := fun e => by have := (World.ownsRow.lt hp.own _ e).2; omega
 have HP : Hid (Pnt pb (.slice (some ⟨b, off, none⟩) L c) (w.alloc (.cells #[.int .i64 5, .string t, .int .i64 ii, .slice ak l ck] 71)) v xs) := hp.below B1
 have HB : Hid (Below pb w0 (w.alloc (.cells #[.int .i64 5, .string t, .int .i64 ii, .slice ak l ck] 71))) := hb.trans (B1.mono (by omega))
 have HKA : Hid (SlF T w0 (.slice ak l ck) l l (fun i => .int .i64 (y i))) := hk
 have HRA : Hid (∀ m, m < l -> Pr pb (.slice (some ⟨b, off, none⟩) L c) w0 rec (y m)) := hr
 have G0 : Hid (Pg pb (w.alloc (.cells #[.int .i64 5, .string t, .int .i64 ii, .slice ak l ck] 71)) v (w.alloc (.cells #[.int .i64 5, .string t, .int .i64 ii, .slice ak l ck] 71)) v) := Pg.refl _ _ _
 clear hp hr
 go_enter Tryd.func87, Tryd.ntmps87
 go_wp2_with fail
 refine (zf1 pb _ v xs t ii ak l ck y rec T w0 (w.alloc (.cells #[.int .i64 5, .string t, .int .i64 ii, .slice ak l ck] 71)) HKA.out hT hl (by (try simp [List.length_append] at hs); (try simp [List.length_append]); omega) (by omega) HP.out HB.out HRA.out).mono ?_
 rintro e w2 ⟨rfl, v2, p2, g2⟩
 go_wp2
 go_end0
 exact ⟨rfl, v2, p2, (Pg.of_below B1).trans g2⟩
set_option maxHeartbeats 2000000 in
theorem zj2 (pb b off c L z : Nat) (v : Value) (xs : List ByteArray) (t : ByteArray) (ii : Int) (bk ok : Nat) (ck : Nat) (y : Nat -> Int) (rec : Int -> List ByteArray) (T : Nat) (w0 w : World) 
 (hbT : b < pb) (hz : z < L) (hL : L <= 3000) (c0 : w0.cell? ⟨b, off + z * 4, none⟩ = some (.int .i64 8)) (c1 : w0.cell? ⟨b, off + z * 4 + 1, none⟩ = some (.string t)) (c2 : w0.cell? ⟨b, off + z * 4 + 2, none⟩ = some (.int .i64 ii)) (c3 : w0.cell? ⟨b, off + z * 4 + 3, none⟩ = some (.slice (some ⟨bk, ok, none⟩) 2 ck))
 (hk : SlF T w0 (.slice (some ⟨bk, ok, none⟩) 2 ck) 2 2 (fun i => .int .i64 (y i))) (hT : T <= pb) (hl : 2 <= 1048576) (hc1 : 2 <= ck) (hc2 : ck <= 1048576) (hs : xs.length + 40 * ((rec (y 0) ++ [⟨#[91]⟩] ++ rec (y 1) ++ [⟨#[93]⟩] : List ByteArray).length + 1) <= 1000000)
 (hp : Pnt pb (.slice (some ⟨b, off, none⟩) L c) w v xs) (hb : Below pb w0 w) (hr : ∀ m, m < 2 -> Pr pb (.slice (some ⟨b, off, none⟩) L c) w0 rec (y m)) :
 Calls Tryd.prog 87 #[.pointer (some ⟨pb, 0, none⟩), .int .i64 (z : Int)] w (zb pb (.slice (some ⟨b, off, none⟩) L c) xs (rec (y 0) ++ [⟨#[91]⟩] ++ rec (y 1) ++ [⟨#[93]⟩]) w v) := by
 have hz' : (z : Int) < (L : Int) := by omega
 have hL' : (L : Int) <= 3000 := by omega
 have lw := hp.lt
 have n0 := hp.c0
 have lb1 : b < w.heap.size := by omega
 rw [<- hb.cell (p := ⟨b, off + z * 4, none⟩) hbT] at c0
 rw [<- hb.cell (p := ⟨b, off + z * 4 + 1, none⟩) hbT] at c1
 rw [<- hb.cell (p := ⟨b, off + z * 4 + 2, none⟩) hbT] at c2
 rw [<- hb.cell (p := ⟨b, off + z * 4 + 3, none⟩) hbT] at c3
 have B1 : Below w.heap.size w (w.alloc (.cells #[.int .i64 8, .string t, .int .i64 ii, .slice (some ⟨bk, ok, none⟩) 2 ck] 71)) := (Below.refl _ _).alloc (Nat.le_refl _) _
 have KC : ∀ z, ((w.alloc (.cells #[.int .i64 8, .string t, .int .i64 ii, .slice (some ⟨bk, ok, none⟩) 2 ck] 71))).cell? ⟨w.heap.size, z, none⟩ = (#[.int .i64 8, .string t, .int .i64 ii, .slice (some ⟨bk, ok, none⟩) 2 ck] : Array Value)[z]? := fun z => by simp [go_sem]
 have hrb : v.ownBlock ≠ some w.heap.size := fun e => by have := (World.ownsRow.lt hp.own _ e).2; omega
 have HP : Hid (Pnt pb (.slice (some ⟨b, off, none⟩) L c) (w.alloc (.cells #[.int .i64 8, .string t, .int .i64 ii, .slice (some ⟨bk, ok, none⟩) 2 ck] 71)) v xs) := hp.below B1
 have HB : Hid (Below pb w0 (w.alloc (.cells #[.int .i64 8, .string t, .int .i64 ii, .slice (some ⟨bk, ok, none⟩) 2 ck] 71))) := hb.trans (B1.mono (by omega))
 have HKA : Hid (SlF T w0 (.slice (some ⟨bk, ok, none⟩) 2 ck) 2 2 (fun i => .int .i64 (y i))) := hk
 have HRA : Hid (∀ m, m < 2 -> Pr pb (.slice (some ⟨b, off, none⟩) L c) w0 rec (y m)) := hr
 have G0 : Hid (Pg pb (w.alloc (.cells #[.int .i64 8, .string t, .int .i64 ii, .slice (some ⟨bk, ok, none⟩) 2 ck] 71)) v (w.alloc (.cells #[.int .i64 8, .string t, .int .i64 ii, .slice (some ⟨bk, ok, none⟩) 2 ck] 71)) v) := Pg.refl _ _ _
 clear hp hr
 go_enter Tryd.func87, Tryd.ntmps87
 go_wp2_with fail
 refine (zcd pb _ v xs _ 2 ck y rec T w0 (w.alloc (.cells #[.int .i64 8, .string t, .int .i64 ii, .slice (some ⟨bk, ok, none⟩) 2 ck] 71)) HKA.out hT (by omega) hs (by omega) HP.out HB.out HRA.out).mono ?_
 rintro e w2 ⟨rfl, v2, p2, g2⟩
 go_wp2
 go_end0
 exact ⟨rfl, v2, p2, (Pg.of_below B1).trans g2⟩
set_option maxHeartbeats 2000000 in
theorem ziy (pb b off c L z : Nat) (v : Value) (xs : List ByteArray) (t : ByteArray) (ii : Int) (bk ok : Nat) (ck : Nat) (y : Nat -> Int) (rec : Int -> List ByteArray) (T : Nat) (w0 w : World) 
 (hbT : b < pb) (hz : z < L) (hL : L <= 3000) (c0 : w0.cell? ⟨b, off + z * 4, none⟩ = some (.int .i64 14)) (c1 : w0.cell? ⟨b, off + z * 4 + 1, none⟩ = some (.string t)) (c2 : w0.cell? ⟨b, off + z * 4 + 2, none⟩ = some (.int .i64 ii)) (c3 : w0.cell? ⟨b, off + z * 4 + 3, none⟩ = some (.slice (some ⟨bk, ok, none⟩) 1 ck))
 (hk : SlF T w0 (.slice (some ⟨bk, ok, none⟩) 1 ck) 1 1 (fun i => .int .i64 (y i))) (hT : T <= pb) (hl : 1 <= 1048576) (hc1 : 1 <= ck) (hc2 : ck <= 1048576) (hs : xs.length + 40 * (([⟨#[108, 111, 99, 97, 108]⟩, t, ⟨#[61]⟩] ++ rec (y 0) ++ [⟨#[59]⟩] : List ByteArray).length + 1) <= 1000000)
 (hp : Pnt pb (.slice (some ⟨b, off, none⟩) L c) w v xs) (hb : Below pb w0 w) (hr : ∀ m, m < 1 -> Pr pb (.slice (some ⟨b, off, none⟩) L c) w0 rec (y m)) :
 Calls Tryd.prog 87 #[.pointer (some ⟨pb, 0, none⟩), .int .i64 (z : Int)] w (zb pb (.slice (some ⟨b, off, none⟩) L c) xs ([⟨#[108, 111, 99, 97, 108]⟩, t, ⟨#[61]⟩] ++ rec (y 0) ++ [⟨#[59]⟩]) w v) := by
 have hz' : (z : Int) < (L : Int) := by omega
 have hL' : (L : Int) <= 3000 := by omega
 have lw := hp.lt
 have n0 := hp.c0
 have lb1 : b < w.heap.size := by omega
 rw [<- hb.cell (p := ⟨b, off + z * 4, none⟩) hbT] at c0
 rw [<- hb.cell (p := ⟨b, off + z * 4 + 1, none⟩) hbT] at c1
 rw [<- hb.cell (p := ⟨b, off + z * 4 + 2, none⟩) hbT] at c2
 rw [<- hb.cell (p := ⟨b, off + z * 4 + 3, none⟩) hbT] at c3
 have B1 : Below w.heap.size w (w.alloc (.cells #[.int .i64 14, .string t, .int .i64 ii, .slice (some ⟨bk, ok, none⟩) 1 ck] 71)) := (Below.refl _ _).alloc (Nat.le_refl _) _
 have KC : ∀ z, ((w.alloc (.cells #[.int .i64 14, .string t, .int .i64 ii, .slice (some ⟨bk, ok, none⟩) 1 ck] 71))).cell? ⟨w.heap.size, z, none⟩ = (#[.int .i64 14, .string t, .int .i64 ii, .slice (some ⟨bk, ok, none⟩) 1 ck] : Array Value)[z]? := fun z => by simp [go_sem]
 have hrb : v.ownBlock ≠ some w.heap.size := fun e => by have := (World.ownsRow.lt hp.own _ e).2; omega
 have HP : Hid (Pnt pb (.slice (some ⟨b, off, none⟩) L c) (w.alloc (.cells #[.int .i64 14, .string t, .int .i64 ii, .slice (some ⟨bk, ok, none⟩) 1 ck] 71)) v xs) := hp.below B1
 have HB : Hid (Below pb w0 (w.alloc (.cells #[.int .i64 14, .string t, .int .i64 ii, .slice (some ⟨bk, ok, none⟩) 1 ck] 71))) := hb.trans (B1.mono (by omega))
 have HKA : Hid (SlF T w0 (.slice (some ⟨bk, ok, none⟩) 1 ck) 1 1 (fun i => .int .i64 (y i))) := hk
 have HRA : Hid (∀ m, m < 1 -> Pr pb (.slice (some ⟨b, off, none⟩) L c) w0 rec (y m)) := hr
 have G0 : Hid (Pg pb (w.alloc (.cells #[.int .i64 14, .string t, .int .i64 ii, .slice (some ⟨bk, ok, none⟩) 1 ck] 71)) v (w.alloc (.cells #[.int .i64 14, .string t, .int .i64 ii, .slice (some ⟨bk, ok, none⟩) 1 ck] 71)) v) := Pg.refl _ _ _
 clear hp hr
 go_enter Tryd.func87, Tryd.ntmps87
 go_wp2_with fail
 refine (zv _ _).mono ?_
 rintro e wx ⟨rfl, hwx⟩
 rw [hwx]
 clear hwx wx
 go_wp2_with fail
 refine (zaf _ _).mono ?_
 rintro e wx ⟨rfl, hwx⟩
 rw [hwx]
 clear hwx wx
 go_wp2_with fail
 refine (zda pb _ v xs t ii _ 1 ck y rec T w0 (w.alloc (.cells #[.int .i64 14, .string t, .int .i64 ii, .slice (some ⟨bk, ok, none⟩) 1 ck] 71)) HKA.out hT (by omega) hs (by omega) HP.out HB.out HRA.out).mono ?_
 rintro e w2 ⟨rfl, v2, p2, g2⟩
 go_wp2
 go_end0
 exact ⟨rfl, v2, p2, (Pg.of_below B1).trans g2⟩
set_option maxHeartbeats 2000000 in
theorem ziz (pb b off c L z : Nat) (v : Value) (xs : List ByteArray) (t : ByteArray) (ii : Int) (bk ok : Nat) (ck : Nat) (y : Nat -> Int) (rec : Int -> List ByteArray) (T : Nat) (w0 w : World) 
 (hbT : b < pb) (hz : z < L) (hL : L <= 3000) (c0 : w0.cell? ⟨b, off + z * 4, none⟩ = some (.int .i64 15)) (c1 : w0.cell? ⟨b, off + z * 4 + 1, none⟩ = some (.string t)) (c2 : w0.cell? ⟨b, off + z * 4 + 2, none⟩ = some (.int .i64 ii)) (c3 : w0.cell? ⟨b, off + z * 4 + 3, none⟩ = some (.slice (some ⟨bk, ok, none⟩) 1 ck))
 (hk : SlF T w0 (.slice (some ⟨bk, ok, none⟩) 1 ck) 1 1 (fun i => .int .i64 (y i))) (hT : T <= pb) (hl : 1 <= 1048576) (hc1 : 1 <= ck) (hc2 : ck <= 1048576) (hs : xs.length + 40 * (([t, ⟨#[61]⟩] ++ rec (y 0) ++ [⟨#[59]⟩] : List ByteArray).length + 1) <= 1000000)
 (hp : Pnt pb (.slice (some ⟨b, off, none⟩) L c) w v xs) (hb : Below pb w0 w) (hr : ∀ m, m < 1 -> Pr pb (.slice (some ⟨b, off, none⟩) L c) w0 rec (y m)) :
 Calls Tryd.prog 87 #[.pointer (some ⟨pb, 0, none⟩), .int .i64 (z : Int)] w (zb pb (.slice (some ⟨b, off, none⟩) L c) xs ([t, ⟨#[61]⟩] ++ rec (y 0) ++ [⟨#[59]⟩]) w v) := by
 have hz' : (z : Int) < (L : Int) := by omega
 have hL' : (L : Int) <= 3000 := by omega
 have lw := hp.lt
 have n0 := hp.c0
 have lb1 : b < w.heap.size := by omega
 rw [<- hb.cell (p := ⟨b, off + z * 4, none⟩) hbT] at c0
 rw [<- hb.cell (p := ⟨b, off + z * 4 + 1, none⟩) hbT] at c1
 rw [<- hb.cell (p := ⟨b, off + z * 4 + 2, none⟩) hbT] at c2
 rw [<- hb.cell (p := ⟨b, off + z * 4 + 3, none⟩) hbT] at c3
 have B1 : Below w.heap.size w (w.alloc (.cells #[.int .i64 15, .string t, .int .i64 ii, .slice (some ⟨bk, ok, none⟩) 1 ck] 71)) := (Below.refl _ _).alloc (Nat.le_refl _) _
 have KC : ∀ z, ((w.alloc (.cells #[.int .i64 15, .string t, .int .i64 ii, .slice (some ⟨bk, ok, none⟩) 1 ck] 71))).cell? ⟨w.heap.size, z, none⟩ = (#[.int .i64 15, .string t, .int .i64 ii, .slice (some ⟨bk, ok, none⟩) 1 ck] : Array Value)[z]? := fun z => by simp [go_sem]
 have hrb : v.ownBlock ≠ some w.heap.size := fun e => by have := (World.ownsRow.lt hp.own _ e).2; omega
 have HP : Hid (Pnt pb (.slice (some ⟨b, off, none⟩) L c) (w.alloc (.cells #[.int .i64 15, .string t, .int .i64 ii, .slice (some ⟨bk, ok, none⟩) 1 ck] 71)) v xs) := hp.below B1
 have HB : Hid (Below pb w0 (w.alloc (.cells #[.int .i64 15, .string t, .int .i64 ii, .slice (some ⟨bk, ok, none⟩) 1 ck] 71))) := hb.trans (B1.mono (by omega))
 have HKA : Hid (SlF T w0 (.slice (some ⟨bk, ok, none⟩) 1 ck) 1 1 (fun i => .int .i64 (y i))) := hk
 have HRA : Hid (∀ m, m < 1 -> Pr pb (.slice (some ⟨b, off, none⟩) L c) w0 rec (y m)) := hr
 have G0 : Hid (Pg pb (w.alloc (.cells #[.int .i64 15, .string t, .int .i64 ii, .slice (some ⟨bk, ok, none⟩) 1 ck] 71)) v (w.alloc (.cells #[.int .i64 15, .string t, .int .i64 ii, .slice (some ⟨bk, ok, none⟩) 1 ck] 71)) v) := Pg.refl _ _ _
 clear hp hr
 go_enter Tryd.func87, Tryd.ntmps87
 go_wp2_with fail
 refine (zv _ _).mono ?_
 rintro e wx ⟨rfl, hwx⟩
 rw [hwx]
 clear hwx wx
 go_wp2_with fail
 refine (zaf _ _).mono ?_
 rintro e wx ⟨rfl, hwx⟩
 rw [hwx]
 clear hwx wx
 go_wp2_with fail
 refine (zdb pb _ v xs t ii _ 1 ck y rec T w0 (w.alloc (.cells #[.int .i64 15, .string t, .int .i64 ii, .slice (some ⟨bk, ok, none⟩) 1 ck] 71)) HKA.out hT (by omega) hs (by omega) HP.out HB.out HRA.out).mono ?_
 rintro e w2 ⟨rfl, v2, p2, g2⟩
 go_wp2
 go_end0
 exact ⟨rfl, v2, p2, (Pg.of_below B1).trans g2⟩
set_option maxHeartbeats 2000000 in
theorem zi0 (pb b off c L z : Nat) (v : Value) (xs : List ByteArray) (t : ByteArray) (ii : Int) (bk ok : Nat) (ck : Nat) (y : Nat -> Int) (rec : Int -> List ByteArray) (T : Nat) (w0 w : World) 
 (hbT : b < pb) (hz : z < L) (hL : L <= 3000) (c0 : w0.cell? ⟨b, off + z * 4, none⟩ = some (.int .i64 16)) (c1 : w0.cell? ⟨b, off + z * 4 + 1, none⟩ = some (.string t)) (c2 : w0.cell? ⟨b, off + z * 4 + 2, none⟩ = some (.int .i64 ii)) (c3 : w0.cell? ⟨b, off + z * 4 + 3, none⟩ = some (.slice (some ⟨bk, ok, none⟩) 3 ck))
 (hk : SlF T w0 (.slice (some ⟨bk, ok, none⟩) 3 ck) 3 3 (fun i => .int .i64 (y i))) (hT : T <= pb) (hl : 3 <= 1048576) (hc1 : 3 <= ck) (hc2 : ck <= 1048576) (hs : xs.length + 40 * ((rec (y 0) ++ [⟨#[91]⟩] ++ rec (y 1) ++ [⟨#[93]⟩, ⟨#[61]⟩] ++ rec (y 2) ++ [⟨#[59]⟩] : List ByteArray).length + 1) <= 1000000)
 (hp : Pnt pb (.slice (some ⟨b, off, none⟩) L c) w v xs) (hb : Below pb w0 w) (hr : ∀ m, m < 3 -> Pr pb (.slice (some ⟨b, off, none⟩) L c) w0 rec (y m)) :
 Calls Tryd.prog 87 #[.pointer (some ⟨pb, 0, none⟩), .int .i64 (z : Int)] w (zb pb (.slice (some ⟨b, off, none⟩) L c) xs (rec (y 0) ++ [⟨#[91]⟩] ++ rec (y 1) ++ [⟨#[93]⟩, ⟨#[61]⟩] ++ rec (y 2) ++ [⟨#[59]⟩]) w v) := by
 have hz' : (z : Int) < (L : Int) := by omega
 have hL' : (L : Int) <= 3000 := by omega
 have lw := hp.lt
 have n0 := hp.c0
 have lb1 : b < w.heap.size := by omega
 rw [<- hb.cell (p := ⟨b, off + z * 4, none⟩) hbT] at c0
 rw [<- hb.cell (p := ⟨b, off + z * 4 + 1, none⟩) hbT] at c1
 rw [<- hb.cell (p := ⟨b, off + z * 4 + 2, none⟩) hbT] at c2
 rw [<- hb.cell (p := ⟨b, off + z * 4 + 3, none⟩) hbT] at c3
 have B1 : Below w.heap.size w (w.alloc (.cells #[.int .i64 16, .string t, .int .i64 ii, .slice (some ⟨bk, ok, none⟩) 3 ck] 71)) := (Below.refl _ _).alloc (Nat.le_refl _) _
 have KC : ∀ z, ((w.alloc (.cells #[.int .i64 16, .string t, .int .i64 ii, .slice (some ⟨bk, ok, none⟩) 3 ck] 71))).cell? ⟨w.heap.size, z, none⟩ = (#[.int .i64 16, .string t, .int .i64 ii, .slice (some ⟨bk, ok, none⟩) 3 ck] : Array Value)[z]? := fun z => by simp [go_sem]
 have hrb : v.ownBlock ≠ some w.heap.size := fun e => by have := (World.ownsRow.lt hp.own _ e).2; omega
 have HP : Hid (Pnt pb (.slice (some ⟨b, off, none⟩) L c) (w.alloc (.cells #[.int .i64 16, .string t, .int .i64 ii, .slice (some ⟨bk, ok, none⟩) 3 ck] 71)) v xs) := hp.below B1
 have HB : Hid (Below pb w0 (w.alloc (.cells #[.int .i64 16, .string t, .int .i64 ii, .slice (some ⟨bk, ok, none⟩) 3 ck] 71))) := hb.trans (B1.mono (by omega))
 have HKA : Hid (SlF T w0 (.slice (some ⟨bk, ok, none⟩) 3 ck) 3 3 (fun i => .int .i64 (y i))) := hk
 have HRA : Hid (∀ m, m < 3 -> Pr pb (.slice (some ⟨b, off, none⟩) L c) w0 rec (y m)) := hr
 have G0 : Hid (Pg pb (w.alloc (.cells #[.int .i64 16, .string t, .int .i64 ii, .slice (some ⟨bk, ok, none⟩) 3 ck] 71)) v (w.alloc (.cells #[.int .i64 16, .string t, .int .i64 ii, .slice (some ⟨bk, ok, none⟩) 3 ck] 71)) v) := Pg.refl _ _ _
 clear hp hr
 go_enter Tryd.func87, Tryd.ntmps87
 go_wp2_with fail
 refine (zv _ _).mono ?_
 rintro e wx ⟨rfl, hwx⟩
 rw [hwx]
 clear hwx wx
 go_wp2_with fail
 refine (zaf _ _).mono ?_
 rintro e wx ⟨rfl, hwx⟩
 rw [hwx]
 clear hwx wx
 go_wp2_with fail
 refine (zde pb _ v xs t ii _ 3 ck y rec T w0 (w.alloc (.cells #[.int .i64 16, .string t, .int .i64 ii, .slice (some ⟨bk, ok, none⟩) 3 ck] 71)) HKA.out hT (by omega) hs (by omega) HP.out HB.out HRA.out).mono ?_
 rintro e w2 ⟨rfl, v2, p2, g2⟩
 go_wp2
 go_end0
 exact ⟨rfl, v2, p2, (Pg.of_below B1).trans g2⟩
set_option maxHeartbeats 2000000 in
theorem zi1 (pb b off c L z : Nat) (v : Value) (xs : List ByteArray) (t : ByteArray) (ii : Int) (bk ok : Nat) (ck : Nat) (y : Nat -> Int) (rec : Int -> List ByteArray) (T : Nat) (w0 w : World) 
 (hbT : b < pb) (hz : z < L) (hL : L <= 3000) (c0 : w0.cell? ⟨b, off + z * 4, none⟩ = some (.int .i64 18)) (c1 : w0.cell? ⟨b, off + z * 4 + 1, none⟩ = some (.string t)) (c2 : w0.cell? ⟨b, off + z * 4 + 2, none⟩ = some (.int .i64 ii)) (c3 : w0.cell? ⟨b, off + z * 4 + 3, none⟩ = some (.slice (some ⟨bk, ok, none⟩) 2 ck))
 (hk : SlF T w0 (.slice (some ⟨bk, ok, none⟩) 2 ck) 2 2 (fun i => .int .i64 (y i))) (hT : T <= pb) (hl : 2 <= 1048576) (hc1 : 2 <= ck) (hc2 : ck <= 1048576) (hs : xs.length + 40 * (([⟨#[119, 104, 105, 108, 101]⟩] ++ flN rec y 2 : List ByteArray).length + 1) <= 1000000)
 (hp : Pnt pb (.slice (some ⟨b, off, none⟩) L c) w v xs) (hb : Below pb w0 w) (hr : ∀ m, m < 2 -> Pr pb (.slice (some ⟨b, off, none⟩) L c) w0 rec (y m)) :
 Calls Tryd.prog 87 #[.pointer (some ⟨pb, 0, none⟩), .int .i64 (z : Int)] w (zb pb (.slice (some ⟨b, off, none⟩) L c) xs ([⟨#[119, 104, 105, 108, 101]⟩] ++ flN rec y 2) w v) := by
 have hz' : (z : Int) < (L : Int) := by omega
 have hL' : (L : Int) <= 3000 := by omega
 have lw := hp.lt
 have n0 := hp.c0
 have lb1 : b < w.heap.size := by omega
 rw [<- hb.cell (p := ⟨b, off + z * 4, none⟩) hbT] at c0
 rw [<- hb.cell (p := ⟨b, off + z * 4 + 1, none⟩) hbT] at c1
 rw [<- hb.cell (p := ⟨b, off + z * 4 + 2, none⟩) hbT] at c2
 rw [<- hb.cell (p := ⟨b, off + z * 4 + 3, none⟩) hbT] at c3
 have B1 : Below w.heap.size w (w.alloc (.cells #[.int .i64 18, .string t, .int .i64 ii, .slice (some ⟨bk, ok, none⟩) 2 ck] 71)) := (Below.refl _ _).alloc (Nat.le_refl _) _
 have KC : ∀ z, ((w.alloc (.cells #[.int .i64 18, .string t, .int .i64 ii, .slice (some ⟨bk, ok, none⟩) 2 ck] 71))).cell? ⟨w.heap.size, z, none⟩ = (#[.int .i64 18, .string t, .int .i64 ii, .slice (some ⟨bk, ok, none⟩) 2 ck] : Array Value)[z]? := fun z => by simp [go_sem]
 have hrb : v.ownBlock ≠ some w.heap.size := fun e => by have := (World.ownsRow.lt hp.own _ e).2; omega
 have HP : Hid (Pnt pb (.slice (some ⟨b, off, none⟩) L c) (w.alloc (.cells #[.int .i64 18, .string t, .int .i64 ii, .slice (some ⟨bk, ok, none⟩) 2 ck] 71)) v xs) := hp.below B1
 have HB : Hid (Below pb w0 (w.alloc (.cells #[.int .i64 18, .string t, .int .i64 ii, .slice (some ⟨bk, ok, none⟩) 2 ck] 71))) := hb.trans (B1.mono (by omega))
 have HKA : Hid (SlF T w0 (.slice (some ⟨bk, ok, none⟩) 2 ck) 2 2 (fun i => .int .i64 (y i))) := hk
 have HRA : Hid (∀ m, m < 2 -> Pr pb (.slice (some ⟨b, off, none⟩) L c) w0 rec (y m)) := hr
 have G0 : Hid (Pg pb (w.alloc (.cells #[.int .i64 18, .string t, .int .i64 ii, .slice (some ⟨bk, ok, none⟩) 2 ck] 71)) v (w.alloc (.cells #[.int .i64 18, .string t, .int .i64 ii, .slice (some ⟨bk, ok, none⟩) 2 ck] 71)) v) := Pg.refl _ _ _
 clear hp hr
 go_enter Tryd.func87, Tryd.ntmps87
 go_wp2_with fail
 refine (zv _ _).mono ?_
 rintro e wx ⟨rfl, hwx⟩
 rw [hwx]
 clear hwx wx
 go_wp2_with fail
 refine (zaf _ _).mono ?_
 rintro e wx ⟨rfl, hwx⟩
 rw [hwx]
 clear hwx wx
 go_wp2_with fail
 refine (zdf pb _ v xs t ii _ 2 ck y rec T w0 (w.alloc (.cells #[.int .i64 18, .string t, .int .i64 ii, .slice (some ⟨bk, ok, none⟩) 2 ck] 71)) HKA.out hT (by omega) hs (by omega) HP.out HB.out HRA.out).mono ?_
 rintro e w2 ⟨rfl, v2, p2, g2⟩
 go_wp2
 go_end0
 exact ⟨rfl, v2, p2, (Pg.of_below B1).trans g2⟩
set_option maxHeartbeats 2000000 in
theorem zi2 (pb b off c L z : Nat) (v : Value) (xs : List ByteArray) (t : ByteArray) (ii : Int) (bk ok : Nat) (ck : Nat) (y : Nat -> Int) (rec : Int -> List ByteArray) (T : Nat) (w0 w : World) 
 (hbT : b < pb) (hz : z < L) (hL : L <= 3000) (c0 : w0.cell? ⟨b, off + z * 4, none⟩ = some (.int .i64 19)) (c1 : w0.cell? ⟨b, off + z * 4 + 1, none⟩ = some (.string t)) (c2 : w0.cell? ⟨b, off + z * 4 + 2, none⟩ = some (.int .i64 ii)) (c3 : w0.cell? ⟨b, off + z * 4 + 3, none⟩ = some (.slice (some ⟨bk, ok, none⟩) 1 ck))
 (hk : SlF T w0 (.slice (some ⟨bk, ok, none⟩) 1 ck) 1 1 (fun i => .int .i64 (y i))) (hT : T <= pb) (hl : 1 <= 1048576) (hc1 : 1 <= ck) (hc2 : ck <= 1048576) (hs : xs.length + 40 * (([⟨#[114, 101, 116, 117, 114, 110]⟩] ++ rec (y 0) ++ [⟨#[59]⟩] : List ByteArray).length + 1) <= 1000000)
 (hp : Pnt pb (.slice (some ⟨b, off, none⟩) L c) w v xs) (hb : Below pb w0 w) (hr : ∀ m, m < 1 -> Pr pb (.slice (some ⟨b, off, none⟩) L c) w0 rec (y m)) :
 Calls Tryd.prog 87 #[.pointer (some ⟨pb, 0, none⟩), .int .i64 (z : Int)] w (zb pb (.slice (some ⟨b, off, none⟩) L c) xs ([⟨#[114, 101, 116, 117, 114, 110]⟩] ++ rec (y 0) ++ [⟨#[59]⟩]) w v) := by
 have hz' : (z : Int) < (L : Int) := by omega
 have hL' : (L : Int) <= 3000 := by omega
 have lw := hp.lt
 have n0 := hp.c0
 have lb1 : b < w.heap.size := by omega
 rw [<- hb.cell (p := ⟨b, off + z * 4, none⟩) hbT] at c0
 rw [<- hb.cell (p := ⟨b, off + z * 4 + 1, none⟩) hbT] at c1
 rw [<- hb.cell (p := ⟨b, off + z * 4 + 2, none⟩) hbT] at c2
 rw [<- hb.cell (p := ⟨b, off + z * 4 + 3, none⟩) hbT] at c3
 have B1 : Below w.heap.size w (w.alloc (.cells #[.int .i64 19, .string t, .int .i64 ii, .slice (some ⟨bk, ok, none⟩) 1 ck] 71)) := (Below.refl _ _).alloc (Nat.le_refl _) _
 have KC : ∀ z, ((w.alloc (.cells #[.int .i64 19, .string t, .int .i64 ii, .slice (some ⟨bk, ok, none⟩) 1 ck] 71))).cell? ⟨w.heap.size, z, none⟩ = (#[.int .i64 19, .string t, .int .i64 ii, .slice (some ⟨bk, ok, none⟩) 1 ck] : Array Value)[z]? := fun z => by simp [go_sem]
 have hrb : v.ownBlock ≠ some w.heap.size := fun e => by have := (World.ownsRow.lt hp.own _ e).2; omega
 have HP : Hid (Pnt pb (.slice (some ⟨b, off, none⟩) L c) (w.alloc (.cells #[.int .i64 19, .string t, .int .i64 ii, .slice (some ⟨bk, ok, none⟩) 1 ck] 71)) v xs) := hp.below B1
 have HB : Hid (Below pb w0 (w.alloc (.cells #[.int .i64 19, .string t, .int .i64 ii, .slice (some ⟨bk, ok, none⟩) 1 ck] 71))) := hb.trans (B1.mono (by omega))
 have HKA : Hid (SlF T w0 (.slice (some ⟨bk, ok, none⟩) 1 ck) 1 1 (fun i => .int .i64 (y i))) := hk
 have HRA : Hid (∀ m, m < 1 -> Pr pb (.slice (some ⟨b, off, none⟩) L c) w0 rec (y m)) := hr
 have G0 : Hid (Pg pb (w.alloc (.cells #[.int .i64 19, .string t, .int .i64 ii, .slice (some ⟨bk, ok, none⟩) 1 ck] 71)) v (w.alloc (.cells #[.int .i64 19, .string t, .int .i64 ii, .slice (some ⟨bk, ok, none⟩) 1 ck] 71)) v) := Pg.refl _ _ _
 clear hp hr
 go_enter Tryd.func87, Tryd.ntmps87
 go_wp2_with fail
 refine (zv _ _).mono ?_
 rintro e wx ⟨rfl, hwx⟩
 rw [hwx]
 clear hwx wx
 go_wp2_with fail
 refine (zaf _ _).mono ?_
 rintro e wx ⟨rfl, hwx⟩
 rw [hwx]
 clear hwx wx
 go_wp2_with fail
 refine (zdc pb _ v xs t ii _ 1 ck y rec T w0 (w.alloc (.cells #[.int .i64 19, .string t, .int .i64 ii, .slice (some ⟨bk, ok, none⟩) 1 ck] 71)) HKA.out hT (by omega) hs (by omega) HP.out HB.out HRA.out).mono ?_
 rintro e w2 ⟨rfl, v2, p2, g2⟩
 go_wp2
 go_end0
 exact ⟨rfl, v2, p2, (Pg.of_below B1).trans g2⟩
set_option maxHeartbeats 2000000 in
theorem zi3 (pb b off c L z : Nat) (v : Value) (xs : List ByteArray) (t : ByteArray) (ii : Int) (bk ok : Nat) (ck : Nat) (y : Nat -> Int) (rec : Int -> List ByteArray) (T : Nat) (w0 w : World) 
 (hbT : b < pb) (hz : z < L) (hL : L <= 3000) (c0 : w0.cell? ⟨b, off + z * 4, none⟩ = some (.int .i64 20)) (c1 : w0.cell? ⟨b, off + z * 4 + 1, none⟩ = some (.string t)) (c2 : w0.cell? ⟨b, off + z * 4 + 2, none⟩ = some (.int .i64 ii)) (c3 : w0.cell? ⟨b, off + z * 4 + 3, none⟩ = some (.slice (some ⟨bk, ok, none⟩) 1 ck))
 (hk : SlF T w0 (.slice (some ⟨bk, ok, none⟩) 1 ck) 1 1 (fun i => .int .i64 (y i))) (hT : T <= pb) (hl : 1 <= 1048576) (hc1 : 1 <= ck) (hc2 : ck <= 1048576) (hs : xs.length + 40 * ((rec (y 0) ++ [⟨#[59]⟩] : List ByteArray).length + 1) <= 1000000)
 (hp : Pnt pb (.slice (some ⟨b, off, none⟩) L c) w v xs) (hb : Below pb w0 w) (hr : ∀ m, m < 1 -> Pr pb (.slice (some ⟨b, off, none⟩) L c) w0 rec (y m)) :
 Calls Tryd.prog 87 #[.pointer (some ⟨pb, 0, none⟩), .int .i64 (z : Int)] w (zb pb (.slice (some ⟨b, off, none⟩) L c) xs (rec (y 0) ++ [⟨#[59]⟩]) w v) := by
 have hz' : (z : Int) < (L : Int) := by omega
 have hL' : (L : Int) <= 3000 := by omega
 have lw := hp.lt
 have n0 := hp.c0
 have lb1 : b < w.heap.size := by omega
 rw [<- hb.cell (p := ⟨b, off + z * 4, none⟩) hbT] at c0
 rw [<- hb.cell (p := ⟨b, off + z * 4 + 1, none⟩) hbT] at c1
 rw [<- hb.cell (p := ⟨b, off + z * 4 + 2, none⟩) hbT] at c2
 rw [<- hb.cell (p := ⟨b, off + z * 4 + 3, none⟩) hbT] at c3
 have B1 : Below w.heap.size w (w.alloc (.cells #[.int .i64 20, .string t, .int .i64 ii, .slice (some ⟨bk, ok, none⟩) 1 ck] 71)) := (Below.refl _ _).alloc (Nat.le_refl _) _
 have KC : ∀ z, ((w.alloc (.cells #[.int .i64 20, .string t, .int .i64 ii, .slice (some ⟨bk, ok, none⟩) 1 ck] 71))).cell? ⟨w.heap.size, z, none⟩ = (#[.int .i64 20, .string t, .int .i64 ii, .slice (some ⟨bk, ok, none⟩) 1 ck] : Array Value)[z]? := fun z => by simp [go_sem]
 have hrb : v.ownBlock ≠ some w.heap.size := fun e => by have := (World.ownsRow.lt hp.own _ e).2; omega
 have HP : Hid (Pnt pb (.slice (some ⟨b, off, none⟩) L c) (w.alloc (.cells #[.int .i64 20, .string t, .int .i64 ii, .slice (some ⟨bk, ok, none⟩) 1 ck] 71)) v xs) := hp.below B1
 have HB : Hid (Below pb w0 (w.alloc (.cells #[.int .i64 20, .string t, .int .i64 ii, .slice (some ⟨bk, ok, none⟩) 1 ck] 71))) := hb.trans (B1.mono (by omega))
 have HKA : Hid (SlF T w0 (.slice (some ⟨bk, ok, none⟩) 1 ck) 1 1 (fun i => .int .i64 (y i))) := hk
 have HRA : Hid (∀ m, m < 1 -> Pr pb (.slice (some ⟨b, off, none⟩) L c) w0 rec (y m)) := hr
 have G0 : Hid (Pg pb (w.alloc (.cells #[.int .i64 20, .string t, .int .i64 ii, .slice (some ⟨bk, ok, none⟩) 1 ck] 71)) v (w.alloc (.cells #[.int .i64 20, .string t, .int .i64 ii, .slice (some ⟨bk, ok, none⟩) 1 ck] 71)) v) := Pg.refl _ _ _
 clear hp hr
 go_enter Tryd.func87, Tryd.ntmps87
 go_wp2_with fail
 refine (zv _ _).mono ?_
 rintro e wx ⟨rfl, hwx⟩
 rw [hwx]
 clear hwx wx
 go_wp2_with fail
 refine (zaf _ _).mono ?_
 rintro e wx ⟨rfl, hwx⟩
 rw [hwx]
 clear hwx wx
 go_wp2_with fail
 refine (zdd pb _ v xs t ii _ 1 ck y rec T w0 (w.alloc (.cells #[.int .i64 20, .string t, .int .i64 ii, .slice (some ⟨bk, ok, none⟩) 1 ck] 71)) HKA.out hT (by omega) hs (by omega) HP.out HB.out HRA.out).mono ?_
 rintro e w2 ⟨rfl, v2, p2, g2⟩
 go_wp2
 go_end0
 exact ⟨rfl, v2, p2, (Pg.of_below B1).trans g2⟩
set_option maxHeartbeats 2000000 in
theorem zhn (pb b off c L z : Nat) (v : Value) (xs : List ByteArray) (t : ByteArray) (ii : Int) (bk ok : Nat) (ck : Nat) (y : Nat -> Int) (rec : Int -> List ByteArray) (T : Nat) (w0 w : World) 
 (hbT : b < pb) (hz : z < L) (hL : L <= 3000) (c0 : w0.cell? ⟨b, off + z * 4, none⟩ = some (.int .i64 17)) (c1 : w0.cell? ⟨b, off + z * 4 + 1, none⟩ = some (.string t)) (c2 : w0.cell? ⟨b, off + z * 4 + 2, none⟩ = some (.int .i64 ii)) (c3 : w0.cell? ⟨b, off + z * 4 + 3, none⟩ = some (.slice (some ⟨bk, ok, none⟩) 2 ck))
 (hk : SlF T w0 (.slice (some ⟨bk, ok, none⟩) 2 ck) 2 2 (fun i => .int .i64 (y i))) (hT : T <= pb) (hl : 2 <= 1048576) (hc1 : 2 <= ck) (hc2 : ck <= 1048576) (hs : xs.length + 40 * (([⟨#[105, 102]⟩] ++ flN rec y 2 : List ByteArray).length + 1) <= 1000000)
 (hp : Pnt pb (.slice (some ⟨b, off, none⟩) L c) w v xs) (hb : Below pb w0 w) (hr : ∀ m, m < 2 -> Pr pb (.slice (some ⟨b, off, none⟩) L c) w0 rec (y m)) :
 Calls Tryd.prog 87 #[.pointer (some ⟨pb, 0, none⟩), .int .i64 (z : Int)] w (zb pb (.slice (some ⟨b, off, none⟩) L c) xs ([⟨#[105, 102]⟩] ++ flN rec y 2) w v) := by
 have hz' : (z : Int) < (L : Int) := by omega
 have hL' : (L : Int) <= 3000 := by omega
 have lw := hp.lt
 have n0 := hp.c0
 have lb1 : b < w.heap.size := by omega
 rw [<- hb.cell (p := ⟨b, off + z * 4, none⟩) hbT] at c0
 rw [<- hb.cell (p := ⟨b, off + z * 4 + 1, none⟩) hbT] at c1
 rw [<- hb.cell (p := ⟨b, off + z * 4 + 2, none⟩) hbT] at c2
 rw [<- hb.cell (p := ⟨b, off + z * 4 + 3, none⟩) hbT] at c3
 have B1 : Below w.heap.size w (w.alloc (.cells #[.int .i64 17, .string t, .int .i64 ii, .slice (some ⟨bk, ok, none⟩) 2 ck] 71)) := (Below.refl _ _).alloc (Nat.le_refl _) _
 have KC : ∀ z, ((w.alloc (.cells #[.int .i64 17, .string t, .int .i64 ii, .slice (some ⟨bk, ok, none⟩) 2 ck] 71))).cell? ⟨w.heap.size, z, none⟩ = (#[.int .i64 17, .string t, .int .i64 ii, .slice (some ⟨bk, ok, none⟩) 2 ck] : Array Value)[z]? := fun z => by simp [go_sem]
 have hrb : v.ownBlock ≠ some w.heap.size := fun e => by have := (World.ownsRow.lt hp.own _ e).2; omega
 have HP : Hid (Pnt pb (.slice (some ⟨b, off, none⟩) L c) (w.alloc (.cells #[.int .i64 17, .string t, .int .i64 ii, .slice (some ⟨bk, ok, none⟩) 2 ck] 71)) v xs) := hp.below B1
 have HB : Hid (Below pb w0 (w.alloc (.cells #[.int .i64 17, .string t, .int .i64 ii, .slice (some ⟨bk, ok, none⟩) 2 ck] 71))) := hb.trans (B1.mono (by omega))
 have HKA : Hid (SlF T w0 (.slice (some ⟨bk, ok, none⟩) 2 ck) 2 2 (fun i => .int .i64 (y i))) := hk
 have HRA : Hid (∀ m, m < 2 -> Pr pb (.slice (some ⟨b, off, none⟩) L c) w0 rec (y m)) := hr
 have G0 : Hid (Pg pb (w.alloc (.cells #[.int .i64 17, .string t, .int .i64 ii, .slice (some ⟨bk, ok, none⟩) 2 ck] 71)) v (w.alloc (.cells #[.int .i64 17, .string t, .int .i64 ii, .slice (some ⟨bk, ok, none⟩) 2 ck] 71)) v) := Pg.refl _ _ _
 clear hp hr
 go_enter Tryd.func87, Tryd.ntmps87
 go_wp2_with fail
 refine (zv _ _).mono ?_
 rintro e wx ⟨rfl, hwx⟩
 rw [hwx]
 clear hwx wx
 go_wp2_with fail
 refine (zaf _ _).mono ?_
 rintro e wx ⟨rfl, hwx⟩
 rw [hwx]
 clear hwx wx
 go_wp2_with fail
 refine (zcs pb _ v xs t ii _ ck y rec T w0 (w.alloc (.cells #[.int .i64 17, .string t, .int .i64 ii, .slice (some ⟨bk, ok, none⟩) 2 ck] 71)) HKA.out hT hc1 hc2 hs HP.out HB.out HRA.out).mono ?_
 rintro e w2 ⟨rfl, v2, p2, g2⟩
 go_wp2
 go_end0
 exact ⟨rfl, v2, p2, (Pg.of_below B1).trans g2⟩
set_option maxHeartbeats 2000000 in
theorem zho (pb b off c L z : Nat) (v : Value) (xs : List ByteArray) (t : ByteArray) (ii : Int) (bk ok : Nat) (ck : Nat) (y : Nat -> Int) (rec : Int -> List ByteArray) (T : Nat) (w0 w : World) 
 (hbT : b < pb) (hz : z < L) (hL : L <= 3000) (c0 : w0.cell? ⟨b, off + z * 4, none⟩ = some (.int .i64 17)) (c1 : w0.cell? ⟨b, off + z * 4 + 1, none⟩ = some (.string t)) (c2 : w0.cell? ⟨b, off + z * 4 + 2, none⟩ = some (.int .i64 ii)) (c3 : w0.cell? ⟨b, off + z * 4 + 3, none⟩ = some (.slice (some ⟨bk, ok, none⟩) 3 ck))
 (hk : SlF T w0 (.slice (some ⟨bk, ok, none⟩) 3 ck) 3 3 (fun i => .int .i64 (y i))) (hT : T <= pb) (hl : 3 <= 1048576) (hc1 : 3 <= ck) (hc2 : ck <= 1048576) (hs : xs.length + 40 * (([⟨#[105, 102]⟩] ++ flN rec y 2 ++ [⟨#[101, 108, 115, 101]⟩] ++ rec (y 2) : List ByteArray).length + 1) <= 1000000)
 (hp : Pnt pb (.slice (some ⟨b, off, none⟩) L c) w v xs) (hb : Below pb w0 w) (hr : ∀ m, m < 3 -> Pr pb (.slice (some ⟨b, off, none⟩) L c) w0 rec (y m)) :
 Calls Tryd.prog 87 #[.pointer (some ⟨pb, 0, none⟩), .int .i64 (z : Int)] w (zb pb (.slice (some ⟨b, off, none⟩) L c) xs ([⟨#[105, 102]⟩] ++ flN rec y 2 ++ [⟨#[101, 108, 115, 101]⟩] ++ rec (y 2)) w v) := by
 have hz' : (z : Int) < (L : Int) := by omega
 have hL' : (L : Int) <= 3000 := by omega
 have lw := hp.lt
 have n0 := hp.c0
 have lb1 : b < w.heap.size := by omega
 rw [<- hb.cell (p := ⟨b, off + z * 4, none⟩) hbT] at c0
 rw [<- hb.cell (p := ⟨b, off + z * 4 + 1, none⟩) hbT] at c1
 rw [<- hb.cell (p := ⟨b, off + z * 4 + 2, none⟩) hbT] at c2
 rw [<- hb.cell (p := ⟨b, off + z * 4 + 3, none⟩) hbT] at c3
 have B1 : Below w.heap.size w (w.alloc (.cells #[.int .i64 17, .string t, .int .i64 ii, .slice (some ⟨bk, ok, none⟩) 3 ck] 71)) := (Below.refl _ _).alloc (Nat.le_refl _) _
 have KC : ∀ z, ((w.alloc (.cells #[.int .i64 17, .string t, .int .i64 ii, .slice (some ⟨bk, ok, none⟩) 3 ck] 71))).cell? ⟨w.heap.size, z, none⟩ = (#[.int .i64 17, .string t, .int .i64 ii, .slice (some ⟨bk, ok, none⟩) 3 ck] : Array Value)[z]? := fun z => by simp [go_sem]
 have hrb : v.ownBlock ≠ some w.heap.size := fun e => by have := (World.ownsRow.lt hp.own _ e).2; omega
 have HP : Hid (Pnt pb (.slice (some ⟨b, off, none⟩) L c) (w.alloc (.cells #[.int .i64 17, .string t, .int .i64 ii, .slice (some ⟨bk, ok, none⟩) 3 ck] 71)) v xs) := hp.below B1
 have HB : Hid (Below pb w0 (w.alloc (.cells #[.int .i64 17, .string t, .int .i64 ii, .slice (some ⟨bk, ok, none⟩) 3 ck] 71))) := hb.trans (B1.mono (by omega))
 have HKA : Hid (SlF T w0 (.slice (some ⟨bk, ok, none⟩) 3 ck) 3 3 (fun i => .int .i64 (y i))) := hk
 have HRA : Hid (∀ m, m < 3 -> Pr pb (.slice (some ⟨b, off, none⟩) L c) w0 rec (y m)) := hr
 have G0 : Hid (Pg pb (w.alloc (.cells #[.int .i64 17, .string t, .int .i64 ii, .slice (some ⟨bk, ok, none⟩) 3 ck] 71)) v (w.alloc (.cells #[.int .i64 17, .string t, .int .i64 ii, .slice (some ⟨bk, ok, none⟩) 3 ck] 71)) v) := Pg.refl _ _ _
 clear hp hr
 go_enter Tryd.func87, Tryd.ntmps87
 go_wp2_with fail
 refine (zv _ _).mono ?_
 rintro e wx ⟨rfl, hwx⟩
 rw [hwx]
 clear hwx wx
 go_wp2_with fail
 refine (zaf _ _).mono ?_
 rintro e wx ⟨rfl, hwx⟩
 rw [hwx]
 clear hwx wx
 go_wp2_with fail
 refine (zct pb _ v xs t ii _ ck y rec T w0 (w.alloc (.cells #[.int .i64 17, .string t, .int .i64 ii, .slice (some ⟨bk, ok, none⟩) 3 ck] 71)) HKA.out hT hc1 hc2 hs HP.out HB.out HRA.out).mono ?_
 rintro e w2 ⟨rfl, v2, p2, g2⟩
 go_wp2
 go_end0
 exact ⟨rfl, v2, p2, (Pg.of_below B1).trans g2⟩
set_option maxHeartbeats 2000000 in
theorem zi4 (pb b off c L z : Nat) (v : Value) (xs : List ByteArray) (t : ByteArray) (ii : Int) (ak : Option Addr) (l : Nat) (ck : Nat) (y : Nat -> Int) (rec : Int -> List ByteArray) (T : Nat) (w0 w : World) 
 (hbT : b < pb) (hz : z < L) (hL : L <= 3000) (c0 : w0.cell? ⟨b, off + z * 4, none⟩ = some (.int .i64 21)) (c1 : w0.cell? ⟨b, off + z * 4 + 1, none⟩ = some (.string t)) (c2 : w0.cell? ⟨b, off + z * 4 + 2, none⟩ = some (.int .i64 ii)) (c3 : w0.cell? ⟨b, off + z * 4 + 3, none⟩ = some (.slice ak l ck))
 (hk : SlF T w0 (.slice ak l ck) l l (fun i => .int .i64 (y i))) (hT : T <= pb) (hl : l <= 1048576) (hc1 : l <= ck) (hc2 : ck <= 1048576) (hs : xs.length + 40 * (([⟨#[123]⟩] ++ flN rec y l ++ [⟨#[125]⟩] : List ByteArray).length + 1) <= 1000000)
 (hp : Pnt pb (.slice (some ⟨b, off, none⟩) L c) w v xs) (hb : Below pb w0 w) (hr : ∀ m, m < l -> Pr pb (.slice (some ⟨b, off, none⟩) L c) w0 rec (y m)) :
 Calls Tryd.prog 87 #[.pointer (some ⟨pb, 0, none⟩), .int .i64 (z : Int)] w (zb pb (.slice (some ⟨b, off, none⟩) L c) xs ([⟨#[123]⟩] ++ flN rec y l ++ [⟨#[125]⟩]) w v) := by
 have hz' : (z : Int) < (L : Int) := by omega
 have hL' : (L : Int) <= 3000 := by omega
 have lw := hp.lt
 have n0 := hp.c0
 have lb1 : b < w.heap.size := by omega
 rw [<- hb.cell (p := ⟨b, off + z * 4, none⟩) hbT] at c0
 rw [<- hb.cell (p := ⟨b, off + z * 4 + 1, none⟩) hbT] at c1
 rw [<- hb.cell (p := ⟨b, off + z * 4 + 2, none⟩) hbT] at c2
 rw [<- hb.cell (p := ⟨b, off + z * 4 + 3, none⟩) hbT] at c3
 have B1 : Below w.heap.size w (w.alloc (.cells #[.int .i64 21, .string t, .int .i64 ii, .slice ak l ck] 71)) := (Below.refl _ _).alloc (Nat.le_refl _) _
 have KC : ∀ z, ((w.alloc (.cells #[.int .i64 21, .string t, .int .i64 ii, .slice ak l ck] 71))).cell? ⟨w.heap.size, z, none⟩ = (#[.int .i64 21, .string t, .int .i64 ii, .slice ak l ck] : Array Value)[z]? := fun z => by simp [go_sem]
 have hrb : v.ownBlock ≠ some w.heap.size := fun e => by have := (World.ownsRow.lt hp.own _ e).2; omega
 have HP : Hid (Pnt pb (.slice (some ⟨b, off, none⟩) L c) (w.alloc (.cells #[.int .i64 21, .string t, .int .i64 ii, .slice ak l ck] 71)) v xs) := hp.below B1
 have HB : Hid (Below pb w0 (w.alloc (.cells #[.int .i64 21, .string t, .int .i64 ii, .slice ak l ck] 71))) := hb.trans (B1.mono (by omega))
 have HKA : Hid (SlF T w0 (.slice ak l ck) l l (fun i => .int .i64 (y i))) := hk
 have HRA : Hid (∀ m, m < l -> Pr pb (.slice (some ⟨b, off, none⟩) L c) w0 rec (y m)) := hr
 have G0 : Hid (Pg pb (w.alloc (.cells #[.int .i64 21, .string t, .int .i64 ii, .slice ak l ck] 71)) v (w.alloc (.cells #[.int .i64 21, .string t, .int .i64 ii, .slice ak l ck] 71)) v) := Pg.refl _ _ _
 clear hp hr
 go_enter Tryd.func87, Tryd.ntmps87
 go_wp2_with fail
 refine (zv _ _).mono ?_
 rintro e wx ⟨rfl, hwx⟩
 rw [hwx]
 clear hwx wx
 go_wp2_with fail
 refine (zaf _ _).mono ?_
 rintro e wx ⟨rfl, hwx⟩
 rw [hwx]
 clear hwx wx
 go_wp2_with fail
 refine (zf2 pb _ v xs t ii _ l ck y rec T w0 (w.alloc (.cells #[.int .i64 21, .string t, .int .i64 ii, .slice ak l ck] 71)) HKA.out hT (by omega) hs (by omega) HP.out HB.out HRA.out).mono ?_
 rintro e w2 ⟨rfl, v2, p2, g2⟩
 go_wp2
 go_end0
 exact ⟨rfl, v2, p2, (Pg.of_below B1).trans g2⟩
set_option maxHeartbeats 2000000 in
theorem zi5 (pb b off c L z : Nat) (v : Value) (xs : List ByteArray) (t : ByteArray) (ii : Int) (ak : Option Addr) (l : Nat) (ck : Nat) (y : Nat -> Int) (rec : Int -> List ByteArray) (T : Nat) (w0 w : World) 
 (hbT : b < pb) (hz : z < L) (hL : L <= 3000) (c0 : w0.cell? ⟨b, off + z * 4, none⟩ = some (.int .i64 22)) (c1 : w0.cell? ⟨b, off + z * 4 + 1, none⟩ = some (.string t)) (c2 : w0.cell? ⟨b, off + z * 4 + 2, none⟩ = some (.int .i64 ii)) (c3 : w0.cell? ⟨b, off + z * 4 + 3, none⟩ = some (.slice ak l ck))
 (hk : SlF T w0 (.slice ak l ck) l l (fun i => .int .i64 (y i))) (hT : T <= pb) (hl : l <= 1048576) (hc1 : l <= ck) (hc2 : ck <= 1048576) (hs : xs.length + 40 * (([t] : List ByteArray).length + 1) <= 1000000)
 (hp : Pnt pb (.slice (some ⟨b, off, none⟩) L c) w v xs) (hb : Below pb w0 w) (hr : ∀ m, m < l -> Pr pb (.slice (some ⟨b, off, none⟩) L c) w0 rec (y m)) :
 Calls Tryd.prog 87 #[.pointer (some ⟨pb, 0, none⟩), .int .i64 (z : Int)] w (zb pb (.slice (some ⟨b, off, none⟩) L c) xs ([t]) w v) := by
 have hz' : (z : Int) < (L : Int) := by omega
 have hL' : (L : Int) <= 3000 := by omega
 have lw := hp.lt
 have n0 := hp.c0
 have lb1 : b < w.heap.size := by omega
 rw [<- hb.cell (p := ⟨b, off + z * 4, none⟩) hbT] at c0
 rw [<- hb.cell (p := ⟨b, off + z * 4 + 1, none⟩) hbT] at c1
 rw [<- hb.cell (p := ⟨b, off + z * 4 + 2, none⟩) hbT] at c2
 rw [<- hb.cell (p := ⟨b, off + z * 4 + 3, none⟩) hbT] at c3
 have B1 : Below w.heap.size w (w.alloc (.cells #[.int .i64 22, .string t, .int .i64 ii, .slice ak l ck] 71)) := (Below.refl _ _).alloc (Nat.le_refl _) _
 have KC : ∀ z, ((w.alloc (.cells #[.int .i64 22, .string t, .int .i64 ii, .slice ak l ck] 71))).cell? ⟨w.heap.size, z, none⟩ = (#[.int .i64 22, .string t, .int .i64 ii, .slice ak l ck] : Array Value)[z]? := fun z => by simp [go_sem]
 have hrb : v.ownBlock ≠ some w.heap.size := fun e => by have := (World.ownsRow.lt hp.own _ e).2; omega
 have HP : Hid (Pnt pb (.slice (some ⟨b, off, none⟩) L c) (w.alloc (.cells #[.int .i64 22, .string t, .int .i64 ii, .slice ak l ck] 71)) v xs) := hp.below B1
 have HB : Hid (Below pb w0 (w.alloc (.cells #[.int .i64 22, .string t, .int .i64 ii, .slice ak l ck] 71))) := hb.trans (B1.mono (by omega))
 have HKA : Hid (SlF T w0 (.slice ak l ck) l l (fun i => .int .i64 (y i))) := hk
 have HRA : Hid (∀ m, m < l -> Pr pb (.slice (some ⟨b, off, none⟩) L c) w0 rec (y m)) := hr
 have G0 : Hid (Pg pb (w.alloc (.cells #[.int .i64 22, .string t, .int .i64 ii, .slice ak l ck] 71)) v (w.alloc (.cells #[.int .i64 22, .string t, .int .i64 ii, .slice ak l ck] 71)) v) := Pg.refl _ _ _
 clear hp hr
 go_enter Tryd.func87, Tryd.ntmps87
 go_wp2_with fail
 refine (zv _ _).mono ?_
 rintro e wx ⟨rfl, hwx⟩
 rw [hwx]
 clear hwx wx
 go_wp2_with fail
 refine (zaf _ _).mono ?_
 rintro e wx ⟨rfl, hwx⟩
 rw [hwx]
 clear hwx wx
 go_wp2_with fail
 refine (zf3 pb _ v xs t ii _ l ck y rec T w0 (w.alloc (.cells #[.int .i64 22, .string t, .int .i64 ii, .slice ak l ck] 71)) HKA.out hT (by omega) hs (by omega) HP.out HB.out HRA.out).mono ?_
 rintro e w2 ⟨rfl, v2, p2, g2⟩
 go_wp2
 go_end0
 exact ⟨rfl, v2, p2, (Pg.of_below B1).trans g2⟩
set_option maxHeartbeats 2000000 in
theorem zi6 (pb b off c L z : Nat) (v : Value) (xs : List ByteArray) (t : ByteArray) (ii : Int) (bk ok : Nat) (ck : Nat) (y : Nat -> Int) (rec : Int -> List ByteArray) (T : Nat) (w0 w : World) 
 (hbT : b < pb) (hz : z < L) (hL : L <= 3000) (c0 : w0.cell? ⟨b, off + z * 4, none⟩ = some (.int .i64 23)) (c1 : w0.cell? ⟨b, off + z * 4 + 1, none⟩ = some (.string t)) (c2 : w0.cell? ⟨b, off + z * 4 + 2, none⟩ = some (.int .i64 ii)) (c3 : w0.cell? ⟨b, off + z * 4 + 3, none⟩ = some (.slice (some ⟨bk, ok, none⟩) 1 ck))
 (hk : SlF T w0 (.slice (some ⟨bk, ok, none⟩) 1 ck) 1 1 (fun i => .int .i64 (y i))) (hT : T <= pb) (hl : 1 <= 1048576) (hc1 : 1 <= ck) (hc2 : ck <= 1048576) (hs : xs.length + 40 * ((rec (y 0) : List ByteArray).length + 1) <= 1000000)
 (hp : Pnt pb (.slice (some ⟨b, off, none⟩) L c) w v xs) (hb : Below pb w0 w) (hr : ∀ m, m < 1 -> Pr pb (.slice (some ⟨b, off, none⟩) L c) w0 rec (y m)) :
 Calls Tryd.prog 87 #[.pointer (some ⟨pb, 0, none⟩), .int .i64 (z : Int)] w (zb pb (.slice (some ⟨b, off, none⟩) L c) xs (rec (y 0)) w v) := by
 have hz' : (z : Int) < (L : Int) := by omega
 have hL' : (L : Int) <= 3000 := by omega
 have lw := hp.lt
 have n0 := hp.c0
 have lb1 : b < w.heap.size := by omega
 rw [<- hb.cell (p := ⟨b, off + z * 4, none⟩) hbT] at c0
 rw [<- hb.cell (p := ⟨b, off + z * 4 + 1, none⟩) hbT] at c1
 rw [<- hb.cell (p := ⟨b, off + z * 4 + 2, none⟩) hbT] at c2
 rw [<- hb.cell (p := ⟨b, off + z * 4 + 3, none⟩) hbT] at c3
 have B1 : Below w.heap.size w (w.alloc (.cells #[.int .i64 23, .string t, .int .i64 ii, .slice (some ⟨bk, ok, none⟩) 1 ck] 71)) := (Below.refl _ _).alloc (Nat.le_refl _) _
 have KC : ∀ z, ((w.alloc (.cells #[.int .i64 23, .string t, .int .i64 ii, .slice (some ⟨bk, ok, none⟩) 1 ck] 71))).cell? ⟨w.heap.size, z, none⟩ = (#[.int .i64 23, .string t, .int .i64 ii, .slice (some ⟨bk, ok, none⟩) 1 ck] : Array Value)[z]? := fun z => by simp [go_sem]
 have hrb : v.ownBlock ≠ some w.heap.size := fun e => by have := (World.ownsRow.lt hp.own _ e).2; omega
 have HP : Hid (Pnt pb (.slice (some ⟨b, off, none⟩) L c) (w.alloc (.cells #[.int .i64 23, .string t, .int .i64 ii, .slice (some ⟨bk, ok, none⟩) 1 ck] 71)) v xs) := hp.below B1
 have HB : Hid (Below pb w0 (w.alloc (.cells #[.int .i64 23, .string t, .int .i64 ii, .slice (some ⟨bk, ok, none⟩) 1 ck] 71))) := hb.trans (B1.mono (by omega))
 have HKA : Hid (SlF T w0 (.slice (some ⟨bk, ok, none⟩) 1 ck) 1 1 (fun i => .int .i64 (y i))) := hk
 have HRA : Hid (∀ m, m < 1 -> Pr pb (.slice (some ⟨b, off, none⟩) L c) w0 rec (y m)) := hr
 have G0 : Hid (Pg pb (w.alloc (.cells #[.int .i64 23, .string t, .int .i64 ii, .slice (some ⟨bk, ok, none⟩) 1 ck] 71)) v (w.alloc (.cells #[.int .i64 23, .string t, .int .i64 ii, .slice (some ⟨bk, ok, none⟩) 1 ck] 71)) v) := Pg.refl _ _ _
 clear hp hr
 go_enter Tryd.func87, Tryd.ntmps87
 go_wp2_with fail
 refine (zv _ _).mono ?_
 rintro e wx ⟨rfl, hwx⟩
 rw [hwx]
 clear hwx wx
 go_wp2_with fail
 refine (zaf _ _).mono ?_
 rintro e wx ⟨rfl, hwx⟩
 rw [hwx]
 clear hwx wx
 go_wp2_with fail
 refine (zf4 pb _ v xs t ii _ 1 ck y rec T w0 (w.alloc (.cells #[.int .i64 23, .string t, .int .i64 ii, .slice (some ⟨bk, ok, none⟩) 1 ck] 71)) HKA.out hT (by omega) hs (by omega) HP.out HB.out HRA.out).mono ?_
 rintro e w2 ⟨rfl, v2, p2, g2⟩
 go_wp2
 go_end0
 exact ⟨rfl, v2, p2, (Pg.of_below B1).trans g2⟩
set_option maxHeartbeats 2000000 in
theorem zi7 (pb b off c L z : Nat) (v : Value) (xs : List ByteArray) (t : ByteArray) (ii : Int) (bk ok : Nat) (ck : Nat) (y : Nat -> Int) (rec : Int -> List ByteArray) (T : Nat) (w0 w : World) 
 (hbT : b < pb) (hz : z < L) (hL : L <= 3000) (c0 : w0.cell? ⟨b, off + z * 4, none⟩ = some (.int .i64 24)) (c1 : w0.cell? ⟨b, off + z * 4 + 1, none⟩ = some (.string t)) (c2 : w0.cell? ⟨b, off + z * 4 + 2, none⟩ = some (.int .i64 ii)) (c3 : w0.cell? ⟨b, off + z * 4 + 3, none⟩ = some (.slice (some ⟨bk, ok, none⟩) 2 ck))
 (hk : SlF T w0 (.slice (some ⟨bk, ok, none⟩) 2 ck) 2 2 (fun i => .int .i64 (y i))) (hT : T <= pb) (hl : 2 <= 1048576) (hc1 : 2 <= ck) (hc2 : ck <= 1048576) (hs : xs.length + 40 * (([⟨#[91]⟩] ++ rec (y 0) ++ [⟨#[93]⟩, ⟨#[61]⟩] ++ rec (y 1) : List ByteArray).length + 1) <= 1000000)
 (hp : Pnt pb (.slice (some ⟨b, off, none⟩) L c) w v xs) (hb : Below pb w0 w) (hr : ∀ m, m < 2 -> Pr pb (.slice (some ⟨b, off, none⟩) L c) w0 rec (y m)) :
 Calls Tryd.prog 87 #[.pointer (some ⟨pb, 0, none⟩), .int .i64 (z : Int)] w (zb pb (.slice (some ⟨b, off, none⟩) L c) xs ([⟨#[91]⟩] ++ rec (y 0) ++ [⟨#[93]⟩, ⟨#[61]⟩] ++ rec (y 1)) w v) := by
 have hz' : (z : Int) < (L : Int) := by omega
 have hL' : (L : Int) <= 3000 := by omega
 have lw := hp.lt
 have n0 := hp.c0
 have lb1 : b < w.heap.size := by omega
 rw [<- hb.cell (p := ⟨b, off + z * 4, none⟩) hbT] at c0
 rw [<- hb.cell (p := ⟨b, off + z * 4 + 1, none⟩) hbT] at c1
 rw [<- hb.cell (p := ⟨b, off + z * 4 + 2, none⟩) hbT] at c2
 rw [<- hb.cell (p := ⟨b, off + z * 4 + 3, none⟩) hbT] at c3
 have B1 : Below w.heap.size w (w.alloc (.cells #[.int .i64 24, .string t, .int .i64 ii, .slice (some ⟨bk, ok, none⟩) 2 ck] 71)) := (Below.refl _ _).alloc (Nat.le_refl _) _
 have KC : ∀ z, ((w.alloc (.cells #[.int .i64 24, .string t, .int .i64 ii, .slice (some ⟨bk, ok, none⟩) 2 ck] 71))).cell? ⟨w.heap.size, z, none⟩ = (#[.int .i64 24, .string t, .int .i64 ii, .slice (some ⟨bk, ok, none⟩) 2 ck] : Array Value)[z]? := fun z => by simp [go_sem]
 have hrb : v.ownBlock ≠ some w.heap.size := fun e => by have := (World.ownsRow.lt hp.own _ e).2; omega
 have HP : Hid (Pnt pb (.slice (some ⟨b, off, none⟩) L c) (w.alloc (.cells #[.int .i64 24, .string t, .int .i64 ii, .slice (some ⟨bk, ok, none⟩) 2 ck] 71)) v xs) := hp.below B1
 have HB : Hid (Below pb w0 (w.alloc (.cells #[.int .i64 24, .string t, .int .i64 ii, .slice (some ⟨bk, ok, none⟩) 2 ck] 71))) := hb.trans (B1.mono (by omega))
 have HKA : Hid (SlF T w0 (.slice (some ⟨bk, ok, none⟩) 2 ck) 2 2 (fun i => .int .i64 (y i))) := hk
 have HRA : Hid (∀ m, m < 2 -> Pr pb (.slice (some ⟨b, off, none⟩) L c) w0 rec (y m)) := hr
 have G0 : Hid (Pg pb (w.alloc (.cells #[.int .i64 24, .string t, .int .i64 ii, .slice (some ⟨bk, ok, none⟩) 2 ck] 71)) v (w.alloc (.cells #[.int .i64 24, .string t, .int .i64 ii, .slice (some ⟨bk, ok, none⟩) 2 ck] 71)) v) := Pg.refl _ _ _
 clear hp hr
 go_enter Tryd.func87, Tryd.ntmps87
 go_wp2_with fail
 refine (zv _ _).mono ?_
 rintro e wx ⟨rfl, hwx⟩
 rw [hwx]
 clear hwx wx
 go_wp2_with fail
 refine (zaf _ _).mono ?_
 rintro e wx ⟨rfl, hwx⟩
 rw [hwx]
 clear hwx wx
 go_wp2_with fail
 refine (zf5 pb _ v xs t ii _ 2 ck y rec T w0 (w.alloc (.cells #[.int .i64 24, .string t, .int .i64 ii, .slice (some ⟨bk, ok, none⟩) 2 ck] 71)) HKA.out hT (by omega) hs (by omega) HP.out HB.out HRA.out).mono ?_
 rintro e w2 ⟨rfl, v2, p2, g2⟩
 go_wp2
 go_end0
 exact ⟨rfl, v2, p2, (Pg.of_below B1).trans g2⟩
set_option maxHeartbeats 2000000 in
theorem zi8 (pb b off c L z : Nat) (v : Value) (xs : List ByteArray) (t : ByteArray)  (ak : Option Addr) (l : Nat) (ck : Nat) (y : Nat -> Int) (rec : Int -> List ByteArray) (T : Nat) (w0 w : World) 
 (hbT : b < pb) (hz : z < L) (hL : L <= 3000) (c0 : w0.cell? ⟨b, off + z * 4, none⟩ = some (.int .i64 2)) (c1 : w0.cell? ⟨b, off + z * 4 + 1, none⟩ = some (.string t)) (c2 : w0.cell? ⟨b, off + z * 4 + 2, none⟩ = some (.int .i64 0)) (c3 : w0.cell? ⟨b, off + z * 4 + 3, none⟩ = some (.slice ak l ck))
 (hk : SlF T w0 (.slice ak l ck) l l (fun i => .int .i64 (y i))) (hT : T <= pb) (hl : l <= 1048576) (hc1 : l <= ck) (hc2 : ck <= 1048576) (hs : xs.length + 40 * (([⟨#[102, 97, 108, 115, 101]⟩] : List ByteArray).length + 1) <= 1000000)
 (hp : Pnt pb (.slice (some ⟨b, off, none⟩) L c) w v xs) (hb : Below pb w0 w) (hr : ∀ m, m < l -> Pr pb (.slice (some ⟨b, off, none⟩) L c) w0 rec (y m)) :
 Calls Tryd.prog 87 #[.pointer (some ⟨pb, 0, none⟩), .int .i64 (z : Int)] w (zb pb (.slice (some ⟨b, off, none⟩) L c) xs ([⟨#[102, 97, 108, 115, 101]⟩]) w v) := by
 have hz' : (z : Int) < (L : Int) := by omega
 have hL' : (L : Int) <= 3000 := by omega
 have lw := hp.lt
 have n0 := hp.c0
 have lb1 : b < w.heap.size := by omega
 rw [<- hb.cell (p := ⟨b, off + z * 4, none⟩) hbT] at c0
 rw [<- hb.cell (p := ⟨b, off + z * 4 + 1, none⟩) hbT] at c1
 rw [<- hb.cell (p := ⟨b, off + z * 4 + 2, none⟩) hbT] at c2
 rw [<- hb.cell (p := ⟨b, off + z * 4 + 3, none⟩) hbT] at c3
 have B1 : Below w.heap.size w (w.alloc (.cells #[.int .i64 2, .string t, .int .i64 0, .slice ak l ck] 71)) := (Below.refl _ _).alloc (Nat.le_refl _) _
 have KC : ∀ z, ((w.alloc (.cells #[.int .i64 2, .string t, .int .i64 0, .slice ak l ck] 71))).cell? ⟨w.heap.size, z, none⟩ = (#[.int .i64 2, .string t, .int .i64 0, .slice ak l ck] : Array Value)[z]? := fun z => by simp [go_sem]
 have hrb : v.ownBlock ≠ some w.heap.size := fun e => by have := (World.ownsRow.lt hp.own _ e).2; omega
 have HP : Hid (Pnt pb (.slice (some ⟨b, off, none⟩) L c) (w.alloc (.cells #[.int .i64 2, .string t, .int .i64 0, .slice ak l ck] 71)) v xs) := hp.below B1
 have HB : Hid (Below pb w0 (w.alloc (.cells #[.int .i64 2, .string t, .int .i64 0, .slice ak l ck] 71))) := hb.trans (B1.mono (by omega))
 have HKA : Hid (SlF T w0 (.slice ak l ck) l l (fun i => .int .i64 (y i))) := hk
 have HRA : Hid (∀ m, m < l -> Pr pb (.slice (some ⟨b, off, none⟩) L c) w0 rec (y m)) := hr
 have G0 : Hid (Pg pb (w.alloc (.cells #[.int .i64 2, .string t, .int .i64 0, .slice ak l ck] 71)) v (w.alloc (.cells #[.int .i64 2, .string t, .int .i64 0, .slice ak l ck] 71)) v) := Pg.refl _ _ _
 clear hp hr
 go_enter Tryd.func87, Tryd.ntmps87
 go_wp2_with fail
 refine (zc9 pb _ v xs t ak l ck w0 (w.alloc (.cells #[.int .i64 2, .string t, .int .i64 0, .slice ak l ck] 71)) (by (try simp [List.length_append] at hs); omega) HP.out HB.out).mono ?_
 rintro e w2 ⟨rfl, v2, p2, g2⟩
 go_wp2
 go_end0
 exact ⟨rfl, v2, p2, (Pg.of_below B1).trans g2⟩
set_option maxHeartbeats 2000000 in
theorem zi9 (pb b off c L z : Nat) (v : Value) (xs : List ByteArray) (t : ByteArray)  (ak : Option Addr) (l : Nat) (ck : Nat) (y : Nat -> Int) (rec : Int -> List ByteArray) (T : Nat) (w0 w : World) 
 (hbT : b < pb) (hz : z < L) (hL : L <= 3000) (c0 : w0.cell? ⟨b, off + z * 4, none⟩ = some (.int .i64 2)) (c1 : w0.cell? ⟨b, off + z * 4 + 1, none⟩ = some (.string t)) (c2 : w0.cell? ⟨b, off + z * 4 + 2, none⟩ = some (.int .i64 1)) (c3 : w0.cell? ⟨b, off + z * 4 + 3, none⟩ = some (.slice ak l ck))
 (hk : SlF T w0 (.slice ak l ck) l l (fun i => .int .i64 (y i))) (hT : T <= pb) (hl : l <= 1048576) (hc1 : l <= ck) (hc2 : ck <= 1048576) (hs : xs.length + 40 * (([⟨#[116, 114, 117, 101]⟩] : List ByteArray).length + 1) <= 1000000)
 (hp : Pnt pb (.slice (some ⟨b, off, none⟩) L c) w v xs) (hb : Below pb w0 w) (hr : ∀ m, m < l -> Pr pb (.slice (some ⟨b, off, none⟩) L c) w0 rec (y m)) :
 Calls Tryd.prog 87 #[.pointer (some ⟨pb, 0, none⟩), .int .i64 (z : Int)] w (zb pb (.slice (some ⟨b, off, none⟩) L c) xs ([⟨#[116, 114, 117, 101]⟩]) w v) := by
 have hz' : (z : Int) < (L : Int) := by omega
 have hL' : (L : Int) <= 3000 := by omega
 have lw := hp.lt
 have n0 := hp.c0
 have lb1 : b < w.heap.size := by omega
 rw [<- hb.cell (p := ⟨b, off + z * 4, none⟩) hbT] at c0
 rw [<- hb.cell (p := ⟨b, off + z * 4 + 1, none⟩) hbT] at c1
 rw [<- hb.cell (p := ⟨b, off + z * 4 + 2, none⟩) hbT] at c2
 rw [<- hb.cell (p := ⟨b, off + z * 4 + 3, none⟩) hbT] at c3
 have B1 : Below w.heap.size w (w.alloc (.cells #[.int .i64 2, .string t, .int .i64 1, .slice ak l ck] 71)) := (Below.refl _ _).alloc (Nat.le_refl _) _
 have KC : ∀ z, ((w.alloc (.cells #[.int .i64 2, .string t, .int .i64 1, .slice ak l ck] 71))).cell? ⟨w.heap.size, z, none⟩ = (#[.int .i64 2, .string t, .int .i64 1, .slice ak l ck] : Array Value)[z]? := fun z => by simp [go_sem]
 have hrb : v.ownBlock ≠ some w.heap.size := fun e => by have := (World.ownsRow.lt hp.own _ e).2; omega
 have HP : Hid (Pnt pb (.slice (some ⟨b, off, none⟩) L c) (w.alloc (.cells #[.int .i64 2, .string t, .int .i64 1, .slice ak l ck] 71)) v xs) := hp.below B1
 have HB : Hid (Below pb w0 (w.alloc (.cells #[.int .i64 2, .string t, .int .i64 1, .slice ak l ck] 71))) := hb.trans (B1.mono (by omega))
 have HKA : Hid (SlF T w0 (.slice ak l ck) l l (fun i => .int .i64 (y i))) := hk
 have HRA : Hid (∀ m, m < l -> Pr pb (.slice (some ⟨b, off, none⟩) L c) w0 rec (y m)) := hr
 have G0 : Hid (Pg pb (w.alloc (.cells #[.int .i64 2, .string t, .int .i64 1, .slice ak l ck] 71)) v (w.alloc (.cells #[.int .i64 2, .string t, .int .i64 1, .slice ak l ck] 71)) v) := Pg.refl _ _ _
 clear hp hr
 go_enter Tryd.func87, Tryd.ntmps87
 go_wp2_with fail
 refine (zdp pb _ v xs t ak l ck w0 (w.alloc (.cells #[.int .i64 2, .string t, .int .i64 1, .slice ak l ck] 71)) (by (try simp [List.length_append] at hs); omega) HP.out HB.out).mono ?_
 rintro e w2 ⟨rfl, v2, p2, g2⟩
 go_wp2
 go_end0
 exact ⟨rfl, v2, p2, (Pg.of_below B1).trans g2⟩
set_option maxHeartbeats 2000000 in
theorem zj3 (pb b off c L z : Nat) (v : Value) (xs : List ByteArray) (t : ByteArray) (ii : Int) (ak : Option Addr) (l : Nat) (ck : Nat) (y : Nat -> Int) (rec : Int -> List ByteArray) (T : Nat) (w0 w : World) (hi0 : -9223372036854775808 <= ii) (hi1 : ii <= 9223372036854775807) (htab : ∀ V, Below pb w0 V -> Lib.TabIs Tryd.prog V "internal/strconv.uint64pow10" .u64 Lib.pow10Tab)
 (hbT : b < pb) (hz : z < L) (hL : L <= 3000) (c0 : w0.cell? ⟨b, off + z * 4, none⟩ = some (.int .i64 3)) (c1 : w0.cell? ⟨b, off + z * 4 + 1, none⟩ = some (.string t)) (c2 : w0.cell? ⟨b, off + z * 4 + 2, none⟩ = some (.int .i64 ii)) (c3 : w0.cell? ⟨b, off + z * 4 + 3, none⟩ = some (.slice ak l ck))
 (hk : SlF T w0 (.slice ak l ck) l l (fun i => .int .i64 (y i))) (hT : T <= pb) (hl : l <= 1048576) (hc1 : l <= ck) (hc2 : ck <= 1048576) (hs : xs.length + 40 * (([⟨(Lib.itoa ii).toArray⟩] : List ByteArray).length + 1) <= 1000000)
 (hp : Pnt pb (.slice (some ⟨b, off, none⟩) L c) w v xs) (hb : Below pb w0 w) (hr : ∀ m, m < l -> Pr pb (.slice (some ⟨b, off, none⟩) L c) w0 rec (y m)) :
 Calls Tryd.prog 87 #[.pointer (some ⟨pb, 0, none⟩), .int .i64 (z : Int)] w (zb pb (.slice (some ⟨b, off, none⟩) L c) xs ([⟨(Lib.itoa ii).toArray⟩]) w v) := by
 have hz' : (z : Int) < (L : Int) := by omega
 have hL' : (L : Int) <= 3000 := by omega
 have lw := hp.lt
 have n0 := hp.c0
 have lb1 : b < w.heap.size := by omega
 rw [<- hb.cell (p := ⟨b, off + z * 4, none⟩) hbT] at c0
 rw [<- hb.cell (p := ⟨b, off + z * 4 + 1, none⟩) hbT] at c1
 rw [<- hb.cell (p := ⟨b, off + z * 4 + 2, none⟩) hbT] at c2
 rw [<- hb.cell (p := ⟨b, off + z * 4 + 3, none⟩) hbT] at c3
 have B1 : Below w.heap.size w (w.alloc (.cells #[.int .i64 3, .string t, .int .i64 ii, .slice ak l ck] 71)) := (Below.refl _ _).alloc (Nat.le_refl _) _
 have KC : ∀ z, ((w.alloc (.cells #[.int .i64 3, .string t, .int .i64 ii, .slice ak l ck] 71))).cell? ⟨w.heap.size, z, none⟩ = (#[.int .i64 3, .string t, .int .i64 ii, .slice ak l ck] : Array Value)[z]? := fun z => by simp [go_sem]
 have hrb : v.ownBlock ≠ some w.heap.size := fun e => by have := (World.ownsRow.lt hp.own _ e).2; omega
 have HP : Hid (Pnt pb (.slice (some ⟨b, off, none⟩) L c) (w.alloc (.cells #[.int .i64 3, .string t, .int .i64 ii, .slice ak l ck] 71)) v xs) := hp.below B1
 have HB : Hid (Below pb w0 (w.alloc (.cells #[.int .i64 3, .string t, .int .i64 ii, .slice ak l ck] 71))) := hb.trans (B1.mono (by omega))
 have HKA : Hid (SlF T w0 (.slice ak l ck) l l (fun i => .int .i64 (y i))) := hk
 have HRA : Hid (∀ m, m < l -> Pr pb (.slice (some ⟨b, off, none⟩) L c) w0 rec (y m)) := hr
 have G0 : Hid (Pg pb (w.alloc (.cells #[.int .i64 3, .string t, .int .i64 ii, .slice ak l ck] 71)) v (w.alloc (.cells #[.int .i64 3, .string t, .int .i64 ii, .slice ak l ck] 71)) v) := Pg.refl _ _ _
 clear hp hr
 go_enter Tryd.func87, Tryd.ntmps87
 go_wp2_with fail
 refine (zfz pb _ v xs t ii ak l ck w0 (w.alloc (.cells #[.int .i64 3, .string t, .int .i64 ii, .slice ak l ck] 71)) (by (try simp [List.length_append] at hs); omega) hi0 hi1 htab HP.out HB.out).mono ?_
 rintro e w2 ⟨rfl, v2, p2, g2⟩
 go_wp2
 go_end0
 exact ⟨rfl, v2, p2, (Pg.of_below B1).trans g2⟩
set_option maxHeartbeats 2000000 in
theorem zj4 (pb b off c L z : Nat) (v : Value) (xs : List ByteArray) (t : ByteArray) (ii : Int) (ak : Option Addr) (l : Nat) (ck : Nat) (y : Nat -> Int) (rec : Int -> List ByteArray) (T : Nat) (w0 w : World) (ht : t.size <= 1048576) (qt : ByteArray) (hq : qt = ⟨#[34]⟩ ++ t ++ ⟨#[34]⟩)
 (hbT : b < pb) (hz : z < L) (hL : L <= 3000) (c0 : w0.cell? ⟨b, off + z * 4, none⟩ = some (.int .i64 4)) (c1 : w0.cell? ⟨b, off + z * 4 + 1, none⟩ = some (.string t)) (c2 : w0.cell? ⟨b, off + z * 4 + 2, none⟩ = some (.int .i64 ii)) (c3 : w0.cell? ⟨b, off + z * 4 + 3, none⟩ = some (.slice ak l ck))
 (hk : SlF T w0 (.slice ak l ck) l l (fun i => .int .i64 (y i))) (hT : T <= pb) (hl : l <= 1048576) (hc1 : l <= ck) (hc2 : ck <= 1048576) (hs : xs.length + 40 * (([qt] : List ByteArray).length + 1) <= 1000000)
 (hp : Pnt pb (.slice (some ⟨b, off, none⟩) L c) w v xs) (hb : Below pb w0 w) (hr : ∀ m, m < l -> Pr pb (.slice (some ⟨b, off, none⟩) L c) w0 rec (y m)) :
 Calls Tryd.prog 87 #[.pointer (some ⟨pb, 0, none⟩), .int .i64 (z : Int)] w (zb pb (.slice (some ⟨b, off, none⟩) L c) xs ([qt]) w v) := by
 have hz' : (z : Int) < (L : Int) := by omega
 have hL' : (L : Int) <= 3000 := by omega
 have lw := hp.lt
 have n0 := hp.c0
 have lb1 : b < w.heap.size := by omega
 rw [<- hb.cell (p := ⟨b, off + z * 4, none⟩) hbT] at c0
 rw [<- hb.cell (p := ⟨b, off + z * 4 + 1, none⟩) hbT] at c1
 rw [<- hb.cell (p := ⟨b, off + z * 4 + 2, none⟩) hbT] at c2
 rw [<- hb.cell (p := ⟨b, off + z * 4 + 3, none⟩) hbT] at c3
 have B1 : Below w.heap.size w (w.alloc (.cells #[.int .i64 4, .string t, .int .i64 ii, .slice ak l ck] 71)) := (Below.refl _ _).alloc (Nat.le_refl _) _
 have KC : ∀ z, ((w.alloc (.cells #[.int .i64 4, .string t, .int .i64 ii, .slice ak l ck] 71))).cell? ⟨w.heap.size, z, none⟩ = (#[.int .i64 4, .string t, .int .i64 ii, .slice ak l ck] : Array Value)[z]? := fun z => by simp [go_sem]
 have hrb : v.ownBlock ≠ some w.heap.size := fun e => by have := (World.ownsRow.lt hp.own _ e).2; omega
 have HP : Hid (Pnt pb (.slice (some ⟨b, off, none⟩) L c) (w.alloc (.cells #[.int .i64 4, .string t, .int .i64 ii, .slice ak l ck] 71)) v xs) := hp.below B1
 have HB : Hid (Below pb w0 (w.alloc (.cells #[.int .i64 4, .string t, .int .i64 ii, .slice ak l ck] 71))) := hb.trans (B1.mono (by omega))
 have HKA : Hid (SlF T w0 (.slice ak l ck) l l (fun i => .int .i64 (y i))) := hk
 have HRA : Hid (∀ m, m < l -> Pr pb (.slice (some ⟨b, off, none⟩) L c) w0 rec (y m)) := hr
 have G0 : Hid (Pg pb (w.alloc (.cells #[.int .i64 4, .string t, .int .i64 ii, .slice ak l ck] 71)) v (w.alloc (.cells #[.int .i64 4, .string t, .int .i64 ii, .slice ak l ck] 71)) v) := Pg.refl _ _ _
 clear hp hr
 go_enter Tryd.func87, Tryd.ntmps87
 go_wp2_with fail
 refine (zfy pb _ v xs t ii ak l ck w0 (w.alloc (.cells #[.int .i64 4, .string t, .int .i64 ii, .slice ak l ck] 71)) (by (try simp [List.length_append] at hs); omega) ht qt hq HP.out HB.out).mono ?_
 rintro e w2 ⟨rfl, v2, p2, g2⟩
 go_wp2
 go_end0
 exact ⟨rfl, v2, p2, (Pg.of_below B1).trans g2⟩
set_option maxHeartbeats 2000000 in
theorem zj5 (pb b off c L z : Nat) (v : Value) (xs : List ByteArray) (t : ByteArray) (ii : Int) (ak : Option Addr) (l : Nat) (ck : Nat) (y : Nat -> Int) (rec : Int -> List ByteArray) (T : Nat) (w0 w : World) 
 (hbT : b < pb) (hz : z < L) (hL : L <= 3000) (c0 : w0.cell? ⟨b, off + z * 4, none⟩ = some (.int .i64 7)) (c1 : w0.cell? ⟨b, off + z * 4 + 1, none⟩ = some (.string t)) (c2 : w0.cell? ⟨b, off + z * 4 + 2, none⟩ = some (.int .i64 ii)) (c3 : w0.cell? ⟨b, off + z * 4 + 3, none⟩ = some (.slice ak l ck))
 (hk : SlF T w0 (.slice ak l ck) l l (fun i => .int .i64 (y i))) (hT : T <= pb) (hl : l <= 1048576) (hc1 : l <= ck) (hc2 : ck <= 1048576) (hs : xs.length + 40 * (([⟨#[40]⟩] ++ ([⟨#[123]⟩] ++ cmN rec y l ++ [⟨#[125]⟩]) ++ [⟨#[41]⟩] : List ByteArray).length + 1) <= 1000000)
 (hp : Pnt pb (.slice (some ⟨b, off, none⟩) L c) w v xs) (hb : Below pb w0 w) (hr : ∀ m, m < l -> Pr pb (.slice (some ⟨b, off, none⟩) L c) w0 rec (y m)) :
 Calls Tryd.prog 87 #[.pointer (some ⟨pb, 0, none⟩), .int .i64 (z : Int)] w (zb pb (.slice (some ⟨b, off, none⟩) L c) xs ([⟨#[40]⟩] ++ ([⟨#[123]⟩] ++ cmN rec y l ++ [⟨#[125]⟩]) ++ [⟨#[41]⟩]) w v) := by
 have hz' : (z : Int) < (L : Int) := by omega
 have hL' : (L : Int) <= 3000 := by omega
 have lw := hp.lt
 have n0 := hp.c0
 have lb1 : b < w.heap.size := by omega
 rw [<- hb.cell (p := ⟨b, off + z * 4, none⟩) hbT] at c0
 rw [<- hb.cell (p := ⟨b, off + z * 4 + 1, none⟩) hbT] at c1
 rw [<- hb.cell (p := ⟨b, off + z * 4 + 2, none⟩) hbT] at c2
 rw [<- hb.cell (p := ⟨b, off + z * 4 + 3, none⟩) hbT] at c3
 have B1 : Below w.heap.size w (w.alloc (.cells #[.int .i64 7, .string t, .int .i64 ii, .slice ak l ck] 71)) := (Below.refl _ _).alloc (Nat.le_refl _) _
 have KC : ∀ z, ((w.alloc (.cells #[.int .i64 7, .string t, .int .i64 ii, .slice ak l ck] 71))).cell? ⟨w.heap.size, z, none⟩ = (#[.int .i64 7, .string t, .int .i64 ii, .slice ak l ck] : Array Value)[z]? := fun z => by simp [go_sem]
 have hrb : v.ownBlock ≠ some w.heap.size := fun e => by have := (World.ownsRow.lt hp.own _ e).2; omega
 have HP : Hid (Pnt pb (.slice (some ⟨b, off, none⟩) L c) (w.alloc (.cells #[.int .i64 7, .string t, .int .i64 ii, .slice ak l ck] 71)) v xs) := hp.below B1
 have HB : Hid (Below pb w0 (w.alloc (.cells #[.int .i64 7, .string t, .int .i64 ii, .slice ak l ck] 71))) := hb.trans (B1.mono (by omega))
 have HKA : Hid (SlF T w0 (.slice ak l ck) l l (fun i => .int .i64 (y i))) := hk
 have HRA : Hid (∀ m, m < l -> Pr pb (.slice (some ⟨b, off, none⟩) L c) w0 rec (y m)) := hr
 have G0 : Hid (Pg pb (w.alloc (.cells #[.int .i64 7, .string t, .int .i64 ii, .slice ak l ck] 71)) v (w.alloc (.cells #[.int .i64 7, .string t, .int .i64 ii, .slice ak l ck] 71)) v) := Pg.refl _ _ _
 clear hp hr
 go_enter Tryd.func87, Tryd.ntmps87
 go_wp2_with fail
 refine (zv _ _).mono ?_
 rintro e wx ⟨rfl, hwx⟩
 rw [hwx]
 clear hwx wx
 have BL0 : Hid (Below pb w0 (w.alloc (.cells #[.int .i64 7, .string t, .int .i64 ii, .slice ak l ck] 71))) := HB
 go_wp2_with fail
 refine (ze pb (.slice (some ⟨b, off, none⟩) L c) v _ [⟨#[40]⟩] _ _ (w.alloc (.cells #[.int .i64 7, .string t, .int .i64 ii, .slice ak l ck] 71)) _ (by first | rfl | simp) rfl rfl HP.out (by (try simp [List.length_append] at hs); (try simp [List.length_append]); omega)).mono ?_
 rintro e w1 ⟨rfl, v1, p1, g1⟩
 have P1 : Hid (Pnt pb (.slice (some ⟨b, off, none⟩) L c) w1 v1 _) := p1
 have G1 : Hid (Pg pb (w.alloc (.cells #[.int .i64 7, .string t, .int .i64 ii, .slice ak l ck] 71)) v w1 v1) := G0.out.trans g1
 clear p1 g1
 have BL1 : Hid (Below pb w0 w1) := HB.out.trans (G1.out.low HP.out)
 have K1 := G1.out.cells (by simp) (by have := HP.out.lt; omega) hrb KC
 have k1_0 := K1 0
 have k1_1 := K1 1
 have k1_2 := K1 2
 have k1_3 := K1 3
 simp at k1_0 k1_1 k1_2 k1_3
 clear K1
 go_wp2_with fail
 clear k1_0 k1_1 k1_2 k1_3
 refine (zeu pb (.slice (some ⟨b, off, none⟩) L c) v1 _ t ii _ l ck y rec T w0 w1 HKA.out hT (by omega) (by (try simp [List.length_append] at hs); (try simp [List.length_append]); omega) (by omega) P1.out BL1.out HRA.out).mono ?_
 rintro e w2 ⟨rfl, v2, p2, g2⟩
 have P2 : Hid (Pnt pb (.slice (some ⟨b, off, none⟩) L c) w2 v2 _) := p2
 have G2 : Hid (Pg pb (w.alloc (.cells #[.int .i64 7, .string t, .int .i64 ii, .slice ak l ck] 71)) v w2 v2) := G1.out.trans g2
 clear p2 g2
 have BL2 : Hid (Below pb w0 w2) := HB.out.trans (G2.out.low HP.out)
 have K2 := G2.out.cells (by simp) (by have := HP.out.lt; omega) hrb KC
 have k2_0 := K2 0
 have k2_1 := K2 1
 have k2_2 := K2 2
 have k2_3 := K2 3
 simp at k2_0 k2_1 k2_2 k2_3
 clear K2
 go_wp2_with fail
 clear k2_0 k2_1 k2_2 k2_3
 refine (ze pb (.slice (some ⟨b, off, none⟩) L c) v2 _ [⟨#[41]⟩] _ _ w2 _ (by first | rfl | simp) rfl rfl P2.out (by (try simp [List.length_append] at hs); (try simp [List.length_append]); omega)).mono ?_
 rintro e w3 ⟨rfl, v3, p3, g3⟩
 have P3 : Hid (Pnt pb (.slice (some ⟨b, off, none⟩) L c) w3 v3 _) := p3
 have G3 : Hid (Pg pb (w.alloc (.cells #[.int .i64 7, .string t, .int .i64 ii, .slice ak l ck] 71)) v w3 v3) := G2.out.trans g3
 clear p3 g3
 go_wp2
 go_end0
 refine ⟨rfl, v3, ?_, (Pg.of_below B1).trans G3.out⟩
 have h9 := P3.out
 simpa [List.append_assoc] using h9
set_option maxHeartbeats 2000000 in
theorem zja (pb b off c L z : Nat) (v : Value) (xs : List ByteArray) (t : ByteArray) (ii : Int) (bk ok : Nat) (ck : Nat) (y : Nat -> Int) (rec : Int -> List ByteArray) (T : Nat) (w0 w : World) 
 (hbT : b < pb) (hz : z < L) (hL : L <= 3000) (c0 : w0.cell? ⟨b, off + z * 4, none⟩ = some (.int .i64 12)) (c1 : w0.cell? ⟨b, off + z * 4 + 1, none⟩ = some (.string t)) (c2 : w0.cell? ⟨b, off + z * 4 + 2, none⟩ = some (.int .i64 ii)) (c3 : w0.cell? ⟨b, off + z * 4 + 3, none⟩ = some (.slice (some ⟨bk, ok, none⟩) 2 ck))
 (hk : SlF T w0 (.slice (some ⟨bk, ok, none⟩) 2 ck) 2 2 (fun i => .int .i64 (y i))) (hT : T <= pb) (hl : 2 <= 1048576) (hc1 : 2 <= ck) (hc2 : ck <= 1048576) (hs : xs.length + 40 * (([⟨#[40]⟩] ++ (rec (y 0) ++ [⟨#[97, 110, 100]⟩] ++ rec (y 1)) ++ [⟨#[41]⟩] : List ByteArray).length + 1) <= 1000000)
 (hp : Pnt pb (.slice (some ⟨b, off, none⟩) L c) w v xs) (hb : Below pb w0 w) (hr : ∀ m, m < 2 -> Pr pb (.slice (some ⟨b, off, none⟩) L c) w0 rec (y m)) :
 Calls Tryd.prog 87 #[.pointer (some ⟨pb, 0, none⟩), .int .i64 (z : Int)] w (zb pb (.slice (some ⟨b, off, none⟩) L c) xs ([⟨#[40]⟩] ++ (rec (y 0) ++ [⟨#[97, 110, 100]⟩] ++ rec (y 1)) ++ [⟨#[41]⟩]) w v) := by
 have hz' : (z : Int) < (L : Int) := by omega
 have hL' : (L : Int) <= 3000 := by omega
 have lw := hp.lt
 have n0 := hp.c0
 have lb1 : b < w.heap.size := by omega
 rw [<- hb.cell (p := ⟨b, off + z * 4, none⟩) hbT] at c0
 rw [<- hb.cell (p := ⟨b, off + z * 4 + 1, none⟩) hbT] at c1
 rw [<- hb.cell (p := ⟨b, off + z * 4 + 2, none⟩) hbT] at c2
 rw [<- hb.cell (p := ⟨b, off + z * 4 + 3, none⟩) hbT] at c3
 have B1 : Below w.heap.size w (w.alloc (.cells #[.int .i64 12, .string t, .int .i64 ii, .slice (some ⟨bk, ok, none⟩) 2 ck] 71)) := (Below.refl _ _).alloc (Nat.le_refl _) _
 have KC : ∀ z, ((w.alloc (.cells #[.int .i64 12, .string t, .int .i64 ii, .slice (some ⟨bk, ok, none⟩) 2 ck] 71))).cell? ⟨w.heap.size, z, none⟩ = (#[.int .i64 12, .string t, .int .i64 ii, .slice (some ⟨bk, ok, none⟩) 2 ck] : Array Value)[z]? := fun z => by simp [go_sem]
 have hrb : v.ownBlock ≠ some w.heap.size := fun e => by have := (World.ownsRow.lt hp.own _ e).2; omega
 have HP : Hid (Pnt pb (.slice (some ⟨b, off, none⟩) L c) (w.alloc (.cells #[.int .i64 12, .string t, .int .i64 ii, .slice (some ⟨bk, ok, none⟩) 2 ck] 71)) v xs) := hp.below B1
 have HB : Hid (Below pb w0 (w.alloc (.cells #[.int .i64 12, .string t, .int .i64 ii, .slice (some ⟨bk, ok, none⟩) 2 ck] 71))) := hb.trans (B1.mono (by omega))
 have HKA : Hid (SlF T w0 (.slice (some ⟨bk, ok, none⟩) 2 ck) 2 2 (fun i => .int .i64 (y i))) := hk
 have HRA : Hid (∀ m, m < 2 -> Pr pb (.slice (some ⟨b, off, none⟩) L c) w0 rec (y m)) := hr
 have G0 : Hid (Pg pb (w.alloc (.cells #[.int .i64 12, .string t, .int .i64 ii, .slice (some ⟨bk, ok, none⟩) 2 ck] 71)) v (w.alloc (.cells #[.int .i64 12, .string t, .int .i64 ii, .slice (some ⟨bk, ok, none⟩) 2 ck] 71)) v) := Pg.refl _ _ _
 clear hp hr
 go_enter Tryd.func87, Tryd.ntmps87
 go_wp2_with fail
 refine (zv _ _).mono ?_
 rintro e wx ⟨rfl, hwx⟩
 rw [hwx]
 clear hwx wx
 have BL0 : Hid (Below pb w0 (w.alloc (.cells #[.int .i64 12, .string t, .int .i64 ii, .slice (some ⟨bk, ok, none⟩) 2 ck] 71))) := HB
 go_wp2_with fail
 refine (ze pb (.slice (some ⟨b, off, none⟩) L c) v _ [⟨#[40]⟩] _ _ (w.alloc (.cells #[.int .i64 12, .string t, .int .i64 ii, .slice (some ⟨bk, ok, none⟩) 2 ck] 71)) _ (by first | rfl | simp) rfl rfl HP.out (by (try simp [List.length_append] at hs); (try simp [List.length_append]); omega)).mono ?_
 rintro e w1 ⟨rfl, v1, p1, g1⟩
 have P1 : Hid (Pnt pb (.slice (some ⟨b, off, none⟩) L c) w1 v1 _) := p1
 have G1 : Hid (Pg pb (w.alloc (.cells #[.int .i64 12, .string t, .int .i64 ii, .slice (some ⟨bk, ok, none⟩) 2 ck] 71)) v w1 v1) := G0.out.trans g1
 clear p1 g1
 have BL1 : Hid (Below pb w0 w1) := HB.out.trans (G1.out.low HP.out)
 have K1 := G1.out.cells (by simp) (by have := HP.out.lt; omega) hrb KC
 have k1_0 := K1 0
 have k1_1 := K1 1
 have k1_2 := K1 2
 have k1_3 := K1 3
 simp at k1_0 k1_1 k1_2 k1_3
 clear K1
 go_wp2_with fail
 clear k1_0 k1_1 k1_2 k1_3
 refine (zee pb (.slice (some ⟨b, off, none⟩) L c) v1 _ t ii _ 2 ck y rec T w0 w1 HKA.out hT (by omega) (by (try simp [List.length_append] at hs); (try simp [List.length_append]); omega) (by omega) P1.out BL1.out HRA.out).mono ?_
 rintro e w2 ⟨rfl, v2, p2, g2⟩
 have P2 : Hid (Pnt pb (.slice (some ⟨b, off, none⟩) L c) w2 v2 _) := p2
 have G2 : Hid (Pg pb (w.alloc (.cells #[.int .i64 12, .string t, .int .i64 ii, .slice (some ⟨bk, ok, none⟩) 2 ck] 71)) v w2 v2) := G1.out.trans g2
 clear p2 g2
 have BL2 : Hid (Below pb w0 w2) := HB.out.trans (G2.out.low HP.out)
 have K2 := G2.out.cells (by simp) (by have := HP.out.lt; omega) hrb KC
 have k2_0 := K2 0
 have k2_1 := K2 1
 have k2_2 := K2 2
 have k2_3 := K2 3
 simp at k2_0 k2_1 k2_2 k2_3
 clear K2
 go_wp2_with fail
 clear k2_0 k2_1 k2_2 k2_3
 refine (ze pb (.slice (some ⟨b, off, none⟩) L c) v2 _ [⟨#[41]⟩] _ _ w2 _ (by first | rfl | simp) rfl rfl P2.out (by (try simp [List.length_append] at hs); (try simp [List.length_append]); omega)).mono ?_
 rintro e w3 ⟨rfl, v3, p3, g3⟩
 have P3 : Hid (Pnt pb (.slice (some ⟨b, off, none⟩) L c) w3 v3 _) := p3
 have G3 : Hid (Pg pb (w.alloc (.cells #[.int .i64 12, .string t, .int .i64 ii, .slice (some ⟨bk, ok, none⟩) 2 ck] 71)) v w3 v3) := G2.out.trans g3
 clear p3 g3
 go_wp2
 go_end0
 refine ⟨rfl, v3, ?_, (Pg.of_below B1).trans G3.out⟩
 have h9 := P3.out
 simpa [List.append_assoc] using h9
set_option maxHeartbeats 2000000 in
theorem zjb (pb b off c L z : Nat) (v : Value) (xs : List ByteArray) (t : ByteArray) (ii : Int) (bk ok : Nat) (ck : Nat) (y : Nat -> Int) (rec : Int -> List ByteArray) (T : Nat) (w0 w : World) 
 (hbT : b < pb) (hz : z < L) (hL : L <= 3000) (c0 : w0.cell? ⟨b, off + z * 4, none⟩ = some (.int .i64 13)) (c1 : w0.cell? ⟨b, off + z * 4 + 1, none⟩ = some (.string t)) (c2 : w0.cell? ⟨b, off + z * 4 + 2, none⟩ = some (.int .i64 ii)) (c3 : w0.cell? ⟨b, off + z * 4 + 3, none⟩ = some (.slice (some ⟨bk, ok, none⟩) 2 ck))
 (hk : SlF T w0 (.slice (some ⟨bk, ok, none⟩) 2 ck) 2 2 (fun i => .int .i64 (y i))) (hT : T <= pb) (hl : 2 <= 1048576) (hc1 : 2 <= ck) (hc2 : ck <= 1048576) (hs : xs.length + 40 * (([⟨#[40]⟩] ++ (rec (y 0) ++ [⟨#[111, 114]⟩] ++ rec (y 1)) ++ [⟨#[41]⟩] : List ByteArray).length + 1) <= 1000000)
 (hp : Pnt pb (.slice (some ⟨b, off, none⟩) L c) w v xs) (hb : Below pb w0 w) (hr : ∀ m, m < 2 -> Pr pb (.slice (some ⟨b, off, none⟩) L c) w0 rec (y m)) :
 Calls Tryd.prog 87 #[.pointer (some ⟨pb, 0, none⟩), .int .i64 (z : Int)] w (zb pb (.slice (some ⟨b, off, none⟩) L c) xs ([⟨#[40]⟩] ++ (rec (y 0) ++ [⟨#[111, 114]⟩] ++ rec (y 1)) ++ [⟨#[41]⟩]) w v) := by
 have hz' : (z : Int) < (L : Int) := by omega
 have hL' : (L : Int) <= 3000 := by omega
 have lw := hp.lt
 have n0 := hp.c0
 have lb1 : b < w.heap.size := by omega
 rw [<- hb.cell (p := ⟨b, off + z * 4, none⟩) hbT] at c0
 rw [<- hb.cell (p := ⟨b, off + z * 4 + 1, none⟩) hbT] at c1
 rw [<- hb.cell (p := ⟨b, off + z * 4 + 2, none⟩) hbT] at c2
 rw [<- hb.cell (p := ⟨b, off + z * 4 + 3, none⟩) hbT] at c3
 have B1 : Below w.heap.size w (w.alloc (.cells #[.int .i64 13, .string t, .int .i64 ii, .slice (some ⟨bk, ok, none⟩) 2 ck] 71)) := (Below.refl _ _).alloc (Nat.le_refl _) _
 have KC : ∀ z, ((w.alloc (.cells #[.int .i64 13, .string t, .int .i64 ii, .slice (some ⟨bk, ok, none⟩) 2 ck] 71))).cell? ⟨w.heap.size, z, none⟩ = (#[.int .i64 13, .string t, .int .i64 ii, .slice (some ⟨bk, ok, none⟩) 2 ck] : Array Value)[z]? := fun z => by simp [go_sem]
 have hrb : v.ownBlock ≠ some w.heap.size := fun e => by have := (World.ownsRow.lt hp.own _ e).2; omega
 have HP : Hid (Pnt pb (.slice (some ⟨b, off, none⟩) L c) (w.alloc (.cells #[.int .i64 13, .string t, .int .i64 ii, .slice (some ⟨bk, ok, none⟩) 2 ck] 71)) v xs) := hp.below B1
 have HB : Hid (Below pb w0 (w.alloc (.cells #[.int .i64 13, .string t, .int .i64 ii, .slice (some ⟨bk, ok, none⟩) 2 ck] 71))) := hb.trans (B1.mono (by omega))
 have HKA : Hid (SlF T w0 (.slice (some ⟨bk, ok, none⟩) 2 ck) 2 2 (fun i => .int .i64 (y i))) := hk
 have HRA : Hid (∀ m, m < 2 -> Pr pb (.slice (some ⟨b, off, none⟩) L c) w0 rec (y m)) := hr
 have G0 : Hid (Pg pb (w.alloc (.cells #[.int .i64 13, .string t, .int .i64 ii, .slice (some ⟨bk, ok, none⟩) 2 ck] 71)) v (w.alloc (.cells #[.int .i64 13, .string t, .int .i64 ii, .slice (some ⟨bk, ok, none⟩) 2 ck] 71)) v) := Pg.refl _ _ _
 clear hp hr
 go_enter Tryd.func87, Tryd.ntmps87
 go_wp2_with fail
 refine (zv _ _).mono ?_
 rintro e wx ⟨rfl, hwx⟩
 rw [hwx]
 clear hwx wx
 have BL0 : Hid (Below pb w0 (w.alloc (.cells #[.int .i64 13, .string t, .int .i64 ii, .slice (some ⟨bk, ok, none⟩) 2 ck] 71))) := HB
 go_wp2_with fail
 refine (ze pb (.slice (some ⟨b, off, none⟩) L c) v _ [⟨#[40]⟩] _ _ (w.alloc (.cells #[.int .i64 13, .string t, .int .i64 ii, .slice (some ⟨bk, ok, none⟩) 2 ck] 71)) _ (by first | rfl | simp) rfl rfl HP.out (by (try simp [List.length_append] at hs); (try simp [List.length_append]); omega)).mono ?_
 rintro e w1 ⟨rfl, v1, p1, g1⟩
 have P1 : Hid (Pnt pb (.slice (some ⟨b, off, none⟩) L c) w1 v1 _) := p1
 have G1 : Hid (Pg pb (w.alloc (.cells #[.int .i64 13, .string t, .int .i64 ii, .slice (some ⟨bk, ok, none⟩) 2 ck] 71)) v w1 v1) := G0.out.trans g1
 clear p1 g1
 have BL1 : Hid (Below pb w0 w1) := HB.out.trans (G1.out.low HP.out)
 have K1 := G1.out.cells (by simp) (by have := HP.out.lt; omega) hrb KC
 have k1_0 := K1 0
 have k1_1 := K1 1
 have k1_2 := K1 2
 have k1_3 := K1 3
 simp at k1_0 k1_1 k1_2 k1_3
 clear K1
 go_wp2_with fail
 clear k1_0 k1_1 k1_2 k1_3
 refine (zef pb (.slice (some ⟨b, off, none⟩) L c) v1 _ t ii _ 2 ck y rec T w0 w1 HKA.out hT (by omega) (by (try simp [List.length_append] at hs); (try simp [List.length_append]); omega) (by omega) P1.out BL1.out HRA.out).mono ?_
 rintro e w2 ⟨rfl, v2, p2, g2⟩
 have P2 : Hid (Pnt pb (.slice (some ⟨b, off, none⟩) L c) w2 v2 _) := p2
 have G2 : Hid (Pg pb (w.alloc (.cells #[.int .i64 13, .string t, .int .i64 ii, .slice (some ⟨bk, ok, none⟩) 2 ck] 71)) v w2 v2) := G1.out.trans g2
 clear p2 g2
 have BL2 : Hid (Below pb w0 w2) := HB.out.trans (G2.out.low HP.out)
 have K2 := G2.out.cells (by simp) (by have := HP.out.lt; omega) hrb KC
 have k2_0 := K2 0
 have k2_1 := K2 1
 have k2_2 := K2 2
 have k2_3 := K2 3
 simp at k2_0 k2_1 k2_2 k2_3
 clear K2
 go_wp2_with fail
 clear k2_0 k2_1 k2_2 k2_3
 refine (ze pb (.slice (some ⟨b, off, none⟩) L c) v2 _ [⟨#[41]⟩] _ _ w2 _ (by first | rfl | simp) rfl rfl P2.out (by (try simp [List.length_append] at hs); (try simp [List.length_append]); omega)).mono ?_
 rintro e w3 ⟨rfl, v3, p3, g3⟩
 have P3 : Hid (Pnt pb (.slice (some ⟨b, off, none⟩) L c) w3 v3 _) := p3
 have G3 : Hid (Pg pb (w.alloc (.cells #[.int .i64 13, .string t, .int .i64 ii, .slice (some ⟨bk, ok, none⟩) 2 ck] 71)) v w3 v3) := G2.out.trans g3
 clear p3 g3
 go_wp2
 go_end0
 refine ⟨rfl, v3, ?_, (Pg.of_below B1).trans G3.out⟩
 have h9 := P3.out
 simpa [List.append_assoc] using h9
set_option maxHeartbeats 2000000 in
theorem zjc (pb b off c L z : Nat) (v : Value) (xs : List ByteArray) (t : ByteArray)  (bk ok : Nat) (ck : Nat) (y : Nat -> Int) (rec : Int -> List ByteArray) (T : Nat) (w0 w : World) (nn : Nat) (tt : ByteArray) (hn4 : nn < 4) (htn : ∀ V, Below pb w0 V -> 2 < V.heap.size /\ V.cell? ⟨2, nn, none⟩ = some (.string tt))
 (hbT : b < pb) (hz : z < L) (hL : L <= 3000) (c0 : w0.cell? ⟨b, off + z * 4, none⟩ = some (.int .i64 11)) (c1 : w0.cell? ⟨b, off + z * 4 + 1, none⟩ = some (.string t)) (c2 : w0.cell? ⟨b, off + z * 4 + 2, none⟩ = some (.int .i64 (nn : Int))) (c3 : w0.cell? ⟨b, off + z * 4 + 3, none⟩ = some (.slice (some ⟨bk, ok, none⟩) 1 ck))
 (hk : SlF T w0 (.slice (some ⟨bk, ok, none⟩) 1 ck) 1 1 (fun i => .int .i64 (y i))) (hT : T <= pb) (hl : 1 <= 1048576) (hc1 : 1 <= ck) (hc2 : ck <= 1048576) (hs : xs.length + 40 * (([⟨#[40]⟩] ++ ([tt] ++ rec (y 0)) ++ [⟨#[41]⟩] : List ByteArray).length + 1) <= 1000000)
 (hp : Pnt pb (.slice (some ⟨b, off, none⟩) L c) w v xs) (hb : Below pb w0 w) (hr : ∀ m, m < 1 -> Pr pb (.slice (some ⟨b, off, none⟩) L c) w0 rec (y m)) :
 Calls Tryd.prog 87 #[.pointer (some ⟨pb, 0, none⟩), .int .i64 (z : Int)] w (zb pb (.slice (some ⟨b, off, none⟩) L c) xs ([⟨#[40]⟩] ++ ([tt] ++ rec (y 0)) ++ [⟨#[41]⟩]) w v) := by
 have hz' : (z : Int) < (L : Int) := by omega
 have hL' : (L : Int) <= 3000 := by omega
 have lw := hp.lt
 have n0 := hp.c0
 have lb1 : b < w.heap.size := by omega
 rw [<- hb.cell (p := ⟨b, off + z * 4, none⟩) hbT] at c0
 rw [<- hb.cell (p := ⟨b, off + z * 4 + 1, none⟩) hbT] at c1
 rw [<- hb.cell (p := ⟨b, off + z * 4 + 2, none⟩) hbT] at c2
 rw [<- hb.cell (p := ⟨b, off + z * 4 + 3, none⟩) hbT] at c3
 have B1 : Below w.heap.size w (w.alloc (.cells #[.int .i64 11, .string t, .int .i64 (nn : Int), .slice (some ⟨bk, ok, none⟩) 1 ck] 71)) := (Below.refl _ _).alloc (Nat.le_refl _) _
 have KC : ∀ z, ((w.alloc (.cells #[.int .i64 11, .string t, .int .i64 (nn : Int), .slice (some ⟨bk, ok, none⟩) 1 ck] 71))).cell? ⟨w.heap.size, z, none⟩ = (#[.int .i64 11, .string t, .int .i64 (nn : Int), .slice (some ⟨bk, ok, none⟩) 1 ck] : Array Value)[z]? := fun z => by simp [go_sem]
 have hrb : v.ownBlock ≠ some w.heap.size := fun e => by have := (World.ownsRow.lt hp.own _ e).2; omega
 have HP : Hid (Pnt pb (.slice (some ⟨b, off, none⟩) L c) (w.alloc (.cells #[.int .i64 11, .string t, .int .i64 (nn : Int), .slice (some ⟨bk, ok, none⟩) 1 ck] 71)) v xs) := hp.below B1
 have HB : Hid (Below pb w0 (w.alloc (.cells #[.int .i64 11, .string t, .int .i64 (nn : Int), .slice (some ⟨bk, ok, none⟩) 1 ck] 71))) := hb.trans (B1.mono (by omega))
 have HKA : Hid (SlF T w0 (.slice (some ⟨bk, ok, none⟩) 1 ck) 1 1 (fun i => .int .i64 (y i))) := hk
 have HRA : Hid (∀ m, m < 1 -> Pr pb (.slice (some ⟨b, off, none⟩) L c) w0 rec (y m)) := hr
 have G0 : Hid (Pg pb (w.alloc (.cells #[.int .i64 11, .string t, .int .i64 (nn : Int), .slice (some ⟨bk, ok, none⟩) 1 ck] 71)) v (w.alloc (.cells #[.int .i64 11, .string t, .int .i64 (nn : Int), .slice (some ⟨bk, ok, none⟩) 1 ck] 71)) v) := Pg.refl _ _ _
 clear hp hr
 go_enter Tryd.func87, Tryd.ntmps87
 go_wp2_with fail
 refine (zv _ _).mono ?_
 rintro e wx ⟨rfl, hwx⟩
 rw [hwx]
 clear hwx wx
 have BL0 : Hid (Below pb w0 (w.alloc (.cells #[.int .i64 11, .string t, .int .i64 (nn : Int), .slice (some ⟨bk, ok, none⟩) 1 ck] 71))) := HB
 go_wp2_with fail
 refine (ze pb (.slice (some ⟨b, off, none⟩) L c) v _ [⟨#[40]⟩] _ _ (w.alloc (.cells #[.int .i64 11, .string t, .int .i64 (nn : Int), .slice (some ⟨bk, ok, none⟩) 1 ck] 71)) _ (by first | rfl | simp) rfl rfl HP.out (by (try simp [List.length_append] at hs); (try simp [List.length_append]); omega)).mono ?_
 rintro e w1 ⟨rfl, v1, p1, g1⟩
 have P1 : Hid (Pnt pb (.slice (some ⟨b, off, none⟩) L c) w1 v1 _) := p1
 have G1 : Hid (Pg pb (w.alloc (.cells #[.int .i64 11, .string t, .int .i64 (nn : Int), .slice (some ⟨bk, ok, none⟩) 1 ck] 71)) v w1 v1) := G0.out.trans g1
 clear p1 g1
 have BL1 : Hid (Below pb w0 w1) := HB.out.trans (G1.out.low HP.out)
 have K1 := G1.out.cells (by simp) (by have := HP.out.lt; omega) hrb KC
 have k1_0 := K1 0
 have k1_1 := K1 1
 have k1_2 := K1 2
 have k1_3 := K1 3
 simp at k1_0 k1_1 k1_2 k1_3
 clear K1
 go_wp2_with fail
 clear k1_0 k1_1 k1_2 k1_3
 refine (zec pb (.slice (some ⟨b, off, none⟩) L c) v1 _ t bk ok ck y rec T w0 w1 nn tt hn4 htn HKA.out hT hc1 hc2 (by (try simp [List.length_append] at hs); (try simp [List.length_append]); omega) P1.out BL1.out HRA.out).mono ?_
 rintro e w2 ⟨rfl, v2, p2, g2⟩
 have P2 : Hid (Pnt pb (.slice (some ⟨b, off, none⟩) L c) w2 v2 _) := p2
 have G2 : Hid (Pg pb (w.alloc (.cells #[.int .i64 11, .string t, .int .i64 (nn : Int), .slice (some ⟨bk, ok, none⟩) 1 ck] 71)) v w2 v2) := G1.out.trans g2
 clear p2 g2
 have BL2 : Hid (Below pb w0 w2) := HB.out.trans (G2.out.low HP.out)
 have K2 := G2.out.cells (by simp) (by have := HP.out.lt; omega) hrb KC
 have k2_0 := K2 0
 have k2_1 := K2 1
 have k2_2 := K2 2
 have k2_3 := K2 3
 simp at k2_0 k2_1 k2_2 k2_3
 clear K2
 go_wp2_with fail
 clear k2_0 k2_1 k2_2 k2_3
 refine (ze pb (.slice (some ⟨b, off, none⟩) L c) v2 _ [⟨#[41]⟩] _ _ w2 _ (by first | rfl | simp) rfl rfl P2.out (by (try simp [List.length_append] at hs); (try simp [List.length_append]); omega)).mono ?_
 rintro e w3 ⟨rfl, v3, p3, g3⟩
 have P3 : Hid (Pnt pb (.slice (some ⟨b, off, none⟩) L c) w3 v3 _) := p3
 have G3 : Hid (Pg pb (w.alloc (.cells #[.int .i64 11, .string t, .int .i64 (nn : Int), .slice (some ⟨bk, ok, none⟩) 1 ck] 71)) v w3 v3) := G2.out.trans g3
 clear p3 g3
 go_wp2
 go_end0
 refine ⟨rfl, v3, ?_, (Pg.of_below B1).trans G3.out⟩
 have h9 := P3.out
 simpa [List.append_assoc] using h9
set_option maxHeartbeats 2000000 in
theorem zjd (pb b off c L z : Nat) (v : Value) (xs : List ByteArray) (t : ByteArray)  (bk ok : Nat) (ck : Nat) (y : Nat -> Int) (rec : Int -> List ByteArray) (T : Nat) (w0 w : World) (nn : Nat) (ot : ByteArray) (hn4 : nn < 11) (htn : ∀ V, Below pb w0 V -> 1 < V.heap.size /\ V.cell? ⟨1, nn, none⟩ = some (.string ot))
 (hbT : b < pb) (hz : z < L) (hL : L <= 3000) (c0 : w0.cell? ⟨b, off + z * 4, none⟩ = some (.int .i64 10)) (c1 : w0.cell? ⟨b, off + z * 4 + 1, none⟩ = some (.string t)) (c2 : w0.cell? ⟨b, off + z * 4 + 2, none⟩ = some (.int .i64 (nn : Int))) (c3 : w0.cell? ⟨b, off + z * 4 + 3, none⟩ = some (.slice (some ⟨bk, ok, none⟩) 2 ck))
 (hk : SlF T w0 (.slice (some ⟨bk, ok, none⟩) 2 ck) 2 2 (fun i => .int .i64 (y i))) (hT : T <= pb) (hl : 2 <= 1048576) (hc1 : 2 <= ck) (hc2 : ck <= 1048576) (hs : xs.length + 40 * (([⟨#[40]⟩] ++ (rec (y 0) ++ [ot] ++ rec (y 1)) ++ [⟨#[41]⟩] : List ByteArray).length + 1) <= 1000000)
 (hp : Pnt pb (.slice (some ⟨b, off, none⟩) L c) w v xs) (hb : Below pb w0 w) (hr : ∀ m, m < 2 -> Pr pb (.slice (some ⟨b, off, none⟩) L c) w0 rec (y m)) :
 Calls Tryd.prog 87 #[.pointer (some ⟨pb, 0, none⟩), .int .i64 (z : Int)] w (zb pb (.slice (some ⟨b, off, none⟩) L c) xs ([⟨#[40]⟩] ++ (rec (y 0) ++ [ot] ++ rec (y 1)) ++ [⟨#[41]⟩]) w v) := by
 have hz' : (z : Int) < (L : Int) := by omega
 have hL' : (L : Int) <= 3000 := by omega
 have lw := hp.lt
 have n0 := hp.c0
 have lb1 : b < w.heap.size := by omega
 rw [<- hb.cell (p := ⟨b, off + z * 4, none⟩) hbT] at c0
 rw [<- hb.cell (p := ⟨b, off + z * 4 + 1, none⟩) hbT] at c1
 rw [<- hb.cell (p := ⟨b, off + z * 4 + 2, none⟩) hbT] at c2
 rw [<- hb.cell (p := ⟨b, off + z * 4 + 3, none⟩) hbT] at c3
 have B1 : Below w.heap.size w (w.alloc (.cells #[.int .i64 10, .string t, .int .i64 (nn : Int), .slice (some ⟨bk, ok, none⟩) 2 ck] 71)) := (Below.refl _ _).alloc (Nat.le_refl _) _
 have KC : ∀ z, ((w.alloc (.cells #[.int .i64 10, .string t, .int .i64 (nn : Int), .slice (some ⟨bk, ok, none⟩) 2 ck] 71))).cell? ⟨w.heap.size, z, none⟩ = (#[.int .i64 10, .string t, .int .i64 (nn : Int), .slice (some ⟨bk, ok, none⟩) 2 ck] : Array Value)[z]? := fun z => by simp [go_sem]
 have hrb : v.ownBlock ≠ some w.heap.size := fun e => by have := (World.ownsRow.lt hp.own _ e).2; omega
 have HP : Hid (Pnt pb (.slice (some ⟨b, off, none⟩) L c) (w.alloc (.cells #[.int .i64 10, .string t, .int .i64 (nn : Int), .slice (some ⟨bk, ok, none⟩) 2 ck] 71)) v xs) := hp.below B1
 have HB : Hid (Below pb w0 (w.alloc (.cells #[.int .i64 10, .string t, .int .i64 (nn : Int), .slice (some ⟨bk, ok, none⟩) 2 ck] 71))) := hb.trans (B1.mono (by omega))
 have HKA : Hid (SlF T w0 (.slice (some ⟨bk, ok, none⟩) 2 ck) 2 2 (fun i => .int .i64 (y i))) := hk
 have HRA : Hid (∀ m, m < 2 -> Pr pb (.slice (some ⟨b, off, none⟩) L c) w0 rec (y m)) := hr
 have G0 : Hid (Pg pb (w.alloc (.cells #[.int .i64 10, .string t, .int .i64 (nn : Int), .slice (some ⟨bk, ok, none⟩) 2 ck] 71)) v (w.alloc (.cells #[.int .i64 10, .string t, .int .i64 (nn : Int), .slice (some ⟨bk, ok, none⟩) 2 ck] 71)) v) := Pg.refl _ _ _
 clear hp hr
 go_enter Tryd.func87, Tryd.ntmps87
 go_wp2_with fail
 refine (zv _ _).mono ?_
 rintro e wx ⟨rfl, hwx⟩
 rw [hwx]
 clear hwx wx
 have BL0 : Hid (Below pb w0 (w.alloc (.cells #[.int .i64 10, .string t, .int .i64 (nn : Int), .slice (some ⟨bk, ok, none⟩) 2 ck] 71))) := HB
 go_wp2_with fail
 refine (ze pb (.slice (some ⟨b, off, none⟩) L c) v _ [⟨#[40]⟩] _ _ (w.alloc (.cells #[.int .i64 10, .string t, .int .i64 (nn : Int), .slice (some ⟨bk, ok, none⟩) 2 ck] 71)) _ (by first | rfl | simp) rfl rfl HP.out (by (try simp [List.length_append] at hs); (try simp [List.length_append]); omega)).mono ?_
 rintro e w1 ⟨rfl, v1, p1, g1⟩
 have P1 : Hid (Pnt pb (.slice (some ⟨b, off, none⟩) L c) w1 v1 _) := p1
 have G1 : Hid (Pg pb (w.alloc (.cells #[.int .i64 10, .string t, .int .i64 (nn : Int), .slice (some ⟨bk, ok, none⟩) 2 ck] 71)) v w1 v1) := G0.out.trans g1
 clear p1 g1
 have BL1 : Hid (Below pb w0 w1) := HB.out.trans (G1.out.low HP.out)
 have K1 := G1.out.cells (by simp) (by have := HP.out.lt; omega) hrb KC
 have k1_0 := K1 0
 have k1_1 := K1 1
 have k1_2 := K1 2
 have k1_3 := K1 3
 simp at k1_0 k1_1 k1_2 k1_3
 clear K1
 go_wp2_with fail
 clear k1_0 k1_1 k1_2 k1_3
 refine (zed pb (.slice (some ⟨b, off, none⟩) L c) v1 _ t bk ok ck y rec T w0 w1 nn ot hn4 htn HKA.out hT hc1 hc2 (by (try simp [List.length_append] at hs); (try simp [List.length_append]); omega) P1.out BL1.out HRA.out).mono ?_
 rintro e w2 ⟨rfl, v2, p2, g2⟩
 have P2 : Hid (Pnt pb (.slice (some ⟨b, off, none⟩) L c) w2 v2 _) := p2
 have G2 : Hid (Pg pb (w.alloc (.cells #[.int .i64 10, .string t, .int .i64 (nn : Int), .slice (some ⟨bk, ok, none⟩) 2 ck] 71)) v w2 v2) := G1.out.trans g2
 clear p2 g2
 have BL2 : Hid (Below pb w0 w2) := HB.out.trans (G2.out.low HP.out)
 have K2 := G2.out.cells (by simp) (by have := HP.out.lt; omega) hrb KC
 have k2_0 := K2 0
 have k2_1 := K2 1
 have k2_2 := K2 2
 have k2_3 := K2 3
 simp at k2_0 k2_1 k2_2 k2_3
 clear K2
 go_wp2_with fail
 clear k2_0 k2_1 k2_2 k2_3
 refine (ze pb (.slice (some ⟨b, off, none⟩) L c) v2 _ [⟨#[41]⟩] _ _ w2 _ (by first | rfl | simp) rfl rfl P2.out (by (try simp [List.length_append] at hs); (try simp [List.length_append]); omega)).mono ?_
 rintro e w3 ⟨rfl, v3, p3, g3⟩
 have P3 : Hid (Pnt pb (.slice (some ⟨b, off, none⟩) L c) w3 v3 _) := p3
 have G3 : Hid (Pg pb (w.alloc (.cells #[.int .i64 10, .string t, .int .i64 (nn : Int), .slice (some ⟨bk, ok, none⟩) 2 ck] 71)) v w3 v3) := G2.out.trans g3
 clear p3 g3
 go_wp2
 go_end0
 refine ⟨rfl, v3, ?_, (Pg.of_below B1).trans G3.out⟩
 have h9 := P3.out
 simpa [List.append_assoc] using h9
set_option maxHeartbeats 2000000 in
theorem zj6 (pb b off c L z : Nat) (v : Value) (xs : List ByteArray) (t : ByteArray) (ii : Int) (bk ok : Nat) (ck : Nat) (y : Nat -> Int) (rec : Int -> List ByteArray) (T : Nat) (w0 w : World) (q : Nat)
 (hbT : b < pb) (hz : z < L) (hL : L <= 3000) (c0 : w0.cell? ⟨b, off + z * 4, none⟩ = some (.int .i64 6)) (c1 : w0.cell? ⟨b, off + z * 4 + 1, none⟩ = some (.string t)) (c2 : w0.cell? ⟨b, off + z * 4 + 2, none⟩ = some (.int .i64 ii)) (c3 : w0.cell? ⟨b, off + z * 4 + 3, none⟩ = some (.slice (some ⟨bk, ok, none⟩) (q + 1) ck))
 (hk : SlF T w0 (.slice (some ⟨bk, ok, none⟩) (q + 1) ck) (q + 1) (q + 1) (fun i => .int .i64 (y i))) (hT : T <= pb) (hl : (q + 1) <= 1048576) (hc1 : (q + 1) <= ck) (hc2 : ck <= 1048576) (hs : xs.length + 40 * (([⟨#[40]⟩] ++ ([⟨#[102, 110]⟩, ⟨#[40]⟩] ++ cmN rec y q ++ [⟨#[41]⟩] ++ rec (y q)) ++ [⟨#[41]⟩] : List ByteArray).length + 1) <= 1000000)
 (hp : Pnt pb (.slice (some ⟨b, off, none⟩) L c) w v xs) (hb : Below pb w0 w) (hr : ∀ m, m < (q + 1) -> Pr pb (.slice (some ⟨b, off, none⟩) L c) w0 rec (y m)) :
 Calls Tryd.prog 87 #[.pointer (some ⟨pb, 0, none⟩), .int .i64 (z : Int)] w (zb pb (.slice (some ⟨b, off, none⟩) L c) xs ([⟨#[40]⟩] ++ ([⟨#[102, 110]⟩, ⟨#[40]⟩] ++ cmN rec y q ++ [⟨#[41]⟩] ++ rec (y q)) ++ [⟨#[41]⟩]) w v) := by
 have hz' : (z : Int) < (L : Int) := by omega
 have hL' : (L : Int) <= 3000 := by omega
 have lw := hp.lt
 have n0 := hp.c0
 have lb1 : b < w.heap.size := by omega
 rw [<- hb.cell (p := ⟨b, off + z * 4, none⟩) hbT] at c0
 rw [<- hb.cell (p := ⟨b, off + z * 4 + 1, none⟩) hbT] at c1
 rw [<- hb.cell (p := ⟨b, off + z * 4 + 2, none⟩) hbT] at c2
 rw [<- hb.cell (p := ⟨b, off + z * 4 + 3, none⟩) hbT] at c3
 have B1 : Below w.heap.size w (w.alloc (.cells #[.int .i64 6, .string t, .int .i64 ii, .slice (some ⟨bk, ok, none⟩) (q + 1) ck] 71)) := (Below.refl _ _).alloc (Nat.le_refl _) _
 have KC : ∀ z, ((w.alloc (.cells #[.int .i64 6, .string t, .int .i64 ii, .slice (some ⟨bk, ok, none⟩) (q + 1) ck] 71))).cell? ⟨w.heap.size, z, none⟩ = (#[.int .i64 6, .string t, .int .i64 ii, .slice (some ⟨bk, ok, none⟩) (q + 1) ck] : Array Value)[z]? := fun z => by simp [go_sem]
 have hrb : v.ownBlock ≠ some w.heap.size := fun e => by have := (World.ownsRow.lt hp.own _ e).2; omega
 have HP : Hid (Pnt pb (.slice (some ⟨b, off, none⟩) L c) (w.alloc (.cells #[.int .i64 6, .string t, .int .i64 ii, .slice (some ⟨bk, ok, none⟩) (q + 1) ck] 71)) v xs) := hp.below B1
 have HB : Hid (Below pb w0 (w.alloc (.cells #[.int .i64 6, .string t, .int .i64 ii, .slice (some ⟨bk, ok, none⟩) (q + 1) ck] 71))) := hb.trans (B1.mono (by omega))
 have HKA : Hid (SlF T w0 (.slice (some ⟨bk, ok, none⟩) (q + 1) ck) (q + 1) (q + 1) (fun i => .int .i64 (y i))) := hk
 have HRA : Hid (∀ m, m < (q + 1) -> Pr pb (.slice (some ⟨b, off, none⟩) L c) w0 rec (y m)) := hr
 have G0 : Hid (Pg pb (w.alloc (.cells #[.int .i64 6, .string t, .int .i64 ii, .slice (some ⟨bk, ok, none⟩) (q + 1) ck] 71)) v (w.alloc (.cells #[.int .i64 6, .string t, .int .i64 ii, .slice (some ⟨bk, ok, none⟩) (q + 1) ck] 71)) v) := Pg.refl _ _ _
 clear hp hr
 go_enter Tryd.func87, Tryd.ntmps87
 go_wp2_with fail
 refine (zv _ _).mono ?_
 rintro e wx ⟨rfl, hwx⟩
 rw [hwx]
 clear hwx wx
 have BL0 : Hid (Below pb w0 (w.alloc (.cells #[.int .i64 6, .string t, .int .i64 ii, .slice (some ⟨bk, ok, none⟩) (q + 1) ck] 71))) := HB
 go_wp2_with fail
 refine (ze pb (.slice (some ⟨b, off, none⟩) L c) v _ [⟨#[40]⟩] _ _ (w.alloc (.cells #[.int .i64 6, .string t, .int .i64 ii, .slice (some ⟨bk, ok, none⟩) (q + 1) ck] 71)) _ (by first | rfl | simp) rfl rfl HP.out (by (try simp [List.length_append] at hs); (try simp [List.length_append]); omega)).mono ?_
 rintro e w1 ⟨rfl, v1, p1, g1⟩
 have P1 : Hid (Pnt pb (.slice (some ⟨b, off, none⟩) L c) w1 v1 _) := p1
 have G1 : Hid (Pg pb (w.alloc (.cells #[.int .i64 6, .string t, .int .i64 ii, .slice (some ⟨bk, ok, none⟩) (q + 1) ck] 71)) v w1 v1) := G0.out.trans g1
 clear p1 g1
 have BL1 : Hid (Below pb w0 w1) := HB.out.trans (G1.out.low HP.out)
 have K1 := G1.out.cells (by simp) (by have := HP.out.lt; omega) hrb KC
 have k1_0 := K1 0
 have k1_1 := K1 1
 have k1_2 := K1 2
 have k1_3 := K1 3
 simp at k1_0 k1_1 k1_2 k1_3
 clear K1
 go_wp2_with fail
 clear k1_0 k1_1 k1_2 k1_3
 refine (zet pb (.slice (some ⟨b, off, none⟩) L c) v1 _ t bk ok ck y rec T w0 w1 ii q HKA.out hT hc1 hc2 (by (try simp [List.length_append] at hs); (try simp [List.length_append]); omega) P1.out BL1.out HRA.out).mono ?_
 rintro e w2 ⟨rfl, v2, p2, g2⟩
 have P2 : Hid (Pnt pb (.slice (some ⟨b, off, none⟩) L c) w2 v2 _) := p2
 have G2 : Hid (Pg pb (w.alloc (.cells #[.int .i64 6, .string t, .int .i64 ii, .slice (some ⟨bk, ok, none⟩) (q + 1) ck] 71)) v w2 v2) := G1.out.trans g2
 clear p2 g2
 have BL2 : Hid (Below pb w0 w2) := HB.out.trans (G2.out.low HP.out)
 have K2 := G2.out.cells (by simp) (by have := HP.out.lt; omega) hrb KC
 have k2_0 := K2 0
 have k2_1 := K2 1
 have k2_2 := K2 2
 have k2_3 := K2 3
 simp at k2_0 k2_1 k2_2 k2_3
 clear K2
 go_wp2_with fail
 clear k2_0 k2_1 k2_2 k2_3
 refine (ze pb (.slice (some ⟨b, off, none⟩) L c) v2 _ [⟨#[41]⟩] _ _ w2 _ (by first | rfl | simp) rfl rfl P2.out (by (try simp [List.length_append] at hs); (try simp [List.length_append]); omega)).mono ?_
 rintro e w3 ⟨rfl, v3, p3, g3⟩
 have P3 : Hid (Pnt pb (.slice (some ⟨b, off, none⟩) L c) w3 v3 _) := p3
 have G3 : Hid (Pg pb (w.alloc (.cells #[.int .i64 6, .string t, .int .i64 ii, .slice (some ⟨bk, ok, none⟩) (q + 1) ck] 71)) v w3 v3) := G2.out.trans g3
 clear p3 g3
 go_wp2
 go_end0
 refine ⟨rfl, v3, ?_, (Pg.of_below B1).trans G3.out⟩
 have h9 := P3.out
 simpa [List.append_assoc] using h9
set_option maxHeartbeats 2000000 in
theorem zj7 (pb b off c L z : Nat) (v : Value) (xs : List ByteArray) (t : ByteArray) (ii : Int) (bk ok : Nat) (ck : Nat) (y : Nat -> Int) (rec : Int -> List ByteArray) (T : Nat) (w0 w : World) (q : Nat)
 (hbT : b < pb) (hz : z < L) (hL : L <= 3000) (c0 : w0.cell? ⟨b, off + z * 4, none⟩ = some (.int .i64 9)) (c1 : w0.cell? ⟨b, off + z * 4 + 1, none⟩ = some (.string t)) (c2 : w0.cell? ⟨b, off + z * 4 + 2, none⟩ = some (.int .i64 ii)) (c3 : w0.cell? ⟨b, off + z * 4 + 3, none⟩ = some (.slice (some ⟨bk, ok, none⟩) (q + 1) ck))
 (hk : SlF T w0 (.slice (some ⟨bk, ok, none⟩) (q + 1) ck) (q + 1) (q + 1) (fun i => .int .i64 (y i))) (hT : T <= pb) (hl : (q + 1) <= 1048576) (hc1 : (q + 1) <= ck) (hc2 : ck <= 1048576) (hs : xs.length + 40 * ((rec (y 0) ++ ([⟨#[40]⟩] ++ cmN rec (fun i => y (i + 1)) q ++ [⟨#[41]⟩]) : List ByteArray).length + 1) <= 1000000)
 (hp : Pnt pb (.slice (some ⟨b, off, none⟩) L c) w v xs) (hb : Below pb w0 w) (hr : ∀ m, m < (q + 1) -> Pr pb (.slice (some ⟨b, off, none⟩) L c) w0 rec (y m)) :
 Calls Tryd.prog 87 #[.pointer (some ⟨pb, 0, none⟩), .int .i64 (z : Int)] w (zb pb (.slice (some ⟨b, off, none⟩) L c) xs (rec (y 0) ++ ([⟨#[40]⟩] ++ cmN rec (fun i => y (i + 1)) q ++ [⟨#[41]⟩])) w v) := by
 have hz' : (z : Int) < (L : Int) := by omega
 have hL' : (L : Int) <= 3000 := by omega
 have lw := hp.lt
 have n0 := hp.c0
 have lb1 : b < w.heap.size := by omega
 rw [<- hb.cell (p := ⟨b, off + z * 4, none⟩) hbT] at c0
 rw [<- hb.cell (p := ⟨b, off + z * 4 + 1, none⟩) hbT] at c1
 rw [<- hb.cell (p := ⟨b, off + z * 4 + 2, none⟩) hbT] at c2
 rw [<- hb.cell (p := ⟨b, off + z * 4 + 3, none⟩) hbT] at c3
 have B1 : Below w.heap.size w (w.alloc (.cells #[.int .i64 9, .string t, .int .i64 ii, .slice (some ⟨bk, ok, none⟩) (q + 1) ck] 71)) := (Below.refl _ _).alloc (Nat.le_refl _) _
 have KC : ∀ z, ((w.alloc (.cells #[.int .i64 9, .string t, .int .i64 ii, .slice (some ⟨bk, ok, none⟩) (q + 1) ck] 71))).cell? ⟨w.heap.size, z, none⟩ = (#[.int .i64 9, .string t, .int .i64 ii, .slice (some ⟨bk, ok, none⟩) (q + 1) ck] : Array Value)[z]? := fun z => by simp [go_sem]
 have hrb : v.ownBlock ≠ some w.heap.size := fun e => by have := (World.ownsRow.lt hp.own _ e).2; omega
 have HP : Hid (Pnt pb (.slice (some ⟨b, off, none⟩) L c) (w.alloc (.cells #[.int .i64 9, .string t, .int .i64 ii, .slice (some ⟨bk, ok, none⟩) (q + 1) ck] 71)) v xs) := hp.below B1
 have HB : Hid (Below pb w0 (w.alloc (.cells #[.int .i64 9, .string t, .int .i64 ii, .slice (some ⟨bk, ok, none⟩) (q + 1) ck] 71))) := hb.trans (B1.mono (by omega))
 have HKA : Hid (SlF T w0 (.slice (some ⟨bk, ok, none⟩) (q + 1) ck) (q + 1) (q + 1) (fun i => .int .i64 (y i))) := hk
 have HRA : Hid (∀ m, m < (q + 1) -> Pr pb (.slice (some ⟨b, off, none⟩) L c) w0 rec (y m)) := hr
 have G0 : Hid (Pg pb (w.alloc (.cells #[.int .i64 9, .string t, .int .i64 ii, .slice (some ⟨bk, ok, none⟩) (q + 1) ck] 71)) v (w.alloc (.cells #[.int .i64 9, .string t, .int .i64 ii, .slice (some ⟨bk, ok, none⟩) (q + 1) ck] 71)) v) := Pg.refl _ _ _
 clear hp hr
 go_enter Tryd.func87, Tryd.ntmps87
 obtain ⟨bk2, ok2, ck2, hv, tk1, lk, hkk⟩ := hk.parts (k := 0) (by omega)
 simp only [Value.slice.injEq, Option.some.injEq, Addr.mk.injEq] at hv
 obtain ⟨⟨rfl, rfl, _⟩, _, rfl⟩ := hv
 have lkb : bk < w.heap.size := by omega
 have HR0 : Hid (Pr pb (.slice (some ⟨b, off, none⟩) L c) w0 rec (y 0)) := HRA.out 0 (by omega)
 have hc1' : ((q + 1 : Nat) : Int) <= (ck : Int) := by omega
 have hc2' : (ck : Int) <= 1048576 := by omega
 have hc0 : (1 : Int) <= (ck : Int) := by omega
 have BL0 : Hid (Below pb w0 (w.alloc (.cells #[.int .i64 9, .string t, .int .i64 ii, .slice (some ⟨bk, ok, none⟩) (q + 1) ck] 71))) := HB
 have y0_0 : w.cell? ⟨bk, ok + 0, none⟩ = some (.int .i64 (y 0)) := (by rw [hb.cell (p := ⟨bk, ok + 0, none⟩) (Nat.lt_of_lt_of_le tk1 hT)]; exact hkk 0 (by omega))
 rw [Nat.add_zero] at y0_0
 go_wp2_with fail
 clear y0_0
 refine (HR0.out (w.alloc (.cells #[.int .i64 9, .string t, .int .i64 ii, .slice (some ⟨bk, ok, none⟩) (q + 1) ck] 71)) v _ HP.out BL0.out (by (try simp [List.length_append] at hs); (try simp [List.length_append]); omega)).mono ?_
 rintro e w1 ⟨rfl, v1, p1, g1⟩
 have P1 : Hid (Pnt pb (.slice (some ⟨b, off, none⟩) L c) w1 v1 _) := p1
 have G1 : Hid (Pg pb (w.alloc (.cells #[.int .i64 9, .string t, .int .i64 ii, .slice (some ⟨bk, ok, none⟩) (q + 1) ck] 71)) v w1 v1) := G0.out.trans g1
 clear p1 g1
 have BL1 : Hid (Below pb w0 w1) := HB.out.trans (G1.out.low HP.out)
 have K1 := G1.out.cells (by simp) (by have := HP.out.lt; omega) hrb KC
 have k1_0 := K1 0
 have k1_1 := K1 1
 have k1_2 := K1 2
 have k1_3 := K1 3
 simp at k1_0 k1_1 k1_2 k1_3
 clear K1
 go_wp2_with fail
 all_goals
  clear k1_0 k1_1 k1_2 k1_3
  refine (zbv pb (.slice (some ⟨b, off, none⟩) L c) v1 _ ⟨#[40]⟩ ⟨#[41]⟩ _ q _ (fun i => y (i + 1)) rec T w0 w1 (SlF.tail HKA.out _ _ (fun hq0 => by first | rfl | (exfalso; omega))) hT (by omega) (by (try simp [List.length_append] at hs); (try simp [List.length_append]); omega) P1.out BL1.out (fun m hm => HRA.out (m + 1) (by omega))).mono ?_
  rintro e w2 ⟨rfl, v2, p2, g2⟩
  have P2 : Hid (Pnt pb (.slice (some ⟨b, off, none⟩) L c) w2 v2 _) := p2
  have G2 : Hid (Pg pb (w.alloc (.cells #[.int .i64 9, .string t, .int .i64 ii, .slice (some ⟨bk, ok, none⟩) (q + 1) ck] 71)) v w2 v2) := G1.out.trans g2
  clear p2 g2
  go_wp2
  go_end0
  refine ⟨rfl, v2, ?_, (Pg.of_below B1).trans G2.out⟩
  have h9 := P2.out
  simpa [List.append_assoc] using h9
end Go.Proofs.YtiglkhkfbgjjoaaDoor
