/- - -/
import Derived.Test.YtiglkhkfbgjjoaaDoorQPrK
import Derived.Test.YtiglkhkfbgjjoaaDoorQShelf
namespace Go.Proofs.YtiglkhkfbgjjoaaDoor
set_option maxRecDepth 20000
open Go.RowKit Go.PlainAid Go.Maps
set_option linter.unusedSimpArgs false
set_option linter.unusedVariables false
set_option maxHeartbeats 1000000 in
theorem zfy (pb : Nat) (nv v : Value) (xs : List ByteArray) (t : ByteArray) (ii : Int) (ak : Option Addr) (l ck : Nat) (w0 w : World) (hs : xs.length + 20 <= 1000000) (ht : t.size <= 1048576) (qt : ByteArray) (hq : qt = ⟨#[34]⟩ ++ t ++ ⟨#[34]⟩)
 (hp : Pnt pb nv w v xs) (hb : Below pb w0 w) :
 Calls Tryd.prog 130 #[.pointer (some ⟨pb, 0, none⟩), .agg #[.int .i64 4, .string t, .int .i64 ii, .slice ak l ck]] w (zb pb nv xs ([qt]) w v) := by
 have lw := hp.lt
 have B1 : Below w.heap.size w (w.alloc (.cells #[.int .i64 4, .string t, .int .i64 ii, .slice ak l ck] 71)) := (Below.refl _ _).alloc (Nat.le_refl _) _
 have HP : Hid (Pnt pb nv (w.alloc (.cells #[.int .i64 4, .string t, .int .i64 ii, .slice ak l ck] 71)) v xs) := hp.below B1
 have HB : Hid (Below pb w0 (w.alloc (.cells #[.int .i64 4, .string t, .int .i64 ii, .slice ak l ck] 71))) := hb.trans (B1.mono (by omega))
 clear hp hb
 go_enter Tryd.func130, Tryd.ntmps130
 go_wp2_with fail
 rw [<- hq]
 clear hq
 refine (ze pb nv v xs [qt] _ _ (w.alloc (.cells #[.int .i64 4, .string t, .int .i64 ii, .slice ak l ck] 71)) _ (by first | rfl | simp) rfl rfl HP.out (by simp; omega)).mono ?_
 rintro e w2 ⟨rfl, v2, p2, g2⟩
 go_wp2
 go_end0
 exact ⟨rfl, v2, p2, (Pg.of_below B1).trans g2⟩
set_option maxHeartbeats 1000000 in
theorem zc9 (pb : Nat) (nv v : Value) (xs : List ByteArray) (t : ByteArray) (ak : Option Addr) (l ck : Nat) (w0 w : World) (hs : xs.length + 20 <= 1000000)
 (hp : Pnt pb nv w v xs) (hb : Below pb w0 w) :
 Calls Tryd.prog 130 #[.pointer (some ⟨pb, 0, none⟩), .agg #[.int .i64 2, .string t, .int .i64 0, .slice ak l ck]] w (zb pb nv xs [⟨#[102, 97, 108, 115, 101]⟩] w v) := by
 have lw := hp.lt
 have B1 : Below w.heap.size w (w.alloc (.cells #[.int .i64 2, .string t, .int .i64 0, .slice ak l ck] 71)) := (Below.refl _ _).alloc (Nat.le_refl _) _
 have HP : Hid (Pnt pb nv (w.alloc (.cells #[.int .i64 2, .string t, .int .i64 0, .slice ak l ck] 71)) v xs) := hp.below B1
 clear hp hb
 go_enter Tryd.func130, Tryd.ntmps130
 go_wp2_with fail
 refine (Tryd.strconv_FormatBool _ _).mono ?_
 rintro e w1 ⟨rfl, hw1⟩
 rw [hw1]
 clear hw1 w1
 have e2 : (⟨(Lib.formatBool false).toArray⟩ : ByteArray) = ⟨#[102, 97, 108, 115, 101]⟩ := rfl
 rw [e2]
 clear e2
 go_wp2_with fail
 refine (ze pb nv v xs [⟨#[102, 97, 108, 115, 101]⟩] _ _ (w.alloc (.cells #[.int .i64 2, .string t, .int .i64 0, .slice ak l ck] 71)) _ (by first | rfl | simp) rfl rfl HP.out (by simp; omega)).mono ?_
 rintro e w2 ⟨rfl, v2, p2, g2⟩
 go_wp2
 go_end0
 exact ⟨rfl, v2, p2, (Pg.of_below B1).trans g2⟩
set_option maxHeartbeats 1000000 in
theorem zdp (pb : Nat) (nv v : Value) (xs : List ByteArray) (t : ByteArray) (ak : Option Addr) (l ck : Nat) (w0 w : World) (hs : xs.length + 20 <= 1000000)
 (hp : Pnt pb nv w v xs) (hb : Below pb w0 w) :
 Calls Tryd.prog 130 #[.pointer (some ⟨pb, 0, none⟩), .agg #[.int .i64 2, .string t, .int .i64 1, .slice ak l ck]] w (zb pb nv xs [⟨#[116, 114, 117, 101]⟩] w v) := by
 have lw := hp.lt
 have B1 : Below w.heap.size w (w.alloc (.cells #[.int .i64 2, .string t, .int .i64 1, .slice ak l ck] 71)) := (Below.refl _ _).alloc (Nat.le_refl _) _
 have HP : Hid (Pnt pb nv (w.alloc (.cells #[.int .i64 2, .string t, .int .i64 1, .slice ak l ck] 71)) v xs) := hp.below B1
 clear hp hb
 go_enter Tryd.func130, Tryd.ntmps130
 go_wp2_with fail
 refine (Tryd.strconv_FormatBool _ _).mono ?_
 rintro e w1 ⟨rfl, hw1⟩
 rw [hw1]
 clear hw1 w1
 have e2 : (⟨(Lib.formatBool true).toArray⟩ : ByteArray) = ⟨#[116, 114, 117, 101]⟩ := rfl
 rw [e2]
 clear e2
 go_wp2_with fail
 refine (ze pb nv v xs [⟨#[116, 114, 117, 101]⟩] _ _ (w.alloc (.cells #[.int .i64 2, .string t, .int .i64 1, .slice ak l ck] 71)) _ (by first | rfl | simp) rfl rfl HP.out (by simp; omega)).mono ?_
 rintro e w2 ⟨rfl, v2, p2, g2⟩
 go_wp2
 go_end0
 exact ⟨rfl, v2, p2, (Pg.of_below B1).trans g2⟩
set_option maxHeartbeats 1000000 in
theorem zfz (pb : Nat) (nv v : Value) (xs : List ByteArray) (t : ByteArray) (ii : Int) (ak : Option Addr) (l ck : Nat) (w0 w : World) (hs : xs.length + 20 <= 1000000) (h0 : -9223372036854775808 <= ii) (h1 : ii <= 9223372036854775807) (htab : ∀ V, Below pb w0 V -> Lib.TabIs Tryd.prog V "internal/strconv.uint64pow10" .u64 Lib.pow10Tab)
 (hp : Pnt pb nv w v xs) (hb : Below pb w0 w) :
 Calls Tryd.prog 130 #[.pointer (some ⟨pb, 0, none⟩), .agg #[.int .i64 3, .string t, .int .i64 ii, .slice ak l ck]] w (zb pb nv xs ([⟨(Lib.itoa ii).toArray⟩]) w v) := by
 have lw := hp.lt
 have B1 : Below w.heap.size w (w.alloc (.cells #[.int .i64 3, .string t, .int .i64 ii, .slice ak l ck] 71)) := (Below.refl _ _).alloc (Nat.le_refl _) _
 have HP : Hid (Pnt pb nv (w.alloc (.cells #[.int .i64 3, .string t, .int .i64 ii, .slice ak l ck] 71)) v xs) := hp.below B1
 have HB : Hid (Below pb w0 (w.alloc (.cells #[.int .i64 3, .string t, .int .i64 ii, .slice ak l ck] 71))) := hb.trans (B1.mono (by omega))
 clear hp hb
 go_enter Tryd.func130, Tryd.ntmps130
 have HTB : Hid (Lib.TabIs Tryd.prog (w.alloc (.cells #[.int .i64 3, .string t, .int .i64 ii, .slice ak l ck] 71)) "internal/strconv.uint64pow10" .u64 Lib.pow10Tab) := htab _ HB.out
 clear htab
 go_wp2_with fail
 refine (Tryd.strconv_Itoa ii h0 h1 _ HTB.out).mono ?_
 rintro e w1 ⟨rfl, k, os, hw1⟩
 have b1 : Below ((w.alloc (.cells #[.int .i64 3, .string t, .int .i64 ii, .slice ak l ck] 71))).heap.size (w.alloc (.cells #[.int .i64 3, .string t, .int .i64 ii, .slice ak l ck] 71)) w1 := by
  rw [hw1]
  refine ⟨rfl, rfl, rfl, ?_, fun k hk => ?_⟩
  · show _ <= (Array.append _ os).size
    simp
  · show (Array.append _ os)[k]? = _
    exact Array.getElem?_append_left hk
 clear hw1
 have HP1 : Hid (Pnt pb nv w1 v xs) := HP.out.below b1
 have B2 : Below w.heap.size w w1 := B1.trans (b1.mono (by simp))
 clear b1 HP
 go_wp2_with fail
 refine (ze pb nv v xs [⟨(Lib.itoa ii).toArray⟩] _ _ w1 _ (by first | rfl | simp) rfl rfl HP1.out (by simp; omega)).mono ?_
 rintro e w2 ⟨rfl, v2, p2, g2⟩
 go_wp2
 go_end0
 exact ⟨rfl, v2, p2, (Pg.of_below B2).trans g2⟩
set_option maxHeartbeats 1000000 in
theorem zec (pb : Nat) (nv v : Value) (xs : List ByteArray) (t : ByteArray) (bk ok ck : Nat) (y : Nat -> Int) (rec : Int -> List ByteArray) (T : Nat) (w0 w : World) (n : Nat) (tt : ByteArray) (hn4 : n < 4) (htn : ∀ V, Below pb w0 V -> 2 < V.heap.size /\ V.cell? ⟨2, n, none⟩ = some (.string tt)) (hk : SlF T w0 (.slice (some ⟨bk, ok, none⟩) 1 ck) 1 1 (fun i => .int .i64 (y i))) (hT : T <= pb) (hc1 : 1 <= ck) (hc2 : ck <= 1048576) (hs : xs.length + 40 * (([tt] ++ rec (y 0) : List ByteArray).length + 1) <= 1000000)
 (hp : Pnt pb nv w v xs) (hb : Below pb w0 w) (hr : ∀ m, m < 1 -> Pr pb nv w0 rec (y m)) :
 Calls Tryd.prog 134 #[.pointer (some ⟨pb, 0, none⟩), .agg #[.int .i64 11, .string t, .int .i64 (n : Int), .slice (some ⟨bk, ok, none⟩) 1 ck]] w (zb pb nv xs ([tt] ++ rec (y 0)) w v) := by
 obtain ⟨bk2, ok2, ck2, hv, tk1, lk, hkk⟩ := hk.parts (k := 0) (by omega)
 simp only [Value.slice.injEq, Option.some.injEq, Addr.mk.injEq] at hv
 obtain ⟨⟨rfl, rfl, _⟩, _, rfl⟩ := hv
 have lw := hp.lt
 have lkb : bk < w.heap.size := by omega
 have hc3 : (ck : Int) <= 1048576 := by omega
 have s1 : smN rec y 1 = (rec (y 0)).length + 1 := by simp [smN]
 have s2 : smN rec y 2 = (rec (y 0)).length + 1 + ((rec (y 1)).length + 1) := by simp [smN]
 have B1 : Below w.heap.size w (w.alloc (.cells #[.int .i64 11, .string t, .int .i64 (n : Int), .slice (some ⟨bk, ok, none⟩) 1 ck] 71)) := (Below.refl _ _).alloc (Nat.le_refl _) _
 have KC : ∀ z, ((w.alloc (.cells #[.int .i64 11, .string t, .int .i64 (n : Int), .slice (some ⟨bk, ok, none⟩) 1 ck] 71))).cell? ⟨w.heap.size, z, none⟩ = (#[.int .i64 11, .string t, .int .i64 (n : Int), .slice (some ⟨bk, ok, none⟩) 1 ck] : Array Value)[z]? := fun z => by simp [go_sem]
 have hrb : v.ownBlock ≠ some w.heap.size := fun e => by have := (World.ownsRow.lt hp.own _ e).2; omega
 have HP : Hid (Pnt pb nv (w.alloc (.cells #[.int .i64 11, .string t, .int .i64 (n : Int), .slice (some ⟨bk, ok, none⟩) 1 ck] 71)) v xs) := hp.below B1
 have HB : Hid (Below pb w0 (w.alloc (.cells #[.int .i64 11, .string t, .int .i64 (n : Int), .slice (some ⟨bk, ok, none⟩) 1 ck] 71))) := hb.trans (B1.mono (by omega))
 have HKA : Hid (SlF T w0 (.slice (some ⟨bk, ok, none⟩) 1 ck) 1 1 (fun i => .int .i64 (y i))) := hk
 have HRA : Hid (∀ m, m < 1 -> Pr pb nv w0 rec (y m)) := hr
 have G0 : Hid (Pg pb (w.alloc (.cells #[.int .i64 11, .string t, .int .i64 (n : Int), .slice (some ⟨bk, ok, none⟩) 1 ck] 71)) v (w.alloc (.cells #[.int .i64 11, .string t, .int .i64 (n : Int), .slice (some ⟨bk, ok, none⟩) 1 ck] 71)) v) := Pg.refl _ _ _
 have hn5 : (n : Int) < 4 := by omega
 have HR0 : Hid (Pr pb nv w0 rec (y 0)) := hr 0 (by omega)
 obtain ⟨lt1, ct1⟩ := htn _ hb
 have hi0 : (0 : Int) < ((1 : Nat) : Int) := by omega
 clear hp hr
 go_enter Tryd.func134, Tryd.ntmps134
 have BL0 : Hid (Below pb w0 (w.alloc (.cells #[.int .i64 11, .string t, .int .i64 (n : Int), .slice (some ⟨bk, ok, none⟩) 1 ck] 71))) := HB
 go_wp2_with fail
 refine (ze pb nv v _ [tt] _ _ (w.alloc (.cells #[.int .i64 11, .string t, .int .i64 (n : Int), .slice (some ⟨bk, ok, none⟩) 1 ck] 71)) _ (by first | rfl | simp) rfl rfl HP.out (by (try simp [List.length_append] at hs); (try simp [List.length_append]); omega)).mono ?_
 rintro e w1 ⟨rfl, v1, p1, g1⟩
 have P1 : Hid (Pnt pb nv w1 v1 _) := p1
 have G1 : Hid (Pg pb (w.alloc (.cells #[.int .i64 11, .string t, .int .i64 (n : Int), .slice (some ⟨bk, ok, none⟩) 1 ck] 71)) v w1 v1) := G0.out.trans g1
 clear p1 g1
 have BL1 : Hid (Below pb w0 w1) := HB.out.trans (G1.out.low HP.out)
 have K1 := G1.out.cells (by simp) (by have := HP.out.lt; omega) hrb KC
 have k1_0 := K1 0
 have k1_1 := K1 1
 have k1_2 := K1 2
 have k1_3 := K1 3
 simp at k1_0 k1_1 k1_2 k1_3
 clear K1
 have y1_0 : w1.cell? ⟨bk, ok + 0, none⟩ = some (.int .i64 (y 0)) := (by rw [BL1.out.cell (p := ⟨bk, ok + 0, none⟩) (Nat.lt_of_lt_of_le tk1 hT)]; exact hkk 0 (by omega))
 rw [Nat.add_zero] at y1_0
 go_wp2_with fail
 clear k1_0 k1_1 k1_2 k1_3
 clear y1_0
 refine (HR0.out w1 v1 _ P1.out BL1.out (by (try simp [List.length_append] at hs); (try simp [List.length_append]); omega)).mono ?_
 rintro e w2 ⟨rfl, v2, p2, g2⟩
 have P2 : Hid (Pnt pb nv w2 v2 _) := p2
 have G2 : Hid (Pg pb (w.alloc (.cells #[.int .i64 11, .string t, .int .i64 (n : Int), .slice (some ⟨bk, ok, none⟩) 1 ck] 71)) v w2 v2) := G1.out.trans g2
 clear p2 g2
 go_wp2
 go_end0
 refine ⟨rfl, v2, ?_, (Pg.of_below B1).trans G2.out⟩
 have h9 := P2.out
 simpa [List.append_assoc] using h9
set_option maxHeartbeats 1000000 in
theorem zed (pb : Nat) (nv v : Value) (xs : List ByteArray) (t : ByteArray) (bk ok ck : Nat) (y : Nat -> Int) (rec : Int -> List ByteArray) (T : Nat) (w0 w : World) (n : Nat) (ot : ByteArray) (hn4 : n < 11) (htn : ∀ V, Below pb w0 V -> 1 < V.heap.size /\ V.cell? ⟨1, n, none⟩ = some (.string ot)) (hk : SlF T w0 (.slice (some ⟨bk, ok, none⟩) 2 ck) 2 2 (fun i => .int .i64 (y i))) (hT : T <= pb) (hc1 : 2 <= ck) (hc2 : ck <= 1048576) (hs : xs.length + 40 * ((rec (y 0) ++ [ot] ++ rec (y 1) : List ByteArray).length + 1) <= 1000000)
 (hp : Pnt pb nv w v xs) (hb : Below pb w0 w) (hr : ∀ m, m < 2 -> Pr pb nv w0 rec (y m)) :
 Calls Tryd.prog 134 #[.pointer (some ⟨pb, 0, none⟩), .agg #[.int .i64 10, .string t, .int .i64 (n : Int), .slice (some ⟨bk, ok, none⟩) 2 ck]] w (zb pb nv xs (rec (y 0) ++ [ot] ++ rec (y 1)) w v) := by
 obtain ⟨bk2, ok2, ck2, hv, tk1, lk, hkk⟩ := hk.parts (k := 0) (by omega)
 simp only [Value.slice.injEq, Option.some.injEq, Addr.mk.injEq] at hv
 obtain ⟨⟨rfl, rfl, _⟩, _, rfl⟩ := hv
 have lw := hp.lt
 have lkb : bk < w.heap.size := by omega
 have hc3 : (ck : Int) <= 1048576 := by omega
 have s1 : smN rec y 1 = (rec (y 0)).length + 1 := by simp [smN]
 have s2 : smN rec y 2 = (rec (y 0)).length + 1 + ((rec (y 1)).length + 1) := by simp [smN]
 have B1 : Below w.heap.size w (w.alloc (.cells #[.int .i64 10, .string t, .int .i64 (n : Int), .slice (some ⟨bk, ok, none⟩) 2 ck] 71)) := (Below.refl _ _).alloc (Nat.le_refl _) _
 have KC : ∀ z, ((w.alloc (.cells #[.int .i64 10, .string t, .int .i64 (n : Int), .slice (some ⟨bk, ok, none⟩) 2 ck] 71))).cell? ⟨w.heap.size, z, none⟩ = (#[.int .i64 10, .string t, .int .i64 (n : Int), .slice (some ⟨bk, ok, none⟩) 2 ck] : Array Value)[z]? := fun z => by simp [go_sem]
 have hrb : v.ownBlock ≠ some w.heap.size := fun e => by have := (World.ownsRow.lt hp.own _ e).2; omega
 have HP : Hid (Pnt pb nv (w.alloc (.cells #[.int .i64 10, .string t, .int .i64 (n : Int), .slice (some ⟨bk, ok, none⟩) 2 ck] 71)) v xs) := hp.below B1
 have HB : Hid (Below pb w0 (w.alloc (.cells #[.int .i64 10, .string t, .int .i64 (n : Int), .slice (some ⟨bk, ok, none⟩) 2 ck] 71))) := hb.trans (B1.mono (by omega))
 have HKA : Hid (SlF T w0 (.slice (some ⟨bk, ok, none⟩) 2 ck) 2 2 (fun i => .int .i64 (y i))) := hk
 have HRA : Hid (∀ m, m < 2 -> Pr pb nv w0 rec (y m)) := hr
 have G0 : Hid (Pg pb (w.alloc (.cells #[.int .i64 10, .string t, .int .i64 (n : Int), .slice (some ⟨bk, ok, none⟩) 2 ck] 71)) v (w.alloc (.cells #[.int .i64 10, .string t, .int .i64 (n : Int), .slice (some ⟨bk, ok, none⟩) 2 ck] 71)) v) := Pg.refl _ _ _
 have hn5 : (n : Int) < 11 := by omega
 obtain ⟨lt1, ct1⟩ := htn _ hb
 have HD : Hid (Below ((w.alloc (.cells #[.int .i64 10, .string t, .int .i64 (n : Int), .slice (some ⟨bk, ok, none⟩) 2 ck] 71))).heap.size (w.alloc (.cells #[.int .i64 10, .string t, .int .i64 (n : Int), .slice (some ⟨bk, ok, none⟩) 2 ck] 71)) ((w.alloc (.cells #[.int .i64 10, .string t, .int .i64 (n : Int), .slice (some ⟨bk, ok, none⟩) 2 ck] 71))).drew) := (Below.refl _ _).drew
 have HPD : Hid (Pnt pb nv ((w.alloc (.cells #[.int .i64 10, .string t, .int .i64 (n : Int), .slice (some ⟨bk, ok, none⟩) 2 ck] 71))).drew v xs) := HP.out.below HD.out
 have HBD : Hid (Below pb w0 ((w.alloc (.cells #[.int .i64 10, .string t, .int .i64 (n : Int), .slice (some ⟨bk, ok, none⟩) 2 ck] 71))).drew) := HB.out.drew
 clear hp hr
 go_enter Tryd.func134, Tryd.ntmps134
 go_wp2_with fail
 go_region_with (go_at_call 163; refine (za7 pb nv v xs _ 2 ck y ot rec T w0 _ HKA.out hT (by omega) hs (by omega) HPD.out HBD.out HRA.out).mono ?_; rintro e w1 ⟨rfl, v1, p1, g1⟩)
 all_goals
  go_wp2
  go_end0
  exact ⟨rfl, v1, p1, (Pg.of_below (B1.trans (HD.out.mono (by simp)))).trans g1⟩
set_option maxHeartbeats 1000000 in
theorem zet (pb : Nat) (nv v : Value) (xs : List ByteArray) (t : ByteArray) (bk ok ck : Nat) (y : Nat -> Int) (rec : Int -> List ByteArray) (T : Nat) (w0 w : World) (ii : Int) (q : Nat) (hk : SlF T w0 (.slice (some ⟨bk, ok, none⟩) (q + 1) ck) (q + 1) (q + 1) (fun i => .int .i64 (y i))) (hT : T <= pb) (hc1 : (q + 1) <= ck) (hc2 : ck <= 1048576) (hs : xs.length + 40 * (([⟨#[102, 110]⟩, ⟨#[40]⟩] ++ cmN rec y q ++ [⟨#[41]⟩] ++ rec (y q) : List ByteArray).length + 1) <= 1000000)
 (hp : Pnt pb nv w v xs) (hb : Below pb w0 w) (hr : ∀ m, m < (q + 1) -> Pr pb nv w0 rec (y m)) :
 Calls Tryd.prog 134 #[.pointer (some ⟨pb, 0, none⟩), .agg #[.int .i64 6, .string t, .int .i64 ii, .slice (some ⟨bk, ok, none⟩) (q + 1) ck]] w (zb pb nv xs ([⟨#[102, 110]⟩, ⟨#[40]⟩] ++ cmN rec y q ++ [⟨#[41]⟩] ++ rec (y q)) w v) := by
 obtain ⟨bk2, ok2, ck2, hv, tk1, lk, hkk⟩ := hk.parts (k := 0) (by omega)
 simp only [Value.slice.injEq, Option.some.injEq, Addr.mk.injEq] at hv
 obtain ⟨⟨rfl, rfl, _⟩, _, rfl⟩ := hv
 have lw := hp.lt
 have lkb : bk < w.heap.size := by omega
 have hc3 : (ck : Int) <= 1048576 := by omega
 have s1 : smN rec y 1 = (rec (y 0)).length + 1 := by simp [smN]
 have s2 : smN rec y 2 = (rec (y 0)).length + 1 + ((rec (y 1)).length + 1) := by simp [smN]
 have B1 : Below w.heap.size w (w.alloc (.cells #[.int .i64 6, .string t, .int .i64 ii, .slice (some ⟨bk, ok, none⟩) (q + 1) ck] 71)) := (Below.refl _ _).alloc (Nat.le_refl _) _
 have KC : ∀ z, ((w.alloc (.cells #[.int .i64 6, .string t, .int .i64 ii, .slice (some ⟨bk, ok, none⟩) (q + 1) ck] 71))).cell? ⟨w.heap.size, z, none⟩ = (#[.int .i64 6, .string t, .int .i64 ii, .slice (some ⟨bk, ok, none⟩) (q + 1) ck] : Array Value)[z]? := fun z => by simp [go_sem]
 have hrb : v.ownBlock ≠ some w.heap.size := fun e => by have := (World.ownsRow.lt hp.own _ e).2; omega
 have HP : Hid (Pnt pb nv (w.alloc (.cells #[.int .i64 6, .string t, .int .i64 ii, .slice (some ⟨bk, ok, none⟩) (q + 1) ck] 71)) v xs) := hp.below B1
 have HB : Hid (Below pb w0 (w.alloc (.cells #[.int .i64 6, .string t, .int .i64 ii, .slice (some ⟨bk, ok, none⟩) (q + 1) ck] 71))) := hb.trans (B1.mono (by omega))
 have HKA : Hid (SlF T w0 (.slice (some ⟨bk, ok, none⟩) (q + 1) ck) (q + 1) (q + 1) (fun i => .int .i64 (y i))) := hk
 have HRA : Hid (∀ m, m < (q + 1) -> Pr pb nv w0 rec (y m)) := hr
 have G0 : Hid (Pg pb (w.alloc (.cells #[.int .i64 6, .string t, .int .i64 ii, .slice (some ⟨bk, ok, none⟩) (q + 1) ck] 71)) v (w.alloc (.cells #[.int .i64 6, .string t, .int .i64 ii, .slice (some ⟨bk, ok, none⟩) (q + 1) ck] 71)) v) := Pg.refl _ _ _
 have s5 : smN rec y (q + 1) = smN rec y q + ((rec (y q)).length + 1) := rfl
 have hcm := (zd rec y q).1
 have hqc : ((q : Nat) : Int) <= (ck : Int) := by omega
 have hq1 : (q : Int) < ((q + 1 : Nat) : Int) := by omega
 have hqm : (q : Int) <= 1048576 := by omega
 clear hp hr
 go_enter Tryd.func134, Tryd.ntmps134
 have BL0 : Hid (Below pb w0 (w.alloc (.cells #[.int .i64 6, .string t, .int .i64 ii, .slice (some ⟨bk, ok, none⟩) (q + 1) ck] 71))) := HB
 go_wp2_with fail
 refine (ze pb nv v _ [⟨#[102, 110]⟩] _ _ (w.alloc (.cells #[.int .i64 6, .string t, .int .i64 ii, .slice (some ⟨bk, ok, none⟩) (q + 1) ck] 71)) _ (by first | rfl | simp) rfl rfl HP.out (by (try simp [List.length_append] at hs); (try simp [List.length_append]); omega)).mono ?_
 rintro e w1 ⟨rfl, v1, p1, g1⟩
 have P1 : Hid (Pnt pb nv w1 v1 _) := p1
 have G1 : Hid (Pg pb (w.alloc (.cells #[.int .i64 6, .string t, .int .i64 ii, .slice (some ⟨bk, ok, none⟩) (q + 1) ck] 71)) v w1 v1) := G0.out.trans g1
 clear p1 g1
 have BL1 : Hid (Below pb w0 w1) := HB.out.trans (G1.out.low HP.out)
 have K1 := G1.out.cells (by simp) (by have := HP.out.lt; omega) hrb KC
 have k1_0 := K1 0
 have k1_1 := K1 1
 have k1_2 := K1 2
 have k1_3 := K1 3
 simp at k1_0 k1_1 k1_2 k1_3
 clear K1
 go_wp2_with fail
 clear k1_0 k1_1 k1_2 k1_3
 refine (zbv pb nv v1 _ ⟨#[40]⟩ ⟨#[41]⟩ _ q ck y rec T w0 w1 (HKA.out.first (by omega)) hT (by omega) (by (try simp [List.length_append] at hs); (try simp [List.length_append]); omega) P1.out BL1.out (fun m hm => HRA.out m (by omega))).mono ?_
 rintro e w2 ⟨rfl, v2, p2, g2⟩
 have P2 : Hid (Pnt pb nv w2 v2 _) := p2
 have G2 : Hid (Pg pb (w.alloc (.cells #[.int .i64 6, .string t, .int .i64 ii, .slice (some ⟨bk, ok, none⟩) (q + 1) ck] 71)) v w2 v2) := G1.out.trans g2
 clear p2 g2
 have BL2 : Hid (Below pb w0 w2) := HB.out.trans (G2.out.low HP.out)
 have K2 := G2.out.cells (by simp) (by have := HP.out.lt; omega) hrb KC
 have k2_0 := K2 0
 have k2_1 := K2 1
 have k2_2 := K2 2
 have k2_3 := K2 3
 simp at k2_0 k2_1 k2_2 k2_3
 clear K2
 have yq : w2.cell? ⟨bk, ok + q, none⟩ = some (.int .i64 (y q)) := (by rw [BL2.out.cell (p := ⟨bk, ok + q, none⟩) (Nat.lt_of_lt_of_le tk1 hT)]; exact hkk q (by omega))
 go_wp2_with fail
 clear k2_0 k2_1 k2_2 k2_3
 refine (HRA.out q (by omega) w2 v2 _ P2.out BL2.out (by (try simp [List.length_append] at hs); (try simp [List.length_append]); omega)).mono ?_
 rintro e w3 ⟨rfl, v3, p3, g3⟩
 have P3 : Hid (Pnt pb nv w3 v3 _) := p3
 have G3 : Hid (Pg pb (w.alloc (.cells #[.int .i64 6, .string t, .int .i64 ii, .slice (some ⟨bk, ok, none⟩) (q + 1) ck] 71)) v w3 v3) := G2.out.trans g3
 clear p3 g3
 go_wp2
 go_end0
 refine ⟨rfl, v3, ?_, (Pg.of_below B1).trans G3.out⟩
 have h9 := P3.out
 simpa [List.append_assoc] using h9
end Go.Proofs.YtiglkhkfbgjjoaaDoor
