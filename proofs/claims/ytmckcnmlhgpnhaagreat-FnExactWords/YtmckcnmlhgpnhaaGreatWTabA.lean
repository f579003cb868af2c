/- - -/
import Derived.Test.YtmckcnmlhgpnhaaGreatWFindA
import Derived.Test.YtmckcnmlhgpnhaaGreatWTileA
namespace Go.Proofs.YtmckcnmlhgpnhaaGreat
set_option maxRecDepth 20000
open Go.RowKit
set_option linter.unusedSimpArgs false
set_option linter.unusedVariables false
def zao (ws : List Int) (Q : Nat) : Nat := (rdS (za ws Q)).toNat / 4
def zk (ws : List Int) (p : Nat) : Nat := (zi ws (rvN ws (p + 2)).toNat).toNat
def zel (ws : List Int) (Q : Nat) (N k : Nat) : Prop := ∀ i, i < k -> kT ws Q i ≠ 0 -> zdr ws Q N (kT ws Q i) (kN ws Q i) = ((i : Int), true)
def zpx (ws : List Int) (p : Nat) : Prop :=
 zel ws (zk ws p) (zao ws (zk ws p)) (zao ws (zk ws p)) /\ za ws (p + 1) = zbk ws (zk ws p) (zao ws (zk ws p)) /\ 4 * zbk ws (zk ws p) (zao ws (zk ws p)) <= 3 * zao ws (zk ws p)
def zd9 (ws : List Int) (led : Nat -> Bool) (p : Nat) : Prop :=
 (rvT ws (p + 2) = 0 /\ za ws (p + 1) = 0) \/ (rvT ws (p + 2) = 8 /\ led (zk ws p) = false /\ zpx ws p)
def zdx (ws : List Int) (led : Nat -> Bool) (p : Nat) (i : Nat) : Bool := led i || (decide (rvT ws (p + 2) = 8) && decide (i = zk ws p))
def zj0 (ws : List Int) (p : Nat) : Prop :=
 p + 3 < ws.length /\ (rvT ws (p + 2) = 8 -> 0 <= rvN ws (p + 2) /\ rvN ws (p + 2) < ws.length /\ 0 <= zi ws (rvN ws (p + 2)).toNat /\ zk ws p < ws.length /\ 0 < zao ws (zk ws p) /\ zao ws (zk ws p) <= 64 /\ zfz ws (zk ws p) (zao ws (zk ws p)) /\ (∀ i, i < zao ws (zk ws p) -> vOk (kT ws (zk ws p) i) (kN ws (zk ws p) i) = true))
theorem zj1 (aw : Option Addr) (cw : Nat) (ws : List Int) (smz toh top : Int) (cyc : Bool) (sn old cpz sr : Int) (ar : Option Addr) (cr : Nat) (rs : List (Int × Int)) (x L : Int) (p : Nat) (w : World) (hx : x = p) (hL : zi ws p = L) (hs : Sl w (.slice aw ws.length cw) ws) (hn : ws.length <= 1048576) (hw : zg ws) (h : p < ws.length) :
 Calls Tryz.prog 46 #[.agg #[.slice aw ws.length cw, .int .i64 smz, .int .i64 toh, .int .i64 top, .bool cyc, .int .i64 sn, .int .i64 old, .int .i64 cpz, .int .i64 sr, .slice ar rs.length cr], .int .i64 x] w fun e w' => e = .returned (.int .i64 L) /\ Below w.heap.size w w' := by
 subst hL; exact zce aw cw ws smz toh top cyc sn old cpz sr ar cr rs x p w hx hs hn hw h
theorem zmv (aw : Option Addr) (cw : Nat) (ws : List Int) (smz toh top : Int) (cyc : Bool) (sn old cpz sr : Int) (ar : Option Addr) (cr : Nat) (rs : List (Int × Int)) (x z : Int) (vl : Value) (p : Nat) (w : World) (hs : Sl w (.slice aw ws.length cw) ws) (hn : ws.length <= 1048576) (hw : zg ws) (hx : x = p) (hp : p + 3 < ws.length) (hz : wrap64 (za ws (p + 1)) = z) (ht : rvT ws (p + 2) = 0) :
 Calls Tryz.prog 94 #[.agg #[.slice aw ws.length cw, .int .i64 smz, .int .i64 toh, .int .i64 top, .bool cyc, .int .i64 sn, .int .i64 old, .int .i64 cpz, .int .i64 sr, .slice ar rs.length cr], .int .i64 x, vl] w fun e w' => e = .returned (.bool (z == 0)) /\ Below w.heap.size w w' := by
 have x0 : 0 <= x := by omega
 have x1 : x <= 1048576 := by omega
 have HX2 : Hid (x + 2 = ((p + 2 : Nat) : Int)) := by show x + 2 = ((p + 2 : Nat) : Int); omega
 have HX : Hid (x = (p : Int)) := hx
 have HZ : Hid (wrap64 (za ws (p + 1)) = z) := hz
 clear hx hz
 go_enter Tryz.func94, Tryz.ntmps94
 go_wp2_with fail
 refine (zdj _ ws _ (p + 2) _ HX2.out (zas hs _) hn hw (by omega)).mono ?_
 rintro e w1 ⟨rfl, b1⟩
 have KA := zp b1 (by simp)
 have z1 := zq b1
 have B1 := zd b1
 rw [ht]
 have hB1 : Below w.heap.size w (w1.alloc (.cells #[.int .i64 0, .int .i64 (rvN ws (p + 2))] 48)) := B1.alloc B1.size _
 clear b1 ht
 go_wp2_with (go_at_call 126; refine (zct _ _ _ _ _ _ _ _ _ _ _ _ _ _ _ _ z p 1 _ HX.out rfl HZ.out (hs.below hB1) hn (by omega)).mono ?_; rintro e w2 ⟨rfl, b2⟩; have q0 : w2.cell? ⟨w1.heap.size, 0, none⟩ = some (.int .i64 0) := by rw [b2.cell (p := ⟨w1.heap.size, 0, none⟩) (by simp)]; simp [go_sem])
 go_ret
 exact ⟨rfl, zc hB1 b2⟩
theorem zov (aw : Option Addr) (cw : Nat) (ws : List Int) (smz toh top : Int) (cyc : Bool) (sn old cpz sr : Int) (ar : Option Addr) (cr : Nat) (rs : List (Int × Int)) (x z : Int) (vl : Value) (p : Nat) (w : World) (hs : Sl w (.slice aw ws.length cw) ws) (hn : ws.length <= 1048576) (hw : zg ws) (hx : x = p) (hp : p + 3 < ws.length) (hz : wrap64 (za ws (p + 1)) = z) (h0 : ¬ rvT ws (p + 2) = 0) (h8 : ¬ rvT ws (p + 2) = 8) :
 Calls Tryz.prog 94 #[.agg #[.slice aw ws.length cw, .int .i64 smz, .int .i64 toh, .int .i64 top, .bool cyc, .int .i64 sn, .int .i64 old, .int .i64 cpz, .int .i64 sr, .slice ar rs.length cr], .int .i64 x, vl] w fun e w' => e = .returned (.bool false) /\ Below w.heap.size w w' := by
 have x0 : 0 <= x := by omega
 have x1 : x <= 1048576 := by omega
 have HX2 : Hid (x + 2 = ((p + 2 : Nat) : Int)) := by show x + 2 = ((p + 2 : Nat) : Int); omega
 have HX : Hid (x = (p : Int)) := hx
 have HZ : Hid (wrap64 (za ws (p + 1)) = z) := hz
 have e0 : (rvT ws (p + 2) == 0) = false := by simpa using h0
 have e8 : (rvT ws (p + 2) != 8) = true := by simpa using h8
 clear hx hz h0 h8
 go_enter Tryz.func94, Tryz.ntmps94
 go_wp2_with fail
 refine (zdj _ ws _ (p + 2) _ HX2.out (zas hs _) hn hw (by omega)).mono ?_
 rintro e w1 ⟨rfl, b1⟩
 have KA := zp b1 (by simp)
 have z1 := zq b1
 have B1 := zd b1
 generalize rvT ws (p + 2) = T at *
 have hB1 : Below w.heap.size w (w1.alloc (.cells #[.int .i64 T, .int .i64 (rvN ws (p + 2))] 48)) := B1.alloc B1.size _
 clear b1
 go_wp2_with (go_at_call 126; refine (zct _ _ _ _ _ _ _ _ _ _ _ _ _ _ _ _ z p 1 _ HX.out rfl HZ.out (hs.below hB1) hn (by omega)).mono ?_; rintro e w2 ⟨rfl, b2⟩; have q0 : w2.cell? ⟨w1.heap.size, 0, none⟩ = some (.int .i64 T) := by rw [b2.cell (p := ⟨w1.heap.size, 0, none⟩) (by simp)]; simp [go_sem])
 go_ret
 exact ⟨rfl, zc hB1 b2⟩
theorem zow (aw : Option Addr) (cw : Nat) (ws : List Int) (smz toh top : Int) (cyc : Bool) (sn old cpz sr : Int) (ar : Option Addr) (cr : Nat) (rs : List (Int × Int)) (x z L M : Int) (bl cl : Nat) (led : Nat -> Bool) (p P Q : Nat) (w : World) (hs : Sl w (.slice aw ws.length cw) ws) (hn : ws.length <= 1048576) (hw : zg ws) (hx : x = p) (hp : p + 3 < ws.length) (hz : wrap64 (za ws (p + 1)) = z) (h8 : rvT ws (p + 2) = 8) (hM : rvN ws (p + 2) = M) (hP : M = P) (hP1 : P < ws.length) (hL : zi ws P = L) (hQ : L = Q) (hQ1 : Q < ws.length)
 (hrow : w.rowIs bl 4 ws.length (fun i => .bool (led i))) (hled : led Q = true) :
 Calls Tryz.prog 94 #[.agg #[.slice aw ws.length cw, .int .i64 smz, .int .i64 toh, .int .i64 top, .bool cyc, .int .i64 sn, .int .i64 old, .int .i64 cpz, .int .i64 sr, .slice ar rs.length cr], .int .i64 x, .slice (some ⟨bl, 0, none⟩) ws.length cl] w fun e w' => e = .returned (.bool false) /\ Below w.heap.size w w' := by
 have x0 : 0 <= x := by omega
 have x1 : x <= 1048576 := by omega
 have HX2 : Hid (x + 2 = ((p + 2 : Nat) : Int)) := by show x + 2 = ((p + 2 : Nat) : Int); omega
 have HX : Hid (x = (p : Int)) := hx
 have HZ : Hid (wrap64 (za ws (p + 1)) = z) := hz
 have HP : Hid (M = (P : Int)) := hP
 have HL : Hid (zi ws P = L) := hL
 have L0 : 0 <= L := by omega
 have L1 : L < (ws.length : Int) := by omega
 have L2 : L.toNat = Q := by omega
 have lbl := hrow.lt
 clear hx hz hP hL hQ
 go_enter Tryz.func94, Tryz.ntmps94
 go_wp2_with fail
 refine (zdj _ ws _ (p + 2) _ HX2.out (zas hs _) hn hw (by omega)).mono ?_
 rintro e w1 ⟨rfl, b1⟩
 have KA := zp b1 (by simp)
 have z1 := zq b1
 have B1 := zd b1
 rw [h8, hM]
 clear h8 hM
 have hB1 : Below w.heap.size w (w1.alloc (.cells #[.int .i64 8, .int .i64 M] 48)) := B1.alloc B1.size _
 clear b1
 go_wp2_with (first | (go_at_call 126; refine (zct _ _ _ _ _ _ _ _ _ _ _ _ _ _ _ _ z p 1 _ HX.out rfl HZ.out (hs.below hB1) hn (by omega)).mono ?_; rintro e w2 ⟨rfl, b2⟩; have q0 : ∀ i, w2.cell? ⟨w1.heap.size, i, none⟩ = (#[.int .i64 8, .int .i64 M] : Array Value)[i]? := zp b2 (by simp); have hB2 := zc hB1 b2; have l2 : w1.heap.size < w2.heap.size := zq b2; have KA2 : ∀ i, w2.cell? ⟨w.heap.size, i, none⟩ = (#[.slice aw ws.length cw, .int .i64 smz, .int .i64 toh, .int .i64 top, .bool cyc, .int .i64 sn, .int .i64 old, .int .i64 cpz, .int .i64 sr, .slice ar rs.length cr] : Array Value)[i]? := ze KA (zd b2) z1) | (go_at_call 46; refine (zj1 _ _ _ _ _ _ _ _ _ _ _ _ _ _ M L P _ HP.out HL.out (hs.below hB2) hn hw hP1).mono ?_; rintro e w3 ⟨rfl, b3⟩; have hB3 := zc hB2 b3; have q1 : w3.cell? ⟨bl, Q, none⟩ = some (.bool true) := by rw [hB3.cell (p := ⟨bl, Q, none⟩) lbl, hrow.cell hQ1, hled]))
 go_ret
 exact ⟨rfl, hB3⟩
theorem zhv (b off cw : Nat) (ws : List Int) (smz toh top : Int) (cyc : Bool) (sn old cpz sr : Int) (ar : Option Addr) (cr : Nat) (rs : List (Int × Int)) (x t m A : Int) (Bb : Bool) (B n : Nat) (w : World) (hs : Sl w (.slice (some ⟨b, off, none⟩) ws.length cw) ws) (hb : b < w.heap.size) (hc : ∀ i, i < ws.length -> w.cell? ⟨b, off + i, none⟩ = some (.int .u64 (za ws i))) (hn : ws.length <= 1048576) (hw : zg ws) (hx : x = B) (hn0 : 0 < n) (hn1 : n <= 64) (hK : zfz ws B n) (h0 : (t == 0) = false) (hv : vOk t m = true) (k1 : zd2 ws t m) (hF : zdr ws B n t m = (A, Bb)) :
 Calls Tryz.prog 130 #[(.agg #[.slice (some ⟨b, off, none⟩) ws.length cw, .int .i64 smz, .int .i64 toh, .int .i64 top, .bool cyc, .int .i64 sn, .int .i64 old, .int .i64 cpz, .int .i64 sr, .slice ar rs.length cr]), .int .i64 x, .int .i64 n, .agg #[.int .i64 t, .int .i64 m]] w fun e w' => e = .returned (.tuple #[.int .i64 A, .bool Bb]) /\ Below w.heap.size w w' := by
 have := ztd b off cw ws smz toh top cyc sn old cpz sr ar cr rs x t m B n w hs hb hc hn hw hx hn0 hn1 hK h0 hv k1
 rw [hF] at this
 exact this
theorem zri {ws : List Int} {Q N k : Nat} (h : zel ws Q N k) (hk : kT ws Q k ≠ 0 -> zdr ws Q N (kT ws Q k) (kN ws Q k) = ((k : Int), true)) : zel ws Q N (k + 1) := fun i hi => by
 by_cases e : i = k
 · subst e; exact hk
 · exact h i (by omega)
theorem zrj {w w' : World} {bl b : Nat} {A : Array Value} (h : ∀ i, w.cell? ⟨b, i, none⟩ = A[i]?) (hb : zz bl (bl + 1) w w') (h1 : b < w.heap.size) (h2 : b ≠ bl) : ∀ i, w'.cell? ⟨b, i, none⟩ = A[i]? := zla h hb h1 (by omega)
theorem ztc {bl k : Nat} {w : World} (v : Value) : zz bl (bl + 1) w (w.setCell ⟨bl, k, none⟩ v) :=
 ⟨rfl, rfl, rfl, by simp, fun j hj hr => Go.Deep.blk_setCell_other _ _ _ _ (by simp; omega)⟩
set_option maxHeartbeats 4000000 in
theorem zmw (b off cw : Nat) (ws : List Int) (smz toh top : Int) (cyc : Bool) (sn old cpz sr : Int) (ar : Option Addr) (cr : Nat) (rs : List (Int × Int)) (x z L M : Int) (bl cl : Nat) (led : Nat -> Bool) (p P Q N : Nat) (w : World) (hb : b < w.heap.size) (hbl : b ≠ bl) (hc : ∀ i, i < ws.length -> w.cell? ⟨b, off + i, none⟩ = some (.int .u64 (za ws i))) (hn : ws.length <= 1048576) (hw : zg ws) (hx : x = p) (hp : p + 3 < ws.length) (hz : wrap64 (za ws (p + 1)) = z) (h8 : rvT ws (p + 2) = 8) (hM : rvN ws (p + 2) = M) (hP : M = P) (hP1 : P < ws.length) (hL : zi ws P = L) (hQ : L = Q) (hQ1 : Q < ws.length)
 (hN : zao ws Q = N) (hN0 : 0 < N) (hN1 : N <= 64) (hK : zfz ws Q N) (hV : ∀ i, i < N -> vOk (kT ws Q i) (kN ws Q i) = true) (hrow : w.rowIs bl 4 ws.length (fun i => .bool (led i))) (hled : led Q = false) :
 Calls Tryz.prog 94 #[(.agg #[.slice (some ⟨b, off, none⟩) ws.length cw, .int .i64 smz, .int .i64 toh, .int .i64 top, .bool cyc, .int .i64 sn, .int .i64 old, .int .i64 cpz, .int .i64 sr, .slice ar rs.length cr]), .int .i64 x, .slice (some ⟨bl, 0, none⟩) ws.length cl] w fun e w' => ∃ q, e = .returned (.bool q) /\ (q = true ↔ zel ws Q N N /\ z = zbk ws Q N /\ 4 * zbk ws Q N <= 3 * N) /\ zz bl (bl + 1) w w' /\ w'.rowIs bl 4 ws.length (fun i => .bool (led i || decide (i = Q))) := by
 have hs : Sl w (.slice (some ⟨b, off, none⟩) ws.length cw) ws := ⟨_, _, rfl, .inr ⟨b, off, rfl, hb, hc⟩⟩
 have x0 : 0 <= x := by omega
 have x1 : x <= 1048576 := by omega
 have HX2 : Hid (x + 2 = ((p + 2 : Nat) : Int)) := by show x + 2 = ((p + 2 : Nat) : Int); omega
 have HX : Hid (x = (p : Int)) := hx
 have HZ : Hid (wrap64 (za ws (p + 1)) = z) := hz
 have HP : Hid (M = (P : Int)) := hP
 have HL : Hid (zi ws P = L) := hL
 have HQ : Hid (L = (Q : Int)) := hQ
 have L0 : 0 <= L := by omega
 have L1 : L < (ws.length : Int) := by omega
 have L2 : L.toNat = Q := by omega
 have lbl := hrow.lt
 have HK : Hid (zfz ws Q N) := hK
 have HV : Hid (∀ i, i < N -> vOk (kT ws Q i) (kN ws Q i) = true) := hV
 have hsb := za5 (za ws Q)
 have HN : Hid ((rdS (za ws Q)).tdiv 4 = (N : Int)) := by
  show (rdS (za ws Q)).tdiv 4 = (N : Int)
  rw [Int.tdiv_eq_ediv_of_nonneg hsb.1]
  unfold zao at hN
  omega
 have hKQ := hK.1
 have hN1' : (N : Int) <= 64 := by omega
 have hU := zjc ws Q N
 have hU' : (zbk ws Q N : Int) <= 64 := by omega
 clear hx hz hP hL hQ hK hV hN
 go_enter Tryz.func94, Tryz.ntmps94
 go_wp2_with fail
 refine (zdj _ ws _ (p + 2) _ HX2.out (zas hs _) hn hw (by omega)).mono ?_
 rintro e w1 ⟨rfl, b1⟩
 have KA := zp b1 (by simp)
 have z1 := zq b1
 have B1 := zd b1
 rw [h8, hM]
 clear h8 hM
 have hB1 : Below w.heap.size w (w1.alloc (.cells #[.int .i64 8, .int .i64 M] 48)) := B1.alloc B1.size _
 clear b1
 go_upto_region 11 with (first | (go_at_call 126; refine (zct _ _ _ _ _ _ _ _ _ _ _ _ _ _ _ _ z p 1 _ HX.out rfl HZ.out (hs.below hB1) hn (by omega)).mono ?_; rintro e w2 ⟨rfl, b2⟩; have q0 : ∀ i, w2.cell? ⟨w1.heap.size, i, none⟩ = (#[.int .i64 8, .int .i64 M] : Array Value)[i]? := zp b2 (by simp); have hB2 := zc hB1 b2; have l2 : w1.heap.size < w2.heap.size := zq b2; have KA2 : ∀ i, w2.cell? ⟨w.heap.size, i, none⟩ = (#[.slice (some ⟨b, off, none⟩) ws.length cw, .int .i64 smz, .int .i64 toh, .int .i64 top, .bool cyc, .int .i64 sn, .int .i64 old, .int .i64 cpz, .int .i64 sr, .slice ar rs.length cr] : Array Value)[i]? := ze KA (zd b2) z1) | (go_at_call 46; refine (zj1 _ _ _ _ _ _ _ _ _ _ _ _ _ _ M L P _ HP.out HL.out (hs.below hB2) hn hw hP1).mono ?_; rintro e w3 ⟨rfl, b3⟩; have hB3 := zc hB2 b3; have q1 : w3.cell? ⟨bl, Q, none⟩ = some (.bool false) := (by rw [hB3.cell (p := ⟨bl, Q, none⟩) lbl, hrow.cell hQ1, hled]); have q2 : w3.frozen? ⟨bl, Q, none⟩ = false := (hrow.of_block (hB3.block bl lbl)).frozen Q))
 obtain ⟨w4, hw4⟩ : ∃ w4, w4 = w3.setCell ⟨bl, Q, none⟩ (.bool true) := ⟨_, rfl⟩
 rw [<- hw4]
 have l3 : w.heap.size < w3.heap.size := by have := b3.size; omega
 have A4 : zz bl (bl + 1) w3 w4 := by rw [hw4]; exact ztc _
 have R4 : w4.rowIs bl 4 ws.length (fun i => .bool (led i || decide (i = Q))) := by
  rw [hw4]
  refine ((hrow.of_block (hB3.block bl lbl)).set Q _).congr fun i _ => ?_
  by_cases e : i = Q
  · subst e; simp
  · simp [e]
 have hne : w.heap.size ≠ bl := by omega
 have KA3 := ze KA2 b3 (by omega)
 have KA4 := zrj KA3 A4 l3 hne
 have A0 : zz bl (bl + 1) w w4 := (zaf hB3 (Nat.le_refl _) _ _).trans A4
 have C4 : b < w4.heap.size /\ ∀ i, i < ws.length -> w4.cell? ⟨b, off + i, none⟩ = some (.int .u64 (za ws i)) := by
  obtain ⟨g1, g2⟩ := zh hb hc hB3
  exact ⟨Nat.lt_of_lt_of_le g1 A4.size, fun i hi => by rw [World.cell?_of_block (w := w3) (A4.block b g1 (by omega))]; exact g2 i hi⟩
 have l4 : w.heap.size < w4.heap.size := Nat.lt_of_lt_of_le l3 A4.size
 have bl4 : bl < w4.heap.size := R4.lt
 clear hw4 A4 KA2 KA3 hB3 b3 hB2 q0 q1 q2 hB1 KA hrow hs hc
 have S4 : Sl w4 (.slice (some ⟨b, off, none⟩) ws.length cw) ws := ⟨_, _, rfl, .inr ⟨b, off, rfl, C4.1, C4.2⟩⟩
 go_wp2_with (go_at_call 128; refine (zs2 _ _ _ _ _ _ _ _ _ _ _ _ _ _ L Q N _ HQ.out S4 hn hw HN.out hsb.1 (by have := hsb.2; omega) hKQ).mono ?_; rintro e w5 ⟨rfl, b5⟩)
 have KA5 := ze KA4 b5 l4
 have l5 : w.heap.size < w5.heap.size := Nat.lt_of_lt_of_le l4 b5.size
 have A5 : zz bl (bl + 1) w w5 := A0.trans (zaf b5 (Nat.le_refl _) _ _)
 have R5 := R4.of_block (b5.block bl bl4)
 have bl5 := R5.lt
 have C5 := zh C4.1 C4.2 b5
 have S5 : Sl w5 (.slice (some ⟨b, off, none⟩) ws.length cw) ws := S4.below b5
 clear KA4 A0 R4 C4 S4 b5 l4 bl4
 go_loopw [13] (fun u13 wr => ∃ k : Nat, k <= N /\ u13 = .int .i64 k /\ zel ws Q N k /\ Below w5.heap.size w5 wr) (fun u13 _ => N - (intOf u13).toNat)
 case atStart => exact ⟨0, Nat.zero_le _, rfl, fun i hi => absurd hi (by omega), Below.refl _ _⟩
 case round =>
  obtain ⟨k, hk, rfl, hF, hB⟩ := hrel
  have HF : Hid (zel ws Q N k) := hF
  clear hF
  have lwr := hB.size
  by_cases hlt : k < N
  · have hlt' : (k : Int) < (N : Int) := by omega
    have l0 : w.heap.size < wr.heap.size := by omega
    have KA := ze KA5 hB l5
    have SR := S5.below hB
    have hky : Q + 1 + 4 * k + 1 < ws.length := by omega
    have HKi : Hid (zd2 ws (kT ws Q k) (kN ws Q k)) := HK.out.2 k hlt
    have HVi : Hid (vOk (kT ws Q k) (kN ws Q k) = true) := HV.out k hlt
    go_upto_region 16 with (go_at_call 129; refine (zmj _ _ _ _ _ _ _ _ _ _ _ _ _ _ _ _ Q k _ HQ.out rfl SR hn hw hky).mono ?_; rintro e w6 ⟨rfl, b6⟩)
    have e1 : rvT ws (Q + 1 + 4 * k) = kT ws Q k := rfl
    have e2 : rvN ws (Q + 1 + 4 * k) = kN ws Q k := rfl
    rw [e1, e2]
    clear e1 e2
    have hFS : Hid ((kT ws Q k ≠ 0 -> zdr ws Q N (kT ws Q k) (kN ws Q k) = ((k : Int), true)) -> zel ws Q N (k + 1)) := fun g => zri HF.out g
    have hFN : Hid (zel ws Q N N -> kT ws Q k ≠ 0 -> zdr ws Q N (kT ws Q k) (kN ws Q k) = ((k : Int), true)) := fun g => g k hlt
    generalize kT ws Q k = tk at *
    generalize kN ws Q k = mk at *
    have KA6 := ze KA b6 l0
    have l6 : w.heap.size < w6.heap.size := Nat.lt_of_lt_of_le l0 b6.size
    have hB6 := zc hB b6
    have hB7 : Below w5.heap.size w5 (w6.alloc (.cells #[.int .i64 tk, .int .i64 mk] 48)) := hB6.alloc hB6.size _
    have S7 := S5.below hB7
    obtain ⟨lb7, C7⟩ := zh C5.1 C5.2 hB7
    clear KA SR C5 KA5
    by_cases hz : tk = 0
    · have e0 : (tk == 0) = true := by simpa using hz
      have en : (tk != 0) = false := by simpa using hz
      have HN0 : Hid (zel ws Q N (k + 1)) := hFS.out (fun g => absurd hz g)
      clear hz
      go_wp2_with (go_at_call 130; refine (zox _ _ _ _ _ _ _ _ _ _ _ _ _ _ _ _ tk mk _ e0).mono ?_; rintro e w8 ⟨rfl, b8⟩; have q8 : ∀ i, w8.cell? ⟨w6.heap.size, i, none⟩ = (#[.int .i64 tk, .int .i64 mk] : Array Value)[i]? := zp b8 (by simp))
      first
       | (refine ⟨⟨k + 1, hlt, by go_num, HN0.out, zc hB7 b8⟩, by simp [intOf]; omega⟩)
       | (go_roundw
          case rel => exact ⟨k + 1, hlt, by go_num, HN0.out, zc hB7 b8⟩
          case measure => simp [intOf]; omega)
    · have e0 : (tk == 0) = false := by simpa using hz
      have en : (tk != 0) = true := by simpa using hz
      have HTN : Hid (tk ≠ 0) := hz
      clear hz
      obtain ⟨A, Bb, hAB⟩ : ∃ A Bb, zdr ws Q N tk mk = (A, Bb) := ⟨_, _, rfl⟩
      have HAB : Hid (zdr ws Q N tk mk = (A, Bb)) := hAB
      clear hAB
      cases Bb with
      | false =>
        go_wp2_with (go_at_call 130; refine (zhv _ _ _ _ _ _ _ _ _ _ _ _ _ _ _ _ tk mk A false Q N _ S7 lb7 C7 hn hw HQ.out hN0 hN1 HK.out e0 HVi.out HKi.out HAB.out).mono ?_; rintro e w8 ⟨rfl, b8⟩; have q8 : ∀ i, w8.cell? ⟨w6.heap.size, i, none⟩ = (#[.int .i64 tk, .int .i64 mk] : Array Value)[i]? := zp b8 (by simp))
        go_ret
        have hB8 := zc hB7 b8
        refine ⟨false, rfl, ⟨fun g => by simp at g, fun g => ?_⟩, A5.trans (zaf hB8 (Nat.le_refl _) _ _), R5.of_block (hB8.block bl bl5)⟩
        have := hFN.out g.1 HTN.out
        rw [HAB.out] at this
        simp at this
      | true =>
        by_cases hA : A = (k : Int)
        · have eA : (A != (k : Int)) = false := by simpa using hA
          have HN0 : Hid (zel ws Q N (k + 1)) := hFS.out (fun _ => by rw [HAB.out, hA])
          clear hA
          go_wp2_with (go_at_call 130; refine (zhv _ _ _ _ _ _ _ _ _ _ _ _ _ _ _ _ tk mk A true Q N _ S7 lb7 C7 hn hw HQ.out hN0 hN1 HK.out e0 HVi.out HKi.out HAB.out).mono ?_; rintro e w8 ⟨rfl, b8⟩; have q8 : ∀ i, w8.cell? ⟨w6.heap.size, i, none⟩ = (#[.int .i64 tk, .int .i64 mk] : Array Value)[i]? := zp b8 (by simp))
          first
           | (refine ⟨⟨k + 1, hlt, by go_num, HN0.out, zc hB7 b8⟩, by simp [intOf]; omega⟩)
           | (go_roundw
              case rel => exact ⟨k + 1, hlt, by go_num, HN0.out, zc hB7 b8⟩
              case measure => simp [intOf]; omega)
        · have eA : (A != (k : Int)) = true := by simpa using hA
          have HA : Hid (¬ A = (k : Int)) := hA
          clear hA
          go_wp2_with (go_at_call 130; refine (zhv _ _ _ _ _ _ _ _ _ _ _ _ _ _ _ _ tk mk A true Q N _ S7 lb7 C7 hn hw HQ.out hN0 hN1 HK.out e0 HVi.out HKi.out HAB.out).mono ?_; rintro e w8 ⟨rfl, b8⟩; have q8 : ∀ i, w8.cell? ⟨w6.heap.size, i, none⟩ = (#[.int .i64 tk, .int .i64 mk] : Array Value)[i]? := zp b8 (by simp))
          go_ret
          have hB8 := zc hB7 b8
          refine ⟨false, rfl, ⟨fun g => by simp at g, fun g => ?_⟩, A5.trans (zaf hB8 (Nat.le_refl _) _ _), R5.of_block (hB8.block bl bl5)⟩
          have := hFN.out g.1 HTN.out
          rw [HAB.out] at this
          simp at this
          exact absurd this HA.out
  · obtain rfl : k = N := by omega
    have AR := A5.trans (zaf hB (Nat.le_refl _) bl (bl + 1))
    have RR := R5.of_block (hB.block bl bl5)
    clear KA5 C5 S5 A5 R5
    by_cases hzu : z = (zbk ws Q k : Int)
    · clear HZ
      subst hzu
      by_cases h4 : 4 * (zbk ws Q k : Int) <= 3 * (k : Int)
      · go_wp2
        go_ret
        first
         | exact ⟨true, rfl, ⟨fun _ => ⟨HF.out, rfl, by omega⟩, fun _ => rfl⟩, AR, RR⟩
         | exact Or.inr ⟨rfl, ⟨HF.out, by omega⟩, AR, RR⟩
         | exact Or.inr ⟨rfl, HF.out, AR, RR⟩
      · have h4' : 3 * (k : Int) < 4 * (zbk ws Q k : Int) := by omega
        go_wp2
        go_ret
        first
         | exact ⟨false, rfl, ⟨fun g => by simp at g, fun g => by have := g.2.2; omega⟩, AR, RR⟩
         | exact Or.inl ⟨rfl, fun _ => by omega, AR, RR⟩
         | exact Or.inl ⟨rfl, fun g => by have := g.2; omega, AR, RR⟩
    · have ez : (z == (zbk ws Q k : Int)) = false := by simpa using hzu
      have HZU : Hid (¬ z = (zbk ws Q k : Int)) := hzu
      clear hzu
      go_wp2
      go_ret
      first
       | exact ⟨false, rfl, ⟨fun g => by simp at g, fun g => absurd g.2.1 HZU.out⟩, AR, RR⟩
       | exact Or.inl ⟨rfl, fun _ g => absurd g HZU.out, AR, RR⟩
theorem zfo (b off cw : Nat) (ws : List Int) (smz toh top : Int) (cyc : Bool) (sn old cpz sr : Int) (ar : Option Addr) (cr : Nat) (rs : List (Int × Int)) (x : Int) (bl cl : Nat) (led : Nat -> Bool) (p : Nat) (w : World) (hb : b < w.heap.size) (hbl : b ≠ bl) (hc : ∀ i, i < ws.length -> w.cell? ⟨b, off + i, none⟩ = some (.int .u64 (za ws i))) (hn : ws.length <= 1048576) (hw : zg ws) (hx : x = p) (hT : zj0 ws p) (hrow : w.rowIs bl 4 ws.length (fun i => .bool (led i))) :
 Calls Tryz.prog 94 #[(.agg #[.slice (some ⟨b, off, none⟩) ws.length cw, .int .i64 smz, .int .i64 toh, .int .i64 top, .bool cyc, .int .i64 sn, .int .i64 old, .int .i64 cpz, .int .i64 sr, .slice ar rs.length cr]), .int .i64 x, .slice (some ⟨bl, 0, none⟩) ws.length cl] w fun e w' => ∃ q, e = .returned (.bool q) /\ (q = true ↔ zd9 ws led p) /\ zz bl (bl + 1) w w' /\ (q = true -> w'.rowIs bl 4 ws.length (fun i => .bool (zdx ws led p i))) := by
 have hs : Sl w (.slice (some ⟨b, off, none⟩) ws.length cw) ws := ⟨_, _, rfl, .inr ⟨b, off, rfl, hb, hc⟩⟩
 have lbl := hrow.lt
 have hw1 := zac hw (p + 1)
 have hp := hT.1
 by_cases h0 : rvT ws (p + 2) = 0
 · refine (zmv _ _ _ _ _ _ _ _ _ _ _ _ _ _ x _ _ p w hs hn hw hx hp rfl h0).mono ?_
   rintro e w' ⟨he, hb'⟩
   have hnx : ∀ i, zdx ws led p i = led i := fun i => by simp [zdx, h0]
   refine ⟨_, he, ?_, zaf hb' (Nat.le_refl _) _ _, fun _ => (hrow.of_block (hb'.block bl lbl)).congr fun i _ => by rw [hnx]⟩
   rw [beq_iff_eq]
   constructor
   · intro g
     exact .inl ⟨h0, by unfold wrap64 at g; omega⟩
   · rintro (g | g)
     · rw [g.2]; unfold wrap64; omega
     · omega
 · by_cases h8 : rvT ws (p + 2) = 8
   · obtain ⟨a1, a2, a3, a4, a5, a6, a7, a8⟩ := hT.2 h8
     obtain ⟨P, hP⟩ := Int.eq_ofNat_of_zero_le a1
     have e1 : (rvN ws (p + 2)).toNat = P := by omega
     rw [e1] at a3
     have e2 : zi ws P = (zk ws p : Int) := by unfold zk; rw [e1]; omega
     by_cases hl : led (zk ws p) = true
     · refine (zow _ _ _ _ _ _ _ _ _ _ _ _ _ _ x _ (zi ws P) (rvN ws (p + 2)) bl cl led p P (zk ws p) w hs hn hw hx hp rfl h8 rfl hP (by omega) rfl e2 a4 hrow hl).mono ?_
       rintro e w' ⟨he, hb'⟩
       refine ⟨false, he, ⟨fun g => by simp at g, ?_⟩, zaf hb' (Nat.le_refl _) _ _, fun g => by simp at g⟩
       rintro (g | g)
       · omega
       · rw [hl] at g; simp at g
     · rw [Bool.not_eq_true] at hl
       refine (zmw b off cw ws smz toh top cyc sn old cpz sr ar cr rs x _ (zi ws P) (rvN ws (p + 2)) bl cl led p P (zk ws p) (zao ws (zk ws p)) w hb hbl hc hn hw hx hp rfl h8 rfl hP (by omega) rfl e2 a4 rfl a5 a6 a7 a8 hrow hl).mono ?_
       rintro e w' ⟨q, he, hq, ha, hr⟩
       refine ⟨q, he, hq.trans ?_, ha, fun _ => hr.congr fun i _ => by simp [zdx, h8]⟩
       have hu := zjc ws (zk ws p) (zao ws (zk ws p))
       have ew : wrap64 (za ws (p + 1)) = (zbk ws (zk ws p) (zao ws (zk ws p)) : Int) ↔ za ws (p + 1) = (zbk ws (zk ws p) (zao ws (zk ws p)) : Int) := by
        unfold wrap64; omega
       rw [ew]
       constructor
       · exact fun g => .inr ⟨h8, hl, g⟩
       · rintro (g | g)
         · omega
         · exact g.2.2
   · refine (zov _ _ _ _ _ _ _ _ _ _ _ _ _ _ x _ _ p w hs hn hw hx hp rfl h0 h8).mono ?_
     rintro e w' ⟨he, hb'⟩
     refine ⟨false, he, ⟨fun g => by simp at g, ?_⟩, zaf hb' (Nat.le_refl _) _ _, fun g => by simp at g⟩
     rintro (g | g)
     · exact absurd g.1 h0
     · exact absurd g.1 h8
end Go.Proofs.YtmckcnmlhgpnhaaGreat
