/- - -/
import Derived.Test.YtmckcnmlhgpnhaaGreatWKeyD
import Derived.Laws.MakeOwn
import Derived.Laws.StructEq
import Derived.WalkMore
namespace Go.Proofs.YtmckcnmlhgpnhaaGreat
set_option maxRecDepth 20000
open Go.RowKit
set_option linter.unusedSimpArgs false
set_option linter.unusedVariables false
theorem zpg (x y : Int) (Q k : Nat) (w : World) (hx : x = Q) (hy : y = k) (h : Q + 1 + 4 * k <= 9000000) :
 Calls Tryz.prog 202 #[.int .i64 x, .int .i64 y] w fun e w' => e = .returned (.int .i64 ((Q + 1 + 4 * k : Nat) : Int)) /\ w = w' := by
 subst hx hy
 have h' : (Q : Int) + 1 + 4 * (k : Int) <= 9000000 := by omega
 go_enter Tryz.func202, Tryz.ntmps202
 go_wp2
 go_ret
 exact ⟨zby (by go_num), rfl⟩
theorem zl0 (b off cw : Nat) (ws : List Int) (smz toh top : Int) (cyc : Bool) (sn old cpz sr : Int) (ar : Option Addr) (cr : Nat) (rs : List (Int × Int)) (w : World) : Calls Tryz.prog 200 #[(.agg #[.slice (some ⟨b, off, none⟩) ws.length cw, .int .i64 smz, .int .i64 toh, .int .i64 top, .bool cyc, .int .i64 sn, .int .i64 old, .int .i64 cpz, .int .i64 sr, .slice ar rs.length cr]), .int .i64 0] w fun e w' => e = .returned (.int .i64 0) /\ Below w.heap.size w w' := by
 go_enter Tryz.func200, Tryz.ntmps200
 go_wp2
 go_ret
 exact ⟨rfl, zd (Below.refl _ _)⟩
theorem zl1 (b off cw : Nat) (ws : List Int) (smz toh top : Int) (cyc : Bool) (sn old cpz sr : Int) (ar : Option Addr) (cr : Nat) (rs : List (Int × Int)) (x : Int) (Q n : Nat) (w : World) (hx : x = Q) (h0 : 0 < Q) (hb : b < w.heap.size) (hc : ∀ i, i < ws.length -> w.cell? ⟨b, off + i, none⟩ = some (.int .u64 (za ws i))) (hn : ws.length <= 1048576) (hw : zg ws) (hcap : (rdS (za ws Q)).toNat / 4 = n) (hs0 : 0 <= rdS (za ws Q)) (hn1 : n <= 64) (hQ : Q < ws.length) :
 Calls Tryz.prog 200 #[(.agg #[.slice (some ⟨b, off, none⟩) ws.length cw, .int .i64 smz, .int .i64 toh, .int .i64 top, .bool cyc, .int .i64 sn, .int .i64 old, .int .i64 cpz, .int .i64 sr, .slice ar rs.length cr]), .int .i64 x] w fun e w' => e = .returned (.int .i64 n) /\ Below w.heap.size w w' := by
 have e0 : (x == 0) = false := by simp; omega
 have HX : Hid (x = (Q : Int)) := hx
 have hfs := zfl
 have hcap' : (rdS (za ws Q)).tdiv 4 = (n : Int) := by rw [Int.tdiv_eq_ediv_of_nonneg hs0]; omega
 have n1 : (n : Int) <= 64 := by omega
 have HC : Hid (∀ i, i < ws.length -> w.cell? ⟨b, off + i, none⟩ = some (.int .u64 (za ws i))) := hc
 clear hx hcap hc
 go_enter Tryz.func200, Tryz.ntmps200
 go_wp2_with (go_at_call 81; refine (zc3 _ _ _ _ _ _ _ _ _ _ _ _ _ _ _ Q _ HX.out (zcq (zc6 hb) (fun i hi => zx hb (HC.out i hi))) hn hw hQ).mono ?_; rintro e w1 ⟨rfl, b1⟩; have B1 := zd b1; clear b1)
 go_ret
 exact ⟨rfl, B1⟩
theorem zr1 (b off cw : Nat) (ws : List Int) (smz toh top : Int) (cyc : Bool) (sn old cpz sr : Int) (ar : Option Addr) (cr : Nat) (rs : List (Int × Int)) (x : Int) (P : Nat) (w : World) (hx : x = P) (hb : b < w.heap.size) (hc : ∀ i, i < ws.length -> w.cell? ⟨b, off + i, none⟩ = some (.int .u64 (za ws i))) (hn : ws.length <= 1048576) (hw : zg ws) (hP : P + 3 < ws.length) (h0 : rvT ws (P + 2) = 0) :
 Calls Tryz.prog 170 #[(.agg #[.slice (some ⟨b, off, none⟩) ws.length cw, .int .i64 smz, .int .i64 toh, .int .i64 top, .bool cyc, .int .i64 sn, .int .i64 old, .int .i64 cpz, .int .i64 sr, .slice ar rs.length cr]), .int .i64 x] w fun e w' => e = .returned (.int .i64 0) /\ Below w.heap.size w w' := by
 have x0 : 0 <= x := by omega
 have x1 : x <= 1048576 := by omega
 have HX2 : Hid (x + 2 = ((P + 2 : Nat) : Int)) := by show x + 2 = ((P + 2 : Nat) : Int); omega
 have HC : Hid (∀ i, i < ws.length -> w.cell? ⟨b, off + i, none⟩ = some (.int .u64 (za ws i))) := hc
 have H0 : Hid (rvT ws (P + 2) = 0) := h0
 clear hx hc h0
 go_enter Tryz.func170, Tryz.ntmps170
 go_wp2_with (go_at_call 122; refine (zgg _ _ _ _ _ _ _ _ _ _ _ _ _ _ _ (P + 2) _ HX2.out (zcq (zc6 hb) (fun i hi => zx hb (HC.out i hi))) hn hw (by omega)).mono ?_; rw [H0.out]; rintro e w1 ⟨rfl, b1⟩; have B1 := zd b1; clear b1)
 go_ret
 exact ⟨rfl, B1.alloc B1.size _⟩
theorem zr2 (b off cw : Nat) (ws : List Int) (smz toh top : Int) (cyc : Bool) (sn old cpz sr : Int) (ar : Option Addr) (cr : Nat) (rs : List (Int × Int)) (x T : Int) (P M Q : Nat) (w : World) (hx : x = P) (hb : b < w.heap.size) (hc : ∀ i, i < ws.length -> w.cell? ⟨b, off + i, none⟩ = some (.int .u64 (za ws i))) (hn : ws.length <= 1048576) (hw : zg ws) (hP : P + 3 < ws.length) (hT : rvT ws (P + 2) = T) (h0 : (T == 0) = false) (hM : rvN ws (P + 2) = M) (hM1 : M < ws.length) (hQ : zi ws M = Q) :
 Calls Tryz.prog 170 #[(.agg #[.slice (some ⟨b, off, none⟩) ws.length cw, .int .i64 smz, .int .i64 toh, .int .i64 top, .bool cyc, .int .i64 sn, .int .i64 old, .int .i64 cpz, .int .i64 sr, .slice ar rs.length cr]), .int .i64 x] w fun e w' => e = .returned (.int .i64 Q) /\ Below w.heap.size w w' := by
 have x0 : 0 <= x := by omega
 have x1 : x <= 1048576 := by omega
 have HX2 : Hid (x + 2 = ((P + 2 : Nat) : Int)) := by show x + 2 = ((P + 2 : Nat) : Int); omega
 have HC : Hid (∀ i, i < ws.length -> w.cell? ⟨b, off + i, none⟩ = some (.int .u64 (za ws i))) := hc
 have HT : Hid (rvT ws (P + 2) = T) := hT
 have HM : Hid (rvN ws (P + 2) = M) := hM
 have HQ : Hid (zi ws M = Q) := hQ
 clear hx hc hT hM hQ
 go_enter Tryz.func170, Tryz.ntmps170
 go_wp2_with (go_at_call 122; refine (zgg _ _ _ _ _ _ _ _ _ _ _ _ _ _ _ (P + 2) _ HX2.out (zcq (zc6 hb) (fun i hi => zx hb (HC.out i hi))) hn hw (by omega)).mono ?_; rw [HT.out, HM.out]; rintro e w1 ⟨rfl, b1⟩; have B1 := zd b1; have k1 := zp b1 (by simp); have z1 := zq b1; clear b1)
 have HB : Hid (Below w.heap.size w (w1.alloc (.cells #[.int .i64 T, .int .i64 (M : Int)] 48))) := B1.alloc B1.size _
 go_wp2_with (go_at_call 120; refine (zfh _ _ _ _ _ _ _ _ _ _ _ _ _ _ _ _ _ M _ rfl (zh hb HC.out HB.out).1 (zh hb HC.out HB.out).2 hn hw hM1).mono ?_; rw [HQ.out]; rintro e w2 ⟨rfl, b2⟩)
 go_ret
 exact ⟨rfl, zc HB.out b2⟩
theorem zx4 : (Tryz.prog.info? 229).map (fun i => (i.zero, i.size, i.bytes)) = some (some (.agg #[.int .i64 0, .int .i64 0, .string ⟨#[]⟩]), 3, 32) := by kernel_rfl
theorem znu (l : Int) (h0 : 0 <= l) (h1 : l <= 1048576) (w : World) : (Instr.makeSlice 201 (.int .i64 l) (.int .i64 l)).run Tryz.prog w = .ok (.slice (some ⟨w.heap.size, 0, none⟩) l.toNat l.toNat) (w.alloc (.cells (madeCells #[.int .i64 0, .int .i64 0, .string ⟨#[]⟩] (l.toNat * 3)) 229)) := by
 obtain ⟨i, hi, hzz⟩ := Option.map_eq_some_iff.1 zx4
 simp only [Prod.mk.injEq] at hzz
 obtain ⟨hz, hs, hb⟩ := hzz
 have := run_make (P := Tryz.prog) w 201 229 i _ Tryz.underlying201 hi hz .i64 .i64 l l h0 (Int.le_refl _) (by rw [hb]; omega) (by omega)
 rw [hs] at this
 exact this
def zf6 (T N : Nat -> Int) (X : Nat -> ByteArray) (j : Nat) : Value := if j % 3 = 0 then .int .i64 (T (j / 3)) else if j % 3 = 1 then .int .i64 (N (j / 3)) else .string (X (j / 3))
theorem znv (T N : Nat -> Int) (X : Nat -> ByteArray) (k : Nat) : zf6 T N X (k * 3) = .int .i64 (T k) := by
 simp [zf6]
theorem znw (T N : Nat -> Int) (X : Nat -> ByteArray) (k : Nat) : zf6 T N X (k * 3 + 1) = .int .i64 (N k) := by
 have h1 : (k * 3 + 1) % 3 = 1 := by omega
 have h2 : (k * 3 + 1) / 3 = k := by omega
 simp [zf6, h1, h2]
theorem znx (T N : Nat -> Int) (X : Nat -> ByteArray) (k : Nat) : zf6 T N X (k * 3 + 2) = .string (X k) := by
 have h1 : (k * 3 + 2) % 3 = 2 := by omega
 have h2 : (k * 3 + 2) / 3 = k := by omega
 simp [zf6, h1, h2]
def za0 (w : World) (K n : Nat) (T N : Nat -> Int) (X : Nat -> ByteArray) : Prop := w.rowIs K 229 (n * 3) (zf6 T N X)
def zcz (k : Nat) (T : Nat -> Int) (i : Nat) : Int := if i < k then T i else 0
def zex (k : Nat) (X : Nat -> ByteArray) (i : Nat) : ByteArray := if i < k then X i else ⟨#[]⟩
theorem zlg (w : World) (n : Nat) (T N : Nat -> Int) (X : Nat -> ByteArray) : za0 (w.alloc (.cells (madeCells #[.int .i64 0, .int .i64 0, .string ⟨#[]⟩] (n * 3)) 229)) w.heap.size n (zcz 0 T) (zcz 0 N) (zex 0 X) :=
 ⟨_, Go.Deep.blk_alloc_new _ _, size_madeCells _ _, fun i hi => by
  have h : i % 3 = 0 \/ i % 3 = 1 \/ i % 3 = 2 := by omega
  rcases h with h | h | h <;> simp [madeCells, hi, h, zf6, zcz, zex]⟩
theorem zty {wr : World} {K n k : Nat} {T N : Nat -> Int} {X : Nat -> ByteArray} (hR : za0 wr K n (zcz k T) (zcz k N) (zex k X)) :
 za0 (((wr.setCell ⟨K, k * 3, none⟩ (.int .i64 (T k))).setCell ⟨K, k * 3 + 1, none⟩ (.int .i64 (N k))).setCell ⟨K, k * 3 + 2, none⟩ (.string (X k))) K n (zcz (k + 1) T) (zcz (k + 1) N) (zex (k + 1) X) := by
 refine (((World.rowIs.set hR (k * 3) _).set (k * 3 + 1) _).set (k * 3 + 2) _).congr fun j _ => ?_
 obtain ⟨q, r, hr, rfl⟩ : ∃ q r, r < 3 /\ j = q * 3 + r := ⟨j / 3, j % 3, by omega, by omega⟩
 have hq : (q * 3 + r) / 3 = q := by omega
 have hr0 : (q * 3 + r) % 3 = r := by omega
 by_cases e : q = k
 · subst e
   have h : r = 0 \/ r = 1 \/ r = 2 := by omega
   rcases h with h | h | h <;> subst h <;> simp [zf6, hq, hr0, zcz, zex]
 · have e1 : ¬ (q * 3 + r = k * 3 + 2) := by omega
   have e2 : ¬ (q * 3 + r = k * 3 + 1) := by omega
   have e3 : ¬ (q * 3 + r = k * 3) := by omega
   have e4 : (q < k + 1) ↔ (q < k) := by omega
   simp [e1, e2, e3, zf6, hq, hr0, zcz, zex, e4]
theorem ztz {wr : World} {K n : Nat} {T N : Nat -> Int} {X : Nat -> ByteArray} (hR : za0 wr K n (zcz n T) (zcz n N) (zex n X)) : za0 wr K n T N X :=
 World.rowIs.congr hR fun j hj => by
  have h : j / 3 < n := by omega
  simp [zf6, zcz, zex, h]
theorem zwv {W : World} {K c o0 o1 o2 : Nat} {A : Array Value} (hne : c ≠ K) (h : ∀ i, W.cell? ⟨c, i, none⟩ = A[i]?) (u0 u1 u2 : Value) : ∀ i, (((W.setCell ⟨K, o0, none⟩ u0).setCell ⟨K, o1, none⟩ u1).setCell ⟨K, o2, none⟩ u2).cell? ⟨c, i, none⟩ = A[i]? := fun i => by
 rw [World.cell?_setCell_other _ _ _ _ (fun e => hne (congrArg Addr.block e).symm), World.cell?_setCell_other _ _ _ _ (fun e => hne (congrArg Addr.block e).symm), World.cell?_setCell_other _ _ _ _ (fun e => hne (congrArg Addr.block e).symm)]
 exact h i
set_option maxHeartbeats 1000000 in
theorem zt0 (b off cw : Nat) (ws : List Int) (smz toh top : Int) (cyc : Bool) (sn old cpz sr : Int) (ar : Option Addr) (cr : Nat) (rs : List (Int × Int)) (x : Int) (Q n : Nat) (T M : Nat -> Int) (w : World) (hx : x = Q) (hq0 : 0 < Q) (hb : b < w.heap.size) (hc : ∀ i, i < ws.length -> w.cell? ⟨b, off + i, none⟩ = some (.int .u64 (za ws i))) (hn : ws.length <= 1048576) (hw : zg ws) (hcap : (rdS (za ws Q)).toNat / 4 = n) (hs0 : 0 <= rdS (za ws Q)) (hn1 : n <= 64) (hQ : Q + 4 * n < ws.length) (hTM : ∀ i, rvT ws (Q + 1 + 4 * i) = T i /\ rvN ws (Q + 1 + 4 * i) = M i) (hK : ∀ i, i < n -> zd2 ws (T i) (M i)) :
 Calls Tryz.prog 172 #[(.agg #[.slice (some ⟨b, off, none⟩) ws.length cw, .int .i64 smz, .int .i64 toh, .int .i64 top, .bool cyc, .int .i64 sn, .int .i64 old, .int .i64 cpz, .int .i64 sr, .slice ar rs.length cr]), .int .i64 x] w fun e w' => ∃ K, e = .returned (.slice (some ⟨K, 0, none⟩) n n) /\ w.heap.size <= K /\ za0 w' K n T (fun i => kyN ws (T i) (M i)) (fun i => kyS ws (T i) (M i)) /\ Below w.heap.size w w' := by
 have x0 : 0 <= x := by omega
 have x1 : x <= 1048576 := by omega
 have HX : Hid (x = (Q : Int)) := hx
 have HK : Hid (∀ i, i < n -> zd2 ws (T i) (M i)) := hK
 have HTM : Hid (∀ i, rvT ws (Q + 1 + 4 * i) = T i /\ rvN ws (Q + 1 + 4 * i) = M i) := hTM
 have HCAP : Hid ((rdS (za ws Q)).toNat / 4 = n) := hcap
 have HC : Hid (∀ i, i < ws.length -> w.cell? ⟨b, off + i, none⟩ = some (.int .u64 (za ws i))) := hc
 have hmk := znu (n : Int) (by omega) (by omega)
 rw [Int.toNat_natCast] at hmk
 clear hx hK hcap hc hTM
 go_enter Tryz.func172, Tryz.ntmps172
 go_wp2_with (go_at_call 200; refine (zl1 _ _ _ _ _ _ _ _ _ _ _ _ _ _ _ _ Q n _ HX.out hq0 (zc6 hb) (fun i hi => zx hb (HC.out i hi)) hn hw HCAP.out hs0 hn1 (by omega)).mono ?_; rintro e w1 ⟨rfl, b1⟩; have B1 := zd b1; have k1 := zp b1 (by simp); have z1 := zq b1; clear b1)
 clear hmk HCAP hs0
 have k1' : Hid (∀ i, w1.cell? ⟨w.heap.size, i, none⟩ = (#[.slice (some ⟨b, off, none⟩) ws.length cw, .int .i64 smz, .int .i64 toh, .int .i64 top, .bool cyc, .int .i64 sn, .int .i64 old, .int .i64 cpz, .int .i64 sr, .slice ar rs.length cr] : Array Value)[i]?) := k1
 clear k1
 go_loopw [13] (fun u15 wr => ∃ k : Nat, k <= n /\ u15 = .int .i64 k /\ za0 wr w1.heap.size n (zcz k T) (zcz k (fun i => kyN ws (T i) (M i))) (zex k (fun i => kyS ws (T i) (M i))) /\ Below w1.heap.size w1 wr) (fun u15 _ => n - (intOf u15).toNat)
 case atStart => exact ⟨0, Nat.zero_le _, rfl, zlg _ _ _ _ _, (Below.refl _ _).alloc (Nat.le_refl _) _⟩
 case round =>
  obtain ⟨k, hk, rfl, hR, hB⟩ := hrel
  by_cases hlt : k < n
  · have hlt' : (k : Int) < (n : Int) := by omega
    have hP1 : Q + 1 + 4 * k + 1 < ws.length := by omega
    have hky := HK.out k hlt
    obtain ⟨hT, hM⟩ := HTM.out k
    have lKw : w1.heap.size < wr.heap.size := hR.lt
    have HR : Hid (za0 wr w1.heap.size n (zcz k T) (zcz k (fun i => kyN ws (T i) (M i))) (zex k (fun i => kyS ws (T i) (M i)))) := hR
    have KA : ∀ W, Below wr.heap.size wr W -> ∀ i, W.cell? ⟨w.heap.size, i, none⟩ = (#[.slice (some ⟨b, off, none⟩) ws.length cw, .int .i64 smz, .int .i64 toh, .int .i64 top, .bool cyc, .int .i64 sn, .int .i64 old, .int .i64 cpz, .int .i64 sr, .slice ar rs.length cr] : Array Value)[i]? := fun W hW i => by
     rw [hW.cell (p := ⟨w.heap.size, i, none⟩) (by show w.heap.size < wr.heap.size; omega), hB.cell (p := ⟨w.heap.size, i, none⟩) z1]; exact k1'.out i
    have KR : ∀ W, Below wr.heap.size wr W -> za0 W w1.heap.size n (zcz k T) (zcz k (fun i => kyN ws (T i) (M i))) (zex k (fun i => kyS ws (T i) (M i))) := fun W hW => World.rowIs.of_block HR.out (hW.block _ lKw)
    have HCW : ∀ W, Below wr.heap.size wr W -> b < W.heap.size /\ ∀ i, i < ws.length -> W.cell? ⟨b, off + i, none⟩ = some (.int .u64 (za ws i)) := fun W hW => zh hb HC.out (zc (zc B1 hB) hW)
    have b1' := (Below.refl wr.heap.size wr).drew
    have HB : Hid (Below w.heap.size w wr) := zc B1 hB
    have HB1 : Hid (Below w1.heap.size w1 wr) := hB
    have hne : w.heap.size ≠ w1.heap.size := by omega
    clear hR HC
    go_upto_region 5 with fail
    go_region_held3 (fun W => ∀ i, W.cell? ⟨w.heap.size, i, none⟩ = (#[.slice (some ⟨b, off, none⟩) ws.length cw, .int .i64 smz, .int .i64 toh, .int .i64 top, .bool cyc, .int .i64 sn, .int .i64 old, .int .i64 cpz, .int .i64 sr, .slice ar rs.length cr] : Array Value)[i]?) (first | assumption | exact KA _ b1' | exact KA _ (by assumption) | exact zwv hne (by assumption) _ _ _) (first | (go_at_call 202; refine (zpg _ _ Q k _ HX.out rfl (by omega)).mono ?_; rintro e wo ⟨rfl, rfl⟩) | (go_at_call 122; refine (zgg _ _ _ _ _ _ _ _ _ _ _ _ _ _ _ (Q + 1 + 4 * k) _ rfl (zcq (HCW _ b1').1 (HCW _ b1').2) hn hw hP1).mono ?_; rw [hT, hM]; rintro e wo ⟨rfl, hb⟩; have hBo := zc b1' hb; clear hb) | (go_at_call 201; refine (zvu _ _ _ _ _ _ _ _ _ _ _ _ _ _ _ _ _ _ (HCW _ hBo).1 (HCW _ hBo).2 hn hw hky).mono ?_; rintro e wt ⟨rfl, hb⟩; have hBt := zc hBo hb; have kt := KR _ hBt; have g0 := kt.cell (i := k * 3) (by omega); have g1 := kt.cell (i := k * 3 + 1) (by omega); have g2 := kt.cell (i := k * 3 + 2) (by omega); have gf := kt.frozen; rw [znv] at g0; rw [znw] at g1; rw [znx] at g2; clear hb))
    all_goals
     go_wp2
     have hd := zc HB.out hBt
     have hS : ∀ (o : Nat) (W : World) (v : Value), Below w1.heap.size w1 W -> Below w1.heap.size w1 (W.setCell ⟨w1.heap.size, o, none⟩ v) := fun o W v h => h.setCell (p := ⟨w1.heap.size, o, none⟩) (Nat.le_refl _) v
     have hd1 := hS (k * 3 + 2) _ (.string (kyS ws (T k) (M k))) (hS (k * 3 + 1) _ (.int .i64 (kyN ws (T k) (M k))) (hS (k * 3) _ (.int .i64 (T k)) (HB1.out.trans (Below.mono hBt (by omega)))))
     have hks := zty (T := T) (N := fun i => kyN ws (T i) (M i)) (X := fun i => kyS ws (T i) (M i)) kt
     first
      | (refine ⟨⟨k + 1, hlt, by go_num, hks, hd1⟩, by simp [intOf]; omega⟩)
      | (go_roundw
         case rel => exact ⟨k + 1, hlt, by go_num, hks, hd1⟩
         case measure => simp [intOf]; omega)
  · obtain rfl : k = n := by omega
    go_wp2
    go_ret
    exact ⟨_, rfl, by omega, ztz hR, zc B1 hB⟩
theorem zt1 (b off cw : Nat) (ws : List Int) (smz toh top : Int) (cyc : Bool) (sn old cpz sr : Int) (ar : Option Addr) (cr : Nat) (rs : List (Int × Int)) (x : Int) (Q n : Nat) (w : World) (hx : x = Q) (hq0 : 0 < Q) (hb : b < w.heap.size) (hc : ∀ i, i < ws.length -> w.cell? ⟨b, off + i, none⟩ = some (.int .u64 (za ws i))) (hn : ws.length <= 1048576) (hw : zg ws) (hcap : (rdS (za ws Q)).toNat / 4 = n) (hs0 : 0 <= rdS (za ws Q)) (hn1 : n <= 64) (hK : zfz ws Q n) :
 Calls Tryz.prog 172 #[(.agg #[.slice (some ⟨b, off, none⟩) ws.length cw, .int .i64 smz, .int .i64 toh, .int .i64 top, .bool cyc, .int .i64 sn, .int .i64 old, .int .i64 cpz, .int .i64 sr, .slice ar rs.length cr]), .int .i64 x] w fun e w' => ∃ K, e = .returned (.slice (some ⟨K, 0, none⟩) n n) /\ w.heap.size <= K /\ za0 w' K n (kT ws Q) (fun i => kyN ws (kT ws Q i) (kN ws Q i)) (fun i => kyS ws (kT ws Q i) (kN ws Q i)) /\ Below w.heap.size w w' :=
 zt0 b off cw ws smz toh top cyc sn old cpz sr ar cr rs x Q n (kT ws Q) (kN ws Q) w hx hq0 hb hc hn hw hcap hs0 hn1 hK.1 (fun _ => ⟨rfl, rfl⟩) hK.2
theorem zt2 (b off cw : Nat) (ws : List Int) (smz toh top : Int) (cyc : Bool) (sn old cpz sr : Int) (ar : Option Addr) (cr : Nat) (rs : List (Int × Int)) (T N : Nat -> Int) (X : Nat -> ByteArray) (w : World) :
 Calls Tryz.prog 172 #[(.agg #[.slice (some ⟨b, off, none⟩) ws.length cw, .int .i64 smz, .int .i64 toh, .int .i64 top, .bool cyc, .int .i64 sn, .int .i64 old, .int .i64 cpz, .int .i64 sr, .slice ar rs.length cr]), .int .i64 0] w fun e w' => ∃ K, e = .returned (.slice (some ⟨K, 0, none⟩) 0 0) /\ w.heap.size <= K /\ za0 w' K 0 T N X /\ Below w.heap.size w w' := by
 have hmk := znu (0 : Int) (by omega) (by omega)
 go_enter Tryz.func172, Tryz.ntmps172
 go_wp2_with (go_at_call 200; refine (zl0 _ _ _ _ _ _ _ _ _ _ _ _ _ _ _ _).mono ?_; rintro e w1 ⟨rfl, b1⟩; have B1 := zd b1; clear b1)
 go_loopw [13] (fun u15 wr => u15 = .int .i64 0 /\ za0 wr w1.heap.size 0 T N X /\ Below w1.heap.size w1 wr) (fun u15 _ => 0)
 case atStart => exact ⟨rfl, World.rowIs.congr (zlg w1 0 T N X) (fun j hj => by omega), (Below.refl _ _).alloc (Nat.le_refl _) _⟩
 case round =>
  obtain ⟨rfl, hR, hB⟩ := hrel
  go_wp2
  go_ret
  exact ⟨_, rfl, B1.size, hR, zc B1 hB⟩
def zd0 (t n : Int) (x : ByteArray) (t' n' : Int) (x' : ByteArray) : Bool := t == t' && (n == n' && x.toList == x'.toList)
theorem zwk (t n : Int) (x : ByteArray) (t' n' : Int) (x' : ByteArray) (w : World) : (binOp .eql 229 (.agg #[.int .i64 t, .int .i64 n, .string x]) (.agg #[.int .i64 t', .int .i64 n', .string x'])).run Tryz.prog w = .ok (.bool (zd0 t n x t' n' x')) w := by
 have u3 := Tryz.underlying3
 have us := Tryz.underlying9
 have a3 := Tryz.isAgg3
 have z3 := Tryz.sizeOf3
 have a9 := Tryz.isAgg9
 have z9 := Tryz.sizeOf9
 have hS : Tryz.prog.underlying 229 = some (.struct (Tryz.prog.fieldsOf 229)) := by kernel_rfl
 have hp : Tryz.prog.stoodInHeld 229 = false := by kernel_rfl
 rw [run_eql_struct, show (10000 : Nat) = 9999 + 1 from rfl, run_equalIn_agg w 9999 229 _ _ hS hp]
 simp only [Program.fieldsOf, Tryz.underlying229]
 go_simp
 unfold zd0
 by_cases h1 : t = t' <;> by_cases h2 : n = n' <;> simp [h1, h2]
 split <;> simp [*]
theorem zx3 (t n : Int) (x : ByteArray) (t' n' : Int) (x' : ByteArray) (w : World) : (binOp .neq 229 (.agg #[.int .i64 t, .int .i64 n, .string x]) (.agg #[.int .i64 t', .int .i64 n', .string x'])).run Tryz.prog w = .ok (.bool (!zd0 t n x t' n' x')) w := by
 have h := zwk t n x t' n' x' w
 rw [run_eql_struct] at h
 rw [run_neq_struct]
 generalize (Op.equalIn 10000 229 (.agg #[.int .i64 t, .int .i64 n, .string x]) (.agg #[.int .i64 t', .int .i64 n', .string x'])).run Tryz.prog w = r at h
 cases r with
 | ok b w1 =>
   simp only [Result.andThen_ok, Result.ok.injEq, Value.bool.injEq] at h
   obtain ⟨rfl, rfl⟩ := h
   rfl
 | _ => simp [Result.andThen] at h
def zcr (hit : Nat -> Bool) (n : Nat) : Nat -> Nat -> Int
 | 0, _ => -1
 | f + 1, i => if hit i = true then (i : Int) else zcr hit n f ((i + 1) % n)
def zef (T N : Nat -> Int) (X : Nat -> ByteArray) (t n : Int) (x : ByteArray) (i : Nat) : Bool := zd0 (T i) (N i) (X i) t n x || zd0 (T i) (N i) (X i) 0 0 ⟨#[]⟩
theorem zns {hit : Nat -> Bool} {n f i : Nat} (h : hit i = true) : zcr hit n (f + 1) i = (i : Int) := by simp [zcr, h]
theorem zvt {hit : Nat -> Bool} {n f i : Nat} (h : hit i = false) : zcr hit n (f + 1) i = zcr hit n f ((i + 1) % n) := by simp [zcr, h]
set_option maxHeartbeats 1000000 in
theorem znt (K c n : Nat) (T N : Nat -> Int) (X : Nat -> ByteArray) (t m : Int) (x : ByteArray) (H : Int) (i0 : Nat) (w : World) (hK : za0 w K n T N X) (h0 : 0 < n) (hn : n <= 64) (hH : ∀ W, Calls Tryz.prog 211 #[.agg #[.int .i64 t, .int .i64 m, .string x]] W fun e w' => e = .returned (.int .i64 H) /\ Below W.heap.size W w') (hH0 : 0 <= H) (hi0 : H.toNat % n = i0) :
 Calls Tryz.prog 198 #[.slice (some ⟨K, 0, none⟩) n c, .agg #[.int .i64 t, .int .i64 m, .string x]] w fun e w' => e = .returned (.int .i64 (zcr (zef T N X t m x) n n i0)) /\ Below w.heap.size w w' := by
 have HH : Hid (∀ W, Calls Tryz.prog 211 #[.agg #[.int .i64 t, .int .i64 m, .string x]] W fun e w' => e = .returned (.int .i64 H) /\ Below W.heap.size W w') := hH
 have nz : ((n : Int) == 0) = false := by simp; omega
 have nz' : ¬ ((n : Int) = 0) := by omega
 have n1' : (n : Int) <= 64 := by omega
 have hmod : H.tmod (n : Int) = (i0 : Int) := by rw [Int.tmod_eq_emod_of_nonneg hH0, <- hi0]; exact zhc hH0 n
 have hi0n : i0 < n := by rw [<- hi0]; exact Nat.mod_lt _ h0
 have heq := zx3
 clear hH hi0
 go_enter Tryz.func198, Tryz.ntmps198
 go_wp2_with fail
 go_step3
 go_wp2_with (go_at_call 211; refine (HH.out _).mono ?_; rintro e w1 ⟨rfl, b1⟩; have B1 := zd b1; have k1 := zp b1 (by simp); have z1 := zq b1; clear b1)
 have hK1 : za0 w1 K n T N X := World.rowIs.of_block hK (B1.block _ hK.lt)
 have lK := hK1.lt
 have HK1 : Hid (za0 w1 K n T N X) := hK1
 have k1' : Hid (∀ i, w1.cell? ⟨w.heap.size, i, none⟩ = (#[.int .i64 t, .int .i64 m, .string x] : Array Value)[i]?) := k1
 clear k1 hK hK1
 go_step3
 go_wp2_with fail
 go_loopw [18] (fun u15 wr => ∃ k : Nat, k <= n /\ u15 = .int .i64 k /\ Hid (zcr (zef T N X t m x) n n i0 = zcr (zef T N X t m x) n (n - k) ((i0 + k) % n)) /\ Below w1.heap.size w1 wr) (fun u15 _ => n - (intOf u15).toNat)
 case atStart => exact ⟨0, Nat.zero_le _, rfl, by show _ = _; rw [Nat.sub_zero, Nat.add_zero, Nat.mod_eq_of_lt hi0n], Below.refl _ _⟩
 case round =>
  obtain ⟨k, hk, rfl, HF, hB⟩ := hrel
  by_cases hlt : k < n
  · have hlt' : (k : Int) < (n : Int) := by omega
    obtain ⟨j, hj⟩ : ∃ j, j = (i0 + k) % n := ⟨_, rfl⟩
    have hjn : j < n := by rw [hj]; exact Nat.mod_lt _ h0
    have hat : ((i0 : Int) + (k : Int)).tmod (n : Int) = (j : Int) := by rw [Int.tmod_eq_emod_of_nonneg (by omega), hj, Int.natCast_emod, Int.natCast_add]
    have hnx : (j + 1) % n = (i0 + (k + 1)) % n := by rw [hj, Nat.mod_add_mod]; congr 1
    have hnk : n - k = (n - (k + 1)) + 1 := by omega
    rw [<- hj, hnk] at HF
    have hKr : za0 wr K n T N X := World.rowIs.of_block HK1.out (hB.block _ lK)
    have g0 := hKr.cell (i := j * 3) (by omega)
    have g1 := hKr.cell (i := j * 3 + 1) (by omega)
    have g2 := hKr.cell (i := j * 3 + 2) (by omega)
    rw [znv] at g0
    rw [znw] at g1
    rw [znx] at g2
    have kr : ∀ i, wr.cell? ⟨w.heap.size, i, none⟩ = (#[.int .i64 t, .int .i64 m, .string x] : Array Value)[i]? := ze k1'.out hB z1
    have HBr : Hid (Below w.heap.size w wr) := zc B1 hB
    clear hKr hj
    cases hz1 : zd0 (T j) (N j) (X j) t m x with
    | true =>
      have HV : Hid (zcr (zef T N X t m x) n n i0 = (j : Int)) := by show _ = _; rw [HF.out]; exact zns (by simp [zef, hz1])
      go_wp2
      go_quiet (fail)
      go_wp2
      first | (rw [Exit.noGoto_ret]; go_ret) | go_ret
      exact ⟨zby HV.out.symm, below_drewN HBr.out _⟩
    | false =>
      cases hz2 : zd0 (T j) (N j) (X j) 0 0 ⟨#[]⟩ with
      | true =>
        have HV : Hid (zcr (zef T N X t m x) n n i0 = (j : Int)) := by show _ = _; rw [HF.out]; exact zns (by simp [zef, hz2])
        go_wp2
        go_quiet (fail)
        go_wp2
        first | (rw [Exit.noGoto_ret]; go_ret) | go_ret
        exact ⟨zby HV.out.symm, below_drewN HBr.out _⟩
      | false =>
        have HV : Hid (zcr (zef T N X t m x) n n i0 = zcr (zef T N X t m x) n (n - (k + 1)) ((i0 + (k + 1)) % n)) := by show _ = _; rw [HF.out, <- hnx]; exact zvt (by simp [zef, hz1, hz2])
        go_wp2
        go_quiet (fail)
        go_wp2
        exact ⟨⟨k + 1, hlt, by go_num, HV, below_drewN hB _⟩, by simp [intOf]; omega⟩
  · have hkn : k = n := by omega
    have HV : Hid (zcr (zef T N X t m x) n n i0 = -1) := by show _ = _; rw [HF.out, hkn, Nat.sub_self]; rfl
    have hge : (n : Int) <= (k : Int) := by omega
    clear hkn
    go_wp2
    first | (rw [Exit.noGoto_ret]; go_ret) | go_ret
    exact ⟨zby HV.out.symm, zc B1 hB⟩
theorem zj9 (n : Nat) (w : World) (hn : n <= 64) :
 Calls Tryz.prog 199 #[.int .i64 n] w fun e w' => e = .returned (.int .i64 ((n / 4 * 3 : Nat) : Int)) /\ w' = w := by
 have n1 : (n : Int) <= 64 := by omega
 have hd : (n : Int).tdiv 4 = ((n / 4 : Nat) : Int) := by rw [Int.tdiv_eq_ediv_of_nonneg (by omega)]; omega
 go_enter Tryz.func199, Tryz.ntmps199
 go_wp2
 go_ret
 exact ⟨zby (by go_num), rfl⟩
def zda (T N : Nat -> Int) (X : Nat -> ByteArray) (i : Nat) : Bool := zd0 (T i) (N i) (X i) 0 0 ⟨#[]⟩
def zcc (T N : Nat -> Int) (X : Nat -> ByteArray) : Nat -> Nat
 | 0 => 0
 | k + 1 => if zda T N X k = true then zcc T N X k else zcc T N X k + 1
theorem zp3 (T N : Nat -> Int) (X : Nat -> ByteArray) : ∀ k, zcc T N X k <= k
 | 0 => Nat.le_refl _
 | k + 1 => by have := zp3 T N X k; simp only [zcc]; split <;> omega
def zky (T N : Nat -> Int) (X : Nat -> ByteArray) (H : Nat -> Int) (n i : Nat) : Int := zcr (zef T N X (T i) (N i) (X i)) n n ((H i).toNat % n)
def zgp (T N : Nat -> Int) (X : Nat -> ByteArray) (H : Nat -> Int) (n k : Nat) : Prop := ∀ i, i < k -> zda T N X i = false -> zky T N X H n i = (i : Int)
theorem zlf {T N : Nat -> Int} {X : Nat -> ByteArray} {H : Nat -> Int} {n k : Nat} (h : zgp T N X H n k) (hk : zda T N X k = false -> zky T N X H n k = (k : Int)) : zgp T N X H n (k + 1) := fun i hi hz => by
 by_cases e : i = k
 · subst e; exact hk hz
 · exact h i (by omega) hz
set_option maxHeartbeats 1000000 in
theorem zh1 (K c n : Nat) (T N : Nat -> Int) (X : Nat -> ByteArray) (H : Nat -> Int) (z : Int) (w : World) (hK : za0 w K n T N X) (hn : n <= 64) (hz0 : 0 <= z) (hz1 : z < 18446744073709551616) (hH : ∀ i, i < n -> zda T N X i = false -> ∀ W, Calls Tryz.prog 211 #[.agg #[.int .i64 (T i), .int .i64 (N i), .string (X i)]] W fun e w' => e = .returned (.int .i64 (H i)) /\ Below W.heap.size W w') (hH0 : ∀ i, i < n -> zda T N X i = false -> 0 <= H i) :
 Calls Tryz.prog 171 #[.slice (some ⟨K, 0, none⟩) n c, .int .u64 z] w fun e w' => ∃ q, e = .returned (.bool q) /\ (q = true ↔ zgp T N X H n n /\ z = zcc T N X n /\ zcc T N X n <= n / 4 * 3) /\ Below w.heap.size w w' := by
 have HH : Hid (∀ i, i < n -> zda T N X i = false -> ∀ W, Calls Tryz.prog 211 #[.agg #[.int .i64 (T i), .int .i64 (N i), .string (X i)]] W fun e w' => e = .returned (.int .i64 (H i)) /\ Below W.heap.size W w') := hH
 have HH0 : Hid (∀ i, i < n -> zda T N X i = false -> 0 <= H i) := hH0
 have n1' : (n : Int) <= 64 := by omega
 have heq := zwk
 have HK : Hid (za0 w K n T N X) := hK
 have lK := hK.lt
 clear hH hH0 hK
 go_enter Tryz.func171, Tryz.ntmps171
 go_wp2
 go_loopw [5, 10] (fun u5 u10 wr => ∃ k : Nat, k <= n /\ u10 = .int .i64 k /\ u5 = .int .i64 (zcc T N X k) /\ Hid (zgp T N X H n k) /\ Below w.heap.size w wr) (fun _ u10 _ => n - (intOf u10).toNat)
 case atStart => exact ⟨0, Nat.zero_le _, rfl, rfl, fun i hi => by omega, Below.refl _ _⟩
 case round =>
  obtain ⟨k, hk, rfl, rfl, HE, hB⟩ := hrel
  have hcl := zp3 T N X k
  by_cases hlt : k < n
  · have h0 : 0 < n := by omega
    have hlt' : (k : Int) < (n : Int) := by omega
    have hKr : za0 wr K n T N X := World.rowIs.of_block HK.out (hB.block _ lK)
    have g0 := hKr.cell (i := k * 3) (by omega)
    have g1 := hKr.cell (i := k * 3 + 1) (by omega)
    have g2 := hKr.cell (i := k * 3 + 2) (by omega)
    rw [znv] at g0
    rw [znw] at g1
    rw [znx] at g2
    have HKW : Hid (∀ W, Below wr.heap.size wr W -> za0 W K n T N X) := fun W hW => World.rowIs.of_block hKr (hW.block _ hKr.lt)
    have HBW : Hid (∀ A, Below wr.heap.size wr (wr.alloc (.cells A 229))) := fun A => (Below.refl _ _).alloc (Nat.le_refl _) _
    clear hKr
    cases hz : zd0 (T k) (N k) (X k) 0 0 ⟨#[]⟩ with
    | true =>
      have HN : Hid (zgp T N X H n (k + 1)) := zlf HE.out (fun g => by simp [zda, hz] at g)
      have HC : Hid (zcc T N X (k + 1) = zcc T N X k) := by show _ = _; simp [zcc, zda, hz]
      go_wp2
      exact ⟨⟨k + 1, hlt, by go_num, by rw [HC.out], HN, zc hB (HBW.out _)⟩, by simp [intOf]; omega⟩
    | false =>
      have hzn : zda T N X k = false := hz
      have HC : Hid (zcc T N X (k + 1) = zcc T N X k + 1) := by show _ = _; simp [zcc, zda, hz]
      have HFE := znt K c n T N X (T k) (N k) (X k) (H k) ((H k).toNat % n)
      by_cases he : zky T N X H n k = (k : Int)
      · have HN : Hid (zgp T N X H n (k + 1)) := zlf HE.out (fun _ => he)
        have e1 : (zcr (zef T N X (T k) (N k) (X k)) n n ((H k).toNat % n) != (k : Int)) = false := by simpa [zky] using he
        clear he
        go_wp2_with (go_at_call 198; refine (HFE _ (HKW.out _ (HBW.out _)) h0 hn (HH.out k hlt hzn) (HH0.out k hlt hzn) rfl).mono ?_; clear HFE; rintro e w2 ⟨rfl, b2⟩; have B2 := zc hB (zc (HBW.out _) b2); clear b2)
        exact ⟨⟨k + 1, hlt, by go_num, by rw [HC.out]; go_num, HN, B2⟩, by simp [intOf]; omega⟩
      · have HNO : Hid (¬ zgp T N X H n n) := fun g => he (g k hlt hzn)
        have e1 : (zcr (zef T N X (T k) (N k) (X k)) n n ((H k).toNat % n) != (k : Int)) = true := by simpa [zky] using he
        clear he
        go_wp2_with (go_at_call 198; refine (HFE _ (HKW.out _ (HBW.out _)) h0 hn (HH.out k hlt hzn) (HH0.out k hlt hzn) rfl).mono ?_; clear HFE; rintro e w2 ⟨rfl, b2⟩; have B2 := zc hB (zc (HBW.out _) b2); clear b2)
        go_ret
        exact ⟨false, rfl, ⟨fun g => by simp at g, fun g => absurd g.1 HNO.out⟩, B2⟩
  · have hkn : k = n := by omega
    have HE' : Hid (zgp T N X H n n) := by have := HE.out; rw [hkn] at this; exact this
    have hge : (n : Int) <= (k : Int) := by omega
    have HCN : Hid (zcc T N X k = zcc T N X n) := by show _ = _; rw [hkn]
    clear hkn
    by_cases hzc : z = (zcc T N X k : Int)
    · have e1 : (z == (zcc T N X k : Int)) = true := by simpa using hzc
      have HZ : Hid (z = (zcc T N X k : Int)) := hzc
      clear hzc
      cases hle : decide ((zcc T N X k : Int) <= (n : Int) / 4 * 3) with
      | true =>
        go_wp2_with (go_at_call 199; refine (zj9 n _ hn).mono ?_; rintro e w2 ⟨rfl, rfl⟩)
        go_ret
        have := of_decide_eq_true hle
        exact ⟨true, rfl, ⟨fun _ => ⟨HE'.out, by rw [HZ.out, HCN.out], by have := HCN.out; omega⟩, fun _ => rfl⟩, hB⟩
      | false =>
        go_wp2_with (go_at_call 199; refine (zj9 n _ hn).mono ?_; rintro e w2 ⟨rfl, rfl⟩)
        go_ret
        have := of_decide_eq_false hle
        exact ⟨false, rfl, ⟨fun g => by simp at g, fun g => by have := g.2.2; have := HCN.out; omega⟩, hB⟩
    · have e1 : (z == (zcc T N X k : Int)) = false := by simpa using hzc
      have HZ : Hid (z ≠ (zcc T N X k : Int)) := hzc
      clear hzc
      go_wp2
      go_ret
      exact ⟨false, rfl, ⟨fun g => by simp at g, fun g => absurd g.2.1 (by rw [<- HCN.out]; exact HZ.out)⟩, hB⟩
end Go.Proofs.YtmckcnmlhgpnhaaGreat
