/- - -/
import Derived.Test.YtkjmonhocbobhaaGreatMKeyD
import Derived.Laws.MakeOwn
import Derived.Laws.StructEq
import Derived.WalkMore
namespace Go.Proofs.YtkjmonhocbobhaaGreat
set_option maxRecDepth 20000
open Go.RowKit
set_option linter.unusedSimpArgs false
set_option linter.unusedVariables false
theorem znn (x y : Int) (Q k : Nat) (w : World) (hx : x = Q) (hy : y = k) (h : Q + 1 + 4 * k <= 9000000) :
 Calls Tryz.prog 121 #[.int .i64 x, .int .i64 y] w fun e w' => e = .returned (.int .i64 ((Q + 1 + 4 * k : Nat) : Int)) /\ w = w' := by
 subst hx hy
 have h' : (Q : Int) + 1 + 4 * (k : Int) <= 9000000 := by omega
 go_enter Tryz.func121, Tryz.ntmps121
 go_wp2
 go_ret
 exact ⟨zb0 (by go_num), rfl⟩
theorem zki (b off cw : Nat) (ws : List Int) (sm toh top : Int) (cyc : Bool) (sn old cp sr : Int) (ar : Option Addr) (cr : Nat) (rs : List (Int × Int)) (w : World) : Calls Tryz.prog 119 #[(.agg #[.slice (some ⟨b, off, none⟩) ws.length cw, .int .i64 sm, .int .i64 toh, .int .i64 top, .bool cyc, .int .i64 sn, .int .i64 old, .int .i64 cp, .int .i64 sr, .slice ar rs.length cr]), .int .i64 0] w fun e w' => e = .returned (.int .i64 0) /\ Below w.heap.size w w' := by
 go_enter Tryz.func119, Tryz.ntmps119
 go_wp2
 go_ret
 exact ⟨rfl, zc (Below.refl _ _)⟩
theorem zkj (b off cw : Nat) (ws : List Int) (sm toh top : Int) (cyc : Bool) (sn old cp sr : Int) (ar : Option Addr) (cr : Nat) (rs : List (Int × Int)) (x : Int) (Q n : Nat) (w : World) (hx : x = Q) (h0 : 0 < Q) (hb : b < w.heap.size) (hc : ∀ i, i < ws.length -> w.cell? ⟨b, off + i, none⟩ = some (.int .u64 (za ws i))) (hn : ws.length <= 1048576) (hw : zg ws) (hcap : (rdS (za ws Q)).toNat / 4 = n) (hs0 : 0 <= rdS (za ws Q)) (hn1 : n <= 64) (hQ : Q < ws.length) :
 Calls Tryz.prog 119 #[(.agg #[.slice (some ⟨b, off, none⟩) ws.length cw, .int .i64 sm, .int .i64 toh, .int .i64 top, .bool cyc, .int .i64 sn, .int .i64 old, .int .i64 cp, .int .i64 sr, .slice ar rs.length cr]), .int .i64 x] w fun e w' => e = .returned (.int .i64 n) /\ Below w.heap.size w w' := by
 have e0 : (x == 0) = false := by simp; omega
 have HX : Hid (x = (Q : Int)) := hx
 have hfs := zeq
 have hcap' : (rdS (za ws Q)).tdiv 4 = (n : Int) := by rw [Int.tdiv_eq_ediv_of_nonneg hs0]; omega
 have n1 : (n : Int) <= 64 := by omega
 have HC : Hid (∀ i, i < ws.length -> w.cell? ⟨b, off + i, none⟩ = some (.int .u64 (za ws i))) := hc
 clear hx hcap hc
 go_enter Tryz.func119, Tryz.ntmps119
 go_wp2_with (go_at_call 93; refine (zc0 _ _ _ _ _ _ _ _ _ _ _ _ _ _ _ Q _ HX.out (zco (zcq hb) (fun i hi => zu hb (HC.out i hi))) hn hw hQ).mono ?_; rintro e w1 ⟨rfl, b1⟩; have B1 := zc b1; clear b1)
 go_ret
 exact ⟨rfl, B1⟩
theorem zp1 (b off cw : Nat) (ws : List Int) (sm toh top : Int) (cyc : Bool) (sn old cp sr : Int) (ar : Option Addr) (cr : Nat) (rs : List (Int × Int)) (x : Int) (P : Nat) (w : World) (hx : x = P) (hb : b < w.heap.size) (hc : ∀ i, i < ws.length -> w.cell? ⟨b, off + i, none⟩ = some (.int .u64 (za ws i))) (hn : ws.length <= 1048576) (hw : zg ws) (hP : P + 3 < ws.length) (h0 : rvT ws (P + 2) = 0) :
 Calls Tryz.prog 94 #[(.agg #[.slice (some ⟨b, off, none⟩) ws.length cw, .int .i64 sm, .int .i64 toh, .int .i64 top, .bool cyc, .int .i64 sn, .int .i64 old, .int .i64 cp, .int .i64 sr, .slice ar rs.length cr]), .int .i64 x] w fun e w' => e = .returned (.int .i64 0) /\ Below w.heap.size w w' := by
 have x0 : 0 <= x := by omega
 have x1 : x <= 1048576 := by omega
 have HX2 : Hid (x + 2 = ((P + 2 : Nat) : Int)) := by show x + 2 = ((P + 2 : Nat) : Int); omega
 have HC : Hid (∀ i, i < ws.length -> w.cell? ⟨b, off + i, none⟩ = some (.int .u64 (za ws i))) := hc
 have H0 : Hid (rvT ws (P + 2) = 0) := h0
 clear hx hc h0
 go_enter Tryz.func94, Tryz.ntmps94
 go_wp2_with (go_at_call 115; refine (zgv _ _ _ _ _ _ _ _ _ _ _ _ _ _ _ (P + 2) _ HX2.out (zco (zcq hb) (fun i hi => zu hb (HC.out i hi))) hn hw (by omega)).mono ?_; rw [H0.out]; rintro e w1 ⟨rfl, b1⟩; have B1 := zc b1; clear b1)
 go_ret
 exact ⟨rfl, B1.alloc B1.size _⟩
theorem zp2 (b off cw : Nat) (ws : List Int) (sm toh top : Int) (cyc : Bool) (sn old cp sr : Int) (ar : Option Addr) (cr : Nat) (rs : List (Int × Int)) (x T : Int) (P M Q : Nat) (w : World) (hx : x = P) (hb : b < w.heap.size) (hc : ∀ i, i < ws.length -> w.cell? ⟨b, off + i, none⟩ = some (.int .u64 (za ws i))) (hn : ws.length <= 1048576) (hw : zg ws) (hP : P + 3 < ws.length) (hT : rvT ws (P + 2) = T) (h0 : (T == 0) = false) (hM : rvN ws (P + 2) = M) (hM1 : M < ws.length) (hQ : zh ws M = Q) :
 Calls Tryz.prog 94 #[(.agg #[.slice (some ⟨b, off, none⟩) ws.length cw, .int .i64 sm, .int .i64 toh, .int .i64 top, .bool cyc, .int .i64 sn, .int .i64 old, .int .i64 cp, .int .i64 sr, .slice ar rs.length cr]), .int .i64 x] w fun e w' => e = .returned (.int .i64 Q) /\ Below w.heap.size w w' := by
 have x0 : 0 <= x := by omega
 have x1 : x <= 1048576 := by omega
 have HX2 : Hid (x + 2 = ((P + 2 : Nat) : Int)) := by show x + 2 = ((P + 2 : Nat) : Int); omega
 have HC : Hid (∀ i, i < ws.length -> w.cell? ⟨b, off + i, none⟩ = some (.int .u64 (za ws i))) := hc
 have HT : Hid (rvT ws (P + 2) = T) := hT
 have HM : Hid (rvN ws (P + 2) = M) := hM
 have HQ : Hid (zh ws M = Q) := hQ
 clear hx hc hT hM hQ
 go_enter Tryz.func94, Tryz.ntmps94
 go_wp2_with (go_at_call 115; refine (zgv _ _ _ _ _ _ _ _ _ _ _ _ _ _ _ (P + 2) _ HX2.out (zco (zcq hb) (fun i hi => zu hb (HC.out i hi))) hn hw (by omega)).mono ?_; rw [HT.out, HM.out]; rintro e w1 ⟨rfl, b1⟩; have B1 := zc b1; have k1 := zn b1 (by simp); have z1 := zv b1; clear b1)
 have HB : Hid (Below w.heap.size w (w1.alloc (.cells #[.int .i64 T, .int .i64 (M : Int)] 42))) := B1.alloc B1.size _
 go_wp2_with (go_at_call 116; refine (zgw _ _ _ _ _ _ _ _ _ _ _ _ _ _ _ _ _ M _ rfl (ze hb HC.out HB.out).1 (ze hb HC.out HB.out).2 hn hw hM1).mono ?_; rw [HQ.out]; rintro e w2 ⟨rfl, b2⟩)
 go_ret
 exact ⟨rfl, zb HB.out b2⟩
theorem zuy : (Tryz.prog.info? 161).map (fun i => (i.zero, i.size, i.bytes)) = some (some (.agg #[.int .i64 0, .int .i64 0, .string ⟨#[]⟩]), 3, 32) := by kernel_rfl
theorem zma (l : Int) (h0 : 0 <= l) (h1 : l <= 1048576) (w : World) : (Instr.makeSlice 144 (.int .i64 l) (.int .i64 l)).run Tryz.prog w = .ok (.slice (some ⟨w.heap.size, 0, none⟩) l.toNat l.toNat) (w.alloc (.cells (madeCells #[.int .i64 0, .int .i64 0, .string ⟨#[]⟩] (l.toNat * 3)) 161)) := by
 obtain ⟨i, hi, hzz⟩ := Option.map_eq_some_iff.1 zuy
 simp only [Prod.mk.injEq] at hzz
 obtain ⟨hz, hs, hb⟩ := hzz
 have := run_make (P := Tryz.prog) w 144 161 i _ Tryz.underlying144 hi hz .i64 .i64 l l h0 (Int.le_refl _) (by rw [hb]; omega) (by omega)
 rw [hs] at this
 exact this
def zfa (T N : Nat -> Int) (X : Nat -> ByteArray) (j : Nat) : Value := if j % 3 = 0 then .int .i64 (T (j / 3)) else if j % 3 = 1 then .int .i64 (N (j / 3)) else .string (X (j / 3))
theorem zmb (T N : Nat -> Int) (X : Nat -> ByteArray) (k : Nat) : zfa T N X (k * 3) = .int .i64 (T k) := by
 simp [zfa]
theorem zmc (T N : Nat -> Int) (X : Nat -> ByteArray) (k : Nat) : zfa T N X (k * 3 + 1) = .int .i64 (N k) := by
 have h1 : (k * 3 + 1) % 3 = 1 := by omega
 have h2 : (k * 3 + 1) / 3 = k := by omega
 simp [zfa, h1, h2]
theorem zmd (T N : Nat -> Int) (X : Nat -> ByteArray) (k : Nat) : zfa T N X (k * 3 + 2) = .string (X k) := by
 have h1 : (k * 3 + 2) % 3 = 2 := by omega
 have h2 : (k * 3 + 2) / 3 = k := by omega
 simp [zfa, h1, h2]
def zau (w : World) (K n : Nat) (T N : Nat -> Int) (X : Nat -> ByteArray) : Prop := w.rowIs K 161 (n * 3) (zfa T N X)
def zci (k : Nat) (T : Nat -> Int) (i : Nat) : Int := if i < k then T i else 0
def zea (k : Nat) (X : Nat -> ByteArray) (i : Nat) : ByteArray := if i < k then X i else ⟨#[]⟩
theorem zj0 (w : World) (n : Nat) (T N : Nat -> Int) (X : Nat -> ByteArray) : zau (w.alloc (.cells (madeCells #[.int .i64 0, .int .i64 0, .string ⟨#[]⟩] (n * 3)) 161)) w.heap.size n (zci 0 T) (zci 0 N) (zea 0 X) :=
 ⟨_, Go.Deep.blk_alloc_new _ _, size_madeCells _ _, fun i hi => by
  have h : i % 3 = 0 \/ i % 3 = 1 \/ i % 3 = 2 := by omega
  rcases h with h | h | h <;> simp [madeCells, hi, h, zfa, zci, zea]⟩
theorem zrq {wr : World} {K n k : Nat} {T N : Nat -> Int} {X : Nat -> ByteArray} (hR : zau wr K n (zci k T) (zci k N) (zea k X)) :
 zau (((wr.setCell ⟨K, k * 3, none⟩ (.int .i64 (T k))).setCell ⟨K, k * 3 + 1, none⟩ (.int .i64 (N k))).setCell ⟨K, k * 3 + 2, none⟩ (.string (X k))) K n (zci (k + 1) T) (zci (k + 1) N) (zea (k + 1) X) := by
 refine (((World.rowIs.set hR (k * 3) _).set (k * 3 + 1) _).set (k * 3 + 2) _).congr fun j _ => ?_
 obtain ⟨q, r, hr, rfl⟩ : ∃ q r, r < 3 /\ j = q * 3 + r := ⟨j / 3, j % 3, by omega, by omega⟩
 have hq : (q * 3 + r) / 3 = q := by omega
 have hr0 : (q * 3 + r) % 3 = r := by omega
 by_cases e : q = k
 · subst e
   have h : r = 0 \/ r = 1 \/ r = 2 := by omega
   rcases h with h | h | h <;> subst h <;> simp [zfa, hq, hr0, zci, zea]
 · have e1 : ¬ (q * 3 + r = k * 3 + 2) := by omega
   have e2 : ¬ (q * 3 + r = k * 3 + 1) := by omega
   have e3 : ¬ (q * 3 + r = k * 3) := by omega
   have e4 : (q < k + 1) ↔ (q < k) := by omega
   simp [e1, e2, e3, zfa, hq, hr0, zci, zea, e4]
theorem zrr {wr : World} {K n : Nat} {T N : Nat -> Int} {X : Nat -> ByteArray} (hR : zau wr K n (zci n T) (zci n N) (zea n X)) : zau wr K n T N X :=
 World.rowIs.congr hR fun j hj => by
  have h : j / 3 < n := by omega
  simp [zfa, zci, zea, h]
theorem ztz {W : World} {K c o0 o1 o2 : Nat} {A : Array Value} (hne : c ≠ K) (h : ∀ i, W.cell? ⟨c, i, none⟩ = A[i]?) (u0 u1 u2 : Value) : ∀ i, (((W.setCell ⟨K, o0, none⟩ u0).setCell ⟨K, o1, none⟩ u1).setCell ⟨K, o2, none⟩ u2).cell? ⟨c, i, none⟩ = A[i]? := fun i => by
 rw [World.cell?_setCell_other _ _ _ _ (fun e => hne (congrArg Addr.block e).symm), World.cell?_setCell_other _ _ _ _ (fun e => hne (congrArg Addr.block e).symm), World.cell?_setCell_other _ _ _ _ (fun e => hne (congrArg Addr.block e).symm)]
 exact h i
set_option maxHeartbeats 1000000 in
theorem zrs (b off cw : Nat) (ws : List Int) (sm toh top : Int) (cyc : Bool) (sn old cp sr : Int) (ar : Option Addr) (cr : Nat) (rs : List (Int × Int)) (x : Int) (Q n : Nat) (T M : Nat -> Int) (w : World) (hx : x = Q) (hq0 : 0 < Q) (hb : b < w.heap.size) (hc : ∀ i, i < ws.length -> w.cell? ⟨b, off + i, none⟩ = some (.int .u64 (za ws i))) (hn : ws.length <= 1048576) (hw : zg ws) (hcap : (rdS (za ws Q)).toNat / 4 = n) (hs0 : 0 <= rdS (za ws Q)) (hn1 : n <= 64) (hQ : Q + 4 * n < ws.length) (hTM : ∀ i, rvT ws (Q + 1 + 4 * i) = T i /\ rvN ws (Q + 1 + 4 * i) = M i) (hK : ∀ i, i < n -> zde ws (T i) (M i)) :
 Calls Tryz.prog 96 #[(.agg #[.slice (some ⟨b, off, none⟩) ws.length cw, .int .i64 sm, .int .i64 toh, .int .i64 top, .bool cyc, .int .i64 sn, .int .i64 old, .int .i64 cp, .int .i64 sr, .slice ar rs.length cr]), .int .i64 x] w fun e w' => ∃ K, e = .returned (.slice (some ⟨K, 0, none⟩) n n) /\ w.heap.size <= K /\ zau w' K n T (fun i => kyN ws (T i) (M i)) (fun i => kyS ws (T i) (M i)) /\ Below w.heap.size w w' := by
 have x0 : 0 <= x := by omega
 have x1 : x <= 1048576 := by omega
 have HX : Hid (x = (Q : Int)) := hx
 have HK : Hid (∀ i, i < n -> zde ws (T i) (M i)) := hK
 have HTM : Hid (∀ i, rvT ws (Q + 1 + 4 * i) = T i /\ rvN ws (Q + 1 + 4 * i) = M i) := hTM
 have HCAP : Hid ((rdS (za ws Q)).toNat / 4 = n) := hcap
 have HC : Hid (∀ i, i < ws.length -> w.cell? ⟨b, off + i, none⟩ = some (.int .u64 (za ws i))) := hc
 have hmk := zma (n : Int) (by omega) (by omega)
 rw [Int.toNat_natCast] at hmk
 clear hx hK hcap hc hTM
 go_enter Tryz.func96, Tryz.ntmps96
 go_wp2_with (go_at_call 119; refine (zkj _ _ _ _ _ _ _ _ _ _ _ _ _ _ _ _ Q n _ HX.out hq0 (zcq hb) (fun i hi => zu hb (HC.out i hi)) hn hw HCAP.out hs0 hn1 (by omega)).mono ?_; rintro e w1 ⟨rfl, b1⟩; have B1 := zc b1; have k1 := zn b1 (by simp); have z1 := zv b1; clear b1)
 clear hmk HCAP hs0
 have k1' : Hid (∀ i, w1.cell? ⟨w.heap.size, i, none⟩ = (#[.slice (some ⟨b, off, none⟩) ws.length cw, .int .i64 sm, .int .i64 toh, .int .i64 top, .bool cyc, .int .i64 sn, .int .i64 old, .int .i64 cp, .int .i64 sr, .slice ar rs.length cr] : Array Value)[i]?) := k1
 clear k1
 go_loopw [13] (fun u15 wr => ∃ k : Nat, k <= n /\ u15 = .int .i64 k /\ zau wr w1.heap.size n (zci k T) (zci k (fun i => kyN ws (T i) (M i))) (zea k (fun i => kyS ws (T i) (M i))) /\ Below w1.heap.size w1 wr) (fun u15 _ => n - (intOf u15).toNat)
 case atStart => exact ⟨0, Nat.zero_le _, rfl, zj0 _ _ _ _ _, (Below.refl _ _).alloc (Nat.le_refl _) _⟩
 case round =>
  obtain ⟨k, hk, rfl, hR, hB⟩ := hrel
  by_cases hlt : k < n
  · have hlt' : (k : Int) < (n : Int) := by omega
    have hP1 : Q + 1 + 4 * k + 1 < ws.length := by omega
    have hky := HK.out k hlt
    obtain ⟨hT, hM⟩ := HTM.out k
    have lKw : w1.heap.size < wr.heap.size := hR.lt
    have HR : Hid (zau wr w1.heap.size n (zci k T) (zci k (fun i => kyN ws (T i) (M i))) (zea k (fun i => kyS ws (T i) (M i)))) := hR
    have KA : ∀ W, Below wr.heap.size wr W -> ∀ i, W.cell? ⟨w.heap.size, i, none⟩ = (#[.slice (some ⟨b, off, none⟩) ws.length cw, .int .i64 sm, .int .i64 toh, .int .i64 top, .bool cyc, .int .i64 sn, .int .i64 old, .int .i64 cp, .int .i64 sr, .slice ar rs.length cr] : Array Value)[i]? := fun W hW i => by
     rw [hW.cell (p := ⟨w.heap.size, i, none⟩) (by show w.heap.size < wr.heap.size; omega), hB.cell (p := ⟨w.heap.size, i, none⟩) z1]; exact k1'.out i
    have KR : ∀ W, Below wr.heap.size wr W -> zau W w1.heap.size n (zci k T) (zci k (fun i => kyN ws (T i) (M i))) (zea k (fun i => kyS ws (T i) (M i))) := fun W hW => World.rowIs.of_block HR.out (hW.block _ lKw)
    have HCW : ∀ W, Below wr.heap.size wr W -> b < W.heap.size /\ ∀ i, i < ws.length -> W.cell? ⟨b, off + i, none⟩ = some (.int .u64 (za ws i)) := fun W hW => ze hb HC.out (zb (zb B1 hB) hW)
    have b1' := (Below.refl wr.heap.size wr).drew
    have HB : Hid (Below w.heap.size w wr) := zb B1 hB
    have HB1 : Hid (Below w1.heap.size w1 wr) := hB
    have hne : w.heap.size ≠ w1.heap.size := by omega
    clear hR HC
    go_upto_region 5 with fail
    go_region_held3 (fun W => ∀ i, W.cell? ⟨w.heap.size, i, none⟩ = (#[.slice (some ⟨b, off, none⟩) ws.length cw, .int .i64 sm, .int .i64 toh, .int .i64 top, .bool cyc, .int .i64 sn, .int .i64 old, .int .i64 cp, .int .i64 sr, .slice ar rs.length cr] : Array Value)[i]?) (first | assumption | exact KA _ b1' | exact KA _ (by assumption) | exact ztz hne (by assumption) _ _ _) (first | (go_at_call 121; refine (znn _ _ Q k _ HX.out rfl (by omega)).mono ?_; rintro e wo ⟨rfl, rfl⟩) | (go_at_call 115; refine (zgv _ _ _ _ _ _ _ _ _ _ _ _ _ _ _ (Q + 1 + 4 * k) _ rfl (zco (HCW _ b1').1 (HCW _ b1').2) hn hw hP1).mono ?_; rw [hT, hM]; rintro e wo ⟨rfl, hb⟩; have hBo := zb b1' hb; clear hb) | (go_at_call 120; refine (ztb _ _ _ _ _ _ _ _ _ _ _ _ _ _ _ _ _ _ (HCW _ hBo).1 (HCW _ hBo).2 hn hw hky).mono ?_; rintro e wt ⟨rfl, hb⟩; have hBt := zb hBo hb; have kt := KR _ hBt; have g0 := kt.cell (i := k * 3) (by omega); have g1 := kt.cell (i := k * 3 + 1) (by omega); have g2 := kt.cell (i := k * 3 + 2) (by omega); have gf := kt.frozen; rw [zmb] at g0; rw [zmc] at g1; rw [zmd] at g2; clear hb))
    all_goals
     go_wp2
     have hd := zb HB.out hBt
     have hS : ∀ (o : Nat) (W : World) (v : Value), Below w1.heap.size w1 W -> Below w1.heap.size w1 (W.setCell ⟨w1.heap.size, o, none⟩ v) := fun o W v h => h.setCell (p := ⟨w1.heap.size, o, none⟩) (Nat.le_refl _) v
     have hd1 := hS (k * 3 + 2) _ (.string (kyS ws (T k) (M k))) (hS (k * 3 + 1) _ (.int .i64 (kyN ws (T k) (M k))) (hS (k * 3) _ (.int .i64 (T k)) (HB1.out.trans (Below.mono hBt (by omega)))))
     have hks := zrq (T := T) (N := fun i => kyN ws (T i) (M i)) (X := fun i => kyS ws (T i) (M i)) kt
     first
      | (refine ⟨⟨k + 1, hlt, by go_num, hks, hd1⟩, by simp [intOf]; omega⟩)
      | (go_roundw
         case rel => exact ⟨k + 1, hlt, by go_num, hks, hd1⟩
         case measure => simp [intOf]; omega)
  · obtain rfl : k = n := by omega
    go_wp2
    go_ret
    exact ⟨_, rfl, by omega, zrr hR, zb B1 hB⟩
theorem zrt (b off cw : Nat) (ws : List Int) (sm toh top : Int) (cyc : Bool) (sn old cp sr : Int) (ar : Option Addr) (cr : Nat) (rs : List (Int × Int)) (x : Int) (Q n : Nat) (w : World) (hx : x = Q) (hq0 : 0 < Q) (hb : b < w.heap.size) (hc : ∀ i, i < ws.length -> w.cell? ⟨b, off + i, none⟩ = some (.int .u64 (za ws i))) (hn : ws.length <= 1048576) (hw : zg ws) (hcap : (rdS (za ws Q)).toNat / 4 = n) (hs0 : 0 <= rdS (za ws Q)) (hn1 : n <= 64) (hK : ze4 ws Q n) :
 Calls Tryz.prog 96 #[(.agg #[.slice (some ⟨b, off, none⟩) ws.length cw, .int .i64 sm, .int .i64 toh, .int .i64 top, .bool cyc, .int .i64 sn, .int .i64 old, .int .i64 cp, .int .i64 sr, .slice ar rs.length cr]), .int .i64 x] w fun e w' => ∃ K, e = .returned (.slice (some ⟨K, 0, none⟩) n n) /\ w.heap.size <= K /\ zau w' K n (kT ws Q) (fun i => kyN ws (kT ws Q i) (kN ws Q i)) (fun i => kyS ws (kT ws Q i) (kN ws Q i)) /\ Below w.heap.size w w' :=
 zrs b off cw ws sm toh top cyc sn old cp sr ar cr rs x Q n (kT ws Q) (kN ws Q) w hx hq0 hb hc hn hw hcap hs0 hn1 hK.1 (fun _ => ⟨rfl, rfl⟩) hK.2
theorem zru (b off cw : Nat) (ws : List Int) (sm toh top : Int) (cyc : Bool) (sn old cp sr : Int) (ar : Option Addr) (cr : Nat) (rs : List (Int × Int)) (T N : Nat -> Int) (X : Nat -> ByteArray) (w : World) :
 Calls Tryz.prog 96 #[(.agg #[.slice (some ⟨b, off, none⟩) ws.length cw, .int .i64 sm, .int .i64 toh, .int .i64 top, .bool cyc, .int .i64 sn, .int .i64 old, .int .i64 cp, .int .i64 sr, .slice ar rs.length cr]), .int .i64 0] w fun e w' => ∃ K, e = .returned (.slice (some ⟨K, 0, none⟩) 0 0) /\ w.heap.size <= K /\ zau w' K 0 T N X /\ Below w.heap.size w w' := by
 have hmk := zma (0 : Int) (by omega) (by omega)
 go_enter Tryz.func96, Tryz.ntmps96
 go_wp2_with (go_at_call 119; refine (zki _ _ _ _ _ _ _ _ _ _ _ _ _ _ _ _).mono ?_; rintro e w1 ⟨rfl, b1⟩; have B1 := zc b1; clear b1)
 go_loopw [13] (fun u15 wr => u15 = .int .i64 0 /\ zau wr w1.heap.size 0 T N X /\ Below w1.heap.size w1 wr) (fun u15 _ => 0)
 case atStart => exact ⟨rfl, World.rowIs.congr (zj0 w1 0 T N X) (fun j hj => by omega), (Below.refl _ _).alloc (Nat.le_refl _) _⟩
 case round =>
  obtain ⟨rfl, hR, hB⟩ := hrel
  go_wp2
  go_ret
  exact ⟨_, rfl, B1.size, hR, zb B1 hB⟩
def zdd (t n : Int) (x : ByteArray) (t' n' : Int) (x' : ByteArray) : Bool := t == t' && (n == n' && x.toList == x'.toList)
theorem ztr (t n : Int) (x : ByteArray) (t' n' : Int) (x' : ByteArray) (w : World) : (binOp .eql 161 (.agg #[.int .i64 t, .int .i64 n, .string x]) (.agg #[.int .i64 t', .int .i64 n', .string x'])).run Tryz.prog w = .ok (.bool (zdd t n x t' n' x')) w := by
 have u3 := Tryz.underlying3
 have us := Tryz.underlying9
 have a3 := Tryz.isAgg3
 have z3 := Tryz.sizeOf3
 have a9 := Tryz.isAgg9
 have z9 := Tryz.sizeOf9
 have hS : Tryz.prog.underlying 161 = some (.struct (Tryz.prog.fieldsOf 161)) := by kernel_rfl
 have hp : Tryz.prog.stoodInHeld 161 = false := by kernel_rfl
 rw [run_eql_struct, show (10000 : Nat) = 9999 + 1 from rfl, run_equalIn_agg w 9999 161 _ _ hS hp]
 simp only [Program.fieldsOf, Tryz.underlying161]
 go_simp
 unfold zdd
 by_cases h1 : t = t' <;> by_cases h2 : n = n' <;> simp [h1, h2]
 split <;> simp [*]
theorem zux (t n : Int) (x : ByteArray) (t' n' : Int) (x' : ByteArray) (w : World) : (binOp .neq 161 (.agg #[.int .i64 t, .int .i64 n, .string x]) (.agg #[.int .i64 t', .int .i64 n', .string x'])).run Tryz.prog w = .ok (.bool (!zdd t n x t' n' x')) w := by
 have h := ztr t n x t' n' x' w
 rw [run_eql_struct] at h
 rw [run_neq_struct]
 generalize (Op.equalIn 10000 161 (.agg #[.int .i64 t, .int .i64 n, .string x]) (.agg #[.int .i64 t', .int .i64 n', .string x'])).run Tryz.prog w = r at h
 cases r with
 | ok b w1 =>
   simp only [Result.andThen_ok, Result.ok.injEq, Value.bool.injEq] at h
   obtain ⟨rfl, rfl⟩ := h
   rfl
 | _ => simp [Result.andThen] at h
def zb8 (hit : Nat -> Bool) (n : Nat) : Nat -> Nat -> Int
 | 0, _ => -1
 | f + 1, i => if hit i = true then (i : Int) else zb8 hit n f ((i + 1) % n)
def zdr (T N : Nat -> Int) (X : Nat -> ByteArray) (t n : Int) (x : ByteArray) (i : Nat) : Bool := zdd (T i) (N i) (X i) t n x || zdd (T i) (N i) (X i) 0 0 ⟨#[]⟩
theorem zl8 {hit : Nat -> Bool} {n f i : Nat} (h : hit i = true) : zb8 hit n (f + 1) i = (i : Int) := by simp [zb8, h]
theorem zta {hit : Nat -> Bool} {n f i : Nat} (h : hit i = false) : zb8 hit n (f + 1) i = zb8 hit n f ((i + 1) % n) := by simp [zb8, h]
set_option maxHeartbeats 1000000 in
theorem zl9 (K c n : Nat) (T N : Nat -> Int) (X : Nat -> ByteArray) (t m : Int) (x : ByteArray) (H : Int) (i0 : Nat) (w : World) (hK : zau w K n T N X) (h0 : 0 < n) (hn : n <= 64) (hH : ∀ W, Calls Tryz.prog 129 #[.agg #[.int .i64 t, .int .i64 m, .string x]] W fun e w' => e = .returned (.int .i64 H) /\ Below W.heap.size W w') (hH0 : 0 <= H) (hi0 : H.toNat % n = i0) :
 Calls Tryz.prog 117 #[.slice (some ⟨K, 0, none⟩) n c, .agg #[.int .i64 t, .int .i64 m, .string x]] w fun e w' => e = .returned (.int .i64 (zb8 (zdr T N X t m x) n n i0)) /\ Below w.heap.size w w' := by
 have HH : Hid (∀ W, Calls Tryz.prog 129 #[.agg #[.int .i64 t, .int .i64 m, .string x]] W fun e w' => e = .returned (.int .i64 H) /\ Below W.heap.size W w') := hH
 have nz : ((n : Int) == 0) = false := by simp; omega
 have nz' : ¬ ((n : Int) = 0) := by omega
 have n1' : (n : Int) <= 64 := by omega
 have hmod : H.tmod (n : Int) = (i0 : Int) := by rw [Int.tmod_eq_emod_of_nonneg hH0, <- hi0]; exact zf9 hH0 n
 have hi0n : i0 < n := by rw [<- hi0]; exact Nat.mod_lt _ h0
 have heq := zux
 clear hH hi0
 go_enter Tryz.func117, Tryz.ntmps117
 go_wp2_with fail
 go_step3
 go_wp2_with (go_at_call 129; refine (HH.out _).mono ?_; rintro e w1 ⟨rfl, b1⟩; have B1 := zc b1; have k1 := zn b1 (by simp); have z1 := zv b1; clear b1)
 have hK1 : zau w1 K n T N X := World.rowIs.of_block hK (B1.block _ hK.lt)
 have lK := hK1.lt
 have HK1 : Hid (zau w1 K n T N X) := hK1
 have k1' : Hid (∀ i, w1.cell? ⟨w.heap.size, i, none⟩ = (#[.int .i64 t, .int .i64 m, .string x] : Array Value)[i]?) := k1
 clear k1 hK hK1
 go_step3
 go_wp2_with fail
 go_loopw [18] (fun u15 wr => ∃ k : Nat, k <= n /\ u15 = .int .i64 k /\ Hid (zb8 (zdr T N X t m x) n n i0 = zb8 (zdr T N X t m x) n (n - k) ((i0 + k) % n)) /\ Below w1.heap.size w1 wr) (fun u15 _ => n - (intOf u15).toNat)
 case atStart => exact ⟨0, Nat.zero_le _, rfl, by show _ = _; rw [Nat.sub_zero, Nat.add_zero, Nat.mod_eq_of_lt hi0n], Below.refl _ _⟩
 case round =>
  obtain ⟨k, hk, rfl, HF, hB⟩ := hrel
  by_cases hlt : k < n
  · have hlt' : (k : Int) < (n : Int) := by omega
    obtain ⟨j, hj⟩ : ∃ j, j = (i0 + k) % n := ⟨_, rfl⟩
    have hjn : j < n := by rw [hj]; exact Nat.mod_lt _ h0
    have hat : ((i0 : Int) + (k : Int)).tmod (n : Int) = (j : Int) := by rw [Int.tmod_eq_emod_of_nonneg (by omega), hj, Int.natCast_emod, Int.natCast_add]
    have hnx : (j + 1) % n = (i0 + (k + 1)) % n := by rw [hj, Nat.mod_add_mod]; congr 1
    have hnk : n - k = (n - (k + 1)) + 1 := by omega
    rw [<- hj, hnk] at HF
    have hKr : zau wr K n T N X := World.rowIs.of_block HK1.out (hB.block _ lK)
    have g0 := hKr.cell (i := j * 3) (by omega)
    have g1 := hKr.cell (i := j * 3 + 1) (by omega)
    have g2 := hKr.cell (i := j * 3 + 2) (by omega)
    rw [zmb] at g0
    rw [zmc] at g1
    rw [zmd] at g2
    have kr : ∀ i, wr.cell? ⟨w.heap.size, i, none⟩ = (#[.int .i64 t, .int .i64 m, .string x] : Array Value)[i]? := zd k1'.out hB z1
    have HBr : Hid (Below w.heap.size w wr) := zb B1 hB
    clear hKr hj
    cases hz1 : zdd (T j) (N j) (X j) t m x with
    | true =>
      have HV : Hid (zb8 (zdr T N X t m x) n n i0 = (j : Int)) := by show _ = _; rw [HF.out]; exact zl8 (by simp [zdr, hz1])
      go_wp2
      go_quiet (fail)
      go_wp2
      first | (rw [Exit.noGoto_ret]; go_ret) | go_ret
      exact ⟨zb0 HV.out.symm, below_drewN HBr.out _⟩
    | false =>
      cases hz2 : zdd (T j) (N j) (X j) 0 0 ⟨#[]⟩ with
      | true =>
        have HV : Hid (zb8 (zdr T N X t m x) n n i0 = (j : Int)) := by show _ = _; rw [HF.out]; exact zl8 (by simp [zdr, hz2])
        go_wp2
        go_quiet (fail)
        go_wp2
        first | (rw [Exit.noGoto_ret]; go_ret) | go_ret
        exact ⟨zb0 HV.out.symm, below_drewN HBr.out _⟩
      | false =>
        have HV : Hid (zb8 (zdr T N X t m x) n n i0 = zb8 (zdr T N X t m x) n (n - (k + 1)) ((i0 + (k + 1)) % n)) := by show _ = _; rw [HF.out, <- hnx]; exact zta (by simp [zdr, hz1, hz2])
        go_wp2
        go_quiet (fail)
        go_wp2
        exact ⟨⟨k + 1, hlt, by go_num, HV, below_drewN hB _⟩, by simp [intOf]; omega⟩
  · have hkn : k = n := by omega
    have HV : Hid (zb8 (zdr T N X t m x) n n i0 = -1) := by show _ = _; rw [HF.out, hkn, Nat.sub_self]; rfl
    have hge : (n : Int) <= (k : Int) := by omega
    clear hkn
    go_wp2
    first | (rw [Exit.noGoto_ret]; go_ret) | go_ret
    exact ⟨zb0 HV.out.symm, zb B1 hB⟩
theorem zix (n : Nat) (w : World) (hn : n <= 64) :
 Calls Tryz.prog 118 #[.int .i64 n] w fun e w' => e = .returned (.int .i64 ((n / 4 * 3 : Nat) : Int)) /\ w' = w := by
 have n1 : (n : Int) <= 64 := by omega
 have hd : (n : Int).tdiv 4 = ((n / 4 : Nat) : Int) := by rw [Int.tdiv_eq_ediv_of_nonneg (by omega)]; omega
 go_enter Tryz.func118, Tryz.ntmps118
 go_wp2
 go_ret
 exact ⟨zb0 (by go_num), rfl⟩
def zct (T N : Nat -> Int) (X : Nat -> ByteArray) (i : Nat) : Bool := zdd (T i) (N i) (X i) 0 0 ⟨#[]⟩
def zbv (T N : Nat -> Int) (X : Nat -> ByteArray) : Nat -> Nat
 | 0 => 0
 | k + 1 => if zct T N X k = true then zbv T N X k else zbv T N X k + 1
theorem zn9 (T N : Nat -> Int) (X : Nat -> ByteArray) : ∀ k, zbv T N X k <= k
 | 0 => Nat.le_refl _
 | k + 1 => by have := zn9 T N X k; simp only [zbv]; split <;> omega
def zjj (T N : Nat -> Int) (X : Nat -> ByteArray) (H : Nat -> Int) (n i : Nat) : Int := zb8 (zdr T N X (T i) (N i) (X i)) n n ((H i).toNat % n)
def zfo (T N : Nat -> Int) (X : Nat -> ByteArray) (H : Nat -> Int) (n k : Nat) : Prop := ∀ i, i < k -> zct T N X i = false -> zjj T N X H n i = (i : Int)
theorem zjz {T N : Nat -> Int} {X : Nat -> ByteArray} {H : Nat -> Int} {n k : Nat} (h : zfo T N X H n k) (hk : zct T N X k = false -> zjj T N X H n k = (k : Int)) : zfo T N X H n (k + 1) := fun i hi hz => by
 by_cases e : i = k
 · subst e; exact hk hz
 · exact h i (by omega) hz
set_option maxHeartbeats 1000000 in
theorem zgz (K c n : Nat) (T N : Nat -> Int) (X : Nat -> ByteArray) (H : Nat -> Int) (z : Int) (w : World) (hK : zau w K n T N X) (hn : n <= 64) (hz0 : 0 <= z) (hz1 : z < 18446744073709551616) (hH : ∀ i, i < n -> zct T N X i = false -> ∀ W, Calls Tryz.prog 129 #[.agg #[.int .i64 (T i), .int .i64 (N i), .string (X i)]] W fun e w' => e = .returned (.int .i64 (H i)) /\ Below W.heap.size W w') (hH0 : ∀ i, i < n -> zct T N X i = false -> 0 <= H i) :
 Calls Tryz.prog 95 #[.slice (some ⟨K, 0, none⟩) n c, .int .u64 z] w fun e w' => ∃ q, e = .returned (.bool q) /\ (q = true ↔ zfo T N X H n n /\ z = zbv T N X n /\ zbv T N X n <= n / 4 * 3) /\ Below w.heap.size w w' := by
 have HH : Hid (∀ i, i < n -> zct T N X i = false -> ∀ W, Calls Tryz.prog 129 #[.agg #[.int .i64 (T i), .int .i64 (N i), .string (X i)]] W fun e w' => e = .returned (.int .i64 (H i)) /\ Below W.heap.size W w') := hH
 have HH0 : Hid (∀ i, i < n -> zct T N X i = false -> 0 <= H i) := hH0
 have n1' : (n : Int) <= 64 := by omega
 have heq := ztr
 have HK : Hid (zau w K n T N X) := hK
 have lK := hK.lt
 clear hH hH0 hK
 go_enter Tryz.func95, Tryz.ntmps95
 go_wp2
 go_loopw [5, 10] (fun u5 u10 wr => ∃ k : Nat, k <= n /\ u10 = .int .i64 k /\ u5 = .int .i64 (zbv T N X k) /\ Hid (zfo T N X H n k) /\ Below w.heap.size w wr) (fun _ u10 _ => n - (intOf u10).toNat)
 case atStart => exact ⟨0, Nat.zero_le _, rfl, rfl, fun i hi => by omega, Below.refl _ _⟩
 case round =>
  obtain ⟨k, hk, rfl, rfl, HE, hB⟩ := hrel
  have hcl := zn9 T N X k
  by_cases hlt : k < n
  · have h0 : 0 < n := by omega
    have hlt' : (k : Int) < (n : Int) := by omega
    have hKr : zau wr K n T N X := World.rowIs.of_block HK.out (hB.block _ lK)
    have g0 := hKr.cell (i := k * 3) (by omega)
    have g1 := hKr.cell (i := k * 3 + 1) (by omega)
    have g2 := hKr.cell (i := k * 3 + 2) (by omega)
    rw [zmb] at g0
    rw [zmc] at g1
    rw [zmd] at g2
    have HKW : Hid (∀ W, Below wr.heap.size wr W -> zau W K n T N X) := fun W hW => World.rowIs.of_block hKr (hW.block _ hKr.lt)
    have HBW : Hid (∀ A, Below wr.heap.size wr (wr.alloc (.cells A 161))) := fun A => (Below.refl _ _).alloc (Nat.le_refl _) _
    clear hKr
    cases hz : zdd (T k) (N k) (X k) 0 0 ⟨#[]⟩ with
    | true =>
      have HN : Hid (zfo T N X H n (k + 1)) := zjz HE.out (fun g => by simp [zct, hz] at g)
      have HC : Hid (zbv T N X (k + 1) = zbv T N X k) := by show _ = _; simp [zbv, zct, hz]
      go_wp2
      exact ⟨⟨k + 1, hlt, by go_num, by rw [HC.out], HN, zb hB (HBW.out _)⟩, by simp [intOf]; omega⟩
    | false =>
      have hzn : zct T N X k = false := hz
      have HC : Hid (zbv T N X (k + 1) = zbv T N X k + 1) := by show _ = _; simp [zbv, zct, hz]
      have HFE := zl9 K c n T N X (T k) (N k) (X k) (H k) ((H k).toNat % n)
      by_cases he : zjj T N X H n k = (k : Int)
      · have HN : Hid (zfo T N X H n (k + 1)) := zjz HE.out (fun _ => he)
        have e1 : (zb8 (zdr T N X (T k) (N k) (X k)) n n ((H k).toNat % n) != (k : Int)) = false := by simpa [zjj] using he
        clear he
        go_wp2_with (go_at_call 117; refine (HFE _ (HKW.out _ (HBW.out _)) h0 hn (HH.out k hlt hzn) (HH0.out k hlt hzn) rfl).mono ?_; clear HFE; rintro e w2 ⟨rfl, b2⟩; have B2 := zb hB (zb (HBW.out _) b2); clear b2)
        exact ⟨⟨k + 1, hlt, by go_num, by rw [HC.out]; go_num, HN, B2⟩, by simp [intOf]; omega⟩
      · have HNO : Hid (¬ zfo T N X H n n) := fun g => he (g k hlt hzn)
        have e1 : (zb8 (zdr T N X (T k) (N k) (X k)) n n ((H k).toNat % n) != (k : Int)) = true := by simpa [zjj] using he
        clear he
        go_wp2_with (go_at_call 117; refine (HFE _ (HKW.out _ (HBW.out _)) h0 hn (HH.out k hlt hzn) (HH0.out k hlt hzn) rfl).mono ?_; clear HFE; rintro e w2 ⟨rfl, b2⟩; have B2 := zb hB (zb (HBW.out _) b2); clear b2)
        go_ret
        exact ⟨false, rfl, ⟨fun g => by simp at g, fun g => absurd g.1 HNO.out⟩, B2⟩
  · have hkn : k = n := by omega
    have HE' : Hid (zfo T N X H n n) := by have := HE.out; rw [hkn] at this; exact this
    have hge : (n : Int) <= (k : Int) := by omega
    have HCN : Hid (zbv T N X k = zbv T N X n) := by show _ = _; rw [hkn]
    clear hkn
    by_cases hzc : z = (zbv T N X k : Int)
    · have e1 : (z == (zbv T N X k : Int)) = true := by simpa using hzc
      have HZ : Hid (z = (zbv T N X k : Int)) := hzc
      clear hzc
      cases hle : decide ((zbv T N X k : Int) <= (n : Int) / 4 * 3) with
      | true =>
        go_wp2_with (go_at_call 118; refine (zix n _ hn).mono ?_; rintro e w2 ⟨rfl, rfl⟩)
        go_ret
        have := of_decide_eq_true hle
        exact ⟨true, rfl, ⟨fun _ => ⟨HE'.out, by rw [HZ.out, HCN.out], by have := HCN.out; omega⟩, fun _ => rfl⟩, hB⟩
      | false =>
        go_wp2_with (go_at_call 118; refine (zix n _ hn).mono ?_; rintro e w2 ⟨rfl, rfl⟩)
        go_ret
        have := of_decide_eq_false hle
        exact ⟨false, rfl, ⟨fun g => by simp at g, fun g => by have := g.2.2; have := HCN.out; omega⟩, hB⟩
    · have e1 : (z == (zbv T N X k : Int)) = false := by simpa using hzc
      have HZ : Hid (z ≠ (zbv T N X k : Int)) := hzc
      clear hzc
      go_wp2
      go_ret
      exact ⟨false, rfl, ⟨fun g => by simp at g, fun g => absurd g.2.1 (by rw [<- HCN.out]; exact HZ.out)⟩, hB⟩
end Go.Proofs.YtkjmonhocbobhaaGreat
