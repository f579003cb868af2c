/- - -/
import Derived.Test.YtmckcnmlhgpnhaaGreatPCoJ
import Derived.Test.YtmckcnmlhgpnhaaGreatPCoK
namespace Go.Proofs.YtmckcnmlhgpnhaaGreat
set_option maxRecDepth 20000
open Go.RowKit Go.Maps
set_option linter.unusedSimpArgs false
set_option linter.unusedVariables false
set_option maxHeartbeats 1000000 in
theorem zjo (aw : Option Addr) (cw : Nat) (ws : List Int) (smz toh top : Int) (cyc : Bool) (sn old cpz sr : Int) (ar : Option Addr) (cr : Nat) (rs : List (Int × Int)) (y : Nat -> Int) (Tr : Nat) (w : World) (hs : Sl w (.slice aw ws.length cw) ws) (hcw : ws.length <= cw) (hn : ws.length <= 1048576) (hw : zi ws) (hrt : SlF Tr w (.slice ar rs.length cr) rs.length (2 * rs.length) (fun i => .int .i64 (y i))) (hn2 : rs.length <= 1048576) (hok : ¬ zda ws smz toh top cyc sn old cpz sr y rs.length) :
 Calls Tryz.prog 13 #[.agg #[.slice aw ws.length cw, .int .i64 smz, .int .i64 toh, .int .i64 top, .bool cyc, .int .i64 sn, .int .i64 old, .int .i64 cpz, .int .i64 sr, .slice ar rs.length cr]] w fun e w' => e = .returned (.int .i64 0) /\ Below w.heap.size w w' := by
 have HS : Hid (Sl w (.slice aw ws.length cw) ws) := hs
 have HR : Hid (SlF w.heap.size w (.slice ar rs.length cr) rs.length (2 * rs.length) (fun i => .int .i64 (y i))) := hrt.here
 have HQ : Hid (¬ zda ws smz toh top cyc sn old cpz sr y rs.length) := hok
 clear hs hrt hok
 go_enter Tryz.func13, Tryz.ntmps13
 go_wp2_with fail
 refine (zf7 _ _ _ _ _ _ _ _ _ _ _ _ _ _ y w.heap.size _ (HS.out.below (zd (Below.refl _ _))) hcw hn hw (HR.out.below (zd (Below.refl _ _)) (Nat.le_refl _)) hn2).mono ?_
 rintro e w1 ⟨q, rfl, hq, b1⟩
 obtain rfl : q = false := by
  cases q with
  | false => rfl
  | true => exact absurd (hq.1 rfl) HQ.out
 have B1 := zd b1
 go_wp2
 go_ret
 exact ⟨rfl, B1⟩
set_option maxHeartbeats 2000000 in
theorem zjb (aw : Option Addr) (cw : Nat) (ws : List Int) (smz toh top : Int) (cyc : Bool) (sn old cpz sr : Int) (ar : Option Addr) (cr : Nat) (rs : List (Int × Int)) (y : Nat -> Int) (Tr : Nat) (w : World) (hs : Sl w (.slice aw ws.length cw) ws) (hcw : ws.length <= cw) (hn : ws.length <= 1048576) (hw : zi ws) (hrt : SlF Tr w (.slice ar rs.length cr) rs.length (2 * rs.length) (fun i => .int .i64 (y i))) (hn2 : rs.length <= 1048576) (hok : zda ws smz toh top cyc sn old cpz sr y rs.length) (mk : Nat -> Int) (Q : List (Nat × Int × Int)) (R : List Nat) (hQ : R = plS Q) (hK : zbi mk ws cyc sn) (hB : zc6 ws 0 (zad ws (zaj y) (-1) (fun j => (j : Int)) rs.length []) Q) (hC : za9 mk (plS (zad ws (zaj y) (-1) (fun j => (j : Int)) rs.length []))) (hR : za9 mk R) :
 Calls Tryz.prog 13 #[.agg #[.slice aw ws.length cw, .int .i64 smz, .int .i64 toh, .int .i64 top, .bool cyc, .int .i64 sn, .int .i64 old, .int .i64 cpz, .int .i64 sr, .slice ar rs.length cr]] w fun e w' => e = .returned (.int .i64 (zct ws R)) /\ Below w.heap.size w w' := by
 obtain ⟨s0, s1, hl, t0, t1, hrl, h1, h2, hold⟩ := zea hok.1
 obtain ⟨b, off, rfl, hb, hc⟩ := zhg hs (by omega)
 have HRO : Hid (∀ k, k < rs.length -> isR (y (2 * k)) = true -> ∃ mm q : Nat, y (2 * k + 1) = (mm : Int) /\ mm < ws.length /\ zh ws mm = (q : Int) /\ q < ws.length) := fun k hk hr => by
  obtain ⟨p, h1, _, _, h4, h5, _⟩ := znl hw hok hk hr
  exact ⟨p, p, h1, by omega, h5, by omega⟩
 have HS : Hid (Sl w (.slice (some ⟨b, off, none⟩) ws.length cw) ws) := hs
 have HR : Hid (SlF w.heap.size w (.slice ar rs.length cr) rs.length (2 * rs.length) (fun i => .int .i64 (y i))) := hrt.here
 have HQ : Hid (zda ws smz toh top cyc sn old cpz sr y rs.length) := hok
 have HK : Hid (zbi mk ws cyc sn) := hK
 have HB : Hid (zc6 ws 0 (zad ws (zaj y) (-1) (fun j => (j : Int)) rs.length []) Q) := hB
 have HC : Hid (za9 mk (plS (zad ws (zaj y) (-1) (fun j => (j : Int)) rs.length []))) := hC
 have HCQ : Hid (za9 mk (plS Q)) := by show za9 _ _; rw [<- hQ]; exact hR
 have HQL : Hid (Q.length = R.length /\ plS Q = R) := ⟨by rw [hQ, zed], hQ.symm⟩
 have HCR : Hid (za9 mk R) := hR
 have hRl : R.length <= ws.length := zdk hK hR
 have HPL : Hid (∀ i, i < R.length -> R.getD i 0 < ws.length) := fun i hi => zfe hK (hR.2 _ (by simp [hi]))
 clear hs hrt hok hK hB hC hR hc h1 h2 hold hQ
 go_enter Tryz.func13, Tryz.ntmps13
 go_wp2_with fail
 refine (zf7 _ _ _ _ _ _ _ _ _ _ _ _ _ _ y w.heap.size _ (HS.out.below (zd (Below.refl _ _))) hcw hn hw (HR.out.below (zd (Below.refl _ _)) (Nat.le_refl _)) hn2).mono ?_
 rintro e w1 ⟨q, rfl, hq, b1⟩
 obtain rfl := hq.2 HQ.out
 have B1 := zd b1
 have k1 := zo b1 (by simp)
 have z1 := zp b1
 clear b1 hq
 go_wp2_with fail
 obtain ⟨b', off', hv, hb', hc'⟩ := zhg (HS.out.below B1) (by omega)
 simp only [Option.some.injEq, Addr.mk.injEq] at hv
 obtain ⟨rfl, rfl, _⟩ := hv
 refine (zpx b off cw ws smz toh top cyc sn old cpz sr ar cr rs ar cr rs.length y mk Q _ hb' hc' hn hw ((HR.out.below B1 (Nat.le_refl _)).here) hrl HRO.out HK.out HB.out HC.out HCQ.out).mono ?_
 rintro e w2 ⟨v, rfl, hO, b2⟩
 rw [HQL.out.1, HQL.out.2] at hO
 have B2 := zc B1 b2
 have k2 := ze k1 b2 z1
 have z2 := Nat.lt_of_lt_of_le z1 b2.size
 obtain ⟨va, vc, rfl, hcase⟩ := hO
 have HCS : Hid (R.length = 0 \/ ∃ b M g, va = some ⟨b, 0, none⟩ /\ b < w2.heap.size /\ R.length <= M /\ w2.rowIs b 3 M g /\ ∀ i, i < R.length -> g i = .int .i64 ((R.getD i 0 : Nat) : Int)) := by
  rcases hcase with h | ⟨b, M, g, h1, _, h3, h4, h5, h6⟩
  · exact .inl h
  · exact .inr ⟨b, M, g, h1, h3, h4, h5, h6⟩
 have HB2 : Hid (Below w.heap.size w w2) := B2
 have HK2 : Hid (∀ i, w2.cell? ⟨w.heap.size, i, none⟩ = (#[.slice (some ⟨b, off, none⟩) ws.length cw, .int .i64 smz, .int .i64 toh, .int .i64 top, .bool cyc, .int .i64 sn, .int .i64 old, .int .i64 cpz, .int .i64 sr, .slice ar rs.length cr] : Array Value)[i]?) := k2
 have hRl' : (R.length : Int) <= 1048576 := by omega
 clear hcase b2 B1 B2 k1 k2 hc' hb' HRO HQ HB HC
 go_wp2_with fail
 go_loopw [3, 5, 14] (fun u3 _ u14 wr => ∃ n : Nat, n <= R.length /\ u14 = .int .i64 n /\ u3 = .int .i64 (zct ws (R.take n)) /\ Below w2.heap.size w2 wr) (fun _ _ u14 _ => R.length - (intOf u14).toNat)
 case atStart => exact ⟨0, Nat.zero_le _, rfl, rfl, Below.refl _ _⟩
 case round =>
  obtain ⟨n, hnl, rfl, rfl, hF⟩ := hrel
  by_cases hlt : n < R.length
  · have hlt' : (n : Int) < (R.length : Int) := by omega
    obtain ⟨g, M, gg, rfl, hg, hM, hrow, hgg⟩ : ∃ b M g, va = some ⟨b, 0, none⟩ /\ b < w2.heap.size /\ R.length <= M /\ w2.rowIs b 3 M g /\ ∀ i, i < R.length -> g i = .int .i64 ((R.getD i 0 : Nat) : Int) := by
     rcases HCS.out with h | h
     · omega
     · exact h
    obtain ⟨p, hp⟩ : ∃ p, p = R.getD n 0 := ⟨_, rfl⟩
    have hpl : p < ws.length := by rw [hp]; exact HPL.out n hlt
    have cg : wr.cell? ⟨g, n, none⟩ = some (.int .i64 (p : Int)) := by rw [hF.cell (p := ⟨g, n, none⟩) hg, hrow.cell (by omega), hgg n hlt, hp]
    have kr := ze HK2.out hF z2
    have hsb := zaw (za ws p)
    have sb := zik ws (R.take n)
    have sl : (R.take n).length <= n := List.length_take_le _ _
    have HSM : Hid (zct ws (R.take n) + (rdS (za ws p) + 1) = zct ws (R.take (n + 1))) := by
     show _ = _
     rw [List.take_succ_eq_append_getElem hlt]
     have e : R[n] = p := by rw [hp]; simp [hlt]
     rw [e, zjt]
     omega
    obtain ⟨sm, hsm⟩ : ∃ s, s = zct ws (R.take n) := ⟨_, rfl⟩
    rw [<- hsm] at sb HSM ⊢
    have sb1 : sm <= 257 * 1048576 := by omega
    have HF : Hid (Below w2.heap.size w2 wr) := hF
    clear hp hrow hgg hsm hF
    go_wp2_with (go_at_call 51; refine (zi4 _ _ _ _ _ _ _ _ _ _ _ _ _ _ _ p _ rfl (HS.out.below (zc HB2.out HF.out)) hn hw hpl).mono ?_; rintro e w4 ⟨rfl, b4⟩)
    go_roundw
    case rel => exact ⟨n + 1, by omega, by go_num, by rw [<- HSM.out], zc HF.out b4⟩
    case measure => simp [intOf]; omega
  · have hge : (R.length : Int) <= (n : Int) := by omega
    have HSU : Hid (zct ws (R.take n) = zct ws R) := by show _ = _; rw [List.take_of_length_le (by omega)]
    have HF : Hid (Below w2.heap.size w2 wr) := hF
    clear hF
    go_wp2
    go_ret
    exact ⟨zbu HSU.out, zc HB2.out HF.out⟩
open Go.RowKit
set_option maxHeartbeats 2000000 in
theorem ze3 (aw : Option Addr) (cw : Nat) (ws : List Int) (smz toh top : Int) (cyc : Bool) (sn old cpz sr : Int) (ar : Option Addr) (cr : Nat) (rs : List (Int × Int))  (y : Nat -> Int) (Tr : Nat) (w : World) (ans : Int) (hs : Sl w (.slice aw ws.length cw) ws) (hrt : SlF Tr w (.slice ar rs.length cr) rs.length (2 * rs.length) (fun i => .int .i64 (y i))) (hl1 : ws.length <= 9223372036854775807) (hl2 : rs.length <= 9223372036854775807)
 (hspec : ws.length <= 1048576 -> rs.length <= 1048576 -> ∀ (aw : Option Addr) (cw : Nat) (ar : Option Addr) (cr : Nat) (W : World) (T : Nat), Sl W (.slice aw ws.length cw) ws -> SlF T W (.slice ar rs.length cr) rs.length (2 * rs.length) (fun i => .int .i64 (y i)) -> Calls Tryz.prog 11 #[.agg #[.slice aw ws.length cw, .int .i64 smz, .int .i64 toh, .int .i64 top, .bool cyc, .int .i64 sn, .int .i64 old, .int .i64 cpz, .int .i64 sr, .slice ar rs.length cr]] W fun e w' => e = .returned (.int .i64 ans) /\ Below W.heap.size W w')
 (himpl : ws.length <= 1048576 -> rs.length <= 1048576 -> ∀ (aw : Option Addr) (cw : Nat) (ar : Option Addr) (cr : Nat) (W : World) (T : Nat), Sl W (.slice aw ws.length cw) ws -> ws.length <= cw -> SlF T W (.slice ar rs.length cr) rs.length (2 * rs.length) (fun i => .int .i64 (y i)) -> Calls Tryz.prog 13 #[.agg #[.slice aw ws.length cw, .int .i64 smz, .int .i64 toh, .int .i64 top, .bool cyc, .int .i64 sn, .int .i64 old, .int .i64 cpz, .int .i64 sr, .slice ar rs.length cr]] W fun e w' => e = .returned (.int .i64 ans) /\ Below W.heap.size W w') :
 Calls Tryz.prog 3 #[.agg #[.slice aw ws.length cw, .int .i64 smz, .int .i64 toh, .int .i64 top, .bool cyc, .int .i64 sn, .int .i64 old, .int .i64 cpz, .int .i64 sr, .slice ar rs.length cr]] w fun e w' => e = .returned (.bool true) /\ Below w.heap.size w w' := by
 by_cases h : (ws.length : Int) + rs.length <= 1048576
 · have hn : ws.length <= 1048576 := by omega
   have hn2 : rs.length <= 1048576 := by omega
   have h0 : ¬ (1048576 - (ws.length : Int) - rs.length) < 0 := by omega
   have HSZ : ∀ W, _ := fun W => zhu aw ws.length cw smz toh top cyc sn old cpz sr ar rs.length cr W hl1 hl2
   rw [if_pos h] at HSZ
   have HTA : Hid (∀ W, Below w.heap.size w W -> _) := fun W (hW : Below w.heap.size w W) => zn6 aw cw ws smz toh top cyc sn old cpz sr ar cr rs y w.heap.size W (hs.below hW) hn (hrt.here.below hW (Nat.le_refl _)) hn2
   have HSP : Hid _ := hspec hn hn2
   have HIM : Hid _ := himpl hn hn2
   clear hs hrt h hl1 hl2 hspec himpl
   go_enter Tryz.func3, Tryz.ntmps3
   go_wp2_with fail
   refine (HSZ _).mono ?_
   rintro e w1 ⟨rfl, b1⟩
   have B1 := zd b1
   have k1 := zo b1 (by simp)
   have z1 := zp b1
   clear b1
   go_wp2_with fail
   refine (HTA.out _ B1).mono ?_
   rintro e w2 ⟨x1, x2, rfl, s2, r2, b2⟩
   have B2 := zc B1 b2
   have k2 := ze k1 b2 z1
   have z2 := Nat.lt_of_lt_of_le z1 b2.size
   clear b2 k1
   go_wp2_with fail
   refine (HSP.out (some ⟨x1, 0, none⟩) ws.length (some ⟨x2, 0, none⟩) rs.length _ _ s2 r2).mono ?_
   rintro e w3 ⟨rfl, b3⟩
   have B3 := zc B2 b3
   have k3 := ze k2 b3 z2
   have z3 := Nat.lt_of_lt_of_le z2 b3.size
   clear b3 k2 s2 r2
   go_wp2_with fail
   refine (HTA.out _ B3).mono ?_
   rintro e w4 ⟨x3, x4, rfl, s4, r4, b4⟩
   have B4 := zc B3 b4
   have k4 := ze k3 b4 z3
   have z4 := Nat.lt_of_lt_of_le z3 b4.size
   clear b4 k3
   have A4 := s4.below ((Below.refl w4.heap.size w4).alloc (Nat.le_refl _) (.cells #[.slice (some ⟨x3, 0, none⟩) ws.length ws.length, .int .i64 smz, .int .i64 toh, .int .i64 top, .bool cyc, .int .i64 sn, .int .i64 old, .int .i64 cpz, .int .i64 sr, .slice (some ⟨x4, 0, none⟩) rs.length rs.length] 30))
   have R4 := r4.below ((Below.refl w4.heap.size w4).alloc (Nat.le_refl _) (.cells #[.slice (some ⟨x3, 0, none⟩) ws.length ws.length, .int .i64 smz, .int .i64 toh, .int .i64 top, .bool cyc, .int .i64 sn, .int .i64 old, .int .i64 cpz, .int .i64 sr, .slice (some ⟨x4, 0, none⟩) rs.length rs.length] 30)) (Nat.le_refl _)
   go_wp2_with fail
   refine (HIM.out (some ⟨x3, 0, none⟩) ws.length (some ⟨x4, 0, none⟩) rs.length _ _ A4 (Nat.le_refl _) R4).mono ?_
   rintro e w5 ⟨rfl, b5⟩
   have B5 := zc (zqa B4) b5
   have k5 := ze (ze k4 ((Below.refl w4.heap.size w4).alloc (Nat.le_refl _) _) z4) b5 (by simp; omega)
   have p5 := zo b5 (by simp)
   have z5 := zp b5
   have S5 := A4.below b5
   have R5 := R4.below b5 (by simp)
   clear A4 R4 s4 r4 k4 b5
   have F5 := zt8 S5
   have R5' := R5.here
   go_wp2_with fail
   have KP : ∀ V, Below w5.heap.size w5 V -> (Below w5.heap.size w5 V /\ (∀ i, V.cell? ⟨w.heap.size, i, none⟩ = (#[.slice aw ws.length cw, .int .i64 smz, .int .i64 toh, .int .i64 top, .bool cyc, .int .i64 sn, .int .i64 old, .int .i64 cpz, .int .i64 sr, .slice ar rs.length cr] : Array Value)[i]?) /\ (∀ i, V.cell? ⟨w4.heap.size, i, none⟩ = (#[.slice (some ⟨x3, 0, none⟩) ws.length ws.length, .int .i64 smz, .int .i64 toh, .int .i64 top, .bool cyc, .int .i64 sn, .int .i64 old, .int .i64 cpz, .int .i64 sr, .slice (some ⟨x4, 0, none⟩) rs.length rs.length] : Array Value)[i]?)) := fun V hV => ⟨hV, ze k5 hV (by omega), ze p5 hV z5⟩
   have b5' := (Below.refl w5.heap.size w5).drew
   clear k5 p5 S5 R5 HSZ HSP HIM
   go_region_held3 (fun V => Below w5.heap.size w5 V /\ (∀ i, V.cell? ⟨w.heap.size, i, none⟩ = (#[.slice aw ws.length cw, .int .i64 smz, .int .i64 toh, .int .i64 top, .bool cyc, .int .i64 sn, .int .i64 old, .int .i64 cpz, .int .i64 sr, .slice ar rs.length cr] : Array Value)[i]?) /\ (∀ i, V.cell? ⟨w4.heap.size, i, none⟩ = (#[.slice (some ⟨x3, 0, none⟩) ws.length ws.length, .int .i64 smz, .int .i64 toh, .int .i64 top, .bool cyc, .int .i64 sn, .int .i64 old, .int .i64 cpz, .int .i64 sr, .slice (some ⟨x4, 0, none⟩) rs.length rs.length] : Array Value)[i]?)) (first | assumption | exact KP _ b5' | exact KP _ (by assumption)) (first | (go_at_call 12; refine (HTA.out _ (zc B5 (And.left (by assumption)))).mono ?_; rintro e w6 ⟨x5, x6, rfl, s6, r6, bb⟩; have hB6 := zc (w := w5) (And.left (by assumption)) bb; clear bb) | (go_at_call 14; refine (zk6 _ _ _ _ _ _ _ _ ws.length rs.length (za ws) y _ _ _ _ _ _ _ _ _ (F5.below hB6 (Nat.le_refl _)) (zt8 s6) hn (R5'.below hB6 (Nat.le_refl _)) r6 hn2).mono ?_; rintro e w7 ⟨rfl, bb⟩; have hB7 := zc (w := w5) hB6 bb; clear bb))
   all_goals
    go_wp2
    go_ret
    exact ⟨rfl, zc B5 hB7⟩
 · have HSZ : ∀ W, _ := fun W => zhu aw ws.length cw smz toh top cyc sn old cpz sr ar rs.length cr W hl1 hl2
   rw [if_neg h] at HSZ
   clear hs hrt h hspec himpl
   go_enter Tryz.func3, Tryz.ntmps3
   go_wp2_with (go_at_call 10; refine (HSZ _).mono ?_; rintro e w1 ⟨rfl, b1⟩)
   go_ret
   exact ⟨rfl, zd b1⟩
end Go.Proofs.YtmckcnmlhgpnhaaGreat
