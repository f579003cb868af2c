/- - -/
import Derived.Test.YtmckcnmlhgpnhaaGreatWCoJ
import Derived.Test.YtmckcnmlhgpnhaaGreatWCoK
namespace Go.Proofs.YtmckcnmlhgpnhaaGreat
set_option maxRecDepth 20000
open Go.RowKit Go.Maps
set_option linter.unusedSimpArgs false
set_option linter.unusedVariables false
set_option maxHeartbeats 2000000 in
theorem zkl (aw : Option Addr) (cw : Nat) (ws : List Int) (smz toh top : Int) (cyc : Bool) (sn old cpz sr : Int) (ar : Option Addr) (cr : Nat) (rs : List (Int × Int)) (y : Nat -> Int) (Tr : Nat) (w : World) (hs : Sl w (.slice aw ws.length cw) ws) (hcw : ws.length <= cw) (hn : ws.length <= 1048576) (hw : zg ws) (hrt : SlF Tr w (.slice ar rs.length cr) rs.length (2 * rs.length) (fun i => .int .i64 (y i))) (hn2 : rs.length <= 1048576) (hok : zdc ws smz toh top cyc sn old cpz sr y rs.length) (mk : Nat -> Int) (Q : List (Nat × Int × Int)) (R : List Nat) (hQ : R = plS Q) (hK : zbm mk ws cyc sn) (hB : zdh ws 0 (zaj ws (zan y) (-1) (fun j => (j : Int)) rs.length []) Q) (hC : zbc mk (plS (zaj ws (zan y) (-1) (fun j => (j : Int)) rs.length []))) (hR : zbc mk R) :
 Calls Tryz.prog 13 #[.agg #[.slice aw ws.length cw, .int .i64 smz, .int .i64 toh, .int .i64 top, .bool cyc, .int .i64 sn, .int .i64 old, .int .i64 cpz, .int .i64 sr, .slice ar rs.length cr]] w fun e w' => e = .returned (.int .i64 (zcd ws R)) /\ Below w.heap.size w w' := by
 obtain ⟨s0, s1, hl, t0, t1, hrl, h1, h2, hold⟩ := zdi hok.1
 obtain ⟨b, off, rfl, hb, hc⟩ := zie hs (by omega)
 have HRO : Hid (∀ k, k < rs.length -> isR (y (2 * k)) = true -> ∃ mm q : Nat, y (2 * k + 1) = (mm : Int) /\ mm < ws.length /\ zi ws mm = (q : Int) /\ q < ws.length) := fun k hk hr => by
  obtain ⟨p, h1, _, _, h4, h5, _⟩ := zp4 hw hok hk hr
  exact ⟨p, p, h1, by omega, h5, by omega⟩
 have HS : Hid (Sl w (.slice (some ⟨b, off, none⟩) ws.length cw) ws) := hs
 have HR : Hid (SlF w.heap.size w (.slice ar rs.length cr) rs.length (2 * rs.length) (fun i => .int .i64 (y i))) := hrt.here
 have HQ : Hid (zdc ws smz toh top cyc sn old cpz sr y rs.length) := hok
 have HK : Hid (zbm mk ws cyc sn) := hK
 have HB : Hid (zdh ws 0 (zaj ws (zan y) (-1) (fun j => (j : Int)) rs.length []) Q) := hB
 have HC : Hid (zbc mk (plS (zaj ws (zan y) (-1) (fun j => (j : Int)) rs.length []))) := hC
 have HCQ : Hid (zbc mk (plS Q)) := by show zbc _ _; rw [<- hQ]; exact hR
 have HQL : Hid (Q.length = R.length /\ plS Q = R) := ⟨by rw [hQ, zeq], hQ.symm⟩
 have HCR : Hid (zbc mk R) := hR
 have hRl : R.length <= ws.length := zdy hK hR
 have HPL : Hid (∀ i, i < R.length -> R.getD i 0 < ws.length) := fun i hi => zf9 hK (hR.2 _ (by simp [hi]))
 clear hs hrt hok hK hB hC hR hc h1 h2 hold hQ
 go_enter Tryz.func13, Tryz.ntmps13
 go_wp2_with fail
 refine (zgu _ _ _ _ _ _ _ _ _ _ _ _ _ _ y w.heap.size _ (HS.out.below (zd (Below.refl _ _))) hcw hn hw (HR.out.below (zd (Below.refl _ _)) (Nat.le_refl _)) hn2).mono ?_
 rintro e w1 ⟨q, rfl, hq, b1⟩
 obtain rfl := hq.2 HQ.out
 have B1 := zd b1
 have k1 := zp b1 (by simp)
 have z1 := zq b1
 clear b1 hq
 go_wp2_with fail
 obtain ⟨b', off', hv, hb', hc'⟩ := zie (HS.out.below B1) (by omega)
 simp only [Option.some.injEq, Addr.mk.injEq] at hv
 obtain ⟨rfl, rfl, _⟩ := hv
 refine (zsb b off cw ws smz toh top cyc sn old cpz sr ar cr rs ar cr rs.length y mk Q _ hb' hc' hn hw ((HR.out.below B1 (Nat.le_refl _)).here) hrl HRO.out HK.out HB.out HC.out HCQ.out).mono ?_
 rintro e w2 ⟨v, rfl, hO, b2⟩
 rw [HQL.out.1, HQL.out.2] at hO
 have B2 := zc B1 b2
 have k2 := ze k1 b2 z1
 have z2 := Nat.lt_of_lt_of_le z1 b2.size
 obtain ⟨va, vc, rfl, hcase⟩ := hO
 have HCS : Hid (R.length = 0 \/ ∃ b M g, va = some ⟨b, 0, none⟩ /\ b < w2.heap.size /\ R.length <= M /\ w2.rowIs b 3 M g /\ ∀ i, i < R.length -> g i = .int .i64 ((R.getD i 0 : Nat) : Int)) := by
  rcases hcase with h | ⟨b, M, g, h1, _, h3, h4, h5, h6⟩
  · exact .inl h
  · exact .inr ⟨b, M, g, h1, h3, h4, h5, h6⟩
 have HB2 : Hid (Below w.heap.size w w2) := B2
 have HK2 : Hid (∀ i, w2.cell? ⟨w.heap.size, i, none⟩ = (#[.slice (some ⟨b, off, none⟩) ws.length cw, .int .i64 smz, .int .i64 toh, .int .i64 top, .bool cyc, .int .i64 sn, .int .i64 old, .int .i64 cpz, .int .i64 sr, .slice ar rs.length cr] : Array Value)[i]?) := k2
 have hRl' : (R.length : Int) <= 1048576 := by omega
 clear hcase b2 B1 B2 k1 k2 hc' hb' HRO HQ HB HC
 go_wp2_with fail
 go_loopw [3, 5, 14] (fun u3 _ u14 wr => ∃ n : Nat, n <= R.length /\ u14 = .int .i64 n /\ u3 = .int .i64 (zcd ws (R.take n)) /\ Below w2.heap.size w2 wr) (fun _ _ u14 _ => R.length - (intOf u14).toNat)
 case atStart => exact ⟨0, Nat.zero_le _, rfl, rfl, Below.refl _ _⟩
 case round =>
  obtain ⟨n, hnl, rfl, rfl, hF⟩ := hrel
  by_cases hlt : n < R.length
  · have hlt' : (n : Int) < (R.length : Int) := by omega
    obtain ⟨g, M, gg, rfl, hg, hM, hrow, hgg⟩ : ∃ b M g, va = some ⟨b, 0, none⟩ /\ b < w2.heap.size /\ R.length <= M /\ w2.rowIs b 3 M g /\ ∀ i, i < R.length -> g i = .int .i64 ((R.getD i 0 : Nat) : Int) := by
     rcases HCS.out with h | h
     · omega
     · exact h
    obtain ⟨p, hp⟩ : ∃ p, p = R.getD n 0 := ⟨_, rfl⟩
    have hpl : p < ws.length := by rw [hp]; exact HPL.out n hlt
    have cg : wr.cell? ⟨g, n, none⟩ = some (.int .i64 (p : Int)) := by rw [hF.cell (p := ⟨g, n, none⟩) hg, hrow.cell (by omega), hgg n hlt, hp]
    have kr := ze HK2.out hF z2
    have hsb := za5 (za ws p)
    have sb := zkk ws (R.take n)
    have sl : (R.take n).length <= n := List.length_take_le _ _
    have HSM : Hid (zcd ws (R.take n) + (rdS (za ws p) + 1) = zcd ws (R.take (n + 1))) := by
     show _ = _
     rw [List.take_succ_eq_append_getElem hlt]
     have e : R[n] = p := by rw [hp]; simp [hlt]
     rw [e, zll]
     omega
    obtain ⟨sm, hsm⟩ : ∃ s, s = zcd ws (R.take n) := ⟨_, rfl⟩
    rw [<- hsm] at sb HSM ⊢
    have sb1 : sm <= 257 * 1048576 := by omega
    have HF : Hid (Below w2.heap.size w2 wr) := hF
    clear hp hrow hgg hsm hF
    go_wp2_with (go_at_call 51; refine (zj6 _ _ _ _ _ _ _ _ _ _ _ _ _ _ _ p _ rfl (HS.out.below (zc HB2.out HF.out)) hn hw hpl).mono ?_; rintro e w4 ⟨rfl, b4⟩)
    go_roundw
    case rel => exact ⟨n + 1, by omega, by go_num, by rw [<- HSM.out], zc HF.out b4⟩
    case measure => simp [intOf]; omega
  · have hge : (R.length : Int) <= (n : Int) := by omega
    have HSU : Hid (zcd ws (R.take n) = zcd ws R) := by show _ = _; rw [List.take_of_length_le (by omega)]
    have HF : Hid (Below w2.heap.size w2 wr) := hF
    clear hF
    go_wp2
    go_ret
    exact ⟨zby HSU.out, zc HB2.out HF.out⟩
end Go.Proofs.YtmckcnmlhgpnhaaGreat
