/- - -/
import Derived.Test.YtmckcnmlhgpnhaaGreatWKeyG
import Derived.Test.YtmckcnmlhgpnhaaGreatWSvK
namespace Go.Proofs.YtmckcnmlhgpnhaaGreat
set_option maxRecDepth 20000
open Go.RowKit Go.Maps
set_option linter.unusedSimpArgs false
set_option linter.unusedVariables false
def pN (ws : List Int) (Q i : Nat) : Int := kyN ws (kT ws Q i) (kN ws Q i)
def pS (ws : List Int) (Q i : Nat) : ByteArray := kyS ws (kT ws Q i) (kN ws Q i)
def pH (ws : List Int) (Q i : Nat) : Int := zbi ws (kT ws Q i) (kN ws Q i)
def zii (ws : List Int) (Q : Nat) (z : Int) : Prop := zgp (kT ws Q) (pN ws Q) (pS ws Q) (pH ws Q) (zao ws Q) (zao ws Q) /\ z = zcc (kT ws Q) (pN ws Q) (pS ws Q) (zao ws Q) /\ zcc (kT ws Q) (pN ws Q) (pS ws Q) (zao ws Q) <= zao ws Q / 4 * 3
def zee (ws : List Int) (L : List Nat) (x : Int) : Bool := L.any fun p => decide (rdK (za ws p) = 2) && (decide (rvT ws (p + 2) = 8) && decide (x = (zk ws p : Int)))
def zhf (ws : List Int) (L : List Nat) (p : Nat) : Prop := rdK (za ws p) = 2 -> (rvT ws (p + 2) = 0 /\ za ws (p + 1) = 0) \/ (rvT ws (p + 2) = 8 /\ zee ws L (zk ws p) = false /\ zii ws (zk ws p) (za ws (p + 1)))
def zbs (ws : List Int) (pl : List Nat) (k : Nat) : Prop := ∀ i, i < k -> zhf ws (pl.take i) (pl.getD i 0)
theorem zrv {ws : List Int} {pl : List Nat} {k : Nat} (h : zbs ws pl k) (hk : zhf ws (pl.take k) (pl.getD k 0)) : zbs ws pl (k + 1) := fun i hi => by
 by_cases e : i = k
 · subst e; exact hk
 · exact h i (by omega)
theorem ztw {ws : List Int} {pl : List Nat} {k : Nat} (hk : k < pl.length) (x : Int) : zee ws (pl.take (k + 1)) x = (zee ws (pl.take k) x || (decide (rdK (za ws (pl.getD k 0)) = 2) && (decide (rvT ws (pl.getD k 0 + 2) = 8) && decide (x = (zk ws (pl.getD k 0) : Int))))) := by
 have e : pl.take (k + 1) = pl.take k ++ [pl.getD k 0] := by
  rw [List.take_add_one]; simp [hk]
 simp only [zee]
 rw [e, List.any_append, List.any_cons, List.any_nil, Bool.or_false]
def zhg (ws : List Int) (p : Nat) : Prop := zj0 ws p /\ (rvT ws (p + 2) = 0 \/ rvT ws (p + 2) = 8) /\ (rvT ws (p + 2) = 8 -> 0 < zk ws p /\ ∀ i, i < zao ws (zk ws p) -> kT ws (zk ws p) i ≠ 8 /\ kT ws (zk ws p) i ≠ 9)
theorem zxt (x : Int) (h : 0 <= x) : 0 <= rdS x := by unfold rdS; split <;> omega
theorem ztx {ws : List Int} {Q i : Nat} (h : zda (kT ws Q) (pN ws Q) (pS ws Q) i = false) (hv : vOk (kT ws Q i) (kN ws Q i) = true) : kT ws Q i ≠ 0 := fun e => by
 have hm : kN ws Q i = 0 := by simp only [vOk, decide_eq_true_eq] at hv; omega
 simp [zda, zd0, pN, pS, e, hm, kyN, kyS] at h
theorem zpc (ws : List Int) (p K c : Nat) (z : Int) (w : World) (hT : zhg ws p) (h8 : rvT ws (p + 2) = 8) (hw : zg ws) (hz0 : 0 <= z) (hz1 : z < 18446744073709551616) (hK : za0 w K (zao ws (zk ws p)) (kT ws (zk ws p)) (pN ws (zk ws p)) (pS ws (zk ws p))) :
 Calls Tryz.prog 171 #[.slice (some ⟨K, 0, none⟩) (zao ws (zk ws p)) c, .int .u64 z] w fun e w' => ∃ q, e = .returned (.bool q) /\ (q = true ↔ zii ws (zk ws p) z) /\ Below w.heap.size w w' := by
 obtain ⟨a1, a2, a3, a4, a5, a6, a7, a8⟩ := hT.1.2 h8
 have hky := (hT.2.2 h8).2
 have hne : ∀ i, i < zao ws (zk ws p) -> zda (kT ws (zk ws p)) (pN ws (zk ws p)) (pS ws (zk ws p)) i = false -> kT ws (zk ws p) i ≠ 0 := fun i hi hz => ztx hz (a8 i hi)
 exact zh1 K c _ _ _ _ (pH ws (zk ws p)) z w hK a6 hz0 hz1 (fun i hi hz W => zww ws _ _ W (a8 i hi) (hne i hi hz) (hky i hi).1 (hky i hi).2 (a7.2 i hi) hw) (fun i hi hz => (zmy (a8 i hi) (hne i hi hz)).1)
theorem zrw (T N : Nat -> Int) (X : Nat -> ByteArray) (K c : Nat) (z : Int) (w : World) (hz0 : 0 <= z) (hz1 : z < 18446744073709551616) (hK : za0 w K 0 T N X) :
 Calls Tryz.prog 171 #[.slice (some ⟨K, 0, none⟩) 0 c, .int .u64 z] w fun e w' => ∃ q, e = .returned (.bool q) /\ (q = true ↔ z = 0) /\ Below w.heap.size w w' :=
 (zh1 K c 0 T N X (fun _ => 0) z w hK (by omega) hz0 hz1 (fun i hi => absurd hi (Nat.not_lt_zero i)) (fun i hi => absurd hi (Nat.not_lt_zero i))).mono fun e w' ⟨q, he, hq, hb⟩ => ⟨q, he, hq.trans ⟨fun g => by have := g.2.1; simpa [zcc] using this, fun g => ⟨fun i hi => absurd hi (Nat.not_lt_zero i), by simpa [zcc] using g, Nat.zero_le _⟩⟩, hb⟩
theorem zb7.congr {w : World} {B n : Nat} {h h' : Int -> Bool} (a : zb7 w B n h) (e : ∀ x, h x = h' x) : zb7 w B n h' := by
 obtain ⟨D, hD, hh⟩ := a
 exact ⟨D, hD, fun x hx => (hh x hx).trans (e x)⟩
theorem zg2 {q : Bool} {p : Prop} (h : q = true ↔ p) (hp : ¬ p) : q = false := by
 cases q with
 | false => rfl
 | true => exact absurd (h.1 rfl) hp
set_option maxHeartbeats 2000000 in
theorem zgo (b off cw : Nat) (ws : List Int) (smz toh top : Int) (cyc : Bool) (sn old cpz sr : Int) (ar : Option Addr) (cr : Nat) (rs : List (Int × Int)) (sv bl cl bs bc : Nat) (av : Option Addr) (cv : Nat) (pl : List Nat) (Tp : Nat) (w : World) (lsv : sv < w.heap.size) (KS : ∀ i, w.cell? ⟨sv, i, none⟩ = (#[.slice (some ⟨b, off, none⟩) ws.length cw, .int .i64 smz, .int .i64 toh, .int .i64 top, .bool cyc, .int .i64 sn, .int .i64 old, .int .i64 cpz, .int .i64 sr, .slice ar rs.length cr, .slice (some ⟨bl, 0, none⟩) ws.length cl, .slice av pl.length cv, .map (some bs), .map (some bc)] : Array Value)[i]?) (hb : b < w.heap.size) (hc : ∀ i, i < ws.length -> w.cell? ⟨b, off + i, none⟩ = some (.int .u64 (za ws i))) (hn : ws.length <= 1048576) (hw : zg ws) (hpl : SlF Tp w (.slice av pl.length cv) pl.length pl.length (fun i => .int .i64 ((pl.getD i 0 : Nat) : Int))) (hln : pl.length <= 1048575) (hin : ∀ p ∈ pl, p < ws.length) (htab : ∀ p ∈ pl, rdK (za ws p) = 2 -> zhg ws p) :
 Calls Tryz.prog 135 #[.pointer (some ⟨sv, 0, none⟩)] w fun e w' => ∃ q, e = .returned (.bool q) /\ (q = true ↔ zbs ws pl pl.length) /\ Below w.heap.size w w' := by
 have HC : Hid (∀ i, i < ws.length -> w.cell? ⟨b, off + i, none⟩ = some (.int .u64 (za ws i))) := hc
 have HPL : Hid (SlF w.heap.size w (.slice av pl.length cv) pl.length pl.length (fun i => .int .i64 ((pl.getD i 0 : Nat) : Int))) := hpl.here
 have HIN : Hid (∀ p ∈ pl, p < ws.length) := hin
 have HTB : Hid (∀ p ∈ pl, rdK (za ws p) = 2 -> zhg ws p) := htab
 have hln' : (pl.length : Int) <= 1048575 := by omega
 have hmm := @run_makeMap Tryz.prog
 clear hc hpl hin htab
 go_enter Tryz.func135, Tryz.ntmps135
 go_wp2
 have hfk := zdp
 go_loopw [15] (fun u17 wr => ∃ k : Nat, k <= pl.length /\ u17 = .int .i64 k /\ (∃ h, Hid (zb7 wr w.heap.size k h) /\ Hid (∀ x, x ≠ 0 -> h x = zee ws (pl.take k) x)) /\ Hid (zbs ws pl k) /\ w.heap.size < wr.heap.size /\ Below w.heap.size w wr) (fun u17 _ => pl.length - (intOf u17).toNat)
 case atStart => exact ⟨0, Nat.zero_le _, rfl, ⟨_, zb7.made w, fun x _ => rfl⟩, fun i hi => by omega, by simp, (Below.refl _ _).alloc (Nat.le_refl _) _⟩
 case round =>
  obtain ⟨k, hk, rfl, ⟨h, HM, HH⟩, HT, hmz, hB⟩ := hrel
  by_cases hlt : k < pl.length
  · have hlt' : (k : Int) < (pl.length : Int) := by omega
    obtain ⟨bp, op, cap, hv, _, lbp, hcp⟩ := HPL.out.parts (k := 0) (by omega)
    simp only [Value.slice.injEq] at hv
    obtain ⟨rfl, _, rfl⟩ := hv
    have hcp1 : wr.cell? ⟨bp, op + k, none⟩ = some (.int .i64 ((pl.getD k 0 : Nat) : Int)) := by rw [hB.cell (p := ⟨bp, op + k, none⟩) lbp]; exact hcp k hlt
    have hmem : pl.getD k 0 ∈ pl := by simp [hlt]
    obtain ⟨P, hP⟩ : ∃ P, P = pl.getD k 0 := ⟨_, rfl⟩
    rw [<- hP] at hcp1 hmem
    have hPl : P < ws.length := HIN.out P hmem
    have HTP : Hid (rdK (za ws P) = 2 -> zhg ws P) := HTB.out P hmem
    have HST : Hid (zhf ws (pl.take k) P -> zbs ws pl (k + 1)) := fun g => zrv HT.out (by rw [<- hP]; exact g)
    have HNO : Hid (zbs ws pl pl.length -> zhf ws (pl.take k) P) := fun g => by rw [hP]; exact g k hlt
    have HHN : Hid (∀ x, zee ws (pl.take (k + 1)) x = (zee ws (pl.take k) x || (decide (rdK (za ws P) = 2) && (decide (rvT ws (P + 2) = 8) && decide (x = (zk ws P : Int)))))) := fun x => by rw [hP]; exact ztw hlt x
    clear hcp HPL HIN HTB hmem HT hP
    have KSr := ze KS hB lsv
    have lsvr : sv < wr.heap.size := Nat.lt_of_lt_of_le lsv hB.size
    obtain ⟨hbr, hcr⟩ := zh hb HC.out hB
    have HCR : Hid (∀ i, i < ws.length -> wr.cell? ⟨b, off + i, none⟩ = some (.int .u64 (za ws i))) := hcr
    clear hcr
    by_cases h2 : rdK (za ws P) = 2
    · have e2 : (rdK (za ws P) != 2) = false := by simp [h2]
      have HTI : Hid (zhg ws P) := HTP.out h2
      have H2 : Hid (rdK (za ws P) = 2) := h2
      clear h2 HTP
      have hP3 : P + 3 < ws.length := HTI.out.1.1
      have HX2 : Hid (IntKind.i64.wrap ((P : Int) + 2) = ((P + 2 : Nat) : Int)) := by show IntKind.i64.wrap ((P : Int) + 2) = ((P + 2 : Nat) : Int); rw [IntKind.wrap_i64]; omega
      obtain ⟨Y, hY⟩ : ∃ Y : Int, Y = (P : Int) := ⟨_, rfl⟩
      have wfP : (Lit.int .i64 (P : Int)).wf = true := wfI (by omega) (by omega)
      obtain ⟨Q, n, T, N, X, EP, HBO, HKO, HEN, HTR, HMQ, hQl⟩ : ∃ (Q n : Nat) (T N : Nat -> Int) (X : Nat -> ByteArray) (EP : Prop),
       Hid (∀ W, Below w.heap.size w W -> Calls Tryz.prog 170 #[(.agg #[.slice (some ⟨b, off, none⟩) ws.length cw, .int .i64 smz, .int .i64 toh, .int .i64 top, .bool cyc, .int .i64 sn, .int .i64 old, .int .i64 cpz, .int .i64 sr, .slice ar rs.length cr]), .int .i64 (P : Int)] W fun e w' => e = .returned (.int .i64 (Q : Int)) /\ Below W.heap.size W w')
       /\ Hid (∀ W, Below w.heap.size w W -> Calls Tryz.prog 172 #[(.agg #[.slice (some ⟨b, off, none⟩) ws.length cw, .int .i64 smz, .int .i64 toh, .int .i64 top, .bool cyc, .int .i64 sn, .int .i64 old, .int .i64 cpz, .int .i64 sr, .slice ar rs.length cr]), .int .i64 (Q : Int)] W fun e w' => ∃ K, e = .returned (.slice (some ⟨K, 0, none⟩) n n) /\ W.heap.size <= K /\ za0 w' K n T N X /\ Below W.heap.size W w')
       /\ Hid (∀ (K c : Nat) (W : World), za0 W K n T N X -> Calls Tryz.prog 171 #[.slice (some ⟨K, 0, none⟩) n c, .int .u64 (za ws (P + 1))] W fun e w' => ∃ q, e = .returned (.bool q) /\ (q = true ↔ EP) /\ Below W.heap.size W w')
       /\ Hid (zhf ws (pl.take k) P ↔ (Q ≠ 0 -> zee ws (pl.take k) (Q : Int) = false) /\ EP)
       /\ Hid (∀ x, x ≠ 0 -> (decide (x = (Q : Int)) || zee ws (pl.take k) x) = zee ws (pl.take (k + 1)) x)
       /\ Q < ws.length := by
       rcases HTI.out.2.1 with h0 | h8
       · refine ⟨0, 0, fun _ => 0, fun _ => 0, fun _ => ⟨#[]⟩, za ws (P + 1) = 0, ?_, ?_, ?_, ?_, ?_, by omega⟩
         · exact fun W hW => zr1 b off cw ws smz toh top cyc sn old cpz sr ar cr rs _ P W rfl (zh hb HC.out hW).1 (zh hb HC.out hW).2 hn hw hP3 h0
         · exact fun W hW => zt2 b off cw ws smz toh top cyc sn old cpz sr ar cr rs _ _ _ W
         · exact fun K c W hK => zrw _ _ _ K c _ W (zac hw (P + 1)).1 (zac hw (P + 1)).2 hK
         · show zhf ws (pl.take k) P ↔ _
           unfold zhf
           rw [h0]
           simp [H2.out]
         · intro x hx
           rw [HHN.out x]; simp [h0, hx]
       · obtain ⟨a1, a2, a3, a4, a5, a6, a7, a8⟩ := HTI.out.1.2 h8
         have a9 := (HTI.out.2.2 h8).1
         have hQ : zi ws (rvN ws (P + 2)).toNat = (zk ws P : Int) := by unfold zk; omega
         refine ⟨zk ws P, zao ws (zk ws P), kT ws (zk ws P), pN ws (zk ws P), pS ws (zk ws P), zii ws (zk ws P) (za ws (P + 1)), ?_, ?_, ?_, ?_, ?_, a4⟩
         · exact fun W hW => zr2 b off cw ws smz toh top cyc sn old cpz sr ar cr rs _ 8 P (rvN ws (P + 2)).toNat (zk ws P) W rfl (zh hb HC.out hW).1 (zh hb HC.out hW).2 hn hw hP3 h8 rfl (by omega) (by omega) hQ
         · exact fun W hW => zt1 b off cw ws smz toh top cyc sn old cpz sr ar cr rs _ (zk ws P) (zao ws (zk ws P)) W rfl a9 (zh hb HC.out hW).1 (zh hb HC.out hW).2 hn hw rfl (zxt _ (zac hw _).1) a6 a7
         · exact fun K c W hK => zpc ws P K c _ W HTI.out h8 hw (zac hw (P + 1)).1 (zac hw (P + 1)).2 hK
         · show zhf ws (pl.take k) P ↔ _
           unfold zhf
           rw [h8]
           have : zk ws P ≠ 0 := by omega
           simp [H2.out, this]
         · intro x hx
           rw [HHN.out x, Bool.or_comm]; simp [H2.out, h8]
      have wfQ : (Lit.int .i64 (Q : Int)).wf = true := wfI (by omega) (by omega)
      clear HHN HTI H2
      have HCR' := HCR
      go_upto_region 7 with (first | (go_at_call 81; refine (zc3 _ _ _ _ _ _ _ _ _ _ _ _ _ _ _ P _ rfl (zcq hbr HCR.out) hn hw hPl).mono ?_; rintro e w5 ⟨rfl, b5⟩; have B5 : Below w.heap.size w w5 := zc hB b5; have KS5 := ze KSr b5 lsvr) | (go_at_call 170; refine (HBO.out _ B5).mono ?_; rintro e w6 ⟨rfl, b6⟩))
      have B6 : Below w.heap.size w w6 := zc B5 b6
      have b56 := zc b5 b6
      have KS6 := ze KSr b56 lsvr
      have lsv6 : sv < w6.heap.size := Nat.lt_of_lt_of_le lsvr b56.size
      have HM6 : Hid (zb7 w6 w.heap.size k h) := HM.out.of_block (b56.block _ hmz)
      have hmz6 : w.heap.size < w6.heap.size := Nat.lt_of_lt_of_le hmz b56.size
      clear HCR' HCR KSr HM hcp1 hmz b5 b6 KS5 b56 HBO
      obtain ⟨c, hlk⟩ := HM6.out.look wfQ
      by_cases hA : h (Q : Int) = true /\ Q ≠ 0
      · have HBAD : Hid (¬ zbs ws pl pl.length) := fun g => by
         have := (HTR.out.1 (HNO.out g)).1 hA.2
         rw [<- HH.out (Q : Int) (by omega), hA.1] at this
         simp at this
        have hq : ((Q : Int) != 0) = true := by simp; exact hA.2
        rw [hA.1] at hlk
        clear hA
        go_wp2
        go_ret
        first
         | exact ⟨false, rfl, ⟨fun g => by simp at g, fun g => absurd g HBAD.out⟩, B6⟩
         | exact Or.inl ⟨rfl, HBAD.out, B6⟩
      · have HADT : Hid (Q ≠ 0 -> zee ws (pl.take k) (Q : Int) = false) := fun hq => by
         rw [<- HH.out (Q : Int) (by omega)]
         cases hx : h (Q : Int) with
         | false => rfl
         | true => exact absurd ⟨hx, hq⟩ hA
        have hgo : h (Q : Int) = false \/ (h (Q : Int) = true /\ ((Q : Int) != 0) = false) := by
         cases hx : h (Q : Int) with
         | false => exact .inl rfl
         | true =>
           refine .inr ⟨rfl, ?_⟩
           have : Q = 0 := by
            by_cases e : Q = 0
            · exact e
            · exact absurd ⟨hx, e⟩ hA
           simp [this]
        clear hA
        obtain ⟨w7, hup, hm7, hg7⟩ := HM6.out.put (by omega) wfQ wfP
        have HM7 : Hid (zb7 w7 w.heap.size (k + 1) (fun z => decide (z = (Q : Int)) || h z)) := hm7
        have HH7 : Hid (∀ x, x ≠ 0 -> (decide (x = (Q : Int)) || h x) = zee ws (pl.take (k + 1)) x) := fun x hx => by rw [HH.out x hx]; exact HMQ.out x hx
        have hk7 : ∀ j, j < w6.heap.size -> j ≠ w.heap.size -> w7.heap[j]? = w6.heap[j]? := fun j hj e => hg7.block j hj (by intro g; cases g; exact e rfl)
        have B7 : Below w.heap.size w w7 := ⟨hg7.os.trans B6.os, hg7.tape.trans B6.tape, hg7.output.trans B6.output, Nat.le_trans B6.size hg7.size, fun j hj => (hk7 j (by have := B6.size; omega) (by omega)).trans (B6.block j hj)⟩
        have KS7 := ze KS B7 lsv
        have lsv7 : sv < w7.heap.size := Nat.lt_of_lt_of_le lsv B7.size
        obtain ⟨hb7, hc7⟩ := zh hb HC.out B7
        have hu7 := hc7 (P + 1) (by omega)
        have hmz7 : w.heap.size < w7.heap.size := hm7.lt
        have KP : ∀ W, Below w7.heap.size w7 W -> (Below w7.heap.size w7 W /\ (∀ i, W.cell? ⟨sv, i, none⟩ = (#[.slice (some ⟨b, off, none⟩) ws.length cw, .int .i64 smz, .int .i64 toh, .int .i64 top, .bool cyc, .int .i64 sn, .int .i64 old, .int .i64 cpz, .int .i64 sr, .slice ar rs.length cr, .slice (some ⟨bl, 0, none⟩) ws.length cl, .slice (some ⟨bp, op, none⟩) pl.length cv, .map (some bs), .map (some bc)] : Array Value)[i]?) /\ W.cell? ⟨b, off + (P + 1), none⟩ = some (.int .u64 (za ws (P + 1)))) := fun W hW => ⟨hW, ze KS7 hW lsv7, by rw [hW.cell (p := ⟨b, off + (P + 1), none⟩) hb7]; exact hu7⟩
        have b7' := (Below.refl w7.heap.size w7).drew
        have i0 : (0 : Int) <= (P : Int) + 1 := by omega
        have i1 : (P : Int) + 1 < (ws.length : Int) := by omega
        have i2 : ((P : Int) + 1).toNat = P + 1 := by omega
        have i3 : IntKind.i64.wrap ((P : Int) + 1) = (P : Int) + 1 := by rw [IntKind.wrap_i64]; omega
        have HN : Hid (EP -> zbs ws pl (k + 1)) := fun g => HST.out (HTR.out.2 ⟨HADT.out, g⟩)
        have HBD : Hid (zbs ws pl pl.length -> EP) := fun g => (HTR.out.1 (HNO.out g)).2
        have HB7 : Hid (Below w.heap.size w w7) := B7
        clear hc7 HM6 hm7 hg7 hk7 KS6 KS hb7 hu7 KS7 B7 HTR HMQ HADT HH HST HNO
        rcases hgo with hd | ⟨hd, hq⟩ <;> rw [hd] at hlk <;> clear hd
        all_goals
         go_upto_region 11 with fail
         go_region_held3 (fun W => Below w7.heap.size w7 W /\ (∀ i, W.cell? ⟨sv, i, none⟩ = (#[.slice (some ⟨b, off, none⟩) ws.length cw, .int .i64 smz, .int .i64 toh, .int .i64 top, .bool cyc, .int .i64 sn, .int .i64 old, .int .i64 cpz, .int .i64 sr, .slice ar rs.length cr, .slice (some ⟨bl, 0, none⟩) ws.length cl, .slice (some ⟨bp, op, none⟩) pl.length cv, .map (some bs), .map (some bc)] : Array Value)[i]?) /\ W.cell? ⟨b, off + (P + 1), none⟩ = some (.int .u64 (za ws (P + 1)))) (first | assumption | exact KP _ b7' | exact KP _ (by assumption)) (first | (go_at_call 172; refine (HKO.out _ (zc HB7.out b7')).mono ?_; rintro e w8 ⟨K8, rfl, hK8, hK, b8⟩; have hB8 := zc b7' b8; clear b8) | (go_at_call 171; refine (HEN.out K8 _ _ hK).mono ?_; rintro e w9 ⟨q, rfl, hq9, b9⟩; have hB9 := zc hB8 b9; clear b9))
         all_goals
          have HQ9 : Hid (q = true ↔ EP) := hq9
          clear hq9
          cases q with
          | true =>
            have HNN : Hid (zbs ws pl (k + 1)) := HN.out (HQ9.out.1 rfl)
            go_wp2_with fail
            exact ⟨⟨k + 1, hlt, by go_num, ⟨_, HM7.out.of_block (hB9.block _ hmz7), HH7⟩, HNN, Nat.lt_of_lt_of_le hmz7 hB9.size, zc HB7.out hB9⟩, by simp [intOf]; omega⟩
          | false =>
            have HBAD : Hid (¬ zbs ws pl pl.length) := fun g => by have := HQ9.out.2 (HBD.out g); simp at this
            have b79 := zc HB7.out hB9
            go_wp2_with fail
            go_ret
            first
             | exact ⟨false, rfl, ⟨fun g => by simp at g, fun g => absurd g HBAD.out⟩, b79⟩
             | exact Or.inl ⟨rfl, HBAD.out, b79⟩
    · have e2 : (rdK (za ws P) != 2) = true := by simp [h2]
      have HN : Hid (zbs ws pl (k + 1)) := HST.out (fun g => absurd g h2)
      have HMN : Hid (∀ x, x ≠ 0 -> h x = zee ws (pl.take (k + 1)) x) := fun x hx => by rw [HH.out x hx, HHN.out x]; simp [h2]
      clear h2 HTP
      go_wp2_with (go_at_call 81; refine (zc3 _ _ _ _ _ _ _ _ _ _ _ _ _ _ _ P _ rfl (zcq hbr HCR.out) hn hw hPl).mono ?_; rintro e w5 ⟨rfl, b5⟩)
      exact ⟨⟨k + 1, hlt, by go_num, ⟨_, (HM.out.of_block (b5.block _ hmz)).mono (by omega), HMN⟩, HN, Nat.lt_of_lt_of_le hmz b5.size, zc hB b5⟩, by simp [intOf]; omega⟩
  · have hkl : k = pl.length := by omega
    have HTL : Hid (zbs ws pl pl.length) := by have := HT.out; rw [hkl] at this; exact this
    have hge : (pl.length : Int) <= (k : Int) := by omega
    clear hkl
    go_wp2
    go_ret
    first
     | exact ⟨true, rfl, ⟨fun _ => HTL.out, fun _ => rfl⟩, hB⟩
     | exact Or.inr ⟨rfl, HTL.out, hB⟩
def zcs (ws : List Int) (lead : Nat -> Int) (F top t m : Int) : Bool := vOk t m && (decide (t ≠ 8) && (!isR t || (zf5 ws lead t m && decide (F <= m /\ m < top))))
def zbl (ws : List Int) (lead : Nat -> Int) (F top : Int) (y : Nat -> Int) (k : Nat) : Prop := ∀ i, i < k -> zcs ws lead F top (y (2 * i)) (y (2 * i + 1)) = true
set_option maxHeartbeats 4000000 in
theorem zka (b off cw : Nat) (ws : List Int) (smz toh top : Int) (cyc : Bool) (sn old cpz sr : Int) (ar : Option Addr) (cr : Nat) (rs : List (Int × Int)) (sv bl cl bs bc : Nat) (vp : Value) (lead : Nat -> Int) (y : Nat -> Int) (Tr : Nat) (F : Int) (w : World) (lsv : sv < w.heap.size) (KS : ∀ i, w.cell? ⟨sv, i, none⟩ = (#[.slice (some ⟨b, off, none⟩) ws.length cw, .int .i64 smz, .int .i64 toh, .int .i64 top, .bool cyc, .int .i64 sn, .int .i64 old, .int .i64 cpz, .int .i64 sr, .slice ar rs.length cr, .slice (some ⟨bl, 0, none⟩) ws.length cl, vp, .map (some bs), .map (some bc)] : Array Value)[i]?) (lbl : bl < w.heap.size) (hl : ∀ i, i < ws.length -> w.cell? ⟨bl, i, none⟩ = some (.int .i64 (lead i))) (hb : b < w.heap.size) (hc : ∀ i, i < ws.length -> w.cell? ⟨b, off + i, none⟩ = some (.int .u64 (za ws i))) (hn : ws.length <= 1048576) (hw : zg ws) (hrt : SlF Tr w (.slice ar rs.length cr) rs.length (2 * rs.length) (fun i => .int .i64 (y i))) (hrl : rs.length <= 24) (t0 : 0 <= toh) (t1 : toh <= 1) (s0 : 256 <= smz) (s1 : smz <= 4000) (hF : toh * smz + 1 = F) (hlr : ∀ i, i < ws.length -> 0 <= lead i /\ lead i < ws.length) :
 Calls Tryz.prog 136 #[.pointer (some ⟨sv, 0, none⟩)] w fun e w' => ∃ q, e = .returned (.bool q) /\ (q = true ↔ zbl ws lead F top y rs.length) /\ Below w.heap.size w w' := by
 have HF : Hid (toh * smz + 1 = F) := hF
 have HL : Hid (∀ i, i < ws.length -> w.cell? ⟨bl, i, none⟩ = some (.int .i64 (lead i))) := hl
 have HC : Hid (∀ i, i < ws.length -> w.cell? ⟨b, off + i, none⟩ = some (.int .u64 (za ws i))) := hc
 have HLR : Hid (∀ i, i < ws.length -> 0 <= lead i /\ lead i < ws.length) := hlr
 have HRT : Hid (SlF w.heap.size w (.slice ar rs.length cr) rs.length (2 * rs.length) (fun i => .int .i64 (y i))) := hrt.here
 have HIO : ∀ W t m, Below w.heap.size w W -> 0 <= m -> Calls Tryz.prog 174 #[.pointer (some ⟨sv, 0, none⟩), .agg #[.int .i64 t, .int .i64 m]] W fun e w' => e = .returned (.bool (zf5 ws lead t m)) /\ Below W.heap.size W w' := fun W t m hW hm =>
  zix b off cw ws smz toh top cyc sn old cpz sr ar cr rs sv bl cl bs bc vp lead t m W (Nat.lt_of_lt_of_le lsv hW.size) (ze KS hW lsv) (Nat.lt_of_lt_of_le lbl hW.size) (fun i hi => by rw [hW.cell (p := ⟨bl, i, none⟩) lbl]; exact HL.out i hi) (zh hb HC.out hW).1 (zh hb HC.out hW).2 hn hw hm HLR.out
 have hrl' : (rs.length : Int) <= 24 := by omega
 clear hF hl hc hlr hrt
 go_enter Tryz.func136, Tryz.ntmps136
 go_wp2
 go_loopw [11] (fun u11 wr => ∃ k : Nat, k <= rs.length /\ u11 = .int .i64 k /\ zbl ws lead F top y k /\ Below w.heap.size w wr) (fun u11 _ => rs.length - (intOf u11).toNat)
 case atStart => exact ⟨0, Nat.zero_le _, rfl, fun i hi => absurd hi (by omega), Below.refl _ _⟩
 case round =>
  obtain ⟨k, hk, rfl, hro, hB⟩ := hrel
  have HRO : Hid (zbl ws lead F top y k) := hro
  clear hro
  by_cases hlt : k < rs.length
  · have hlt' : (k : Int) < (rs.length : Int) := by omega
    obtain ⟨br, offr, cap, hv, _, lbr, hcr⟩ := HRT.out.parts (k := 0) (by omega)
    simp only [Value.slice.injEq] at hv
    obtain ⟨rfl, _, rfl⟩ := hv
    have hc1 : wr.cell? ⟨br, offr + k * 2, none⟩ = some (.int .i64 (y (2 * k))) := by rw [hB.cell (p := ⟨br, offr + k * 2, none⟩) lbr, Nat.mul_comm]; exact hcr (2 * k) (by omega)
    have hd1 : wr.cell? ⟨br, offr + k * 2 + 1, none⟩ = some (.int .i64 (y (2 * k + 1))) := by rw [hB.cell (p := ⟨br, offr + k * 2 + 1, none⟩) lbr, Nat.mul_comm]; exact hcr (2 * k + 1) (by omega)
    have HST : Hid (zcs ws lead F top (y (2 * k)) (y (2 * k + 1)) = true -> zbl ws lead F top y (k + 1)) := fun g i hi => by
     by_cases e : i = k
     · subst e; exact g
     · exact HRO.out i (by omega)
    have HNO : Hid (zbl ws lead F top y rs.length -> zcs ws lead F top (y (2 * k)) (y (2 * k + 1)) = true) := fun g => g k hlt
    clear hcr HRT
    generalize y (2 * k) = t at *
    generalize y (2 * k + 1) = m at *
    have hBv : Below w.heap.size w (wr.alloc (.cells #[.int .i64 t, .int .i64 m] 48)) := hB.alloc hB.size _
    cases hvk : vOk t m with
    | false =>
      have HBAD : Hid (zcs ws lead F top t m = false) := by show zcs ws lead F top t m = false; simp [zcs, hvk]
      go_wp2_with (go_at_call 173; refine (zdv t m _).mono ?_; rw [hvk]; rintro e w6 ⟨rfl, b6⟩; have q6 : ∀ i, w6.cell? ⟨wr.heap.size, i, none⟩ = (#[.int .i64 t, .int .i64 m] : Array Value)[i]? := zp b6 (by simp))
      go_ret
      exact ⟨false, rfl, ⟨fun g => by simp at g, fun g => by have := HNO.out g; rw [HBAD.out] at this; simp at this⟩, zc hBv b6⟩
    | true =>
    by_cases h8 : t = 8
    · have e8 : (t == 8) = true := by simpa using h8
      have HBAD : Hid (zcs ws lead F top t m = false) := by show zcs ws lead F top t m = false; simp [zcs, h8]
      clear h8
      go_wp2_with (go_at_call 173; refine (zdv t m _).mono ?_; rw [hvk]; rintro e w6 ⟨rfl, b6⟩; have q6 : ∀ i, w6.cell? ⟨wr.heap.size, i, none⟩ = (#[.int .i64 t, .int .i64 m] : Array Value)[i]? := zp b6 (by simp))
      go_ret
      exact ⟨false, rfl, ⟨fun g => by simp at g, fun g => by have := HNO.out g; rw [HBAD.out] at this; simp at this⟩, zc hBv b6⟩
    · have e8 : (t == 8) = false := by simpa using h8
      have H8 : Hid (t ≠ 8) := h8
      have hpos : isR t = true -> 0 < m := fun g => by simp only [vOk, isR, decide_eq_true_eq] at hvk g; omega
      have HPOS : Hid (isR t = true -> 0 < m) := hpos
      clear h8 hpos
      go_upto_region 6 with (go_at_call 173; refine (zdv t m _).mono ?_; rw [hvk]; rintro e w6 ⟨rfl, b6⟩; have q6 : ∀ i, w6.cell? ⟨wr.heap.size, i, none⟩ = (#[.int .i64 t, .int .i64 m] : Array Value)[i]? := zp b6 (by simp))
      have B6 : Below w.heap.size w w6 := zc hBv b6
      have l6 : wr.heap.size < w6.heap.size := by have := b6.size; simp at this; omega
      have KP : ∀ W, Below w6.heap.size w6 W -> (Below w6.heap.size w6 W /\ (∀ i, W.cell? ⟨sv, i, none⟩ = (#[.slice (some ⟨b, off, none⟩) ws.length cw, .int .i64 smz, .int .i64 toh, .int .i64 top, .bool cyc, .int .i64 sn, .int .i64 old, .int .i64 cpz, .int .i64 sr, .slice (some ⟨br, offr, none⟩) rs.length cr, .slice (some ⟨bl, 0, none⟩) ws.length cl, vp, .map (some bs), .map (some bc)] : Array Value)[i]?) /\ (∀ i, W.cell? ⟨wr.heap.size, i, none⟩ = (#[.int .i64 t, .int .i64 m] : Array Value)[i]?)) := fun W hW => ⟨hW, ze KS (zc B6 hW) lsv, ze q6 hW l6⟩
      have b6' := (Below.refl w6.heap.size w6).drew
      clear b6 q6
      cases hr : isR t with
      | false =>
        have HNX : Hid (zbl ws lead F top y (k + 1)) := HST.out (by have := H8.out; simp [zcs, hvk, hr, this])
        clear HIO
        refine wp_region_held_drew (S := fun W => Below w6.heap.size w6 W /\ (∀ i, W.cell? ⟨sv, i, none⟩ = (#[.slice (some ⟨b, off, none⟩) ws.length cw, .int .i64 smz, .int .i64 toh, .int .i64 top, .bool cyc, .int .i64 sn, .int .i64 old, .int .i64 cpz, .int .i64 sr, .slice (some ⟨br, offr, none⟩) rs.length cr, .slice (some ⟨bl, 0, none⟩) ws.length cl, vp, .map (some bs), .map (some bc)] : Array Value)[i]?) /\ (∀ i, W.cell? ⟨wr.heap.size, i, none⟩ = (#[.int .i64 t, .int .i64 m] : Array Value)[i]?)) (by kernel_rfl) (KP _ b6') (fun hHeld => ?_)
        refine wpAnyH_take (i := 0) (oi := { dst := some 23, op := _, type := _, pos := _, after := _, guard := _ }) (v := .agg #[.int .i64 t, .int .i64 m]) rfl (by kernel_rfl) (by kernel_rfl) (by kernel_rfl) (fun _ _ _ h => h) (Or.inl ⟨by kernel_rfl, ?_⟩) hHeld ?_
        · intro w hSw
          (try dsimp only at hSw)
          go_simp
        try simp only [Act.put, zyd, zye, zyf]
        refine wpAnyH_ready (rs := [1]) (by kernel_rfl) (by simp) ?_
        refine AllReadyH.cons (o := { dst := some 24, op := _, type := _, pos := _, after := _, guard := _ }) rfl (fun K hK => ?_) AllReadyH.nil
        go_simp
        go_at_call 119
        refine (za6 t m _).mono ?_
        rw [hr]
        rintro e w' ⟨rfl, hb⟩
        have hB3 := zc (w := w6) hHeld.1 hb
        clear hb hHeld
        refine hK.out _ _ (KP _ hB3) (fun hHeld => ?_)
        clear hK K
        try simp only [Act.put, zyd, zye, zyf]
        refine wpAnyH_take (i := 2) (oi := { dst := some 25, op := _, type := _, pos := _, after := _, guard := _ }) (v := .bool false) rfl (by kernel_rfl) (by kernel_rfl) (by kernel_rfl) (fun _ _ _ h => h) (Or.inl ⟨by kernel_rfl, ?_⟩) hHeld ?_
        · intro w hSw
          go_simp
        try simp only [Act.put, zyd, zye, zyf]
        refine wpAnyH_take (i := 3) (oi := { dst := some 26, op := _, type := _, pos := _, after := _, guard := _ }) (v := undef) rfl (by kernel_rfl) (by kernel_rfl) (by kernel_rfl) (fun _ _ _ h => h) (Or.inr ⟨by kernel_rfl, rfl⟩) hHeld ?_
        try simp only [Act.put, zyd, zye, zyf]
        refine wpAnyH_take (i := 4) (oi := { dst := some 27, op := _, type := _, pos := _, after := _, guard := _ }) (v := undef) rfl (by kernel_rfl) (by kernel_rfl) (by kernel_rfl) (fun _ _ _ h => h) (Or.inr ⟨by kernel_rfl, rfl⟩) hHeld ?_
        try simp only [Act.put, zyd, zye, zyf]
        refine wpAnyH_take (i := 5) (oi := { dst := some 28, op := _, type := _, pos := _, after := _, guard := _ }) (v := undef) rfl (by kernel_rfl) (by kernel_rfl) (by kernel_rfl) (fun _ _ _ h => h) (Or.inr ⟨by kernel_rfl, rfl⟩) hHeld ?_
        try simp only [Act.put, zyd, zye, zyf]
        refine wpAnyH_take (i := 6) (oi := { dst := some 29, op := _, type := _, pos := _, after := _, guard := _ }) (v := undef) rfl (by kernel_rfl) (by kernel_rfl) (by kernel_rfl) (fun _ _ _ h => h) (Or.inr ⟨by kernel_rfl, rfl⟩) hHeld ?_
        try simp only [Act.put, zyd, zye, zyf]
        refine wpAnyH_take (i := 7) (oi := { dst := some 30, op := _, type := _, pos := _, after := _, guard := _ }) (v := undef) rfl (by kernel_rfl) (by kernel_rfl) (by kernel_rfl) (fun _ _ _ h => h) (Or.inr ⟨by kernel_rfl, rfl⟩) hHeld ?_
        try simp only [Act.put, zyd, zye, zyf]
        refine wpAnyH_take (i := 8) (oi := { dst := some 31, op := _, type := _, pos := _, after := _, guard := _ }) (v := undef) rfl (by kernel_rfl) (by kernel_rfl) (by kernel_rfl) (fun _ _ _ h => h) (Or.inr ⟨by kernel_rfl, rfl⟩) hHeld ?_
        try simp only [Act.put, zyd, zye, zyf]
        refine wpAnyH_take (i := 9) (oi := { dst := some 32, op := _, type := _, pos := _, after := _, guard := _ }) (v := undef) rfl (by kernel_rfl) (by kernel_rfl) (by kernel_rfl) (fun _ _ _ h => h) (Or.inr ⟨by kernel_rfl, rfl⟩) hHeld ?_
        try simp only [Act.put, zyd, zye, zyf]
        refine wpAnyH_take (i := 10) (oi := { dst := some 33, op := _, type := _, pos := _, after := _, guard := _ }) (v := undef) rfl (by kernel_rfl) (by kernel_rfl) (by kernel_rfl) (fun _ _ _ h => h) (Or.inr ⟨by kernel_rfl, rfl⟩) hHeld ?_
        try simp only [Act.put, zyd, zye, zyf]
        refine wpAnyH_take (i := 11) (oi := { dst := some 34, op := _, type := _, pos := _, after := _, guard := _ }) (v := undef) rfl (by kernel_rfl) (by kernel_rfl) (by kernel_rfl) (fun _ _ _ h => h) (Or.inr ⟨by kernel_rfl, rfl⟩) hHeld ?_
        try simp only [Act.put, zyd, zye, zyf]
        refine wpAnyH_take (i := 12) (oi := { dst := some 35, op := _, type := _, pos := _, after := _, guard := _ }) (v := undef) rfl (by kernel_rfl) (by kernel_rfl) (by kernel_rfl) (fun _ _ _ h => h) (Or.inr ⟨by kernel_rfl, rfl⟩) hHeld ?_
        try simp only [Act.put, zyd, zye, zyf]
        refine wpAnyH_take (i := 13) (oi := { dst := some 36, op := _, type := _, pos := _, after := _, guard := _ }) (v := undef) rfl (by kernel_rfl) (by kernel_rfl) (by kernel_rfl) (fun _ _ _ h => h) (Or.inr ⟨by kernel_rfl, rfl⟩) hHeld ?_
        try simp only [Act.put, zyd, zye, zyf]
        refine wpAnyH_take (i := 14) (oi := { dst := some 37, op := _, type := _, pos := _, after := _, guard := _ }) (v := undef) rfl (by kernel_rfl) (by kernel_rfl) (by kernel_rfl) (fun _ _ _ h => h) (Or.inr ⟨by kernel_rfl, rfl⟩) hHeld ?_
        try simp only [Act.put, zyd, zye, zyf]
        refine wpAnyH_take (i := 15) (oi := { dst := some 38, op := _, type := _, pos := _, after := _, guard := _ }) (v := undef) rfl (by kernel_rfl) (by kernel_rfl) (by kernel_rfl) (fun _ _ _ h => h) (Or.inr ⟨by kernel_rfl, rfl⟩) hHeld ?_
        try simp only [Act.put, zyd, zye, zyf]
        refine wpAnyH_take (i := 16) (oi := { dst := some 39, op := _, type := _, pos := _, after := _, guard := _ }) (v := .bool false) rfl (by kernel_rfl) (by kernel_rfl) (by kernel_rfl) (fun _ _ _ h => h) (Or.inl ⟨by kernel_rfl, ?_⟩) hHeld ?_
        · intro w hSw
          go_simp
        try simp only [Act.put, zyd, zye, zyf]
        refine wpAnyH_done (by kernel_rfl) ?_ _
        go_wp2
        first
         | (refine ⟨⟨k + 1, hlt, by go_num, HNX.out, zc B6 hHeld.1⟩, by simp [intOf]; omega⟩)
         | (go_roundw
            case rel => exact ⟨k + 1, hlt, by go_num, HNX.out, zc B6 hHeld.1⟩
            case measure => simp [intOf]; omega)
      | true =>
        have hm0 : 0 <= m := by have := HPOS.out hr; omega
        cases ho : zf5 ws lead t m with
        | false =>
          have HBAD : Hid (zcs ws lead F top t m = false) := by show zcs ws lead F top t m = false; simp [zcs, hr, ho]
          refine wp_region_held_drew (S := fun W => Below w6.heap.size w6 W /\ (∀ i, W.cell? ⟨sv, i, none⟩ = (#[.slice (some ⟨b, off, none⟩) ws.length cw, .int .i64 smz, .int .i64 toh, .int .i64 top, .bool cyc, .int .i64 sn, .int .i64 old, .int .i64 cpz, .int .i64 sr, .slice (some ⟨br, offr, none⟩) rs.length cr, .slice (some ⟨bl, 0, none⟩) ws.length cl, vp, .map (some bs), .map (some bc)] : Array Value)[i]?) /\ (∀ i, W.cell? ⟨wr.heap.size, i, none⟩ = (#[.int .i64 t, .int .i64 m] : Array Value)[i]?)) (by kernel_rfl) (KP _ b6') (fun hHeld => ?_)
          refine wpAnyH_take (i := 0) (oi := { dst := some 23, op := _, type := _, pos := _, after := _, guard := _ }) (v := .agg #[.int .i64 t, .int .i64 m]) rfl (by kernel_rfl) (by kernel_rfl) (by kernel_rfl) (fun _ _ _ h => h) (Or.inl ⟨by kernel_rfl, ?_⟩) hHeld ?_
          · intro w hSw
            (try dsimp only at hSw)
            go_simp
          try simp only [Act.put, zyd, zye, zyf]
          refine wpAnyH_ready (rs := [1]) (by kernel_rfl) (by simp) ?_
          refine AllReadyH.cons (o := { dst := some 24, op := _, type := _, pos := _, after := _, guard := _ }) rfl (fun K hK => ?_) AllReadyH.nil
          go_simp
          go_at_call 119
          refine (za6 t m _).mono ?_
          rw [hr]
          rintro e w' ⟨rfl, hb⟩
          have hB3 := zc (w := w6) hHeld.1 hb
          clear hb
          clear hHeld
          refine hK.out _ _ (KP _ hB3) (fun hHeld => ?_)
          clear hK K
          try simp only [Act.put, zyd, zye, zyf]
          refine wpAnyH_take (i := 2) (oi := { dst := some 25, op := _, type := _, pos := _, after := _, guard := _ }) (v := .bool true) rfl (by kernel_rfl) (by kernel_rfl) (by kernel_rfl) (fun _ _ _ h => h) (Or.inl ⟨by kernel_rfl, ?_⟩) hHeld ?_
          · intro w hSw
            (try dsimp only at hSw)
            go_simp
          try simp only [Act.put, zyd, zye, zyf]
          refine wpAnyH_take (i := 3) (oi := { dst := some 26, op := _, type := _, pos := _, after := _, guard := _ }) (v := .pointer (some ⟨sv, 0, none⟩)) rfl (by kernel_rfl) (by kernel_rfl) (by kernel_rfl) (fun _ _ _ h => h) (Or.inl ⟨by kernel_rfl, ?_⟩) hHeld ?_
          · intro w hSw
            (try dsimp only at hSw)
            go_simp
          try simp only [Act.put, zyd, zye, zyf]
          refine wpAnyH_take (i := 4) (oi := { dst := some 27, op := _, type := _, pos := _, after := _, guard := _ }) (v := .agg #[.int .i64 t, .int .i64 m]) rfl (by kernel_rfl) (by kernel_rfl) (by kernel_rfl) (fun _ _ _ h => h) (Or.inl ⟨by kernel_rfl, ?_⟩) hHeld ?_
          · intro w hSw
            (try dsimp only at hSw)
            go_simp
          try simp only [Act.put, zyd, zye, zyf]
          refine wpAnyH_ready (rs := [5]) (by kernel_rfl) (by simp) ?_
          refine AllReadyH.cons (o := { dst := some 28, op := _, type := _, pos := _, after := _, guard := _ }) rfl (fun K hK => ?_) AllReadyH.nil
          go_simp
          go_at_call 174
          refine (HIO _ t m (zc B6 hHeld.1) hm0).mono ?_
          rw [ho]
          rintro e w'' ⟨rfl, hb⟩
          have hB4 := zc (w := w6) hHeld.1 hb
          clear hb
          clear hHeld
          refine hK.out _ _ (KP _ hB4) (fun hHeld => ?_)
          clear hK K
          try simp only [Act.put, zyd, zye, zyf]
          refine wpAnyH_take (i := 6) (oi := { dst := some 29, op := _, type := _, pos := _, after := _, guard := _ }) (v := .bool false) rfl (by kernel_rfl) (by kernel_rfl) (by kernel_rfl) (fun _ _ _ h => h) (Or.inl ⟨by kernel_rfl, ?_⟩) hHeld ?_
          · intro w hSw
            (try dsimp only at hSw)
            go_simp
          try simp only [Act.put, zyd, zye, zyf]
          refine wpAnyH_take (i := 7) (oi := { dst := some 30, op := _, type := _, pos := _, after := _, guard := _ }) (v := undef) rfl (by kernel_rfl) (by kernel_rfl) (by kernel_rfl) (fun _ _ _ h => h) (Or.inr ⟨by kernel_rfl, rfl⟩) hHeld ?_
          try simp only [Act.put, zyd, zye, zyf]
          refine wpAnyH_take (i := 8) (oi := { dst := some 31, op := _, type := _, pos := _, after := _, guard := _ }) (v := undef) rfl (by kernel_rfl) (by kernel_rfl) (by kernel_rfl) (fun _ _ _ h => h) (Or.inr ⟨by kernel_rfl, rfl⟩) hHeld ?_
          try simp only [Act.put, zyd, zye, zyf]
          refine wpAnyH_take (i := 9) (oi := { dst := some 32, op := _, type := _, pos := _, after := _, guard := _ }) (v := undef) rfl (by kernel_rfl) (by kernel_rfl) (by kernel_rfl) (fun _ _ _ h => h) (Or.inr ⟨by kernel_rfl, rfl⟩) hHeld ?_
          try simp only [Act.put, zyd, zye, zyf]
          refine wpAnyH_take (i := 10) (oi := { dst := some 33, op := _, type := _, pos := _, after := _, guard := _ }) (v := undef) rfl (by kernel_rfl) (by kernel_rfl) (by kernel_rfl) (fun _ _ _ h => h) (Or.inr ⟨by kernel_rfl, rfl⟩) hHeld ?_
          try simp only [Act.put, zyd, zye, zyf]
          refine wpAnyH_take (i := 11) (oi := { dst := some 34, op := _, type := _, pos := _, after := _, guard := _ }) (v := undef) rfl (by kernel_rfl) (by kernel_rfl) (by kernel_rfl) (fun _ _ _ h => h) (Or.inr ⟨by kernel_rfl, rfl⟩) hHeld ?_
          try simp only [Act.put, zyd, zye, zyf]
          refine wpAnyH_take (i := 12) (oi := { dst := some 35, op := _, type := _, pos := _, after := _, guard := _ }) (v := undef) rfl (by kernel_rfl) (by kernel_rfl) (by kernel_rfl) (fun _ _ _ h => h) (Or.inr ⟨by kernel_rfl, rfl⟩) hHeld ?_
          try simp only [Act.put, zyd, zye, zyf]
          refine wpAnyH_take (i := 13) (oi := { dst := some 36, op := _, type := _, pos := _, after := _, guard := _ }) (v := undef) rfl (by kernel_rfl) (by kernel_rfl) (by kernel_rfl) (fun _ _ _ h => h) (Or.inr ⟨by kernel_rfl, rfl⟩) hHeld ?_
          try simp only [Act.put, zyd, zye, zyf]
          refine wpAnyH_take (i := 14) (oi := { dst := some 37, op := _, type := _, pos := _, after := _, guard := _ }) (v := .bool false) rfl (by kernel_rfl) (by kernel_rfl) (by kernel_rfl) (fun _ _ _ h => h) (Or.inl ⟨by kernel_rfl, ?_⟩) hHeld ?_
          · intro w hSw
            (try dsimp only at hSw)
            go_simp
          try simp only [Act.put, zyd, zye, zyf]
          refine wpAnyH_take (i := 15) (oi := { dst := some 38, op := _, type := _, pos := _, after := _, guard := _ }) (v := .bool true) rfl (by kernel_rfl) (by kernel_rfl) (by kernel_rfl) (fun _ _ _ h => h) (Or.inl ⟨by kernel_rfl, ?_⟩) hHeld ?_
          · intro w hSw
            (try dsimp only at hSw)
            go_simp
          try simp only [Act.put, zyd, zye, zyf]
          refine wpAnyH_take (i := 16) (oi := { dst := some 39, op := _, type := _, pos := _, after := _, guard := _ }) (v := .bool true) rfl (by kernel_rfl) (by kernel_rfl) (by kernel_rfl) (fun _ _ _ h => h) (Or.inl ⟨by kernel_rfl, ?_⟩) hHeld ?_
          · intro w hSw
            (try dsimp only at hSw)
            go_simp
          try simp only [Act.put, zyd, zye, zyf]
          refine wpAnyH_done (by kernel_rfl) ?_ _
          go_wp2
          go_ret
          exact ⟨false, rfl, ⟨fun g => by simp at g, fun g => by have := HNO.out g; rw [HBAD.out] at this; simp at this⟩, zc B6 hHeld.1⟩
        | true =>
          cases hu : decide (F <= m /\ m < top) with
          | false =>
            have HBAD : Hid (zcs ws lead F top t m = false) := by show zcs ws lead F top t m = false; unfold zcs; rw [hu, hr, ho]; simp
            first
             | (go_region_held3 (fun W => Below w6.heap.size w6 W /\ (∀ i, W.cell? ⟨sv, i, none⟩ = (#[.slice (some ⟨b, off, none⟩) ws.length cw, .int .i64 smz, .int .i64 toh, .int .i64 top, .bool cyc, .int .i64 sn, .int .i64 old, .int .i64 cpz, .int .i64 sr, .slice (some ⟨br, offr, none⟩) rs.length cr, .slice (some ⟨bl, 0, none⟩) ws.length cl, vp, .map (some bs), .map (some bc)] : Array Value)[i]?) /\ (∀ i, W.cell? ⟨wr.heap.size, i, none⟩ = (#[.int .i64 t, .int .i64 m] : Array Value)[i]?)) (first | assumption | exact KP _ (by assumption) | exact KP _ b6') (first | (go_at_call 119; refine (za6 t m _).mono ?_; rw [hr]; rintro e w' ⟨rfl, hb⟩; have hB3 := zc (w := w6) (And.left (by assumption)) hb; clear hb) | (go_at_call 174; refine (HIO _ t m (zc B6 (And.left (by assumption))) hm0).mono ?_; rw [ho]; rintro e w' ⟨rfl, hb⟩; have hB3 := zc (w := w6) (And.left (by assumption)) hb; clear hb) | (go_at_call 175; refine (zcl _ _ _ _ _ _ _ _ _ _ _ _ _ _ m F _ t0 t1 s0 s1 HF.out).mono ?_; rw [hu]; rintro e w' ⟨rfl, hb⟩; have hB3 := zc (w := w6) (And.left (by assumption)) hb; clear hb)))
             | fail
            all_goals
             go_wp2
             go_ret
             exact ⟨false, rfl, ⟨fun g => by simp at g, fun g => by have := HNO.out g; rw [HBAD.out] at this; simp at this⟩, zc B6 (And.left (by assumption))⟩
          | true =>
            have HNX : Hid (zbl ws lead F top y (k + 1)) := HST.out (by have := H8.out; unfold zcs; rw [hu, hr, ho, hvk]; simp [this])
            first
             | (go_region_held3 (fun W => Below w6.heap.size w6 W /\ (∀ i, W.cell? ⟨sv, i, none⟩ = (#[.slice (some ⟨b, off, none⟩) ws.length cw, .int .i64 smz, .int .i64 toh, .int .i64 top, .bool cyc, .int .i64 sn, .int .i64 old, .int .i64 cpz, .int .i64 sr, .slice (some ⟨br, offr, none⟩) rs.length cr, .slice (some ⟨bl, 0, none⟩) ws.length cl, vp, .map (some bs), .map (some bc)] : Array Value)[i]?) /\ (∀ i, W.cell? ⟨wr.heap.size, i, none⟩ = (#[.int .i64 t, .int .i64 m] : Array Value)[i]?)) (first | assumption | exact KP _ (by assumption) | exact KP _ b6') (first | (go_at_call 119; refine (za6 t m _).mono ?_; rw [hr]; rintro e w' ⟨rfl, hb⟩; have hB3 := zc (w := w6) (And.left (by assumption)) hb; clear hb) | (go_at_call 174; refine (HIO _ t m (zc B6 (And.left (by assumption))) hm0).mono ?_; rw [ho]; rintro e w' ⟨rfl, hb⟩; have hB3 := zc (w := w6) (And.left (by assumption)) hb; clear hb) | (go_at_call 175; refine (zcl _ _ _ _ _ _ _ _ _ _ _ _ _ _ m F _ t0 t1 s0 s1 HF.out).mono ?_; rw [hu]; rintro e w' ⟨rfl, hb⟩; have hB3 := zc (w := w6) (And.left (by assumption)) hb; clear hb)))
             | fail
            all_goals
             go_wp2
             first
              | (refine ⟨⟨k + 1, hlt, by go_num, HNX.out, zc B6 (And.left (by assumption))⟩, by simp [intOf]; omega⟩)
              | (go_roundw
                 case rel => exact ⟨k + 1, hlt, by go_num, HNX.out, zc B6 (And.left (by assumption))⟩
                 case measure => simp [intOf]; omega)
  · have hge : (rs.length : Int) <= (k : Int) := by omega
    have hkl : k = rs.length := by omega
    have HRL : Hid (zbl ws lead F top y rs.length) := by show zbl ws lead F top y rs.length; rw [<- hkl]; exact HRO.out
    clear hkl
    go_wp2
    go_ret
    first
     | exact ⟨true, rfl, ⟨fun _ => HRL.out, fun _ => rfl⟩, hB⟩
     | exact Or.inr ⟨rfl, HRL.out, hB⟩
end Go.Proofs.YtmckcnmlhgpnhaaGreat
