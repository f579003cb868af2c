/- - -/
import Derived.Test.YtmckcnmlhgpnhaaGreatPKeyG
import Derived.Test.YtmckcnmlhgpnhaaGreatPTabA
import Derived.Test.YtmckcnmlhgpnhaaGreatPSvC
import Derived.Test.YtmckcnmlhgpnhaaGreatPObjectA
namespace Go.Proofs.YtmckcnmlhgpnhaaGreat
set_option maxRecDepth 20000
open Go.RowKit Go.Maps
set_option linter.unusedSimpArgs false
set_option linter.unusedVariables false
def pN (ws : List Int) (Q i : Nat) : Int := kyN ws (kT ws Q i) (kN ws Q i)
def pS (ws : List Int) (Q i : Nat) : ByteArray := kyS ws (kT ws Q i) (kN ws Q i)
def pH (ws : List Int) (Q i : Nat) : Int := za8 ws (kT ws Q i) (kN ws Q i)
def zhk (ws : List Int) (Q : Nat) (z : Int) : Prop := zf5 (kT ws Q) (pN ws Q) (pS ws Q) (pH ws Q) (zah ws Q) (zah ws Q) /\ z = zb2 (kT ws Q) (pN ws Q) (pS ws Q) (zah ws Q) /\ zb2 (kT ws Q) (pN ws Q) (pS ws Q) (zah ws Q) <= zah ws Q / 4 * 3
def zd3 (ws : List Int) (L : List Nat) (x : Int) : Bool := L.any fun p => decide (rdK (za ws p) = 2) && (decide (rvT ws (p + 2) = 8) && decide (x = (zk ws p : Int)))
def zgs (ws : List Int) (L : List Nat) (p : Nat) : Prop := rdK (za ws p) = 2 -> (rvT ws (p + 2) = 0 /\ za ws (p + 1) = 0) \/ (rvT ws (p + 2) = 8 /\ zd3 ws L (zk ws p) = false /\ zhk ws (zk ws p) (za ws (p + 1)))
def zbk (ws : List Int) (pl : List Nat) (k : Nat) : Prop := ∀ i, i < k -> zgs ws (pl.take i) (pl.getD i 0)
theorem zpo {ws : List Int} {pl : List Nat} {k : Nat} (h : zbk ws pl k) (hk : zgs ws (pl.take k) (pl.getD k 0)) : zbk ws pl (k + 1) := fun i hi => by
 by_cases e : i = k
 · subst e; exact hk
 · exact h i (by omega)
theorem zrg {ws : List Int} {pl : List Nat} {k : Nat} (hk : k < pl.length) (x : Int) : zd3 ws (pl.take (k + 1)) x = (zd3 ws (pl.take k) x || (decide (rdK (za ws (pl.getD k 0)) = 2) && (decide (rvT ws (pl.getD k 0 + 2) = 8) && decide (x = (zk ws (pl.getD k 0) : Int))))) := by
 have e : pl.take (k + 1) = pl.take k ++ [pl.getD k 0] := by
  rw [List.take_add_one]; simp [hk]
 simp only [zd3]
 rw [e, List.any_append, List.any_cons, List.any_nil, Bool.or_false]
def zgt (ws : List Int) (p : Nat) : Prop := ziy ws p /\ (rvT ws (p + 2) = 0 \/ rvT ws (p + 2) = 8) /\ (rvT ws (p + 2) = 8 -> 0 < zk ws p /\ ∀ i, i < zah ws (zk ws p) -> kT ws (zk ws p) i ≠ 8 /\ kT ws (zk ws p) i ≠ 9)
theorem zug (x : Int) (h : 0 <= x) : 0 <= rdS x := by unfold rdS; split <;> omega
theorem zrh {ws : List Int} {Q i : Nat} (h : zc0 (kT ws Q) (pN ws Q) (pS ws Q) i = false) (hv : vOk (kT ws Q i) (kN ws Q i) = true) : kT ws Q i ≠ 0 := fun e => by
 have hm : kN ws Q i = 0 := by simp only [vOk, decide_eq_true_eq] at hv; omega
 simp [zc0, zdo, pN, pS, e, hm, kyN, kyS] at h
theorem znd (ws : List Int) (p K c : Nat) (z : Int) (w : World) (hT : zgt ws p) (h8 : rvT ws (p + 2) = 8) (hw : zi ws) (hz0 : 0 <= z) (hz1 : z < 18446744073709551616) (hK : zar w K (zah ws (zk ws p)) (kT ws (zk ws p)) (pN ws (zk ws p)) (pS ws (zk ws p))) :
 Calls Tryz.prog 171 #[.slice (some ⟨K, 0, none⟩) (zah ws (zk ws p)) c, .int .u64 z] w fun e w' => ∃ q, e = .returned (.bool q) /\ (q = true ↔ zhk ws (zk ws p) z) /\ Below w.heap.size w w' := by
 obtain ⟨a1, a2, a3, a4, a5, a6, a7, a8⟩ := hT.1.2 h8
 have hky := (hT.2.2 h8).2
 have hne : ∀ i, i < zah ws (zk ws p) -> zc0 (kT ws (zk ws p)) (pN ws (zk ws p)) (pS ws (zk ws p)) i = false -> kT ws (zk ws p) i ≠ 0 := fun i hi hz => zrh hz (a8 i hi)
 exact zhb K c _ _ _ _ (pH ws (zk ws p)) z w hK a6 hz0 hz1 (fun i hi hz W => ztu ws _ _ W (a8 i hi) (hne i hi hz) (hky i hi).1 (hky i hi).2 (a7.2 i hi) hw) (fun i hi hz => (zle (a8 i hi) (hne i hi hz)).1)
theorem zpp (T N : Nat -> Int) (X : Nat -> ByteArray) (K c : Nat) (z : Int) (w : World) (hz0 : 0 <= z) (hz1 : z < 18446744073709551616) (hK : zar w K 0 T N X) :
 Calls Tryz.prog 171 #[.slice (some ⟨K, 0, none⟩) 0 c, .int .u64 z] w fun e w' => ∃ q, e = .returned (.bool q) /\ (q = true ↔ z = 0) /\ Below w.heap.size w w' :=
 (zhb K c 0 T N X (fun _ => 0) z w hK (by omega) hz0 hz1 (fun i hi => absurd hi (Nat.not_lt_zero i)) (fun i hi => absurd hi (Nat.not_lt_zero i))).mono fun e w' ⟨q, he, hq, hb⟩ => ⟨q, he, hq.trans ⟨fun g => by have := g.2.1; simpa [zb2] using this, fun g => ⟨fun i hi => absurd hi (Nat.not_lt_zero i), by simpa [zb2] using g, Nat.zero_le _⟩⟩, hb⟩
theorem zbx.congr {w : World} {B n : Nat} {h h' : Int -> Bool} (a : zbx w B n h) (e : ∀ x, h x = h' x) : zbx w B n h' := by
 obtain ⟨D, hD, hh⟩ := a
 exact ⟨D, hD, fun x hx => (hh x hx).trans (e x)⟩
theorem zgf {q : Bool} {p : Prop} (h : q = true ↔ p) (hp : ¬ p) : q = false := by
 cases q with
 | false => rfl
 | true => exact absurd (h.1 rfl) hp
set_option maxHeartbeats 2000000 in
theorem zf4 (b off cw : Nat) (ws : List Int) (smz toh top : Int) (cyc : Bool) (sn old cpz sr : Int) (ar : Option Addr) (cr : Nat) (rs : List (Int × Int)) (sv bl cl bs bc : Nat) (av : Option Addr) (cv : Nat) (pl : List Nat) (Tp : Nat) (w : World) (lsv : sv < w.heap.size) (KS : ∀ i, w.cell? ⟨sv, i, none⟩ = (#[.slice (some ⟨b, off, none⟩) ws.length cw, .int .i64 smz, .int .i64 toh, .int .i64 top, .bool cyc, .int .i64 sn, .int .i64 old, .int .i64 cpz, .int .i64 sr, .slice ar rs.length cr, .slice (some ⟨bl, 0, none⟩) ws.length cl, .slice av pl.length cv, .map (some bs), .map (some bc)] : Array Value)[i]?) (hb : b < w.heap.size) (hc : ∀ i, i < ws.length -> w.cell? ⟨b, off + i, none⟩ = some (.int .u64 (za ws i))) (hn : ws.length <= 1048576) (hw : zi ws) (hpl : SlF Tp w (.slice av pl.length cv) pl.length pl.length (fun i => .int .i64 ((pl.getD i 0 : Nat) : Int))) (hln : pl.length <= 1048575) (hin : ∀ p ∈ pl, p < ws.length) (htab : ∀ p ∈ pl, rdK (za ws p) = 2 -> zgt ws p) :
 Calls Tryz.prog 135 #[.pointer (some ⟨sv, 0, none⟩)] w fun e w' => ∃ q, e = .returned (.bool q) /\ (q = true ↔ zbk ws pl pl.length) /\ Below w.heap.size w w' := by
 have HC : Hid (∀ i, i < ws.length -> w.cell? ⟨b, off + i, none⟩ = some (.int .u64 (za ws i))) := hc
 have HPL : Hid (SlF w.heap.size w (.slice av pl.length cv) pl.length pl.length (fun i => .int .i64 ((pl.getD i 0 : Nat) : Int))) := hpl.here
 have HIN : Hid (∀ p ∈ pl, p < ws.length) := hin
 have HTB : Hid (∀ p ∈ pl, rdK (za ws p) = 2 -> zgt ws p) := htab
 have hln' : (pl.length : Int) <= 1048575 := by omega
 have hmm := @run_makeMap Tryz.prog
 clear hc hpl hin htab
 go_enter Tryz.func135, Tryz.ntmps135
 go_wp2
 have hfk := zdd
 go_loopw [15] (fun u17 wr => ∃ k : Nat, k <= pl.length /\ u17 = .int .i64 k /\ (∃ h, Hid (zbx wr w.heap.size k h) /\ Hid (∀ x, x ≠ 0 -> h x = zd3 ws (pl.take k) x)) /\ Hid (zbk ws pl k) /\ w.heap.size < wr.heap.size /\ Below w.heap.size w wr) (fun u17 _ => pl.length - (intOf u17).toNat)
 case atStart => exact ⟨0, Nat.zero_le _, rfl, ⟨_, zbx.made w, fun x _ => rfl⟩, fun i hi => by omega, by simp, (Below.refl _ _).alloc (Nat.le_refl _) _⟩
 case round =>
  obtain ⟨k, hk, rfl, ⟨h, HM, HH⟩, HT, hmz, hB⟩ := hrel
  by_cases hlt : k < pl.length
  · have hlt' : (k : Int) < (pl.length : Int) := by omega
    obtain ⟨bp, op, cap, hv, _, lbp, hcp⟩ := HPL.out.parts (k := 0) (by omega)
    simp only [Value.slice.injEq] at hv
    obtain ⟨rfl, _, rfl⟩ := hv
    have hcp1 : wr.cell? ⟨bp, op + k, none⟩ = some (.int .i64 ((pl.getD k 0 : Nat) : Int)) := by rw [hB.cell (p := ⟨bp, op + k, none⟩) lbp]; exact hcp k hlt
    have hmem : pl.getD k 0 ∈ pl := by simp [hlt]
    obtain ⟨P, hP⟩ : ∃ P, P = pl.getD k 0 := ⟨_, rfl⟩
    rw [<- hP] at hcp1 hmem
    have hPl : P < ws.length := HIN.out P hmem
    have HTP : Hid (rdK (za ws P) = 2 -> zgt ws P) := HTB.out P hmem
    have HST : Hid (zgs ws (pl.take k) P -> zbk ws pl (k + 1)) := fun g => zpo HT.out (by rw [<- hP]; exact g)
    have HNO : Hid (zbk ws pl pl.length -> zgs ws (pl.take k) P) := fun g => by rw [hP]; exact g k hlt
    have HHN : Hid (∀ x, zd3 ws (pl.take (k + 1)) x = (zd3 ws (pl.take k) x || (decide (rdK (za ws P) = 2) && (decide (rvT ws (P + 2) = 8) && decide (x = (zk ws P : Int)))))) := fun x => by rw [hP]; exact zrg hlt x
    clear hcp HPL HIN HTB hmem HT hP
    have KSr := ze KS hB lsv
    have lsvr : sv < wr.heap.size := Nat.lt_of_lt_of_le lsv hB.size
    obtain ⟨hbr, hcr⟩ := zg hb HC.out hB
    have HCR : Hid (∀ i, i < ws.length -> wr.cell? ⟨b, off + i, none⟩ = some (.int .u64 (za ws i))) := hcr
    clear hcr
    by_cases h2 : rdK (za ws P) = 2
    · have e2 : (rdK (za ws P) != 2) = false := by simp [h2]
      have HTI : Hid (zgt ws P) := HTP.out h2
      have H2 : Hid (rdK (za ws P) = 2) := h2
      clear h2 HTP
      have hP3 : P + 3 < ws.length := HTI.out.1.1
      have HX2 : Hid (IntKind.i64.wrap ((P : Int) + 2) = ((P + 2 : Nat) : Int)) := by show IntKind.i64.wrap ((P : Int) + 2) = ((P + 2 : Nat) : Int); rw [IntKind.wrap_i64]; omega
      obtain ⟨Y, hY⟩ : ∃ Y : Int, Y = (P : Int) := ⟨_, rfl⟩
      have wfP : (Lit.int .i64 (P : Int)).wf = true := wfI (by omega) (by omega)
      obtain ⟨Q, n, T, N, X, EP, HBO, HKO, HEN, HTR, HMQ, hQl⟩ : ∃ (Q n : Nat) (T N : Nat -> Int) (X : Nat -> ByteArray) (EP : Prop),
       Hid (∀ W, Below w.heap.size w W -> Calls Tryz.prog 170 #[(.agg #[.slice (some ⟨b, off, none⟩) ws.length cw, .int .i64 smz, .int .i64 toh, .int .i64 top, .bool cyc, .int .i64 sn, .int .i64 old, .int .i64 cpz, .int .i64 sr, .slice ar rs.length cr]), .int .i64 (P : Int)] W fun e w' => e = .returned (.int .i64 (Q : Int)) /\ Below W.heap.size W w')
       /\ Hid (∀ W, Below w.heap.size w W -> Calls Tryz.prog 172 #[(.agg #[.slice (some ⟨b, off, none⟩) ws.length cw, .int .i64 smz, .int .i64 toh, .int .i64 top, .bool cyc, .int .i64 sn, .int .i64 old, .int .i64 cpz, .int .i64 sr, .slice ar rs.length cr]), .int .i64 (Q : Int)] W fun e w' => ∃ K, e = .returned (.slice (some ⟨K, 0, none⟩) n n) /\ W.heap.size <= K /\ zar w' K n T N X /\ Below W.heap.size W w')
       /\ Hid (∀ (K c : Nat) (W : World), zar W K n T N X -> Calls Tryz.prog 171 #[.slice (some ⟨K, 0, none⟩) n c, .int .u64 (za ws (P + 1))] W fun e w' => ∃ q, e = .returned (.bool q) /\ (q = true ↔ EP) /\ Below W.heap.size W w')
       /\ Hid (zgs ws (pl.take k) P ↔ (Q ≠ 0 -> zd3 ws (pl.take k) (Q : Int) = false) /\ EP)
       /\ Hid (∀ x, x ≠ 0 -> (decide (x = (Q : Int)) || zd3 ws (pl.take k) x) = zd3 ws (pl.take (k + 1)) x)
       /\ Q < ws.length := by
       rcases HTI.out.2.1 with h0 | h8
       · refine ⟨0, 0, fun _ => 0, fun _ => 0, fun _ => ⟨#[]⟩, za ws (P + 1) = 0, ?_, ?_, ?_, ?_, ?_, by omega⟩
         · exact fun W hW => zpu b off cw ws smz toh top cyc sn old cpz sr ar cr rs _ P W rfl (zg hb HC.out hW).1 (zg hb HC.out hW).2 hn hw hP3 h0
         · exact fun W hW => zrm b off cw ws smz toh top cyc sn old cpz sr ar cr rs _ _ _ W
         · exact fun K c W hK => zpp _ _ _ K c _ W (zu hw (P + 1)).1 (zu hw (P + 1)).2 hK
         · show zgs ws (pl.take k) P ↔ _
           unfold zgs
           rw [h0]
           simp [H2.out]
         · intro x hx
           rw [HHN.out x]; simp [h0, hx]
       · obtain ⟨a1, a2, a3, a4, a5, a6, a7, a8⟩ := HTI.out.1.2 h8
         have a9 := (HTI.out.2.2 h8).1
         have hQ : zh ws (rvN ws (P + 2)).toNat = (zk ws P : Int) := by unfold zk; omega
         refine ⟨zk ws P, zah ws (zk ws P), kT ws (zk ws P), pN ws (zk ws P), pS ws (zk ws P), zhk ws (zk ws P) (za ws (P + 1)), ?_, ?_, ?_, ?_, ?_, a4⟩
         · exact fun W hW => zpv b off cw ws smz toh top cyc sn old cpz sr ar cr rs _ 8 P (rvN ws (P + 2)).toNat (zk ws P) W rfl (zg hb HC.out hW).1 (zg hb HC.out hW).2 hn hw hP3 h8 rfl (by omega) (by omega) hQ
         · exact fun W hW => zrl b off cw ws smz toh top cyc sn old cpz sr ar cr rs _ (zk ws P) (zah ws (zk ws P)) W rfl a9 (zg hb HC.out hW).1 (zg hb HC.out hW).2 hn hw rfl (zug _ (zu hw _).1) a6 a7
         · exact fun K c W hK => znd ws P K c _ W HTI.out h8 hw (zu hw (P + 1)).1 (zu hw (P + 1)).2 hK
         · show zgs ws (pl.take k) P ↔ _
           unfold zgs
           rw [h8]
           have : zk ws P ≠ 0 := by omega
           simp [H2.out, this]
         · intro x hx
           rw [HHN.out x, Bool.or_comm]; simp [H2.out, h8]
      have wfQ : (Lit.int .i64 (Q : Int)).wf = true := wfI (by omega) (by omega)
      clear HHN HTI H2
      have HCR' := HCR
      go_upto_region 7 with (first | (go_at_call 81; refine (zcs _ _ _ _ _ _ _ _ _ _ _ _ _ _ _ P _ rfl (zce hbr HCR.out) hn hw hPl).mono ?_; rintro e w5 ⟨rfl, b5⟩; have B5 : Below w.heap.size w w5 := zc hB b5; have KS5 := ze KSr b5 lsvr) | (go_at_call 170; refine (HBO.out _ B5).mono ?_; rintro e w6 ⟨rfl, b6⟩))
      have B6 : Below w.heap.size w w6 := zc B5 b6
      have b56 := zc b5 b6
      have KS6 := ze KSr b56 lsvr
      have lsv6 : sv < w6.heap.size := Nat.lt_of_lt_of_le lsvr b56.size
      have HM6 : Hid (zbx w6 w.heap.size k h) := HM.out.of_block (b56.block _ hmz)
      have hmz6 : w.heap.size < w6.heap.size := Nat.lt_of_lt_of_le hmz b56.size
      clear HCR' HCR KSr HM hcp1 hmz b5 b6 KS5 b56 HBO
      obtain ⟨c, hlk⟩ := HM6.out.look wfQ
      by_cases hA : h (Q : Int) = true /\ Q ≠ 0
      · have HBAD : Hid (¬ zbk ws pl pl.length) := fun g => by
         have := (HTR.out.1 (HNO.out g)).1 hA.2
         rw [<- HH.out (Q : Int) (by omega), hA.1] at this
         simp at this
        have hq : ((Q : Int) != 0) = true := by simp; exact hA.2
        rw [hA.1] at hlk
        clear hA
        go_wp2
        go_ret
        first
         | exact ⟨false, rfl, ⟨fun g => by simp at g, fun g => absurd g HBAD.out⟩, B6⟩
         | exact Or.inl ⟨rfl, HBAD.out, B6⟩
      · have HADT : Hid (Q ≠ 0 -> zd3 ws (pl.take k) (Q : Int) = false) := fun hq => by
         rw [<- HH.out (Q : Int) (by omega)]
         cases hx : h (Q : Int) with
         | false => rfl
         | true => exact absurd ⟨hx, hq⟩ hA
        have hgo : h (Q : Int) = false \/ (h (Q : Int) = true /\ ((Q : Int) != 0) = false) := by
         cases hx : h (Q : Int) with
         | false => exact .inl rfl
         | true =>
           refine .inr ⟨rfl, ?_⟩
           have : Q = 0 := by
            by_cases e : Q = 0
            · exact e
            · exact absurd ⟨hx, e⟩ hA
           simp [this]
        clear hA
        obtain ⟨w7, hup, hm7, hg7⟩ := HM6.out.put (by omega) wfQ wfP
        have HM7 : Hid (zbx w7 w.heap.size (k + 1) (fun z => decide (z = (Q : Int)) || h z)) := hm7
        have HH7 : Hid (∀ x, x ≠ 0 -> (decide (x = (Q : Int)) || h x) = zd3 ws (pl.take (k + 1)) x) := fun x hx => by rw [HH.out x hx]; exact HMQ.out x hx
        have hk7 : ∀ j, j < w6.heap.size -> j ≠ w.heap.size -> w7.heap[j]? = w6.heap[j]? := fun j hj e => hg7.block j hj (by intro g; cases g; exact e rfl)
        have B7 : Below w.heap.size w w7 := ⟨hg7.os.trans B6.os, hg7.tape.trans B6.tape, hg7.output.trans B6.output, Nat.le_trans B6.size hg7.size, fun j hj => (hk7 j (by have := B6.size; omega) (by omega)).trans (B6.block j hj)⟩
        have KS7 := ze KS B7 lsv
        have lsv7 : sv < w7.heap.size := Nat.lt_of_lt_of_le lsv B7.size
        obtain ⟨hb7, hc7⟩ := zg hb HC.out B7
        have hu7 := hc7 (P + 1) (by omega)
        have hmz7 : w.heap.size < w7.heap.size := hm7.lt
        have KP : ∀ W, Below w7.heap.size w7 W -> (Below w7.heap.size w7 W /\ (∀ i, W.cell? ⟨sv, i, none⟩ = (#[.slice (some ⟨b, off, none⟩) ws.length cw, .int .i64 smz, .int .i64 toh, .int .i64 top, .bool cyc, .int .i64 sn, .int .i64 old, .int .i64 cpz, .int .i64 sr, .slice ar rs.length cr, .slice (some ⟨bl, 0, none⟩) ws.length cl, .slice (some ⟨bp, op, none⟩) pl.length cv, .map (some bs), .map (some bc)] : Array Value)[i]?) /\ W.cell? ⟨b, off + (P + 1), none⟩ = some (.int .u64 (za ws (P + 1)))) := fun W hW => ⟨hW, ze KS7 hW lsv7, by rw [hW.cell (p := ⟨b, off + (P + 1), none⟩) hb7]; exact hu7⟩
        have b7' := (Below.refl w7.heap.size w7).drew
        have i0 : (0 : Int) <= (P : Int) + 1 := by omega
        have i1 : (P : Int) + 1 < (ws.length : Int) := by omega
        have i2 : ((P : Int) + 1).toNat = P + 1 := by omega
        have i3 : IntKind.i64.wrap ((P : Int) + 1) = (P : Int) + 1 := by rw [IntKind.wrap_i64]; omega
        have HN : Hid (EP -> zbk ws pl (k + 1)) := fun g => HST.out (HTR.out.2 ⟨HADT.out, g⟩)
        have HBD : Hid (zbk ws pl pl.length -> EP) := fun g => (HTR.out.1 (HNO.out g)).2
        have HB7 : Hid (Below w.heap.size w w7) := B7
        clear hc7 HM6 hm7 hg7 hk7 KS6 KS hb7 hu7 KS7 B7 HTR HMQ HADT HH HST HNO
        rcases hgo with hd | ⟨hd, hq⟩ <;> rw [hd] at hlk <;> clear hd
        all_goals
         go_upto_region 11 with fail
         go_region_held3 (fun W => Below w7.heap.size w7 W /\ (∀ i, W.cell? ⟨sv, i, none⟩ = (#[.slice (some ⟨b, off, none⟩) ws.length cw, .int .i64 smz, .int .i64 toh, .int .i64 top, .bool cyc, .int .i64 sn, .int .i64 old, .int .i64 cpz, .int .i64 sr, .slice ar rs.length cr, .slice (some ⟨bl, 0, none⟩) ws.length cl, .slice (some ⟨bp, op, none⟩) pl.length cv, .map (some bs), .map (some bc)] : Array Value)[i]?) /\ W.cell? ⟨b, off + (P + 1), none⟩ = some (.int .u64 (za ws (P + 1)))) (first | assumption | exact KP _ b7' | exact KP _ (by assumption)) (first | (go_at_call 172; refine (HKO.out _ (zc HB7.out b7')).mono ?_; rintro e w8 ⟨K8, rfl, hK8, hK, b8⟩; have hB8 := zc b7' b8; clear b8) | (go_at_call 171; refine (HEN.out K8 _ _ hK).mono ?_; rintro e w9 ⟨q, rfl, hq9, b9⟩; have hB9 := zc hB8 b9; clear b9))
         all_goals
          have HQ9 : Hid (q = true ↔ EP) := hq9
          clear hq9
          cases q with
          | true =>
            have HNN : Hid (zbk ws pl (k + 1)) := HN.out (HQ9.out.1 rfl)
            go_wp2_with fail
            exact ⟨⟨k + 1, hlt, by go_num, ⟨_, HM7.out.of_block (hB9.block _ hmz7), HH7⟩, HNN, Nat.lt_of_lt_of_le hmz7 hB9.size, zc HB7.out hB9⟩, by simp [intOf]; omega⟩
          | false =>
            have HBAD : Hid (¬ zbk ws pl pl.length) := fun g => by have := HQ9.out.2 (HBD.out g); simp at this
            have b79 := zc HB7.out hB9
            go_wp2_with fail
            go_ret
            first
             | exact ⟨false, rfl, ⟨fun g => by simp at g, fun g => absurd g HBAD.out⟩, b79⟩
             | exact Or.inl ⟨rfl, HBAD.out, b79⟩
    · have e2 : (rdK (za ws P) != 2) = true := by simp [h2]
      have HN : Hid (zbk ws pl (k + 1)) := HST.out (fun g => absurd g h2)
      have HMN : Hid (∀ x, x ≠ 0 -> h x = zd3 ws (pl.take (k + 1)) x) := fun x hx => by rw [HH.out x hx, HHN.out x]; simp [h2]
      clear h2 HTP
      go_wp2_with (go_at_call 81; refine (zcs _ _ _ _ _ _ _ _ _ _ _ _ _ _ _ P _ rfl (zce hbr HCR.out) hn hw hPl).mono ?_; rintro e w5 ⟨rfl, b5⟩)
      exact ⟨⟨k + 1, hlt, by go_num, ⟨_, (HM.out.of_block (b5.block _ hmz)).mono (by omega), HMN⟩, HN, Nat.lt_of_lt_of_le hmz b5.size, zc hB b5⟩, by simp [intOf]; omega⟩
  · have hkl : k = pl.length := by omega
    have HTL : Hid (zbk ws pl pl.length) := by have := HT.out; rw [hkl] at this; exact this
    have hge : (pl.length : Int) <= (k : Int) := by omega
    clear hkl
    go_wp2
    go_ret
    first
     | exact ⟨true, rfl, ⟨fun _ => HTL.out, fun _ => rfl⟩, hB⟩
     | exact Or.inr ⟨rfl, HTL.out, hB⟩
end Go.Proofs.YtmckcnmlhgpnhaaGreat
