/- The program's tablesOk. -/
import Derived.Test.YtdcniiihanjjnaaGreatProg
import Derived.Test.YtdcniiihanjjnaaGreatKKeyG
import Derived.Test.YtdcniiihanjjnaaGreatKTabA
import Derived.Test.YtdcniiihanjjnaaGreatKSvC
import Derived.Test.YtdcniiihanjjnaaGreatKObjectA
import Derived.Deep.RegionHeld3
namespace Go.Proofs.YtdcniiihanjjnaaGreat
set_option maxRecDepth 20000
open Go.RowKit Go.Maps
set_option linter.unusedSimpArgs false
set_option linter.unusedVariables false

/-- The keys of the block Q, as the program has them. -/
def pN (ws : List Int) (Q i : Nat) : Int := kyN ws (kT ws Q i) (kN ws Q i)
def pS (ws : List Int) (Q i : Nat) : ByteArray := kyS ws (kT ws Q i) (kN ws Q i)
def pH (ws : List Int) (Q i : Nat) : Int := hashV ws (kT ws Q i) (kN ws Q i)
/-- What entriesOk asks of the block Q of which the table says z. -/
def EntsB (ws : List Int) (Q : Nat) (z : Int) : Prop := EntB (kT ws Q) (pN ws Q) (pS ws Q) (pH ws Q) (capN ws Q) (capN ws Q) ∧ z = cntK (kT ws Q) (pN ws Q) (pS ws Q) (capN ws Q) ∧ cntK (kT ws Q) (pN ws Q) (pS ws Q) (capN ws Q) ≤ capN ws Q / 4 * 3
/-- The blocks that the tables among L have. -/
def hadT (ws : List Int) (L : List Nat) (x : Int) : Bool := L.any fun p => decide (rdK (wordAt ws p) = 2) && (decide (rvT ws (p + 2) = 8) && decide (x = (blkOf ws p : Int)))
def tabB (ws : List Int) (L : List Nat) (p : Nat) : Prop := rdK (wordAt ws p) = 2 → (rvT ws (p + 2) = 0 ∧ wordAt ws (p + 1) = 0) ∨ (rvT ws (p + 2) = 8 ∧ hadT ws L (blkOf ws p) = false ∧ EntsB ws (blkOf ws p) (wordAt ws (p + 1)))
def TabsB (ws : List Int) (pl : List Nat) (k : Nat) : Prop := ∀ i, i < k → tabB ws (pl.take i) (pl.getD i 0)
theorem tabsB_step {ws : List Int} {pl : List Nat} {k : Nat} (h : TabsB ws pl k) (hk : tabB ws (pl.take k) (pl.getD k 0)) : TabsB ws pl (k + 1) := fun i hi => by
  by_cases e : i = k
  · subst e; exact hk
  · exact h i (by omega)
theorem hadT_next {ws : List Int} {pl : List Nat} {k : Nat} (hk : k < pl.length) (x : Int) : hadT ws (pl.take (k + 1)) x = (hadT ws (pl.take k) x || (decide (rdK (wordAt ws (pl.getD k 0)) = 2) && (decide (rvT ws (pl.getD k 0 + 2) = 8) && decide (x = (blkOf ws (pl.getD k 0) : Int))))) := by
  have e : pl.take (k + 1) = pl.take k ++ [pl.getD k 0] := by
    rw [List.take_add_one]; simp [hk]
  simp only [hadT]
  rw [e, List.any_append, List.any_cons, List.any_nil, Bool.or_false]
/-- What is known of the table at p when all bodies are right. -/
def TabIs (ws : List Int) (p : Nat) : Prop := TabIn ws p ∧ (rvT ws (p + 2) = 0 ∨ rvT ws (p + 2) = 8) ∧ (rvT ws (p + 2) = 8 → ∀ i, i < capN ws (blkOf ws p) → kT ws (blkOf ws p) i ≠ 8 ∧ kT ws (blkOf ws p) i ≠ 9)
theorem rdS_ge (x : Int) (h : 0 ≤ x) : 0 ≤ rdS x := by unfold rdS; split <;> omega
theorem noKey_tag {ws : List Int} {Q i : Nat} (h : noKey (kT ws Q) (pN ws Q) (pS ws Q) i = false) (hv : vOk (kT ws Q i) (kN ws Q i) = true) : kT ws Q i ≠ 0 := fun e => by
  have hm : kN ws Q i = 0 := by simp only [vOk, decide_eq_true_eq] at hv; omega
  simp [noKey, keyB, pN, pS, e, hm, kyN, kyS] at h
/-- entriesOk at the keys of a table's block. -/
theorem entries_tab (ws : List Int) (p K c : Nat) (z : Int) (w : World) (hT : TabIs ws p) (h8 : rvT ws (p + 2) = 8) (hw : Words64 ws) (hz0 : 0 ≤ z) (hz1 : z < 18446744073709551616) (hK : KeysAre w K (capN ws (blkOf ws p)) (kT ws (blkOf ws p)) (pN ws (blkOf ws p)) (pS ws (blkOf ws p))) :
    Calls Tryz.prog 111 #[.slice (some ⟨K, 0, none⟩) (capN ws (blkOf ws p)) c, .int .u64 z] w fun e w' => ∃ q, e = .returned (.bool q) ∧ (q = true ↔ EntsB ws (blkOf ws p) z) ∧ Below w.heap.size w w' := by
  obtain ⟨a1, a2, a3, a4, a5, a6, a7, a8⟩ := hT.1.2 h8
  have hky := hT.2.2 h8
  have hne : ∀ i, i < capN ws (blkOf ws p) → noKey (kT ws (blkOf ws p)) (pN ws (blkOf ws p)) (pS ws (blkOf ws p)) i = false → kT ws (blkOf ws p) i ≠ 0 := fun i hi hz => noKey_tag hz (a8 i hi)
  exact entriesOk_at K c _ _ _ _ (pH ws (blkOf ws p)) z w hK a5 a6 hz0 hz1 (fun i hi hz W => hash_at ws _ _ W (a8 i hi) (hne i hi hz) (hky i hi).1 (hky i hi).2 (a7.2 i hi) hw) (fun i hi hz => (hashV_in (a8 i hi) (hne i hi hz)).1)
end Go.Proofs.YtdcniiihanjjnaaGreat

/- The program's tablesOk: its loop. -/
namespace Go.Proofs.YtdcniiihanjjnaaGreat
set_option maxRecDepth 20000
open Go.RowKit Go.Maps
set_option linter.unusedSimpArgs false
set_option linter.unusedVariables false

theorem MapH.congr {w : World} {B n : Nat} {h h' : Int → Bool} (a : MapH w B n h) (e : ∀ x, h x = h' x) : MapH w B n h' := by
  obtain ⟨D, hD, hh⟩ := a
  exact ⟨D, hD, fun x hx => (hh x hx).trans (e x)⟩
theorem bool_no {q : Bool} {p : Prop} (h : q = true ↔ p) (hp : ¬ p) : q = false := by
  cases q with
  | false => rfl
  | true => exact absurd (h.1 rfl) hp
theorem two_set {W : World} {K : Nat} {v0 v1 : Value} (h : ∀ i, W.cell? ⟨K, i, none⟩ = (#[v0, v1] : Array Value)[i]?) (u0 u1 : Value) : ∀ i, ((W.setCell ⟨K, 0, none⟩ u0).setCell ⟨K, 1, none⟩ u1).cell? ⟨K, i, none⟩ = (#[u0, u1] : Array Value)[i]? := fun i => by
  have p0 : (W.cell? ⟨K, 0, none⟩).isSome = true := by rw [h 0]; rfl
  have p1 : (W.cell? ⟨K, 1, none⟩).isSome = true := by rw [h 1]; rfl
  match i with
  | 0 => simp [go_sem, p0, p1]
  | 1 => simp [go_sem, p0, p1]
  | i + 2 =>
    rw [World.cell?_setCell_other _ _ _ _ (by simp), World.cell?_setCell_other _ _ _ _ (by simp), h]; rfl
set_option maxHeartbeats 2000000 in
theorem tablesOk_at (b off cw : Nat) (ws : List Int) (semi toh top : Int) (cyc : Bool) (scan old copied serial : Int) (ar : Option Addr) (cr : Nat) (rs : List (Int × Int)) (sv bl cl bs bc : Nat) (av : Option Addr) (cv : Nat) (pl : List Nat) (Tp : Nat) (w : World) (lsv : sv < w.heap.size) (KS : ∀ i, w.cell? ⟨sv, i, none⟩ = (#[.slice (some ⟨b, off, none⟩) ws.length cw, .int .i64 semi, .int .i64 toh, .int .i64 top, .bool cyc, .int .i64 scan, .int .i64 old, .int .i64 copied, .int .i64 serial, .slice ar rs.length cr, .slice (some ⟨bl, 0, none⟩) ws.length cl, .slice av pl.length cv, .map (some bs), .map (some bc)] : Array Value)[i]?) (hb : b < w.heap.size) (hc : ∀ i, i < ws.length → w.cell? ⟨b, off + i, none⟩ = some (.int .u64 (wordAt ws i))) (hn : ws.length ≤ 1048576) (hw : Words64 ws) (hpl : SlF Tp w (.slice av pl.length cv) pl.length pl.length (fun i => .int .i64 ((pl.getD i 0 : Nat) : Int))) (hln : pl.length ≤ 1048575) (hin : ∀ p ∈ pl, p < ws.length) (htab : ∀ p ∈ pl, rdK (wordAt ws p) = 2 → TabIs ws p) :
    Calls Tryz.prog 90 #[.pointer (some ⟨sv, 0, none⟩)] w fun e w' => ∃ q, e = .returned (.bool q) ∧ (q = true ↔ TabsB ws pl pl.length) ∧ Below w.heap.size w w' := by
  have HC : Hid (∀ i, i < ws.length → w.cell? ⟨b, off + i, none⟩ = some (.int .u64 (wordAt ws i))) := hc
  have HPL : Hid (SlF w.heap.size w (.slice av pl.length cv) pl.length pl.length (fun i => .int .i64 ((pl.getD i 0 : Nat) : Int))) := hpl.here
  have HIN : Hid (∀ p ∈ pl, p < ws.length) := hin
  have HTB : Hid (∀ p ∈ pl, rdK (wordAt ws p) = 2 → TabIs ws p) := htab
  have hln' : (pl.length : Int) ≤ 1048575 := by omega
  have hmm := @run_makeMap Tryz.prog
  clear hc hpl hin htab
  go_enter Tryz.func90, Tryz.ntmps90
  go_wp2
  have hfk := field_kind
  go_loopw [17] (fun u17 wr => ∃ k : Nat, k ≤ pl.length ∧ u17 = .int .i64 k ∧ Hid (MapH wr w.heap.size k (hadT ws (pl.take k))) ∧ Hid (TabsB ws pl k) ∧ w.heap.size < wr.heap.size ∧ Below w.heap.size w wr) (fun u17 _ => pl.length - (intOf u17).toNat)
  case atStart => exact ⟨0, Nat.zero_le _, rfl, (MapH.made w).congr (fun x => rfl), fun i hi => by omega, by simp, (Below.refl _ _).alloc (Nat.le_refl _) _⟩
  case round =>
    obtain ⟨k, hk, rfl, HM, HT, hmz, hB⟩ := hrel
    by_cases hlt : k < pl.length
    · have hlt' : (k : Int) < (pl.length : Int) := by omega
      obtain ⟨bp, op, cap, hv, _, lbp, hcp⟩ := HPL.out.parts (k := 0) (by omega)
      simp only [Value.slice.injEq] at hv
      obtain ⟨rfl, _, rfl⟩ := hv
      have hcp1 : wr.cell? ⟨bp, op + k, none⟩ = some (.int .i64 ((pl.getD k 0 : Nat) : Int)) := by rw [hB.cell (p := ⟨bp, op + k, none⟩) lbp]; exact hcp k hlt
      have hmem : pl.getD k 0 ∈ pl := by simp [hlt]
      obtain ⟨P, hP⟩ : ∃ P, P = pl.getD k 0 := ⟨_, rfl⟩
      rw [← hP] at hcp1 hmem
      have hPl : P < ws.length := HIN.out P hmem
      have HTP : Hid (rdK (wordAt ws P) = 2 → TabIs ws P) := HTB.out P hmem
      have HST : Hid (tabB ws (pl.take k) P → TabsB ws pl (k + 1)) := fun g => tabsB_step HT.out (by rw [← hP]; exact g)
      have HNO : Hid (TabsB ws pl pl.length → tabB ws (pl.take k) P) := fun g => by rw [hP]; exact g k hlt
      have HHN : Hid (∀ x, hadT ws (pl.take (k + 1)) x = (hadT ws (pl.take k) x || (decide (rdK (wordAt ws P) = 2) && (decide (rvT ws (P + 2) = 8) && decide (x = (blkOf ws P : Int)))))) := fun x => by rw [hP]; exact hadT_next hlt x
      clear hcp HPL HIN HTB hmem HT hP
      have KSr := has_below KS hB lsv
      have lsvr : sv < wr.heap.size := Nat.lt_of_lt_of_le lsv hB.size
      obtain ⟨hbr, hcr⟩ := arx_cells hb HC.out hB
      have HCR : Hid (∀ i, i < ws.length → wr.cell? ⟨b, off + i, none⟩ = some (.int .u64 (wordAt ws i))) := hcr
      clear hcr
      by_cases h2 : rdK (wordAt ws P) = 2
      · have e2 : (rdK (wordAt ws P) != 2) = false := by simp [h2]
        have HTI : Hid (TabIs ws P) := HTP.out h2
        have H2 : Hid (rdK (wordAt ws P) = 2) := h2
        clear h2 HTP
        have hP3 : P + 3 < ws.length := HTI.out.1.1
        have HX2 : Hid (IntKind.i64.wrap ((P : Int) + 2) = ((P + 2 : Nat) : Int)) := by show IntKind.i64.wrap ((P : Int) + 2) = ((P + 2 : Nat) : Int); rw [IntKind.wrap_i64]; omega
        obtain ⟨Y, hY⟩ : ∃ Y : Int, Y = (P : Int) := ⟨_, rfl⟩
        go_upto_region 6 with (go_at_call 77; refine (headAt_at _ _ _ _ _ _ _ _ _ _ _ _ _ _ _ P _ rfl (ar_sl hbr HCR.out) hn hw hPl).mono ?_; rintro e w5 ⟨rfl, b5⟩)
        have B5 : Below w.heap.size w w5 := below_next hB b5
        have KS5 := has_below KSr b5 lsvr
        have lsv5 : sv < w5.heap.size := Nat.lt_of_lt_of_le lsvr b5.size
        obtain ⟨hb5, hc5⟩ := arx_cells hbr HCR.out b5
        have HC5 : Hid (∀ i, i < ws.length → w5.cell? ⟨b, off + i, none⟩ = some (.int .u64 (wordAt ws i))) := hc5
        have hu5 := hc5 (P + 1) (by omega)
        have HM5 : Hid (MapH w5 w.heap.size k (hadT ws (pl.take k))) := HM.out.of_block (b5.block _ hmz)
        have hmz5 : w.heap.size < w5.heap.size := Nat.lt_of_lt_of_le hmz b5.size
        clear hc5 HCR KSr HM hcp1 hmz b5
        go_cut [6, 7] from 29 to 44 (fun s6 s7 wc => s6 = .int .u64 (wordAt ws (P + 1)) ∧ ∃ Bx : Nat, s7 = .pointer (some ⟨Bx, 0, none⟩) ∧ (∀ i, wc.cell? ⟨Bx, i, none⟩ = (#[.int .i64 (rvT ws (P + 2)), .int .i64 (rvN ws (P + 2))] : Array Value)[i]?) ∧ Below w5.heap.size w5 wc)
        case first =>
          have KP : ∀ W, Below w5.heap.size w5 W → (Below w5.heap.size w5 W ∧ (∀ i, W.cell? ⟨sv, i, none⟩ = (#[.slice (some ⟨b, off, none⟩) ws.length cw, .int .i64 semi, .int .i64 toh, .int .i64 top, .bool cyc, .int .i64 scan, .int .i64 old, .int .i64 copied, .int .i64 serial, .slice ar rs.length cr, .slice (some ⟨bl, 0, none⟩) ws.length cl, .slice (some ⟨bp, op, none⟩) pl.length cv, .map (some bs), .map (some bc)] : Array Value)[i]?) ∧ W.cell? ⟨b, off + (P + 1), none⟩ = some (.int .u64 (wordAt ws (P + 1)))) := fun W hW => ⟨hW, has_below KS5 hW lsv5, by rw [hW.cell (p := ⟨b, off + (P + 1), none⟩) hb5]; exact hu5⟩
          have b5' := (Below.refl w5.heap.size w5).drew
          have i0 : (0 : Int) ≤ (P : Int) + 1 := by omega
          have i1 : (P : Int) + 1 < (ws.length : Int) := by omega
          have i2 : ((P : Int) + 1).toNat = P + 1 := by omega
          have i3 : IntKind.i64.wrap ((P : Int) + 1) = (P : Int) + 1 := by rw [IntKind.wrap_i64]; omega
          clear HST HNO HHN HTI H2 HM5 hu5 KS KS5 hB B5
          go_region_held3 (fun W => Below w5.heap.size w5 W ∧ (∀ i, W.cell? ⟨sv, i, none⟩ = (#[.slice (some ⟨b, off, none⟩) ws.length cw, .int .i64 semi, .int .i64 toh, .int .i64 top, .bool cyc, .int .i64 scan, .int .i64 old, .int .i64 copied, .int .i64 serial, .slice ar rs.length cr, .slice (some ⟨bl, 0, none⟩) ws.length cl, .slice (some ⟨bp, op, none⟩) pl.length cv, .map (some bs), .map (some bc)] : Array Value)[i]?) ∧ W.cell? ⟨b, off + (P + 1), none⟩ = some (.int .u64 (wordAt ws (P + 1)))) (first | assumption | exact KP _ b5' | exact KP _ (by assumption) | exact KP _ (alloc_own (And.left (by assumption)) _) | (refine KP _ ?_; repeat (first | assumption | exact And.left (by assumption) | refine Below.setCell ?_ (by first | exact Nat.le_refl _ | (simp; done) | (simp; omega)) _ | refine alloc_own ?_ _))) (first | (go_at_call 76; refine (slotAt_at _ _ _ _ _ _ _ _ _ _ _ _ _ _ _ (P + 2) _ (by exact HX2.out) (ar_sl (arx_cells hb5 HC5.out (And.left (by assumption))).1 (arx_cells hb5 HC5.out (And.left (by assumption))).2) hn hw (by omega)).mono ?_; rintro e w' ⟨rfl, hbb⟩; have hB3 := below_next (w := w5) (And.left (by assumption)) hbb; have hz3 := hB3.size; obtain ⟨hcc, hff⟩ := bcell hbb; have hz := hbb.size; simp at hz; clear hbb))
          all_goals
            go_wp2_with fail
            go_meet
            first
              | exact ⟨rfl, _, rfl, fun i => by simp [go_sem], alloc_own hB3 _⟩
              | (have hi : ∀ i, (w'.cell? ⟨w5.heap.size, i, none⟩) = (#[.int .i64 0, .int .i64 0] : Array Value)[i]? := fun i => by rw [hcc _ _ (by simp)]; simp [go_sem]
                 have p0 : (w'.cell? ⟨w5.heap.size, 0, none⟩).isSome = true := by rw [hi 0]; rfl
                 have p1 : (w'.cell? ⟨w5.heap.size, 1, none⟩).isSome = true := by rw [hi 1]; rfl
                 refine ⟨rfl, _, rfl, fun i => ?_, (hB3.setCell (p := ⟨w5.heap.size, 0, none⟩) (Nat.le_refl _) _).setCell (p := ⟨w5.heap.size, 1, none⟩) (Nat.le_refl _) _⟩
                 exact two_set hi _ _ i)
        case rest =>
          rename World => wa
          obtain ⟨rfl, Bx, rfl, hx, hBc⟩ := hcut
          have Bc := below_next B5 hBc
          have lBx : Bx < wa.heap.size := World.block_lt_of_cell? _ ⟨Bx, 0, none⟩ (hx 0)
          have KSc := has_below KS5 hBc lsv5
          have lsvc : sv < wa.heap.size := Nat.lt_of_lt_of_le lsv5 hBc.size
          obtain ⟨hbc, hcc⟩ := arx_cells hb5 HC5.out hBc
          have HCc : Hid (∀ i, i < ws.length → wa.cell? ⟨b, off + i, none⟩ = some (.int .u64 (wordAt ws i))) := hcc
          have HMc : Hid (MapH wa w.heap.size k (hadT ws (pl.take k))) := HM5.out.of_block (hBc.block _ hmz5)
          have hmzc : w.heap.size < wa.heap.size := Nat.lt_of_lt_of_le hmz5 hBc.size
          clear hcc HC5 HM5 KS5 hu5 hmz5 hBc
          rcases HTI.out.2.1 with h0 | h8
          · rw [h0] at hx
            have HMN : Hid (∀ x, hadT ws (pl.take k) x = hadT ws (pl.take (k + 1)) x) := fun x => by rw [HHN.out x]; simp [h0]
            by_cases hz : wordAt ws (P + 1) = 0
            · have e0 : (wordAt ws (P + 1) != 0) = false := by simp [hz]
              have HN : Hid (TabsB ws pl (k + 1)) := HST.out (fun _ => .inl ⟨h0, hz⟩)
              clear hz h0
              go_wp2
              exact ⟨⟨k + 1, hlt, by go_num, (HMc.out.congr HMN.out).mono (by omega), HN, hmzc, Bc⟩, by simp [intOf]; omega⟩
            · have e0 : (wordAt ws (P + 1) != 0) = true := by simp [hz]
              have HBAD : Hid (¬ TabsB ws pl pl.length) := fun g => by
                rcases HNO.out g H2.out with g | g
                · exact hz g.2
                · rw [h0] at g; simp at g
              clear hz h0
              go_wp2
              go_ret
              first
                | exact ⟨false, rfl, ⟨fun g => by simp at g, fun g => absurd g HBAD.out⟩, Bc⟩
                | exact Or.inl ⟨rfl, HBAD.out, Bc⟩
          · rw [h8] at hx
            obtain ⟨a1, a2, a3, a4, a5, a6, a7, a8⟩ := HTI.out.1.2 h8
            have H8 : Hid (rvT ws (P + 2) = 8) := h8
            have hm0 : rvN ws (P + 2) = (((rvN ws (P + 2)).toNat : Nat) : Int) := by omega
            have HM0 : Hid (rvN ws (P + 2) = (((rvN ws (P + 2)).toNat : Nat) : Int)) := hm0
            have hm1 : (rvN ws (P + 2)).toNat < ws.length := by omega
            have hQ : leadsAt ws (rvN ws (P + 2)).toNat = (blkOf ws P : Int) := by unfold blkOf; omega
            obtain ⟨Q, hQe⟩ : ∃ Q, Q = blkOf ws P := ⟨_, rfl⟩
            have HK7 : Hid (KeysIn ws Q (capN ws Q)) := by show KeysIn ws Q (capN ws Q); rw [hQe]; exact a7
            have HCAP : Hid (capN ws Q ≤ 64) := by show capN ws Q ≤ 64; rw [hQe]; exact a6
            have HEN : Hid (∀ (K c : Nat) (W : World), KeysAre W K (capN ws Q) (kT ws Q) (pN ws Q) (pS ws Q) → Calls Tryz.prog 111 #[.slice (some ⟨K, 0, none⟩) (capN ws Q) c, .int .u64 (wordAt ws (P + 1))] W fun e w' => ∃ q, e = .returned (.bool q) ∧ (q = true ↔ EntsB ws Q (wordAt ws (P + 1))) ∧ Below W.heap.size W w') := fun K c W hK => by
              rw [hQe] at hK ⊢
              exact entries_tab ws P K c _ W HTI.out h8 hw (word_in hw (P + 1)).1 (word_in hw (P + 1)).2 hK
            have HTR : Hid (tabB ws (pl.take k) P ↔ hadT ws (pl.take k) (Q : Int) = false ∧ EntsB ws Q (wordAt ws (P + 1))) := by
              show tabB ws (pl.take k) P ↔ _
              unfold tabB
              rw [← hQe, h8]
              simp [H2.out]
            have HMQ : Hid (∀ x, (decide (x = (Q : Int)) || hadT ws (pl.take k) x) = hadT ws (pl.take (k + 1)) x) := fun x => by
              rw [HHN.out x, ← hQe, Bool.or_comm]; simp [H2.out, h8]
            have hQl : Q < ws.length := by rw [hQe]; exact a4
            rw [← hQe] at hQ
            have HQ : Hid (leadsAt ws (rvN ws (P + 2)).toNat = (Q : Int)) := hQ
            have wfQ : (Lit.int .i64 (Q : Int)).wf = true := wfI (by omega) (by omega)
            have wfP : (Lit.int .i64 (P : Int)).wf = true := wfI (by omega) (by omega)
            clear a1 a2 a3 a4 a5 a6 a7 a8 hm0 hQ hQe h8 HHN HTI H2
            go_upto_region 10 with fail
            go_cut [8] from 50 to 55 (fun s8 wx => s8 = .int .i64 (Q : Int) ∧ Below wa.heap.size wa wx)
            case first =>
              have KP : ∀ W, Below wa.heap.size wa W → (Below wa.heap.size wa W ∧ (∀ i, W.cell? ⟨sv, i, none⟩ = (#[.slice (some ⟨b, off, none⟩) ws.length cw, .int .i64 semi, .int .i64 toh, .int .i64 top, .bool cyc, .int .i64 scan, .int .i64 old, .int .i64 copied, .int .i64 serial, .slice ar rs.length cr, .slice (some ⟨bl, 0, none⟩) ws.length cl, .slice (some ⟨bp, op, none⟩) pl.length cv, .map (some bs), .map (some bc)] : Array Value)[i]?) ∧ (∀ i, W.cell? ⟨Bx, i, none⟩ = (#[.int .i64 8, .int .i64 (rvN ws (P + 2))] : Array Value)[i]?)) := fun W hW => ⟨hW, has_below KSc hW lsvc, has_below hx hW lBx⟩
              have bc' := (Below.refl wa.heap.size wa).drew
              clear HST HNO HMc KS KSc hx hB B5 Bc HEN HTR HMQ HK7
              go_region_held3 (fun W => Below wa.heap.size wa W ∧ (∀ i, W.cell? ⟨sv, i, none⟩ = (#[.slice (some ⟨b, off, none⟩) ws.length cw, .int .i64 semi, .int .i64 toh, .int .i64 top, .bool cyc, .int .i64 scan, .int .i64 old, .int .i64 copied, .int .i64 serial, .slice ar rs.length cr, .slice (some ⟨bl, 0, none⟩) ws.length cl, .slice (some ⟨bp, op, none⟩) pl.length cv, .map (some bs), .map (some bc)] : Array Value)[i]?) ∧ (∀ i, W.cell? ⟨Bx, i, none⟩ = (#[.int .i64 8, .int .i64 (rvN ws (P + 2))] : Array Value)[i]?)) (first | assumption | exact KP _ bc' | exact KP _ (by assumption)) (first | (go_at_call 74; refine (object_at _ _ _ _ _ _ _ _ _ _ _ _ _ _ _ _ _ (rvN ws (P + 2)).toNat _ (by exact HM0.out) (arx_cells hbc HCc.out (And.left (by assumption))).1 (arx_cells hbc HCc.out (And.left (by assumption))).2 hn hw hm1).mono ?_; rw [HQ.out]; rintro e w' ⟨rfl, hbb⟩; have hB3 := below_next (w := wa) (And.left (by assumption)) hbb; clear hbb))
              all_goals
                go_wp2_with fail
                go_meet
                exact ⟨rfl, hB3⟩
            case rest =>
              obtain ⟨rfl, hBd⟩ := hcut
              have Bd := below_next Bc hBd
              have KSd := has_below KSc hBd lsvc
              have lsvd : sv < wc.heap.size := Nat.lt_of_lt_of_le lsvc hBd.size
              obtain ⟨hbd, hcd⟩ := arx_cells hbc HCc.out hBd
              have HMd : Hid (MapH wc w.heap.size k (hadT ws (pl.take k))) := HMc.out.of_block (hBd.block _ hmzc)
              have hmzd : w.heap.size < wc.heap.size := Nat.lt_of_lt_of_le hmzc hBd.size
              clear HCc HMc KSc hmzc hx
              obtain ⟨c, hlk⟩ := HMd.out.look wfQ
              cases hd : hadT ws (pl.take k) (Q : Int) with
              | true =>
                have HBAD : Hid (¬ TabsB ws pl pl.length) := fun g => by have := (HTR.out.1 (HNO.out g)).1; rw [hd] at this; simp at this
                rw [hd] at hlk
                clear hcd
                go_wp2
                go_ret
                first
                  | exact ⟨false, rfl, ⟨fun g => by simp at g, fun g => absurd g HBAD.out⟩, Bd⟩
                  | exact Or.inl ⟨rfl, HBAD.out, Bd⟩
              | false =>
                rw [hd] at hlk
                obtain ⟨w7, hup, hm7, hg7⟩ := HMd.out.put (by omega) wfQ wfP
                have HM7 : Hid (MapH w7 w.heap.size (k + 1) (hadT ws (pl.take (k + 1)))) := hm7.congr HMQ.out
                have hk7 : ∀ j, j < wc.heap.size → j ≠ w.heap.size → w7.heap[j]? = wc.heap[j]? := fun j hj e => hg7.block j hj (by intro g; cases g; exact e rfl)
                have B7 : Below w.heap.size w w7 := ⟨hg7.os.trans Bd.os, hg7.tape.trans Bd.tape, hg7.output.trans Bd.output, Nat.le_trans Bd.size hg7.size, fun j hj => (hk7 j (by have := Bd.size; omega) (by omega)).trans (Bd.block j hj)⟩
                have KS7 := has_below KS B7 lsv
                obtain ⟨hb7, hc7⟩ := arx_cells hb HC.out B7
                have HC7 : Hid (∀ i, i < ws.length → w7.cell? ⟨b, off + i, none⟩ = some (.int .u64 (wordAt ws i))) := hc7
                have hmz7 : w.heap.size < w7.heap.size := hm7.lt
                clear hcd hc7 HMd hm7 hg7 hk7 KSd KS
                by_cases he : EntsB ws Q (wordAt ws (P + 1))
                · have HE : Hid (EntsB ws Q (wordAt ws (P + 1))) := he
                  have HN : Hid (TabsB ws pl (k + 1)) := HST.out (HTR.out.2 ⟨hd, he⟩)
                  clear he
                  go_wp2_with (first | (go_at_call 112; refine (keysOf_at _ _ _ _ _ _ _ _ _ _ _ _ _ _ _ _ Q (capN ws Q) _ rfl hb7 HC7.out hn hw rfl (rdS_ge _ (word_in hw Q).1) HCAP.out HK7.out).mono ?_; rintro e w8 ⟨K8, rfl, hK8, hK, b8⟩) | (go_at_call 111; refine (HEN.out K8 _ _ hK).mono ?_; rintro e w9 ⟨q, rfl, hq, b9⟩; obtain rfl : q = true := hq.2 HE.out; clear hq))
                  have b79 := below_next b8 b9
                  exact ⟨⟨k + 1, hlt, by go_num, HM7.out.of_block (b79.block _ hmz7), HN, Nat.lt_of_lt_of_le hmz7 b79.size, below_next B7 b79⟩, by simp [intOf]; omega⟩
                · have HE : Hid (¬ EntsB ws Q (wordAt ws (P + 1))) := he
                  have HBAD : Hid (¬ TabsB ws pl pl.length) := fun g => he (HTR.out.1 (HNO.out g)).2
                  clear he
                  go_wp2_with (first | (go_at_call 112; refine (keysOf_at _ _ _ _ _ _ _ _ _ _ _ _ _ _ _ _ Q (capN ws Q) _ rfl hb7 HC7.out hn hw rfl (rdS_ge _ (word_in hw Q).1) HCAP.out HK7.out).mono ?_; rintro e w8 ⟨K8, rfl, hK8, hK, b8⟩) | (go_at_call 111; refine (HEN.out K8 _ _ hK).mono ?_; rintro e w9 ⟨q, rfl, hq, b9⟩; obtain rfl : q = false := bool_no hq HE.out; clear hq))
                  go_ret
                  have b79 := below_next B7 (below_next b8 b9)
                  first
                    | exact ⟨false, rfl, ⟨fun g => by simp at g, fun g => absurd g HBAD.out⟩, b79⟩
                    | exact Or.inl ⟨rfl, HBAD.out, b79⟩
      · have e2 : (rdK (wordAt ws P) != 2) = true := by simp [h2]
        have HN : Hid (TabsB ws pl (k + 1)) := HST.out (fun g => absurd g h2)
        have HMN : Hid (∀ x, hadT ws (pl.take k) x = hadT ws (pl.take (k + 1)) x) := fun x => by rw [HHN.out x]; simp [h2]
        clear h2 HTP
        go_wp2_with (go_at_call 77; refine (headAt_at _ _ _ _ _ _ _ _ _ _ _ _ _ _ _ P _ rfl (ar_sl hbr HCR.out) hn hw hPl).mono ?_; rintro e w5 ⟨rfl, b5⟩)
        exact ⟨⟨k + 1, hlt, by go_num, ((HM.out.of_block (b5.block _ hmz)).congr HMN.out).mono (by omega), HN, Nat.lt_of_lt_of_le hmz b5.size, below_next hB b5⟩, by simp [intOf]; omega⟩
    · have hkl : k = pl.length := by omega
      have HTL : Hid (TabsB ws pl pl.length) := by have := HT.out; rw [hkl] at this; exact this
      have hge : (pl.length : Int) ≤ (k : Int) := by omega
      clear hkl
      go_wp2
      go_ret
      first
        | exact ⟨true, rfl, ⟨fun _ => HTL.out, fun _ => rfl⟩, hB⟩
        | exact Or.inr ⟨rfl, HTL.out, hB⟩
end Go.Proofs.YtdcniiihanjjnaaGreat
