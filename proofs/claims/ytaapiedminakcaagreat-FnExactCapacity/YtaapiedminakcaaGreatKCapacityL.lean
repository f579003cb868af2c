/- Roots that are tables, and their blocks. -/
import Derived.Test.YtaapiedminakcaaGreatProg
import Derived.Test.YtaapiedminakcaaGreatKLookS
import Derived.Test.YtaapiedminakcaaGreatKTabJ
import Derived.Test.YtaapiedminakcaaGreatKKeyG
import Derived.Test.YtaapiedminakcaaGreatKAllA
import Derived.Deep.RegionHeld3
import Derived.Test.YtaapiedminakcaaGreatKLawC
namespace Go.Proofs.YtaapiedminakcaaGreat
set_option maxRecDepth 20000
open Go.RowKit
set_option linter.unusedSimpArgs false
set_option linter.unusedVariables false

/-- Is the Root r a table? -/
def isTb (y : Nat → Int) (n : Nat) (r : Int) : Bool := hasR r n && decide (y (2 * r.toNat) = 4)
theorem isTb_yes {y : Nat → Int} {n : Nat} {r : Int} (h : isTb y n r = true) : ∃ k : Nat, r = (k : Int) ∧ k < n ∧ y (2 * k) = 4 := by
  simp only [isTb, hasR, Bool.and_eq_true, decide_eq_true_eq] at h
  obtain ⟨k, rfl⟩ := Int.eq_ofNat_of_zero_le h.1.1
  exact ⟨k, rfl, by omega, by simpa using h.2⟩
theorem l6Is_at (aw : Option Addr) (cw : Nat) (ws : List Int) (semi toh top : Int) (cyc : Bool) (scan old copied serial : Int) (ar : Option Addr) (cr : Nat) (rs : List (Int × Int)) (r : Int) (y : Nat → Int) (Tr : Nat) (w : World) (hrt : SlF Tr w (.slice ar rs.length cr) rs.length (2 * rs.length) (fun i => .int .i64 (y i))) (hn2 : rs.length ≤ 1048576) :
    Calls Tryz.prog 115 #[.agg #[.slice aw ws.length cw, .int .i64 semi, .int .i64 toh, .int .i64 top, .bool cyc, .int .i64 scan, .int .i64 old, .int .i64 copied, .int .i64 serial, .slice ar rs.length cr], .int .i64 r] w fun e w' => e = .returned (.bool (isTb y rs.length r)) ∧ Below w.heap.size w w' := by
  cases h : hasR r rs.length with
  | false =>
    have e : isTb y rs.length r = false := by simp [isTb, h]
    rw [e]
    go_enter Tryz.func115, Tryz.ntmps115
    go_wp2_with (go_at_call 88; refine (l2Root_any _ _ _ _ _ _ _ _ _ _ _ _ _ _ _ _ hn2).mono ?_; rw [h]; rintro e w1 ⟨rfl, b1⟩)
    go_ret
    exact ⟨rfl, below_first b1⟩
  | true =>
    have h' := of_decide_eq_true h
    obtain ⟨k, rfl⟩ := Int.eq_ofNat_of_zero_le h'.1
    have hk : k < rs.length := by omega
    obtain ⟨br, offr, cap', hv, _, lbr, hcr⟩ := hrt.here.parts (k := 0) (by omega)
    simp only [Value.slice.injEq] at hv
    obtain ⟨rfl, _, rfl⟩ := hv
    have hk' : (k : Int) < (rs.length : Int) := by omega
    have e : isTb y rs.length (k : Int) = (y (2 * k) == 4) := by simp only [isTb, h, Bool.true_and, Int.toNat_natCast]; exact (Bool.beq_eq_decide_eq _ _).symm
    rw [e]
    obtain ⟨t, ht⟩ : ∃ t, t = y (2 * k) := ⟨_, rfl⟩
    have c0 : ∀ V, Below w.heap.size w V → V.cell? ⟨br, offr + k * 2, none⟩ = some (.int .i64 t) := fun V hV => by rw [hV.cell (p := ⟨br, offr + k * 2, none⟩) lbr, Nat.mul_comm, ht]; exact hcr (2 * k) (by omega)
    have c1 : ∀ V, Below w.heap.size w V → V.cell? ⟨br, offr + k * 2 + 1, none⟩ = some (.int .i64 (y (2 * k + 1))) := fun V hV => by rw [hV.cell (p := ⟨br, offr + k * 2 + 1, none⟩) lbr, Nat.mul_comm]; exact hcr (2 * k + 1) (by omega)
    rw [← ht]
    clear ht e hcr hrt
    go_enter Tryz.func115, Tryz.ntmps115
    go_wp2_with fail
    refine (l2Root_any _ _ _ _ _ _ _ _ _ _ _ _ _ _ _ _ hn2).mono ?_
    rw [h]
    rintro e w1 ⟨rfl, b1⟩
    have k1 := one_cells b1 (by simp)
    have B1 := below_first b1
    have x0 := c0 w1 B1
    have x1 := c1 w1 B1
    clear b1 c0 c1
    go_wp2
    go_ret
    exact ⟨rfl, B1⟩
theorem isTable_at (aw : Option Addr) (cw : Nat) (ws : List Int) (semi toh top : Int) (cyc : Bool) (scan old copied serial : Int) (ar : Option Addr) (cr : Nat) (rs : List (Int × Int)) (r : Int) (y : Nat → Int) (Tr : Nat) (w : World) (hrt : SlF Tr w (.slice ar rs.length cr) rs.length (2 * rs.length) (fun i => .int .i64 (y i))) (hn2 : rs.length ≤ 1048576) :
    Calls Tryz.prog 117 #[.agg #[.slice aw ws.length cw, .int .i64 semi, .int .i64 toh, .int .i64 top, .bool cyc, .int .i64 scan, .int .i64 old, .int .i64 copied, .int .i64 serial, .slice ar rs.length cr], .int .i64 r] w fun e w' => e = .returned (.bool (isTb y rs.length r)) ∧ Below w.heap.size w w' := by
  cases h : hasR r rs.length with
  | false =>
    have e : isTb y rs.length r = false := by simp [isTb, h]
    rw [e]
    go_enter Tryz.func117, Tryz.ntmps117
    go_wp2_with (go_at_call 91; refine (hasRoot_any _ _ _ _ _ _ _ _ _ _ _ _ _ _ _ _ hn2).mono ?_; rw [h]; rintro e w1 ⟨rfl, b1⟩)
    go_ret
    exact ⟨rfl, below_first b1⟩
  | true =>
    have h' := of_decide_eq_true h
    obtain ⟨k, rfl⟩ := Int.eq_ofNat_of_zero_le h'.1
    have hk : k < rs.length := by omega
    obtain ⟨br, offr, cap', hv, _, lbr, hcr⟩ := hrt.here.parts (k := 0) (by omega)
    simp only [Value.slice.injEq] at hv
    obtain ⟨rfl, _, rfl⟩ := hv
    have hk' : (k : Int) < (rs.length : Int) := by omega
    have e : isTb y rs.length (k : Int) = (y (2 * k) == 4) := by simp only [isTb, h, Bool.true_and, Int.toNat_natCast]; exact (Bool.beq_eq_decide_eq _ _).symm
    rw [e]
    obtain ⟨t, ht⟩ : ∃ t, t = y (2 * k) := ⟨_, rfl⟩
    have c0 : ∀ V, Below w.heap.size w V → V.cell? ⟨br, offr + k * 2, none⟩ = some (.int .i64 t) := fun V hV => by rw [hV.cell (p := ⟨br, offr + k * 2, none⟩) lbr, Nat.mul_comm, ht]; exact hcr (2 * k) (by omega)
    have c1 : ∀ V, Below w.heap.size w V → V.cell? ⟨br, offr + k * 2 + 1, none⟩ = some (.int .i64 (y (2 * k + 1))) := fun V hV => by rw [hV.cell (p := ⟨br, offr + k * 2 + 1, none⟩) lbr, Nat.mul_comm]; exact hcr (2 * k + 1) (by omega)
    rw [← ht]
    clear ht e hcr hrt
    go_enter Tryz.func117, Tryz.ntmps117
    go_wp2_with fail
    refine (hasRoot_any _ _ _ _ _ _ _ _ _ _ _ _ _ _ _ _ hn2).mono ?_
    rw [h]
    rintro e w1 ⟨rfl, b1⟩
    have k1 := one_cells b1 (by simp)
    have B1 := below_first b1
    have x0 := c0 w1 B1
    have x1 := c1 w1 B1
    clear b1 c0 c1
    go_wp2
    go_ret
    exact ⟨rfl, B1⟩
/-- The block of the table at p: 0 for none; how many entries it has. -/
def blkN (ws : List Int) (p : Nat) : Nat := if rvT ws (p + 2) = 0 then 0 else blkOf ws p
def capB (ws : List Int) (p : Nat) : Nat := if rvT ws (p + 2) = 0 then 0 else capN ws (blkOf ws p)
theorem ar_tab {ws : List Int} {semi toh top : Int} {cyc : Bool} {scan old copied serial : Int} {y : Nat → Int} {rl : Nat} (hw : Words64 ws) (hok : ArOk ws semi toh top cyc scan old copied serial y rl) {i : Nat} (hi : i < rl) (h4 : y (2 * i) = 4) :
    ∃ p : Nat, y (2 * i + 1) = (p : Int) ∧ TabIs ws p := by
  obtain ⟨p, hp, hrd, hkd, _, hle, _⟩ := ar_root hw hok hi (by rw [h4]; rfl)
  refine ⟨p, hp, ?_⟩
  obtain ⟨s0, s1, hl, t0, t1, hrl, h1, h2, hold⟩ := num_facts hok.1
  obtain ⟨g1, g2, g3, g4, g5⟩ := num_halves s0 s1 hl t0 t1 h1 h2
  obtain ⟨L, O, ht, hser, hall⟩ := hok.2
  have hlaid := ar_laid hok (S := (toh * semi + 1).toNat) (T := top.toNat) (F := ((1 - toh) * semi + 1).toNat) (by omega) (by omega) (by omega) ht
  have hser' := hlaid.serials.2 hser
  have hbd := ((hlaid.whole hw hser' y rl).2 hall).1
  obtain ⟨_, _, hroots⟩ := hall
  obtain ⟨hv, _, hlead⟩ := hroots i hi
  obtain ⟨hm, hfr, _⟩ := hlead (by rw [h4]; rfl)
  have hmk : mk2 ws L O (y (2 * i + 1)).toNat = 1 := by
    unfold fromOk at hfr
    simp at hfr
    exact hfr
  rw [hp, Int.toNat_natCast] at hmk
  rw [h4] at hkd
  exact hlaid.tabIs hw hbd ((hlaid.mem p).2 (.inl hmk)) (by simpa [kindOf] using hkd)
theorem l6Block_no (aw : Option Addr) (cw : Nat) (ws : List Int) (semi toh top : Int) (cyc : Bool) (scan old copied serial : Int) (ar : Option Addr) (cr : Nat) (rs : List (Int × Int)) (x : Int) (p : Nat) (w : World) (hs : Sl w (.slice aw ws.length cw) ws) (hn : ws.length ≤ 1048576) (hw : Words64 ws) (hx : x = p) (hp : p + 3 < ws.length) (ht : rvT ws (p + 2) = 0) :
    Calls Tryz.prog 119 #[.agg #[.slice aw ws.length cw, .int .i64 semi, .int .i64 toh, .int .i64 top, .bool cyc, .int .i64 scan, .int .i64 old, .int .i64 copied, .int .i64 serial, .slice ar rs.length cr], .int .i64 x] w fun e w' => e = .returned (.tuple #[.int .i64 0, .int .i64 0]) ∧ Below w.heap.size w w' := by
  have x0 : 0 ≤ x := by omega
  have x1 : x ≤ 1048576 := by omega
  have HX2 : Hid (x + 2 = ((p + 2 : Nat) : Int)) := by show x + 2 = ((p + 2 : Nat) : Int); omega
  clear hx
  go_enter Tryz.func119, Tryz.ntmps119
  go_wp2_with fail
  refine (l1Read_at _ ws _ (p + 2) _ HX2.out (sl_alloc hs _) hn hw (by omega)).mono ?_
  rintro e w1 ⟨rfl, b1⟩
  have B1 := below_first b1
  rw [ht]
  have hB1 : Below w.heap.size w (w1.alloc (.cells #[.int .i64 0, .int .i64 (rvN ws (p + 2))] 50)) := B1.alloc B1.size _
  clear b1 ht
  go_wp2
  go_ret2
  exact ⟨rfl, hB1⟩
theorem l6Block_at (aw : Option Addr) (cw : Nat) (ws : List Int) (semi toh top : Int) (cyc : Bool) (scan old copied serial : Int) (ar : Option Addr) (cr : Nat) (rs : List (Int × Int)) (x T : Int) (p M Q n : Nat) (w : World) (hs : Sl w (.slice aw ws.length cw) ws) (hn : ws.length ≤ 1048576) (hw : Words64 ws) (hx : x = p) (hp : p + 3 < ws.length) (hT : rvT ws (p + 2) = T) (h0 : (T == 0) = false) (hM : rvN ws (p + 2) = M) (hM1 : M < ws.length) (hQ : leadsAt ws M = Q) (hQ1 : Q < ws.length) (hcap : capN ws Q = n) (hn1 : n ≤ 64) :
    Calls Tryz.prog 119 #[.agg #[.slice aw ws.length cw, .int .i64 semi, .int .i64 toh, .int .i64 top, .bool cyc, .int .i64 scan, .int .i64 old, .int .i64 copied, .int .i64 serial, .slice ar rs.length cr], .int .i64 x] w fun e w' => e = .returned (.tuple #[.int .i64 Q, .int .i64 n]) ∧ Below w.heap.size w w' := by
  have x0 : 0 ≤ x := by omega
  have x1 : x ≤ 1048576 := by omega
  have HX2 : Hid (x + 2 = ((p + 2 : Nat) : Int)) := by show x + 2 = ((p + 2 : Nat) : Int); omega
  have HT : Hid (rvT ws (p + 2) = T) := hT
  have HM : Hid (rvN ws (p + 2) = M) := hM
  have HQ : Hid (leadsAt ws M = Q) := hQ
  have hfs := field_size
  have n1 : (n : Int) ≤ 64 := by omega
  have hcap' : (rdS (wordAt ws Q)).tdiv 4 = (n : Int) := by
    have := rdS_ge (wordAt ws Q) (word_in hw Q).1
    rw [Int.tdiv_eq_ediv_of_nonneg this]; unfold capN at hcap; omega
  clear hx hT hM hQ hcap
  go_enter Tryz.func119, Tryz.ntmps119
  go_wp2_with fail
  refine (l1Read_at _ ws _ (p + 2) _ HX2.out (sl_alloc hs _) hn hw (by omega)).mono ?_
  rintro e w1 ⟨rfl, b1⟩
  have KA := one_cells b1 (by simp)
  have z1 := size_first b1
  have B1 := below_first b1
  rw [HT.out, HM.out]
  have HB : Hid (Below w.heap.size w (w1.alloc (.cells #[.int .i64 T, .int .i64 (M : Int)] 50))) := B1.alloc B1.size _
  clear b1
  go_wp2_with fail
  refine (l2Where_is _ _ _ _ _ _ _ _ _ _ _ _ _ _ _ (Q : Int) M _ rfl HQ.out (hs.below HB.out) hn hw hM1).mono ?_
  rintro e w2 ⟨rfl, b2⟩
  have K2 := has_below (has_below KA ((Below.refl w1.heap.size w1).alloc (Nat.le_refl _) _) z1) b2 (by simp; omega)
  have HB2 : Hid (Below w.heap.size w w2) := below_next HB.out b2
  clear b2 KA
  go_wp2_with fail
  refine (l2Look_at _ _ _ _ _ _ _ _ _ _ _ _ _ _ _ Q _ rfl (hs.below HB2.out) hn hw hQ1).mono ?_
  rintro e w3 ⟨rfl, b3⟩
  have B3 := below_next HB2.out b3
  clear b3 K2
  go_wp2
  go_ret2
  exact ⟨rfl, B3⟩
/-- l6Block at a table. -/
theorem l6Block_tab (aw : Option Addr) (cw : Nat) (ws : List Int) (semi toh top : Int) (cyc : Bool) (scan old copied serial : Int) (ar : Option Addr) (cr : Nat) (rs : List (Int × Int)) (x : Int) (p : Nat) (w : World) (hs : Sl w (.slice aw ws.length cw) ws) (hn : ws.length ≤ 1048576) (hw : Words64 ws) (hx : x = p) (hT : TabIs ws p) :
    Calls Tryz.prog 119 #[.agg #[.slice aw ws.length cw, .int .i64 semi, .int .i64 toh, .int .i64 top, .bool cyc, .int .i64 scan, .int .i64 old, .int .i64 copied, .int .i64 serial, .slice ar rs.length cr], .int .i64 x] w fun e w' => e = .returned (.tuple #[.int .i64 (blkN ws p : Nat), .int .i64 (capB ws p : Nat)]) ∧ Below w.heap.size w w' := by
  obtain ⟨⟨hp, hin⟩, h08, h8⟩ := hT
  unfold blkN capB
  rcases h08 with h | h
  · rw [if_pos h, if_pos h]; exact l6Block_no aw cw ws semi toh top cyc scan old copied serial ar cr rs x p w hs hn hw hx hp h
  · obtain ⟨a1, a2, a3, a4, a5, a6, a7, a8⟩ := hin h
    have h0 : ¬ rvT ws (p + 2) = 0 := by omega
    rw [if_neg h0, if_neg h0]
    exact l6Block_at aw cw ws semi toh top cyc scan old copied serial ar cr rs x 8 p (rvN ws (p + 2)).toNat (blkOf ws p) _ w hs hn hw hx hp h rfl (by omega) (by omega) (by unfold blkOf; omega) a4 rfl a6
/-- blockOf and capacityAt at a table. -/
theorem blockOf_tab (b off cw : Nat) (ws : List Int) (semi toh top : Int) (cyc : Bool) (scan old copied serial : Int) (ar : Option Addr) (cr : Nat) (rs : List (Int × Int)) (x : Int) (p : Nat) (w : World) (hx : x = p) (hb : b < w.heap.size) (hc : ∀ i, i < ws.length → w.cell? ⟨b, off + i, none⟩ = some (.int .u64 (wordAt ws i))) (hn : ws.length ≤ 1048576) (hw : Words64 ws) (hT : TabIs ws p) :
    Calls Tryz.prog 121 #[(.agg #[.slice (some ⟨b, off, none⟩) ws.length cw, .int .i64 semi, .int .i64 toh, .int .i64 top, .bool cyc, .int .i64 scan, .int .i64 old, .int .i64 copied, .int .i64 serial, .slice ar rs.length cr]), .int .i64 x] w fun e w' => e = .returned (.int .i64 (blkN ws p : Nat)) ∧ Below w.heap.size w w' := by
  obtain ⟨⟨hp, hin⟩, h08, h8⟩ := hT
  unfold blkN
  rcases h08 with h | h
  · rw [if_pos h]; exact blockOf_no b off cw ws semi toh top cyc scan old copied serial ar cr rs x p w hx hb hc hn hw hp h
  · obtain ⟨a1, a2, a3, a4, a5, a6, a7, a8⟩ := hin h
    have h0 : ¬ rvT ws (p + 2) = 0 := by omega
    rw [if_neg h0]
    exact blockOf_at b off cw ws semi toh top cyc scan old copied serial ar cr rs x 8 p (rvN ws (p + 2)).toNat (blkOf ws p) w hx hb hc hn hw hp h rfl (by omega) (by omega) (by unfold blkOf; omega)
theorem capacityAt_tab (b off cw : Nat) (ws : List Int) (semi toh top : Int) (cyc : Bool) (scan old copied serial : Int) (ar : Option Addr) (cr : Nat) (rs : List (Int × Int)) (p : Nat) (w : World) (hb : b < w.heap.size) (hc : ∀ i, i < ws.length → w.cell? ⟨b, off + i, none⟩ = some (.int .u64 (wordAt ws i))) (hn : ws.length ≤ 1048576) (hw : Words64 ws) (hT : TabIs ws p) :
    Calls Tryz.prog 120 #[(.agg #[.slice (some ⟨b, off, none⟩) ws.length cw, .int .i64 semi, .int .i64 toh, .int .i64 top, .bool cyc, .int .i64 scan, .int .i64 old, .int .i64 copied, .int .i64 serial, .slice ar rs.length cr]), .int .i64 (blkN ws p : Nat)] w fun e w' => e = .returned (.int .i64 (capB ws p : Nat)) ∧ Below w.heap.size w w' := by
  obtain ⟨⟨hp, hin⟩, h08, h8⟩ := hT
  unfold blkN capB
  rcases h08 with h | h
  · rw [if_pos h, if_pos h]; exact capacityAt_no b off cw ws semi toh top cyc scan old copied serial ar cr rs w
  · obtain ⟨a1, a2, a3, a4, a5, a6, a7, a8⟩ := hin h
    have h0 : ¬ rvT ws (p + 2) = 0 := by omega
    rw [if_neg h0, if_neg h0]
    exact capacityAt_at b off cw ws semi toh top cyc scan old copied serial ar cr rs _ (blkOf ws p) _ w rfl (h8 h).1 hb hc hn hw rfl (rdS_ge _ (word_in hw _).1) a6 a4
end Go.Proofs.YtaapiedminakcaaGreat

/- Capacity of both packages. -/
namespace Go.Proofs.YtaapiedminakcaaGreat
set_option maxRecDepth 20000
open Go.RowKit
set_option linter.unusedSimpArgs false
set_option linter.unusedVariables false

set_option maxHeartbeats 2000000 in
theorem specCapacity_w0 (aw : Option Addr) (cw : Nat) (ws : List Int) (semi toh top : Int) (cyc : Bool) (scan old copied serial : Int) (ar : Option Addr) (cr : Nat) (rs : List (Int × Int)) (r : Int) (y : Nat → Int) (Tr : Nat) (w : World) (hs : Sl w (.slice aw ws.length cw) ws) (hn : ws.length ≤ 1048576) (hw : Words64 ws) (hrt : SlF Tr w (.slice ar rs.length cr) rs.length (2 * rs.length) (fun i => .int .i64 (y i))) (hn2 : rs.length ≤ 1048576) (hok : ¬ ArOk ws semi toh top cyc scan old copied serial y rs.length) :
    Calls Tryz.prog 62 #[.agg #[.slice aw ws.length cw, .int .i64 semi, .int .i64 toh, .int .i64 top, .bool cyc, .int .i64 scan, .int .i64 old, .int .i64 copied, .int .i64 serial, .slice ar rs.length cr], .int .i64 r] w fun e w' => e = .returned (.tuple #[.int .i64 0, .int .i64 0]) ∧ Below w.heap.size w w' := by
  have HS : Hid (Sl w (.slice aw ws.length cw) ws) := hs
  have HR : Hid (SlF w.heap.size w (.slice ar rs.length cr) rs.length (2 * rs.length) (fun i => .int .i64 (y i))) := hrt.here
  have HQ : Hid (¬ ArOk ws semi toh top cyc scan old copied serial y rs.length) := hok
  clear hs hrt hok
  go_enter Tryz.func62, Tryz.ntmps62
  go_wp2_with fail
  refine (specArenaOk_at _ _ _ _ _ _ _ _ _ _ _ _ _ _ y w.heap.size _ (HS.out.below (below_first (Below.refl _ _))) hn hw (HR.out.below (below_first (Below.refl _ _)) (Nat.le_refl _)) hn2).mono ?_
  rintro e w1 ⟨q1, rfl, hq, b1⟩
  obtain rfl : q1 = false := by
    cases q1 with
    | false => rfl
    | true => exact absurd (hq.1 rfl) HQ.out
  have k1 := one_cells b1 (by simp)
  have B1 := below_first b1
  have z1 := size_first b1
  clear b1 hq
  go_wp2
  refine bodyPost_ret (v := .tuple #[.int .i64 0, .int .i64 0]) (by simp [results, Tryz.results62, go_sem]) rfl ⟨rfl, B1⟩
set_option maxHeartbeats 2000000 in
theorem specCapacity_w1 (aw : Option Addr) (cw : Nat) (ws : List Int) (semi toh top : Int) (cyc : Bool) (scan old copied serial : Int) (ar : Option Addr) (cr : Nat) (rs : List (Int × Int)) (r : Int) (y : Nat → Int) (Tr : Nat) (w : World) (hs : Sl w (.slice aw ws.length cw) ws) (hn : ws.length ≤ 1048576) (hw : Words64 ws) (hrt : SlF Tr w (.slice ar rs.length cr) rs.length (2 * rs.length) (fun i => .int .i64 (y i))) (hn2 : rs.length ≤ 1048576) (hok : ArOk ws semi toh top cyc scan old copied serial y rs.length) (hr : isTb y rs.length r = false) :
    Calls Tryz.prog 62 #[.agg #[.slice aw ws.length cw, .int .i64 semi, .int .i64 toh, .int .i64 top, .bool cyc, .int .i64 scan, .int .i64 old, .int .i64 copied, .int .i64 serial, .slice ar rs.length cr], .int .i64 r] w fun e w' => e = .returned (.tuple #[.int .i64 0, .int .i64 0]) ∧ Below w.heap.size w w' := by
  have HS : Hid (Sl w (.slice aw ws.length cw) ws) := hs
  have HR : Hid (SlF w.heap.size w (.slice ar rs.length cr) rs.length (2 * rs.length) (fun i => .int .i64 (y i))) := hrt.here
  have HQ : Hid (ArOk ws semi toh top cyc scan old copied serial y rs.length) := hok
  clear hs hrt hok
  go_enter Tryz.func62, Tryz.ntmps62
  go_wp2_with fail
  refine (specArenaOk_at _ _ _ _ _ _ _ _ _ _ _ _ _ _ y w.heap.size _ (HS.out.below (below_first (Below.refl _ _))) hn hw (HR.out.below (below_first (Below.refl _ _)) (Nat.le_refl _)) hn2).mono ?_
  rintro e w1 ⟨q1, rfl, hq, b1⟩
  obtain rfl := hq.2 HQ.out
  have k1 := one_cells b1 (by simp)
  have B1 := below_first b1
  have z1 := size_first b1
  clear b1 hq
  go_wp2_with fail
  refine (l6Is_at _ _ _ _ _ _ _ _ _ _ _ _ _ _ _ y w.heap.size _ (HR.out.below B1 (Nat.le_refl _)) hn2).mono ?_
  rintro e w2 ⟨rfl, b2⟩
  rw [hr]
  have k2 := has_below k1 b2 z1
  have B2 := below_next B1 b2
  have z2 := Nat.lt_of_lt_of_le z1 b2.size
  clear b2 k1 z1
  go_wp2
  refine bodyPost_ret (v := .tuple #[.int .i64 0, .int .i64 0]) (by simp [results, Tryz.results62, go_sem]) rfl ⟨rfl, B2⟩
set_option maxHeartbeats 2000000 in
theorem specCapacity_w3 (aw : Option Addr) (cw : Nat) (ws : List Int) (semi toh top : Int) (cyc : Bool) (scan old copied serial : Int) (ar : Option Addr) (cr : Nat) (rs : List (Int × Int)) (r p : Nat) (y : Nat → Int) (Tr : Nat) (w : World) (hs : Sl w (.slice aw ws.length cw) ws) (hn : ws.length ≤ 1048576) (hw : Words64 ws) (hrt : SlF Tr w (.slice ar rs.length cr) rs.length (2 * rs.length) (fun i => .int .i64 (y i))) (hn2 : rs.length ≤ 1048576) (hok : ArOk ws semi toh top cyc scan old copied serial y rs.length) (hr : r < rs.length) (ht : y (2 * r) = 4) (hp : y (2 * r + 1) = (p : Int)) (tp : TabIs ws p) :
    Calls Tryz.prog 62 #[.agg #[.slice aw ws.length cw, .int .i64 semi, .int .i64 toh, .int .i64 top, .bool cyc, .int .i64 scan, .int .i64 old, .int .i64 copied, .int .i64 serial, .slice ar rs.length cr], .int .i64 r] w fun e w' => e = .returned (.tuple #[.int .i64 (capB ws p : Nat), .int .i64 (wrap64 (wordAt ws (p + 1)))]) ∧ Below w.heap.size w w' := by
  have HT1 : Hid (isTb y rs.length (r : Int) = true) := by show _ = _; simp [isTb, hasR, hr, ht]
  have HS : Hid (Sl w (.slice aw ws.length cw) ws) := hs
  have HR : Hid (SlF w.heap.size w (.slice ar rs.length cr) rs.length (2 * rs.length) (fun i => .int .i64 (y i))) := hrt.here
  have HQ : Hid (ArOk ws semi toh top cyc scan old copied serial y rs.length) := hok
  clear hs hrt hok
  have HPY : Hid (y (2 * r + 1) = (p : Int)) := hp
  have HTY : Hid (y (2 * r) = 4) := ht
  have HPT : Hid (TabIs ws p) := tp
  have hp3 : p + 3 < ws.length := tp.1.1
  clear hp ht tp
  go_enter Tryz.func62, Tryz.ntmps62
  go_wp2_with fail
  refine (specArenaOk_at _ _ _ _ _ _ _ _ _ _ _ _ _ _ y w.heap.size _ (HS.out.below (below_first (Below.refl _ _))) hn hw (HR.out.below (below_first (Below.refl _ _)) (Nat.le_refl _)) hn2).mono ?_
  rintro e w1 ⟨q1, rfl, hq, b1⟩
  obtain rfl := hq.2 HQ.out
  have k1 := one_cells b1 (by simp)
  have B1 := below_first b1
  have z1 := size_first b1
  clear b1 hq
  go_wp2_with fail
  refine (l6Is_at _ _ _ _ _ _ _ _ _ _ _ _ _ _ _ y w.heap.size _ (HR.out.below B1 (Nat.le_refl _)) hn2).mono ?_
  rintro e w2 ⟨rfl, b2⟩
  rw [HT1.out]
  have k2 := has_below k1 b2 z1
  have B2 := below_next B1 b2
  have z2 := Nat.lt_of_lt_of_le z1 b2.size
  clear b2 k1 z1
  obtain ⟨br, offr, cap', hv, _, lbr, hcr⟩ := HR.out.parts (k := 0) (by omega)
  simp only [Value.slice.injEq] at hv
  obtain ⟨rfl, _, rfl⟩ := hv
  have x0 : w2.cell? ⟨br, offr + r * 2, none⟩ = some (.int .i64 4) := by rw [B2.cell (p := ⟨br, offr + r * 2, none⟩) lbr, Nat.mul_comm, ← HTY.out]; exact hcr (2 * r) (by omega)
  have x1 : w2.cell? ⟨br, offr + r * 2 + 1, none⟩ = some (.int .i64 (p : Int)) := by rw [B2.cell (p := ⟨br, offr + r * 2 + 1, none⟩) lbr, Nat.mul_comm, ← HPY.out]; exact hcr (2 * r + 1) (by omega)
  have hr' : (r : Int) < (rs.length : Int) := by omega
  clear hcr
  go_wp2_with fail
  have lbw2 : br < w2.heap.size := Nat.lt_of_lt_of_le lbr B2.size
  have KP2 : ∀ V, Below w2.heap.size w2 V → (Below w2.heap.size w2 V ∧ (∀ i, V.cell? ⟨w.heap.size, i, none⟩ = (#[.slice aw ws.length cw, .int .i64 semi, .int .i64 toh, .int .i64 top, .bool cyc, .int .i64 scan, .int .i64 old, .int .i64 copied, .int .i64 serial, .slice (some ⟨br, offr, none⟩) rs.length cr] : Array Value)[i]?) ∧ V.cell? ⟨br, offr + r * 2, none⟩ = some (.int .i64 4) ∧ V.cell? ⟨br, offr + r * 2 + 1, none⟩ = some (.int .i64 (p : Int))) := fun V hV => ⟨hV, has_below k2 hV z2, by rw [hV.cell (p := ⟨br, offr + r * 2, none⟩) lbw2]; exact x0, by rw [hV.cell (p := ⟨br, offr + r * 2 + 1, none⟩) lbw2]; exact x1⟩
  have bd2 := (Below.refl w2.heap.size w2).drew
  go_region_held3 (fun V => Below w2.heap.size w2 V ∧ (∀ i, V.cell? ⟨w.heap.size, i, none⟩ = (#[.slice aw ws.length cw, .int .i64 semi, .int .i64 toh, .int .i64 top, .bool cyc, .int .i64 scan, .int .i64 old, .int .i64 copied, .int .i64 serial, .slice (some ⟨br, offr, none⟩) rs.length cr] : Array Value)[i]?) ∧ V.cell? ⟨br, offr + r * 2, none⟩ = some (.int .i64 4) ∧ V.cell? ⟨br, offr + r * 2 + 1, none⟩ = some (.int .i64 (p : Int))) (first | assumption | exact KP2 _ bd2 | exact KP2 _ (by assumption)) (first | (go_at_call 119; refine (l6Block_tab _ _ _ _ _ _ _ _ _ _ _ _ _ _ _ p _ (HS.out.below (below_next B2 (And.left (by assumption)))) hn hw rfl HPT.out).mono ?_; rintro e w3 ⟨rfl, bb⟩; have hB3 := below_next (w := w2) (And.left (by assumption)) bb; clear bb))
  all_goals
    have k3 := has_below k2 hB3 z2
    have B3 := below_next B2 hB3
    have z3 := Nat.lt_of_lt_of_le z2 hB3.size
    have x0' : w3.cell? ⟨br, offr + r * 2, none⟩ = some (.int .i64 4) := by rw [hB3.cell (p := ⟨br, offr + r * 2, none⟩) lbw2]; exact x0
    have x1' : w3.cell? ⟨br, offr + r * 2 + 1, none⟩ = some (.int .i64 (p : Int)) := by rw [hB3.cell (p := ⟨br, offr + r * 2 + 1, none⟩) lbw2]; exact x1
    clear x0 x1 k2 KP2 hB3
    have x0 := x0'
    have x1 := x1'
    clear x0' x1'
    go_wp2_with fail
    have lbw3 : br < w3.heap.size := Nat.lt_of_lt_of_le lbr B3.size
    have KP3 : ∀ V, Below w3.heap.size w3 V → (Below w3.heap.size w3 V ∧ (∀ i, V.cell? ⟨w.heap.size, i, none⟩ = (#[.slice aw ws.length cw, .int .i64 semi, .int .i64 toh, .int .i64 top, .bool cyc, .int .i64 scan, .int .i64 old, .int .i64 copied, .int .i64 serial, .slice (some ⟨br, offr, none⟩) rs.length cr] : Array Value)[i]?) ∧ V.cell? ⟨br, offr + r * 2, none⟩ = some (.int .i64 4) ∧ V.cell? ⟨br, offr + r * 2 + 1, none⟩ = some (.int .i64 (p : Int))) := fun V hV => ⟨hV, has_below k3 hV z3, by rw [hV.cell (p := ⟨br, offr + r * 2, none⟩) lbw3]; exact x0, by rw [hV.cell (p := ⟨br, offr + r * 2 + 1, none⟩) lbw3]; exact x1⟩
    have bd3 := (Below.refl w3.heap.size w3).drew
    go_region_held3 (fun V => Below w3.heap.size w3 V ∧ (∀ i, V.cell? ⟨w.heap.size, i, none⟩ = (#[.slice aw ws.length cw, .int .i64 semi, .int .i64 toh, .int .i64 top, .bool cyc, .int .i64 scan, .int .i64 old, .int .i64 copied, .int .i64 serial, .slice (some ⟨br, offr, none⟩) rs.length cr] : Array Value)[i]?) ∧ V.cell? ⟨br, offr + r * 2, none⟩ = some (.int .i64 4) ∧ V.cell? ⟨br, offr + r * 2 + 1, none⟩ = some (.int .i64 (p : Int))) (first | assumption | exact KP3 _ bd3 | exact KP3 _ (by assumption)) (first | (go_at_call 96; refine (l2Word_any _ _ _ _ _ _ _ _ _ _ _ _ _ _ p 1 _ (HS.out.below (below_next B3 (And.left (by assumption)))) hn (by omega)).mono ?_; rintro e w4 ⟨rfl, bb⟩; have hB4 := below_next (w := w3) (And.left (by assumption)) bb; clear bb))
    all_goals
      go_wp2
      refine bodyPost_ret (v := .tuple #[.int .i64 (capB ws p : Nat), .int .i64 (wrap64 (wordAt ws (p + 1)))]) (by simp [results, Tryz.results62, go_sem]) rfl ⟨rfl, below_next B3 hB4⟩
set_option maxHeartbeats 2000000 in
theorem implCapacity_w0 (aw : Option Addr) (cw : Nat) (ws : List Int) (semi toh top : Int) (cyc : Bool) (scan old copied serial : Int) (ar : Option Addr) (cr : Nat) (rs : List (Int × Int)) (r : Int) (y : Nat → Int) (Tr : Nat) (w : World) (hs : Sl w (.slice aw ws.length cw) ws) (hcw : ws.length ≤ cw) (hn : ws.length ≤ 1048576) (hw : Words64 ws) (hrt : SlF Tr w (.slice ar rs.length cr) rs.length (2 * rs.length) (fun i => .int .i64 (y i))) (hn2 : rs.length ≤ 1048576) (hok : ¬ ArOk ws semi toh top cyc scan old copied serial y rs.length) :
    Calls Tryz.prog 63 #[.agg #[.slice aw ws.length cw, .int .i64 semi, .int .i64 toh, .int .i64 top, .bool cyc, .int .i64 scan, .int .i64 old, .int .i64 copied, .int .i64 serial, .slice ar rs.length cr], .int .i64 r] w fun e w' => e = .returned (.tuple #[.int .i64 0, .int .i64 0]) ∧ Below w.heap.size w w' := by
  have HS : Hid (Sl w (.slice aw ws.length cw) ws) := hs
  have HR : Hid (SlF w.heap.size w (.slice ar rs.length cr) rs.length (2 * rs.length) (fun i => .int .i64 (y i))) := hrt.here
  have HQ : Hid (¬ ArOk ws semi toh top cyc scan old copied serial y rs.length) := hok
  clear hs hrt hok
  go_enter Tryz.func63, Tryz.ntmps63
  go_wp2_with fail
  refine (implArenaOk_at _ _ _ _ _ _ _ _ _ _ _ _ _ _ y w.heap.size _ (HS.out.below (below_first (Below.refl _ _))) hcw hn hw (HR.out.below (below_first (Below.refl _ _)) (Nat.le_refl _)) hn2).mono ?_
  rintro e w1 ⟨q1, rfl, hq, b1⟩
  obtain rfl : q1 = false := by
    cases q1 with
    | false => rfl
    | true => exact absurd (hq.1 rfl) HQ.out
  have k1 := one_cells b1 (by simp)
  have B1 := below_first b1
  have z1 := size_first b1
  clear b1 hq
  go_wp2
  refine bodyPost_ret (v := .tuple #[.int .i64 0, .int .i64 0]) (by simp [results, Tryz.results63, go_sem]) rfl ⟨rfl, B1⟩
set_option maxHeartbeats 2000000 in
theorem implCapacity_w1 (aw : Option Addr) (cw : Nat) (ws : List Int) (semi toh top : Int) (cyc : Bool) (scan old copied serial : Int) (ar : Option Addr) (cr : Nat) (rs : List (Int × Int)) (r : Int) (y : Nat → Int) (Tr : Nat) (w : World) (hs : Sl w (.slice aw ws.length cw) ws) (hcw : ws.length ≤ cw) (hn : ws.length ≤ 1048576) (hw : Words64 ws) (hrt : SlF Tr w (.slice ar rs.length cr) rs.length (2 * rs.length) (fun i => .int .i64 (y i))) (hn2 : rs.length ≤ 1048576) (hok : ArOk ws semi toh top cyc scan old copied serial y rs.length) (hr : isTb y rs.length r = false) :
    Calls Tryz.prog 63 #[.agg #[.slice aw ws.length cw, .int .i64 semi, .int .i64 toh, .int .i64 top, .bool cyc, .int .i64 scan, .int .i64 old, .int .i64 copied, .int .i64 serial, .slice ar rs.length cr], .int .i64 r] w fun e w' => e = .returned (.tuple #[.int .i64 0, .int .i64 0]) ∧ Below w.heap.size w w' := by
  have HS : Hid (Sl w (.slice aw ws.length cw) ws) := hs
  have HR : Hid (SlF w.heap.size w (.slice ar rs.length cr) rs.length (2 * rs.length) (fun i => .int .i64 (y i))) := hrt.here
  have HQ : Hid (ArOk ws semi toh top cyc scan old copied serial y rs.length) := hok
  clear hs hrt hok
  go_enter Tryz.func63, Tryz.ntmps63
  go_wp2_with fail
  refine (implArenaOk_at _ _ _ _ _ _ _ _ _ _ _ _ _ _ y w.heap.size _ (HS.out.below (below_first (Below.refl _ _))) hcw hn hw (HR.out.below (below_first (Below.refl _ _)) (Nat.le_refl _)) hn2).mono ?_
  rintro e w1 ⟨q1, rfl, hq, b1⟩
  obtain rfl := hq.2 HQ.out
  have k1 := one_cells b1 (by simp)
  have B1 := below_first b1
  have z1 := size_first b1
  clear b1 hq
  go_wp2_with fail
  refine (isTable_at _ _ _ _ _ _ _ _ _ _ _ _ _ _ _ y w.heap.size _ (HR.out.below B1 (Nat.le_refl _)) hn2).mono ?_
  rintro e w2 ⟨rfl, b2⟩
  rw [hr]
  have k2 := has_below k1 b2 z1
  have B2 := below_next B1 b2
  have z2 := Nat.lt_of_lt_of_le z1 b2.size
  clear b2 k1 z1
  go_wp2
  refine bodyPost_ret (v := .tuple #[.int .i64 0, .int .i64 0]) (by simp [results, Tryz.results63, go_sem]) rfl ⟨rfl, B2⟩
set_option maxHeartbeats 2000000 in
theorem implCapacity_w3 (aw : Option Addr) (cw : Nat) (ws : List Int) (semi toh top : Int) (cyc : Bool) (scan old copied serial : Int) (ar : Option Addr) (cr : Nat) (rs : List (Int × Int)) (r p : Nat) (y : Nat → Int) (Tr : Nat) (w : World) (hs : Sl w (.slice aw ws.length cw) ws) (hcw : ws.length ≤ cw) (hn : ws.length ≤ 1048576) (hw : Words64 ws) (hrt : SlF Tr w (.slice ar rs.length cr) rs.length (2 * rs.length) (fun i => .int .i64 (y i))) (hn2 : rs.length ≤ 1048576) (hok : ArOk ws semi toh top cyc scan old copied serial y rs.length) (hr : r < rs.length) (ht : y (2 * r) = 4) (hp : y (2 * r + 1) = (p : Int)) (tp : TabIs ws p) :
    Calls Tryz.prog 63 #[.agg #[.slice aw ws.length cw, .int .i64 semi, .int .i64 toh, .int .i64 top, .bool cyc, .int .i64 scan, .int .i64 old, .int .i64 copied, .int .i64 serial, .slice ar rs.length cr], .int .i64 r] w fun e w' => e = .returned (.tuple #[.int .i64 (capB ws p : Nat), .int .i64 (wrap64 (wordAt ws (p + 1)))]) ∧ Below w.heap.size w w' := by
  have HT1 : Hid (isTb y rs.length (r : Int) = true) := by show _ = _; simp [isTb, hasR, hr, ht]
  have HS : Hid (Sl w (.slice aw ws.length cw) ws) := hs
  have HR : Hid (SlF w.heap.size w (.slice ar rs.length cr) rs.length (2 * rs.length) (fun i => .int .i64 (y i))) := hrt.here
  have HQ : Hid (ArOk ws semi toh top cyc scan old copied serial y rs.length) := hok
  clear hs hrt hok
  have HPY : Hid (y (2 * r + 1) = (p : Int)) := hp
  have HTY : Hid (y (2 * r) = 4) := ht
  have HPT : Hid (TabIs ws p) := tp
  have hp3 : p + 3 < ws.length := tp.1.1
  clear hp ht tp
  go_enter Tryz.func63, Tryz.ntmps63
  go_wp2_with fail
  refine (implArenaOk_at _ _ _ _ _ _ _ _ _ _ _ _ _ _ y w.heap.size _ (HS.out.below (below_first (Below.refl _ _))) hcw hn hw (HR.out.below (below_first (Below.refl _ _)) (Nat.le_refl _)) hn2).mono ?_
  rintro e w1 ⟨q1, rfl, hq, b1⟩
  obtain rfl := hq.2 HQ.out
  have k1 := one_cells b1 (by simp)
  have B1 := below_first b1
  have z1 := size_first b1
  clear b1 hq
  go_wp2_with fail
  refine (isTable_at _ _ _ _ _ _ _ _ _ _ _ _ _ _ _ y w.heap.size _ (HR.out.below B1 (Nat.le_refl _)) hn2).mono ?_
  rintro e w2 ⟨rfl, b2⟩
  rw [HT1.out]
  have k2 := has_below k1 b2 z1
  have B2 := below_next B1 b2
  have z2 := Nat.lt_of_lt_of_le z1 b2.size
  clear b2 k1 z1
  obtain ⟨br, offr, cap', hv, _, lbr, hcr⟩ := HR.out.parts (k := 0) (by omega)
  simp only [Value.slice.injEq] at hv
  obtain ⟨rfl, _, rfl⟩ := hv
  have x0 : w2.cell? ⟨br, offr + r * 2, none⟩ = some (.int .i64 4) := by rw [B2.cell (p := ⟨br, offr + r * 2, none⟩) lbr, Nat.mul_comm, ← HTY.out]; exact hcr (2 * r) (by omega)
  have x1 : w2.cell? ⟨br, offr + r * 2 + 1, none⟩ = some (.int .i64 (p : Int)) := by rw [B2.cell (p := ⟨br, offr + r * 2 + 1, none⟩) lbr, Nat.mul_comm, ← HPY.out]; exact hcr (2 * r + 1) (by omega)
  have hr' : (r : Int) < (rs.length : Int) := by omega
  clear hcr
  obtain ⟨b, off, rfl, hb, hc⟩ := sl_open HS.out (by omega)
  have HC : Hid (∀ i, i < ws.length → w.cell? ⟨b, off + i, none⟩ = some (.int .u64 (wordAt ws i))) := hc
  have xw := (arx_cells hb hc B2).2 (p + 1) (by omega)
  have lb2 : b < w2.heap.size := (arx_cells hb hc B2).1
  have i0 : (0 : Int) ≤ (p : Int) + 1 := by omega
  have i1 : (p : Int) + 1 < (ws.length : Int) := by omega
  have i2 : ((p : Int) + 1).toNat = p + 1 := by omega
  have i3 : IntKind.i64.wrap ((p : Int) + 1) = (p : Int) + 1 := by rw [IntKind.wrap_i64]; omega
  clear hc
  go_upto_region 4 with fail
  have lbw2 : br < w2.heap.size := Nat.lt_of_lt_of_le lbr B2.size
  have KP2 : ∀ V, Below w2.heap.size w2 V → (Below w2.heap.size w2 V ∧ (∀ i, V.cell? ⟨w.heap.size, i, none⟩ = (#[.slice (some ⟨b, off, none⟩) ws.length cw, .int .i64 semi, .int .i64 toh, .int .i64 top, .bool cyc, .int .i64 scan, .int .i64 old, .int .i64 copied, .int .i64 serial, .slice (some ⟨br, offr, none⟩) rs.length cr] : Array Value)[i]?) ∧ V.cell? ⟨br, offr + r * 2, none⟩ = some (.int .i64 4) ∧ V.cell? ⟨br, offr + r * 2 + 1, none⟩ = some (.int .i64 (p : Int)) ∧ V.cell? ⟨b, off + (p + 1), none⟩ = some (.int .u64 (wordAt ws (p + 1)))) := fun V hV => ⟨hV, has_below k2 hV z2, by rw [hV.cell (p := ⟨br, offr + r * 2, none⟩) lbw2]; exact x0, by rw [hV.cell (p := ⟨br, offr + r * 2 + 1, none⟩) lbw2]; exact x1, by rw [hV.cell (p := ⟨b, off + (p + 1), none⟩) lb2]; exact xw⟩
  have bd2 := (Below.refl w2.heap.size w2).drew
  go_region_held3 (fun V => Below w2.heap.size w2 V ∧ (∀ i, V.cell? ⟨w.heap.size, i, none⟩ = (#[.slice (some ⟨b, off, none⟩) ws.length cw, .int .i64 semi, .int .i64 toh, .int .i64 top, .bool cyc, .int .i64 scan, .int .i64 old, .int .i64 copied, .int .i64 serial, .slice (some ⟨br, offr, none⟩) rs.length cr] : Array Value)[i]?) ∧ V.cell? ⟨br, offr + r * 2, none⟩ = some (.int .i64 4) ∧ V.cell? ⟨br, offr + r * 2 + 1, none⟩ = some (.int .i64 (p : Int)) ∧ V.cell? ⟨b, off + (p + 1), none⟩ = some (.int .u64 (wordAt ws (p + 1)))) (first | assumption | exact KP2 _ bd2 | exact KP2 _ (by assumption)) (first | (go_at_call 121; refine (blockOf_tab _ _ _ _ _ _ _ _ _ _ _ _ _ _ _ _ p _ rfl (arx_cells hb HC.out (below_next B2 (And.left (by assumption)))).1 (arx_cells hb HC.out (below_next B2 (And.left (by assumption)))).2 hn hw HPT.out).mono ?_; rintro e w3 ⟨rfl, bb⟩; have hB3 := below_next (w := w2) (And.left (by assumption)) bb; clear bb) | (go_at_call 120; refine (capacityAt_tab _ _ _ _ _ _ _ _ _ _ _ _ _ _ _ p _ (arx_cells hb HC.out (below_next B2 hB3)).1 (arx_cells hb HC.out (below_next B2 hB3)).2 hn hw HPT.out).mono ?_; rintro e w4 ⟨rfl, bb⟩; have hB4 := below_next hB3 bb; clear bb))
  all_goals
    go_wp2
    refine bodyPost_ret (v := .tuple #[.int .i64 (capB ws p : Nat), .int .i64 (wrap64 (wordAt ws (p + 1)))]) (by simp [results, Tryz.results63, go_sem, IntKind.wrap_i64, wrap64]) rfl ⟨rfl, below_next B2 hB4⟩
end Go.Proofs.YtaapiedminakcaaGreat

/- The law FnExactCapacity, walked. -/
namespace Go.Proofs.YtaapiedminakcaaGreat
set_option maxRecDepth 20000
open Go.RowKit
set_option linter.unusedSimpArgs false
set_option linter.unusedVariables false

set_option maxHeartbeats 2000000 in
theorem fnExactCapacity_by (aw : Option Addr) (cw : Nat) (ws : List Int) (semi toh top : Int) (cyc : Bool) (scan old copied serial : Int) (ar : Option Addr) (cr : Nat) (rs : List (Int × Int)) (r : Int) (y : Nat → Int) (Tr : Nat) (w : World) (ans q : Int) (hs : Sl w (.slice aw ws.length cw) ws) (hrt : SlF Tr w (.slice ar rs.length cr) rs.length (2 * rs.length) (fun i => .int .i64 (y i))) (hl1 : ws.length ≤ 9223372036854775807) (hl2 : rs.length ≤ 9223372036854775807)
    (hspec : ws.length ≤ 1048576 → rs.length ≤ 1048576 → ∀ (aw : Option Addr) (cw : Nat) (ar : Option Addr) (cr : Nat) (W : World) (T : Nat), Sl W (.slice aw ws.length cw) ws → SlF T W (.slice ar rs.length cr) rs.length (2 * rs.length) (fun i => .int .i64 (y i)) → Calls Tryz.prog 62 #[.agg #[.slice aw ws.length cw, .int .i64 semi, .int .i64 toh, .int .i64 top, .bool cyc, .int .i64 scan, .int .i64 old, .int .i64 copied, .int .i64 serial, .slice ar rs.length cr], .int .i64 r] W fun e w' => e = .returned (.tuple #[.int .i64 ans, .int .i64 q]) ∧ Below W.heap.size W w')
    (himpl : ws.length ≤ 1048576 → rs.length ≤ 1048576 → ∀ (aw : Option Addr) (cw : Nat) (ar : Option Addr) (cr : Nat) (W : World) (T : Nat), Sl W (.slice aw ws.length cw) ws → ws.length ≤ cw → SlF T W (.slice ar rs.length cr) rs.length (2 * rs.length) (fun i => .int .i64 (y i)) → Calls Tryz.prog 63 #[.agg #[.slice aw ws.length cw, .int .i64 semi, .int .i64 toh, .int .i64 top, .bool cyc, .int .i64 scan, .int .i64 old, .int .i64 copied, .int .i64 serial, .slice ar rs.length cr], .int .i64 r] W fun e w' => e = .returned (.tuple #[.int .i64 ans, .int .i64 q]) ∧ Below W.heap.size W w') :
    Calls Tryz.prog 19 #[.agg #[.slice aw ws.length cw, .int .i64 semi, .int .i64 toh, .int .i64 top, .bool cyc, .int .i64 scan, .int .i64 old, .int .i64 copied, .int .i64 serial, .slice ar rs.length cr], .int .i64 r] w fun e w' => e = .returned (.bool true) ∧ Below w.heap.size w w' := by
  by_cases h : (ws.length : Int) + rs.length ≤ 1048576
  · have hn : ws.length ≤ 1048576 := by omega
    have hn2 : rs.length ≤ 1048576 := by omega
    have h0 : ¬ (1048576 - (ws.length : Int) - rs.length) < 0 := by omega
    have HSZ : ∀ W, _ := fun W => szArena_any aw ws.length cw semi toh top cyc scan old copied serial ar rs.length cr W hl1 hl2
    rw [if_pos h] at HSZ
    have HTA : Hid (∀ W, Below w.heap.size w W → _) := fun W (hW : Below w.heap.size w W) => toArena_at aw cw ws semi toh top cyc scan old copied serial ar cr rs y w.heap.size W (hs.below hW) hn (hrt.here.below hW (Nat.le_refl _)) hn2
    have HSP : Hid _ := hspec hn hn2
    have HIM : Hid _ := himpl hn hn2
    clear hs hrt h hl1 hl2 hspec himpl
    go_enter Tryz.func19, Tryz.ntmps19
    go_wp2_with fail
    refine (HSZ _).mono ?_
    rintro e w1 ⟨rfl, b1⟩
    have B1 := below_first b1
    have k1 := one_cells b1 (by simp)
    have z1 := size_first b1
    clear b1
    go_wp2_with fail
    refine (HTA.out _ B1).mono ?_
    rintro e w2 ⟨x1, x2, rfl, s2, r2, b2⟩
    have B2 := below_next B1 b2
    have k2 := has_below k1 b2 z1
    have z2 := Nat.lt_of_lt_of_le z1 b2.size
    clear b2 k1
    go_wp2_with fail
    refine (HSP.out (some ⟨x1, 0, none⟩) ws.length (some ⟨x2, 0, none⟩) rs.length _ _ s2 r2).mono ?_
    rintro e w3 ⟨rfl, b3⟩
    have B3 := below_next B2 b3
    have k3 := has_below k2 b3 z2
    have z3 := Nat.lt_of_lt_of_le z2 b3.size
    clear b3 k2 s2 r2
    go_wp2_with fail
    refine (HTA.out _ B3).mono ?_
    rintro e w4 ⟨x3, x4, rfl, s4, r4, b4⟩
    have B4 := below_next B3 b4
    have k4 := has_below k3 b4 z3
    have z4 := Nat.lt_of_lt_of_le z3 b4.size
    clear b4 k3
    have A4 := s4.below ((Below.refl w4.heap.size w4).alloc (Nat.le_refl _) (.cells #[.slice (some ⟨x3, 0, none⟩) ws.length ws.length, .int .i64 semi, .int .i64 toh, .int .i64 top, .bool cyc, .int .i64 scan, .int .i64 old, .int .i64 copied, .int .i64 serial, .slice (some ⟨x4, 0, none⟩) rs.length rs.length] 30))
    have R4 := r4.below ((Below.refl w4.heap.size w4).alloc (Nat.le_refl _) (.cells #[.slice (some ⟨x3, 0, none⟩) ws.length ws.length, .int .i64 semi, .int .i64 toh, .int .i64 top, .bool cyc, .int .i64 scan, .int .i64 old, .int .i64 copied, .int .i64 serial, .slice (some ⟨x4, 0, none⟩) rs.length rs.length] 30)) (Nat.le_refl _)
    go_wp2_with fail
    refine (HIM.out (some ⟨x3, 0, none⟩) ws.length (some ⟨x4, 0, none⟩) rs.length _ _ A4 (Nat.le_refl _) R4).mono ?_
    rintro e w5 ⟨rfl, b5⟩
    have B5 := below_next (below_box B4) b5
    have k5 := has_below (has_below k4 ((Below.refl w4.heap.size w4).alloc (Nat.le_refl _) _) z4) b5 (by simp; omega)
    have p5 := one_cells b5 (by simp)
    have z5 := size_first b5
    have S5 := A4.below b5
    have R5 := R4.below b5 (by simp)
    clear A4 R4 s4 r4 k4 b5
    have F5 := sl_f S5
    have R5' := R5.here
    go_wp2_with fail
    have KP : ∀ V, Below w5.heap.size w5 V → (Below w5.heap.size w5 V ∧ (∀ i, V.cell? ⟨w.heap.size, i, none⟩ = (#[.slice aw ws.length cw, .int .i64 semi, .int .i64 toh, .int .i64 top, .bool cyc, .int .i64 scan, .int .i64 old, .int .i64 copied, .int .i64 serial, .slice ar rs.length cr] : Array Value)[i]?) ∧ (∀ i, V.cell? ⟨w4.heap.size, i, none⟩ = (#[.slice (some ⟨x3, 0, none⟩) ws.length ws.length, .int .i64 semi, .int .i64 toh, .int .i64 top, .bool cyc, .int .i64 scan, .int .i64 old, .int .i64 copied, .int .i64 serial, .slice (some ⟨x4, 0, none⟩) rs.length rs.length] : Array Value)[i]?)) := fun V hV => ⟨hV, has_below k5 hV (by omega), has_below p5 hV z5⟩
    have b5' := (Below.refl w5.heap.size w5).drew
    clear k5 p5 S5 R5 HSZ HSP HIM
    go_region_held3 (fun V => Below w5.heap.size w5 V ∧ (∀ i, V.cell? ⟨w.heap.size, i, none⟩ = (#[.slice aw ws.length cw, .int .i64 semi, .int .i64 toh, .int .i64 top, .bool cyc, .int .i64 scan, .int .i64 old, .int .i64 copied, .int .i64 serial, .slice ar rs.length cr] : Array Value)[i]?) ∧ (∀ i, V.cell? ⟨w4.heap.size, i, none⟩ = (#[.slice (some ⟨x3, 0, none⟩) ws.length ws.length, .int .i64 semi, .int .i64 toh, .int .i64 top, .bool cyc, .int .i64 scan, .int .i64 old, .int .i64 copied, .int .i64 serial, .slice (some ⟨x4, 0, none⟩) rs.length rs.length] : Array Value)[i]?)) (first | assumption | exact KP _ b5' | exact KP _ (by assumption)) (first | (go_at_call 22; refine (HTA.out _ (below_next B5 (And.left (by assumption)))).mono ?_; rintro e w6 ⟨x5, x6, rfl, s6, r6, bb⟩; have hB6 := below_next (w := w5) (And.left (by assumption)) bb; clear bb) | (go_at_call 24; refine (eqArena_same _ _ _ _ _ _ _ _ ws.length rs.length (wordAt ws) y _ _ _ _ _ _ _ _ _ (F5.below hB6 (Nat.le_refl _)) (sl_f s6) hn (R5'.below hB6 (Nat.le_refl _)) r6 hn2).mono ?_; rintro e w7 ⟨rfl, bb⟩; have hB7 := below_next (w := w5) hB6 bb; clear bb))
    all_goals
      go_wp2
      go_ret
      exact ⟨rfl, below_next B5 hB7⟩
  · have HSZ : ∀ W, _ := fun W => szArena_any aw ws.length cw semi toh top cyc scan old copied serial ar rs.length cr W hl1 hl2
    rw [if_neg h] at HSZ
    clear hs hrt h hspec himpl
    go_enter Tryz.func19, Tryz.ntmps19
    go_wp2_with (go_at_call 20; refine (HSZ _).mono ?_; rintro e w1 ⟨rfl, b1⟩)
    go_ret
    exact ⟨rfl, below_first b1⟩

end Go.Proofs.YtaapiedminakcaaGreat
