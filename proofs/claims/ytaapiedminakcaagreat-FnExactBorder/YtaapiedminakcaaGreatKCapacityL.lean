/- Roots that are tables, and their blocks. -/
import Derived.Test.YtaapiedminakcaaGreatProg
import Derived.Test.YtaapiedminakcaaGreatKLookS
import Derived.Test.YtaapiedminakcaaGreatKTabJ
import Derived.Test.YtaapiedminakcaaGreatKKeyG
namespace Go.Proofs.YtaapiedminakcaaGreat
set_option maxRecDepth 20000
open Go.RowKit
set_option linter.unusedSimpArgs false
set_option linter.unusedVariables false

/-- Is the Root r a table? -/
def isTb (y : Nat → Int) (n : Nat) (r : Int) : Bool := hasR r n && decide (y (2 * r.toNat) = 4)
theorem isTb_yes {y : Nat → Int} {n : Nat} {r : Int} (h : isTb y n r = true) : ∃ k : Nat, r = (k : Int) ∧ k < n ∧ y (2 * k) = 4 := by
  simp only [isTb, hasR, Bool.and_eq_true, decide_eq_true_eq] at h
  obtain ⟨k, rfl⟩ := Int.eq_ofNat_of_zero_le h.1.1
  exact ⟨k, rfl, by omega, by simpa using h.2⟩
theorem l6Is_at (aw : Option Addr) (cw : Nat) (ws : List Int) (semi toh top : Int) (cyc : Bool) (scan old copied serial : Int) (ar : Option Addr) (cr : Nat) (rs : List (Int × Int)) (r : Int) (y : Nat → Int) (Tr : Nat) (w : World) (hrt : SlF Tr w (.slice ar rs.length cr) rs.length (2 * rs.length) (fun i => .int .i64 (y i))) (hn2 : rs.length ≤ 1048576) :
    Calls Tryz.prog 115 #[.agg #[.slice aw ws.length cw, .int .i64 semi, .int .i64 toh, .int .i64 top, .bool cyc, .int .i64 scan, .int .i64 old, .int .i64 copied, .int .i64 serial, .slice ar rs.length cr], .int .i64 r] w fun e w' => e = .returned (.bool (isTb y rs.length r)) ∧ Below w.heap.size w w' := by
  cases h : hasR r rs.length with
  | false =>
    have e : isTb y rs.length r = false := by simp [isTb, h]
    rw [e]
    go_enter Tryz.func115, Tryz.ntmps115
    go_wp2_with (go_at_call 88; refine (l2Root_any _ _ _ _ _ _ _ _ _ _ _ _ _ _ _ _ hn2).mono ?_; rw [h]; rintro e w1 ⟨rfl, b1⟩)
    go_ret
    exact ⟨rfl, below_first b1⟩
  | true =>
    have h' := of_decide_eq_true h
    obtain ⟨k, rfl⟩ := Int.eq_ofNat_of_zero_le h'.1
    have hk : k < rs.length := by omega
    obtain ⟨br, offr, cap', hv, _, lbr, hcr⟩ := hrt.here.parts (k := 0) (by omega)
    simp only [Value.slice.injEq] at hv
    obtain ⟨rfl, _, rfl⟩ := hv
    have hk' : (k : Int) < (rs.length : Int) := by omega
    have e : isTb y rs.length (k : Int) = (y (2 * k) == 4) := by simp only [isTb, h, Bool.true_and, Int.toNat_natCast]; exact (Bool.beq_eq_decide_eq _ _).symm
    rw [e]
    obtain ⟨t, ht⟩ : ∃ t, t = y (2 * k) := ⟨_, rfl⟩
    have c0 : ∀ V, Below w.heap.size w V → V.cell? ⟨br, offr + k * 2, none⟩ = some (.int .i64 t) := fun V hV => by rw [hV.cell (p := ⟨br, offr + k * 2, none⟩) lbr, Nat.mul_comm, ht]; exact hcr (2 * k) (by omega)
    have c1 : ∀ V, Below w.heap.size w V → V.cell? ⟨br, offr + k * 2 + 1, none⟩ = some (.int .i64 (y (2 * k + 1))) := fun V hV => by rw [hV.cell (p := ⟨br, offr + k * 2 + 1, none⟩) lbr, Nat.mul_comm]; exact hcr (2 * k + 1) (by omega)
    rw [← ht]
    clear ht e hcr hrt
    go_enter Tryz.func115, Tryz.ntmps115
    go_wp2_with fail
    refine (l2Root_any _ _ _ _ _ _ _ _ _ _ _ _ _ _ _ _ hn2).mono ?_
    rw [h]
    rintro e w1 ⟨rfl, b1⟩
    have k1 := one_cells b1 (by simp)
    have B1 := below_first b1
    have x0 := c0 w1 B1
    have x1 := c1 w1 B1
    clear b1 c0 c1
    go_wp2
    go_ret
    exact ⟨rfl, B1⟩
theorem isTable_at (aw : Option Addr) (cw : Nat) (ws : List Int) (semi toh top : Int) (cyc : Bool) (scan old copied serial : Int) (ar : Option Addr) (cr : Nat) (rs : List (Int × Int)) (r : Int) (y : Nat → Int) (Tr : Nat) (w : World) (hrt : SlF Tr w (.slice ar rs.length cr) rs.length (2 * rs.length) (fun i => .int .i64 (y i))) (hn2 : rs.length ≤ 1048576) :
    Calls Tryz.prog 117 #[.agg #[.slice aw ws.length cw, .int .i64 semi, .int .i64 toh, .int .i64 top, .bool cyc, .int .i64 scan, .int .i64 old, .int .i64 copied, .int .i64 serial, .slice ar rs.length cr], .int .i64 r] w fun e w' => e = .returned (.bool (isTb y rs.length r)) ∧ Below w.heap.size w w' := by
  cases h : hasR r rs.length with
  | false =>
    have e : isTb y rs.length r = false := by simp [isTb, h]
    rw [e]
    go_enter Tryz.func117, Tryz.ntmps117
    go_wp2_with (go_at_call 91; refine (hasRoot_any _ _ _ _ _ _ _ _ _ _ _ _ _ _ _ _ hn2).mono ?_; rw [h]; rintro e w1 ⟨rfl, b1⟩)
    go_ret
    exact ⟨rfl, below_first b1⟩
  | true =>
    have h' := of_decide_eq_true h
    obtain ⟨k, rfl⟩ := Int.eq_ofNat_of_zero_le h'.1
    have hk : k < rs.length := by omega
    obtain ⟨br, offr, cap', hv, _, lbr, hcr⟩ := hrt.here.parts (k := 0) (by omega)
    simp only [Value.slice.injEq] at hv
    obtain ⟨rfl, _, rfl⟩ := hv
    have hk' : (k : Int) < (rs.length : Int) := by omega
    have e : isTb y rs.length (k : Int) = (y (2 * k) == 4) := by simp only [isTb, h, Bool.true_and, Int.toNat_natCast]; exact (Bool.beq_eq_decide_eq _ _).symm
    rw [e]
    obtain ⟨t, ht⟩ : ∃ t, t = y (2 * k) := ⟨_, rfl⟩
    have c0 : ∀ V, Below w.heap.size w V → V.cell? ⟨br, offr + k * 2, none⟩ = some (.int .i64 t) := fun V hV => by rw [hV.cell (p := ⟨br, offr + k * 2, none⟩) lbr, Nat.mul_comm, ht]; exact hcr (2 * k) (by omega)
    have c1 : ∀ V, Below w.heap.size w V → V.cell? ⟨br, offr + k * 2 + 1, none⟩ = some (.int .i64 (y (2 * k + 1))) := fun V hV => by rw [hV.cell (p := ⟨br, offr + k * 2 + 1, none⟩) lbr, Nat.mul_comm]; exact hcr (2 * k + 1) (by omega)
    rw [← ht]
    clear ht e hcr hrt
    go_enter Tryz.func117, Tryz.ntmps117
    go_wp2_with fail
    refine (hasRoot_any _ _ _ _ _ _ _ _ _ _ _ _ _ _ _ _ hn2).mono ?_
    rw [h]
    rintro e w1 ⟨rfl, b1⟩
    have k1 := one_cells b1 (by simp)
    have B1 := below_first b1
    have x0 := c0 w1 B1
    have x1 := c1 w1 B1
    clear b1 c0 c1
    go_wp2
    go_ret
    exact ⟨rfl, B1⟩
/-- The block of the table at p: 0 for none; how many entries it has. -/
def blkN (ws : List Int) (p : Nat) : Nat := if rvT ws (p + 2) = 0 then 0 else blkOf ws p
def capB (ws : List Int) (p : Nat) : Nat := if rvT ws (p + 2) = 0 then 0 else capN ws (blkOf ws p)
theorem ar_tab {ws : List Int} {semi toh top : Int} {cyc : Bool} {scan old copied serial : Int} {y : Nat → Int} {rl : Nat} (hw : Words64 ws) (hok : ArOk ws semi toh top cyc scan old copied serial y rl) {i : Nat} (hi : i < rl) (h4 : y (2 * i) = 4) :
    ∃ p : Nat, y (2 * i + 1) = (p : Int) ∧ TabIs ws p := by
  obtain ⟨p, hp, hrd, hkd, _, hle, _⟩ := ar_root hw hok hi (by rw [h4]; rfl)
  refine ⟨p, hp, ?_⟩
  obtain ⟨s0, s1, hl, t0, t1, hrl, h1, h2, hold⟩ := num_facts hok.1
  obtain ⟨g1, g2, g3, g4, g5⟩ := num_halves s0 s1 hl t0 t1 h1 h2
  obtain ⟨L, O, ht, hser, hall⟩ := hok.2
  have hlaid := ar_laid hok (S := (toh * semi + 1).toNat) (T := top.toNat) (F := ((1 - toh) * semi + 1).toNat) (by omega) (by omega) (by omega) ht
  have hser' := hlaid.serials.2 hser
  have hbd := ((hlaid.whole hw hser' y rl).2 hall).1
  obtain ⟨_, _, hroots⟩ := hall
  obtain ⟨hv, _, hlead⟩ := hroots i hi
  obtain ⟨hm, hfr, _⟩ := hlead (by rw [h4]; rfl)
  have hmk : mk2 ws L O (y (2 * i + 1)).toNat = 1 := by
    unfold fromOk at hfr
    simp at hfr
    exact hfr
  rw [hp, Int.toNat_natCast] at hmk
  rw [h4] at hkd
  exact hlaid.tabIs hw hbd ((hlaid.mem p).2 (.inl hmk)) (by simpa [kindOf] using hkd)
theorem l6Block_no (aw : Option Addr) (cw : Nat) (ws : List Int) (semi toh top : Int) (cyc : Bool) (scan old copied serial : Int) (ar : Option Addr) (cr : Nat) (rs : List (Int × Int)) (x : Int) (p : Nat) (w : World) (hs : Sl w (.slice aw ws.length cw) ws) (hn : ws.length ≤ 1048576) (hw : Words64 ws) (hx : x = p) (hp : p + 3 < ws.length) (ht : rvT ws (p + 2) = 0) :
    Calls Tryz.prog 119 #[.agg #[.slice aw ws.length cw, .int .i64 semi, .int .i64 toh, .int .i64 top, .bool cyc, .int .i64 scan, .int .i64 old, .int .i64 copied, .int .i64 serial, .slice ar rs.length cr], .int .i64 x] w fun e w' => e = .returned (.tuple #[.int .i64 0, .int .i64 0]) ∧ Below w.heap.size w w' := by
  have x0 : 0 ≤ x := by omega
  have x1 : x ≤ 1048576 := by omega
  have HX2 : Hid (x + 2 = ((p + 2 : Nat) : Int)) := by show x + 2 = ((p + 2 : Nat) : Int); omega
  clear hx
  go_enter Tryz.func119, Tryz.ntmps119
  go_wp2_with fail
  refine (l1Read_at _ ws _ (p + 2) _ HX2.out (sl_alloc hs _) hn hw (by omega)).mono ?_
  rintro e w1 ⟨rfl, b1⟩
  have B1 := below_first b1
  rw [ht]
  have hB1 : Below w.heap.size w (w1.alloc (.cells #[.int .i64 0, .int .i64 (rvN ws (p + 2))] 50)) := B1.alloc B1.size _
  clear b1 ht
  go_wp2
  go_ret2
  exact ⟨rfl, hB1⟩
theorem l6Block_at (aw : Option Addr) (cw : Nat) (ws : List Int) (semi toh top : Int) (cyc : Bool) (scan old copied serial : Int) (ar : Option Addr) (cr : Nat) (rs : List (Int × Int)) (x T : Int) (p M Q n : Nat) (w : World) (hs : Sl w (.slice aw ws.length cw) ws) (hn : ws.length ≤ 1048576) (hw : Words64 ws) (hx : x = p) (hp : p + 3 < ws.length) (hT : rvT ws (p + 2) = T) (h0 : (T == 0) = false) (hM : rvN ws (p + 2) = M) (hM1 : M < ws.length) (hQ : leadsAt ws M = Q) (hQ1 : Q < ws.length) (hcap : capN ws Q = n) (hn1 : n ≤ 64) :
    Calls Tryz.prog 119 #[.agg #[.slice aw ws.length cw, .int .i64 semi, .int .i64 toh, .int .i64 top, .bool cyc, .int .i64 scan, .int .i64 old, .int .i64 copied, .int .i64 serial, .slice ar rs.length cr], .int .i64 x] w fun e w' => e = .returned (.tuple #[.int .i64 Q, .int .i64 n]) ∧ Below w.heap.size w w' := by
  have x0 : 0 ≤ x := by omega
  have x1 : x ≤ 1048576 := by omega
  have HX2 : Hid (x + 2 = ((p + 2 : Nat) : Int)) := by show x + 2 = ((p + 2 : Nat) : Int); omega
  have HT : Hid (rvT ws (p + 2) = T) := hT
  have HM : Hid (rvN ws (p + 2) = M) := hM
  have HQ : Hid (leadsAt ws M = Q) := hQ
  have hfs := field_size
  have n1 : (n : Int) ≤ 64 := by omega
  have hcap' : (rdS (wordAt ws Q)).tdiv 4 = (n : Int) := by
    have := rdS_ge (wordAt ws Q) (word_in hw Q).1
    rw [Int.tdiv_eq_ediv_of_nonneg this]; unfold capN at hcap; omega
  clear hx hT hM hQ hcap
  go_enter Tryz.func119, Tryz.ntmps119
  go_wp2_with fail
  refine (l1Read_at _ ws _ (p + 2) _ HX2.out (sl_alloc hs _) hn hw (by omega)).mono ?_
  rintro e w1 ⟨rfl, b1⟩
  have KA := one_cells b1 (by simp)
  have z1 := size_first b1
  have B1 := below_first b1
  rw [HT.out, HM.out]
  have HB : Hid (Below w.heap.size w (w1.alloc (.cells #[.int .i64 T, .int .i64 (M : Int)] 50))) := B1.alloc B1.size _
  clear b1
  go_wp2_with fail
  refine (l2Where_is _ _ _ _ _ _ _ _ _ _ _ _ _ _ _ (Q : Int) M _ rfl HQ.out (hs.below HB.out) hn hw hM1).mono ?_
  rintro e w2 ⟨rfl, b2⟩
  have K2 := has_below (has_below KA ((Below.refl w1.heap.size w1).alloc (Nat.le_refl _) _) z1) b2 (by simp; omega)
  have HB2 : Hid (Below w.heap.size w w2) := below_next HB.out b2
  clear b2 KA
  go_wp2_with fail
  refine (l2Look_at _ _ _ _ _ _ _ _ _ _ _ _ _ _ _ Q _ rfl (hs.below HB2.out) hn hw hQ1).mono ?_
  rintro e w3 ⟨rfl, b3⟩
  have B3 := below_next HB2.out b3
  clear b3 K2
  go_wp2
  go_ret2
  exact ⟨rfl, B3⟩
/-- l6Block at a table. -/
theorem l6Block_tab (aw : Option Addr) (cw : Nat) (ws : List Int) (semi toh top : Int) (cyc : Bool) (scan old copied serial : Int) (ar : Option Addr) (cr : Nat) (rs : List (Int × Int)) (x : Int) (p : Nat) (w : World) (hs : Sl w (.slice aw ws.length cw) ws) (hn : ws.length ≤ 1048576) (hw : Words64 ws) (hx : x = p) (hT : TabIs ws p) :
    Calls Tryz.prog 119 #[.agg #[.slice aw ws.length cw, .int .i64 semi, .int .i64 toh, .int .i64 top, .bool cyc, .int .i64 scan, .int .i64 old, .int .i64 copied, .int .i64 serial, .slice ar rs.length cr], .int .i64 x] w fun e w' => e = .returned (.tuple #[.int .i64 (blkN ws p : Nat), .int .i64 (capB ws p : Nat)]) ∧ Below w.heap.size w w' := by
  obtain ⟨⟨hp, hin⟩, h08, h8⟩ := hT
  unfold blkN capB
  rcases h08 with h | h
  · rw [if_pos h, if_pos h]; exact l6Block_no aw cw ws semi toh top cyc scan old copied serial ar cr rs x p w hs hn hw hx hp h
  · obtain ⟨a1, a2, a3, a4, a5, a6, a7, a8⟩ := hin h
    have h0 : ¬ rvT ws (p + 2) = 0 := by omega
    rw [if_neg h0, if_neg h0]
    exact l6Block_at aw cw ws semi toh top cyc scan old copied serial ar cr rs x 8 p (rvN ws (p + 2)).toNat (blkOf ws p) _ w hs hn hw hx hp h rfl (by omega) (by omega) (by unfold blkOf; omega) a4 rfl a6
/-- blockOf and capacityAt at a table. -/
theorem blockOf_tab (b off cw : Nat) (ws : List Int) (semi toh top : Int) (cyc : Bool) (scan old copied serial : Int) (ar : Option Addr) (cr : Nat) (rs : List (Int × Int)) (x : Int) (p : Nat) (w : World) (hx : x = p) (hb : b < w.heap.size) (hc : ∀ i, i < ws.length → w.cell? ⟨b, off + i, none⟩ = some (.int .u64 (wordAt ws i))) (hn : ws.length ≤ 1048576) (hw : Words64 ws) (hT : TabIs ws p) :
    Calls Tryz.prog 121 #[(.agg #[.slice (some ⟨b, off, none⟩) ws.length cw, .int .i64 semi, .int .i64 toh, .int .i64 top, .bool cyc, .int .i64 scan, .int .i64 old, .int .i64 copied, .int .i64 serial, .slice ar rs.length cr]), .int .i64 x] w fun e w' => e = .returned (.int .i64 (blkN ws p : Nat)) ∧ Below w.heap.size w w' := by
  obtain ⟨⟨hp, hin⟩, h08, h8⟩ := hT
  unfold blkN
  rcases h08 with h | h
  · rw [if_pos h]; exact blockOf_no b off cw ws semi toh top cyc scan old copied serial ar cr rs x p w hx hb hc hn hw hp h
  · obtain ⟨a1, a2, a3, a4, a5, a6, a7, a8⟩ := hin h
    have h0 : ¬ rvT ws (p + 2) = 0 := by omega
    rw [if_neg h0]
    exact blockOf_at b off cw ws semi toh top cyc scan old copied serial ar cr rs x 8 p (rvN ws (p + 2)).toNat (blkOf ws p) w hx hb hc hn hw hp h rfl (by omega) (by omega) (by unfold blkOf; omega)
theorem capacityAt_tab (b off cw : Nat) (ws : List Int) (semi toh top : Int) (cyc : Bool) (scan old copied serial : Int) (ar : Option Addr) (cr : Nat) (rs : List (Int × Int)) (p : Nat) (w : World) (hb : b < w.heap.size) (hc : ∀ i, i < ws.length → w.cell? ⟨b, off + i, none⟩ = some (.int .u64 (wordAt ws i))) (hn : ws.length ≤ 1048576) (hw : Words64 ws) (hT : TabIs ws p) :
    Calls Tryz.prog 120 #[(.agg #[.slice (some ⟨b, off, none⟩) ws.length cw, .int .i64 semi, .int .i64 toh, .int .i64 top, .bool cyc, .int .i64 scan, .int .i64 old, .int .i64 copied, .int .i64 serial, .slice ar rs.length cr]), .int .i64 (blkN ws p : Nat)] w fun e w' => e = .returned (.int .i64 (capB ws p : Nat)) ∧ Below w.heap.size w w' := by
  obtain ⟨⟨hp, hin⟩, h08, h8⟩ := hT
  unfold blkN capB
  rcases h08 with h | h
  · rw [if_pos h, if_pos h]; exact capacityAt_no b off cw ws semi toh top cyc scan old copied serial ar cr rs w
  · obtain ⟨a1, a2, a3, a4, a5, a6, a7, a8⟩ := hin h
    have h0 : ¬ rvT ws (p + 2) = 0 := by omega
    rw [if_neg h0, if_neg h0]
    exact capacityAt_at b off cw ws semi toh top cyc scan old copied serial ar cr rs _ (blkOf ws p) _ w rfl (h8 h).1 hb hc hn hw rfl (rdS_ge _ (word_in hw _).1) a6 a4
end Go.Proofs.YtaapiedminakcaaGreat
