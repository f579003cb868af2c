/- The program's same: are two values the same? -/
import Derived.Test.YtaapiedminakcaaGreatProg
import Derived.Test.YtaapiedminakcaaGreatKLookS
namespace Go.Proofs.YtaapiedminakcaaGreat
set_option maxRecDepth 20000
open Go.RowKit
set_option linter.unusedSimpArgs false
set_option linter.unusedVariables false

set_option maxHeartbeats 2000000 in
theorem same_text (b off cw : Nat) (ws : List Int) (semi toh top : Int) (cyc : Bool) (scan old copied serial : Int) (ar : Option Addr) (cr : Nat) (rs : List (Int × Int)) (m m2 : Int) (P Q : Nat) (w : World) (hb : b < w.heap.size) (hc : ∀ i, i < ws.length → w.cell? ⟨b, off + i, none⟩ = some (.int .u64 (wordAt ws i))) (hn : ws.length ≤ 1048576) (hw : Words64 ws) (hP : m = P) (hQ : m2 = Q) (tP : TextIn ws P) (tQ : TextIn ws Q) :
    Calls Tryz.prog 98 #[(.agg #[.slice (some ⟨b, off, none⟩) ws.length cw, .int .i64 semi, .int .i64 toh, .int .i64 top, .bool cyc, .int .i64 scan, .int .i64 old, .int .i64 copied, .int .i64 serial, .slice ar rs.length cr]), .agg #[.int .i64 3, .int .i64 m], .agg #[.int .i64 3, .int .i64 m2]] w fun e w' => e = .returned (.bool ((txt ws P).toList == (txt ws Q).toList)) ∧ Below w.heap.size w w' := by
  have HP : Hid (m = (P : Int)) := hP
  have HQ : Hid (m2 = (Q : Int)) := hQ
  have wP := (word_in hw (P + 1)).1
  have wQ := (word_in hw (Q + 1)).1
  have nP : Hid (wordAt ws (P + 1) = (txtN ws P : Int)) := by show wordAt ws (P + 1) = (txtN ws P : Int); unfold txtN; omega
  have nQ : Hid (wordAt ws (Q + 1) = (txtN ws Q : Int)) := by show wordAt ws (Q + 1) = (txtN ws Q : Int); unfold txtN; omega
  have n1P : txtN ws P ≤ 160 := by have := tP.1; unfold txtN; omega
  have n1Q : txtN ws Q ≤ 160 := by have := tQ.1; unfold txtN; omega
  have n2P := tP.2
  have n2Q := tQ.2
  clear hP hQ wP wQ tP tQ
  have KP : ∀ W, Below (((w.alloc (.cells #[.slice (some ⟨b, off, none⟩) ws.length cw, .int .i64 semi, .int .i64 toh, .int .i64 top, .bool cyc, .int .i64 scan, .int .i64 old, .int .i64 copied, .int .i64 serial, .slice ar rs.length cr] 30)).alloc (.cells #[.int .i64 3, .int .i64 m] 50)).alloc (.cells #[.int .i64 3, .int .i64 m2] 50)).heap.size (((w.alloc (.cells #[.slice (some ⟨b, off, none⟩) ws.length cw, .int .i64 semi, .int .i64 toh, .int .i64 top, .bool cyc, .int .i64 scan, .int .i64 old, .int .i64 copied, .int .i64 serial, .slice ar rs.length cr] 30)).alloc (.cells #[.int .i64 3, .int .i64 m] 50)).alloc (.cells #[.int .i64 3, .int .i64 m2] 50)) W → (Below (((w.alloc (.cells #[.slice (some ⟨b, off, none⟩) ws.length cw, .int .i64 semi, .int .i64 toh, .int .i64 top, .bool cyc, .int .i64 scan, .int .i64 old, .int .i64 copied, .int .i64 serial, .slice ar rs.length cr] 30)).alloc (.cells #[.int .i64 3, .int .i64 m] 50)).alloc (.cells #[.int .i64 3, .int .i64 m2] 50)).heap.size (((w.alloc (.cells #[.slice (some ⟨b, off, none⟩) ws.length cw, .int .i64 semi, .int .i64 toh, .int .i64 top, .bool cyc, .int .i64 scan, .int .i64 old, .int .i64 copied, .int .i64 serial, .slice ar rs.length cr] 30)).alloc (.cells #[.int .i64 3, .int .i64 m] 50)).alloc (.cells #[.int .i64 3, .int .i64 m2] 50)) W ∧ (∀ i, W.cell? ⟨w.heap.size, i, none⟩ = (#[.slice (some ⟨b, off, none⟩) ws.length cw, .int .i64 semi, .int .i64 toh, .int .i64 top, .bool cyc, .int .i64 scan, .int .i64 old, .int .i64 copied, .int .i64 serial, .slice ar rs.length cr] : Array Value)[i]?) ∧ (∀ i, W.cell? ⟨w.heap.size + 1, i, none⟩ = (#[.int .i64 3, .int .i64 m] : Array Value)[i]?) ∧ (∀ i, W.cell? ⟨w.heap.size + 1 + 1, i, none⟩ = (#[.int .i64 3, .int .i64 m2] : Array Value)[i]?)) := fun W hW => ⟨hW, three_cells hW⟩
  have HC : ∀ W, Below (((w.alloc (.cells #[.slice (some ⟨b, off, none⟩) ws.length cw, .int .i64 semi, .int .i64 toh, .int .i64 top, .bool cyc, .int .i64 scan, .int .i64 old, .int .i64 copied, .int .i64 serial, .slice ar rs.length cr] 30)).alloc (.cells #[.int .i64 3, .int .i64 m] 50)).alloc (.cells #[.int .i64 3, .int .i64 m2] 50)).heap.size (((w.alloc (.cells #[.slice (some ⟨b, off, none⟩) ws.length cw, .int .i64 semi, .int .i64 toh, .int .i64 top, .bool cyc, .int .i64 scan, .int .i64 old, .int .i64 copied, .int .i64 serial, .slice ar rs.length cr] 30)).alloc (.cells #[.int .i64 3, .int .i64 m] 50)).alloc (.cells #[.int .i64 3, .int .i64 m2] 50)) W → b < W.heap.size ∧ ∀ i, i < ws.length → W.cell? ⟨b, off + i, none⟩ = some (.int .u64 (wordAt ws i)) := fun W hW => arx_cells hb hc (below_third hW)
  clear hc
  go_enter Tryz.func98, Tryz.ntmps98
  go_wp2
  have b2' := (Below.refl (((w.alloc (.cells #[.slice (some ⟨b, off, none⟩) ws.length cw, .int .i64 semi, .int .i64 toh, .int .i64 top, .bool cyc, .int .i64 scan, .int .i64 old, .int .i64 copied, .int .i64 serial, .slice ar rs.length cr] 30)).alloc (.cells #[.int .i64 3, .int .i64 m] 50)).alloc (.cells #[.int .i64 3, .int .i64 m2] 50)).heap.size (((w.alloc (.cells #[.slice (some ⟨b, off, none⟩) ws.length cw, .int .i64 semi, .int .i64 toh, .int .i64 top, .bool cyc, .int .i64 scan, .int .i64 old, .int .i64 copied, .int .i64 serial, .slice ar rs.length cr] 30)).alloc (.cells #[.int .i64 3, .int .i64 m] 50)).alloc (.cells #[.int .i64 3, .int .i64 m2] 50))).drew
  go_region_held3 (fun W => Below (((w.alloc (.cells #[.slice (some ⟨b, off, none⟩) ws.length cw, .int .i64 semi, .int .i64 toh, .int .i64 top, .bool cyc, .int .i64 scan, .int .i64 old, .int .i64 copied, .int .i64 serial, .slice ar rs.length cr] 30)).alloc (.cells #[.int .i64 3, .int .i64 m] 50)).alloc (.cells #[.int .i64 3, .int .i64 m2] 50)).heap.size (((w.alloc (.cells #[.slice (some ⟨b, off, none⟩) ws.length cw, .int .i64 semi, .int .i64 toh, .int .i64 top, .bool cyc, .int .i64 scan, .int .i64 old, .int .i64 copied, .int .i64 serial, .slice ar rs.length cr] 30)).alloc (.cells #[.int .i64 3, .int .i64 m] 50)).alloc (.cells #[.int .i64 3, .int .i64 m2] 50)) W ∧ (∀ i, W.cell? ⟨w.heap.size, i, none⟩ = (#[.slice (some ⟨b, off, none⟩) ws.length cw, .int .i64 semi, .int .i64 toh, .int .i64 top, .bool cyc, .int .i64 scan, .int .i64 old, .int .i64 copied, .int .i64 serial, .slice ar rs.length cr] : Array Value)[i]?) ∧ (∀ i, W.cell? ⟨w.heap.size + 1, i, none⟩ = (#[.int .i64 3, .int .i64 m] : Array Value)[i]?) ∧ (∀ i, W.cell? ⟨w.heap.size + 1 + 1, i, none⟩ = (#[.int .i64 3, .int .i64 m2] : Array Value)[i]?)) (first | exact KP _ (by assumption) | exact KP _ b2') (first | (go_at_call_of 145 m; refine (textAt_at _ _ _ _ _ _ _ _ _ _ _ _ _ _ _ _ P (txtN ws P) _ HP.out (HC _ (And.left (by assumption))).1 (HC _ (And.left (by assumption))).2 hn hw nP.out n1P n2P).mono ?_; rintro e w' ⟨rfl, hb⟩; have hB3 := below_next (w := (((w.alloc (.cells #[.slice (some ⟨b, off, none⟩) ws.length cw, .int .i64 semi, .int .i64 toh, .int .i64 top, .bool cyc, .int .i64 scan, .int .i64 old, .int .i64 copied, .int .i64 serial, .slice ar rs.length cr] 30)).alloc (.cells #[.int .i64 3, .int .i64 m] 50)).alloc (.cells #[.int .i64 3, .int .i64 m2] 50))) (And.left (by assumption)) hb; clear hb) | (go_at_call_of 145 m2; refine (textAt_at _ _ _ _ _ _ _ _ _ _ _ _ _ _ _ _ Q (txtN ws Q) _ HQ.out (HC _ (And.left (by assumption))).1 (HC _ (And.left (by assumption))).2 hn hw nQ.out n1Q n2Q).mono ?_; rintro e w' ⟨rfl, hb⟩; have hB3 := below_next (w := (((w.alloc (.cells #[.slice (some ⟨b, off, none⟩) ws.length cw, .int .i64 semi, .int .i64 toh, .int .i64 top, .bool cyc, .int .i64 scan, .int .i64 old, .int .i64 copied, .int .i64 serial, .slice ar rs.length cr] 30)).alloc (.cells #[.int .i64 3, .int .i64 m] 50)).alloc (.cells #[.int .i64 3, .int .i64 m2] 50))) (And.left (by assumption)) hb; clear hb))
  all_goals
    go_wp2
    go_ret
    exact ⟨rfl, below_third (by assumption)⟩
set_option maxHeartbeats 2000000 in
theorem same_plain (b off cw : Nat) (ws : List Int) (semi toh top : Int) (cyc : Bool) (scan old copied serial : Int) (ar : Option Addr) (cr : Nat) (rs : List (Int × Int)) (t m t2 m2 : Int) (w : World) (h : ¬ (t = 3 ∧ t2 = 3)) :
    Calls Tryz.prog 98 #[(.agg #[.slice (some ⟨b, off, none⟩) ws.length cw, .int .i64 semi, .int .i64 toh, .int .i64 top, .bool cyc, .int .i64 scan, .int .i64 old, .int .i64 copied, .int .i64 serial, .slice ar rs.length cr]), .agg #[.int .i64 t, .int .i64 m], .agg #[.int .i64 t2, .int .i64 m2]] w fun e w' => e = .returned (.bool ((t == t2) && (m == m2))) ∧ Below w.heap.size w w' := by
  by_cases h3 : t = 3
  · have h4 : (t2 == 3) = false := beq_eq_false_iff_ne.2 (fun g => h ⟨h3, g⟩)
    subst h3
    clear h
    go_enter Tryz.func98, Tryz.ntmps98
    go_wp2
    all_goals
      go_ret
      refine ⟨ret_bool ?_, below_third (Below.refl _ _)⟩
      go_light
      simp_all
  · have h4 : (t == 3) = false := beq_eq_false_iff_ne.2 h3
    clear h h3
    go_enter Tryz.func98, Tryz.ntmps98
    go_wp2
    all_goals
      go_ret
      refine ⟨ret_bool ?_, below_third (Below.refl _ _)⟩
      go_light
      simp_all
/-- What a Root is, for 'same': a reference is a place that leads to itself. -/
def RootV (ws : List Int) (t m : Int) : Prop := isR t = true → ∃ P : Nat, m = (P : Int) ∧ P < ws.length ∧ leadsAt ws P = P ∧ (t = 3 → TextIn ws P)
theorem RootV.key {ws : List Int} {t m : Int} (h : RootV ws t m) : KeyIn ws t m := by
  refine ⟨fun hr => ?_, fun h3 => ?_⟩
  · obtain ⟨P, rfl, h1, h2, _⟩ := h hr
    simp only [Int.toNat_natCast]
    omega
  · obtain ⟨P, rfl, h1, h2, h4⟩ := h (by rw [h3]; rfl)
    simp only [Int.toNat_natCast]
    rw [h2, Int.toNat_natCast]
    exact h4 h3
theorem same_at (b off cw : Nat) (ws : List Int) (semi toh top : Int) (cyc : Bool) (scan old copied serial : Int) (ar : Option Addr) (cr : Nat) (rs : List (Int × Int)) (t m t2 m2 : Int) (w : World) (hb : b < w.heap.size) (hc : ∀ i, i < ws.length → w.cell? ⟨b, off + i, none⟩ = some (.int .u64 (wordAt ws i))) (hn : ws.length ≤ 1048576) (hw : Words64 ws) (k1 : RootV ws t m) (k2 : RootV ws t2 m2) :
    Calls Tryz.prog 98 #[(.agg #[.slice (some ⟨b, off, none⟩) ws.length cw, .int .i64 semi, .int .i64 toh, .int .i64 top, .bool cyc, .int .i64 scan, .int .i64 old, .int .i64 copied, .int .i64 serial, .slice ar rs.length cr]), .agg #[.int .i64 t, .int .i64 m], .agg #[.int .i64 t2, .int .i64 m2]] w fun e w' => e = .returned (.bool (sameV ws t m t2 m2)) ∧ Below w.heap.size w w' := by
  by_cases h3 : t = 3 ∧ t2 = 3
  · obtain ⟨rfl, rfl⟩ := h3
    obtain ⟨P, rfl, _, lP, tP⟩ := k1 rfl
    obtain ⟨Q, rfl, _, lQ, tQ⟩ := k2 rfl
    have e : sameV ws 3 P 3 Q = ((txt ws P).toList == (txt ws Q).toList) := by
      have hr : isR 3 = true := rfl
      simp [sameV, hr, lP, lQ]
    rw [e]
    exact same_text b off cw ws semi toh top cyc scan old copied serial ar cr rs P Q P Q w hb hc hn hw rfl rfl (tP rfl) (tQ rfl)
  · have e : sameV ws t m t2 m2 = ((t == t2) && (m == m2)) := by
      by_cases h12 : t = t2
      · subst h12
        have h3' : ¬ t = 3 := fun g => h3 ⟨g, g⟩
        by_cases hr : isR t = true
        · obtain ⟨P, rfl, _, lP, _⟩ := k1 hr
          obtain ⟨Q, rfl, _, lQ, _⟩ := k2 hr
          simp [sameV, hr, h3', lP, lQ]
        · rw [Bool.not_eq_true] at hr
          simp [sameV, hr]
      · simp [sameV, h12]
    rw [e]
    exact same_plain b off cw ws semi toh top cyc scan old copied serial ar cr rs t m t2 m2 w h3
theorem ar_rootV {ws : List Int} {semi toh top : Int} {cyc : Bool} {scan old copied serial : Int} {y : Nat → Int} {rl : Nat} (hw : Words64 ws) (hok : ArOk ws semi toh top cyc scan old copied serial y rl) {i : Nat} (hi : i < rl) : RootV ws (y (2 * i)) (y (2 * i + 1)) := fun hr => by
  obtain ⟨p, h1, _, _, h2, h3, h4⟩ := ar_root hw hok hi hr
  exact ⟨p, h1, by omega, h3, h4⟩
end Go.Proofs.YtaapiedminakcaaGreat

/- Roots that are texts: l5Is, isText, textOf; two texts compared. -/
namespace Go.Proofs.YtaapiedminakcaaGreat
set_option maxRecDepth 20000
open Go.RowKit
set_option linter.unusedSimpArgs false
set_option linter.unusedVariables false

/-- Is the Root r a text? -/
def isTx (y : Nat → Int) (n : Nat) (r : Int) : Bool := hasR r n && decide (y (2 * r.toNat) = 3)
theorem isTx_yes {y : Nat → Int} {n : Nat} {r : Int} (h : isTx y n r = true) : ∃ k : Nat, r = (k : Int) ∧ k < n ∧ y (2 * k) = 3 := by
  simp only [isTx, hasR, Bool.and_eq_true, decide_eq_true_eq] at h
  obtain ⟨k, rfl⟩ := Int.eq_ofNat_of_zero_le h.1.1
  exact ⟨k, rfl, by omega, by simpa using h.2⟩
theorem l5Is_at (aw : Option Addr) (cw : Nat) (ws : List Int) (semi toh top : Int) (cyc : Bool) (scan old copied serial : Int) (ar : Option Addr) (cr : Nat) (rs : List (Int × Int)) (r : Int) (y : Nat → Int) (Tr : Nat) (w : World) (hrt : SlF Tr w (.slice ar rs.length cr) rs.length (2 * rs.length) (fun i => .int .i64 (y i))) (hn2 : rs.length ≤ 1048576) :
    Calls Tryz.prog 99 #[.agg #[.slice aw ws.length cw, .int .i64 semi, .int .i64 toh, .int .i64 top, .bool cyc, .int .i64 scan, .int .i64 old, .int .i64 copied, .int .i64 serial, .slice ar rs.length cr], .int .i64 r] w fun e w' => e = .returned (.bool (isTx y rs.length r)) ∧ Below w.heap.size w w' := by
  cases h : hasR r rs.length with
  | false =>
    have e : isTx y rs.length r = false := by simp [isTx, h]
    rw [e]
    go_enter Tryz.func99, Tryz.ntmps99
    go_wp2_with (go_at_call 88; refine (l2Root_any _ _ _ _ _ _ _ _ _ _ _ _ _ _ _ _ hn2).mono ?_; rw [h]; rintro e w1 ⟨rfl, b1⟩)
    go_ret
    exact ⟨rfl, below_first b1⟩
  | true =>
    have h' := of_decide_eq_true h
    obtain ⟨k, rfl⟩ := Int.eq_ofNat_of_zero_le h'.1
    have hk : k < rs.length := by omega
    obtain ⟨br, offr, cap', hv, _, lbr, hcr⟩ := hrt.here.parts (k := 0) (by omega)
    simp only [Value.slice.injEq] at hv
    obtain ⟨rfl, _, rfl⟩ := hv
    have hk' : (k : Int) < (rs.length : Int) := by omega
    have e : isTx y rs.length (k : Int) = (y (2 * k) == 3) := by simp only [isTx, h, Bool.true_and, Int.toNat_natCast]; exact (Bool.beq_eq_decide_eq _ _).symm
    rw [e]
    obtain ⟨t, ht⟩ : ∃ t, t = y (2 * k) := ⟨_, rfl⟩
    have c0 : ∀ V, Below w.heap.size w V → V.cell? ⟨br, offr + k * 2, none⟩ = some (.int .i64 t) := fun V hV => by rw [hV.cell (p := ⟨br, offr + k * 2, none⟩) lbr, Nat.mul_comm, ht]; exact hcr (2 * k) (by omega)
    have c1 : ∀ V, Below w.heap.size w V → V.cell? ⟨br, offr + k * 2 + 1, none⟩ = some (.int .i64 (y (2 * k + 1))) := fun V hV => by rw [hV.cell (p := ⟨br, offr + k * 2 + 1, none⟩) lbr, Nat.mul_comm]; exact hcr (2 * k + 1) (by omega)
    rw [← ht]
    clear ht e hcr hrt
    go_enter Tryz.func99, Tryz.ntmps99
    go_wp2_with fail
    refine (l2Root_any _ _ _ _ _ _ _ _ _ _ _ _ _ _ _ _ hn2).mono ?_
    rw [h]
    rintro e w1 ⟨rfl, b1⟩
    have k1 := one_cells b1 (by simp)
    have B1 := below_first b1
    have x0 := c0 w1 B1
    have x1 := c1 w1 B1
    clear b1 c0 c1
    go_wp2
    go_ret
    exact ⟨rfl, B1⟩
theorem isText_at (aw : Option Addr) (cw : Nat) (ws : List Int) (semi toh top : Int) (cyc : Bool) (scan old copied serial : Int) (ar : Option Addr) (cr : Nat) (rs : List (Int × Int)) (r : Int) (y : Nat → Int) (Tr : Nat) (w : World) (hrt : SlF Tr w (.slice ar rs.length cr) rs.length (2 * rs.length) (fun i => .int .i64 (y i))) (hn2 : rs.length ≤ 1048576) :
    Calls Tryz.prog 101 #[.agg #[.slice aw ws.length cw, .int .i64 semi, .int .i64 toh, .int .i64 top, .bool cyc, .int .i64 scan, .int .i64 old, .int .i64 copied, .int .i64 serial, .slice ar rs.length cr], .int .i64 r] w fun e w' => e = .returned (.bool (isTx y rs.length r)) ∧ Below w.heap.size w w' := by
  cases h : hasR r rs.length with
  | false =>
    have e : isTx y rs.length r = false := by simp [isTx, h]
    rw [e]
    go_enter Tryz.func101, Tryz.ntmps101
    go_wp2_with (go_at_call 91; refine (hasRoot_any _ _ _ _ _ _ _ _ _ _ _ _ _ _ _ _ hn2).mono ?_; rw [h]; rintro e w1 ⟨rfl, b1⟩)
    go_ret
    exact ⟨rfl, below_first b1⟩
  | true =>
    have h' := of_decide_eq_true h
    obtain ⟨k, rfl⟩ := Int.eq_ofNat_of_zero_le h'.1
    have hk : k < rs.length := by omega
    obtain ⟨br, offr, cap', hv, _, lbr, hcr⟩ := hrt.here.parts (k := 0) (by omega)
    simp only [Value.slice.injEq] at hv
    obtain ⟨rfl, _, rfl⟩ := hv
    have hk' : (k : Int) < (rs.length : Int) := by omega
    have e : isTx y rs.length (k : Int) = (y (2 * k) == 3) := by simp only [isTx, h, Bool.true_and, Int.toNat_natCast]; exact (Bool.beq_eq_decide_eq _ _).symm
    rw [e]
    obtain ⟨t, ht⟩ : ∃ t, t = y (2 * k) := ⟨_, rfl⟩
    have c0 : ∀ V, Below w.heap.size w V → V.cell? ⟨br, offr + k * 2, none⟩ = some (.int .i64 t) := fun V hV => by rw [hV.cell (p := ⟨br, offr + k * 2, none⟩) lbr, Nat.mul_comm, ht]; exact hcr (2 * k) (by omega)
    have c1 : ∀ V, Below w.heap.size w V → V.cell? ⟨br, offr + k * 2 + 1, none⟩ = some (.int .i64 (y (2 * k + 1))) := fun V hV => by rw [hV.cell (p := ⟨br, offr + k * 2 + 1, none⟩) lbr, Nat.mul_comm]; exact hcr (2 * k + 1) (by omega)
    rw [← ht]
    clear ht e hcr hrt
    go_enter Tryz.func101, Tryz.ntmps101
    go_wp2_with fail
    refine (hasRoot_any _ _ _ _ _ _ _ _ _ _ _ _ _ _ _ _ hn2).mono ?_
    rw [h]
    rintro e w1 ⟨rfl, b1⟩
    have k1 := one_cells b1 (by simp)
    have B1 := below_first b1
    have x0 := c0 w1 B1
    have x1 := c1 w1 B1
    clear b1 c0 c1
    go_wp2
    go_ret
    exact ⟨rfl, B1⟩
theorem l4Text_is (aw : Option Addr) (cw : Nat) (ws : List Int) (semi toh top : Int) (cyc : Bool) (scan old copied serial : Int) (ar : Option Addr) (cr : Nat) (rs : List (Int × Int)) (x : Int) (P : Nat) (w : World) (hx : x = P) (hs : Sl w (.slice aw ws.length cw) ws) (hn : ws.length ≤ 1048576) (hw : Words64 ws) (t : TextIn ws P) :
    Calls Tryz.prog 100 #[.agg #[.slice aw ws.length cw, .int .i64 semi, .int .i64 toh, .int .i64 top, .bool cyc, .int .i64 scan, .int .i64 old, .int .i64 copied, .int .i64 serial, .slice ar rs.length cr], .int .i64 x] w fun e w' => e = .returned (.string (txt ws P)) ∧ Below w.heap.size w w' := by
  have h1 := t.2
  have h2 := t.1
  have h3 := (word_in hw (P + 1)).1
  obtain ⟨b, off, rfl, hb, hc⟩ := sl_open hs (by omega)
  exact l4Text_at _ _ _ _ _ _ _ _ _ _ _ _ _ _ _ _ P (txtN ws P) _ hx hs hb hc hn hw (by unfold txtN; omega) (by unfold txtN; omega) h1
theorem textAt_is (aw : Option Addr) (cw : Nat) (ws : List Int) (semi toh top : Int) (cyc : Bool) (scan old copied serial : Int) (ar : Option Addr) (cr : Nat) (rs : List (Int × Int)) (x : Int) (P : Nat) (w : World) (hx : x = P) (hs : Sl w (.slice aw ws.length cw) ws) (hn : ws.length ≤ 1048576) (hw : Words64 ws) (t : TextIn ws P) :
    Calls Tryz.prog 145 #[.agg #[.slice aw ws.length cw, .int .i64 semi, .int .i64 toh, .int .i64 top, .bool cyc, .int .i64 scan, .int .i64 old, .int .i64 copied, .int .i64 serial, .slice ar rs.length cr], .int .i64 x] w fun e w' => e = .returned (.string (txt ws P)) ∧ Below w.heap.size w w' := by
  have h1 := t.2
  have h2 := t.1
  have h3 := (word_in hw (P + 1)).1
  obtain ⟨b, off, rfl, hb, hc⟩ := sl_open hs (by omega)
  exact textAt_at _ _ _ _ _ _ _ _ _ _ _ _ _ _ _ _ P (txtN ws P) _ hx hb hc hn hw (by unfold txtN; omega) (by unfold txtN; omega) h1
set_option maxHeartbeats 1000000 in
theorem textOf_at (aw : Option Addr) (cw : Nat) (ws : List Int) (semi toh top : Int) (cyc : Bool) (scan old copied serial : Int) (ar : Option Addr) (cr : Nat) (rs : List (Int × Int)) (r p : Nat) (y : Nat → Int) (Tr : Nat) (w : World) (hs : Sl w (.slice aw ws.length cw) ws) (hn : ws.length ≤ 1048576) (hw : Words64 ws) (hrt : SlF Tr w (.slice ar rs.length cr) rs.length (2 * rs.length) (fun i => .int .i64 (y i))) (hn2 : rs.length ≤ 1048576) (hr : r < rs.length) (ht : y (2 * r) = 3) (hp : y (2 * r + 1) = (p : Int)) (tp : TextIn ws p) :
    Calls Tryz.prog 102 #[.agg #[.slice aw ws.length cw, .int .i64 semi, .int .i64 toh, .int .i64 top, .bool cyc, .int .i64 scan, .int .i64 old, .int .i64 copied, .int .i64 serial, .slice ar rs.length cr], .int .i64 (r : Int)] w fun e w' => e = .returned (.string (txt ws p)) ∧ Below w.heap.size w w' := by
  obtain ⟨br, offr, cap', hv, _, lbr, hcr⟩ := hrt.here.parts (k := 0) (by omega)
  simp only [Value.slice.injEq] at hv
  obtain ⟨rfl, _, rfl⟩ := hv
  have hi : (r : Int) < (rs.length : Int) := by omega
  have c0 : ∀ V, Below w.heap.size w V → V.cell? ⟨br, offr + r * 2, none⟩ = some (.int .i64 3) := fun V hV => by rw [hV.cell (p := ⟨br, offr + r * 2, none⟩) lbr, Nat.mul_comm, ← ht]; exact hcr (2 * r) (by omega)
  have c1 : ∀ V, Below w.heap.size w V → V.cell? ⟨br, offr + r * 2 + 1, none⟩ = some (.int .i64 (p : Int)) := fun V hV => by rw [hV.cell (p := ⟨br, offr + r * 2 + 1, none⟩) lbr, Nat.mul_comm, ← hp]; exact hcr (2 * r + 1) (by omega)
  obtain ⟨w0, hw0⟩ : ∃ V, V = (w.alloc (.cells #[.slice aw ws.length cw, .int .i64 semi, .int .i64 toh, .int .i64 top, .bool cyc, .int .i64 scan, .int .i64 old, .int .i64 copied, .int .i64 serial, .slice (some ⟨br, offr, none⟩) rs.length cr] 30)) := ⟨_, rfl⟩
  have B0 : Below w.heap.size w w0 := by rw [hw0]; exact below_first (Below.refl _ _)
  have KP : ∀ V, Below w0.heap.size w0 V → (Below w0.heap.size w0 V ∧ (∀ i, V.cell? ⟨w.heap.size, i, none⟩ = (#[.slice aw ws.length cw, .int .i64 semi, .int .i64 toh, .int .i64 top, .bool cyc, .int .i64 scan, .int .i64 old, .int .i64 copied, .int .i64 serial, .slice (some ⟨br, offr, none⟩) rs.length cr] : Array Value)[i]?) ∧ V.cell? ⟨br, offr + r * 2, none⟩ = some (.int .i64 3) ∧ V.cell? ⟨br, offr + r * 2 + 1, none⟩ = some (.int .i64 (p : Int))) := fun V hV => ⟨hV, one_cells (by rw [← hw0]; exact hV) (by rw [hw0]; simp), c0 V (below_next B0 hV), c1 V (below_next B0 hV)⟩
  have bd' := (Below.refl w0.heap.size w0).drew
  have HS : Hid (Sl w (.slice aw ws.length cw) ws) := hs
  have HT : Hid (TextIn ws p) := tp
  clear hs hrt hcr c0 c1 ht hp tp
  go_enter Tryz.func102, Tryz.ntmps102
  go_wp2_with fail
  rw [← hw0]
  clear hw0
  go_region_held3 (fun V => Below w0.heap.size w0 V ∧ (∀ i, V.cell? ⟨w.heap.size, i, none⟩ = (#[.slice aw ws.length cw, .int .i64 semi, .int .i64 toh, .int .i64 top, .bool cyc, .int .i64 scan, .int .i64 old, .int .i64 copied, .int .i64 serial, .slice (some ⟨br, offr, none⟩) rs.length cr] : Array Value)[i]?) ∧ V.cell? ⟨br, offr + r * 2, none⟩ = some (.int .i64 3) ∧ V.cell? ⟨br, offr + r * 2 + 1, none⟩ = some (.int .i64 (p : Int))) (first | assumption | exact KP _ bd' | exact KP _ (by assumption)) (first | (go_at_call 145; refine (textAt_is _ _ _ _ _ _ _ _ _ _ _ _ _ _ _ p _ rfl (HS.out.below (below_next B0 (And.left (by assumption)))) hn hw HT.out).mono ?_; rintro e wl ⟨rfl, bb⟩; have hBl := below_next (w := w0) (And.left (by assumption)) bb; clear bb))
  all_goals
    go_wp2
    go_ret
    exact ⟨rfl, below_next B0 hBl⟩
/-- Two texts compared: below, the same, above. -/
def cmpT (a b : ByteArray) : Int := if Op.bytesLess a.toList b.toList = true then -1 else if (a.toList == b.toList) = true then 0 else 1
theorem cmp_is : ∀ a b : List UInt8, Lib.compareBytes a b = if Op.bytesLess a b = true then -1 else if (a == b) = true then 0 else 1
  | [], [] => by simp [Lib.compareBytes, Op.bytesLess]
  | [], _ :: _ => by simp [Lib.compareBytes, Op.bytesLess]
  | _ :: _, [] => by simp [Lib.compareBytes, Op.bytesLess]
  | a :: x, b :: y => by
    have ih := cmp_is x y
    simp only [Lib.compareBytes, Op.bytesLess]
    by_cases h : a = b
    · subst h
      have : ¬ a < a := UInt8.lt_irrefl a
      simp [this, ih]
    · by_cases h2 : a < b
      · simp [h2]
      · have h3 : b < a := UInt8.lt_of_le_of_ne (UInt8.not_lt.1 h2) (Ne.symm h)
        simp [h2, h3, h]
theorem compare_at (a b : ByteArray) (w : World) : Calls Tryz.prog 103 #[.string a, .string b] w fun e w' => e = .returned (.int .i64 (cmpT a b)) ∧ w = w' := by
  refine (Tryz.strings_Compare a b w).mono ?_
  rintro e w' ⟨rfl, rfl⟩
  refine ⟨?_, rfl⟩
  rw [cmp_is]
  simp [cmpT, ByteArray.toList_eq]
end Go.Proofs.YtaapiedminakcaaGreat
