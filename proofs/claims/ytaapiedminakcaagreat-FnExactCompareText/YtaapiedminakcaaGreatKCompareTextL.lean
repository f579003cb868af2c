/- CompareText of both packages. -/
import Derived.Test.YtaapiedminakcaaGreatProg
import Derived.Test.YtaapiedminakcaaGreatKTxtA
namespace Go.Proofs.YtaapiedminakcaaGreat
set_option maxRecDepth 20000
open Go.RowKit
set_option linter.unusedSimpArgs false
set_option linter.unusedVariables false

set_option maxHeartbeats 2000000 in
theorem specCompareText_w0 (aw : Option Addr) (cw : Nat) (ws : List Int) (semi toh top : Int) (cyc : Bool) (scan old copied serial : Int) (ar : Option Addr) (cr : Nat) (rs : List (Int × Int)) (r s : Int) (y : Nat → Int) (Tr : Nat) (w : World) (hs : Sl w (.slice aw ws.length cw) ws) (hn : ws.length ≤ 1048576) (hw : Words64 ws) (hrt : SlF Tr w (.slice ar rs.length cr) rs.length (2 * rs.length) (fun i => .int .i64 (y i))) (hn2 : rs.length ≤ 1048576) (hok : ¬ ArOk ws semi toh top cyc scan old copied serial y rs.length) :
    Calls Tryz.prog 50 #[.agg #[.slice aw ws.length cw, .int .i64 semi, .int .i64 toh, .int .i64 top, .bool cyc, .int .i64 scan, .int .i64 old, .int .i64 copied, .int .i64 serial, .slice ar rs.length cr], .int .i64 r, .int .i64 s] w fun e w' => e = .returned (.tuple #[.int .i64 0, .bool false]) ∧ Below w.heap.size w w' := by
  have HS : Hid (Sl w (.slice aw ws.length cw) ws) := hs
  have HR : Hid (SlF w.heap.size w (.slice ar rs.length cr) rs.length (2 * rs.length) (fun i => .int .i64 (y i))) := hrt.here
  have HQ : Hid (¬ ArOk ws semi toh top cyc scan old copied serial y rs.length) := hok
  clear hs hrt hok
  go_enter Tryz.func50, Tryz.ntmps50
  go_wp2_with fail
  refine (specArenaOk_at _ _ _ _ _ _ _ _ _ _ _ _ _ _ y w.heap.size _ (HS.out.below (below_first (Below.refl _ _))) hn hw (HR.out.below (below_first (Below.refl _ _)) (Nat.le_refl _)) hn2).mono ?_
  rintro e w1 ⟨q1, rfl, hq, b1⟩
  obtain rfl : q1 = false := by
    cases q1 with
    | false => rfl
    | true => exact absurd (hq.1 rfl) HQ.out
  have k1 := one_cells b1 (by simp)
  have B1 := below_first b1
  have z1 := size_first b1
  clear b1 hq
  go_wp2
  refine bodyPost_ret (v := .tuple #[.int .i64 0, .bool false]) (by simp [results, Tryz.results50, go_sem]) rfl ⟨rfl, B1⟩
set_option maxHeartbeats 2000000 in
theorem specCompareText_w1 (aw : Option Addr) (cw : Nat) (ws : List Int) (semi toh top : Int) (cyc : Bool) (scan old copied serial : Int) (ar : Option Addr) (cr : Nat) (rs : List (Int × Int)) (r s : Int) (y : Nat → Int) (Tr : Nat) (w : World) (hs : Sl w (.slice aw ws.length cw) ws) (hn : ws.length ≤ 1048576) (hw : Words64 ws) (hrt : SlF Tr w (.slice ar rs.length cr) rs.length (2 * rs.length) (fun i => .int .i64 (y i))) (hn2 : rs.length ≤ 1048576) (hok : ArOk ws semi toh top cyc scan old copied serial y rs.length) (hr : isTx y rs.length r = false) :
    Calls Tryz.prog 50 #[.agg #[.slice aw ws.length cw, .int .i64 semi, .int .i64 toh, .int .i64 top, .bool cyc, .int .i64 scan, .int .i64 old, .int .i64 copied, .int .i64 serial, .slice ar rs.length cr], .int .i64 r, .int .i64 s] w fun e w' => e = .returned (.tuple #[.int .i64 0, .bool false]) ∧ Below w.heap.size w w' := by
  have HS : Hid (Sl w (.slice aw ws.length cw) ws) := hs
  have HR : Hid (SlF w.heap.size w (.slice ar rs.length cr) rs.length (2 * rs.length) (fun i => .int .i64 (y i))) := hrt.here
  have HQ : Hid (ArOk ws semi toh top cyc scan old copied serial y rs.length) := hok
  clear hs hrt hok
  go_enter Tryz.func50, Tryz.ntmps50
  go_wp2_with fail
  refine (specArenaOk_at _ _ _ _ _ _ _ _ _ _ _ _ _ _ y w.heap.size _ (HS.out.below (below_first (Below.refl _ _))) hn hw (HR.out.below (below_first (Below.refl _ _)) (Nat.le_refl _)) hn2).mono ?_
  rintro e w1 ⟨q1, rfl, hq, b1⟩
  obtain rfl := hq.2 HQ.out
  have k1 := one_cells b1 (by simp)
  have B1 := below_first b1
  have z1 := size_first b1
  clear b1 hq
  go_wp2_with fail
  refine (l5Is_at _ _ _ _ _ _ _ _ _ _ _ _ _ _ _ y w.heap.size _ (HR.out.below B1 (Nat.le_refl _)) hn2).mono ?_
  rintro e w2 ⟨rfl, b2⟩
  rw [hr]
  have k2 := has_below k1 b2 z1
  have B2 := below_next B1 b2
  have z2 := Nat.lt_of_lt_of_le z1 b2.size
  clear b2 k1 z1
  go_wp2
  refine bodyPost_ret (v := .tuple #[.int .i64 0, .bool false]) (by simp [results, Tryz.results50, go_sem]) rfl ⟨rfl, B2⟩
set_option maxHeartbeats 2000000 in
theorem specCompareText_w2 (aw : Option Addr) (cw : Nat) (ws : List Int) (semi toh top : Int) (cyc : Bool) (scan old copied serial : Int) (ar : Option Addr) (cr : Nat) (rs : List (Int × Int)) (r s : Int) (y : Nat → Int) (Tr : Nat) (w : World) (hs : Sl w (.slice aw ws.length cw) ws) (hn : ws.length ≤ 1048576) (hw : Words64 ws) (hrt : SlF Tr w (.slice ar rs.length cr) rs.length (2 * rs.length) (fun i => .int .i64 (y i))) (hn2 : rs.length ≤ 1048576) (hok : ArOk ws semi toh top cyc scan old copied serial y rs.length) (hr : isTx y rs.length r = true) (hs2 : isTx y rs.length s = false) :
    Calls Tryz.prog 50 #[.agg #[.slice aw ws.length cw, .int .i64 semi, .int .i64 toh, .int .i64 top, .bool cyc, .int .i64 scan, .int .i64 old, .int .i64 copied, .int .i64 serial, .slice ar rs.length cr], .int .i64 r, .int .i64 s] w fun e w' => e = .returned (.tuple #[.int .i64 0, .bool false]) ∧ Below w.heap.size w w' := by
  have HS : Hid (Sl w (.slice aw ws.length cw) ws) := hs
  have HR : Hid (SlF w.heap.size w (.slice ar rs.length cr) rs.length (2 * rs.length) (fun i => .int .i64 (y i))) := hrt.here
  have HQ : Hid (ArOk ws semi toh top cyc scan old copied serial y rs.length) := hok
  clear hs hrt hok
  go_enter Tryz.func50, Tryz.ntmps50
  go_wp2_with fail
  refine (specArenaOk_at _ _ _ _ _ _ _ _ _ _ _ _ _ _ y w.heap.size _ (HS.out.below (below_first (Below.refl _ _))) hn hw (HR.out.below (below_first (Below.refl _ _)) (Nat.le_refl _)) hn2).mono ?_
  rintro e w1 ⟨q1, rfl, hq, b1⟩
  obtain rfl := hq.2 HQ.out
  have k1 := one_cells b1 (by simp)
  have B1 := below_first b1
  have z1 := size_first b1
  clear b1 hq
  go_wp2_with fail
  refine (l5Is_at _ _ _ _ _ _ _ _ _ _ _ _ _ _ _ y w.heap.size _ (HR.out.below B1 (Nat.le_refl _)) hn2).mono ?_
  rintro e w2 ⟨rfl, b2⟩
  rw [hr]
  have k2 := has_below k1 b2 z1
  have B2 := below_next B1 b2
  have z2 := Nat.lt_of_lt_of_le z1 b2.size
  clear b2 k1 z1
  go_wp2_with fail
  refine (l5Is_at _ _ _ _ _ _ _ _ _ _ _ _ _ _ _ y w.heap.size _ (HR.out.below B2 (Nat.le_refl _)) hn2).mono ?_
  rintro e w3 ⟨rfl, b3⟩
  rw [hs2]
  have k3 := has_below k2 b3 z2
  have B3 := below_next B2 b3
  have z3 := Nat.lt_of_lt_of_le z2 b3.size
  clear b3 k2 z2
  go_wp2
  refine bodyPost_ret (v := .tuple #[.int .i64 0, .bool false]) (by simp [results, Tryz.results50, go_sem]) rfl ⟨rfl, B3⟩
set_option maxHeartbeats 2000000 in
theorem specCompareText_w3 (aw : Option Addr) (cw : Nat) (ws : List Int) (semi toh top : Int) (cyc : Bool) (scan old copied serial : Int) (ar : Option Addr) (cr : Nat) (rs : List (Int × Int)) (r p s q : Nat) (y : Nat → Int) (Tr : Nat) (w : World) (hs : Sl w (.slice aw ws.length cw) ws) (hn : ws.length ≤ 1048576) (hw : Words64 ws) (hrt : SlF Tr w (.slice ar rs.length cr) rs.length (2 * rs.length) (fun i => .int .i64 (y i))) (hn2 : rs.length ≤ 1048576) (hok : ArOk ws semi toh top cyc scan old copied serial y rs.length) (hr : r < rs.length) (ht : y (2 * r) = 3) (hp : y (2 * r + 1) = (p : Int)) (tp : TextIn ws p) (hs2 : s < rs.length) (ht2 : y (2 * s) = 3) (hp2 : y (2 * s + 1) = (q : Int)) (tq : TextIn ws q) :
    Calls Tryz.prog 50 #[.agg #[.slice aw ws.length cw, .int .i64 semi, .int .i64 toh, .int .i64 top, .bool cyc, .int .i64 scan, .int .i64 old, .int .i64 copied, .int .i64 serial, .slice ar rs.length cr], .int .i64 r, .int .i64 s] w fun e w' => e = .returned (.tuple #[.int .i64 (cmpT (txt ws p) (txt ws q)), .bool true]) ∧ Below w.heap.size w w' := by
  have HT1 : Hid (isTx y rs.length (r : Int) = true) := by show _ = _; simp [isTx, hasR, hr, ht]
  have HT2 : Hid (isTx y rs.length (s : Int) = true) := by show _ = _; simp [isTx, hasR, hs2, ht2]
  have HS : Hid (Sl w (.slice aw ws.length cw) ws) := hs
  have HR : Hid (SlF w.heap.size w (.slice ar rs.length cr) rs.length (2 * rs.length) (fun i => .int .i64 (y i))) := hrt.here
  have HQ : Hid (ArOk ws semi toh top cyc scan old copied serial y rs.length) := hok
  clear hs hrt hok
  have HPY : Hid (y (2 * r + 1) = (p : Int)) := hp
  have HTY : Hid (y (2 * r) = 3) := ht
  have HPT : Hid (TextIn ws p) := tp
  clear hp ht tp
  have HQY : Hid (y (2 * s + 1) = (q : Int)) := hp2
  have HTZ : Hid (y (2 * s) = 3) := ht2
  have HQT : Hid (TextIn ws q) := tq
  clear hp2 ht2 tq
  go_enter Tryz.func50, Tryz.ntmps50
  go_wp2_with fail
  refine (specArenaOk_at _ _ _ _ _ _ _ _ _ _ _ _ _ _ y w.heap.size _ (HS.out.below (below_first (Below.refl _ _))) hn hw (HR.out.below (below_first (Below.refl _ _)) (Nat.le_refl _)) hn2).mono ?_
  rintro e w1 ⟨q1, rfl, hq, b1⟩
  obtain rfl := hq.2 HQ.out
  have k1 := one_cells b1 (by simp)
  have B1 := below_first b1
  have z1 := size_first b1
  clear b1 hq
  go_wp2_with fail
  refine (l5Is_at _ _ _ _ _ _ _ _ _ _ _ _ _ _ _ y w.heap.size _ (HR.out.below B1 (Nat.le_refl _)) hn2).mono ?_
  rintro e w2 ⟨rfl, b2⟩
  rw [HT1.out]
  have k2 := has_below k1 b2 z1
  have B2 := below_next B1 b2
  have z2 := Nat.lt_of_lt_of_le z1 b2.size
  clear b2 k1 z1
  go_wp2_with fail
  refine (l5Is_at _ _ _ _ _ _ _ _ _ _ _ _ _ _ _ y w.heap.size _ (HR.out.below B2 (Nat.le_refl _)) hn2).mono ?_
  rintro e w3 ⟨rfl, b3⟩
  rw [HT2.out]
  have k3 := has_below k2 b3 z2
  have B3 := below_next B2 b3
  have z3 := Nat.lt_of_lt_of_le z2 b3.size
  clear b3 k2 z2
  obtain ⟨br, offr, cap', hv, _, lbr, hcr⟩ := HR.out.parts (k := 0) (by omega)
  simp only [Value.slice.injEq] at hv
  obtain ⟨rfl, _, rfl⟩ := hv
  have hir : (r : Int) < (rs.length : Int) := by omega
  have cu0 : ∀ V, Below w.heap.size w V → V.cell? ⟨br, offr + r * 2, none⟩ = some (.int .i64 3) := fun V hV => by rw [hV.cell (p := ⟨br, offr + r * 2, none⟩) lbr, Nat.mul_comm, ← HTY.out]; exact hcr (2 * r) (by omega)
  have cu1 : ∀ V, Below w.heap.size w V → V.cell? ⟨br, offr + r * 2 + 1, none⟩ = some (.int .i64 (p : Int)) := fun V hV => by rw [hV.cell (p := ⟨br, offr + r * 2 + 1, none⟩) lbr, Nat.mul_comm, ← HPY.out]; exact hcr (2 * r + 1) (by omega)
  have his : (s : Int) < (rs.length : Int) := by omega
  have cv0 : ∀ V, Below w.heap.size w V → V.cell? ⟨br, offr + s * 2, none⟩ = some (.int .i64 3) := fun V hV => by rw [hV.cell (p := ⟨br, offr + s * 2, none⟩) lbr, Nat.mul_comm, ← HTZ.out]; exact hcr (2 * s) (by omega)
  have cv1 : ∀ V, Below w.heap.size w V → V.cell? ⟨br, offr + s * 2 + 1, none⟩ = some (.int .i64 (q : Int)) := fun V hV => by rw [hV.cell (p := ⟨br, offr + s * 2 + 1, none⟩) lbr, Nat.mul_comm, ← HQY.out]; exact hcr (2 * s + 1) (by omega)
  have KP : ∀ V, Below w3.heap.size w3 V → (Below w3.heap.size w3 V ∧ (∀ i, V.cell? ⟨w.heap.size, i, none⟩ = (#[.slice aw ws.length cw, .int .i64 semi, .int .i64 toh, .int .i64 top, .bool cyc, .int .i64 scan, .int .i64 old, .int .i64 copied, .int .i64 serial, .slice (some ⟨br, offr, none⟩) rs.length cr] : Array Value)[i]?) ∧ V.cell? ⟨br, offr + r * 2, none⟩ = some (.int .i64 3) ∧ V.cell? ⟨br, offr + r * 2 + 1, none⟩ = some (.int .i64 (p : Int)) ∧ V.cell? ⟨br, offr + s * 2, none⟩ = some (.int .i64 3) ∧ V.cell? ⟨br, offr + s * 2 + 1, none⟩ = some (.int .i64 (q : Int))) := fun V hV => ⟨hV, has_below k3 hV z3, cu0 V (below_next B3 hV), cu1 V (below_next B3 hV), cv0 V (below_next B3 hV), cv1 V (below_next B3 hV)⟩
  have bd' := (Below.refl w3.heap.size w3).drew
  clear hcr cu0 cu1 cv0 cv1
  go_wp2_with fail
  go_region_held3 (fun V => Below w3.heap.size w3 V ∧ (∀ i, V.cell? ⟨w.heap.size, i, none⟩ = (#[.slice aw ws.length cw, .int .i64 semi, .int .i64 toh, .int .i64 top, .bool cyc, .int .i64 scan, .int .i64 old, .int .i64 copied, .int .i64 serial, .slice (some ⟨br, offr, none⟩) rs.length cr] : Array Value)[i]?) ∧ V.cell? ⟨br, offr + r * 2, none⟩ = some (.int .i64 3) ∧ V.cell? ⟨br, offr + r * 2 + 1, none⟩ = some (.int .i64 (p : Int)) ∧ V.cell? ⟨br, offr + s * 2, none⟩ = some (.int .i64 3) ∧ V.cell? ⟨br, offr + s * 2 + 1, none⟩ = some (.int .i64 (q : Int))) (first | assumption | exact KP _ bd' | exact KP _ (by assumption)) (first | (go_at_call_of 100 (p : Int); refine (l4Text_is _ _ _ _ _ _ _ _ _ _ _ _ _ _ _ p _ rfl (HS.out.below (below_next B3 (And.left (by assumption)))) hn hw HPT.out).mono ?_; rintro e wl ⟨rfl, bb⟩; have hBl := below_next (w := w3) (And.left (by assumption)) bb; clear bb) | (go_at_call_of 100 (q : Int); refine (l4Text_is _ _ _ _ _ _ _ _ _ _ _ _ _ _ _ q _ rfl (HS.out.below (below_next B3 (And.left (by assumption)))) hn hw HQT.out).mono ?_; rintro e wl ⟨rfl, bb⟩; have hBl := below_next (w := w3) (And.left (by assumption)) bb; clear bb))
  all_goals
    cases hless : Op.bytesLess (txt ws p).toList (txt ws q).toList with
    | true =>
      have hcm : cmpT (txt ws p) (txt ws q) = -1 := by simp [cmpT, hless]
      go_wp2
      refine bodyPost_ret (v := .tuple #[.int .i64 (-1), .bool true]) (by simp [results, Tryz.results50, go_sem]) rfl ⟨by rw [hcm], below_next B3 (by assumption)⟩
    | false =>
      cases heq : (txt ws p).toList == (txt ws q).toList with
      | true =>
        have hcm : cmpT (txt ws p) (txt ws q) = 0 := by simp only [cmpT, hless, heq]; rfl
        go_wp2
        refine bodyPost_ret (v := .tuple #[.int .i64 0, .bool true]) (by simp [results, Tryz.results50, go_sem]) rfl ⟨by rw [hcm], below_next B3 (by assumption)⟩
      | false =>
        have hcm : cmpT (txt ws p) (txt ws q) = 1 := by simp only [cmpT, hless, heq]; rfl
        go_wp2
        refine bodyPost_ret (v := .tuple #[.int .i64 1, .bool true]) (by simp [results, Tryz.results50, go_sem]) rfl ⟨by rw [hcm], below_next B3 (by assumption)⟩
set_option maxHeartbeats 2000000 in
theorem implCompareText_w0 (aw : Option Addr) (cw : Nat) (ws : List Int) (semi toh top : Int) (cyc : Bool) (scan old copied serial : Int) (ar : Option Addr) (cr : Nat) (rs : List (Int × Int)) (r s : Int) (y : Nat → Int) (Tr : Nat) (w : World) (hs : Sl w (.slice aw ws.length cw) ws) (hcw : ws.length ≤ cw) (hn : ws.length ≤ 1048576) (hw : Words64 ws) (hrt : SlF Tr w (.slice ar rs.length cr) rs.length (2 * rs.length) (fun i => .int .i64 (y i))) (hn2 : rs.length ≤ 1048576) (hok : ¬ ArOk ws semi toh top cyc scan old copied serial y rs.length) :
    Calls Tryz.prog 51 #[.agg #[.slice aw ws.length cw, .int .i64 semi, .int .i64 toh, .int .i64 top, .bool cyc, .int .i64 scan, .int .i64 old, .int .i64 copied, .int .i64 serial, .slice ar rs.length cr], .int .i64 r, .int .i64 s] w fun e w' => e = .returned (.tuple #[.int .i64 0, .bool false]) ∧ Below w.heap.size w w' := by
  have HS : Hid (Sl w (.slice aw ws.length cw) ws) := hs
  have HR : Hid (SlF w.heap.size w (.slice ar rs.length cr) rs.length (2 * rs.length) (fun i => .int .i64 (y i))) := hrt.here
  have HQ : Hid (¬ ArOk ws semi toh top cyc scan old copied serial y rs.length) := hok
  clear hs hrt hok
  go_enter Tryz.func51, Tryz.ntmps51
  go_wp2_with fail
  refine (implArenaOk_at _ _ _ _ _ _ _ _ _ _ _ _ _ _ y w.heap.size _ (HS.out.below (below_first (Below.refl _ _))) hcw hn hw (HR.out.below (below_first (Below.refl _ _)) (Nat.le_refl _)) hn2).mono ?_
  rintro e w1 ⟨q1, rfl, hq, b1⟩
  obtain rfl : q1 = false := by
    cases q1 with
    | false => rfl
    | true => exact absurd (hq.1 rfl) HQ.out
  have k1 := one_cells b1 (by simp)
  have B1 := below_first b1
  have z1 := size_first b1
  clear b1 hq
  go_wp2
  refine bodyPost_ret (v := .tuple #[.int .i64 0, .bool false]) (by simp [results, Tryz.results51, go_sem]) rfl ⟨rfl, B1⟩
set_option maxHeartbeats 2000000 in
theorem implCompareText_w1 (aw : Option Addr) (cw : Nat) (ws : List Int) (semi toh top : Int) (cyc : Bool) (scan old copied serial : Int) (ar : Option Addr) (cr : Nat) (rs : List (Int × Int)) (r s : Int) (y : Nat → Int) (Tr : Nat) (w : World) (hs : Sl w (.slice aw ws.length cw) ws) (hcw : ws.length ≤ cw) (hn : ws.length ≤ 1048576) (hw : Words64 ws) (hrt : SlF Tr w (.slice ar rs.length cr) rs.length (2 * rs.length) (fun i => .int .i64 (y i))) (hn2 : rs.length ≤ 1048576) (hok : ArOk ws semi toh top cyc scan old copied serial y rs.length) (hr : isTx y rs.length r = false) :
    Calls Tryz.prog 51 #[.agg #[.slice aw ws.length cw, .int .i64 semi, .int .i64 toh, .int .i64 top, .bool cyc, .int .i64 scan, .int .i64 old, .int .i64 copied, .int .i64 serial, .slice ar rs.length cr], .int .i64 r, .int .i64 s] w fun e w' => e = .returned (.tuple #[.int .i64 0, .bool false]) ∧ Below w.heap.size w w' := by
  have HS : Hid (Sl w (.slice aw ws.length cw) ws) := hs
  have HR : Hid (SlF w.heap.size w (.slice ar rs.length cr) rs.length (2 * rs.length) (fun i => .int .i64 (y i))) := hrt.here
  have HQ : Hid (ArOk ws semi toh top cyc scan old copied serial y rs.length) := hok
  clear hs hrt hok
  go_enter Tryz.func51, Tryz.ntmps51
  go_wp2_with fail
  refine (implArenaOk_at _ _ _ _ _ _ _ _ _ _ _ _ _ _ y w.heap.size _ (HS.out.below (below_first (Below.refl _ _))) hcw hn hw (HR.out.below (below_first (Below.refl _ _)) (Nat.le_refl _)) hn2).mono ?_
  rintro e w1 ⟨q1, rfl, hq, b1⟩
  obtain rfl := hq.2 HQ.out
  have k1 := one_cells b1 (by simp)
  have B1 := below_first b1
  have z1 := size_first b1
  clear b1 hq
  go_wp2_with fail
  refine (isText_at _ _ _ _ _ _ _ _ _ _ _ _ _ _ _ y w.heap.size _ (HR.out.below B1 (Nat.le_refl _)) hn2).mono ?_
  rintro e w2 ⟨rfl, b2⟩
  rw [hr]
  have k2 := has_below k1 b2 z1
  have B2 := below_next B1 b2
  have z2 := Nat.lt_of_lt_of_le z1 b2.size
  clear b2 k1 z1
  go_wp2
  refine bodyPost_ret (v := .tuple #[.int .i64 0, .bool false]) (by simp [results, Tryz.results51, go_sem]) rfl ⟨rfl, B2⟩
set_option maxHeartbeats 2000000 in
theorem implCompareText_w2 (aw : Option Addr) (cw : Nat) (ws : List Int) (semi toh top : Int) (cyc : Bool) (scan old copied serial : Int) (ar : Option Addr) (cr : Nat) (rs : List (Int × Int)) (r s : Int) (y : Nat → Int) (Tr : Nat) (w : World) (hs : Sl w (.slice aw ws.length cw) ws) (hcw : ws.length ≤ cw) (hn : ws.length ≤ 1048576) (hw : Words64 ws) (hrt : SlF Tr w (.slice ar rs.length cr) rs.length (2 * rs.length) (fun i => .int .i64 (y i))) (hn2 : rs.length ≤ 1048576) (hok : ArOk ws semi toh top cyc scan old copied serial y rs.length) (hr : isTx y rs.length r = true) (hs2 : isTx y rs.length s = false) :
    Calls Tryz.prog 51 #[.agg #[.slice aw ws.length cw, .int .i64 semi, .int .i64 toh, .int .i64 top, .bool cyc, .int .i64 scan, .int .i64 old, .int .i64 copied, .int .i64 serial, .slice ar rs.length cr], .int .i64 r, .int .i64 s] w fun e w' => e = .returned (.tuple #[.int .i64 0, .bool false]) ∧ Below w.heap.size w w' := by
  have HS : Hid (Sl w (.slice aw ws.length cw) ws) := hs
  have HR : Hid (SlF w.heap.size w (.slice ar rs.length cr) rs.length (2 * rs.length) (fun i => .int .i64 (y i))) := hrt.here
  have HQ : Hid (ArOk ws semi toh top cyc scan old copied serial y rs.length) := hok
  clear hs hrt hok
  go_enter Tryz.func51, Tryz.ntmps51
  go_wp2_with fail
  refine (implArenaOk_at _ _ _ _ _ _ _ _ _ _ _ _ _ _ y w.heap.size _ (HS.out.below (below_first (Below.refl _ _))) hcw hn hw (HR.out.below (below_first (Below.refl _ _)) (Nat.le_refl _)) hn2).mono ?_
  rintro e w1 ⟨q1, rfl, hq, b1⟩
  obtain rfl := hq.2 HQ.out
  have k1 := one_cells b1 (by simp)
  have B1 := below_first b1
  have z1 := size_first b1
  clear b1 hq
  go_wp2_with fail
  refine (isText_at _ _ _ _ _ _ _ _ _ _ _ _ _ _ _ y w.heap.size _ (HR.out.below B1 (Nat.le_refl _)) hn2).mono ?_
  rintro e w2 ⟨rfl, b2⟩
  rw [hr]
  have k2 := has_below k1 b2 z1
  have B2 := below_next B1 b2
  have z2 := Nat.lt_of_lt_of_le z1 b2.size
  clear b2 k1 z1
  go_wp2_with fail
  refine (isText_at _ _ _ _ _ _ _ _ _ _ _ _ _ _ _ y w.heap.size _ (HR.out.below B2 (Nat.le_refl _)) hn2).mono ?_
  rintro e w3 ⟨rfl, b3⟩
  rw [hs2]
  have k3 := has_below k2 b3 z2
  have B3 := below_next B2 b3
  have z3 := Nat.lt_of_lt_of_le z2 b3.size
  clear b3 k2 z2
  go_wp2
  refine bodyPost_ret (v := .tuple #[.int .i64 0, .bool false]) (by simp [results, Tryz.results51, go_sem]) rfl ⟨rfl, B3⟩
set_option maxHeartbeats 2000000 in
theorem implCompareText_w3 (aw : Option Addr) (cw : Nat) (ws : List Int) (semi toh top : Int) (cyc : Bool) (scan old copied serial : Int) (ar : Option Addr) (cr : Nat) (rs : List (Int × Int)) (r p s q : Nat) (y : Nat → Int) (Tr : Nat) (w : World) (hs : Sl w (.slice aw ws.length cw) ws) (hcw : ws.length ≤ cw) (hn : ws.length ≤ 1048576) (hw : Words64 ws) (hrt : SlF Tr w (.slice ar rs.length cr) rs.length (2 * rs.length) (fun i => .int .i64 (y i))) (hn2 : rs.length ≤ 1048576) (hok : ArOk ws semi toh top cyc scan old copied serial y rs.length) (hr : r < rs.length) (ht : y (2 * r) = 3) (hp : y (2 * r + 1) = (p : Int)) (tp : TextIn ws p) (hs2 : s < rs.length) (ht2 : y (2 * s) = 3) (hp2 : y (2 * s + 1) = (q : Int)) (tq : TextIn ws q) :
    Calls Tryz.prog 51 #[.agg #[.slice aw ws.length cw, .int .i64 semi, .int .i64 toh, .int .i64 top, .bool cyc, .int .i64 scan, .int .i64 old, .int .i64 copied, .int .i64 serial, .slice ar rs.length cr], .int .i64 r, .int .i64 s] w fun e w' => e = .returned (.tuple #[.int .i64 (cmpT (txt ws p) (txt ws q)), .bool true]) ∧ Below w.heap.size w w' := by
  have HT1 : Hid (isTx y rs.length (r : Int) = true) := by show _ = _; simp [isTx, hasR, hr, ht]
  have HT2 : Hid (isTx y rs.length (s : Int) = true) := by show _ = _; simp [isTx, hasR, hs2, ht2]
  have HS : Hid (Sl w (.slice aw ws.length cw) ws) := hs
  have HR : Hid (SlF w.heap.size w (.slice ar rs.length cr) rs.length (2 * rs.length) (fun i => .int .i64 (y i))) := hrt.here
  have HQ : Hid (ArOk ws semi toh top cyc scan old copied serial y rs.length) := hok
  clear hs hrt hok
  have HPY : Hid (y (2 * r + 1) = (p : Int)) := hp
  have HTY : Hid (y (2 * r) = 3) := ht
  have HPT : Hid (TextIn ws p) := tp
  clear hp ht tp
  have HQY : Hid (y (2 * s + 1) = (q : Int)) := hp2
  have HTZ : Hid (y (2 * s) = 3) := ht2
  have HQT : Hid (TextIn ws q) := tq
  clear hp2 ht2 tq
  go_enter Tryz.func51, Tryz.ntmps51
  go_wp2_with fail
  refine (implArenaOk_at _ _ _ _ _ _ _ _ _ _ _ _ _ _ y w.heap.size _ (HS.out.below (below_first (Below.refl _ _))) hcw hn hw (HR.out.below (below_first (Below.refl _ _)) (Nat.le_refl _)) hn2).mono ?_
  rintro e w1 ⟨q1, rfl, hq, b1⟩
  obtain rfl := hq.2 HQ.out
  have k1 := one_cells b1 (by simp)
  have B1 := below_first b1
  have z1 := size_first b1
  clear b1 hq
  go_wp2_with fail
  refine (isText_at _ _ _ _ _ _ _ _ _ _ _ _ _ _ _ y w.heap.size _ (HR.out.below B1 (Nat.le_refl _)) hn2).mono ?_
  rintro e w2 ⟨rfl, b2⟩
  rw [HT1.out]
  have k2 := has_below k1 b2 z1
  have B2 := below_next B1 b2
  have z2 := Nat.lt_of_lt_of_le z1 b2.size
  clear b2 k1 z1
  go_wp2_with fail
  refine (isText_at _ _ _ _ _ _ _ _ _ _ _ _ _ _ _ y w.heap.size _ (HR.out.below B2 (Nat.le_refl _)) hn2).mono ?_
  rintro e w3 ⟨rfl, b3⟩
  rw [HT2.out]
  have k3 := has_below k2 b3 z2
  have B3 := below_next B2 b3
  have z3 := Nat.lt_of_lt_of_le z2 b3.size
  clear b3 k2 z2
  have KP : ∀ V, Below w3.heap.size w3 V → (Below w3.heap.size w3 V ∧ (∀ i, V.cell? ⟨w.heap.size, i, none⟩ = (#[.slice aw ws.length cw, .int .i64 semi, .int .i64 toh, .int .i64 top, .bool cyc, .int .i64 scan, .int .i64 old, .int .i64 copied, .int .i64 serial, .slice ar rs.length cr] : Array Value)[i]?)) := fun V hV => ⟨hV, has_below k3 hV z3⟩
  have bd' := (Below.refl w3.heap.size w3).drew
  go_wp2_with fail
  go_region_held3 (fun V => Below w3.heap.size w3 V ∧ (∀ i, V.cell? ⟨w.heap.size, i, none⟩ = (#[.slice aw ws.length cw, .int .i64 semi, .int .i64 toh, .int .i64 top, .bool cyc, .int .i64 scan, .int .i64 old, .int .i64 copied, .int .i64 serial, .slice ar rs.length cr] : Array Value)[i]?)) (first | assumption | exact KP _ bd' | exact KP _ (by assumption)) (first | (go_at_call_of 102 (r : Int); refine (textOf_at _ _ _ _ _ _ _ _ _ _ _ _ _ _ r p y w.heap.size _ (HS.out.below (below_next B3 (And.left (by assumption)))) hn hw (HR.out.below (below_next B3 (And.left (by assumption))) (Nat.le_refl _)) hn2 hr HTY.out HPY.out HPT.out).mono ?_; rintro e wl ⟨rfl, bb⟩; have hBl := below_next (w := w3) (And.left (by assumption)) bb; clear bb) | (go_at_call_of 102 (s : Int); refine (textOf_at _ _ _ _ _ _ _ _ _ _ _ _ _ _ s q y w.heap.size _ (HS.out.below (below_next B3 (And.left (by assumption)))) hn hw (HR.out.below (below_next B3 (And.left (by assumption))) (Nat.le_refl _)) hn2 hs2 HTZ.out HQY.out HQT.out).mono ?_; rintro e wl ⟨rfl, bb⟩; have hBl := below_next (w := w3) (And.left (by assumption)) bb; clear bb) | (go_at_call 103; refine (compare_at _ _ _).mono ?_; rintro e wl ⟨rfl, rfl⟩))
  all_goals
    go_wp2
    refine bodyPost_ret (v := .tuple #[.int .i64 (cmpT (txt ws p) (txt ws q)), .bool true]) (by simp [results, Tryz.results51, go_sem]) rfl ⟨rfl, below_next B3 (by assumption)⟩
end Go.Proofs.YtaapiedminakcaaGreat

/- The law FnExactCompareText, walked. -/
namespace Go.Proofs.YtaapiedminakcaaGreat
set_option maxRecDepth 20000
open Go.RowKit
set_option linter.unusedSimpArgs false
set_option linter.unusedVariables false

set_option maxHeartbeats 2000000 in
theorem fnExactCompareText_by (aw : Option Addr) (cw : Nat) (ws : List Int) (semi toh top : Int) (cyc : Bool) (scan old copied serial : Int) (ar : Option Addr) (cr : Nat) (rs : List (Int × Int)) (r s : Int) (y : Nat → Int) (Tr : Nat) (w : World) (ans : Int) (q : Bool) (hs : Sl w (.slice aw ws.length cw) ws) (hrt : SlF Tr w (.slice ar rs.length cr) rs.length (2 * rs.length) (fun i => .int .i64 (y i))) (hl1 : ws.length ≤ 9223372036854775807) (hl2 : rs.length ≤ 9223372036854775807)
    (hspec : ws.length ≤ 1048576 → rs.length ≤ 1048576 → ∀ (aw : Option Addr) (cw : Nat) (ar : Option Addr) (cr : Nat) (W : World) (T : Nat), Sl W (.slice aw ws.length cw) ws → SlF T W (.slice ar rs.length cr) rs.length (2 * rs.length) (fun i => .int .i64 (y i)) → Calls Tryz.prog 50 #[.agg #[.slice aw ws.length cw, .int .i64 semi, .int .i64 toh, .int .i64 top, .bool cyc, .int .i64 scan, .int .i64 old, .int .i64 copied, .int .i64 serial, .slice ar rs.length cr], .int .i64 r, .int .i64 s] W fun e w' => e = .returned (.tuple #[.int .i64 ans, .bool q]) ∧ Below W.heap.size W w')
    (himpl : ws.length ≤ 1048576 → rs.length ≤ 1048576 → ∀ (aw : Option Addr) (cw : Nat) (ar : Option Addr) (cr : Nat) (W : World) (T : Nat), Sl W (.slice aw ws.length cw) ws → ws.length ≤ cw → SlF T W (.slice ar rs.length cr) rs.length (2 * rs.length) (fun i => .int .i64 (y i)) → Calls Tryz.prog 51 #[.agg #[.slice aw ws.length cw, .int .i64 semi, .int .i64 toh, .int .i64 top, .bool cyc, .int .i64 scan, .int .i64 old, .int .i64 copied, .int .i64 serial, .slice ar rs.length cr], .int .i64 r, .int .i64 s] W fun e w' => e = .returned (.tuple #[.int .i64 ans, .bool q]) ∧ Below W.heap.size W w') :
    Calls Tryz.prog 13 #[.agg #[.slice aw ws.length cw, .int .i64 semi, .int .i64 toh, .int .i64 top, .bool cyc, .int .i64 scan, .int .i64 old, .int .i64 copied, .int .i64 serial, .slice ar rs.length cr], .int .i64 r, .int .i64 s] w fun e w' => e = .returned (.bool true) ∧ Below w.heap.size w w' := by
  by_cases h : (ws.length : Int) + rs.length ≤ 1048576
  · have hn : ws.length ≤ 1048576 := by omega
    have hn2 : rs.length ≤ 1048576 := by omega
    have h0 : ¬ (1048576 - (ws.length : Int) - rs.length) < 0 := by omega
    have HSZ : ∀ W, _ := fun W => szArena_any aw ws.length cw semi toh top cyc scan old copied serial ar rs.length cr W hl1 hl2
    rw [if_pos h] at HSZ
    have HTA : Hid (∀ W, Below w.heap.size w W → _) := fun W (hW : Below w.heap.size w W) => toArena_at aw cw ws semi toh top cyc scan old copied serial ar cr rs y w.heap.size W (hs.below hW) hn (hrt.here.below hW (Nat.le_refl _)) hn2
    have HSP : Hid _ := hspec hn hn2
    have HIM : Hid _ := himpl hn hn2
    clear hs hrt h hl1 hl2 hspec himpl
    go_enter Tryz.func13, Tryz.ntmps13
    go_wp2_with fail
    refine (HSZ _).mono ?_
    rintro e w1 ⟨rfl, b1⟩
    have B1 := below_first b1
    have k1 := one_cells b1 (by simp)
    have z1 := size_first b1
    clear b1
    go_wp2_with fail
    refine (HTA.out _ B1).mono ?_
    rintro e w2 ⟨x1, x2, rfl, s2, r2, b2⟩
    have B2 := below_next B1 b2
    have k2 := has_below k1 b2 z1
    have z2 := Nat.lt_of_lt_of_le z1 b2.size
    clear b2 k1
    go_wp2_with fail
    refine (HSP.out (some ⟨x1, 0, none⟩) ws.length (some ⟨x2, 0, none⟩) rs.length _ _ s2 r2).mono ?_
    rintro e w3 ⟨rfl, b3⟩
    have B3 := below_next B2 b3
    have k3 := has_below k2 b3 z2
    have z3 := Nat.lt_of_lt_of_le z2 b3.size
    clear b3 k2 s2 r2
    go_wp2_with fail
    refine (HTA.out _ B3).mono ?_
    rintro e w4 ⟨x3, x4, rfl, s4, r4, b4⟩
    have B4 := below_next B3 b4
    have k4 := has_below k3 b4 z3
    have z4 := Nat.lt_of_lt_of_le z3 b4.size
    clear b4 k3
    have A4 := s4.below ((Below.refl w4.heap.size w4).alloc (Nat.le_refl _) (.cells #[.slice (some ⟨x3, 0, none⟩) ws.length ws.length, .int .i64 semi, .int .i64 toh, .int .i64 top, .bool cyc, .int .i64 scan, .int .i64 old, .int .i64 copied, .int .i64 serial, .slice (some ⟨x4, 0, none⟩) rs.length rs.length] 30))
    have R4 := r4.below ((Below.refl w4.heap.size w4).alloc (Nat.le_refl _) (.cells #[.slice (some ⟨x3, 0, none⟩) ws.length ws.length, .int .i64 semi, .int .i64 toh, .int .i64 top, .bool cyc, .int .i64 scan, .int .i64 old, .int .i64 copied, .int .i64 serial, .slice (some ⟨x4, 0, none⟩) rs.length rs.length] 30)) (Nat.le_refl _)
    go_wp2_with fail
    refine (HIM.out (some ⟨x3, 0, none⟩) ws.length (some ⟨x4, 0, none⟩) rs.length _ _ A4 (Nat.le_refl _) R4).mono ?_
    rintro e w5 ⟨rfl, b5⟩
    have B5 := below_next (below_box B4) b5
    have k5 := has_below (has_below k4 ((Below.refl w4.heap.size w4).alloc (Nat.le_refl _) _) z4) b5 (by simp; omega)
    have p5 := one_cells b5 (by simp)
    have z5 := size_first b5
    have S5 := A4.below b5
    have R5 := R4.below b5 (by simp)
    clear A4 R4 s4 r4 k4 b5
    have F5 := sl_f S5
    have R5' := R5.here
    go_wp2_with fail
    have KP : ∀ V, Below w5.heap.size w5 V → (Below w5.heap.size w5 V ∧ (∀ i, V.cell? ⟨w.heap.size, i, none⟩ = (#[.slice aw ws.length cw, .int .i64 semi, .int .i64 toh, .int .i64 top, .bool cyc, .int .i64 scan, .int .i64 old, .int .i64 copied, .int .i64 serial, .slice ar rs.length cr] : Array Value)[i]?) ∧ (∀ i, V.cell? ⟨w4.heap.size, i, none⟩ = (#[.slice (some ⟨x3, 0, none⟩) ws.length ws.length, .int .i64 semi, .int .i64 toh, .int .i64 top, .bool cyc, .int .i64 scan, .int .i64 old, .int .i64 copied, .int .i64 serial, .slice (some ⟨x4, 0, none⟩) rs.length rs.length] : Array Value)[i]?)) := fun V hV => ⟨hV, has_below k5 hV (by omega), has_below p5 hV z5⟩
    have b5' := (Below.refl w5.heap.size w5).drew
    clear k5 p5 S5 R5 HSZ HSP HIM
    go_region_held3 (fun V => Below w5.heap.size w5 V ∧ (∀ i, V.cell? ⟨w.heap.size, i, none⟩ = (#[.slice aw ws.length cw, .int .i64 semi, .int .i64 toh, .int .i64 top, .bool cyc, .int .i64 scan, .int .i64 old, .int .i64 copied, .int .i64 serial, .slice ar rs.length cr] : Array Value)[i]?) ∧ (∀ i, V.cell? ⟨w4.heap.size, i, none⟩ = (#[.slice (some ⟨x3, 0, none⟩) ws.length ws.length, .int .i64 semi, .int .i64 toh, .int .i64 top, .bool cyc, .int .i64 scan, .int .i64 old, .int .i64 copied, .int .i64 serial, .slice (some ⟨x4, 0, none⟩) rs.length rs.length] : Array Value)[i]?)) (first | assumption | exact KP _ b5' | exact KP _ (by assumption)) (first | (go_at_call 22; refine (HTA.out _ (below_next B5 (And.left (by assumption)))).mono ?_; rintro e w6 ⟨x5, x6, rfl, s6, r6, bb⟩; have hB6 := below_next (w := w5) (And.left (by assumption)) bb; clear bb) | (go_at_call 24; refine (eqArena_same _ _ _ _ _ _ _ _ ws.length rs.length (wordAt ws) y _ _ _ _ _ _ _ _ _ (F5.below hB6 (Nat.le_refl _)) (sl_f s6) hn (R5'.below hB6 (Nat.le_refl _)) r6 hn2).mono ?_; rintro e w7 ⟨rfl, bb⟩; have hB7 := below_next (w := w5) hB6 bb; clear bb))
    all_goals
      go_wp2
      go_ret
      exact ⟨rfl, below_next B5 hB7⟩
  · have HSZ : ∀ W, _ := fun W => szArena_any aw ws.length cw semi toh top cyc scan old copied serial ar rs.length cr W hl1 hl2
    rw [if_neg h] at HSZ
    clear hs hrt h hspec himpl
    go_enter Tryz.func13, Tryz.ntmps13
    go_wp2_with (go_at_call 20; refine (HSZ _).mono ?_; rintro e w1 ⟨rfl, b1⟩)
    go_ret
    exact ⟨rfl, below_first b1⟩

end Go.Proofs.YtaapiedminakcaaGreat
